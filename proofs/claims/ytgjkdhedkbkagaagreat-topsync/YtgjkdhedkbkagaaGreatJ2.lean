/- slices.Concat of two lists: new memory with the cells of the one, then of the other. -/
import Derived.Test.YtgjkdhedkbkagaaGreatJ1
namespace Go.Proofs.YtgjkdhedkbkagaaGreat
open Go.RowKit
set_option maxRecDepth 100000
theorem cellB_later {w w' : World} {b o : Nat} {v : Value} (hb : Below w.heap.size w w') (h : w.cell? ⟨b, o, none⟩ = some v) : w'.cell? ⟨b, o, none⟩ = some v := cellA_later hb h

set_option maxHeartbeats 1000000 in
theorem concatR_any (g o : Nat) (a1 a2 : Option Addr) (n1 n2 c1 c2 : Nat) (xs1 xs2 : List Value) (w : World) (h0 : w.cell? ⟨g, o, none⟩ = some (.slice a1 n1 c1)) (h1 : w.cell? ⟨g, o + 1, none⟩ = some (.slice a2 n2 c2))
    (r1 : RowAt w 6 a1 n1 c1 xs1) (r2 : RowAt w 6 a2 n2 c2 xs2) (b1 : n1 ≤ 100000) (b2 : n2 ≤ 100000) :
    Calls Tryz.prog 68 #[.slice (some ⟨g, o, none⟩) 2 2] w fun e w' => ∃ v, e = .returned v ∧ w'.ownsRow w.heap.size 44 6 v (n1 + n2) (xs1 ++ xs2) ∧ Below w.heap.size w w' := by
  obtain ⟨i, hi, hz0, hz1, hz2⟩ := pluck infoR
  have hl0 := lt_of_cellA h0
  go_enter Tryz.func68, Tryz.ntmps68
  go_wp2
  go_loopw [3, 11] (fun sz ix wr => w = wr ∧ ((ix = .int .i64 0 ∧ sz = .int .i64 0) ∨ (ix = .int .i64 1 ∧ sz = .int .i64 (n1 : Int)) ∨ (ix = .int .i64 2 ∧ sz = .int .i64 ((n1 : Int) + (n2 : Int))))) (fun _ ix _ => (2 - intOf ix).toNat)
  case atStart => exact ⟨rfl, Or.inl ⟨rfl, rfl⟩⟩
  case round =>
    obtain ⟨rfl, ⟨rfl, rfl⟩ | ⟨rfl, rfl⟩ | ⟨rfl, rfl⟩⟩ := hrel
    · go_wp2
      go_roundw
      case rel => simp
      case measure => simp [intOf]
    · go_wp2
      go_roundw
      case rel => simp
      case measure => simp [intOf]
    · go_wp2_with fail
      rw [show ((n1 : Int) + (n2 : Int)) = ((n1 + n2 : Nat) : Int) by omega]
      refine (growR_any (n1 + n2) _ (by omega)).mono ?_
      rintro e w1 ⟨v, rfl, hown, HB⟩
      go_wp2_with fail
      go_loopw [6, 27] (fun nv ix w2 => Below w.heap.size w w2 ∧ ((ix = .int .i64 0 ∧ w2.ownsRow w.heap.size 44 6 nv 0 []) ∨ (ix = .int .i64 1 ∧ w2.ownsRow w.heap.size 44 6 nv n1 xs1) ∨ (ix = .int .i64 2 ∧ w2.ownsRow w.heap.size 44 6 nv (n1 + n2) (xs1 ++ xs2)))) (fun _ ix _ => (2 - intOf ix).toNat)
      case atStart => exact ⟨HB, Or.inl ⟨rfl, hown⟩⟩
      case round =>
        clear HB hown
        obtain ⟨HB, ⟨rfl, hown⟩ | ⟨rfl, hown⟩ | ⟨rfl, hown⟩⟩ := hrel
        · have k0 := cellB_later HB h0
          have q1 := r1.later HB
          go_wp2_with (at_builtin; refine wpList_append_row rfl _ _ 35 rfl w.heap.size 44 i (.agg #[.bool false, .int .i64 0, .int .i64 0, .slice none 0 0, .slice none 0 0, .int .i64 0]) 6 80 Tryz.underlying35 hi hz0 hz1 hz2 rfl (by decide) _ _ _ rfl hown a1 n1 c1 xs1 rfl q1 (by unfold maxLen; omega) (by omega) HB.size ?_; intro v' w3 hown' HB')
          go_roundw
          case rel => exact ⟨HB.trans HB', Or.inr (Or.inl ⟨rfl, by simpa using hown'⟩)⟩
          case measure => simp [intOf]
        · have k0 := cellB_later HB h1
          have q1 := r2.later HB
          go_wp2_with (at_builtin; refine wpList_append_row rfl _ _ 35 rfl w.heap.size 44 i (.agg #[.bool false, .int .i64 0, .int .i64 0, .slice none 0 0, .slice none 0 0, .int .i64 0]) 6 80 Tryz.underlying35 hi hz0 hz1 hz2 rfl (by decide) _ _ _ rfl hown a2 n2 c2 xs2 rfl q1 (by unfold maxLen; omega) (by omega) HB.size ?_; intro v' w3 hown' HB')
          go_roundw
          case rel => exact ⟨HB.trans HB', Or.inr (Or.inr ⟨rfl, hown'⟩)⟩
          case measure => simp [intOf]
        · go_wp2
          go_ret
          exact ⟨_, rfl, hown, HB⟩

set_option maxHeartbeats 1000000 in
theorem concatS_any (g o : Nat) (a1 a2 : Option Addr) (n1 n2 c1 c2 : Nat) (xs1 xs2 : List Value) (w : World) (h0 : w.cell? ⟨g, o, none⟩ = some (.slice a1 n1 c1)) (h1 : w.cell? ⟨g, o + 1, none⟩ = some (.slice a2 n2 c2))
    (r1 : RowAt w 1 a1 n1 c1 xs1) (r2 : RowAt w 1 a2 n2 c2 xs2) (b1 : n1 ≤ 100000) (b2 : n2 ≤ 100000) :
    Calls Tryz.prog 116 #[.slice (some ⟨g, o, none⟩) 2 2] w fun e w' => ∃ v, e = .returned v ∧ w'.ownsRow w.heap.size 9 1 v (n1 + n2) (xs1 ++ xs2) ∧ Below w.heap.size w w' := by
  obtain ⟨i, hi, hz0, hz1, hz2⟩ := pluck infoS
  have hl0 := lt_of_cellA h0
  go_enter Tryz.func116, Tryz.ntmps116
  go_wp2
  go_loopw [3, 11] (fun sz ix wr => w = wr ∧ ((ix = .int .i64 0 ∧ sz = .int .i64 0) ∨ (ix = .int .i64 1 ∧ sz = .int .i64 (n1 : Int)) ∨ (ix = .int .i64 2 ∧ sz = .int .i64 ((n1 : Int) + (n2 : Int))))) (fun _ ix _ => (2 - intOf ix).toNat)
  case atStart => exact ⟨rfl, Or.inl ⟨rfl, rfl⟩⟩
  case round =>
    obtain ⟨rfl, ⟨rfl, rfl⟩ | ⟨rfl, rfl⟩ | ⟨rfl, rfl⟩⟩ := hrel
    · go_wp2
      go_roundw
      case rel => simp
      case measure => simp [intOf]
    · go_wp2
      go_roundw
      case rel => simp
      case measure => simp [intOf]
    · go_wp2_with fail
      rw [show ((n1 : Int) + (n2 : Int)) = ((n1 + n2 : Nat) : Int) by omega]
      refine (growS_any (n1 + n2) _ (by omega)).mono ?_
      rintro e w1 ⟨v, rfl, hown, HB⟩
      go_wp2_with fail
      go_loopw [6, 27] (fun nv ix w2 => Below w.heap.size w w2 ∧ ((ix = .int .i64 0 ∧ w2.ownsRow w.heap.size 9 1 nv 0 []) ∨ (ix = .int .i64 1 ∧ w2.ownsRow w.heap.size 9 1 nv n1 xs1) ∨ (ix = .int .i64 2 ∧ w2.ownsRow w.heap.size 9 1 nv (n1 + n2) (xs1 ++ xs2)))) (fun _ ix _ => (2 - intOf ix).toNat)
      case atStart => exact ⟨HB, Or.inl ⟨rfl, hown⟩⟩
      case round =>
        clear HB hown
        obtain ⟨HB, ⟨rfl, hown⟩ | ⟨rfl, hown⟩ | ⟨rfl, hown⟩⟩ := hrel
        · have k0 := cellB_later HB h0
          have q1 := r1.later HB
          go_wp2_with (at_builtin; refine wpList_append_row rfl _ _ 41 rfl w.heap.size 9 i (.string ByteArray.empty) 1 16 Tryz.underlying41 hi hz0 hz1 hz2 rfl (by decide) _ _ _ rfl hown a1 n1 c1 xs1 rfl q1 (by unfold maxLen; omega) (by omega) HB.size ?_; intro v' w3 hown' HB')
          go_roundw
          case rel => exact ⟨HB.trans HB', Or.inr (Or.inl ⟨rfl, by simpa using hown'⟩)⟩
          case measure => simp [intOf]
        · have k0 := cellB_later HB h1
          have q1 := r2.later HB
          go_wp2_with (at_builtin; refine wpList_append_row rfl _ _ 41 rfl w.heap.size 9 i (.string ByteArray.empty) 1 16 Tryz.underlying41 hi hz0 hz1 hz2 rfl (by decide) _ _ _ rfl hown a2 n2 c2 xs2 rfl q1 (by unfold maxLen; omega) (by omega) HB.size ?_; intro v' w3 hown' HB')
          go_roundw
          case rel => exact ⟨HB.trans HB', Or.inr (Or.inr ⟨rfl, hown'⟩)⟩
          case measure => simp [intOf]
        · go_wp2
          go_ret
          exact ⟨_, rfl, hown, HB⟩

set_option maxHeartbeats 1000000 in
theorem concatI_any (g o : Nat) (a1 a2 : Option Addr) (n1 n2 c1 c2 : Nat) (xs1 xs2 : List Value) (w : World) (h0 : w.cell? ⟨g, o, none⟩ = some (.slice a1 n1 c1)) (h1 : w.cell? ⟨g, o + 1, none⟩ = some (.slice a2 n2 c2))
    (r1 : RowAt w 1 a1 n1 c1 xs1) (r2 : RowAt w 1 a2 n2 c2 xs2) (b1 : n1 ≤ 100000) (b2 : n2 ≤ 100000) :
    Calls Tryz.prog 117 #[.slice (some ⟨g, o, none⟩) 2 2] w fun e w' => ∃ v, e = .returned v ∧ w'.ownsRow w.heap.size 3 1 v (n1 + n2) (xs1 ++ xs2) ∧ Below w.heap.size w w' := by
  obtain ⟨i, hi, hz0, hz1, hz2⟩ := pluck infoI
  have hl0 := lt_of_cellA h0
  go_enter Tryz.func117, Tryz.ntmps117
  go_wp2
  go_loopw [3, 11] (fun sz ix wr => w = wr ∧ ((ix = .int .i64 0 ∧ sz = .int .i64 0) ∨ (ix = .int .i64 1 ∧ sz = .int .i64 (n1 : Int)) ∨ (ix = .int .i64 2 ∧ sz = .int .i64 ((n1 : Int) + (n2 : Int))))) (fun _ ix _ => (2 - intOf ix).toNat)
  case atStart => exact ⟨rfl, Or.inl ⟨rfl, rfl⟩⟩
  case round =>
    obtain ⟨rfl, ⟨rfl, rfl⟩ | ⟨rfl, rfl⟩ | ⟨rfl, rfl⟩⟩ := hrel
    · go_wp2
      go_roundw
      case rel => simp
      case measure => simp [intOf]
    · go_wp2
      go_roundw
      case rel => simp
      case measure => simp [intOf]
    · go_wp2_with fail
      rw [show ((n1 : Int) + (n2 : Int)) = ((n1 + n2 : Nat) : Int) by omega]
      refine (growI_any (n1 + n2) _ (by omega)).mono ?_
      rintro e w1 ⟨v, rfl, hown, HB⟩
      go_wp2_with fail
      go_loopw [6, 27] (fun nv ix w2 => Below w.heap.size w w2 ∧ ((ix = .int .i64 0 ∧ w2.ownsRow w.heap.size 3 1 nv 0 []) ∨ (ix = .int .i64 1 ∧ w2.ownsRow w.heap.size 3 1 nv n1 xs1) ∨ (ix = .int .i64 2 ∧ w2.ownsRow w.heap.size 3 1 nv (n1 + n2) (xs1 ++ xs2)))) (fun _ ix _ => (2 - intOf ix).toNat)
      case atStart => exact ⟨HB, Or.inl ⟨rfl, hown⟩⟩
      case round =>
        clear HB hown
        obtain ⟨HB, ⟨rfl, hown⟩ | ⟨rfl, hown⟩ | ⟨rfl, hown⟩⟩ := hrel
        · have k0 := cellB_later HB h0
          have q1 := r1.later HB
          go_wp2_with (at_builtin; refine wpList_append_row rfl _ _ 42 rfl w.heap.size 3 i (.int .i64 0) 1 8 Tryz.underlying42 hi hz0 hz1 hz2 rfl (by decide) _ _ _ rfl hown a1 n1 c1 xs1 rfl q1 (by unfold maxLen; omega) (by omega) HB.size ?_; intro v' w3 hown' HB')
          go_roundw
          case rel => exact ⟨HB.trans HB', Or.inr (Or.inl ⟨rfl, by simpa using hown'⟩)⟩
          case measure => simp [intOf]
        · have k0 := cellB_later HB h1
          have q1 := r2.later HB
          go_wp2_with (at_builtin; refine wpList_append_row rfl _ _ 42 rfl w.heap.size 3 i (.int .i64 0) 1 8 Tryz.underlying42 hi hz0 hz1 hz2 rfl (by decide) _ _ _ rfl hown a2 n2 c2 xs2 rfl q1 (by unfold maxLen; omega) (by omega) HB.size ?_; intro v' w3 hown' HB')
          go_roundw
          case rel => exact ⟨HB.trans HB', Or.inr (Or.inr ⟨rfl, hown'⟩)⟩
          case measure => simp [intOf]
        · go_wp2
          go_ret
          exact ⟨_, rfl, hown, HB⟩

end Go.Proofs.YtgjkdhedkbkagaaGreat
/- The contracts of package span, and of the spans in the document's answer: what each call returns; it makes new memory alone. -/
namespace Go.Proofs.YtgjkdhedkbkagaaGreat
open Go.RowKit
set_option maxRecDepth 100000

def hasB (f m a : Int) : Bool := decide (f ≤ a) && decide (0 ≤ wrap64 (a - f)) && decide (wrap64 (a - f) < m)
def inSpan (f m a : Int) : Bool := decide (f ≤ a ∧ a < f + m)
def maxI (f g : Int) : Int := if f < g then g else f
def meetB (f m g n : Int) : Bool := hasB f m (maxI f g) && hasB g n (maxI f g)
/-- A span that may be, of n sectors at most. -/
def okB (f m n : Int) : Bool := decide (0 ≤ f ∧ f < 32 ∧ 1 ≤ m ∧ m ≤ n ∧ m ≤ 32 - f)
def errB (b : Bool) : Value := if b then .nilIface else .iface 89 (.int .i64 1)
def faultB (b : Bool) : Int := if b then 0 else 1

theorem hasB_ok (f m n a : Int) (h : okB f m n = true) (ha : a ≤ 9223372036854775807) : hasB f m a = inSpan f m a := by
  simp only [okB, decide_eq_true_eq] at h
  rw [Bool.eq_iff_iff]
  simp only [hasB, inSpan, Bool.and_eq_true, decide_eq_true_eq]
  by_cases h1 : f ≤ a
  · have : wrap64 (a - f) = a - f := by unfold wrap64; omega
    rw [this]; omega
  · omega

theorem meetB_ok (f m g n : Int) (h : okB f m 32 = true) (k : okB g n 32 = true) : meetB f m g n = decide (f < g + n ∧ g < f + m) := by
  have h' := h; have k' := k
  simp only [okB, decide_eq_true_eq] at h' k'
  have hk : maxI f g ≤ 9223372036854775807 := by unfold maxI; split <;> omega
  unfold meetB
  rw [hasB_ok f m 32 _ h hk, hasB_ok g n 32 _ k hk, Bool.eq_iff_iff]
  simp only [inSpan, Bool.and_eq_true, decide_eq_true_eq]
  unfold maxI; split <;> omega

theorem hasB_yes {f m a : Int} (h1 : f ≤ a) (h2 : 0 ≤ wrap64 (a - f)) : decide (wrap64 (a - f) < m) = hasB f m a := by simp [hasB, h1, h2]
theorem hasB_no1 {f m a : Int} (h2 : wrap64 (a - f) < 0) : false = hasB f m a := by
  have : ¬ 0 ≤ wrap64 (a - f) := by omega
  simp [hasB, this]
theorem hasB_no2 {f m a : Int} (h2 : a < f) : false = hasB f m a := by
  have : ¬ f ≤ a := by omega
  simp [hasB, this]

set_option maxHeartbeats 400000 in
theorem has_any (f m a : Int) (w : World) :
    Calls Tryz.prog 45 #[.agg #[.int .i64 f, .int .i64 m], .int .i64 a] w fun e w' => e = .returned (.bool (hasB f m a)) ∧ Below w.heap.size w w' := by
  go_enter Tryz.func45, Tryz.ntmps45
  go_wp2
  all_goals
    go_ret
    exact ⟨ret_bool (by first | exact hasB_yes ‹_› ‹_› | exact hasB_no1 ‹_› | exact hasB_no2 ‹_›), below1 _ _⟩

set_option maxHeartbeats 400000 in
theorem next_any (f m g n : Int) (w : World) :
    Calls Tryz.prog 114 #[.agg #[.int .i64 f, .int .i64 m], .agg #[.int .i64 g, .int .i64 n]] w fun e w' => e = .returned (.bool (wrap64 (f + m) == g)) ∧ Below w.heap.size w w' := by
  go_enter Tryz.func114, Tryz.ntmps114
  go_wp2
  go_ret
  exact ⟨rfl, below2 _ _ _⟩

set_option maxHeartbeats 400000 in
theorem meet_core (f m g n : Int) (w : World) (b1 b2 : Bool) (k : Int) (hk : maxI f g = k) (h1 : hasB f m k = b1) (h2 : hasB g n k = b2) :
    Calls Tryz.prog 22 #[.agg #[.int .i64 f, .int .i64 m], .agg #[.int .i64 g, .int .i64 n]] w fun e w' => e = .returned (.bool (b1 && b2)) ∧ Below w.heap.size w w' := by
  by_cases hfg : f < g
  · obtain rfl : g = k := by simpa [maxI, hfg] using hk
    clear hk
    cases b1
    all_goals
      go_enter Tryz.func22, Tryz.ntmps22
      go_wp2_with (go_at_call 45; refine (has_any _ _ _ _).mono ?_; rintro e w1 ⟨rfl, hb⟩; (try clear hc hf hz); (first | replace HB := bthen HB hb | replace HB := bthen (bdrew HB) hb | have HB := hb); clear hb; obtain ⟨hc, hf, hz⟩ := bcell HB)
      go_ret
      exact ⟨rfl, by repeat (first | with_reducible exact Below.refl _ _ | with_reducible refine balloc ?_ _ | with_reducible refine bdrew ?_ | with_reducible refine bset' ?_ (by omega) _ | with_reducible refine bthen ?_ (by assumption))⟩
  · obtain rfl : f = k := by simpa [maxI, hfg] using hk
    clear hk
    cases b1
    all_goals
      go_enter Tryz.func22, Tryz.ntmps22
      go_wp2_with (go_at_call 45; refine (has_any _ _ _ _).mono ?_; rintro e w1 ⟨rfl, hb⟩; (try clear hc hf hz); (first | replace HB := bthen HB hb | replace HB := bthen (bdrew HB) hb | have HB := hb); clear hb; obtain ⟨hc, hf, hz⟩ := bcell HB)
      go_ret
      exact ⟨rfl, by repeat (first | with_reducible exact Below.refl _ _ | with_reducible refine balloc ?_ _ | with_reducible refine bdrew ?_ | with_reducible refine bset' ?_ (by omega) _ | with_reducible refine bthen ?_ (by assumption))⟩

theorem meet_any (f m g n : Int) (w : World) :
    Calls Tryz.prog 22 #[.agg #[.int .i64 f, .int .i64 m], .agg #[.int .i64 g, .int .i64 n]] w fun e w' => e = .returned (.bool (meetB f m g n)) ∧ Below w.heap.size w w' :=
  meet_core f m g n w _ _ _ rfl rfl rfl

theorem ok_no {f m n : Int} (h : f < 0 ∨ 31 < f ∨ m < 1 ∨ n < m ∨ 32 - f < m) : okB f m n = false := by
  simp only [okB, decide_eq_false_iff_not]; omega
theorem ok_yes {f m n : Int} (h1 : 0 ≤ f) (h2 : f < 32) (h3 : 1 ≤ m) (h4 : m ≤ n) (h5 : m ≤ 32 - f) : okB f m n = true := by
  simp only [okB, decide_eq_true_eq]; omega

set_option maxHeartbeats 400000 in
theorem check_any (f m n : Int) (w : World) :
    Calls Tryz.prog 110 #[.agg #[.int .i64 f, .int .i64 m], .int .i64 n] w fun e w' => e = .returned (errB (okB f m n)) ∧ Below w.heap.size w w' := by
  go_enter Tryz.func110, Tryz.ntmps110
  go_wp2
  all_goals
    go_ret
    refine ⟨ret_val ?_, below1 _ _⟩
    first | (rw [ok_no (by omega)]; rfl) | (rw [ok_yes (by omega) (by omega) (by omega) (by omega) (by omega)]; rfl)

theorem check_yes (f m n : Int) (w : World) (h : okB f m n = true) :
    Calls Tryz.prog 110 #[.agg #[.int .i64 f, .int .i64 m], .int .i64 n] w fun e w' => e = .returned .nilIface ∧ Below w.heap.size w w' := by
  have := check_any f m n w; rw [h] at this; exact this
theorem check_no (f m n : Int) (w : World) (h : okB f m n = false) :
    Calls Tryz.prog 110 #[.agg #[.int .i64 f, .int .i64 m], .int .i64 n] w fun e w' => e = .returned (.iface 89 (.int .i64 1)) ∧ Below w.heap.size w w' := by
  have := check_any f m n w; rw [h] at this; exact this

theorem meet_eq (f m g n : Int) (w : World) (b : Bool) (h : meetB f m g n = b) :
    Calls Tryz.prog 22 #[.agg #[.int .i64 f, .int .i64 m], .agg #[.int .i64 g, .int .i64 n]] w fun e w' => e = .returned (.bool b) ∧ Below w.heap.size w w' := by
  subst h; exact meet_any f m g n w
theorem next_eq (f m g n : Int) (w : World) (b : Bool) (h : (wrap64 (f + m) == g) = b) :
    Calls Tryz.prog 114 #[.agg #[.int .i64 f, .int .i64 m], .agg #[.int .i64 g, .int .i64 n]] w fun e w' => e = .returned (.bool b) ∧ Below w.heap.size w w' := by
  subst h; exact next_any f m g n w
theorem has_eq (f m a : Int) (w : World) (b : Bool) (h : hasB f m a = b) :
    Calls Tryz.prog 45 #[.agg #[.int .i64 f, .int .i64 m], .int .i64 a] w fun e w' => e = .returned (.bool b) ∧ Below w.heap.size w w' := by
  subst h; exact has_any f m a w
end Go.Proofs.YtgjkdhedkbkagaaGreat
/- The spans of the document's answer: Has, Meet, by their loops; and same: an error told by its number. -/
namespace Go.Proofs.YtgjkdhedkbkagaaGreat
open Go.RowKit
set_option maxRecDepth 100000

def crossB (f m g n : Int) : Bool := decide (f < g + n ∧ g < f + m)
end Go.Proofs.YtgjkdhedkbkagaaGreat
/- ReqFault: what is wrong with a request, by B1. -/
namespace Go.Proofs.YtgjkdhedkbkagaaGreat
open Go.RowKit Go.BigFrame
set_option maxRecDepth 100000
attribute [local go_sem] Later.cell Later.frozen

def shapeBad (r : Rq) : Prop := (r.wr = true ∧ (r.data.length : Int) ≠ r.m) ∨ (r.wr = false ∧ 0 < r.data.length)
def tagsBad (r : Rq) : Prop := r.tags.length < 1 ∨ 4 < r.tags.length
def bornBad (r : Rq) : Prop := r.born < 0 ∨ 1000000000 < r.born
def small4 (r : Rq) : Bool := r.data.all fun s => decide (s.size ≤ 4)
/-- Of a request whose span, shape, tags and birth are all right. -/
structure Fine (r : Rq) : Prop where
  ok : okB r.f r.m 4 = true
  shape : ¬ shapeBad r
  tags : ¬ tagsBad r
  born : ¬ bornBad r

end Go.Proofs.YtgjkdhedkbkagaaGreat
/- Two lists of texts, of numbers, two requests, two lists of requests: are they the same? -/
namespace Go.Proofs.YtgjkdhedkbkagaaGreat
open Go.RowKit Go.BigFrame
set_option maxRecDepth 100000
attribute [local go_sem] Later.cell Later.frozen

theorem StrsAt.form {w : World} {a : Option Addr} {l : List ByteArray} (h : StrsAt w a l) : l = [] ∨ ∃ b o, a = some ⟨b, o, none⟩ := by
  rcases h with h | ⟨b, o, ha, _⟩
  · exact Or.inl h
  · exact Or.inr ⟨b, o, ha⟩
theorem IntsAt.form {w : World} {a : Option Addr} {l : List Int} (h : IntsAt w a l) : l = [] ∨ ∃ b o, a = some ⟨b, o, none⟩ := by
  rcases h with h | ⟨b, o, ha, _⟩
  · exact Or.inl h
  · exact Or.inr ⟨b, o, ha⟩
theorem StrsAt.at {w : World} {b o : Nat} {l : List ByteArray} (h : StrsAt w (some ⟨b, o, none⟩) l) {i : Nat} (hi : i < l.length) : w.cell? ⟨b, o + i, none⟩ = some (.string l[i]) := by
  rcases h with rfl | ⟨b', o', ha, hc⟩
  · exact absurd hi (Nat.not_lt_zero _)
  · simp only [Option.some.injEq, Addr.mk.injEq, and_true] at ha
    obtain ⟨rfl, rfl⟩ := ha
    simpa [List.getD, hi] using hc i hi
theorem IntsAt.at {w : World} {b o : Nat} {l : List Int} (h : IntsAt w (some ⟨b, o, none⟩) l) {i : Nat} (hi : i < l.length) : w.cell? ⟨b, o + i, none⟩ = some (.int .i64 l[i]) := by
  rcases h with rfl | ⟨b', o', ha, hc⟩
  · exact absurd hi (Nat.not_lt_zero _)
  · simp only [Option.some.injEq, Addr.mk.injEq, and_true] at ha
    obtain ⟨rfl, rfl⟩ := ha
    simpa [List.getD, hi] using hc i hi

theorem take_eq_step {α : Type} {xs ys : List α} {k : Nat} (h1 : k < xs.length) (h2 : k < ys.length) (h : xs.take k = ys.take k) (he : xs[k] = ys[k]) : xs.take (k + 1) = ys.take (k + 1) := by
  rw [List.take_succ_eq_append_getElem h1, List.take_succ_eq_append_getElem h2, h, he]
theorem ne_at {α : Type} {xs ys : List α} {k : Nat} (h1 : k < xs.length) (h2 : k < ys.length) (he : ¬ xs[k] = ys[k]) : ¬ xs = ys := by
  rintro rfl; exact he rfl
theorem take_eq_end {α : Type} {xs ys : List α} {k : Nat} (h1 : xs.length ≤ k) (h2 : ys.length ≤ k) (h : xs.take k = ys.take k) : xs = ys := by
  rwa [List.take_of_length_le h1, List.take_of_length_le h2] at h

theorem str_ne {s t : ByteArray} (h : ¬ s = t) : (s.toList == t.toList) = false := by
  rw [beq_eq_false_iff_ne]
  intro e
  apply h
  rw [ByteArray.toList_eq, ByteArray.toList_eq] at e
  have e' : s.data = t.data := by rw [← Array.toList_inj]; exact e
  cases s; cases t; simp_all
theorem str_eq {s t : ByteArray} (h : s = t) : (s.toList == t.toList) = true := by rw [h]; simp

def eqS (xs ys : List ByteArray) : Bool := decide (xs = ys)
def eqN (xs ys : List Int) : Bool := decide (xs = ys)

set_option maxHeartbeats 400000 in
theorem texts_short (xs ys : List ByteArray) (a a' : Option Addr) (c c' : Nat) (w : World) (hx : StrsAt w a xs) (hy : StrsAt w a' ys) (hl : xs.length ≤ 9223372036854775807) (he : ((xs.length : Int) != (ys.length : Int)) = false) :
    Calls Tryz.prog 25 #[.slice a xs.length c, .slice a' ys.length c'] w fun e w' => e = .returned (.bool (eqS xs ys)) ∧ Below w.heap.size w w' := by
  have hlen : xs.length = ys.length := by simp only [bne_eq_false_iff_eq] at he; omega
  have HE : Hid (xs.length = ys.length) := hlen
  rcases hx.form with rfl | ⟨b, o, rfl⟩
  · obtain rfl : ys = [] := List.eq_nil_of_length_eq_zero hlen.symm
    go_enter Tryz.func25, Tryz.ntmps25; go_wp2; go_loop [5] (fun i => i = .int .i64 0) (fun _ => 0); (case atStart => rfl); (case round => subst hrel; go_wp2; go_ret; exact ⟨rfl, by repeat (first | with_reducible exact Below.refl _ _ | with_reducible refine balloc ?_ _ | with_reducible refine bdrew ?_ | with_reducible refine bset' ?_ (by omega) _ | with_reducible refine bthen ?_ (by assumption))⟩)
  rcases hy.form with rfl | ⟨b', o', rfl⟩
  · obtain rfl : xs = [] := List.eq_nil_of_length_eq_zero hlen
    go_enter Tryz.func25, Tryz.ntmps25; go_wp2; go_loop [5] (fun i => i = .int .i64 0) (fun _ => 0); (case atStart => rfl); (case round => subst hrel; go_wp2; go_ret; exact ⟨rfl, by repeat (first | with_reducible exact Below.refl _ _ | with_reducible refine balloc ?_ _ | with_reducible refine bdrew ?_ | with_reducible refine bset' ?_ (by omega) _ | with_reducible refine bthen ?_ (by assumption))⟩)
  clear hlen
  go_enter Tryz.func25, Tryz.ntmps25
  go_wp2
  go_loopw [5] (fun i wr => ∃ k : Nat, k ≤ xs.length ∧ i = .int .i64 k ∧ xs.take k = ys.take k ∧ Below w.heap.size w wr) (fun i _ => xs.length - (intOf i).toNat)
  case atStart => exact ⟨0, by omega, rfl, by simp, Below.refl _ _⟩
  case round =>
    obtain ⟨k, hk, rfl, hall, HB⟩ := hrel
    have HL : Hid (xs.take k = ys.take k) := hall
    clear hall
    by_cases hlt : k < xs.length
    · have hlt' : k < ys.length := by have := HE.out; omega
      have c0 := hx.at hlt
      have c1 := hy.at hlt'
      have l0 := lt_of_cell c0
      have l1 := lt_of_cell c1
      by_cases hq : xs[k] = ys[k]
      · go_wp2_with fail
        refine wp_region_later (by first | exact HB | exact bdrew HB | exact Below.refl _ _) (by kernel_rfl) (by kernel_rfl) ?_
        repeat (go_big_quiet_step (exact rfl))
        refine wpQuiet_nil ?_; intro _ hw'; obtain ⟨p, hw''⟩ := hw'; subst hw''; (try clear hc hf hz); (try clear HB); have HB := p.below; obtain ⟨hc, hf, hz⟩ := bcell HB
        go_wp2
        go_roundw
        case rel => exact ⟨k + 1, by omega, by go_num, take_eq_step hlt hlt' HL.out hq, HB⟩
        case measure => simp [intOf]; omega
      · have hq' : (xs[k].toList == ys[k].toList) = false := str_ne hq
        go_wp2_with fail
        refine wp_region_later (by first | exact HB | exact bdrew HB | exact Below.refl _ _) (by kernel_rfl) (by kernel_rfl) ?_
        repeat (go_big_quiet_step (exact rfl))
        refine wpQuiet_nil ?_; intro _ hw'; obtain ⟨p, hw''⟩ := hw'; subst hw''; (try clear hc hf hz); (try clear HB); have HB := p.below; obtain ⟨hc, hf, hz⟩ := bcell HB
        go_wp2
        go_ret
        exact ⟨ret_bool (decide_eq_false (ne_at hlt hlt' hq)).symm, by repeat (first | with_reducible exact Below.refl _ _ | with_reducible refine balloc ?_ _ | with_reducible refine bdrew ?_ | with_reducible refine bset' ?_ (by omega) _ | with_reducible refine bthen ?_ (by assumption))⟩
    · go_wp2
      go_ret
      exact ⟨ret_bool (decide_eq_true (take_eq_end (by omega) (by have := HE.out; omega) HL.out)).symm, by repeat (first | with_reducible exact Below.refl _ _ | with_reducible refine balloc ?_ _ | with_reducible refine bdrew ?_ | with_reducible refine bset' ?_ (by omega) _ | with_reducible refine bthen ?_ (by assumption))⟩

end Go.Proofs.YtgjkdhedkbkagaaGreat
