/- Sectors at hand in memory; slices.Clone of them. -/
import Derived.Test.YtgjkdhedkbkagaaGreatJ1
import Derived.BigQuiet
import Derived.Lib.SliceRun
namespace Go.Proofs.YtgjkdhedkbkagaaGreat
open Go.RowKit Go.BigFrame
set_option maxRecDepth 100000
attribute [local go_sem] Later.cell Later.frozen

/-- A sector at hand. -/
structure Bf where
  pl : Int
  data : ByteArray
  dirty : Bool
  used : Int

def Bf.cell (r : Bf) : Nat → Value
  | 0 => .int .i64 r.pl
  | 1 => .string r.data
  | 2 => .bool r.dirty
  | _ => .int .i64 r.used
abbrev Bf.val (r : Bf) : Value := .agg #[.int .i64 r.pl, .string r.data, .bool r.dirty, .int .i64 r.used]

theorem ltB_of_cell {w : World} {b o : Nat} {v : Value} (h : w.cell? ⟨b, o, none⟩ = some v) : b < w.heap.size := lt_of_cellA h
theorem cellB_later' {w w' : World} {b o : Nat} {v : Value} (hb : Below w.heap.size w w') (h : w.cell? ⟨b, o, none⟩ = some v) : w'.cell? ⟨b, o, none⟩ = some v := cellA_later hb h
theorem allocB_cell {w : World} {b o : Nat} {v : Value} (h : w.cell? ⟨b, o, none⟩ = some v) (x : Obj) : (w.alloc x).cell? ⟨b, o, none⟩ = some v := by
  rw [World.cell?_alloc_lt w x _ (lt_of_cellA h)]; exact h

/-- From an address on lie these sectors. -/
def BufsAt (w : World) (a : Option Addr) (l : List Bf) : Prop :=
  (l = [] ∨ ∃ b o, a = some ⟨b, o, none⟩ ∧ ∀ i (h : i < l.length) j, j < 4 → w.cell? ⟨b, o + i * 4 + j, none⟩ = some (l[i].cell j)) ∧ l.length ≤ 9223372036854775807

theorem BufsAt.later {w w' : World} {a : Option Addr} {l : List Bf} (h : BufsAt w a l) (hb : Below w.heap.size w w') : BufsAt w' a l := by
  obtain ⟨h1, h3⟩ := h
  refine ⟨?_, h3⟩
  rcases h1 with h | ⟨b, o, ha, hc⟩
  · exact Or.inl h
  · exact Or.inr ⟨b, o, ha, fun i hi j hj => cellB_later' hb (hc i hi j hj)⟩
theorem BufsAt.form {w : World} {a : Option Addr} {l : List Bf} (h : BufsAt w a l) : l = [] ∨ ∃ b o, a = some ⟨b, o, none⟩ := by
  rcases h.1 with h | ⟨b, o, ha, _⟩
  · exact Or.inl h
  · exact Or.inr ⟨b, o, ha⟩
theorem BufsAt.cells {w : World} {b o : Nat} {l : List Bf} (h : BufsAt w (some ⟨b, o, none⟩) l) {i : Nat} (hi : i < l.length) :
    w.cell? ⟨b, o + i * 4, none⟩ = some (.int .i64 l[i].pl) ∧ w.cell? ⟨b, o + i * 4 + 1, none⟩ = some (.string l[i].data) ∧ w.cell? ⟨b, o + i * 4 + 2, none⟩ = some (.bool l[i].dirty) ∧ w.cell? ⟨b, o + i * 4 + 3, none⟩ = some (.int .i64 l[i].used) := by
  rcases h.1 with rfl | ⟨b', o', ha, hc⟩
  · exact absurd hi (Nat.not_lt_zero _)
  · simp only [Option.some.injEq, Addr.mk.injEq, and_true] at ha
    obtain ⟨rfl, rfl⟩ := ha
    exact ⟨hc i hi 0 (by omega), hc i hi 1 (by omega), hc i hi 2 (by omega), hc i hi 3 (by omega)⟩

/-! ### the cells, one behind the other -/
def bcells (l : List Bf) : List Value := l.flatMap fun r => [r.cell 0, r.cell 1, r.cell 2, r.cell 3]
theorem bcells_length (l : List Bf) : (bcells l).length = l.length * 4 := by
  induction l with
  | nil => rfl
  | cons r l ih => rw [bcells, List.flatMap_cons, List.length_append, ← bcells, ih, List.length_cons]; simp; omega
theorem bcells_append (l l' : List Bf) : bcells (l ++ l') = bcells l ++ bcells l' := by simp [bcells]
theorem bcells_at (l : List Bf) : ∀ (i j : Nat) (h : i < l.length), j < 4 → (bcells l)[i * 4 + j]? = some (l[i].cell j) := by
  induction l with
  | nil => intro i j h; exact absurd h (Nat.not_lt_zero _)
  | cons r l ih =>
    intro i j h hj
    rw [bcells, List.flatMap_cons, ← bcells]
    cases i with
    | zero =>
      rw [List.getElem?_append_left (by simp; omega)]
      match j, hj with
      | 0, _ => rfl
      | 1, _ => rfl
      | 2, _ => rfl
      | 3, _ => rfl
    | succ i =>
      rw [List.getElem?_append_right (by simp; omega)]
      have := ih i j (by simpa using h) hj
      simp only [List.length_cons, List.length_nil, List.getElem_cons_succ]
      rw [← this]; congr 1; omega
theorem bcells_one (l : List Bf) : ∀ u ∈ bcells l, u.oneCell' = true := by
  intro u hu
  simp only [bcells, List.mem_flatMap] at hu
  obtain ⟨r, _, hr⟩ := hu
  simp only [List.mem_cons, List.not_mem_nil, or_false] at hr
  rcases hr with rfl | rfl | rfl | rfl <;> rfl
theorem bcells_inv {l : List Bf} {k : Nat} {u : Value} (h : (bcells l)[k]? = some u) : ∃ i j, ∃ hi : i < l.length, j < 4 ∧ k = i * 4 + j ∧ u = l[i].cell j := by
  have hk : k < (bcells l).length := by
    rcases Nat.lt_or_ge k (bcells l).length with h' | h'
    · exact h'
    · rw [List.getElem?_eq_none h'] at h; cases h
  rw [bcells_length] at hk
  have hi : k / 4 < l.length := by omega
  have hj : k % 4 < 4 := Nat.mod_lt _ (by omega)
  have e : k = k / 4 * 4 + k % 4 := by omega
  refine ⟨k / 4, k % 4, hi, hj, e, ?_⟩
  rw [e, bcells_at l (k / 4) (k % 4) hi hj] at h
  exact (Option.some.inj h).symm
theorem addB_mk (b o i : Nat) : (Addr.add ⟨b, o, none⟩ i) = ⟨b, o + i, none⟩ := by
  unfold Addr.add; split
  · rename_i h; subst h; rfl
  · rfl
theorem BufsAt.rowAll {w : World} {a : Option Addr} {c : Nat} {l : List Bf} (h : BufsAt w a l) (hn : a = none → c = 0) : RowAt w 4 a l.length c (bcells l) := by
  rcases h.1 with rfl | ⟨b, o, rfl, hc⟩
  · cases a with
    | none => exact ⟨rfl, by simp [bcells], Or.inl ⟨rfl, rfl, hn rfl⟩⟩
    | some ad => exact ⟨rfl, by simp [bcells], Or.inr ⟨ad, rfl, fun j u h => by simp [bcells] at h⟩⟩
  · refine ⟨bcells_length l, bcells_one l, Or.inr ⟨_, rfl, fun k u hk => ?_⟩⟩
    obtain ⟨i, j, hi, hj, rfl, rfl⟩ := bcells_inv hk
    rw [addB_mk, ← hc i hi j hj]
    congr 2
    omega

/-- A list of the call's own: it lies in new memory, that may be written. -/
structure NewBufs (base : Nat) (w : World) (a : Option Addr) (c : Nat) (l : List Bf) : Prop where
  here : BufsAt w a l
  cap : l.length ≤ c
  capM : c ≤ 9223372036854775807
  nil : a = none → c = 0
  own : w.ownsRow base 93 4 (.slice a l.length c) l.length (bcells l)

theorem new_of_owned {w : World} {base : Nat} {v : Value} {l : List Bf} {n : Nat} (h : w.ownsRow base 93 4 v n (bcells l)) (hn : n = l.length) (hb : l.length ≤ 9223372036854775807) :
    ∃ a c, v = .slice a l.length c ∧ NewBufs base w a c l := by
  subst hn
  have h' := h
  rcases h.2 with ⟨rfl, h0⟩ | ⟨g, cap, cur, rfl, hg, hh, hnc, hcm, hcs, ht⟩
  · have hl := List.eq_nil_of_length_eq_zero h0
    subst hl
    exact ⟨none, 0, rfl, ⟨⟨Or.inl rfl, by simp⟩, by simp, by simp, fun _ => rfl, h'⟩⟩
  · have hcm' : cap ≤ 9223372036854775807 := by unfold maxLen at hcm; omega
    refine ⟨some ⟨g, 0, none⟩, cap, rfl, ⟨⟨Or.inr ⟨g, 0, rfl, fun i hi j hj => ?_⟩, hb⟩, hnc, hcm', by simp, h'⟩⟩
    have hx := bcells_at l i j hi hj
    have hc := h.cellAt (i * 4 + j) (by omega)
    rw [Nat.zero_add, hc, hx]
theorem NewBufs.place {base : Nat} {w : World} {a : Option Addr} {c : Nat} {l : List Bf} (h : NewBufs base w a c l) (hl : l ≠ []) : ∃ b, a = some ⟨b, 0, none⟩ ∧ base ≤ b ∧ b < w.heap.size ∧ ∀ o, w.frozen? ⟨b, o, none⟩ = false := by
  rcases h.own.2 with ⟨h1, h2⟩ | ⟨g, cap, cur, h1, hg, hh, hnc, hcm, hcs, ht⟩
  · exact absurd (List.eq_nil_of_length_eq_zero h2) hl
  · simp only [Value.slice.injEq] at h1
    refine ⟨g, h1.1, hg, ?_, fun o => by simp [World.frozen?, hh]⟩
    rcases Nat.lt_or_ge g w.heap.size with h' | h'
    · exact h'
    · rw [Array.getElem?_eq_none h'] at hh; cases hh

theorem infoB : (Tryz.prog.info? 93).map (fun i => (i.zero, i.size, i.bytes)) = some (some (.agg #[.int .i64 0, .string ByteArray.empty, .bool false, .int .i64 0]), 4, 40) := by kernel_rfl
set_option maxRecDepth 100000 in
set_option maxHeartbeats 1000000 in
theorem cloneB_any (l : List Bf) (a : Option Addr) (c : Nat) (w : World) (hl : BufsAt w a l) (hn : a = none → c = 0) (h10 : l.length ≤ 100000) :
    Calls Tryz.prog 109 #[.slice a l.length c] w fun e w' => ∃ a' c', e = .returned (.slice a' l.length c') ∧ NewBufs w.heap.size w' a' c' l ∧ Below w.heap.size w w' := by
  obtain ⟨i, hi, hz0, hz1, hz2⟩ := pluck infoB
  have R := hl.rowAll hn
  have q22 : ∀ (w : World) (a : Option Addr) (n c n' c' : Nat), (binOp .eql 75 (.slice a n c) (.slice none n' c')).run Tryz.prog w = .ok (.bool a.isNone) w := fun w a n c n' c' => Lib.run_eql_slice_nil w _ _ a n c n' c' Tryz.underlying75
  cases a with
  | none =>
    obtain rfl := hn rfl
    have hl0 : l = [] := by
      rcases hl.form with h | ⟨b, o, h⟩
      · exact h
      · cases h
    subst hl0
    go_enter Tryz.func109, Tryz.ntmps109
    go_wp2
    go_ret
    exact ⟨none, 0, rfl, ⟨⟨Or.inl rfl, by simp⟩, by simp, by simp, fun _ => rfl, World.ownsRow_nil _ _ _ _⟩, by repeat (first | with_reducible exact Below.refl _ _ | with_reducible refine balloc ?_ _ | with_reducible refine bdrew ?_ | with_reducible refine bset' ?_ (by omega) _ | with_reducible refine bthen ?_ (by assumption))⟩
  | some ad =>
    have HL : Hid (l.length ≤ 100000) := h10
    go_enter Tryz.func109, Tryz.ntmps109
    go_wp2_with (at_builtin; refine wpList_append_row rfl _ _ 75 rfl w.heap.size 93 i _ 4 40 Tryz.underlying75 hi hz0 hz1 hz2 rfl (by decide) _ 0 [] rfl (World.ownsRow_made _ _ _ (Nat.le_refl _) (by unfold maxLen; omega) (by simp)) (some ad) l.length c (bcells l) rfl (R.later (by repeat (first | with_reducible exact Below.refl _ _ | with_reducible refine balloc ?_ _ | with_reducible refine bdrew ?_ | with_reducible refine bset' ?_ (by omega) _ | with_reducible refine bthen ?_ (by assumption)))) (by unfold maxLen; omega) (by omega) (by simp) ?_; intro v1 w2 hown1 hb1)
    rw [Nat.zero_add, List.nil_append] at hown1
    obtain ⟨a', c', rfl, hN⟩ := new_of_owned hown1 rfl (by omega)
    go_wp2
    go_ret
    exact ⟨a', c', rfl, hN, (balloc (Below.refl _ _) _).trans hb1⟩
end Go.Proofs.YtgjkdhedkbkagaaGreat
/- Which sector: slices.IndexFunc, place, Get. -/
namespace Go.Proofs.YtgjkdhedkbkagaaGreat
open Go.RowKit Go.BigFrame
set_option maxRecDepth 100000
attribute [local go_sem] Later.cell Later.frozen

/-- The first one that fits; -1: none. -/
def idxB (p : Bf → Bool) (l : List Bf) : Int := match l.findIdx? p with | some k => (k : Int) | none => -1
theorem idx_found {p : Bf → Bool} {l : List Bf} {k : Nat} (h : k < l.length) (hp : p l[k] = true) (hb : ∀ j (hj : j < k), p (l[j]'(by omega)) = false) : idxB p l = k := by
  have : l.findIdx? p = some k := by
    rw [List.findIdx?_eq_some_iff_getElem]
    exact ⟨h, hp, fun j hj => by rw [hb j hj]; exact Bool.false_ne_true⟩
  rw [idxB, this]
theorem idx_none {p : Bf → Bool} {l : List Bf} (h : ∀ j (hj : j < l.length), p l[j] = false) : idxB p l = -1 := by
  have : l.findIdx? p = none := by
    rw [List.findIdx?_eq_none_iff]
    intro x hx
    obtain ⟨j, hj, rfl⟩ := List.getElem_of_mem hx
    exact h j hj
  rw [idxB, this]
theorem idx_spec (p : Bf → Bool) (l : List Bf) : (idxB p l = -1 ∧ ∀ j (hj : j < l.length), p l[j] = false) ∨ ∃ (k : Nat) (h : k < l.length), idxB p l = k ∧ p l[k] = true ∧ ∀ j (hj : j < k), p (l[j]'(by omega)) = false := by
  cases e : l.findIdx? p with
  | none =>
    left
    refine ⟨by rw [idxB, e], fun j hj => ?_⟩
    rw [List.findIdx?_eq_none_iff] at e
    exact e _ (List.getElem_mem hj)
  | some k =>
    right
    have e' := e
    rw [List.findIdx?_eq_some_iff_getElem] at e
    obtain ⟨h1, h2, h3⟩ := e
    refine ⟨k, h1, by rw [idxB, e'], h2, fun j hj => ?_⟩
    have := h3 j hj
    simpa using this

set_option maxHeartbeats 1000000 in
theorem indexB_any (g : Nat) (eg : ∀ args w, (callFunc g args).run Tryz.prog w = .ok (.enter g args) w) (cp : Value) (p : Bf → Bool) (l : List Bf) (a : Option Addr) (c : Nat) (w : World) (hl : BufsAt w a l)
    (hp : ∀ (x : Bf) w', Below w.heap.size w w' → Calls Tryz.prog g #[x.val, cp] w' fun e w'' => e = .returned (.bool (p x)) ∧ Below w'.heap.size w' w'') :
    Calls Tryz.prog 94 #[.slice a l.length c, .func (.func g) #[] #[cp]] w fun e w' => e = .returned (.int .i64 (idxB p l)) ∧ Below w.heap.size w w' := by
  have hb3 := hl.2
  rcases hl.form with rfl | ⟨b, o, rfl⟩
  · clear hp
    go_enter Tryz.func94, Tryz.ntmps94
    go_wp2
    go_loop [8] (fun i => i = .int .i64 0) (fun _ => 0)
    case atStart => rfl
    case round =>
      subst hrel
      go_wp2
      go_ret
      exact ⟨rfl, by repeat (first | with_reducible exact Below.refl _ _ | with_reducible refine balloc ?_ _ | with_reducible refine bdrew ?_ | with_reducible refine bset' ?_ (by omega) _ | with_reducible refine bthen ?_ (by assumption))⟩
  have HP : Hid (∀ (x : Bf) w', Below w.heap.size w w' → Calls Tryz.prog g #[x.val, cp] w' fun e w'' => e = .returned (.bool (p x)) ∧ Below w'.heap.size w' w'') := hp
  clear hp
  go_enter Tryz.func94, Tryz.ntmps94
  go_wp2
  go_loopw [8] (fun i wr => ∃ k : Nat, k ≤ l.length ∧ i = .int .i64 k ∧ (∀ j (hj : j < l.length), j < k → p l[j] = false) ∧ Below w.heap.size w wr) (fun i _ => l.length - (intOf i).toNat)
  case atStart => exact ⟨0, by omega, rfl, fun j hj h => absurd h (Nat.not_lt_zero _), Below.refl _ _⟩
  case round =>
    obtain ⟨k, hk, rfl, hno, HB⟩ := hrel
    have HN : Hid (∀ j (hj : j < l.length), j < k → p l[j] = false) := hno
    clear hno
    by_cases hlt : k < l.length
    · obtain ⟨c0, c1, c2, c3⟩ := (hl.later HB).cells hlt
      have hq := HP.out l[k] wr HB
      cases hpk : p l[k]
      · rw [hpk] at hq
        have HQ : Hid _ := hq
        clear hq
        go_wp2_with fail
        refine Calls.mono HQ.out ?_
        rintro e w1 ⟨rfl, hb⟩
        go_wp2
        go_roundw
        case rel => exact ⟨k + 1, by omega, by go_num, fun j hj h => by by_cases e : j = k; (subst e; exact hpk); exact HN.out j hj (by omega), bthen HB hb⟩
        case measure => simp [intOf]; omega
      · rw [hpk] at hq
        have HQ : Hid _ := hq
        clear hq
        go_wp2_with fail
        refine Calls.mono HQ.out ?_
        rintro e w1 ⟨rfl, hb⟩
        go_wp2
        go_ret
        exact ⟨ret_int (idx_found hlt hpk (fun j hj => HN.out j (by omega) hj)).symm, bthen HB hb⟩
    · go_wp2
      go_ret
      exact ⟨ret_int (idx_none (fun j hj => HN.out j hj (by omega))).symm, HB⟩

set_option maxHeartbeats 400000 in
theorem place1_any (x : Bf) (at' : Int) (pb po : Nat) (w : World) (hp : w.cell? ⟨pb, po, none⟩ = some (.int .i64 at')) :
    Calls Tryz.prog 95 #[x.val, .pointer (some ⟨pb, po, none⟩)] w fun e w' => e = .returned (.bool (x.pl == at')) ∧ Below w.heap.size w w' := by
  have hp' := allocB_cell hp
  go_enter Tryz.func95, Tryz.ntmps95
  go_wp2
  go_ret
  exact ⟨rfl, by repeat (first | with_reducible exact Below.refl _ _ | with_reducible refine balloc ?_ _ | with_reducible refine bdrew ?_ | with_reducible refine bset' ?_ (by omega) _ | with_reducible refine bthen ?_ (by assumption))⟩

def plB (at' : Int) (x : Bf) : Bool := x.pl == at'
set_option maxHeartbeats 400000 in
theorem place_any (l : List Bf) (a : Option Addr) (c : Nat) (at' : Int) (w : World) (hl : BufsAt w a l) :
    Calls Tryz.prog 72 #[.slice a l.length c, .int .i64 at'] w fun e w' => e = .returned (.int .i64 (idxB (plB at') l)) ∧ Below w.heap.size w w' := by
  go_enter Tryz.func72, Tryz.ntmps72
  go_wp2_with fail
  refine (indexB_any 95 (by intro args w; go_simp) (.pointer (some ⟨w.heap.size, 0, none⟩)) (plB at') l a c _ (hl.later (below1 _ _)) (fun x w' hb => place1_any x at' w.heap.size 0 w' (cellB_later' hb (by simp)))).mono ?_
  rintro e w1 ⟨rfl, HB⟩
  go_wp2
  go_ret
  exact ⟨rfl, by repeat (first | with_reducible exact Below.refl _ _ | with_reducible refine balloc ?_ _ | with_reducible refine bdrew ?_ | with_reducible refine bset' ?_ (by omega) _ | with_reducible refine bthen ?_ (by assumption))⟩
end Go.Proofs.YtgjkdhedkbkagaaGreat
