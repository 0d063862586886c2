/- Does a request meet one of those that wait: slices.IndexFunc, ContainsFunc over requests, Add's closure; slices.Clone of requests. -/
import Derived.Test.YtfdmchhaiikeaaaTake
import Derived.Lib.SliceRun
namespace Go.Proofs.Ytfdmchhaiikeaaa
open Go.RowKit Go.BigFrame
attribute [local go_sem] Later.cell Later.frozen

theorem hidR {p : Prop} (h : p) : Hid p := h
/-- The first one that fits; -1: none. -/
def idxR (p : Rq → Bool) (l : List Rq) : Int := match l.findIdx? p with | some k => (k : Int) | none => -1
theorem idxR_found {p : Rq → Bool} {l : List Rq} {k : Nat} (h : k < l.length) (hp : p l[k] = true) (hb : ∀ j (hj : j < k), p (l[j]'(by omega)) = false) : idxR p l = k := by
  have : l.findIdx? p = some k := by
    rw [List.findIdx?_eq_some_iff_getElem]
    exact ⟨h, hp, fun j hj => by rw [hb j hj]; exact Bool.false_ne_true⟩
  rw [idxR, this]
theorem idxR_none {p : Rq → Bool} {l : List Rq} (h : ∀ j (hj : j < l.length), p l[j] = false) : idxR p l = -1 := by
  have : l.findIdx? p = none := by
    rw [List.findIdx?_eq_none_iff]
    intro x hx
    obtain ⟨j, hj, rfl⟩ := List.getElem_of_mem hx
    exact h j hj
  rw [idxR, this]
theorem idxR_any (p : Rq → Bool) (l : List Rq) : decide (0 ≤ idxR p l) = l.any p := by
  cases e : l.findIdx? p with
  | none =>
    rw [idxR, e]
    rw [List.findIdx?_eq_none_iff] at e
    have : l.any p = false := by rw [List.any_eq_false]; intro x hx; rw [e x hx]; exact Bool.false_ne_true
    rw [this]; rfl
  | some k =>
    rw [idxR, e]
    rw [List.findIdx?_eq_some_iff_getElem] at e
    obtain ⟨h1, h2, _⟩ := e
    have : l.any p = true := by rw [List.any_eq_true]; exact ⟨l[k], List.getElem_mem h1, h2⟩
    rw [this]; simp

set_option maxHeartbeats 1000000 in
theorem indexR_any (g : Nat) (eg : ∀ args w, (callFunc g args).run Try.prog w = .ok (.enter g args) w) (cp : Value) (p : Rq → Bool) (l : List Rq) (a : Option Addr) (c : Nat) (w : World) (hl : ReqsAt w a l)
    (hp : ∀ (x : Rq) w', x ∈ l → Below w.heap.size w w' → Calls Try.prog g #[x.val, cp] w' fun e w'' => e = .returned (.bool (p x)) ∧ Below w'.heap.size w' w'') :
    Calls Try.prog 52 #[.slice a l.length c, .func (.func g) #[] #[cp]] w fun e w' => e = .returned (.int .i64 (idxR p l)) ∧ Below w.heap.size w w' := by
  have hb3 := hl.2.2
  rcases hl.form with rfl | ⟨b, o, rfl⟩
  · clear hp
    go_enter Try.func52, Try.ntmps52
    go_wp2
    go_loop [8] (fun i => i = .int .i64 0) (fun _ => 0)
    case atStart => rfl
    case round =>
      subst hrel
      go_wp2
      go_ret
      exact ⟨rfl, by repeat (first | with_reducible exact Below.refl _ _ | with_reducible refine balloc ?_ _ | with_reducible refine bdrew ?_ | with_reducible refine bset' ?_ (by omega) _ | with_reducible refine bthen ?_ (by assumption))⟩
  have HP := hidR hp
  clear hp
  go_enter Try.func52, Try.ntmps52
  go_wp2
  go_loopw [8] (fun i wr => ∃ k : Nat, k ≤ l.length ∧ i = .int .i64 k ∧ (∀ j (hj : j < l.length), j < k → p l[j] = false) ∧ Below w.heap.size w wr) (fun i _ => l.length - (intOf i).toNat)
  case atStart => exact ⟨0, by omega, rfl, fun j hj h => absurd h (Nat.not_lt_zero _), Below.refl _ _⟩
  case round =>
    obtain ⟨k, hk, rfl, hno, HB⟩ := hrel
    have HN := hidR hno
    clear hno
    by_cases hlt : k < l.length
    · obtain ⟨c0, c1, c2, c3, c4, c5⟩ := (hl.later HB).cells hlt
      have hq := HP.out l[k] wr (List.getElem_mem hlt) HB
      cases hpk : p l[k]
      · rw [hpk] at hq
        have HQ := hidR hq
        clear hq
        go_wp2_with fail
        refine Calls.mono HQ.out ?_
        rintro e w1 ⟨rfl, hb⟩
        go_wp2
        go_roundw
        case rel => exact ⟨k + 1, by omega, by go_num, fun j hj h => by by_cases e : j = k; (subst e; exact hpk); exact HN.out j hj (by omega), bthen HB hb⟩
        case measure => simp [intOf]; omega
      · rw [hpk] at hq
        have HQ := hidR hq
        clear hq
        go_wp2_with fail
        refine Calls.mono HQ.out ?_
        rintro e w1 ⟨rfl, hb⟩
        go_wp2
        go_ret
        exact ⟨ret_int (idxR_found hlt hpk (fun j hj => HN.out j (by omega) hj)).symm, bthen HB hb⟩
    · go_wp2
      go_ret
      exact ⟨ret_int (idxR_none (fun j hj => HN.out j hj (by omega))).symm, HB⟩

set_option maxHeartbeats 1000000 in
theorem containsR_any (g : Nat) (eg : ∀ args w, (callFunc g args).run Try.prog w = .ok (.enter g args) w) (cp : Value) (p : Rq → Bool) (l : List Rq) (a : Option Addr) (c : Nat) (w : World) (hl : ReqsAt w a l)
    (hp : ∀ (x : Rq) w', x ∈ l → Below w.heap.size w w' → Calls Try.prog g #[x.val, cp] w' fun e w'' => e = .returned (.bool (p x)) ∧ Below w'.heap.size w' w'') (t : Bool) (ht : l.any p = t) :
    Calls Try.prog 34 #[.slice a l.length c, .func (.func g) #[] #[cp]] w fun e w' => e = .returned (.bool t) ∧ Below w.heap.size w w' := by
  have HT := hidR ((idxR_any p l).trans ht)
  clear ht
  have HP := hidR hp
  clear hp
  go_enter Try.func34, Try.ntmps34
  go_wp2_with fail
  refine (indexR_any g eg cp p l a c _ hl HP.out).mono ?_
  rintro e w1 ⟨rfl, HB⟩
  go_wp2
  go_ret
  exact ⟨ret_bool HT.out, by repeat (first | with_reducible exact Below.refl _ _ | with_reducible refine balloc ?_ _ | with_reducible refine bdrew ?_ | with_reducible refine bset' ?_ (by omega) _ | with_reducible refine bthen ?_ (by assumption))⟩

set_option maxHeartbeats 400000 in
theorem meets_any (x r : Rq) (pb : Nat) (w : World) (h1 : w.cell? ⟨pb, 1, none⟩ = some (.int .i64 r.f)) (h2 : w.cell? ⟨pb, 2, none⟩ = some (.int .i64 r.m)) :
    Calls Try.prog 33 #[x.val, .pointer (some ⟨pb, 0, none⟩)] w fun e w' => e = .returned (.bool (meetB x.f x.m r.f r.m)) ∧ Below w.heap.size w w' := by
  have h1' := alloc_cell h1
  have h2' := alloc_cell h2
  go_enter Try.func33, Try.ntmps33
  go_wp2_with fail
  go_at_call 7; refine (meet_eq _ _ _ _ _ _ rfl).mono ?_; rintro e w1 ⟨rfl, hb⟩; (try clear hc hf hz); (first | replace HB := bthen HB hb | replace HB := bthen (bdrew HB) hb | have HB := hb); clear hb; obtain ⟨hc, hf, hz⟩ := bcell HB
  go_wp2
  go_ret
  exact ⟨rfl, by repeat (first | with_reducible exact Below.refl _ _ | with_reducible refine balloc ?_ _ | with_reducible refine bdrew ?_ | with_reducible refine bset' ?_ (by omega) _ | with_reducible refine bthen ?_ (by assumption))⟩

/-! ### Clone -/
/-- A list of requests of the call's own: it lies in new memory, that may be written. -/
structure NewReqs (base : Nat) (w : World) (a : Option Addr) (c : Nat) (l : List Rq) : Prop where
  here : ReqsAt w a l
  cap : l.length ≤ c
  capM : c ≤ 9223372036854775807
  nil : a = none → c = 0
  own : w.ownsRow base 36 6 (.slice a l.length c) l.length (rcells l)
theorem newR_of_owned {w : World} {base : Nat} {v : Value} {l : List Rq} {n : Nat} (h : w.ownsRow base 36 6 v n (rcells l)) (hat : ∀ r ∈ l, r.At w) (hn : n = l.length) (hb : l.length ≤ 9223372036854775807) :
    ∃ a c, v = .slice a l.length c ∧ NewReqs base w a c l := by
  have h' := h
  obtain ⟨a, c, rfl, h1, h2, h3, h4, _⟩ := reqs_of_owned h hat hn hb
  subst hn
  exact ⟨a, c, rfl, ⟨h1, h2, h3, h4, h'⟩⟩
theorem NewReqs.place {base : Nat} {w : World} {a : Option Addr} {c : Nat} {l : List Rq} (h : NewReqs base w a c l) (hl : l ≠ []) : ∃ b, a = some ⟨b, 0, none⟩ ∧ base ≤ b ∧ b < w.heap.size ∧ ∀ o, w.frozen? ⟨b, o, none⟩ = false := by
  rcases h.own.2 with ⟨h1, h2⟩ | ⟨g, cap, cur, h1, hg, hh, hnc, hcm, hcs, ht⟩
  · exact absurd (List.eq_nil_of_length_eq_zero h2) hl
  · simp only [Value.slice.injEq] at h1
    refine ⟨g, h1.1, hg, ?_, fun o => by simp [World.frozen?, hh]⟩
    rcases Nat.lt_or_ge g w.heap.size with h' | h'
    · exact h'
    · rw [Array.getElem?_eq_none h'] at hh; cases hh

theorem ReqsAt.rowAll' {w : World} {a : Option Addr} {c : Nat} {l : List Rq} (h : ReqsAt w a l) (hn : a = none → c = 0) : RowAt w 6 a l.length c (rcells l) := by
  rcases h.1 with rfl | ⟨b, o, rfl, hc⟩
  · cases a with
    | none => exact ⟨rfl, by simp [rcells], Or.inl ⟨rfl, rfl, hn rfl⟩⟩
    | some ad => exact ⟨rfl, by simp [rcells], Or.inr ⟨ad, rfl, fun j u h => by simp [rcells] at h⟩⟩
  · have := h.row (c := c) [] l [] (by simp)
    simpa using this

set_option maxRecDepth 100000 in
set_option maxHeartbeats 1000000 in
theorem cloneR_any (l : List Rq) (a : Option Addr) (c : Nat) (w : World) (hl : ReqsAt w a l) (hn : a = none → c = 0) (h10 : l.length ≤ 100000) :
    Calls Try.prog 36 #[.slice a l.length c] w fun e w' => ∃ a' c', e = .returned (.slice a' l.length c') ∧ NewReqs w.heap.size w' a' c' l ∧ Below w.heap.size w w' := by
  obtain ⟨i, hi, hz0, hz1, hz2⟩ := pluck infoR
  have R := hl.rowAll' hn
  have q22 : ∀ (w : World) (a : Option Addr) (n c n' c' : Nat), (binOp .eql 32 (.slice a n c) (.slice none n' c')).run Try.prog w = .ok (.bool a.isNone) w := fun w a n c n' c' => Lib.run_eql_slice_nil w _ _ a n c n' c' Try.underlying32
  cases a with
  | none =>
    obtain rfl := hn rfl
    have hl0 : l = [] := by
      rcases hl.form with h | ⟨b, o, h⟩
      · exact h
      · cases h
    subst hl0
    go_enter Try.func36, Try.ntmps36
    go_wp2
    go_ret
    exact ⟨none, 0, rfl, ⟨⟨Or.inl rfl, by simp, by simp⟩, by simp, by simp, fun _ => rfl, World.ownsRow_nil _ _ _ _⟩, by repeat (first | with_reducible exact Below.refl _ _ | with_reducible refine balloc ?_ _ | with_reducible refine bdrew ?_ | with_reducible refine bset' ?_ (by omega) _ | with_reducible refine bthen ?_ (by assumption))⟩
  | some ad =>
    go_enter Try.func36, Try.ntmps36
    go_wp2_with (at_builtin; refine wpList_append_row rfl _ _ 32 rfl w.heap.size 36 i _ 6 80 Try.underlying32 hi hz0 hz1 hz2 rfl (by decide) _ 0 [] rfl (World.ownsRow_made _ _ _ (Nat.le_refl _) (by unfold maxLen; omega) (by simp)) (some ad) l.length c (rcells l) rfl (R.later (by repeat (first | with_reducible exact Below.refl _ _ | with_reducible refine balloc ?_ _ | with_reducible refine bdrew ?_ | with_reducible refine bset' ?_ (by omega) _ | with_reducible refine bthen ?_ (by assumption)))) (by unfold maxLen; omega) (by omega) (by simp) ?_; intro v1 w2 hown1 hb1)
    rw [Nat.zero_add, List.nil_append] at hown1
    have HB : Below w.heap.size w w2 := (balloc (Below.refl _ _) _).trans hb1
    obtain ⟨a', c', rfl, hN⟩ := newR_of_owned hown1 (fun r hr => (hl.2.1 r hr).later HB) rfl (by omega)
    go_wp2
    go_ret
    exact ⟨a', c', rfl, hN, HB⟩
end Go.Proofs.Ytfdmchhaiikeaaa
