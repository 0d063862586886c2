/- Two requests as one: what it has. -/
import Derived.Test.YtgjkdhedkbkagaaGreatJ18
import Derived.Test.YtgjkdhedkbkagaaGreatJ19
import Derived.Test.YtgjkdhedkbkagaaGreatJ20
import Derived.Test.YtgjkdhedkbkagaaGreatJ21
import Derived.Test.YtgjkdhedkbkagaaGreatJ22
import Derived.Test.YtgjkdhedkbkagaaGreatJ5
import Derived.Lib.SliceRun
import Derived.Deep.RegionHeld3
import Derived.Deep.RegionLawGrows
import Derived.Test.YtgjkdhedkbkagaaGreatJ11
import Derived.Test.YtgjkdhedkbkagaaGreatJ13
import Derived.Test.YtgjkdhedkbkagaaGreatJ17
namespace Go.Proofs.YtgjkdhedkbkagaaGreat
open Go.RowKit
set_option maxRecDepth 100000

theorem tog_iff {a b : Rq} : togB a b = true ↔ a.f + a.m = b.f ∧ a.wr = b.wr ∧ a.m + b.m ≤ 4 ∧ a.tags.length + b.tags.length ≤ 4 := by
  simp only [togB, Bool.and_eq_true, decide_eq_true_eq, beq_iff_eq]
theorem Good.shapeW {r : Rq} (h : Good r) (hw : r.wr = true) : (r.data.length : Int) = r.m := by
  have := h.shape
  simpa [shapeB, hw] using this
theorem Good.shapeR {r : Rq} (h : Good r) (hw : r.wr = false) : r.data = [] := by
  have := h.shape
  simpa [shapeB, hw] using this

theorem IsBoth.good {a b q : Rq} (ga : Good a) (gb : Good b) (h : IsBoth a b q) (ht : togB a b = true) : Good q := by
  obtain ⟨t1, t2, t3, t4⟩ := tog_iff.1 ht
  have ba := ga.bnd
  have bb := gb.bnd
  have hm := h.m
  have hf := h.f
  refine ⟨?_, ?_, ?_, ?_, ?_, ?_, ?_⟩
  · simp only [okB, decide_eq_true_eq]; omega
  · unfold shapeB
    rw [h.wr, h.data, List.length_append, hm]
    cases hw : a.wr
    · rw [ga.shapeR hw, gb.shapeR (t2 ▸ hw)]; rfl
    · have := ga.shapeW hw
      have := gb.shapeW (t2 ▸ hw)
      simp only [if_true, decide_eq_true_eq]; omega
  · rw [h.tags, List.length_append]; have := ga.t1; omega
  · rw [h.tags, List.length_append]; omega
  · rw [h.born]; have := ga.b0; have := gb.b0; omega
  · rw [h.born]; have := ga.b1; omega
  · have s1 := ga.small
    have s2 := gb.small
    unfold small4 at *
    rw [h.data, List.all_append, s1, s2]; rfl

/-- All that both have. -/
structure Joined (a b q : Rq) : Prop where
  good : Good q
  wra : q.wr = a.wr
  wrb : q.wr = b.wr
  m : q.m = a.m + b.m
  tags : q.tags.length = a.tags.length + b.tags.length
  borna : q.born ≤ a.born
  bornb : q.born ≤ b.born
  has : ∀ at' : Int, inSpan q.f q.m at' = (inSpan a.f a.m at' || inSpan b.f b.m at')
  ina : q.wr = true → ∀ at' : Int, inSpan a.f a.m at' = true → ∃ i j : Nat, at' - a.f = i ∧ at' - q.f = j ∧ ∃ (hi : i < a.data.length) (hj : j < q.data.length), q.data[j] = a.data[i]
  inb : q.wr = true → ∀ at' : Int, inSpan b.f b.m at' = true → ∃ i j : Nat, at' - b.f = i ∧ at' - q.f = j ∧ ∃ (hi : i < b.data.length) (hj : j < q.data.length), q.data[j] = b.data[i]

theorem IsBoth.joined {a b q : Rq} (ga : Good a) (gb : Good b) (h : IsBoth a b q) (ht : togB a b = true) : Joined a b q := by
  obtain ⟨t1, t2, t3, t4⟩ := tog_iff.1 ht
  have ba := ga.bnd
  have bb := gb.bnd
  refine ⟨h.good ga gb ht, h.wr, h.wr.trans t2, h.m, by rw [h.tags, List.length_append], ?_, ?_, ?_, ?_, ?_⟩
  · rw [h.born]; omega
  · rw [h.born]; omega
  · intro at'
    rw [h.f, h.m, Bool.eq_iff_iff]
    simp only [inSpan, Bool.or_eq_true, decide_eq_true_eq]
    omega
  · intro hw at' hat
    simp only [inSpan, decide_eq_true_eq] at hat
    have l1 := ga.shapeW (h.wr ▸ hw)
    refine ⟨(at' - a.f).toNat, (at' - a.f).toNat, by omega, by rw [h.f]; omega, by omega, by rw [h.data, List.length_append]; omega, ?_⟩
    simp only [h.data]
    rw [List.getElem_append_left (by omega)]
  · intro hw at' hat
    simp only [inSpan, decide_eq_true_eq] at hat
    have l1 := ga.shapeW (h.wr ▸ hw)
    have l2 := gb.shapeW (t2 ▸ (h.wr ▸ hw))
    refine ⟨(at' - b.f).toNat, (at' - a.f).toNat, by omega, by rw [h.f]; omega, by omega, by rw [h.data, List.length_append]; omega, ?_⟩
    simp only [h.data]
    rw [List.getElem_append_right (by omega)]
    congr 1
    omega
theorem Joined.swap {a b q : Rq} (h : Joined a b q) : Joined b a q :=
  ⟨h.good, h.wrb, h.wra, by rw [h.m]; omega, by rw [h.tags]; omega, h.bornb, h.borna, fun at' => by rw [h.has, Bool.or_comm], h.inb, h.ina⟩

theorem IsBoth.same {a b q r : Rq} (h : IsBoth a b q) (k : IsBoth a b r) : sameB q r = true := by
  unfold sameB eqS eqN
  rw [h.wr, h.f, h.m, h.data, h.tags, h.born, k.wr, k.f, k.m, k.data, k.tags, k.born]
  simp
/-- They go together just one way round. -/
theorem tog_one {a b : Rq} (ga : Good a) (gb : Good b) (h : togB a b = true) : (wrap64 (b.f + b.m) == a.f) = false ∧ (wrap64 (a.f + a.m) == b.f) = true := by
  obtain ⟨t1, _⟩ := tog_iff.1 h
  have ba := ga.bnd
  have bb := gb.bnd
  rw [wrap_sum (by omega) (by omega) (by omega) (by omega), wrap_sum (by omega) (by omega) (by omega) (by omega)]
  constructor
  · rw [beq_eq_false_iff_ne]; omega
  · rw [beq_iff_eq]; exact t1
end Go.Proofs.YtgjkdhedkbkagaaGreat
/- request.Merge of two requests that may be: what B2 says, either way round. -/
namespace Go.Proofs.YtgjkdhedkbkagaaGreat
open Go.RowKit Go.BigFrame
set_option maxRecDepth 100000
attribute [local go_sem] Later.cell Later.frozen

set_option maxRecDepth 100000 in
set_option maxHeartbeats 4000000 in
theorem merge_no2 (a b : Rq) (w : World) (ga : Good a) (gb : Good b) (h1 : (wrap64 (a.f + a.m) == b.f) = true) (h2 : togB a b = false) :
    Calls Tryz.prog 98 #[b.val, a.val] w fun e w' => e = .returned (.tuple #[noReq, .bool false]) ∧ Below w.heap.size w w' := by
  go_enter Tryz.func98, Tryz.ntmps98; go_wp2_with fail; (go_at_call 114; refine (next_eq _ _ _ _ _ _ h1).mono ?_; rintro e w0 ⟨rfl, hb0⟩); obtain ⟨T1, T2, T3, hw0⟩ := three6 b a hb0; obtain ⟨U1, U2⟩ := three6z b a hb0; have HB0 : Below w.heap.size w w0 := (by repeat (first | with_reducible exact Below.refl _ _ | with_reducible refine balloc ?_ _ | with_reducible refine bdrew ?_ | with_reducible refine bset' ?_ (by omega) _ | with_reducible refine bthen ?_ (by assumption))); clear hb0; obtain ⟨p0, p1, p2, p3, p4, p5⟩ := id T1; obtain ⟨q0, q1, q2, q3, q4, q5⟩ := id T2; obtain ⟨i0, i1, i2, i3, i4, i5⟩ := U1.2; obtain ⟨j0, j1, j2, j3, j4, j5⟩ := U2.2; go_wp2_with fail; refine (tog_eq a b _ ga gb _ h2).mono ?_; rintro e w1 ⟨rfl, hb1⟩; have HB1 : Below w.heap.size w w1 := (by repeat (first | with_reducible exact Below.refl _ _ | with_reducible refine balloc ?_ _ | with_reducible refine bdrew ?_ | with_reducible refine bset' ?_ (by omega) _ | with_reducible refine bthen ?_ (by assumption))); have hs1 := hb1.size; simp only [World.size_setCell] at hs1; have hb1' : Below (set6 (set6 w0 w.heap.size (.bool a.wr) (.int .i64 a.f) (.int .i64 a.m) (.slice a.da a.data.length a.dc) (.slice a.ta a.tags.length a.tc) (.int .i64 a.born)) (w.heap.size + 1) (.bool b.wr) (.int .i64 b.f) (.int .i64 b.m) (.slice b.da b.data.length b.dc) (.slice b.ta b.tags.length b.tc) (.int .i64 b.born)).heap.size (set6 (set6 w0 w.heap.size (.bool a.wr) (.int .i64 a.f) (.int .i64 a.m) (.slice a.da a.data.length a.dc) (.slice a.ta a.tags.length a.tc) (.int .i64 a.born)) (w.heap.size + 1) (.bool b.wr) (.int .i64 b.f) (.int .i64 b.m) (.slice b.da b.data.length b.dc) (.slice b.ta b.tags.length b.tc) (.int .i64 b.born)) w1 := hb1; obtain ⟨S1, S2, S3⟩ := swapped6 a b U1 U2 T3 hb1'; have hws : w.heap.size + 3 ≤ w1.heap.size := (by omega); clear hb1 hb1' HB0 T1 T2 T3 U1 U2 p0 p1 p2 p3 p4 p5 q0 q1 q2 q3 q4 q5 i0 i1 i2 i3 i4 i5 j0 j1 j2 j3 j4 j5; obtain ⟨p0, p1, p2, p3, p4, p5⟩ := id S1; obtain ⟨q0, q1, q2, q3, q4, q5⟩ := id S2; obtain ⟨⟨z0, z1, z2, z3, z4, z5⟩, ⟨f0, f1, f2, f3, f4, f5⟩⟩ := id S3
  have Z : Zix w1 (w.heap.size + 1 + 1) := S3
  obtain ⟨m0, m1, m2, m3, m4, m5⟩ := set6_cells Z (.bool false) (.int .i64 0) (.int .i64 0) (.slice none 0 0) (.slice none 0 0) (.int .i64 0)
  unfold set6 at m0 m1 m2 m3 m4 m5
  go_wp2
  refine bodyPost_ret (v := .tuple #[noReq, .bool false]) ?_ rfl ⟨rfl, by repeat (first | with_reducible exact Below.refl _ _ | with_reducible refine balloc ?_ _ | with_reducible refine bdrew ?_ | with_reducible refine bset' ?_ (by omega) _ | with_reducible refine bthen ?_ (by assumption))⟩
  simp [results, Tryz.results98, go_sem, m0, m1, m2, m3, m4, m5]

theorem merge_false (a b : Rq) (w : World) (ga : Good a) (gb : Good b) (h : togB a b = false) (h' : togB b a = false) :
    Calls Tryz.prog 98 #[a.val, b.val] w fun e w' => e = .returned (.tuple #[noReq, .bool false]) ∧ Below w.heap.size w w' := by
  cases h1 : (wrap64 (b.f + b.m) == a.f)
  · exact merge_no a b w ga gb h1 h
  · exact merge_no2 b a w gb ga h1 h'
theorem merge_trueN (a b : Rq) (w : World) (ga : Good a) (gb : Good b) (ha : a.At w) (hb : b.At w) (h : togB a b = true) :
    Calls Tryz.prog 98 #[a.val, b.val] w fun e w' => ∃ q : Rq, e = .returned (.tuple #[q.val, .bool true]) ∧ IsBoth a b q ∧ q.At w' ∧ FreshQ q w.heap.size ∧ Below w.heap.size w w' := by
  rcases Decidable.em (b.born < a.born) with hm | hm
  · exact merge_yes1 a b w ga gb ha hb (tog_one ga gb h).1 h _ rfl _ rfl hm
  · exact merge_yes2 a b w ga gb ha hb (tog_one ga gb h).1 h _ rfl _ rfl hm
theorem merge_trueN' (a b : Rq) (w : World) (ga : Good a) (gb : Good b) (ha : a.At w) (hb : b.At w) (h : togB a b = true) :
    Calls Tryz.prog 98 #[b.val, a.val] w fun e w' => ∃ q : Rq, e = .returned (.tuple #[q.val, .bool true]) ∧ IsBoth a b q ∧ q.At w' ∧ FreshQ q w.heap.size ∧ Below w.heap.size w w' := by
  rcases Decidable.em (b.born < a.born) with hm | hm
  · exact merge_swap1 a b w ga gb ha hb (tog_one ga gb h).2 h _ rfl _ rfl hm
  · exact merge_swap2 a b w ga gb ha hb (tog_one ga gb h).2 h _ rfl _ rfl hm
end Go.Proofs.YtgjkdhedkbkagaaGreat
/- Does a request meet one of those that wait: slices.IndexFunc, ContainsFunc over requests, Add's closure; slices.Clone of requests. -/
namespace Go.Proofs.YtgjkdhedkbkagaaGreat
open Go.RowKit Go.BigFrame
set_option maxRecDepth 100000
attribute [local go_sem] Later.cell Later.frozen

theorem hidR {p : Prop} (h : p) : Hid p := h
/-- The first one that fits; -1: none. -/
def idxR (p : Rq → Bool) (l : List Rq) : Int := match l.findIdx? p with | some k => (k : Int) | none => -1
theorem idxR_found {p : Rq → Bool} {l : List Rq} {k : Nat} (h : k < l.length) (hp : p l[k] = true) (hb : ∀ j (hj : j < k), p (l[j]'(by omega)) = false) : idxR p l = k := by
  have : l.findIdx? p = some k := by
    rw [List.findIdx?_eq_some_iff_getElem]
    exact ⟨h, hp, fun j hj => by rw [hb j hj]; exact Bool.false_ne_true⟩
  rw [idxR, this]
theorem idxR_none {p : Rq → Bool} {l : List Rq} (h : ∀ j (hj : j < l.length), p l[j] = false) : idxR p l = -1 := by
  have : l.findIdx? p = none := by
    rw [List.findIdx?_eq_none_iff]
    intro x hx
    obtain ⟨j, hj, rfl⟩ := List.getElem_of_mem hx
    exact h j hj
  rw [idxR, this]
theorem idxR_any (p : Rq → Bool) (l : List Rq) : decide (0 ≤ idxR p l) = l.any p := by
  cases e : l.findIdx? p with
  | none =>
    rw [idxR, e]
    rw [List.findIdx?_eq_none_iff] at e
    have : l.any p = false := by rw [List.any_eq_false]; intro x hx; rw [e x hx]; exact Bool.false_ne_true
    rw [this]; rfl
  | some k =>
    rw [idxR, e]
    rw [List.findIdx?_eq_some_iff_getElem] at e
    obtain ⟨h1, h2, _⟩ := e
    have : l.any p = true := by rw [List.any_eq_true]; exact ⟨l[k], List.getElem_mem h1, h2⟩
    rw [this]; simp

set_option maxHeartbeats 1000000 in
theorem indexR_any (g : Nat) (eg : ∀ args w, (callFunc g args).run Tryz.prog w = .ok (.enter g args) w) (cp : Value) (p : Rq → Bool) (l : List Rq) (a : Option Addr) (c : Nat) (w : World) (hl : ReqsAt w a l)
    (hp : ∀ (x : Rq) w', x ∈ l → Below w.heap.size w w' → Calls Tryz.prog g #[x.val, cp] w' fun e w'' => e = .returned (.bool (p x)) ∧ Below w'.heap.size w' w'') :
    Calls Tryz.prog 93 #[.slice a l.length c, .func (.func g) #[] #[cp]] w fun e w' => e = .returned (.int .i64 (idxR p l)) ∧ Below w.heap.size w w' := by
  have hb3 := hl.2.2
  rcases hl.form with rfl | ⟨b, o, rfl⟩
  · clear hp
    go_enter Tryz.func93, Tryz.ntmps93
    go_wp2
    go_loop [8] (fun i => i = .int .i64 0) (fun _ => 0)
    case atStart => rfl
    case round =>
      subst hrel
      go_wp2
      go_ret
      exact ⟨rfl, by repeat (first | with_reducible exact Below.refl _ _ | with_reducible refine balloc ?_ _ | with_reducible refine bdrew ?_ | with_reducible refine bset' ?_ (by omega) _ | with_reducible refine bthen ?_ (by assumption))⟩
  have HP := hidR hp
  clear hp
  go_enter Tryz.func93, Tryz.ntmps93
  go_wp2
  go_loopw [8] (fun i wr => ∃ k : Nat, k ≤ l.length ∧ i = .int .i64 k ∧ (∀ j (hj : j < l.length), j < k → p l[j] = false) ∧ Below w.heap.size w wr) (fun i _ => l.length - (intOf i).toNat)
  case atStart => exact ⟨0, by omega, rfl, fun j hj h => absurd h (Nat.not_lt_zero _), Below.refl _ _⟩
  case round =>
    obtain ⟨k, hk, rfl, hno, HB⟩ := hrel
    have HN := hidR hno
    clear hno
    by_cases hlt : k < l.length
    · obtain ⟨c0, c1, c2, c3, c4, c5⟩ := (hl.later HB).cells hlt
      have hq := HP.out l[k] wr (List.getElem_mem hlt) HB
      cases hpk : p l[k]
      · rw [hpk] at hq
        have HQ := hidR hq
        clear hq
        go_wp2_with fail
        refine Calls.mono HQ.out ?_
        rintro e w1 ⟨rfl, hb⟩
        go_wp2
        go_roundw
        case rel => exact ⟨k + 1, by omega, by go_num, fun j hj h => by by_cases e : j = k; (subst e; exact hpk); exact HN.out j hj (by omega), bthen HB hb⟩
        case measure => simp [intOf]; omega
      · rw [hpk] at hq
        have HQ := hidR hq
        clear hq
        go_wp2_with fail
        refine Calls.mono HQ.out ?_
        rintro e w1 ⟨rfl, hb⟩
        go_wp2
        go_ret
        exact ⟨ret_int (idxR_found hlt hpk (fun j hj => HN.out j (by omega) hj)).symm, bthen HB hb⟩
    · go_wp2
      go_ret
      exact ⟨ret_int (idxR_none (fun j hj => HN.out j hj (by omega))).symm, HB⟩

set_option maxHeartbeats 1000000 in
theorem containsR_any (g : Nat) (eg : ∀ args w, (callFunc g args).run Tryz.prog w = .ok (.enter g args) w) (cp : Value) (p : Rq → Bool) (l : List Rq) (a : Option Addr) (c : Nat) (w : World) (hl : ReqsAt w a l)
    (hp : ∀ (x : Rq) w', x ∈ l → Below w.heap.size w w' → Calls Tryz.prog g #[x.val, cp] w' fun e w'' => e = .returned (.bool (p x)) ∧ Below w'.heap.size w' w'') (t : Bool) (ht : l.any p = t) :
    Calls Tryz.prog 70 #[.slice a l.length c, .func (.func g) #[] #[cp]] w fun e w' => e = .returned (.bool t) ∧ Below w.heap.size w w' := by
  have HT := hidR ((idxR_any p l).trans ht)
  clear ht
  have HP := hidR hp
  clear hp
  go_enter Tryz.func70, Tryz.ntmps70
  go_wp2_with fail
  refine (indexR_any g eg cp p l a c _ hl HP.out).mono ?_
  rintro e w1 ⟨rfl, HB⟩
  go_wp2
  go_ret
  exact ⟨ret_bool HT.out, by repeat (first | with_reducible exact Below.refl _ _ | with_reducible refine balloc ?_ _ | with_reducible refine bdrew ?_ | with_reducible refine bset' ?_ (by omega) _ | with_reducible refine bthen ?_ (by assumption))⟩

set_option maxHeartbeats 400000 in
theorem meets_any (x r : Rq) (pb : Nat) (w : World) (h1 : w.cell? ⟨pb, 1, none⟩ = some (.int .i64 r.f)) (h2 : w.cell? ⟨pb, 2, none⟩ = some (.int .i64 r.m)) :
    Calls Tryz.prog 97 #[x.val, .pointer (some ⟨pb, 0, none⟩)] w fun e w' => e = .returned (.bool (meetB x.f x.m r.f r.m)) ∧ Below w.heap.size w w' := by
  have h1' := alloc_cell h1
  have h2' := alloc_cell h2
  go_enter Tryz.func97, Tryz.ntmps97
  go_wp2_with fail
  go_at_call 22; refine (meet_eq _ _ _ _ _ _ rfl).mono ?_; rintro e w1 ⟨rfl, hb⟩; (try clear hc hf hz); (first | replace HB := bthen HB hb | replace HB := bthen (bdrew HB) hb | have HB := hb); clear hb; obtain ⟨hc, hf, hz⟩ := bcell HB
  go_wp2
  go_ret
  exact ⟨rfl, by repeat (first | with_reducible exact Below.refl _ _ | with_reducible refine balloc ?_ _ | with_reducible refine bdrew ?_ | with_reducible refine bset' ?_ (by omega) _ | with_reducible refine bthen ?_ (by assumption))⟩

/-! ### Clone -/
/-- A list of requests of the call's own: it lies in new memory, that may be written. -/
structure NewReqs (base : Nat) (w : World) (a : Option Addr) (c : Nat) (l : List Rq) : Prop where
  here : ReqsAt w a l
  cap : l.length ≤ c
  capM : c ≤ 9223372036854775807
  nil : a = none → c = 0
  own : w.ownsRow base 44 6 (.slice a l.length c) l.length (rcells l)
theorem newR_of_owned {w : World} {base : Nat} {v : Value} {l : List Rq} {n : Nat} (h : w.ownsRow base 44 6 v n (rcells l)) (hat : ∀ r ∈ l, r.At w) (hn : n = l.length) (hb : l.length ≤ 9223372036854775807) :
    ∃ a c, v = .slice a l.length c ∧ NewReqs base w a c l := by
  have h' := h
  obtain ⟨a, c, rfl, h1, h2, h3, h4, _⟩ := reqs_of_owned h hat hn hb
  subst hn
  exact ⟨a, c, rfl, ⟨h1, h2, h3, h4, h'⟩⟩
theorem NewReqs.place {base : Nat} {w : World} {a : Option Addr} {c : Nat} {l : List Rq} (h : NewReqs base w a c l) (hl : l ≠ []) : ∃ b, a = some ⟨b, 0, none⟩ ∧ base ≤ b ∧ b < w.heap.size ∧ ∀ o, w.frozen? ⟨b, o, none⟩ = false := by
  rcases h.own.2 with ⟨h1, h2⟩ | ⟨g, cap, cur, h1, hg, hh, hnc, hcm, hcs, ht⟩
  · exact absurd (List.eq_nil_of_length_eq_zero h2) hl
  · simp only [Value.slice.injEq] at h1
    refine ⟨g, h1.1, hg, ?_, fun o => by simp [World.frozen?, hh]⟩
    rcases Nat.lt_or_ge g w.heap.size with h' | h'
    · exact h'
    · rw [Array.getElem?_eq_none h'] at hh; cases hh

theorem ReqsAt.rowAll' {w : World} {a : Option Addr} {c : Nat} {l : List Rq} (h : ReqsAt w a l) (hn : a = none → c = 0) : RowAt w 6 a l.length c (rcells l) := by
  rcases h.1 with rfl | ⟨b, o, rfl, hc⟩
  · cases a with
    | none => exact ⟨rfl, by simp [rcells], Or.inl ⟨rfl, rfl, hn rfl⟩⟩
    | some ad => exact ⟨rfl, by simp [rcells], Or.inr ⟨ad, rfl, fun j u h => by simp [rcells] at h⟩⟩
  · have := h.row (c := c) [] l [] (by simp)
    simpa using this

set_option maxRecDepth 100000 in
set_option maxHeartbeats 1000000 in
theorem cloneR_any (l : List Rq) (a : Option Addr) (c : Nat) (w : World) (hl : ReqsAt w a l) (hn : a = none → c = 0) (h10 : l.length ≤ 100000) :
    Calls Tryz.prog 43 #[.slice a l.length c] w fun e w' => ∃ a' c', e = .returned (.slice a' l.length c') ∧ NewReqs w.heap.size w' a' c' l ∧ Below w.heap.size w w' := by
  obtain ⟨i, hi, hz0, hz1, hz2⟩ := pluck infoR
  have R := hl.rowAll' hn
  have q22 : ∀ (w : World) (a : Option Addr) (n c n' c' : Nat), (binOp .eql 35 (.slice a n c) (.slice none n' c')).run Tryz.prog w = .ok (.bool a.isNone) w := fun w a n c n' c' => Lib.run_eql_slice_nil w _ _ a n c n' c' Tryz.underlying35
  cases a with
  | none =>
    obtain rfl := hn rfl
    have hl0 : l = [] := by
      rcases hl.form with h | ⟨b, o, h⟩
      · exact h
      · cases h
    subst hl0
    go_enter Tryz.func43, Tryz.ntmps43
    go_wp2
    go_ret
    exact ⟨none, 0, rfl, ⟨⟨Or.inl rfl, by simp, by simp⟩, by simp, by simp, fun _ => rfl, World.ownsRow_nil _ _ _ _⟩, by repeat (first | with_reducible exact Below.refl _ _ | with_reducible refine balloc ?_ _ | with_reducible refine bdrew ?_ | with_reducible refine bset' ?_ (by omega) _ | with_reducible refine bthen ?_ (by assumption))⟩
  | some ad =>
    go_enter Tryz.func43, Tryz.ntmps43
    go_wp2_with (at_builtin; refine wpList_append_row rfl _ _ 35 rfl w.heap.size 44 i _ 6 80 Tryz.underlying35 hi hz0 hz1 hz2 rfl (by decide) _ 0 [] rfl (World.ownsRow_made _ _ _ (Nat.le_refl _) (by unfold maxLen; omega) (by simp)) (some ad) l.length c (rcells l) rfl (R.later (by repeat (first | with_reducible exact Below.refl _ _ | with_reducible refine balloc ?_ _ | with_reducible refine bdrew ?_ | with_reducible refine bset' ?_ (by omega) _ | with_reducible refine bthen ?_ (by assumption)))) (by unfold maxLen; omega) (by omega) (by simp) ?_; intro v1 w2 hown1 hb1)
    rw [Nat.zero_add, List.nil_append] at hown1
    have HB : Below w.heap.size w w2 := (balloc (Below.refl _ _) _).trans hb1
    obtain ⟨a', c', rfl, hN⟩ := newR_of_owned hown1 (fun r hr => (hl.2.1 r hr).later HB) rfl (by omega)
    go_wp2
    go_ret
    exact ⟨a', c', rfl, hN, HB⟩
end Go.Proofs.YtgjkdhedkbkagaaGreat
/- queue.Add: what C1 says. -/
namespace Go.Proofs.YtgjkdhedkbkagaaGreat
open Go.RowKit Go.BigFrame
set_option maxRecDepth 100000
attribute [local go_sem] Later.cell Later.frozen

/-- Do two go together, either way round? -/
def togE (o r : Rq) : Bool := togB o r || togB r o
/-- Both as one, the one with the lower sectors first. -/
def BothE (o r q : Rq) : Prop := (togB o r = true ∧ IsBoth o r q) ∨ (togB o r = false ∧ togB r o = true ∧ IsBoth r o q)
theorem BothE.joined {o r q : Rq} (go : Good o) (gr : Good r) (h : BothE o r q) : Joined o r q := by
  rcases h with ⟨h1, h2⟩ | ⟨_, h1, h2⟩
  · exact h2.joined go gr h1
  · exact (h2.joined gr go h1).swap
theorem mergeN (o r : Rq) (w : World) (go : Good o) (gr : Good r) (h : togE o r = false) :
    Calls Tryz.prog 98 #[o.val, r.val] w fun e w' => e = .returned (.tuple #[noReq, .bool false]) ∧ Below w.heap.size w w' := by
  simp only [togE, Bool.or_eq_false_iff] at h
  exact merge_false o r w go gr h.1 h.2

def meetsB (r o : Rq) : Bool := meetB o.f o.m r.f r.m

theorem six_newA (w : World) (T : TypeId) (a : Rq) : Six (w.alloc (.cells #[.bool a.wr, .int .i64 a.f, .int .i64 a.m, .slice a.da a.data.length a.dc, .slice a.ta a.tags.length a.tc, .int .i64 a.born] T)) w.heap.size a := by
  refine ⟨?_, ?_, ?_, ?_, ?_, ?_⟩ <;> simp
theorem rcheck_nilA (r : Rq) (w : World) (hr : r.At w) (hn : faultR r = 0) : Calls Tryz.prog 96 #[r.val] w fun e w' => e = .returned .nilIface ∧ Below w.heap.size w w' := rcheck_any r w hr 0 hn
set_option maxHeartbeats 1000000 in
theorem add_busy (l : List Rq) (a : Option Addr) (c : Nat) (r : Rq) (w : World) (hl : ReqsAt w a l) (hr : r.At w) (hn : faultR r = 0) (hm : l.any (meetsB r) = true) :
    Calls Tryz.prog 73 #[.slice a l.length c, r.val] w fun e w' => e = .returned (.tuple #[.slice none 0 0, .iface 89 (.int .i64 6)]) ∧ Below w.heap.size w w' := by
  go_enter Tryz.func73, Tryz.ntmps73
  go_wp2_with fail
  refine (rcheck_nilA r _ (hr.later (below1 _ _)) hn).mono ?_
  rintro e w1 ⟨rfl, hb⟩
  have S := (six_newA w 44 r).later hb
  have HS := hid_of S
  go_wp2_with fail
  refine (containsR_any 97 (by intro args w; go_simp) (.pointer (some ⟨w.heap.size, 0, none⟩)) (meetsB r) l a c _ (hl.later (by repeat (first | with_reducible exact Below.refl _ _ | with_reducible refine balloc ?_ _ | with_reducible refine bdrew ?_ | with_reducible refine bset' ?_ (by omega) _ | with_reducible refine bthen ?_ (by assumption)))) (fun x w' _ hb' => meets_any x r w.heap.size w' (cell_later' hb' HS.out.2.1) (cell_later' hb' HS.out.2.2.1)) true hm).mono ?_
  rintro e w2 ⟨rfl, hb2⟩
  go_wp2
  go_ret2
  exact ⟨rfl, by repeat (first | with_reducible exact Below.refl _ _ | with_reducible refine balloc ?_ _ | with_reducible refine bdrew ?_ | with_reducible refine bset' ?_ (by omega) _ | with_reducible refine bthen ?_ (by assumption))⟩

/-! ### six cells of a list are written -/
def set6o (w : World) (b p : Nat) (v0 v1 v2 v3 v4 v5 : Value) : World := (((((w.setCell ⟨b, p, none⟩ v0).setCell ⟨b, p + 1, none⟩ v1).setCell ⟨b, p + 2, none⟩ v2).setCell ⟨b, p + 3, none⟩ v3).setCell ⟨b, p + 4, none⟩ v4).setCell ⟨b, p + 5, none⟩ v5
theorem set6o_out {w : World} {b p : Nat} {v0 v1 v2 v3 v4 v5 : Value} {o : Nat} (h : o < p ∨ p + 6 ≤ o) : (set6o w b p v0 v1 v2 v3 v4 v5).cell? ⟨b, o, none⟩ = w.cell? ⟨b, o, none⟩ := by
  have ne : ∀ i : Nat, i < 6 → ∀ (W : World) (u : Value), (W.setCell ⟨b, p + i, none⟩ u).cell? ⟨b, o, none⟩ = W.cell? ⟨b, o, none⟩ := fun i hi W u => World.cell?_setCell_other _ _ _ _ (fun e => by injection e with _ e _; omega)
  unfold set6o
  rw [ne 5 (by decide), ne 4 (by decide), ne 3 (by decide), ne 2 (by decide), ne 1 (by decide)]
  exact ne 0 (by decide) _ _
theorem set6o_in {w : World} {b p : Nat} (v : Nat → Value) (h : ∀ j, j < 6 → ∃ u, w.cell? ⟨b, p + j, none⟩ = some u) (j : Nat) (hj : j < 6) : (set6o w b p (v 0) (v 1) (v 2) (v 3) (v 4) (v 5)).cell? ⟨b, p + j, none⟩ = some (v j) := by
  have ne : ∀ i j : Nat, i ≠ j → ∀ (W : World) (u : Value), (W.setCell ⟨b, p + i, none⟩ u).cell? ⟨b, p + j, none⟩ = W.cell? ⟨b, p + j, none⟩ := fun i j hij W u => World.cell?_setCell_other _ _ _ _ (fun e => hij (by injection e with _ e _; omega))
  have ne0 : ∀ j : Nat, 0 ≠ j → ∀ (W : World) (u : Value), (W.setCell ⟨b, p, none⟩ u).cell? ⟨b, p + j, none⟩ = W.cell? ⟨b, p + j, none⟩ := fun j hj W u => ne 0 j hj W u
  obtain ⟨u, hu⟩ := h j hj
  unfold set6o
  match j, hj with
  | 0, _ => rw [ne 5 0 (by decide), ne 4 0 (by decide), ne 3 0 (by decide), ne 2 0 (by decide), ne 1 0 (by decide)]; exact World.cell?_setCell_same _ _ _ hu
  | 1, _ => rw [ne 5 1 (by decide), ne 4 1 (by decide), ne 3 1 (by decide), ne 2 1 (by decide)]; exact World.cell?_setCell_same _ _ _ ((ne0 1 (by decide) _ _).trans hu)
  | 2, _ => rw [ne 5 2 (by decide), ne 4 2 (by decide), ne 3 2 (by decide)]; exact World.cell?_setCell_same _ _ _ ((ne 1 2 (by decide) _ _).trans ((ne0 2 (by decide) _ _).trans hu))
  | 3, _ => rw [ne 5 3 (by decide), ne 4 3 (by decide)]; exact World.cell?_setCell_same _ _ _ ((ne 2 3 (by decide) _ _).trans ((ne 1 3 (by decide) _ _).trans ((ne0 3 (by decide) _ _).trans hu)))
  | 4, _ => rw [ne 5 4 (by decide)]; exact World.cell?_setCell_same _ _ _ ((ne 3 4 (by decide) _ _).trans ((ne 2 4 (by decide) _ _).trans ((ne 1 4 (by decide) _ _).trans ((ne0 4 (by decide) _ _).trans hu))))
  | 5, _ => exact World.cell?_setCell_same _ _ _ ((ne 4 5 (by decide) _ _).trans ((ne 3 5 (by decide) _ _).trans ((ne 2 5 (by decide) _ _).trans ((ne 1 5 (by decide) _ _).trans ((ne0 5 (by decide) _ _).trans hu)))))
/-- One of a list is written over. -/
theorem ReqsAt.put {w W : World} {b k : Nat} {l : List Rq} {q : Rq} (h : ReqsAt w (some ⟨b, 0, none⟩) l) (hk : k < l.length) (hat : ∀ r ∈ l, r.At W) (hq : q.At W) (e : W = set6o w b (k * 6) (q.cell 0) (q.cell 1) (q.cell 2) (q.cell 3) (q.cell 4) (q.cell 5)) : ReqsAt W (some ⟨b, 0, none⟩) (l.set k q) := by
  rcases h.1 with rfl | ⟨b', o', ha, hc⟩
  · exact absurd hk (Nat.not_lt_zero _)
  · simp only [Option.some.injEq, Addr.mk.injEq, and_true] at ha
    obtain ⟨rfl, rfl⟩ := ha
    refine ⟨Or.inr ⟨b, 0, rfl, fun i hi m hm => ?_⟩, fun r hr => ?_, by rw [List.length_set]; exact h.2.2⟩
    · have hi' : i < l.length := by simpa using hi
      by_cases ik : i = k
      · subst ik
        rw [List.getElem_set_self, e, Nat.zero_add]
        exact set6o_in (fun j => q.cell j) (fun j hj => ⟨_, by have := hc i hi' j hj; rwa [Nat.zero_add] at this⟩) m hm
      · rw [List.getElem_set_ne (fun h => ik h.symm), e, set6o_out (by omega)]
        exact hc i hi' m hm
    · rcases List.mem_or_eq_of_mem_set hr with hr | rfl
      · exact hat r hr
      · exact hq
end Go.Proofs.YtgjkdhedkbkagaaGreat
/- queue.Add of a request that meets none of those that wait. -/
namespace Go.Proofs.YtgjkdhedkbkagaaGreat
open Go.RowKit Go.BigFrame
set_option maxRecDepth 100000
attribute [local go_sem] Later.cell Later.frozen

/-- 'append(s, xs...)' onto a row of the call's own, as one step of a region that draws. -/
theorem step_append {P : Program} {ops : Array Oper} {o : Oper} {a : Act} {w : World} {K : Act → World → Prop} {Q : Exit → Act → World → Prop} {E : Prop}
    (hg : o.guard = none) (s x : Operand) (t : TypeId) (hop : o.op = Op.call { callee := Callee.builtin Builtin.append, args := #[s, x], argTypes := #[t, t] })
    (base : Nat) (e : TypeId) (i : TypeInfo) (z : Value) (size bytes : Nat) (ht : P.underlying t = some (.slice e)) (hi : P.info? e = some i) (hz : i.zero = some z)
    (hsize : i.size = size) (hby : i.bytes = bytes) (hzs : z.cells.size = size) (hsz : 0 < size)
    (v : Value) (n : Nat) (xs : List Value) (hs : a.eval s = v) (hown : w.ownsRow base e size v n xs)
    (ad : Option Addr) (m c : Nat) (news : List Value) (hx : a.eval x = .slice ad m c) (hrow : RowAt w size ad m c news)
    (h63 : n + m ≤ maxLen) (hbytes : (n + m) * bytes ≤ 140737488355328) (hbase : base ≤ w.heap.size)
    (h : ∀ v' w', w'.ownsRow base e size v' (n + m) (xs ++ news) → Below base w w' → K (a.put o.dst v') w') :
    if Region.wanted o (yielded ops a.tmps) = true then Oper.wp P o a w K Q else E := by
  have hw : Region.wanted o (yielded ops a.tmps) = true := by simp [Region.wanted, hg]
  rw [if_pos hw]
  obtain ⟨h1, h2, h3⟩ := hrow
  rcases h3 with ⟨rfl, rfl, rfl⟩ | ⟨ad', rfl, hc⟩
  · obtain rfl : news = [] := List.eq_nil_of_length_eq_zero (by rw [h1]; simp)
    have hr := run_append_owned_none (P := P) w base t o.type e i size ht hi v n xs hown
    unfold Oper.wp
    simp [execOp, hop, resolve, invoke, builtin, hs, hx, hr, Result.andThen]
    exact h v w (by simpa using hown) (Below.refl _ _)
  · obtain ⟨v', w', hrun, r1, r2, _⟩ := run_append_own (P := P) w base t o.type e i z size bytes ht hi hz hsize hby hzs hsz v n xs hown ad' m c news h1 hc h2 h63 hbytes hbase
    unfold Oper.wp
    simp [execOp, hop, resolve, invoke, builtin, hs, hx, hrun, Result.andThen]
    exact h v' w' r1 ((Below.refl _ _).grown r2 hbase fun k hk => (hown.lt k hk).1)
theorem ownA_later {w w' : World} {B e size n : Nat} {v : Value} {xs : List Value} (h : w.ownsRow B e size v n xs) (hb : Below w.heap.size w w') : w'.ownsRow B e size v n xs := by
  refine ⟨h.1, h.2.elim Or.inl ?_⟩
  rintro ⟨g, cap, cur, hv, hg, hh, r⟩
  refine Or.inr ⟨g, cap, cur, hv, hg, ?_, r⟩
  have : g < w.heap.size := by
    rcases Nat.lt_or_ge g w.heap.size with h' | h'
    · exact h'
    · rw [Array.getElem?_eq_none h'] at hh; cases hh
  rw [hb.block g this]; exact hh
theorem row_sixA {w : World} {b c : Nat} (q : Rq) (h : Six w b q) : RowAt w 6 (some ⟨b, 0, none⟩) 1 c (rcells [q]) := by
  refine ⟨rfl, rcells_one _, Or.inr ⟨_, rfl, fun k u hk => ?_⟩⟩
  obtain ⟨i, j, hi, hj, rfl, rfl⟩ := rcells_inv hk
  have : i = 0 := by simp at hi; exact hi
  subst this
  rw [add_mk']
  obtain ⟨h0, h1, h2, h3, h4, h5⟩ := h
  match j, hj with
  | 0, _ => exact h0
  | 1, _ => exact h1
  | 2, _ => exact h2
  | 3, _ => exact h3
  | 4, _ => exact h4
  | 5, _ => exact h5

theorem Six.belowB {w w' : World} {b B : Nat} {q : Rq} (h : Six w b q) (hb : Below B w w') (hl : b < B) : Six w' b q := by
  obtain ⟨h0, h1, h2, h3, h4, h5⟩ := h
  refine ⟨?_, ?_, ?_, ?_, ?_, ?_⟩ <;> (rw [hb.cell hl]; assumption)
/-- What waits then. -/
def Added (l : List Rq) (r : Rq) (L : List Rq) : Prop :=
  (∃ (k : Nat) (hk : k < l.length) (q : Rq), (∀ j (hj : j < l.length), j < k → togE l[j] r = false) ∧ togE l[k] r = true ∧ BothE l[k] r q ∧ L = l.set k q) ∨
  ((∀ j (hj : j < l.length), togE l[j] r = false) ∧ l.length < 6 ∧ L = l ++ [r])
def AddOut (l : List Rq) (r : Rq) (w' : World) (e : Ending) : Prop :=
  (∃ (L : List Rq) (a' : Option Addr) (c' : Nat), Added l r L ∧ e = .returned (.tuple #[.slice a' L.length c', .nilIface]) ∧ ReqsAt w' a' L ∧ L.length ≤ c' ∧ (a' = none → c' = 0)) ∨
  ((∀ j (hj : j < l.length), togE l[j] r = false) ∧ 6 ≤ l.length ∧ e = .returned (.tuple #[.slice none 0 0, .iface 89 (.int .i64 7)]))

end Go.Proofs.YtgjkdhedkbkagaaGreat
/- A stack of all: what it has, and what each of its calls makes of it: plain functions. -/
namespace Go.Proofs.YtgjkdhedkbkagaaGreat
open Go.RowKit
set_option maxRecDepth 100000

/-- A request without the places of its lists. -/
def Rq.nf (r : Rq) : Rq := { r with da := none, dc := 0, ta := none, tc := 0 }
/-- A client: what it waits for, what it was answered last. -/
structure Cl where
  kind : Int
  pl : Int
  data : ByteArray
  left : List Int
  got : ByteArray
  err : Int
def cl0 : Cl := ⟨0, 0, ByteArray.empty, [], ByteArray.empty, 0⟩
/-- What a stack has, and its device. -/
structure Sk where
  dev : Dl
  f : Int → Int
  cl : List Cl
  hand : List Bf
  queue : List Rq
  turn : Tn
  moment : Int
  tags : Int
  uses : Int
  dead : Bool
  ag : Nat
def Dl.nf (d : Dl) : Dl := { d with busy := d.busy.map Rq.nf }
def Sk.nf (s : Sk) : Sk := { s with dev := s.dev.nf, queue := s.queue.map Rq.nf }
def Sk.client (p : Sk) (i : Nat) : Cl := p.cl.getD i cl0
def Sk.held (p : Sk) (pl : Int) : Bool := (p.queue ++ p.dev.busy).any fun r => hasB r.f r.m pl
def getB (l : List Bf) (pl : Int) : Option Bf := l.find? (plB pl)
def dirtyB (l : List Bf) : Nat := (l.filter fun x => x.dirty).length
def isDirtyB (l : List Bf) (pl : Int) : Bool := match getB l pl with | some x => x.dirty | none => false
/-- What is at hand behind a Put; none: there is no room. -/
def putB (l : List Bf) (x : Bf) (H : Int → Bool) : Option (List Bf) :=
  if 0 ≤ idxB (plB x.pl) l then some (l.set (idxB (plB x.pl) l).toNat x)
  else if l.length < 8 then some (insL l x)
  else if 0 ≤ leastU (fitB false H) l l.length then some (insL (l.eraseIdx (leastU (fitB false H) l l.length).toNat) x)
  else none
/-- Two requests as one. -/
def joinF (a b : Rq) : Rq := ⟨a.wr, a.f, a.m + b.m, none, 0, a.data ++ b.data, none, 0, a.tags ++ b.tags, min a.born b.born⟩
def joinE (o r : Rq) : Rq := if togB o r = true then joinF o r else joinF r o
/-- What waits behind an Add; none: it can't be. -/
def addF (l : List Rq) (r : Rq) : Option (List Rq) :=
  if l.any (meetsB r) = true then none else match l.findIdx? (fun o => togE o r) with
    | some k => some (l.set k (joinE (l.getD k r) r))
    | none => if l.length < 6 then some (l ++ [r]) else none
def Sk.reqOf (p : Sk) (pl : Int) (wr : Bool) (data : List ByteArray) : Rq := ⟨wr, pl, 1, none, 0, data, none, 0, [p.tags + 1], p.moment⟩
def Sk.askQ (p : Sk) (pl : Int) (wr : Bool) (data : List ByteArray) : Bool × Sk := match addF p.queue (p.reqOf pl wr data) with
  | some l => (true, { p with queue := l, tags := p.tags + 1 })
  | none => (false, p)
def Sk.answer (p : Sk) (i : Nat) (s : ByteArray) (e : Int) : Sk := { p with cl := p.cl.set i ⟨0, 0, ByteArray.empty, [], s, e⟩ }
def Sk.serveRead (p : Sk) (i : Nat) : Sk := match getB p.hand (p.client i).pl with
  | some b => ({ p with uses := p.uses + 1, hand := useL p.hand (p.client i).pl (p.uses + 1) } : Sk).answer i b.data 0
  | none => if p.held (p.client i).pl = true then p else (p.askQ (p.client i).pl false []).2
def Sk.serveWrite (p : Sk) (i : Nat) : Sk :=
  if p.dead = true then p.answer i ByteArray.empty 9
  else if 6 ≤ dirtyB p.hand ∧ isDirtyB p.hand (p.client i).pl = false then p
  else match putB p.hand ⟨(p.client i).pl, (p.client i).data, true, p.uses + 1⟩ p.held with
    | some l => ({ p with uses := p.uses + 1, hand := l } : Sk).answer i ByteArray.empty 0
    | none => { p with uses := p.uses + 1 }
def Sk.serveSync (p : Sk) (i : Nat) : Sk :=
  if p.dead = true then p.answer i ByteArray.empty 9
  else if (p.client i).left.filter (isDirtyB p.hand) = [] then ({ p with dev := p.dev.flush } : Sk).answer i ByteArray.empty 0
  else { p with cl := p.cl.set i { p.client i with left := (p.client i).left.filter (isDirtyB p.hand) } }
def Sk.serve1 (p : Sk) (i : Nat) : Sk :=
  if (p.client i).kind = 1 then p.serveRead i else if (p.client i).kind = 2 then p.serveWrite i else if (p.client i).kind = 3 then p.serveSync i else p
def Sk.serve (p : Sk) : Sk := ((p.serve1 0).serve1 1).serve1 2
def Sk.waits (p : Sk) (c : Int) : Bool := decide (0 ≤ c ∧ c < 3) && !((p.client c.toNat).kind == 0)
/-- What is asked: the error's number. -/
def askFault (c kind pl : Int) (data : ByteArray) : Int :=
  if ¬ (0 ≤ c ∧ c < 3) ∨ ¬ (1 ≤ kind ∧ kind ≤ 3) then 3
  else if pl < 0 ∨ 32 ≤ pl ∨ (kind = 3 ∧ ¬ pl = 0) then 1
  else if 4 < data.size ∨ (¬ kind = 2 ∧ ¬ data.size = 0) then 1
  else 0
def dirtyOnes (l : List Bf) : List Int := (l.filter fun x => x.dirty).map Bf.pl
def Sk.asks (p : Sk) (c : Nat) (kind pl : Int) (data : ByteArray) : Sk :=
  { p with cl := p.cl.set c { p.client c with kind := kind, pl := pl, data := data, left := if kind = 3 then dirtyOnes p.hand else (p.client c).left } }
def Sk.ask (p : Sk) (c kind pl : Int) (data : ByteArray) : Int × Sk :=
  if ¬ askFault c kind pl data = 0 then (askFault c kind pl data, p)
  else if p.waits c = true then (6, p)
  else (0, (p.asks c.toNat kind pl data).serve)
def Sk.tick (p : Sk) : Sk := ({ p with moment := if p.moment + 1 < 1000000000 then p.moment + 1 else 1000000000 } : Sk).serve
def Sk.wantsClean (p : Sk) : Bool := p.cl.any fun c => (c.kind == 2) || (c.kind == 3)
/-- The sector to be written. -/
def pickB (l : List Bf) (H : Int → Bool) : Int := if 0 ≤ leastU (fitB true H) l l.length then (l.getD (leastU (fitB true H) l l.length).toNat ⟨0, ByteArray.empty, false, 0⟩).pl else -1
def Sk.clean (p : Sk) : Bool × Sk :=
  if p.dead = true ∨ (dirtyB p.hand < 3 ∧ p.wantsClean = false) then (false, p)
  else if pickB p.hand p.held < 0 then (false, p)
  else p.askQ (pickB p.hand p.held) true [((getB p.hand (pickB p.hand p.held)).getD ⟨0, ByteArray.empty, false, 0⟩).data]
/-- The next one, and the turn then. -/
def endAt (l : List Rq) (i : Int) : Int := match l[i.toNat]? with | some r => r.f + r.m | none => 0
def bornAt (l : List Rq) (i : Int) : Int := match l[i.toNat]? with | some r => r.born | none => 0
def beginI (l : List Rq) (T : Tn) (now : Int) : Int :=
  if patI T.w ≤ now - bornAt l (oldI T.w l) then oldI T.w l else if 0 ≤ frI T.w T.p l then frI T.w T.p l else frI T.w 0 l
def nextF (l : List Rq) (t : Tn) (now : Int) : Int × Tn :=
  if 0 < t.g ∧ t.g < 3 ∧ 0 ≤ frI t.w t.p l then (frI t.w t.p l, ⟨t.w, t.g + 1, t.s, endAt l (frI t.w t.p l)⟩)
  else
    (beginI l (beginT (decide (0 ≤ oldI false l)) (decide (0 ≤ oldI true l)) t) now, ⟨(beginT (decide (0 ≤ oldI false l)) (decide (0 ≤ oldI true l)) t).w, 1, (beginT (decide (0 ≤ oldI false l)) (decide (0 ≤ oldI true l)) t).s, endAt l (beginI l (beginT (decide (0 ≤ oldI false l)) (decide (0 ≤ oldI true l)) t) now)⟩)
def Sk.dispatch (p : Sk) : Bool × Sk :=
  if p.queue = [] ∨ 2 ≤ p.dev.busy.length then (false, p)
  else (true, { p with dev := { p.dev with busy := p.dev.busy ++ (p.queue[(nextF p.queue p.turn p.moment).1.toNat]?).toList }, queue := p.queue.eraseIdx (nextF p.queue p.turn p.moment).1.toNat, turn := (nextF p.queue p.turn p.moment).2 })
/-- Each client that waits to read such a sector is answered. -/
def Sk.readers (p : Sk) (F : Int → Bool) (s : ByteArray) (e : Int) : Sk := { p with cl := p.cl.map fun c => if c.kind = 1 ∧ F c.pl = true then ⟨0, 0, ByteArray.empty, [], s, e⟩ else c }
def Sk.wasRead (p : Sk) (pl : Int) (s : ByteArray) : Sk :=
  match getB p.hand pl with
  | some _ => p
  | none => match putB p.hand ⟨pl, s, false, p.uses + 1⟩ p.held with
    | some l => ({ p with hand := l, uses := p.uses + 1 } : Sk).readers (fun x => x == pl) s 0
    | none => p.readers (fun x => x == pl) s 0
/-- The sectors of a request that went well, one by one. -/
def Sk.wentOne (r : Rq) (xs : List ByteArray) (p : Sk) (j : Nat) : Sk :=
  if r.wr = true then { p with hand := cleanL p.hand (r.f + j) (r.data.getD j ByteArray.empty) } else p.wasRead (r.f + j) (xs.getD j ByteArray.empty)
def Sk.wentTo (p : Sk) (r : Rq) (xs : List ByteArray) (n : Nat) : Sk := (List.range n).foldl (fun q j => q.wentOne r xs j) p
def Sk.wentWell (p : Sk) (r : Rq) (xs : List ByteArray) : Sk := p.wentTo r xs r.m.toNat
/-- How a request ends: at the driver. -/
def Sk.took (p : Sk) (k : Nat) : Sk := { p with dev := { p.dev with busy := p.dev.busy.eraseIdx k } }
def Sk.did (p : Sk) (r : Rq) : Sk := { p with dev := p.dev.did r, f := fun t => if t = r.tags.getD 0 0 then 0 else p.f t }
def Sk.again (p : Sk) (r : Rq) : Sk := { p with dev := { p.dev with busy := p.dev.busy ++ [r] }, f := fun t => if t = r.tags.getD 0 0 then p.f t + 1 else p.f t, ag := p.ag + 1 }
def Sk.lost (p : Sk) (r : Rq) : Sk := { p with f := fun t => if t = r.tags.getD 0 0 then 0 else p.f t }
def Sk.end' (p : Sk) (i : Int) (fault : Bool) : Int × Sk :=
  if i < 0 then (5, p) else match p.dev.busy[i.toNat]? with
  | none => (5, p)
  | some r =>
    if fault = false then (0, (((p.took i.toNat).did r).wentWell r (didRead p.dev r)).serve)
    else if p.f (r.tags.getD 0 0) < 2 then (0, (p.took i.toNat).again r)
    else if r.wr = true then (0, ({ (p.took i.toNat).lost r with dead := true } : Sk).serve)
    else (0, (((p.took i.toNat).lost r).readers (fun x => hasB r.f r.m x) ByteArray.empty 8).serve)
def Sk.quiet (p : Sk) : Bool := (!(p.waits 0) && (!(p.waits 1) && !(p.waits 2))) && (p.queue.isEmpty && p.dev.busy.isEmpty)
def Sk.dispatches (p : Sk) : Nat → Sk
  | 0 => p
  | n + 1 => if p.dispatch.1 = true then p.dispatch.2.dispatches n else p
def Sk.round (p : Sk) : Sk := (p.tick.clean.2.dispatches 3).end' 0 false |>.2
def Sk.settle (p : Sk) : Nat → Nat × Sk
  | 0 => (0, p)
  | n + 1 => if p.quiet = true then (0, p) else ((p.round.settle n).1 + 1, (p.round.settle n).2)
def sk0 : Sk := ⟨d0, fun _ => 0, [cl0, cl0, cl0], [], [], ⟨false, 0, 0, 0⟩, 0, 0, 0, false, 0⟩
end Go.Proofs.YtgjkdhedkbkagaaGreat
