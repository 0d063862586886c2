/- The reference's parse of a text: StepOf. -/
import Derived.Test.YtlhgjplipgandaaDoorRSplit
import Derived.Test.YtlhgjplipgandaaDoorRNat
import Derived.Test.YtlhgjplipgandaaDoorRText
import Derived.Test.YtlhgjplipgandaaDoorRPure3
namespace Go.Proofs.YtlhgjplipgandaaDoor
open Go.RowKit Go.BigFrame Go.Maps
attribute [local go_sem] Later.cell Later.frozen

theorem list1 {α : Type} {l : List α} (h : l.length = 1) : ∃ a, l = [a] := by
  match l, h with
  | [a], _ => exact ⟨a, rfl⟩
theorem list2 {α : Type} {l : List α} (h : l.length = 2) : ∃ a b, l = [a, b] := by
  match l, h with
  | [a, b], _ => exact ⟨a, b, rfl⟩
theorem list3 {α : Type} {l : List α} (h : l.length = 3) : ∃ a b c, l = [a, b, c] := by
  match l, h with
  | [a, b, c], _ => exact ⟨a, b, c, rfl⟩
theorem lt_of_cellS {w : World} {p : Addr} {v : Value} (h : w.cell? p = some v) : p.block < w.heap.size := lt_of_cellA h
theorem split_part : ∀ (l p : List UInt8), p ∈ splitL l → p.length ≤ l.length
  | [], p, h => by simp [splitL] at h; subst h; simp
  | c :: l, p, h => by
    unfold splitL at h
    split at h
    · rcases List.mem_cons.1 h with rfl | h
      · simp
      · have := split_part l p h; simp; omega
    · cases hs : splitL l with
      | nil => exact absurd hs (split_ne l)
      | cons a r =>
        rw [hs] at h
        rcases List.mem_cons.1 h with rfl | h
        · have := split_part l a (by rw [hs]; exact List.mem_cons_self); simp; omega
        · have := split_part l p (by rw [hs]; exact List.mem_cons_of_mem _ h); simp; omega
def wB (ts : List ByteArray) (i : Nat) : ByteArray := ts.getD i ⟨#[]⟩
theorem wOf_spl (s : ByteArray) (i : Nat) : wOf s.data.toList i = (wB (spl s) i).data.toList := by
  unfold wOf wB spl
  rw [List.getD_eq_getElem?_getD, List.getD_eq_getElem?_getD, List.getElem?_map]
  cases (splitL s.data.toList)[i]? with
  | none => rfl
  | some l => simp
theorem mk_list (s : ByteArray) : (⟨s.data.toList.toArray⟩ : ByteArray) = s := by simp
theorem spl_len (s : ByteArray) : (spl s).length = (splitL s.data.toList).length := List.length_map _
/-- The step that the split text tells. -/
def stepB (ts : List ByteArray) (n : Int) (b : Bool) : St := ⟨wB ts 0, if 0 < n then natR (wB ts 1).data.toList else 0, if 1 < n then natR (wB ts 2).data.toList else 0, if b = true then (if wB ts 3 = dashB then ⟨#[]⟩ else wB ts 3) else ⟨#[]⟩⟩
theorem dash_list (s : ByteArray) : s.data.toList = [45] ↔ s = dashB := by
  constructor
  · intro h
    rw [← mk_list s, h]; rfl
  · rintro rfl; rfl
theorem stepF_spl (s : ByteArray) (n : Int) (b : Bool) : stepF s.data.toList n b = stepB (spl s) n b := by
  unfold stepF stepB
  simp only [wOf_spl, mk_list, dash_list]
/-- What StepOf answers. -/
def stepR (ts : List ByteArray) (n : Int) (b : Bool) : St × Int :=
  if (wordF (wB ts 0)).isSome = true ∧ ts.length = many n b ∧ (b = false ∨ ¬ wB ts 3 = ⟨#[]⟩) ∧ stepFault (stepB ts n b) = 0 then (stepB ts n b, 0) else (noStep, 4)
section
variable {ts : List ByteArray} {n : Int} {b : Bool}
theorem stepR_yes (h1 : (wordF (wB ts 0)).isSome = true) (h2 : ts.length = many n b) (h3 : b = false ∨ ¬ wB ts 3 = ⟨#[]⟩) (h4 : stepFault (stepB ts n b) = 0) : stepR ts n b = (stepB ts n b, 0) := if_pos ⟨h1, h2, h3, h4⟩
theorem stepR_no1 (h : (wordF (wB ts 0)).isSome = false) : stepR ts n b = (noStep, 4) := if_neg (fun e => by rw [h] at e; exact Bool.false_ne_true e.1)
theorem stepR_no2 (h : ¬ ts.length = many n b) : stepR ts n b = (noStep, 4) := if_neg (fun e => h e.2.1)
theorem stepR_no3 (h : b = true) (h' : wB ts 3 = ⟨#[]⟩) : stepR ts n b = (noStep, 4) := if_neg (fun e => e.2.2.1.elim (fun e => by rw [h] at e; cases e) (fun e => e h'))
theorem stepR_no4 (h : ¬ stepFault (stepB ts n b) = 0) : stepR ts n b = (noStep, 4) := if_neg (fun e => h e.2.2.2)
end
theorem stepR_eq (s : ByteArray) (n : Int) (b : Bool) (hp : partsOf (wB (spl s) 0) = (n, b)) : stepR (spl s) n b = if parseOk s.data.toList = true then (readF s.data.toList, 0) else (noStep, 4) := by
  have hp' : partsOf ⟨(wOf s.data.toList 0).toArray⟩ = (n, b) := by rw [wOf_spl, mk_list]; exact hp
  have hi := step_iff s.data.toList n b hp'
  have e : stepOk s.data.toList n b ↔ ((wordF (wB (spl s) 0)).isSome = true ∧ (spl s).length = many n b ∧ (b = false ∨ ¬ wB (spl s) 3 = ⟨#[]⟩) ∧ stepFault (stepB (spl s) n b) = 0) := by
    unfold stepOk
    rw [wOf_spl, mk_list, stepF_spl, spl_len, wOf_spl]
    have e3 : (b = true → (wB (spl s) 3).data.toList ≠ []) ↔ (b = false ∨ ¬ wB (spl s) 3 = ⟨#[]⟩) := by
      cases b
      · simp
      · simp only [true_implies, Bool.true_eq_false, false_or, ne_eq]
        constructor
        · intro h h2; apply h; rw [h2]
        · intro h h2; apply h; rw [← mk_list (wB (spl s) 3), h2]
    constructor
    · rintro ⟨h1, _, h3, h4, h5⟩; exact ⟨h1, h3, e3.1 h4, h5⟩
    · rintro ⟨h1, h3, h4, h5⟩; exact ⟨h1, hp, h3, e3.2 h4, h5⟩
  unfold stepR
  by_cases h : stepOk s.data.toList n b
  · rw [if_pos (e.1 h), if_pos (hi.1 h).1, (hi.1 h).2, stepF_spl]
  · rw [if_neg (fun h' => h (e.2 h')), if_neg (fun h' => h (hi.2 h'))]
theorem BoxF.setA {q : Nat} {x : St} {w : World} (h : BoxF q x w) (v : Int) : BoxF q { x with a := v } (w.setCell ⟨q, 1, none⟩ (.int .i64 v)) := by
  obtain ⟨⟨h0, h1, h2, h3, hl⟩, f0, f1, f2, f3⟩ := h
  exact ⟨⟨(World.cell?_setCell_other _ _ _ _ (by simp)).trans h0, World.cell?_setCell_same _ _ _ h1, (World.cell?_setCell_other _ _ _ _ (by simp)).trans h2, (World.cell?_setCell_other _ _ _ _ (by simp)).trans h3, by simpa using hl⟩, by simpa using f0, by simpa using f1, by simpa using f2, by simpa using f3⟩
theorem BoxF.setB {q : Nat} {x : St} {w : World} (h : BoxF q x w) (v : Int) : BoxF q { x with b := v } (w.setCell ⟨q, 2, none⟩ (.int .i64 v)) := by
  obtain ⟨⟨h0, h1, h2, h3, hl⟩, f0, f1, f2, f3⟩ := h
  exact ⟨⟨(World.cell?_setCell_other _ _ _ _ (by simp)).trans h0, (World.cell?_setCell_other _ _ _ _ (by simp)).trans h1, World.cell?_setCell_same _ _ _ h2, (World.cell?_setCell_other _ _ _ _ (by simp)).trans h3, by simpa using hl⟩, by simpa using f0, by simpa using f1, by simpa using f2, by simpa using f3⟩
theorem BoxF.setD {q : Nat} {x : St} {w : World} (h : BoxF q x w) (v : ByteArray) : BoxF q { x with data := v } (w.setCell ⟨q, 3, none⟩ (.string v)) := by
  obtain ⟨⟨h0, h1, h2, h3, hl⟩, f0, f1, f2, f3⟩ := h
  exact ⟨⟨(World.cell?_setCell_other _ _ _ _ (by simp)).trans h0, (World.cell?_setCell_other _ _ _ _ (by simp)).trans h1, (World.cell?_setCell_other _ _ _ _ (by simp)).trans h2, World.cell?_setCell_same _ _ _ h3, by simpa using hl⟩, by simpa using f0, by simpa using f1, by simpa using f2, by simpa using f3⟩
theorem natR_in (l : List UInt8) : In64 (natR l) ∧ natR l ≤ 999 ∧ -1 ≤ natR l := by
  unfold natR In64
  split
  · omega
  split
  · omega
  split <;> omega
theorem spl_size (s : ByteArray) : ∀ t ∈ spl s, t.size ≤ s.size := by
  intro t ht
  obtain ⟨l, hl, rfl⟩ := List.mem_map.1 ht
  rw [size_list]
  have e : s.size = s.data.toList.length := Array.length_toList.symm
  rw [e]
  exact split_part _ l hl
theorem retP {x y : St × Int} (h : x = y) : Ending.returned (.tuple #[x.1.val, .int .i64 x.2]) = Ending.returned (.tuple #[y.1.val, .int .i64 y.2]) := by rw [h]
set_option linter.unusedSimpArgs false in
set_option maxRecDepth 100000 in
set_option maxHeartbeats 8000000 in
theorem rstepof_any (s : ByteArray) (hs : s.size ≤ 1000) (n : Int) (b : Bool) (hp : partsOf (wB (spl s) 0) = (n, b)) (w : World) : Calls Tryd.prog 9 #[.string s] w fun e w' => e = .returned (.tuple #[(stepR (spl s) n b).1.val, .int .i64 (stepR (spl s) n b).2]) ∧ Below w.heap.size w w' := by
  have HSP := fun W => split_any s hs W
  have HSZ := hidT (fun t ht => Nat.le_trans (spl_size s t ht) hs)
  have hne : spl s ≠ [] := by
    intro e
    have := congrArg List.length e
    rw [spl_len] at this
    exact split_ne _ (List.eq_nil_of_length_eq_zero this)
  generalize spl s = ts at *
  obtain ⟨res, hres⟩ : ∃ res, stepR ts n b = res := ⟨_, rfl⟩
  rw [hres]
  have HRES := hidT hres
  clear hres
  obtain ⟨n', b', hpn, hnb⟩ := partsOf_cases (wB ts 0)
  rw [hp] at hpn
  obtain ⟨rfl, rfl⟩ := Prod.mk.inj hpn
  obtain ⟨c, hpc⟩ : ∃ c, (wordF (wB ts 0)).isSome = c := ⟨_, rfl⟩
  have HFO := fun W => formOf_any (wB ts 0) W
  rw [hp, hpc] at HFO
  have HPC := hidT hpc
  clear hp hpc hpn
  obtain ⟨t0, tr, rfl⟩ : ∃ t0 tr, ts = t0 :: tr := by
    cases ts with
    | nil => exact absurd rfl hne
    | cons t0 tr => exact ⟨t0, tr, rfl⟩
  clear hne
  rw [show wB (t0 :: tr) 0 = t0 from rfl] at HFO HPC
  go_enter Tryd.func9, Tryd.ntmps9
  go_wp2_with fail
  refine (HSP _).mono ?_
  rintro e w1 ⟨ra, rc, rfl, htx, hnil, hb1⟩
  have HR := hidT ((boxF_new w noStep 25).later hb1)
  have HB1 := hidT (bthen (below1 w (.cells #[.string noStep.word, .int .i64 noStep.a, .int .i64 noStep.b, .string noStep.data] 25)) hb1)
  obtain ⟨g, o, rfl, htc⟩ := htx.resolve_left (by simp)
  have HTC := hidT htc
  have hwr : w.heap.size < w1.heap.size := by have := hb1.size; simp at this; omega
  clear hb1 htx hnil HSP htc
  have c0 := HTC.out 0 (by simp)
  simp only [List.getElem_cons_zero, Nat.add_zero] at c0
  have hl0 : 0 < (t0 :: tr).length := by simp
  have hl0' : (0 : Int) < ((t0 :: tr).length : Int) := by omega
  obtain ⟨len, hLen⟩ : ∃ len, (t0 :: tr).length = len := ⟨_, rfl⟩
  rw [hLen] at hl0 hl0' ⊢
  have HLEN := hidT hLen
  clear hLen
  have lg := lt_of_cellS c0
  go_wp2_with fail
  refine (HFO _).mono ?_
  rintro e w2 ⟨rfl, hb2⟩
  have HB2 := hidT hb2
  have l2 := hb2.size
  have c0 := cellB_later' hb2 c0
  have lg2 : g < w2.heap.size := by omega
  clear hb2 HFO
  have hmany : many n b = 1 + n.toNat + (if b = true then 1 else 0) := rfl
  obtain ⟨⟨r0, r1, r2, r3, rl⟩, g0, g1, g2, g3⟩ := HR.out.later HB2.out
  simp only [noStep] at r0 r1 r2 r3
  cases c
  · have hk : res = (noStep, 4) := by rw [← HRES.out]; exact stepR_no1 HPC.out
    clear HRES hnb
    generalize formL n b = F
    go_wp2
    refine bodyPost_ret (v := .tuple #[noStep.val, .int .i64 4]) (by simp [results, Tryd.results9, go_sem, r0, r1, r2, r3, noStep]) rfl ⟨by (try rw [hk]); (try rfl), by have hb2 := HB2.out; have hb1 := HB1.out; repeat (first | with_reducible exact Below.refl _ _ | with_reducible refine balloc ?_ _ | with_reducible refine bdrew ?_ | with_reducible refine bset' ?_ (by omega) _ | with_reducible refine bthen ?_ (by assumption))⟩
  rcases hnb with ⟨rfl, rfl⟩ | ⟨rfl, rfl⟩ | ⟨rfl, rfl⟩ | ⟨rfl, rfl⟩
  · simp only [formL]
    by_cases hc : len = 1
    · obtain rfl : tr = [] := by have := HLEN.out; simp at this; exact List.eq_nil_of_length_eq_zero (by omega)
      subst hc
      go_wp2_with fail; have hsb : stepB [t0] 0 false = ⟨t0, 0, 0, ⟨#[]⟩⟩ := (by simp [stepB, wB, if_true]); refine calls_worldS (fun wz => BoxF w2.heap.size ⟨t0, 0, 0, ⟨#[]⟩⟩ wz ∧ Below w1.heap.size w1 wz) ⟨boxF_new w2 ⟨t0, 0, 0, ⟨#[]⟩⟩ _, bthen HB2.out (below1 w2 _)⟩ ?_; rintro wz ⟨hx, hbz⟩; have HXZ := hidT hx; have HBZ := hidT hbz; clear hx hbz; have HRF := rfault_any ⟨t0, 0, 0, ⟨#[]⟩⟩ wz ⟨by first | exact (natR_in _).1 | (unfold In64; simp), by first | exact (natR_in _).1 | (unfold In64; simp), by have := HSZ.out t0 (by simp); simp only; omega, by first | (have := HSZ.out t3 (by simp); simp only; omega) | (simp [ByteArray.size])⟩; obtain ⟨er, her⟩ : ∃ er, stepFault ⟨t0, 0, 0, ⟨#[]⟩⟩ = er := ⟨_, rfl⟩; have hp : er = 0 ∨ 0 < er := (by rcases fault_cases ⟨t0, 0, 0, ⟨#[]⟩⟩ with h | h | h <;> omega); rw [her] at HRF; refine HRF.mono ?_; rintro e w9 ⟨rfl, hb9⟩; have HB9 := hidT (bthen HBZ.out hb9); obtain ⟨⟨q0, q1, q2, q3, ql⟩, -⟩ := HXZ.out.later hb9; simp only at q0 q1 q2 q3; clear r0 r1 r2 r3 rl g0 g1 g2 g3; obtain ⟨⟨r0, r1, r2, r3, rl⟩, g0, g1, g2, g3⟩ := HR.out.later HB9.out; simp only [noStep] at r0 r1 r2 r3; rcases hp with rfl | hp; (focus (have hk : res = (⟨t0, 0, 0, ⟨#[]⟩⟩, 0) := (by rw [← HRES.out, ← hsb]; exact stepR_yes HPC.out rfl (Or.inl rfl) (by rw [hsb]; exact her))); clear HRES HRF hsb her hb9; go_wp2; refine bodyPost_ret (v := .tuple #[(⟨t0, 0, 0, ⟨#[]⟩⟩ : St).val, .int .i64 0]) (by simp [results, Tryd.results9, go_sem, r0, r1, r2, r3]) rfl ⟨by (try rw [hk]); (try rfl), by have hb9 := HB9.out; have hb1 := HB1.out; repeat (first | with_reducible exact Below.refl _ _ | with_reducible refine balloc ?_ _ | with_reducible refine bdrew ?_ | with_reducible refine bset' ?_ (by omega) _ | with_reducible refine bthen ?_ (by assumption))⟩); (focus (have hk : res = (noStep, 4) := (by rw [← HRES.out]; exact stepR_no4 (by rw [hsb, her]; omega))); clear HRES HRF hsb her hb9; go_wp2; refine bodyPost_ret (v := .tuple #[noStep.val, .int .i64 4]) (by simp [results, Tryd.results9, go_sem, r0, r1, r2, r3, noStep]) rfl ⟨by (try rw [hk]); (try rfl), by have hb9 := HB9.out; have hb1 := HB1.out; repeat (first | with_reducible exact Below.refl _ _ | with_reducible refine balloc ?_ _ | with_reducible refine bdrew ?_ | with_reducible refine bset' ?_ (by omega) _ | with_reducible refine bthen ?_ (by assumption))⟩)
    · have hk : res = (noStep, 4) := (by rw [← HRES.out]; exact stepR_no2 (fun e => hc (HLEN.out.symm.trans e))); have hq : ((len : Int) == 1) = false := (beq_eq_false_iff_ne.2 (by omega)); have hq2 : ((len : Int) != 1) = true := (bne_iff_ne.2 (by omega)); have hc2 : ¬ (len : Int) = 1 := (by omega); clear HRES hmany; go_wp2; refine bodyPost_ret (v := .tuple #[noStep.val, .int .i64 4]) (by simp [results, Tryd.results9, go_sem, r0, r1, r2, r3, noStep]) rfl ⟨by (try rw [hk]); (try rfl), by have hb2 := HB2.out; have hb1 := HB1.out; repeat (first | with_reducible exact Below.refl _ _ | with_reducible refine balloc ?_ _ | with_reducible refine bdrew ?_ | with_reducible refine bset' ?_ (by omega) _ | with_reducible refine bthen ?_ (by assumption))⟩
  · simp only [formL]
    by_cases hc : len = 2
    · obtain ⟨t1, rfl⟩ : ∃ t1, tr = [t1] := by have := HLEN.out; simp at this; exact list1 (by omega)
      subst hc
      have c1 := cellB_later' HB2.out (HTC.out 1 (by simp)); simp only [List.getElem_cons_succ, List.getElem_cons_zero] at c1; go_wp2_with fail; refine (natural_any t1 (by have := HSZ.out t1 (by simp); omega) _).mono ?_; rintro e w3 ⟨rfl, hb3⟩; have HX := hidT ((boxF_new w2 ⟨t0, 0, 0, ⟨#[]⟩⟩ 25).later hb3); have HB3 : Hid (Below w1.heap.size w1 w3) := (bthen (bthen HB2.out (below1 w2 _)) hb3); clear hb3 c1; obtain ⟨⟨s0, s1, s2, s3, sl⟩, f0, f1, f2, f3⟩ := id HX.out; simp only at s0 s1 s2 s3
      go_wp2_with fail; have hsb : stepB [t0, t1] 1 false = ⟨t0, natR t1.data.toList, 0, ⟨#[]⟩⟩ := (by simp [stepB, wB, if_true]); refine calls_worldS (fun wz => BoxF w2.heap.size ⟨t0, natR t1.data.toList, 0, ⟨#[]⟩⟩ wz ∧ Below w1.heap.size w1 wz) ⟨HX.out.setA _, bset HB3.out (by show w1.heap.size ≤ w2.heap.size; omega) _⟩ ?_; rintro wz ⟨hx, hbz⟩; have HXZ := hidT hx; have HBZ := hidT hbz; clear hx hbz; have HRF := rfault_any ⟨t0, natR t1.data.toList, 0, ⟨#[]⟩⟩ wz ⟨by first | exact (natR_in _).1 | (unfold In64; simp), by first | exact (natR_in _).1 | (unfold In64; simp), by have := HSZ.out t0 (by simp); simp only; omega, by first | (have := HSZ.out t3 (by simp); simp only; omega) | (simp [ByteArray.size])⟩; obtain ⟨er, her⟩ : ∃ er, stepFault ⟨t0, natR t1.data.toList, 0, ⟨#[]⟩⟩ = er := ⟨_, rfl⟩; have hp : er = 0 ∨ 0 < er := (by rcases fault_cases ⟨t0, natR t1.data.toList, 0, ⟨#[]⟩⟩ with h | h | h <;> omega); rw [her] at HRF; refine HRF.mono ?_; rintro e w9 ⟨rfl, hb9⟩; have HB9 := hidT (bthen HBZ.out hb9); obtain ⟨⟨q0, q1, q2, q3, ql⟩, -⟩ := HXZ.out.later hb9; simp only at q0 q1 q2 q3; clear r0 r1 r2 r3 rl g0 g1 g2 g3; obtain ⟨⟨r0, r1, r2, r3, rl⟩, g0, g1, g2, g3⟩ := HR.out.later HB9.out; simp only [noStep] at r0 r1 r2 r3; rcases hp with rfl | hp; (focus (have hk : res = (⟨t0, natR t1.data.toList, 0, ⟨#[]⟩⟩, 0) := (by rw [← HRES.out, ← hsb]; exact stepR_yes HPC.out rfl (Or.inl rfl) (by rw [hsb]; exact her))); clear HRES HRF hsb her hb9; go_wp2; refine bodyPost_ret (v := .tuple #[(⟨t0, natR t1.data.toList, 0, ⟨#[]⟩⟩ : St).val, .int .i64 0]) (by simp [results, Tryd.results9, go_sem, r0, r1, r2, r3]) rfl ⟨by (try rw [hk]); (try rfl), by have hb9 := HB9.out; have hb1 := HB1.out; repeat (first | with_reducible exact Below.refl _ _ | with_reducible refine balloc ?_ _ | with_reducible refine bdrew ?_ | with_reducible refine bset' ?_ (by omega) _ | with_reducible refine bthen ?_ (by assumption))⟩); (focus (have hk : res = (noStep, 4) := (by rw [← HRES.out]; exact stepR_no4 (by rw [hsb, her]; omega))); clear HRES HRF hsb her hb9; go_wp2; refine bodyPost_ret (v := .tuple #[noStep.val, .int .i64 4]) (by simp [results, Tryd.results9, go_sem, r0, r1, r2, r3, noStep]) rfl ⟨by (try rw [hk]); (try rfl), by have hb9 := HB9.out; have hb1 := HB1.out; repeat (first | with_reducible exact Below.refl _ _ | with_reducible refine balloc ?_ _ | with_reducible refine bdrew ?_ | with_reducible refine bset' ?_ (by omega) _ | with_reducible refine bthen ?_ (by assumption))⟩)
    · have hk : res = (noStep, 4) := (by rw [← HRES.out]; exact stepR_no2 (fun e => hc (HLEN.out.symm.trans e))); have hq : ((len : Int) == 2) = false := (beq_eq_false_iff_ne.2 (by omega)); have hq2 : ((len : Int) != 2) = true := (bne_iff_ne.2 (by omega)); have hc2 : ¬ (len : Int) = 2 := (by omega); clear HRES hmany; go_wp2; refine bodyPost_ret (v := .tuple #[noStep.val, .int .i64 4]) (by simp [results, Tryd.results9, go_sem, r0, r1, r2, r3, noStep]) rfl ⟨by (try rw [hk]); (try rfl), by have hb2 := HB2.out; have hb1 := HB1.out; repeat (first | with_reducible exact Below.refl _ _ | with_reducible refine balloc ?_ _ | with_reducible refine bdrew ?_ | with_reducible refine bset' ?_ (by omega) _ | with_reducible refine bthen ?_ (by assumption))⟩
  · simp only [formL]
    by_cases hc : len = 4
    · obtain ⟨t1, t2, t3, rfl⟩ : ∃ t1 t2 t3, tr = [t1, t2, t3] := by have := HLEN.out; simp at this; exact list3 (by omega)
      subst hc
      have c1 := cellB_later' HB2.out (HTC.out 1 (by simp)); simp only [List.getElem_cons_succ, List.getElem_cons_zero] at c1; go_wp2_with fail; refine (natural_any t1 (by have := HSZ.out t1 (by simp); omega) _).mono ?_; rintro e w3 ⟨rfl, hb3⟩; have HX := hidT ((boxF_new w2 ⟨t0, 0, 0, ⟨#[]⟩⟩ 25).later hb3); have HB3 : Hid (Below w1.heap.size w1 w3) := (bthen (bthen HB2.out (below1 w2 _)) hb3); clear hb3 c1; obtain ⟨⟨s0, s1, s2, s3, sl⟩, f0, f1, f2, f3⟩ := id HX.out; simp only at s0 s1 s2 s3
      have c2 := cellB_later' HB3.out (HTC.out 2 (by simp)); simp only [List.getElem_cons_succ, List.getElem_cons_zero] at c2; have l3 := HB3.out.size; have hgq : g ≠ w2.heap.size := (by omega); have hgq' : w2.heap.size ≠ g := (by omega); go_wp2_with fail; refine (natural_any t2 (by have := HSZ.out t2 (by simp); omega) _).mono ?_; rintro e w5 ⟨rfl, hb5⟩; have HX5 := hidT ((HX.out.setA (natR t1.data.toList)).later hb5); have HB5 : Hid (Below w1.heap.size w1 w5) := (by have hb3 := HB3.out; exact Below.trans (bset hb3 (by show w1.heap.size ≤ w2.heap.size; omega) _) (hb5.mono (by simp; omega))); clear hb5 c2 s0 s1 s2 s3 sl f0 f1 f2 f3; obtain ⟨⟨s0, s1, s2, s3, sl⟩, f0, f1, f2, f3⟩ := id HX5.out; simp only at s0 s1 s2 s3
      have c3 := cellB_later' HB5.out (HTC.out 3 (by simp))
      simp only [List.getElem_cons_succ, List.getElem_cons_zero] at c3
      by_cases h3 : t3 = ⟨#[]⟩
      · have hk : res = (noStep, 4) := by rw [← HRES.out]; exact stepR_no3 rfl h3
        subst h3
        clear HRES
        obtain ⟨⟨r0, r1, r2, r3, rl⟩, g0, g1, g2, g3⟩ := HR.out.later HB5.out
        simp only [noStep] at r0 r1 r2 r3
        go_wp2
        refine bodyPost_ret (v := .tuple #[noStep.val, .int .i64 4]) (by simp [results, Tryd.results9, go_sem, r0, r1, r2, r3, noStep]) rfl ⟨by (try rw [hk]); (try rfl), by have hb5 := HB5.out; have hb1 := HB1.out; repeat (first | with_reducible exact Below.refl _ _ | with_reducible refine balloc ?_ _ | with_reducible refine bdrew ?_ | with_reducible refine bset' ?_ (by omega) _ | with_reducible refine bthen ?_ (by assumption))⟩
      · have hq0 : (t3.toList == []) = false := by rw [Lib.toList_data, beq_eq_false_iff_ne]; intro e; apply h3; rw [← mk_list t3, e]
        have hq1 : t3.toList.isEmpty = false := by rw [List.isEmpty_eq_false_iff]; exact beq_eq_false_iff_ne.1 hq0
        have hq2 : t3.data.toList.isEmpty = false := by rw [← Lib.toList_data]; exact hq1
        by_cases hd : t3 = dashB
        · have hq : (t3.toList == [45]) = true := by rw [hd, Lib.toList_data]; rfl
          have HD := hidT hd
          clear hd
          have d3 : ((w5.setCell ⟨w2.heap.size, 2, none⟩ (.int .i64 (natR t2.data.toList))).setCell ⟨w2.heap.size, 3, none⟩ (.string t3)).cell? ⟨w2.heap.size, 3, none⟩ = some (.string t3) := ((HX5.out.setB (natR t2.data.toList)).setD t3).box.2.2.2.1
          go_wp2_with fail; have hsb : stepB [t0, t1, t2, t3] 2 true = ⟨t0, natR t1.data.toList, natR t2.data.toList, ⟨#[]⟩⟩ := (by simp [stepB, wB, HD.out]); refine calls_worldS (fun wz => BoxF w2.heap.size ⟨t0, natR t1.data.toList, natR t2.data.toList, ⟨#[]⟩⟩ wz ∧ Below w1.heap.size w1 wz) ⟨((HX5.out.setB (natR t2.data.toList)).setD t3).setD ⟨#[]⟩, bset (bset (bset HB5.out (by show w1.heap.size ≤ w2.heap.size; omega) _) (by show w1.heap.size ≤ w2.heap.size; omega) _) (by show w1.heap.size ≤ w2.heap.size; omega) _⟩ ?_; rintro wz ⟨hx, hbz⟩; have HXZ := hidT hx; have HBZ := hidT hbz; clear hx hbz; have HRF := rfault_any ⟨t0, natR t1.data.toList, natR t2.data.toList, ⟨#[]⟩⟩ wz ⟨by first | exact (natR_in _).1 | (unfold In64; simp), by first | exact (natR_in _).1 | (unfold In64; simp), by have := HSZ.out t0 (by simp); simp only; omega, by first | (have := HSZ.out t3 (by simp); simp only; omega) | (simp [ByteArray.size])⟩; obtain ⟨er, her⟩ : ∃ er, stepFault ⟨t0, natR t1.data.toList, natR t2.data.toList, ⟨#[]⟩⟩ = er := ⟨_, rfl⟩; have hp : er = 0 ∨ 0 < er := (by rcases fault_cases ⟨t0, natR t1.data.toList, natR t2.data.toList, ⟨#[]⟩⟩ with h | h | h <;> omega); rw [her] at HRF; refine HRF.mono ?_; rintro e w9 ⟨rfl, hb9⟩; have HB9 := hidT (bthen HBZ.out hb9); obtain ⟨⟨q0, q1, q2, q3, ql⟩, -⟩ := HXZ.out.later hb9; simp only at q0 q1 q2 q3; clear r0 r1 r2 r3 rl g0 g1 g2 g3; obtain ⟨⟨r0, r1, r2, r3, rl⟩, g0, g1, g2, g3⟩ := HR.out.later HB9.out; simp only [noStep] at r0 r1 r2 r3; rcases hp with rfl | hp; (focus (have hk : res = (⟨t0, natR t1.data.toList, natR t2.data.toList, ⟨#[]⟩⟩, 0) := (by rw [← HRES.out, ← hsb]; exact stepR_yes HPC.out rfl (Or.inr h3) (by rw [hsb]; exact her))); clear HRES HRF hsb her hb9; go_wp2; refine bodyPost_ret (v := .tuple #[(⟨t0, natR t1.data.toList, natR t2.data.toList, ⟨#[]⟩⟩ : St).val, .int .i64 0]) (by simp [results, Tryd.results9, go_sem, r0, r1, r2, r3]) rfl ⟨by (try rw [hk]); (try rfl), by have hb9 := HB9.out; have hb1 := HB1.out; repeat (first | with_reducible exact Below.refl _ _ | with_reducible refine balloc ?_ _ | with_reducible refine bdrew ?_ | with_reducible refine bset' ?_ (by omega) _ | with_reducible refine bthen ?_ (by assumption))⟩); (focus (have hk : res = (noStep, 4) := (by rw [← HRES.out]; exact stepR_no4 (by rw [hsb, her]; omega))); clear HRES HRF hsb her hb9; go_wp2; refine bodyPost_ret (v := .tuple #[noStep.val, .int .i64 4]) (by simp [results, Tryd.results9, go_sem, r0, r1, r2, r3, noStep]) rfl ⟨by (try rw [hk]); (try rfl), by have hb9 := HB9.out; have hb1 := HB1.out; repeat (first | with_reducible exact Below.refl _ _ | with_reducible refine balloc ?_ _ | with_reducible refine bdrew ?_ | with_reducible refine bset' ?_ (by omega) _ | with_reducible refine bthen ?_ (by assumption))⟩)
        · have hq : (t3.toList == [45]) = false := dash_ne hd
          go_wp2_with fail; have hsb : stepB [t0, t1, t2, t3] 2 true = ⟨t0, natR t1.data.toList, natR t2.data.toList, t3⟩ := (by simp [stepB, wB, hd]); refine calls_worldS (fun wz => BoxF w2.heap.size ⟨t0, natR t1.data.toList, natR t2.data.toList, t3⟩ wz ∧ Below w1.heap.size w1 wz) ⟨(HX5.out.setB _).setD _, bset (bset HB5.out (by show w1.heap.size ≤ w2.heap.size; omega) _) (by show w1.heap.size ≤ w2.heap.size; omega) _⟩ ?_; rintro wz ⟨hx, hbz⟩; have HXZ := hidT hx; have HBZ := hidT hbz; clear hx hbz; have HRF := rfault_any ⟨t0, natR t1.data.toList, natR t2.data.toList, t3⟩ wz ⟨by first | exact (natR_in _).1 | (unfold In64; simp), by first | exact (natR_in _).1 | (unfold In64; simp), by have := HSZ.out t0 (by simp); simp only; omega, by first | (have := HSZ.out t3 (by simp); simp only; omega) | (simp [ByteArray.size])⟩; obtain ⟨er, her⟩ : ∃ er, stepFault ⟨t0, natR t1.data.toList, natR t2.data.toList, t3⟩ = er := ⟨_, rfl⟩; have hp : er = 0 ∨ 0 < er := (by rcases fault_cases ⟨t0, natR t1.data.toList, natR t2.data.toList, t3⟩ with h | h | h <;> omega); rw [her] at HRF; refine HRF.mono ?_; rintro e w9 ⟨rfl, hb9⟩; have HB9 := hidT (bthen HBZ.out hb9); obtain ⟨⟨q0, q1, q2, q3, ql⟩, -⟩ := HXZ.out.later hb9; simp only at q0 q1 q2 q3; clear r0 r1 r2 r3 rl g0 g1 g2 g3; obtain ⟨⟨r0, r1, r2, r3, rl⟩, g0, g1, g2, g3⟩ := HR.out.later HB9.out; simp only [noStep] at r0 r1 r2 r3; rcases hp with rfl | hp; (focus (have hk : res = (⟨t0, natR t1.data.toList, natR t2.data.toList, t3⟩, 0) := (by rw [← HRES.out, ← hsb]; exact stepR_yes HPC.out rfl (Or.inr h3) (by rw [hsb]; exact her))); clear HRES HRF hsb her hb9; go_wp2; refine bodyPost_ret (v := .tuple #[(⟨t0, natR t1.data.toList, natR t2.data.toList, t3⟩ : St).val, .int .i64 0]) (by simp [results, Tryd.results9, go_sem, r0, r1, r2, r3]) rfl ⟨by (try rw [hk]); (try rfl), by have hb9 := HB9.out; have hb1 := HB1.out; repeat (first | with_reducible exact Below.refl _ _ | with_reducible refine balloc ?_ _ | with_reducible refine bdrew ?_ | with_reducible refine bset' ?_ (by omega) _ | with_reducible refine bthen ?_ (by assumption))⟩); (focus (have hk : res = (noStep, 4) := (by rw [← HRES.out]; exact stepR_no4 (by rw [hsb, her]; omega))); clear HRES HRF hsb her hb9; go_wp2; refine bodyPost_ret (v := .tuple #[noStep.val, .int .i64 4]) (by simp [results, Tryd.results9, go_sem, r0, r1, r2, r3, noStep]) rfl ⟨by (try rw [hk]); (try rfl), by have hb9 := HB9.out; have hb1 := HB1.out; repeat (first | with_reducible exact Below.refl _ _ | with_reducible refine balloc ?_ _ | with_reducible refine bdrew ?_ | with_reducible refine bset' ?_ (by omega) _ | with_reducible refine bthen ?_ (by assumption))⟩)
    · have hk : res = (noStep, 4) := (by rw [← HRES.out]; exact stepR_no2 (fun e => hc (HLEN.out.symm.trans e))); have hq : ((len : Int) == 4) = false := (beq_eq_false_iff_ne.2 (by omega)); have hq2 : ((len : Int) != 4) = true := (bne_iff_ne.2 (by omega)); have hc2 : ¬ (len : Int) = 4 := (by omega); clear HRES hmany; go_wp2; refine bodyPost_ret (v := .tuple #[noStep.val, .int .i64 4]) (by simp [results, Tryd.results9, go_sem, r0, r1, r2, r3, noStep]) rfl ⟨by (try rw [hk]); (try rfl), by have hb2 := HB2.out; have hb1 := HB1.out; repeat (first | with_reducible exact Below.refl _ _ | with_reducible refine balloc ?_ _ | with_reducible refine bdrew ?_ | with_reducible refine bset' ?_ (by omega) _ | with_reducible refine bthen ?_ (by assumption))⟩
  · simp only [formL]
    by_cases hc : len = 3
    · obtain ⟨t1, t2, rfl⟩ : ∃ t1 t2, tr = [t1, t2] := by have := HLEN.out; simp at this; exact list2 (by omega)
      subst hc
      have c1 := cellB_later' HB2.out (HTC.out 1 (by simp)); simp only [List.getElem_cons_succ, List.getElem_cons_zero] at c1; go_wp2_with fail; refine (natural_any t1 (by have := HSZ.out t1 (by simp); omega) _).mono ?_; rintro e w3 ⟨rfl, hb3⟩; have HX := hidT ((boxF_new w2 ⟨t0, 0, 0, ⟨#[]⟩⟩ 25).later hb3); have HB3 : Hid (Below w1.heap.size w1 w3) := (bthen (bthen HB2.out (below1 w2 _)) hb3); clear hb3 c1; obtain ⟨⟨s0, s1, s2, s3, sl⟩, f0, f1, f2, f3⟩ := id HX.out; simp only at s0 s1 s2 s3
      have c2 := cellB_later' HB3.out (HTC.out 2 (by simp)); simp only [List.getElem_cons_succ, List.getElem_cons_zero] at c2; have l3 := HB3.out.size; have hgq : g ≠ w2.heap.size := (by omega); have hgq' : w2.heap.size ≠ g := (by omega); go_wp2_with fail; refine (natural_any t2 (by have := HSZ.out t2 (by simp); omega) _).mono ?_; rintro e w5 ⟨rfl, hb5⟩; have HX5 := hidT ((HX.out.setA (natR t1.data.toList)).later hb5); have HB5 : Hid (Below w1.heap.size w1 w5) := (by have hb3 := HB3.out; exact Below.trans (bset hb3 (by show w1.heap.size ≤ w2.heap.size; omega) _) (hb5.mono (by simp; omega))); clear hb5 c2 s0 s1 s2 s3 sl f0 f1 f2 f3; obtain ⟨⟨s0, s1, s2, s3, sl⟩, f0, f1, f2, f3⟩ := id HX5.out; simp only at s0 s1 s2 s3
      go_wp2_with fail; have hsb : stepB [t0, t1, t2] 2 false = ⟨t0, natR t1.data.toList, natR t2.data.toList, ⟨#[]⟩⟩ := (by simp [stepB, wB, if_true]); refine calls_worldS (fun wz => BoxF w2.heap.size ⟨t0, natR t1.data.toList, natR t2.data.toList, ⟨#[]⟩⟩ wz ∧ Below w1.heap.size w1 wz) ⟨HX5.out.setB _, bset HB5.out (by show w1.heap.size ≤ w2.heap.size; omega) _⟩ ?_; rintro wz ⟨hx, hbz⟩; have HXZ := hidT hx; have HBZ := hidT hbz; clear hx hbz; have HRF := rfault_any ⟨t0, natR t1.data.toList, natR t2.data.toList, ⟨#[]⟩⟩ wz ⟨by first | exact (natR_in _).1 | (unfold In64; simp), by first | exact (natR_in _).1 | (unfold In64; simp), by have := HSZ.out t0 (by simp); simp only; omega, by first | (have := HSZ.out t3 (by simp); simp only; omega) | (simp [ByteArray.size])⟩; obtain ⟨er, her⟩ : ∃ er, stepFault ⟨t0, natR t1.data.toList, natR t2.data.toList, ⟨#[]⟩⟩ = er := ⟨_, rfl⟩; have hp : er = 0 ∨ 0 < er := (by rcases fault_cases ⟨t0, natR t1.data.toList, natR t2.data.toList, ⟨#[]⟩⟩ with h | h | h <;> omega); rw [her] at HRF; refine HRF.mono ?_; rintro e w9 ⟨rfl, hb9⟩; have HB9 := hidT (bthen HBZ.out hb9); obtain ⟨⟨q0, q1, q2, q3, ql⟩, -⟩ := HXZ.out.later hb9; simp only at q0 q1 q2 q3; clear r0 r1 r2 r3 rl g0 g1 g2 g3; obtain ⟨⟨r0, r1, r2, r3, rl⟩, g0, g1, g2, g3⟩ := HR.out.later HB9.out; simp only [noStep] at r0 r1 r2 r3; rcases hp with rfl | hp; (focus (have hk : res = (⟨t0, natR t1.data.toList, natR t2.data.toList, ⟨#[]⟩⟩, 0) := (by rw [← HRES.out, ← hsb]; exact stepR_yes HPC.out rfl (Or.inl rfl) (by rw [hsb]; exact her))); clear HRES HRF hsb her hb9; go_wp2; refine bodyPost_ret (v := .tuple #[(⟨t0, natR t1.data.toList, natR t2.data.toList, ⟨#[]⟩⟩ : St).val, .int .i64 0]) (by simp [results, Tryd.results9, go_sem, r0, r1, r2, r3]) rfl ⟨by (try rw [hk]); (try rfl), by have hb9 := HB9.out; have hb1 := HB1.out; repeat (first | with_reducible exact Below.refl _ _ | with_reducible refine balloc ?_ _ | with_reducible refine bdrew ?_ | with_reducible refine bset' ?_ (by omega) _ | with_reducible refine bthen ?_ (by assumption))⟩); (focus (have hk : res = (noStep, 4) := (by rw [← HRES.out]; exact stepR_no4 (by rw [hsb, her]; omega))); clear HRES HRF hsb her hb9; go_wp2; refine bodyPost_ret (v := .tuple #[noStep.val, .int .i64 4]) (by simp [results, Tryd.results9, go_sem, r0, r1, r2, r3, noStep]) rfl ⟨by (try rw [hk]); (try rfl), by have hb9 := HB9.out; have hb1 := HB1.out; repeat (first | with_reducible exact Below.refl _ _ | with_reducible refine balloc ?_ _ | with_reducible refine bdrew ?_ | with_reducible refine bset' ?_ (by omega) _ | with_reducible refine bthen ?_ (by assumption))⟩)
    · have hk : res = (noStep, 4) := (by rw [← HRES.out]; exact stepR_no2 (fun e => hc (HLEN.out.symm.trans e))); have hq : ((len : Int) == 3) = false := (beq_eq_false_iff_ne.2 (by omega)); have hq2 : ((len : Int) != 3) = true := (bne_iff_ne.2 (by omega)); have hc2 : ¬ (len : Int) = 3 := (by omega); clear HRES hmany; go_wp2; refine bodyPost_ret (v := .tuple #[noStep.val, .int .i64 4]) (by simp [results, Tryd.results9, go_sem, r0, r1, r2, r3, noStep]) rfl ⟨by (try rw [hk]); (try rfl), by have hb2 := HB2.out; have hb1 := HB1.out; repeat (first | with_reducible exact Below.refl _ _ | with_reducible refine balloc ?_ _ | with_reducible refine bdrew ?_ | with_reducible refine bset' ?_ (by omega) _ | with_reducible refine bthen ?_ (by assumption))⟩
end Go.Proofs.YtlhgjplipgandaaDoor
