/- A step of a script: Check. -/
import Derived.Test.YtlhgjplipgandaaDoorScript5
import Derived.Test.YtlhgjplipgandaaDoorErrOf
import Derived.Deep.DeepCutAuto
namespace Go.Proofs.YtlhgjplipgandaaDoor
open Go.RowKit Go.BigFrame Go.Maps
attribute [local go_sem] Later.cell Later.frozen

def dashB : ByteArray := ⟨#[45]⟩
/-- What is wrong with a step: the error's number. -/
def stepFault (x : St) : Int :=
  if (wordF x.word).isSome = false then 3 else if fitB (partsOf x.word).1 (partsOf x.word).2 x = false then 3
  else if (boundB x.a || boundB x.b) = true then 1 else if 9 < x.data.size then 1 else if breaks x.data = true then 3 else if x.data = dashB then 3 else 0
structure StIn (x : St) : Prop where
  a : In64 x.a
  b : In64 x.b
  word : x.word.size ≤ 9223372036854775807
  data : x.data.size ≤ 9223372036854775807
def PartAt (q : Nat) (n : Int) (b : Bool) (w : World) : Prop := w.cell? ⟨q, 0, none⟩ = some (.int .i64 n) ∧ w.cell? ⟨q, 1, none⟩ = some (.bool b) ∧ q < w.heap.size
def BoxSt (q : Nat) (x : St) (w : World) : Prop := w.cell? ⟨q, 0, none⟩ = some (.string x.word) ∧ w.cell? ⟨q, 1, none⟩ = some (.int .i64 x.a) ∧ w.cell? ⟨q, 2, none⟩ = some (.int .i64 x.b) ∧ w.cell? ⟨q, 3, none⟩ = some (.string x.data) ∧ q < w.heap.size
theorem BoxSt.later {q : Nat} {x : St} {w w' : World} (h : BoxSt q x w) (hb : Below w.heap.size w w') : BoxSt q x w' := ⟨cellB_later' hb h.1, cellB_later' hb h.2.1, cellB_later' hb h.2.2.1, cellB_later' hb h.2.2.2.1, Nat.lt_of_lt_of_le h.2.2.2.2 hb.size⟩
theorem part_new (w : World) (n : Int) (b : Bool) (T : TypeId) : PartAt w.heap.size n b (w.alloc (.cells #[.int .i64 n, .bool b] T)) := ⟨by simp, by simp, by simp⟩
theorem part_set {w : World} {q : Nat} {n n0 : Int} {b b0 : Bool} (h0 : w.cell? ⟨q, 0, none⟩ = some (.int .i64 n0)) (h1 : w.cell? ⟨q, 1, none⟩ = some (.bool b0)) (hl : q < w.heap.size) : PartAt q n b ((w.setCell ⟨q, 0, none⟩ (.int .i64 n)).setCell ⟨q, 1, none⟩ (.bool b)) := by
  have h1' : (w.setCell ⟨q, 0, none⟩ (.int .i64 n)).cell? ⟨q, 1, none⟩ = some (.bool b0) := by rw [World.cell?_setCell_other _ _ _ _ (by simp)]; exact h1
  refine ⟨?_, ?_, by simpa using hl⟩
  · rw [World.cell?_setCell_other _ _ _ _ (by simp)]
    exact World.cell?_setCell_same _ _ _ h0
  · exact World.cell?_setCell_same _ _ _ h1'
theorem wp_worldS {P : Program} {c : Code} {Q : Exit → Act → World → Prop} {a : Act} {w : World} (R : World → Prop) (h : R w) (k : ∀ w', R w' → c.wp P Q a w') : c.wp P Q a w := k w h
theorem dash_ne {s : ByteArray} (h : ¬ s = dashB) : (s.toList == [45]) = false := by
  rw [beq_eq_false_iff_ne]
  intro e
  apply h
  have e2 : s.data.toList = [45] := by rw [← Lib.toList_data]; exact e
  cases s
  unfold dashB
  congr 1
  apply Array.toList_inj.1
  exact e2
set_option maxRecDepth 100000 in
set_option maxHeartbeats 4000000 in
theorem check_any (x : St) (w : World) (hx : StIn x) : Calls Tryd.prog 11 #[x.val] w fun e w' => e = .returned (errOf (stepFault x)) ∧ Below w.heap.size w w' := by
  obtain ⟨n, b, hpn, hnb⟩ := partsOf_cases x.word
  obtain ⟨c, hpc⟩ : ∃ c, (wordF x.word).isSome = c := ⟨_, rfl⟩
  obtain ⟨t, hft⟩ : ∃ t, fitB n b x = t := ⟨_, rfl⟩
  obtain ⟨er, her⟩ : ∃ er, stepFault x = er := ⟨_, rfl⟩
  have HER : Hid ((if c = false then 3 else if t = false then 3 else if (boundB x.a || boundB x.b) = true then 1 else if 9 < x.data.size then 1 else if breaks x.data = true then 3 else if x.data = dashB then 3 else (0 : Int)) = er) := by
    rw [← her]
    show _ = stepFault x
    unfold stepFault
    rw [hpc, hpn, hft]
  rw [her]
  have HFT := hidT hft
  have HPN := hidT hpn
  have HPC := hidT hpc
  have HX := hidT hx
  have HNB := hidT hnb
  clear her hft hpn hpc hx hnb
  obtain ⟨wd, xa, xb, dt⟩ := x
  go_enter Tryd.func11, Tryd.ntmps11
  go_wp2_with fail
  refine wp_worldS (fun wz => BoxSt w.heap.size ⟨wd, xa, xb, dt⟩ wz ∧ Below w.heap.size w wz) ⟨⟨by simp, by simp, by simp, by simp, by simp⟩, by repeat (first | with_reducible exact Below.refl _ _ | with_reducible refine balloc ?_ _ | with_reducible refine bdrew ?_ | with_reducible refine bset' ?_ (by omega) _ | with_reducible refine bthen ?_ (by assumption))⟩ ?_
  rintro w0 ⟨⟨h0, h1, h2, h3, hl⟩, hb0⟩
  have HBX : Hid (BoxSt w.heap.size ⟨wd, xa, xb, dt⟩ w0) := ⟨h0, h1, h2, h3, hl⟩
  have HB0 := hidT hb0
  clear hb0
  go_cut [3, 4] (fun s3 s4 wx => ∃ q, s3 = .pointer (some ⟨q, 0, none⟩) ∧ s4 = .bool c ∧ PartAt q n b wx ∧ Below w0.heap.size w0 wx)
  case first =>
    clear h1 h2 h3
    go_region_held3 (fun w' => w'.cell? ⟨w.heap.size, 0, none⟩ = some (.string wd)) (exact cellB_later' (w := w0) (by repeat (first | with_reducible exact Below.refl _ _ | with_reducible refine balloc ?_ _ | with_reducible refine bdrew ?_ | with_reducible refine bset' ?_ (by omega) _ | with_reducible refine bthen ?_ (by assumption))) h0) (first | (go_at_call 14; refine (words_b _).mono ?_; rintro e w1 ⟨mb, rfl, hws⟩; have hb1 := hws.bel; have hlk := (look_wb hws (Below.refl _ _) wd HX.out.word n b HPN.out c HPC.out).1; have hlk2 := (look_wb hws (below1 w1 (.cells #[.int .i64 0, .bool false] 43)) wd HX.out.word n b HPN.out c HPC.out).1; have z1 := hb1.size; (try (obtain ⟨k0, k1, k2, k3⟩ : w1.cell? ⟨w0.heap.size, 0, none⟩ = some (.int .i64 0) ∧ w1.cell? ⟨w0.heap.size, 1, none⟩ = some (.bool false) ∧ w1.frozen? ⟨w0.heap.size, 0, none⟩ = false ∧ w1.frozen? ⟨w0.heap.size, 1, none⟩ = false; (focus ((refine ⟨(hb1.cell (p := ⟨w0.heap.size, 0, none⟩) ?_).trans ?_, (hb1.cell (p := ⟨w0.heap.size, 1, none⟩) ?_).trans ?_, (hb1.frozen (p := ⟨w0.heap.size, 0, none⟩) ?_).trans ?_, (hb1.frozen (p := ⟨w0.heap.size, 1, none⟩) ?_).trans ?_⟩); (all_goals (first | (simp; done) | omega))))))))
    all_goals
      go_wp2
      go_meet
      case rel => exact ⟨_, rfl, rfl, (by first | exact part_new _ _ _ _ | exact part_set k0 k1 (by simp at z1; omega)), by repeat (first | with_reducible exact Below.refl _ _ | with_reducible refine balloc ?_ _ | with_reducible refine bdrew ?_ | with_reducible refine bset' ?_ (by omega) _ | with_reducible refine bthen ?_ (by assumption))⟩
  case rest =>
    obtain ⟨q, rfl, rfl, hp, hbx⟩ := hcut
    have HP := hidT hp
    have HBC := hidT (HBX.out.later hbx)
    have HB := hidT (bthen HB0.out hbx)
    clear hp hbx h0 h1 h2 h3 hl HBX HB0
    obtain ⟨p0, p1, lp⟩ := id HP.out
    obtain ⟨b0, b1, b2, b3, lb⟩ := id HBC.out
    simp only at b0 b1 b2 b3
    cases c
    · have he : er = 3 := HER.out.symm
      clear HER
      go_wp2
      go_ret
      exact ⟨by rw [he]; rfl, HB.out⟩
    go_wp2_with fail
    refine (fit_any n b ⟨wd, xa, xb, dt⟩ _ HNB.out t HFT.out).mono ?_
    rintro e w2 ⟨rfl, hb2⟩
    have HB2 := hidT (bthen HB.out hb2)
    have HBC2 := hidT (HBC.out.later hb2)
    clear hb2 HBC HB HP p0 p1 lp b0 b1 b2 b3 lb
    obtain ⟨b0, b1, b2, b3, lb⟩ := id HBC2.out
    simp only at b0 b1 b2 b3
    cases t
    · have he : er = 3 := HER.out.symm
      clear HER
      go_wp2
      go_ret
      exact ⟨by rw [he]; rfl, HB2.out⟩
    obtain ⟨ob, hob⟩ : ∃ ob, (boundB xa || boundB xb) = ob := ⟨_, rfl⟩
    have HER2 : Hid ((if ob = true then 1 else if 9 < dt.size then 1 else if breaks dt = true then 3 else if dt = dashB then 3 else (0 : Int)) = er) := by
      rw [← hob]; exact HER.out
    have HOB : Hid ((boundB xa || boundB xb) = !(!ob)) := by show _ = _; rw [hob, Bool.not_not]
    clear hob HER
    go_wp2_with fail
    refine (inBounds_any _ xa xb (!ob) HOB.out _ (by simp) (by simp)).mono ?_
    rintro e w3 ⟨rfl, hb3⟩
    have HB3 := hidT (bthen HB2.out (bthen (below1 w2 (.cells #[.int .i64 xa, .int .i64 xb] 3)) hb3))
    have HBC3 := hidT (HBC2.out.later (bthen (below1 w2 (.cells #[.int .i64 xa, .int .i64 xb] 3)) hb3))
    clear hb3 HBC2 HB2 b0 b1 b2 b3 lb HOB
    obtain ⟨b0, b1, b2, b3, lb⟩ := id HBC3.out
    simp only at b0 b1 b2 b3
    cases ob
    · by_cases h9 : 9 < dt.size
      · have h9' : (9 : Int) < (dt.size : Int) := by omega
        have he : er = 1 := by rw [← HER2.out, if_neg Bool.false_ne_true, if_pos h9]
        clear HER2
        go_wp2
        go_ret
        exact ⟨by rw [he]; rfl, HB3.out⟩
      · have h9' : ¬ (9 : Int) < (dt.size : Int) := by omega
        obtain ⟨bk, hbk⟩ : ∃ bk, breaks dt = bk := ⟨_, rfl⟩
        have HER3 : Hid ((if bk = true then 3 else if dt = dashB then 3 else (0 : Int)) = er) := by
          rw [← hbk]; have := HER2.out; rw [if_neg Bool.false_ne_true, if_neg h9] at this; exact this
        have HBK := hidT hbk
        clear hbk HER2
        go_wp2_with fail
        refine (containsAny_any dt (by omega) bk HBK.out _).mono ?_
        rintro e w4 ⟨rfl, hb4⟩
        have HB4 := hidT (bthen HB3.out hb4)
        have HBC4 := hidT (HBC3.out.later hb4)
        clear hb4 HBC3 HB3 b0 b1 b2 b3 lb
        obtain ⟨b0, b1, b2, b3, lb⟩ := id HBC4.out
        simp only at b0 b1 b2 b3
        cases bk
        · by_cases hd : dt = dashB
          · have he : er = 3 := by rw [← HER3.out, if_neg Bool.false_ne_true, if_pos hd]
            have hq : (dt.toList == [45]) = true := by rw [hd, Lib.toList_data]; rfl
            clear HER3 hd
            go_wp2
            go_ret
            exact ⟨by rw [he]; rfl, HB4.out⟩
          · have he : er = 0 := by rw [← HER3.out, if_neg Bool.false_ne_true, if_neg hd]
            have hq : (dt.toList == [45]) = false := dash_ne hd
            clear HER3 hd
            go_wp2
            go_ret
            exact ⟨by rw [he]; rfl, HB4.out⟩
        · have he : er = 3 := HER3.out.symm
          clear HER3
          go_wp2
          go_ret
          exact ⟨by rw [he]; rfl, HB4.out⟩
    · have he : er = 1 := HER2.out.symm
      clear HER2
      go_wp2
      go_ret
      exact ⟨by rw [he]; rfl, HB3.out⟩
end Go.Proofs.YtlhgjplipgandaaDoor
