/- The reference's text of a step: StepText. -/
import Derived.Test.YtlhgjplipgandaaDoorRFault
import Derived.Test.YtlhgjplipgandaaDoorDec2
namespace Go.Proofs.YtlhgjplipgandaaDoor
open Go.RowKit Go.BigFrame Go.Maps
attribute [local go_sem] Later.cell Later.frozen

theorem dec_itoa : ∀ n : Fin 1000, decB (n.val : Int) = ⟨(Lib.itoa (n.val : Int)).toArray⟩ := by decide +kernel
theorem dec_itoa' (n : Int) (h : 0 ≤ n ∧ n ≤ 999) : decB n = ⟨(Lib.itoa n).toArray⟩ := by
  have := dec_itoa ⟨n.toNat, by omega⟩
  rwa [show ((⟨n.toNat, by omega⟩ : Fin 1000).val : Int) = n by simp; omega] at this
theorem dec_step (n : Int) (h : 0 ≤ n ∧ n ≤ 999) (w : World) : Calls Tryd.prog 17 #[.int .i64 n] w fun e w' => e = .returned (.string ⟨(Lib.itoa n).toArray⟩) ∧ Below w.heap.size w w' := by
  have := dec_any n w (by omega) (by omega)
  rwa [dec_itoa' n h] at this
theorem rtext_no (x : St) (w : World) (hx : StIn x) (h0 : ¬ stepFault x = 0) : Calls Tryd.prog 7 #[x.val] w fun e w' => e = .returned (.tuple #[.string ⟨#[]⟩, .int .i64 (stepFault x)]) ∧ Below w.heap.size w w' := by
  have HCK := fun W => rfault_any x W hx
  have hp : 0 < stepFault x := by rcases fault_cases x with h | h | h <;> omega
  obtain ⟨er, her⟩ : ∃ er, stepFault x = er := ⟨_, rfl⟩
  rw [her] at HCK h0 hp ⊢
  clear her hx h0
  obtain ⟨wd, xa, xb, dt⟩ := x
  go_enter Tryd.func7, Tryd.ntmps7
  go_wp2_with fail
  refine (HCK _).mono ?_
  rintro e w1 ⟨rfl, hb1⟩
  clear HCK
  go_wp2
  go_ret2
  exact ⟨rfl, by repeat (first | with_reducible exact Below.refl _ _ | with_reducible refine balloc ?_ _ | with_reducible refine bdrew ?_ | with_reducible refine bset' ?_ (by omega) _ | with_reducible refine bthen ?_ (by assumption))⟩
theorem retR {a b : List UInt8} (h : a = b) : Ending.returned (.tuple #[.string ⟨a.toArray⟩, .int .i64 0]) = Ending.returned (.tuple #[.string ⟨b.toArray⟩, .int .i64 0]) := by rw [h]
set_option maxRecDepth 100000 in
set_option maxHeartbeats 4000000 in
theorem rtext_yes (W L : List UInt8) (xa xb : Int) (w : World) (hx : StIn ⟨⟨W.toArray⟩, xa, xb, ⟨L.toArray⟩⟩) (h0 : stepFault ⟨⟨W.toArray⟩, xa, xb, ⟨L.toArray⟩⟩ = 0) : Calls Tryd.prog 7 #[(⟨⟨W.toArray⟩, xa, xb, ⟨L.toArray⟩⟩ : St).val] w fun e w' => e = .returned (.tuple #[.string ⟨(⟨⟨W.toArray⟩, xa, xb, ⟨L.toArray⟩⟩ : St).text.toArray⟩, .int .i64 0]) ∧ Below w.heap.size w w' := by
  have HCK := fun w0 => rfault_any ⟨⟨W.toArray⟩, xa, xb, ⟨L.toArray⟩⟩ w0 hx
  rw [h0] at HCK
  obtain ⟨f1, f2, f3, f4, f5, f6, f7⟩ := fault0 h0
  have lW := word_size _ f1
  obtain ⟨n, b, hpn, hnb⟩ := partsOf_cases ⟨W.toArray⟩
  simp only at f1 f2 f3 f4 f5 f6 f7 lW
  rw [size_list] at f5 lW
  have htx : (⟨⟨W.toArray⟩, xa, xb, ⟨L.toArray⟩⟩ : St).text = W ++ numT xa xb n.toNat ++ tailT L b := by
    unfold St.text; simp only; rw [hpn]
  rw [htx]
  have HFO := fun W0 => formOf_any ⟨W.toArray⟩ W0
  rw [hpn, f1] at HFO
  have HDA := fun W0 => dec_step xa f3 W0
  have HDB := fun W0 => dec_step xb f4 W0
  have lI := itoa_len3 xa f3.1 f3.2
  have lJ := itoa_len3 xb f4.1 f4.2
  have HN : Hid (∀ k, numT xa xb k = match k with | 0 => [] | 1 => 32 :: Lib.itoa xa | _ => 32 :: Lib.itoa xa ++ 32 :: Lib.itoa xb) := fun _ => rfl
  generalize Lib.itoa xa = I at *
  generalize Lib.itoa xb = J at *
  have hs1 := fun (A B : List UInt8) (h : A.length + B.length ≤ 60) => strS A B (by omega)
  have HS := hidT hs1
  have HL5 := hidT f5
  clear hpn f1 f2 f3 f4 f5 f6 f7 htx h0 hx hs1
  go_enter Tryd.func7, Tryd.ntmps7
  go_wp2_with fail
  refine (HCK _).mono ?_
  rintro e w1 ⟨rfl, hb1⟩
  have HX := hidT (BoxSt.later (w := w.alloc (.cells #[.string ⟨W.toArray⟩, .int .i64 xa, .int .i64 xb, .string ⟨L.toArray⟩] 25)) (x := ⟨⟨W.toArray⟩, xa, xb, ⟨L.toArray⟩⟩) (q := w.heap.size) ⟨by simp, by simp, by simp, by simp, by simp⟩ hb1)
  have HB := hidT (bthen (below1 _ _) hb1)
  clear hb1 HCK
  obtain ⟨b0, b1, b2, b3, lb⟩ := id HX.out
  simp only at b0 b1 b2 b3
  go_wp2_with fail
  refine (HFO _).mono ?_
  rintro e w2 ⟨rfl, hb2⟩
  have HX2 := hidT (HX.out.later hb2)
  have HB2 := hidT (bthen HB.out hb2)
  clear hb2 HFO HX HB b0 b1 b2 b3 lb
  obtain ⟨b0, b1, b2, b3, lb⟩ := id HX2.out
  simp only at b0 b1 b2 b3
  rcases hnb with ⟨rfl, rfl⟩ | ⟨rfl, rfl⟩ | ⟨rfl, rfl⟩ | ⟨rfl, rfl⟩
  · simp only [formL]
    go_wp2
    go_ret2
    exact ⟨retR (by rw [HN.out]; simp [tailT]), HB2.out⟩
  · simp only [formL]
    have s1 := HS.out W [32] (by simp; omega)
    have s2 := HS.out (W ++ [32]) I (by simp; omega)
    go_wp2_with fail
    refine (HDA _).mono ?_
    rintro e w3 ⟨rfl, hb3⟩
    have HB3 := hidT (bthen HB2.out hb3)
    have HX3 := hidT (HX2.out.later hb3)
    clear hb3 HDA HX2 HB2 b0 b1 b2 b3 lb
    go_wp2
    go_ret2
    exact ⟨retR (by rw [HN.out]; simp [tailT]), HB3.out⟩
  · simp only [formL]
    have s1 := HS.out W [32] (by simp; omega)
    have s2 := HS.out (W ++ [32]) I (by simp; omega)
    have l1 : (W ++ [32] ++ I).length ≤ 12 := by simp; omega
    obtain ⟨T1, hT1⟩ : ∃ T1, W ++ [32] ++ I = T1 := ⟨_, rfl⟩
    rw [hT1] at l1 s2
    have HT1 := hidT hT1
    clear hT1
    have s3 := HS.out T1 [32] (by simp; omega)
    have s4 := HS.out (T1 ++ [32]) J (by simp; omega)
    go_wp2_with fail
    refine (HDA _).mono ?_
    rintro e w3 ⟨rfl, hb3⟩
    have HB3 := hidT (bthen HB2.out hb3)
    have HX3 := hidT (HX2.out.later hb3)
    clear hb3 HDA HX2 HB2 b0 b1 b2 b3 lb
    obtain ⟨b0, b1, b2, b3, lb⟩ := id HX3.out
    simp only at b0 b1 b2 b3
    go_wp2_with fail
    refine (HDB _).mono ?_
    rintro e w4 ⟨rfl, hb4⟩
    have HB4 := hidT (bthen HB3.out hb4)
    have HX4 := hidT (HX3.out.later hb4)
    clear hb4 HDB HX3 HB3 b0 b1 b2 b3 lb
    obtain ⟨b0, b1, b2, b3, lb⟩ := id HX4.out
    simp only at b0 b1 b2 b3
    have lT : (T1 ++ [32] ++ J).length ≤ 16 := by simp; omega
    obtain ⟨T, hT⟩ : ∃ T, T1 ++ [32] ++ J = T := ⟨_, rfl⟩
    rw [hT] at lT s4
    have HT := hidT hT
    clear hT
    have s5 := HS.out T [32, 45] (by simp; omega)
    have s6 := HS.out T [32] (by simp; omega)
    have s7 := HS.out (T ++ [32]) L (by have := HL5.out; simp; omega)
    clear lT lI lJ lW l1
    cases L with
    | nil =>
      go_wp2
      go_ret2
      exact ⟨retR (by rw [HN.out, ← HT.out, ← HT1.out]; simp [tailT]), HB4.out⟩
    | cons c L =>
      have hq2 : (⟨(c :: L).toArray⟩ : ByteArray).toList.isEmpty = false := by rw [Lib.toList_data]; rfl
      have hq : ((⟨(c :: L).toArray⟩ : ByteArray).toList == []) = false := by rw [Lib.toList_data]; rfl
      go_wp2
      go_ret2
      exact ⟨retR (by rw [HN.out, ← HT.out, ← HT1.out]; simp [tailT]), HB4.out⟩
  · simp only [formL]
    have s1 := HS.out W [32] (by simp; omega)
    have s2 := HS.out (W ++ [32]) I (by simp; omega)
    have l1 : (W ++ [32] ++ I).length ≤ 12 := by simp; omega
    obtain ⟨T1, hT1⟩ : ∃ T1, W ++ [32] ++ I = T1 := ⟨_, rfl⟩
    rw [hT1] at l1 s2
    have HT1 := hidT hT1
    clear hT1
    have s3 := HS.out T1 [32] (by simp; omega)
    have s4 := HS.out (T1 ++ [32]) J (by simp; omega)
    go_wp2_with fail
    refine (HDA _).mono ?_
    rintro e w3 ⟨rfl, hb3⟩
    have HB3 := hidT (bthen HB2.out hb3)
    have HX3 := hidT (HX2.out.later hb3)
    clear hb3 HDA HX2 HB2 b0 b1 b2 b3 lb
    obtain ⟨b0, b1, b2, b3, lb⟩ := id HX3.out
    simp only at b0 b1 b2 b3
    go_wp2_with fail
    refine (HDB _).mono ?_
    rintro e w4 ⟨rfl, hb4⟩
    have HB4 := hidT (bthen HB3.out hb4)
    have HX4 := hidT (HX3.out.later hb4)
    clear hb4 HDB HX3 HB3 b0 b1 b2 b3 lb
    obtain ⟨b0, b1, b2, b3, lb⟩ := id HX4.out
    simp only at b0 b1 b2 b3
    go_wp2
    go_ret2
    exact ⟨retR (by rw [HN.out, ← HT1.out]; simp [tailT]), HB4.out⟩
theorem rtext_any (x : St) (w : World) (hx : StIn x) : Calls Tryd.prog 7 #[x.val] w fun e w' => e = .returned (.tuple #[.string (textA x), .int .i64 (stepFault x)]) ∧ Below w.heap.size w w' := by
  by_cases h0 : stepFault x = 0
  · unfold textA
    rw [if_pos h0, h0]
    obtain ⟨wd, xa, xb, dt⟩ := x
    obtain ⟨W, rfl⟩ := bytes_list wd
    obtain ⟨L, rfl⟩ := bytes_list dt
    exact rtext_yes W L xa xb w hx h0
  · unfold textA
    rw [if_neg h0]
    exact rtext_no x w hx h0
end Go.Proofs.YtlhgjplipgandaaDoor
