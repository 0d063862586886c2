/- The reference's word on a step: StepFault. -/
import Derived.Test.YtlhgjplipgandaaDoorRForm
namespace Go.Proofs.YtlhgjplipgandaaDoor
open Go.RowKit Go.BigFrame Go.Maps
attribute [local go_sem] Later.cell Later.frozen

structure SameW (a b : World) : Prop where
  same : a = b
theorem wb1 (z : UInt8) : breakB z = (decide ((z.toNat : Int) = 32) || decide ((z.toNat : Int) = 10)) := by
  unfold breakB
  have e1 : (z == 32) = decide ((z.toNat : Int) = 32) := by
    rw [Bool.eq_iff_iff, beq_iff_eq, decide_eq_true_eq, ← UInt8.toNat_inj]; simp; omega
  have e2 : (z == 10) = decide ((z.toNat : Int) = 10) := by
    rw [Bool.eq_iff_iff, beq_iff_eq, decide_eq_true_eq, ← UInt8.toNat_inj]; simp; omega
  rw [e1, e2]
theorem z_or (n : Int) : n = 0 ∨ ((n != 0) = true ∧ (n == 0) = false) := by
  by_cases h : n = 0
  · exact Or.inl h
  · exact Or.inr ⟨bne_iff_ne.2 h, beq_eq_false_iff_ne.2 h⟩
theorem e_or (s : ByteArray) : s = ⟨#[]⟩ ∨ (s.toList.isEmpty = false ∧ s.data.toList.isEmpty = false) := by
  obtain ⟨l, rfl⟩ := bytes_list s
  cases l with
  | nil => exact Or.inl rfl
  | cons c l => exact Or.inr ⟨by rw [Lib.toList_data]; rfl, rfl⟩
set_option maxRecDepth 100000 in
set_option maxHeartbeats 4000000 in
theorem rfault_any (x : St) (w : World) (hx : StIn x) : Calls Tryd.prog 12 #[x.val] w fun e w' => e = .returned (.int .i64 (stepFault x)) ∧ Below w.heap.size w w' := by
  obtain ⟨n, b, hpn, hnb⟩ := partsOf_cases x.word
  obtain ⟨c, hpc⟩ : ∃ c, (wordF x.word).isSome = c := ⟨_, rfl⟩
  obtain ⟨t, hft⟩ : ∃ t, fitB n b x = t := ⟨_, rfl⟩
  obtain ⟨er, her⟩ : ∃ er, stepFault x = er := ⟨_, rfl⟩
  have HER : Hid ((if c = false then 3 else if t = false then 3 else if (boundB x.a || boundB x.b) = true then 1 else if 9 < x.data.size then 1 else if breaks x.data = true then 3 else if x.data = dashB then 3 else (0 : Int)) = er) := by
    rw [← her]
    show _ = stepFault x
    unfold stepFault
    rw [hpc, hpn, hft]
  rw [her]
  have HFO := fun W => formOf_any x.word W
  rw [hpn, hpc] at HFO
  have HFT := hidT hft
  have HX := hidT hx
  clear her hft hpn hpc hx
  obtain ⟨wd, xa, xb, dt⟩ := x
  go_enter Tryd.func12, Tryd.ntmps12
  go_wp2_with fail
  refine (HFO _).mono ?_
  rintro e w1 ⟨rfl, hb1⟩
  have HBX := hidT (BoxSt.later (w := w.alloc (.cells #[.string wd, .int .i64 xa, .int .i64 xb, .string dt] 25)) (x := ⟨wd, xa, xb, dt⟩) (q := w.heap.size) ⟨by simp, by simp, by simp, by simp, by simp⟩ hb1)
  have HB := hidT (bthen (below1 _ _) hb1)
  clear hb1 HFO
  obtain ⟨F, hF⟩ : ∃ F, formL n b = F := ⟨_, rfl⟩
  rw [hF]
  obtain ⟨b0, b1, b2, b3, lb⟩ := id HBX.out
  simp only at b0 b1 b2 b3
  go_upto_region 2 with fail
  go_cut [42] (fun s42 wx => s42 = .bool (!(c && t)) ∧ wx = w1)
  case first =>
    clear HER b0 b3
    have H := HFT.out
    clear HFT
    unfold fitB at H
    simp only at H
    have b3 := (HBX.out).2.2.2.1
    simp only at b3
    clear HBX HX
    have ha := z_or xa
    have hb := z_or xb
    have hd := e_or dt
    rw [Lib.toList_data] at H
    rcases hnb with ⟨rfl, rfl⟩ | ⟨rfl, rfl⟩ | ⟨rfl, rfl⟩ | ⟨rfl, rfl⟩
    all_goals
      subst hF
      rcases ha with rfl | ⟨ha, ha2⟩ <;> rcases hb with rfl | ⟨hb, hb2⟩ <;> rcases hd with rfl | ⟨hd, hd2⟩ <;> cases c
    all_goals
      (try rw [ha2] at H)
      (try rw [hb2] at H)
      (try rw [hd2] at H)
      (try clear ha2)
      (try clear hb2)
      (try clear hd2)
      have HH := hidT H
      clear H
      simp only [formL]
      go_wp2
      go_meet
      case rel => exact ⟨by rw [← HH.out]; rfl, rfl⟩
  case rest =>
    obtain ⟨rfl, rfl⟩ := hcut
    clear hnb hF HFT
    cases c
    · have he : er = 3 := HER.out.symm
      rw [show (!(false && t)) = true from rfl]
      clear HER
      go_wp2
      go_ret
      exact ⟨by rw [he]; rfl, HB.out⟩
    cases t
    · have he : er = 3 := HER.out.symm
      rw [show (!(true && false)) = true from rfl]
      clear HER
      go_wp2
      go_ret
      exact ⟨by rw [he]; rfl, HB.out⟩
    rw [show (!(true && true)) = false from rfl]
    obtain ⟨v, hv⟩ : ∃ v, (boundB xa || boundB xb || decide (9 < dt.size)) = v := ⟨_, rfl⟩
    have HV := hidT hv
    clear hv
    go_upto_region 4 with fail
    go_cut [66] (fun s66 wx => s66 = .bool v ∧ wx = wc)
    case first =>
      clear HER HBX HX
      have hA : xa < 0 ∨ (¬ xa < 0 ∧ 999 < xa) ∨ (¬ xa < 0 ∧ ¬ 999 < xa) := by omega
      have hB : xb < 0 ∨ (¬ xb < 0 ∧ 999 < xb) ∨ (¬ xb < 0 ∧ ¬ 999 < xb) := by omega
      have h9 : (9 : Int) < (dt.size : Int) ∨ ¬ (9 : Int) < (dt.size : Int) := by omega
      rcases hA with hA | ⟨hA, hA2⟩ | ⟨hA, hA2⟩ <;> rcases hB with hB | ⟨hB, hB2⟩ | ⟨hB, hB2⟩ <;> rcases h9 with h9 | h9
      all_goals
        go_wp2
        go_meet
        case rel => exact ⟨congrArg Value.bool (by rw [← HV.out, Bool.eq_iff_iff]; simp [boundB]; omega), rfl⟩
    case rest =>
      obtain ⟨rfl, rfl⟩ := hcut
      cases v
      · have hbb := Bool.or_eq_false_iff.1 HV.out
        have HER2 : Hid ((if breaks dt = true then 3 else if dt = dashB then 3 else (0 : Int)) = er) := by
          have h9 := hbb.2
          have := HER.out
          rw [if_neg (by decide), if_neg (by decide), if_neg (by rw [hbb.1]; decide), if_neg (by simpa using h9)] at this
          exact this
        clear HER HV hbb
        go_wp2
        go_loopw [5] (fun i wr => ∃ j : Nat, j ≤ dt.size ∧ i = .int .i64 j ∧ NoBr dt j ∧ SameW wr wc) (fun i _ => dt.size - (intOf i).toNat)
        case atStart => exact ⟨0, by omega, rfl, fun j hj => absurd hj (Nat.not_lt_zero _), ⟨rfl⟩⟩
        case round =>
          obtain ⟨j, hj, rfl, hno, hw⟩ := hrel
          have hw2 := hw.same
          clear hw
          subst hw2
          have HN := hidT hno
          clear hno
          by_cases hlt : j < dt.size
          · have hlt' : (j : Int) < (dt.size : Int) := by omega
            have hj0 : (0 : Int) ≤ (j : Int) := by omega
            obtain ⟨z, hz⟩ : ∃ z : Nat, (dt[j]'hlt).toNat = z := ⟨_, rfl⟩
            have HZ := hidT hz
            have HW : Hid (breakB (dt[j]'hlt) = (decide ((z : Int) = 32) || decide ((z : Int) = 10))) := by show _ = _; rw [← hz]; exact wb1 _
            by_cases h1 : (z : Int) = 32
            · have he : er = 3 := by
                have := HER2.out
                rw [if_pos (br_hit hlt (by rw [HW.out, decide_eq_true h1]; rfl))] at this
                exact this.symm
              have h1' : z = 32 := by omega
              subst h1'
              clear HER2 HW HN
              go_wp2
              go_ret
              exact ⟨by rw [he]; rfl, HB.out⟩
            · by_cases h2 : (z : Int) = 10
              · have he : er = 3 := by
                  have := HER2.out
                  rw [if_pos (br_hit hlt (by rw [HW.out, decide_eq_true h2, Bool.or_true]))] at this
                  exact this.symm
                have h2' : z = 10 := by omega
                subst h2'
                clear HER2 HW HN
                go_wp2
                go_ret
                exact ⟨by rw [he]; rfl, HB.out⟩
              · have HN2 : Hid (NoBr dt (j + 1)) := by
                  intro i hi h
                  rcases Nat.lt_or_eq_of_le (Nat.le_of_lt_succ hi) with hi' | rfl
                  · exact HN.out i hi' h
                  · rw [HW.out, decide_eq_false h1, decide_eq_false h2]; rfl
                have h1' : ¬ z = 32 := by omega
                have h2' : ¬ z = 10 := by omega
                have q1 : ((z : Int) == 32) = false := beq_eq_false_iff_ne.2 h1
                have q2 : ((z : Int) == 10) = false := beq_eq_false_iff_ne.2 h2
                have hxl := HX.out.data
                simp only at hxl
                clear HER2 HW HN
                go_wp2
                go_roundw
                case rel => exact ⟨j + 1, by omega, by go_num, HN2.out, ⟨rfl⟩⟩
                case measure => simp [intOf]; omega
          · have hje : j = dt.size := by omega
            have hbk : breaks dt = false := noBr_all (hje ▸ HN.out)
            by_cases hd : dt = dashB
            · have he : er = 3 := by rw [← HER2.out, hbk, if_neg Bool.false_ne_true, if_pos hd]
              have hq : (dt.toList == [45]) = true := by rw [hd, Lib.toList_data]; rfl
              clear HER2 hd HN hbk
              go_wp2
              go_ret
              exact ⟨by rw [he]; rfl, HB.out⟩
            · have he : er = 0 := by rw [← HER2.out, hbk, if_neg Bool.false_ne_true, if_neg hd]
              have hq : (dt.toList == [45]) = false := dash_ne hd
              clear HER2 hd HN hbk
              go_wp2
              go_ret
              exact ⟨by rw [he]; rfl, HB.out⟩
      · have he : er = 1 := by
          have hv := HV.out
          rw [Bool.or_eq_true] at hv
          have := HER.out
          rw [if_neg (by decide), if_neg (by decide)] at this
          rcases hv with hv | hv
          · rw [if_pos hv] at this; exact this.symm
          · rw [if_pos (of_decide_eq_true hv)] at this
            rw [← this]; split <;> rfl
        clear HER HV
        go_wp2
        go_ret
        exact ⟨by rw [he]; rfl, HB.out⟩
end Go.Proofs.YtlhgjplipgandaaDoor
