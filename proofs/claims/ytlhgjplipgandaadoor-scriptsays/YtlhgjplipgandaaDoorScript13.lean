/- A step's text is told and read again. -/
import Derived.Test.YtlhgjplipgandaaDoorScript12
namespace Go.Proofs.YtlhgjplipgandaaDoor
open Go.RowKit Go.BigFrame Go.Maps
attribute [local go_sem] Later.cell Later.frozen

theorem run_assertS (n : Int) (w : World) : Sem.run Tryd.prog (Instr.typeAssert (.iface 52 (.int .i64 n)) 27 52 true) w = .ok (.tuple #[.int .i64 n, .bool true]) w := by kernel_rfl
theorem number_step (n : Int) (w : World) : Calls Tryd.prog 13 #[.iface 52 (.int .i64 n)] w fun e w' => e = .returned (.int .i64 n) ∧ Below w.heap.size w w' := by
  have ra := run_assertS n
  go_enter Tryd.func13, Tryd.ntmps13
  go_wp2
  go_ret
  exact ⟨rfl, Below.refl _ _⟩
def tickS : St := ⟨⟨#[116, 105, 99, 107]⟩, 0, 0, ⟨#[]⟩⟩
theorem tick_ok : stepFault tickS = 0 ∧ tickS.text = [116, 105, 99, 107] := by decide +kernel
theorem tick_in : StIn tickS := ⟨by constructor <;> decide, by constructor <;> decide, by decide, by decide⟩
set_option maxRecDepth 100000 in
set_option maxHeartbeats 4000000 in
theorem tt_text (x : St) (w : World) (hx : StIn x) (hl : LibW w) : Calls Tryd.prog 4 #[x.val] w fun e w' => e = .returned (.bool true) ∧ Below w.heap.size w w' := by
  have HTK := fun W hW => text_any tickS W tick_in hW
  have HTX := fun W hW => text_any x W hx hW
  have HCK := fun W => check_any x W hx
  unfold textA at HTK HTX
  simp only [tick_ok.1, tick_ok.2, if_true, show errOf 0 = .nilIface from rfl] at HTK
  have HL := hidT hl
  have HPR := fun (h : stepFault x = 0) W hW => parse_any x.text (text_len x h) W hW true (text_back x h).1
  have HRB := hidT (fun (h : stepFault x = 0) => (text_back x h).2)
  clear hl hx
  go_enter Tryd.func4, Tryd.ntmps4
  go_wp2_with fail
  refine (HTK _ (HL.out.later (below1 _ _))).mono ?_
  rintro e w1 ⟨rfl, hb1⟩
  obtain ⟨wd, xa, xb, dt⟩ := x
  have HX := hidT (BoxSt.later (w := w.alloc (.cells #[.string wd, .int .i64 xa, .int .i64 xb, .string dt] 23)) (x := ⟨wd, xa, xb, dt⟩) (q := w.heap.size) ⟨by simp, by simp, by simp, by simp, by simp⟩ hb1)
  have HB1 := hidT (bthen (below1 _ _) hb1)
  clear hb1 HTK
  obtain ⟨s0, s1, s2, s3, sl⟩ := id HX.out
  simp only at s0 s1 s2 s3
  by_cases hw : 20 < wd.size
  · have hw' : (20 : Int) < (wd.size : Int) := by omega
    clear HTX HCK HPR
    go_wp2
    go_ret
    exact ⟨rfl, HB1.out⟩
  have hw' : ¬ (20 : Int) < (wd.size : Int) := by omega
  by_cases hd : 20 < dt.size
  · have hd' : (20 : Int) < (dt.size : Int) := by omega
    clear HTX HCK HPR
    go_wp2
    go_ret
    exact ⟨rfl, HB1.out⟩
  have hd' : ¬ (20 : Int) < (dt.size : Int) := by omega
  by_cases h0 : stepFault ⟨wd, xa, xb, dt⟩ = 0
  · have HPR2 := HPR h0
    rw [HRB.out h0] at HPR2
    simp only [h0, if_true, show errOf 0 = .nilIface from rfl] at HTX
    simp only [if_true] at HPR2
    generalize St.text ⟨wd, xa, xb, dt⟩ = tl at *
    clear HPR HRB HCK h0 hw hd
    go_wp2_with fail
    refine (HTX _ (HL.out.later HB1.out)).mono ?_
    rintro e w2 ⟨rfl, hb2⟩
    have HB2 := hidT (bthen HB1.out hb2)
    have HX2 := hidT (HX.out.later hb2)
    clear hb2 HTX HX HB1 s0 s1 s2 s3 sl
    go_wp2_with fail
    refine (HPR2 _ (HL.out.later HB2.out)).mono ?_
    rintro e w3 ⟨rfl, hb3⟩
    have HB3 := hidT (bthen HB2.out hb3)
    obtain ⟨s0, s1, s2, s3, sl⟩ := HX2.out.later hb3
    clear hb3 HPR2 HX2 HB2
    simp only at s0 s1 s2 s3
    go_wp2
    go_ret
    exact ⟨rfl, by have hb3 := HB3.out; repeat (first | with_reducible exact Below.refl _ _ | with_reducible refine balloc ?_ _ | with_reducible refine bdrew ?_ | with_reducible refine bset' ?_ (by omega) _ | with_reducible refine bthen ?_ (by assumption))⟩
  · rw [show errOf (stepFault ⟨wd, xa, xb, dt⟩) = .iface 52 (.int .i64 (stepFault ⟨wd, xa, xb, dt⟩)) by rw [errOf, if_neg h0]] at HTX HCK
    simp only [h0, if_false] at HTX
    generalize stepFault ⟨wd, xa, xb, dt⟩ = er at *
    clear HPR HRB h0 hw hd
    go_wp2_with fail
    refine (HTX _ (HL.out.later HB1.out)).mono ?_
    rintro e w2 ⟨rfl, hb2⟩
    have HB2 := hidT (bthen HB1.out hb2)
    have HX2 := hidT (HX.out.later hb2)
    clear hb2 HTX HX HB1 s0 s1 s2 s3 sl
    obtain ⟨s0, s1, s2, s3, sl⟩ := id HX2.out
    simp only at s0 s1 s2 s3
    go_wp2_with fail
    refine (HCK _).mono ?_
    rintro e w3 ⟨rfl, hb3⟩
    have HB3 := hidT (bthen HB2.out hb3)
    clear hb3 HCK HX2 HB2 s0 s1 s2 s3 sl
    go_wp2_with fail
    refine (number_step er _).mono ?_
    rintro e w4 ⟨rfl, hb4⟩
    have HB4 := hidT (bthen HB3.out hb4)
    clear hb4 HB3
    go_wp2_with fail
    refine (number_step er _).mono ?_
    rintro e w5 ⟨rfl, hb5⟩
    have HB5 := hidT (bthen HB4.out hb5)
    clear hb5 HB4
    go_wp2
    go_ret
    exact ⟨rfl, HB5.out⟩
end Go.Proofs.YtlhgjplipgandaaDoor
