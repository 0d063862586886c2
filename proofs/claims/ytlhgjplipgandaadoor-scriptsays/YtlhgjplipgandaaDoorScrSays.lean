/- ScriptSays: the walk over any step, any text. -/
import Derived.Test.YtlhgjplipgandaaDoorRStep
import Derived.Test.YtlhgjplipgandaaDoorScript13
namespace Go.Proofs.YtlhgjplipgandaaDoor
open Go.RowKit Go.BigFrame Go.Maps
attribute [local go_sem] Later.cell Later.frozen

set_option maxHeartbeats 1000000 in
theorem same_yes (n : Int) (hn : 0 ≤ n) (w : World) : Calls Tryd.prog 10 #[errOf n, .int .i64 n] w fun e w' => e = .returned (.bool true) ∧ Below w.heap.size w w' := by
  have ra := run_assertS n
  by_cases h : n = 0
  · subst h
    rw [show errOf 0 = .nilIface from rfl]
    go_enter Tryd.func10, Tryd.ntmps10
    go_wp2
    go_ret
    exact ⟨rfl, Below.refl _ _⟩
  · have h0 : 0 < n := by omega
    rw [show errOf n = .iface 52 (.int .i64 n) by rw [errOf, if_neg h]]
    clear h
    go_enter Tryd.func10, Tryd.ntmps10
    go_wp2
    go_ret
    exact ⟨by (try rfl), Below.refl _ _⟩
def writeS : St := ⟨⟨#[119, 114, 105, 116, 101]⟩, 1, 3, ⟨#[120]⟩⟩
theorem write_ok : stepFault writeS = 0 ∧ writeS.text = [119, 114, 105, 116, 101, 32, 49, 32, 51, 32, 120] := by decide +kernel
theorem write_in : StIn writeS := ⟨by constructor <;> decide, by constructor <;> decide, by decide, by decide⟩
set_option maxRecDepth 100000 in
set_option maxHeartbeats 1000000 in
theorem scripts_any (w : World) (hl : LibW w) : Calls Tryd.prog 5 #[] w fun e w' => e = .returned (.bool true) ∧ Below w.heap.size w w' := by
  have HTK := fun W hW => text_any writeS W write_in hW
  unfold textA at HTK
  simp only [write_ok.1, write_ok.2, if_true, show errOf 0 = .nilIface from rfl] at HTK
  have HL := hidT hl
  have HSY := fun W => same_yes 0 (Int.le_refl 0) W
  rw [show errOf 0 = .nilIface from rfl] at HSY
  clear hl
  go_enter Tryd.func5, Tryd.ntmps5
  go_wp2_with fail
  refine (HTK _ HL.out).mono ?_
  rintro e w1 ⟨rfl, hb1⟩
  have HB1 := hidT hb1
  clear hb1 HTK
  go_wp2_with fail
  refine (HSY _).mono ?_
  rintro e w2 ⟨rfl, hb2⟩
  have HB2 := hidT (bthen HB1.out hb2)
  clear hb2 HSY
  go_wp2
  go_ret
  exact ⟨rfl, HB2.out⟩
theorem fault_ge (x : St) : 0 ≤ stepFault x := by rcases fault_cases x with h | h | h <;> omega
set_option linter.unusedSimpArgs false in
set_option maxRecDepth 100000 in
set_option maxHeartbeats 8000000 in
theorem ss_walk (x : St) (t : ByteArray) (w : World) (hx : StIn x) (ht : t.size ≤ 9223372036854775807) (hl : LibW w) : Calls Tryd.prog 3 #[x.val, .string t] w fun e w' => e = .returned (.bool true) ∧ Below w.heap.size w w' := by
  have HTX := fun W hW => text_any x W hx hW
  have HRX := fun W => rtext_any x W hx
  have HCK := fun W => check_any x W hx
  have HRF := fun W => rfault_any x W hx
  have HL := hidT hl
  have HGE := hidT (fault_ge x)
  have HPO : Hid (t.size ≤ 1000 → ∃ (y : St) (er : Int), 0 ≤ er ∧ (∀ W, LibW W → Calls Tryd.prog 8 #[.string t] W fun e w' => e = .returned (.tuple #[y.val, errOf er]) ∧ Below W.heap.size W w') ∧ (∀ W, Calls Tryd.prog 9 #[.string t] W fun e w' => e = .returned (.tuple #[y.val, .int .i64 er]) ∧ Below W.heap.size W w')) := by
    show _ → _
    intro h1000
    obtain ⟨n, b, hp, _⟩ := partsOf_cases (wB (spl t) 0)
    have hS := fun W => rstepof_any t h1000 n b hp W
    rw [stepR_eq t n b hp] at hS
    have hP := fun W hW ok hok => parse_any t.data.toList (by rw [show t.data.toList.length = t.size from Array.length_toList]; exact h1000) W hW ok hok
    rw [mk_list] at hP
    cases hok : parseOk t.data.toList
    · rw [hok] at hS
      exact ⟨noStep, 4, by omega, fun W hW => by have := hP W hW false hok; exact this, hS⟩
    · rw [hok] at hS
      exact ⟨readF t.data.toList, 0, by omega, fun W hW => by have := hP W hW true hok; exact this, hS⟩
  generalize textA x = T at *
  generalize stepFault x = f at *
  clear hl
  obtain ⟨wd, xa, xb, dt⟩ := x
  have HX := hidT hx
  clear hx
  go_enter Tryd.func3, Tryd.ntmps3
  go_wp2_with fail
  refine (scripts_any _ (HL.out.later (below1 _ _))).mono ?_
  rintro e w1 ⟨rfl, hb1⟩
  have HB1 := hidT (bthen (below1 w (.cells #[.string wd, .int .i64 xa, .int .i64 xb, .string dt] 23)) hb1)
  have HX1 := hidT (BoxSt.later (w := w.alloc (.cells #[.string wd, .int .i64 xa, .int .i64 xb, .string dt] 23)) (x := ⟨wd, xa, xb, dt⟩) (q := w.heap.size) ⟨by simp, by simp, by simp, by simp, by simp⟩ hb1)
  clear hb1
  obtain ⟨s0, s1, s2, s3, sl⟩ := id HX1.out
  simp only at s0 s1 s2 s3
  by_cases hw : 20 < wd.size
  · have hw' : (20 : Int) < (wd.size : Int) := by omega
    clear HTX HCK HRX HRF HPO
    go_wp2
    go_ret
    exact ⟨rfl, HB1.out⟩
  have hw' : ¬ (20 : Int) < (wd.size : Int) := by omega
  by_cases hd : 20 < dt.size
  · have hd' : (20 : Int) < (dt.size : Int) := by omega
    clear HTX HCK HRX HRF HPO
    go_wp2
    go_ret
    exact ⟨rfl, HB1.out⟩
  have hd' : ¬ (20 : Int) < (dt.size : Int) := by omega
  by_cases h60 : 60 < t.size
  · have h60' : (60 : Int) < (t.size : Int) := by omega
    clear HTX HCK HRX HRF HPO
    go_wp2
    go_ret
    exact ⟨rfl, HB1.out⟩
  have h60' : ¬ (60 : Int) < (t.size : Int) := by omega
  obtain ⟨⟨ya, yc, yd, yt⟩, er, her, hP, hS⟩ := HPO.out (by omega)
  have HER := hidT her
  clear HPO her
  go_wp2_with fail
  have HX2 := hidT (HX1.out.later (below1 w1 (.cells #[.string wd, .int .i64 xa, .int .i64 xb, .string dt] 25)))
  refine (HTX _ (HL.out.later (bthen HB1.out (below1 _ _)))).mono ?_
  rintro e w2 ⟨rfl, hb2⟩
  have HB2 := hidT (bthen (bthen HB1.out (below1 w1 (.cells #[.string wd, .int .i64 xa, .int .i64 xb, .string dt] 25))) hb2)
  have HX3 := hidT (HX2.out.later hb2)
  have HM3 := hidT (BoxSt.later (w := w1.alloc (.cells #[.string wd, .int .i64 xa, .int .i64 xb, .string dt] 25)) (x := ⟨wd, xa, xb, dt⟩) (q := w1.heap.size) ⟨by simp, by simp, by simp, by simp, by simp⟩ hb2)
  clear hb2 HTX HX1 HX2 s0 s1 s2 s3 sl
  obtain ⟨s0, s1, s2, s3, sl⟩ := id HX3.out
  obtain ⟨m0, m1, m2, m3, ml⟩ := id HM3.out
  simp only at s0 s1 s2 s3 m0 m1 m2 m3
  go_wp2_with fail
  refine (HRX _).mono ?_
  rintro e w3 ⟨rfl, hb3⟩
  have HB3 := hidT (bthen HB2.out hb3)
  have HX4 := hidT (HX3.out.later hb3)
  have HM4 := hidT (HM3.out.later hb3)
  clear hb3 HRX HX3 HM3 s0 s1 s2 s3 sl m0 m1 m2 m3 ml HB1
  go_wp2_with fail
  refine (hP _ (HL.out.later HB3.out)).mono ?_
  rintro e w4 ⟨rfl, hb4⟩
  have HB4 := hidT (bthen HB3.out hb4)
  have HX5 := hidT (HX4.out.later hb4)
  have HM5 := hidT (HM4.out.later hb4)
  clear hb4 hP HX4 HM4 HB3
  go_wp2_with fail
  refine (hS _).mono ?_
  rintro e w5 ⟨rfl, hb5⟩
  have hbA := below1 w4 (.cells #[.string ya, .int .i64 yc, .int .i64 yd, .string yt] 23)
  have HB5 := hidT (bthen (bthen HB4.out hbA) hb5)
  have HX6 := hidT (HX5.out.later (bthen hbA hb5))
  have HM6 := hidT (HM5.out.later (bthen hbA hb5))
  have HY6 := hidT (BoxSt.later (w := w4.alloc (.cells #[.string ya, .int .i64 yc, .int .i64 yd, .string yt] 23)) (x := ⟨ya, yc, yd, yt⟩) (q := w4.heap.size) ⟨by simp, by simp, by simp, by simp, by simp⟩ hb5)
  clear hb5 hbA hS HX5 HM5 HB4
  go_wp2_with fail
  refine wp_worldS (fun wz => BoxSt w.heap.size ⟨wd, xa, xb, dt⟩ wz ∧ BoxSt w1.heap.size ⟨wd, xa, xb, dt⟩ wz ∧ BoxSt w4.heap.size ⟨ya, yc, yd, yt⟩ wz ∧ BoxSt w5.heap.size ⟨ya, yc, yd, yt⟩ wz ∧ Below w.heap.size w wz) ⟨HX6.out.later (below1 _ _), HM6.out.later (below1 _ _), HY6.out.later (below1 _ _), ⟨by simp, by simp, by simp, by simp, by simp⟩, bthen HB5.out (below1 _ _)⟩ ?_
  rintro w6 ⟨⟨x0, x1, x2, x3, xl⟩, ⟨m0, m1, m2, m3, ml⟩, ⟨y0, y1, y2, y3, yl⟩, ⟨z0, z1, z2, z3, zl⟩, hb6⟩
  have HBW := hidT hb6
  have HB : Below w6.heap.size w6 w6 := Below.refl _ _
  clear hb6 HX6 HM6 HY6 HB5
  simp only at x0 x1 x2 x3 m0 m1 m2 m3 y0 y1 y2 y3 z0 z1 z2 z3
  generalize w1.heap.size = q1 at *
  generalize w4.heap.size = q4 at *
  generalize w5.heap.size = q5 at *
  refine wp_region_later (by first | exact HB | exact bdrew HB | exact Below.refl _ _) (by kernel_rfl) (by kernel_rfl) ?_
  (repeat (go_big_quiet_step (first | exact rfl | (go_at_call 11; exact calls_later (HCK _)) | (go_at_call 12; exact calls_later (HRF _)) | (go_at_call 10; exact calls_later (same_yes _ (by have ha := HGE.out; have hb := HER.out; omega) _)))))
  refine wpQuiet_nil ?_; intro _ hw'; obtain ⟨p, hw''⟩ := hw'; subst hw''; (try clear hc hf hz); (try clear HB); have HB := p.below; obtain ⟨hc, hf, hz⟩ := bcell HB
  go_wp2
  go_ret
  exact ⟨rfl, bthen HBW.out HB⟩
end Go.Proofs.YtlhgjplipgandaaDoor
