/- Put where there is no room. -/
import Derived.Test.YtpmjgofjdejeeacCache11
namespace Go.Proofs.Ytpmjgofjdejeeac
open Go.RowKit Go.BigFrame
attribute [local go_sem] Later.cell Later.frozen

set_option maxRecDepth 100000 in
set_option maxHeartbeats 2000000 in
theorem put_full (gh : Nat) (egh : ∀ args w, (callFunc gh args).run Try.prog w = .ok (.enter gh args) w) (hc : Array Value) (H : Int → Bool) (l : List Bf) (a : Option Addr) (c : Nat) (x : Bf) (w : World) (hl : BufsAt w a l) (hn : a = none → c = 0) (h8 : l.length = 8) (hi : idxB (plB x.pl) l = -1)
    (hh : ∀ n w', Below w.heap.size w w' → Calls Try.prog gh (#[.int .i64 n] ++ hc) w' fun e w'' => e = .returned (.bool (H n)) ∧ Below w'.heap.size w' w'') (hr : leastU (fitB false H) l l.length = -1) :
    Calls Try.prog 42 #[.slice a l.length c, x.val, .func (.func gh) #[] hc] w fun e w' => e = .returned (.tuple #[.slice none 0 0, .iface 47 (.int .i64 7)]) ∧ Below w.heap.size w w' := by
  have HI := hidB hi
  have HH := hidB hh
  have HR := hidB hr
  have H8 := hidB h8
  have h8' : (8 : Int) ≤ (l.length : Int) := by omega
  clear hi hh hr h8
  have b0 := below1 w (.cells #[.int .i64 x.pl, .string x.data, .bool x.dirty, .int .i64 x.used] 72)
  go_enter Try.func42, Try.ntmps42
  go_wp2_with fail
  refine (cloneB_any l a c _ (hl.later b0) hn (by have := H8.out; omega)).mono ?_
  rintro e w1 ⟨a1, c1, rfl, hN, hb1⟩
  have F1 : FourB w1 w.heap.size x := FourB.later ⟨by simp, by simp, by simp, by simp⟩ hb1
  have HB1 : Below w.heap.size w w1 := bthen b0 hb1
  have hN1 : NewBufs (w.heap.size + 1) w1 a1 c1 l := by simpa using hN
  clear hN hb1 b0
  obtain ⟨p0, p1, p2, p3⟩ := id F1
  go_wp2_with fail
  refine (place_eq l a1 c1 x.pl _ hN1.here _ HI.out).mono ?_
  rintro e w2 ⟨rfl, hb2⟩
  have HB2 := bthen HB1 hb2
  have hN2 := hN1.later hb2
  clear hb2 HB1 F1 p0 p1 p2 p3 hN1
  go_wp2_with fail
  refine (leastUsed_any false gh egh hc H l a1 c1 _ hN2.here (fun n w' hb => HH.out n w' (bthen HB2 hb)) _ HR.out).mono ?_
  rintro e w3 ⟨rfl, hb3⟩
  have HB3 := bthen HB2 hb3
  clear hb3 HB2 hN2
  go_wp2
  go_ret2
  exact ⟨rfl, HB3⟩

set_option maxRecDepth 100000 in
set_option maxHeartbeats 2000000 in
theorem put_drop (gh : Nat) (egh : ∀ args w, (callFunc gh args).run Try.prog w = .ok (.enter gh args) w) (hc : Array Value) (H : Int → Bool) (l : List Bf) (a : Option Addr) (c : Nat) (x : Bf) (w : World) (hl : BufsAt w a l) (hn : a = none → c = 0) (h8 : l.length = 8) (hi : idxB (plB x.pl) l = -1)
    (hh : ∀ n w', Below w.heap.size w w' → Calls Try.prog gh (#[.int .i64 n] ++ hc) w' fun e w'' => e = .returned (.bool (H n)) ∧ Below w'.heap.size w' w'') (k : Nat) (hk : k < l.length) (hr : leastU (fitB false H) l l.length = k) :
    Calls Try.prog 42 #[.slice a l.length c, x.val, .func (.func gh) #[] hc] w fun e w' => ∃ a' c', e = .returned (.tuple #[.slice a' l.length c', .nilIface]) ∧ BufsAt w' a' (insL (l.eraseIdx k) x) ∧ l.length ≤ c' ∧ Below w.heap.size w w' := by
  have HI := hidB hi
  have HH := hidB hh
  have HR := hidB hr
  have H8 := hidB h8
  have h8' : (8 : Int) ≤ (l.length : Int) := by omega
  have h0 : l ≠ [] := by rintro rfl; exact absurd hk (Nat.not_lt_zero _)
  have H0 := hidB h0
  have hel : (l.eraseIdx k).length = l.length - 1 := by rw [List.length_eraseIdx, if_pos hk]
  have HEL := hidB hel
  have hwr : IntKind.i64.wrap ((k : Int) + 1) = (k : Int) + 1 := by rw [IntKind.wrap_i64]; omega
  clear hi hh hr h8 h0 hel
  obtain ⟨L, hL⟩ : ∃ L, L = l.eraseIdx k := ⟨_, rfl⟩
  have HL := hidB hL
  have hLn : l.length = L.length + 1 := by rw [hL, HEL.out]; omega
  have HLN := hidB hLn
  rw [← hL]
  clear hL hLn
  have b0 := below1 w (.cells #[.int .i64 x.pl, .string x.data, .bool x.dirty, .int .i64 x.used] 72)
  go_enter Try.func42, Try.ntmps42
  go_wp2_with fail
  refine (cloneB_any l a c _ (hl.later b0) hn (by have := H8.out; omega)).mono ?_
  rintro e w1 ⟨a1, c1, rfl, hN, hb1⟩
  have F1 : FourB w1 w.heap.size x := FourB.later ⟨by simp, by simp, by simp, by simp⟩ hb1
  have HB1 : Below w.heap.size w w1 := bthen b0 hb1
  have z1 : w.heap.size + 1 ≤ w1.heap.size := by have := hb1.size; simpa using this
  have hN1 : NewBufs (w.heap.size + 1) w1 a1 c1 l := by simpa using hN
  clear hN hb1 b0
  obtain ⟨b1, rfl, hbb, hlt, hfz⟩ := hN1.place H0.out
  obtain ⟨p0, p1, p2, p3⟩ := id F1
  go_wp2_with fail
  refine (place_eq l _ c1 x.pl _ hN1.here _ HI.out).mono ?_
  rintro e w2 ⟨rfl, hb2⟩
  have F2 := F1.later hb2
  have HB2 := bthen HB1 hb2
  have z2 : w.heap.size + 1 ≤ w2.heap.size := Nat.le_trans z1 hb2.size
  have hN2 := hN1.later hb2
  clear hb2 HB1 F1 p0 p1 p2 p3 hN1 z1 hlt hfz
  go_wp2_with fail
  refine (leastUsed_any false gh egh hc H l _ c1 _ hN2.here (fun n w' hb => HH.out n w' (bthen HB2 hb)) _ HR.out).mono ?_
  rintro e w3 ⟨rfl, hb3⟩
  have F3 := F2.later hb3
  have HB3 := bthen HB2 hb3
  have z3 : w.heap.size + 1 ≤ w3.heap.size := Nat.le_trans z2 hb3.size
  have hN3 := hN2.later hb3
  clear hb3 HB2 F2 hN2 z2
  go_wp2_with fail
  refine (delB l b1 c1 k (w.heap.size + 1) _ hk hN3).mono ?_
  rintro e w4 ⟨rfl, hN4, hb4⟩
  have F4 := F3.below hb4 (by omega)
  have HB4 : Below w.heap.size w w4 := HB3.trans (hb4.mono (by omega))
  have z4 : w.heap.size + 1 ≤ w4.heap.size := Nat.le_trans z3 hb4.size
  rw [← HL.out] at hN4
  rw [show l.length - 1 = L.length by have := HLN.out; omega]
  clear hb4 HB3 F3 hN3 z3
  rcases gt_idx2 x.pl L with ⟨hg, hgl⟩ | ⟨hg, hgl⟩
  all_goals
    have HG := hidB hg
    have HGL := hidB hgl
    clear hg hgl
    obtain ⟨p0, p1, p2, p3⟩ := id F4
    go_wp2_with fail
    refine (gtidx_any x w.heap.size L _ c1 _ hN4.here F4 _ HG.out).mono ?_
    rintro e w5 ⟨rfl, hb5⟩
    have F5 := F4.later hb5
    have HB5 := bthen HB4 hb5
    have z5 : w.heap.size + 1 ≤ w5.heap.size := Nat.le_trans z4 hb5.size
    have hN5 := hN4.later hb5
    clear hb5 HB4 F4 p0 p1 p2 p3 hN4 z4
    obtain ⟨p0, p1, p2, p3⟩ := id F5
    go_wp2_with fail
    refine (insP L _ c1 (w.heap.size + 1) _ x w5 (by first | exact Nat.le_refl _ | exact gtAt_le _ _) (by have := H8.out; have := HLN.out; omega) z5 hN5).mono ?_
    rintro e w6 ⟨a6, c6, rfl, hN6, hb6, cp⟩
    have HB6 : Below w.heap.size w w6 := HB5.trans (hb6.mono (by omega))
    have R := hN6.here
    (try rw [← HGL.out] at R)
    go_wp2
    go_ret2
    refine ⟨a6, c6, ?_, R, by rw [HLN.out]; exact cp, HB6⟩
    rw [HLN.out]
    rfl
end Go.Proofs.Ytpmjgofjdejeeac
