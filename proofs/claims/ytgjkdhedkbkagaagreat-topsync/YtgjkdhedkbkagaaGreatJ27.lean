/- Sectors at hand: Clean, Use, Put, told with where what they answer lies. -/
import Derived.Test.YtgjkdhedkbkagaaGreatJ17
import Derived.Test.YtgjkdhedkbkagaaGreatJ25
import Derived.Test.YtgjkdhedkbkagaaGreatJ26
namespace Go.Proofs.YtgjkdhedkbkagaaGreat
open Go.RowKit Go.BigFrame
set_option maxRecDepth 100000
attribute [local go_sem] Later.cell Later.frozen

/-- It lies in new memory. -/
def NewA (base : Nat) (a : Option Addr) : Prop := ∀ p, a = some p → base ≤ p.block
theorem NewBufs.newA {base : Nat} {w : World} {a : Option Addr} {c : Nat} {l : List Bf} (h : NewBufs base w a c l) : NewA base a := fun p e => (h.own.lt p.block (by rw [e]; rfl)).1
theorem newA_at {base b o : Nat} (h : base ≤ b) : NewA base (some ⟨b, o, none⟩) := fun p e => by simp only [Option.some.injEq] at e; subst e; exact h
theorem NewA.mono {base base' : Nat} {a : Option Addr} (h : NewA base a) (hb : base' ≤ base) : NewA base' a := fun p e => Nat.le_trans hb (h p e)
set_option maxHeartbeats 2000000 in
theorem cleanN (l : List Bf) (a : Option Addr) (c : Nat) (at' : Int) (data : ByteArray) (w : World) (hl : BufsAt w a l) (hn : a = none → c = 0) (h10 : l.length ≤ 1000) (ho : OnceB l) :
    Calls Tryz.prog 85 #[.slice a l.length c, .int .i64 at', .string data] w fun e w' => ∃ a' c', e = .returned (.slice a' l.length c') ∧ BufsAt w' a' (cleanL l at' data) ∧ l.length ≤ c' ∧ NewA w.heap.size a' ∧ (a' = none → c' = 0) ∧ Below w.heap.size w w' := by
  have HO := hidC ho
  clear ho
  rcases idx_spec (plB at') l with ⟨h, _⟩ | ⟨k, hk, h, _, _⟩
  · have HC := hidC (clean_no (data := data) h)
    go_enter Tryz.func85, Tryz.ntmps85
    go_wp2_with fail
    refine (cloneB_any l a c _ hl hn (by omega)).mono ?_
    rintro e w1 ⟨a', c', rfl, hN, hb1⟩
    go_wp2_with fail
    refine (place_eq l a' c' at' _ hN.here _ h).mono ?_
    rintro e w2 ⟨rfl, hb2⟩
    have R := hN.here.later hb2
    have cp := hN.cap
    have nw := hN.newA
    have nn := hN.nil
    clear hN h
    go_wp2
    go_ret
    exact ⟨a', c', rfl, by rw [HC.out]; exact R, cp, nw, nn, bthen hb1 hb2⟩
  · have h0 : l ≠ [] := by rintro rfl; exact absurd hk (Nat.not_lt_zero _)
    have H0 := hidC h0
    clear h0
    by_cases hd : l[k].data = data
    · have HC := hidC (clean_yes hk HO.out h hd)
      have hs := strB_eq hd
      go_enter Tryz.func85, Tryz.ntmps85
      go_wp2_with fail
      refine (cloneB_any l a c _ hl hn (by omega)).mono ?_
      rintro e w1 ⟨a', c', rfl, hN, hb1⟩
      obtain ⟨b, rfl, hbb, hlt, hfz⟩ := hN.place H0.out
      go_wp2_with fail
      refine (place_eq l _ c' at' _ hN.here _ h).mono ?_
      rintro e w2 ⟨rfl, hb2⟩
      have R := hN.here.later hb2
      have cp := hN.cap
      have hf2 : w2.frozen? ⟨b, 0 + k * 4 + 2, none⟩ = false := by rw [hb2.frozen (p := ⟨b, 0 + k * 4 + 2, none⟩) hlt]; exact hfz _
      obtain ⟨c0, c1, c2, c3⟩ := R.cells hk
      rw [Nat.zero_add] at c0 c1 c2 c3 hf2
      clear hN h hfz hd
      have HB2 := bthen hb1 hb2
      go_wp2
      go_ret
      refine ⟨_, c', rfl, ?_, cp, newA_at hbb, by simp, by repeat (first | with_reducible exact Below.refl _ _ | with_reducible refine balloc ?_ _ | with_reducible refine bdrew ?_ | with_reducible refine bset' ?_ (by omega) _ | with_reducible refine bthen ?_ (by assumption))⟩
      rw [HC.out]
      have := R.set hk 2 (by omega) { l[k] with dirty := false } (.bool false) rfl (fun i hi hne => by match i, hi, hne with | 0, _, _ => rfl | 1, _, _ => rfl | 3, _, _ => rfl)
      rw [Nat.zero_add] at this
      exact this
    · have HC := hidC (clean_other hk HO.out h hd)
      have hs := strB_ne hd
      go_enter Tryz.func85, Tryz.ntmps85
      go_wp2_with fail
      refine (cloneB_any l a c _ hl hn (by omega)).mono ?_
      rintro e w1 ⟨a', c', rfl, hN, hb1⟩
      obtain ⟨b, rfl, hbb, hlt, hfz⟩ := hN.place H0.out
      go_wp2_with fail
      refine (place_eq l _ c' at' _ hN.here _ h).mono ?_
      rintro e w2 ⟨rfl, hb2⟩
      have R := hN.here.later hb2
      have cp := hN.cap
      obtain ⟨c0, c1, c2, c3⟩ := R.cells hk
      rw [Nat.zero_add] at c0 c1 c2 c3
      clear hN h hfz hd
      go_wp2
      go_ret
      exact ⟨_, c', rfl, by rw [HC.out]; exact R, cp, newA_at hbb, by simp, bthen hb1 hb2⟩
set_option maxHeartbeats 2000000 in
theorem useN (l : List Bf) (a : Option Addr) (c : Nat) (at' now : Int) (w : World) (hl : BufsAt w a l) (hn : a = none → c = 0) (h10 : l.length ≤ 1000) (ho : OnceB l) :
    Calls Tryz.prog 99 #[.slice a l.length c, .int .i64 at', .int .i64 now] w fun e w' => ∃ a' c', e = .returned (.slice a' l.length c') ∧ BufsAt w' a' (useL l at' now) ∧ l.length ≤ c' ∧ NewA w.heap.size a' ∧ (a' = none → c' = 0) ∧ Below w.heap.size w w' := by
  have HO := hidC ho
  clear ho
  rcases idx_spec (plB at') l with ⟨h, _⟩ | ⟨k, hk, h, _, _⟩
  · have HC := hidC (use_no (now := now) h)
    go_enter Tryz.func99, Tryz.ntmps99
    go_wp2_with fail
    refine (cloneB_any l a c _ hl hn (by omega)).mono ?_
    rintro e w1 ⟨a', c', rfl, hN, hb1⟩
    go_wp2_with fail
    refine (place_eq l a' c' at' _ hN.here _ h).mono ?_
    rintro e w2 ⟨rfl, hb2⟩
    have R := hN.here.later hb2
    have cp := hN.cap
    have nw := hN.newA
    have nn := hN.nil
    clear hN h
    go_wp2
    go_ret
    exact ⟨a', c', rfl, by rw [HC.out]; exact R, cp, nw, nn, bthen hb1 hb2⟩
  · have h0 : l ≠ [] := by rintro rfl; exact absurd hk (Nat.not_lt_zero _)
    have H0 := hidC h0
    clear h0
    have HC := hidC (use_yes (now := now) hk HO.out h)
    go_enter Tryz.func99, Tryz.ntmps99
    go_wp2_with fail
    refine (cloneB_any l a c _ hl hn (by omega)).mono ?_
    rintro e w1 ⟨a', c', rfl, hN, hb1⟩
    obtain ⟨b, rfl, hbb, hlt, hfz⟩ := hN.place H0.out
    go_wp2_with fail
    refine (place_eq l _ c' at' _ hN.here _ h).mono ?_
    rintro e w2 ⟨rfl, hb2⟩
    have R := hN.here.later hb2
    have cp := hN.cap
    have hf2 : w2.frozen? ⟨b, 0 + k * 4 + 3, none⟩ = false := by rw [hb2.frozen (p := ⟨b, 0 + k * 4 + 3, none⟩) hlt]; exact hfz _
    obtain ⟨c0, c1, c2, c3⟩ := R.cells hk
    rw [Nat.zero_add] at c0 c1 c2 c3 hf2
    clear hN h hfz
    have HB2 := bthen hb1 hb2
    go_wp2
    go_ret
    refine ⟨_, c', rfl, ?_, cp, newA_at hbb, by simp, by repeat (first | with_reducible exact Below.refl _ _ | with_reducible refine balloc ?_ _ | with_reducible refine bdrew ?_ | with_reducible refine bset' ?_ (by omega) _ | with_reducible refine bthen ?_ (by assumption))⟩
    rw [HC.out]
    have := R.set hk 3 (by omega) { l[k] with used := now } (.int .i64 now) rfl (fun i hi hne => by rcases (show i = 0 ∨ i = 1 ∨ i = 2 by omega) with rfl | rfl | rfl <;> rfl)
    rw [Nat.zero_add] at this
    exact this
set_option maxRecDepth 100000 in
set_option maxHeartbeats 2000000 in
theorem put_roomN (gh : Nat) (hc : Array Value) (l : List Bf) (a : Option Addr) (c : Nat) (x : Bf) (w : World) (hl : BufsAt w a l) (hn : a = none → c = 0) (h8 : l.length < 8) (hi : idxB (plB x.pl) l = -1) :
    Calls Tryz.prog 101 #[.slice a l.length c, x.val, .func (.func gh) #[] hc] w fun e w' => ∃ a' c', e = .returned (.tuple #[.slice a' (l.length + 1) c', .nilIface]) ∧ BufsAt w' a' (insL l x) ∧ l.length + 1 ≤ c' ∧ NewA w.heap.size a' ∧ (a' = none → c' = 0) ∧ Below w.heap.size w w' := by
  have HI := hidC hi
  clear hi
  have b0 := below1 w (.cells #[.int .i64 x.pl, .string x.data, .bool x.dirty, .int .i64 x.used] 93)
  go_enter Tryz.func101, Tryz.ntmps101
  go_wp2_with fail
  refine (cloneB_any l a c _ (hl.later b0) hn (by omega)).mono ?_
  rintro e w1 ⟨a1, c1, rfl, hN, hb1⟩
  have F1 : FourB w1 w.heap.size x := FourB.later ⟨by simp, by simp, by simp, by simp⟩ hb1
  have HB1 : Below w.heap.size w w1 := bthen b0 hb1
  have z1 : w.heap.size + 1 ≤ w1.heap.size := by have := hb1.size; simpa using this
  have hN1 : NewBufs (w.heap.size + 1) w1 a1 c1 l := by simpa using hN
  clear hN hb1 b0
  obtain ⟨p0, p1, p2, p3⟩ := id F1
  go_wp2_with fail
  refine (place_eq l a1 c1 x.pl _ hN1.here _ HI.out).mono ?_
  rintro e w2 ⟨rfl, hb2⟩
  have F2 := F1.later hb2
  have HB2 := bthen HB1 hb2
  have z2 : w.heap.size + 1 ≤ w2.heap.size := Nat.le_trans z1 hb2.size
  have hN2 := hN1.later hb2
  clear hb2 HB1 F1 p0 p1 p2 p3 hN1 z1
  obtain ⟨p0, p1, p2, p3⟩ := id F2
  have h8' : ¬ (8 : Int) ≤ (l.length : Int) := by omega
  rcases gt_idx2 x.pl l with ⟨hg, hgl⟩ | ⟨hg, hgl⟩
  all_goals
    have HG := hidC hg
    have HGL := hidC hgl
    clear hg hgl
    go_wp2_with fail
    refine (gtidx_any x w.heap.size l a1 c1 _ hN2.here F2 _ HG.out).mono ?_
    rintro e w3 ⟨rfl, hb3⟩
    have F3 := F2.later hb3
    have HB3 := bthen HB2 hb3
    have z3 : w.heap.size + 1 ≤ w3.heap.size := Nat.le_trans z2 hb3.size
    have hN3 := hN2.later hb3
    clear hb3 HB2 F2 p0 p1 p2 p3 hN2 z2
    obtain ⟨p0, p1, p2, p3⟩ := id F3
    go_wp2_with fail
    refine (insP l a1 c1 (w.heap.size + 1) _ x w3 (by first | exact Nat.le_refl _ | exact gtAt_le _ _) (by omega) z3 hN3).mono ?_
    rintro e w4 ⟨a4, c4, rfl, hN4, hb4, cp⟩
    have HB4 : Below w.heap.size w w4 := HB3.trans (hb4.mono (by omega))
    have R := hN4.here
    have nw := hN4.newA.mono (base' := w.heap.size) (by omega)
    have nn := hN4.nil
    (try rw [← HGL.out] at R)
    go_wp2
    go_ret2
    refine ⟨a4, c4, rfl, R, cp, nw, nn, HB4⟩

set_option maxRecDepth 100000 in
set_option maxHeartbeats 2000000 in
theorem put_haveN (gh : Nat) (hc : Array Value) (l : List Bf) (a : Option Addr) (c : Nat) (x : Bf) (w : World) (hl : BufsAt w a l) (hn : a = none → c = 0) (h8 : l.length ≤ 8) (k : Nat) (hk : k < l.length) (hi : idxB (plB x.pl) l = k) :
    Calls Tryz.prog 101 #[.slice a l.length c, x.val, .func (.func gh) #[] hc] w fun e w' => ∃ a' c', e = .returned (.tuple #[.slice a' l.length c', .nilIface]) ∧ BufsAt w' a' (l.set k x) ∧ l.length ≤ c' ∧ NewA w.heap.size a' ∧ (a' = none → c' = 0) ∧ Below w.heap.size w w' := by
  have HI := hidC hi
  clear hi
  have h0 : l ≠ [] := by rintro rfl; exact absurd hk (Nat.not_lt_zero _)
  have H0 := hidC h0
  clear h0
  have b0 := below1 w (.cells #[.int .i64 x.pl, .string x.data, .bool x.dirty, .int .i64 x.used] 93)
  go_enter Tryz.func101, Tryz.ntmps101
  go_wp2_with fail
  refine (cloneB_any l a c _ (hl.later b0) hn (by omega)).mono ?_
  rintro e w1 ⟨a1, c1, rfl, hN, hb1⟩
  have F1 : FourB w1 w.heap.size x := FourB.later ⟨by simp, by simp, by simp, by simp⟩ hb1
  have HB1 : Below w.heap.size w w1 := bthen b0 hb1
  have hN1 : NewBufs (w.heap.size + 1) w1 a1 c1 l := by simpa using hN
  clear hN hb1 b0
  obtain ⟨b1, rfl, hbb, hlt, hfz⟩ := hN1.place H0.out
  obtain ⟨p0, p1, p2, p3⟩ := id F1
  go_wp2_with fail
  refine (place_eq l _ c1 x.pl _ hN1.here _ HI.out).mono ?_
  rintro e w2 ⟨rfl, hb2⟩
  have F2 := F1.later hb2
  have HB2 := bthen HB1 hb2
  have hN2 := hN1.later hb2
  have hl2 : b1 < w2.heap.size := hN2.lt b1 rfl
  have ff : ∀ o, w2.frozen? ⟨b1, o, none⟩ = false := fun o => by rw [hb2.frozen (p := ⟨b1, o, none⟩) hlt]; exact hfz o
  clear hb2 HB1 F1 p0 p1 p2 p3 hN1 hlt hfz
  obtain ⟨p0, p1, p2, p3⟩ := id F2
  have R := hN2.here
  have cp := hN2.cap
  obtain ⟨c0, c1', c2, c3⟩ := R.cells hk
  have f0 := ff (k * 4)
  have f1 := ff (k * 4 + 1)
  have f2 := ff (k * 4 + 2)
  have f3 := ff (k * 4 + 3)
  rw [Nat.zero_add] at c0 c1' c2 c3
  clear ff hN2 F2
  have HR := hidC R
  clear R
  have nb : b1 ≠ w.heap.size := by omega
  go_wp2
  go_ret2
  refine ⟨_, c1, rfl, HR.out.set4 hk x, cp, newA_at (by omega), by simp, by repeat (first | with_reducible exact Below.refl _ _ | with_reducible refine balloc ?_ _ | with_reducible refine bdrew ?_ | with_reducible refine bset' ?_ (by omega) _ | with_reducible refine bthen ?_ (by assumption))⟩
set_option maxRecDepth 100000 in
set_option maxHeartbeats 2000000 in
theorem put_dropN (gh : Nat) (egh : ∀ args w, (callFunc gh args).run Tryz.prog w = .ok (.enter gh args) w) (hc : Array Value) (H : Int → Bool) (l : List Bf) (a : Option Addr) (c : Nat) (x : Bf) (w : World) (hl : BufsAt w a l) (hn : a = none → c = 0) (h8 : l.length = 8) (hi : idxB (plB x.pl) l = -1)
    (hh : ∀ n w', Below w.heap.size w w' → Calls Tryz.prog gh (#[.int .i64 n] ++ hc) w' fun e w'' => e = .returned (.bool (H n)) ∧ Below w'.heap.size w' w'') (k : Nat) (hk : k < l.length) (hr : leastU (fitB false H) l l.length = k) :
    Calls Tryz.prog 101 #[.slice a l.length c, x.val, .func (.func gh) #[] hc] w fun e w' => ∃ a' c', e = .returned (.tuple #[.slice a' l.length c', .nilIface]) ∧ BufsAt w' a' (insL (l.eraseIdx k) x) ∧ l.length ≤ c' ∧ NewA w.heap.size a' ∧ (a' = none → c' = 0) ∧ Below w.heap.size w w' := by
  have HI := hidC hi
  have HH := hidC hh
  have HR := hidC hr
  have H8 := hidC h8
  have h8' : (8 : Int) ≤ (l.length : Int) := by omega
  have h0 : l ≠ [] := by rintro rfl; exact absurd hk (Nat.not_lt_zero _)
  have H0 := hidC h0
  have hel : (l.eraseIdx k).length = l.length - 1 := by rw [List.length_eraseIdx, if_pos hk]
  have HEL := hidC hel
  have hwr : IntKind.i64.wrap ((k : Int) + 1) = (k : Int) + 1 := by rw [IntKind.wrap_i64]; omega
  clear hi hh hr h8 h0 hel
  obtain ⟨L, hL⟩ : ∃ L, L = l.eraseIdx k := ⟨_, rfl⟩
  have HL := hidC hL
  have hLn : l.length = L.length + 1 := by rw [hL, HEL.out]; omega
  have HLN := hidC hLn
  rw [← hL]
  clear hL hLn
  have b0 := below1 w (.cells #[.int .i64 x.pl, .string x.data, .bool x.dirty, .int .i64 x.used] 93)
  go_enter Tryz.func101, Tryz.ntmps101
  go_wp2_with fail
  refine (cloneB_any l a c _ (hl.later b0) hn (by have := H8.out; omega)).mono ?_
  rintro e w1 ⟨a1, c1, rfl, hN, hb1⟩
  have F1 : FourB w1 w.heap.size x := FourB.later ⟨by simp, by simp, by simp, by simp⟩ hb1
  have HB1 : Below w.heap.size w w1 := bthen b0 hb1
  have z1 : w.heap.size + 1 ≤ w1.heap.size := by have := hb1.size; simpa using this
  have hN1 : NewBufs (w.heap.size + 1) w1 a1 c1 l := by simpa using hN
  clear hN hb1 b0
  obtain ⟨b1, rfl, hbb, hlt, hfz⟩ := hN1.place H0.out
  obtain ⟨p0, p1, p2, p3⟩ := id F1
  go_wp2_with fail
  refine (place_eq l _ c1 x.pl _ hN1.here _ HI.out).mono ?_
  rintro e w2 ⟨rfl, hb2⟩
  have F2 := F1.later hb2
  have HB2 := bthen HB1 hb2
  have z2 : w.heap.size + 1 ≤ w2.heap.size := Nat.le_trans z1 hb2.size
  have hN2 := hN1.later hb2
  clear hb2 HB1 F1 p0 p1 p2 p3 hN1 z1 hlt hfz
  go_wp2_with fail
  refine (leastUsed_any false gh egh hc H l _ c1 _ hN2.here (fun n w' hb => HH.out n w' (bthen HB2 hb)) _ HR.out).mono ?_
  rintro e w3 ⟨rfl, hb3⟩
  have F3 := F2.later hb3
  have HB3 := bthen HB2 hb3
  have z3 : w.heap.size + 1 ≤ w3.heap.size := Nat.le_trans z2 hb3.size
  have hN3 := hN2.later hb3
  clear hb3 HB2 F2 hN2 z2
  go_wp2_with fail
  refine (delB l b1 c1 k (w.heap.size + 1) _ hk hN3).mono ?_
  rintro e w4 ⟨rfl, hN4, hb4⟩
  have F4 := F3.below hb4 (by omega)
  have HB4 : Below w.heap.size w w4 := HB3.trans (hb4.mono (by omega))
  have z4 : w.heap.size + 1 ≤ w4.heap.size := Nat.le_trans z3 hb4.size
  rw [← HL.out] at hN4
  rw [show l.length - 1 = L.length by have := HLN.out; omega]
  clear hb4 HB3 F3 hN3 z3
  rcases gt_idx2 x.pl L with ⟨hg, hgl⟩ | ⟨hg, hgl⟩
  all_goals
    have HG := hidC hg
    have HGL := hidC hgl
    clear hg hgl
    obtain ⟨p0, p1, p2, p3⟩ := id F4
    go_wp2_with fail
    refine (gtidx_any x w.heap.size L _ c1 _ hN4.here F4 _ HG.out).mono ?_
    rintro e w5 ⟨rfl, hb5⟩
    have F5 := F4.later hb5
    have HB5 := bthen HB4 hb5
    have z5 : w.heap.size + 1 ≤ w5.heap.size := Nat.le_trans z4 hb5.size
    have hN5 := hN4.later hb5
    clear hb5 HB4 F4 p0 p1 p2 p3 hN4 z4
    obtain ⟨p0, p1, p2, p3⟩ := id F5
    go_wp2_with fail
    refine (insP L _ c1 (w.heap.size + 1) _ x w5 (by first | exact Nat.le_refl _ | exact gtAt_le _ _) (by have := H8.out; have := HLN.out; omega) z5 hN5).mono ?_
    rintro e w6 ⟨a6, c6, rfl, hN6, hb6, cp⟩
    have HB6 : Below w.heap.size w w6 := HB5.trans (hb6.mono (by omega))
    have R := hN6.here
    have nw := hN6.newA.mono (base' := w.heap.size) (by omega)
    have nn := hN6.nil
    (try rw [← HGL.out] at R)
    go_wp2
    go_ret2
    refine ⟨a6, c6, ?_, R, by rw [HLN.out]; exact cp, nw, nn, HB6⟩
    rw [HLN.out]
    rfl
def PutOutN (base : Nat) (l : List Bf) (x : Bf) (H : Int → Bool) (w' : World) (e : Ending) : Prop :=
  (∃ (m : List Bf) (a' : Option Addr) (c' : Nat), PutsM l x H m ∧ e = .returned (.tuple #[.slice a' m.length c', .nilIface]) ∧ BufsAt w' a' m ∧ m.length ≤ c' ∧ NewA base a' ∧ (a' = none → c' = 0)) ∨
  (idxB (plB x.pl) l = -1 ∧ l.length = 8 ∧ leastU (fitB false H) l l.length = -1 ∧ e = .returned (.tuple #[.slice none 0 0, .iface 89 (.int .i64 7)]))

theorem put_anyN (gh : Nat) (egh : ∀ args w, (callFunc gh args).run Tryz.prog w = .ok (.enter gh args) w) (hc : Array Value) (H : Int → Bool) (l : List Bf) (a : Option Addr) (c : Nat) (x : Bf) (w : World) (hl : BufsAt w a l) (hn : a = none → c = 0) (h8 : l.length ≤ 8)
    (hh : ∀ n w', Below w.heap.size w w' → Calls Tryz.prog gh (#[.int .i64 n] ++ hc) w' fun e w'' => e = .returned (.bool (H n)) ∧ Below w'.heap.size w' w'') :
    Calls Tryz.prog 101 #[.slice a l.length c, x.val, .func (.func gh) #[] hc] w fun e w' => PutOutN w.heap.size l x H w' e ∧ Below w.heap.size w w' := by
  rcases idx_spec (plB x.pl) l with ⟨hi, _⟩ | ⟨k, hk, hi, _⟩
  · by_cases hlt : l.length < 8
    · refine (put_roomN gh hc l a c x w hl hn hlt hi).mono ?_
      rintro e w' ⟨a', c', rfl, h1, h2, h4, h5, h3⟩
      exact ⟨Or.inl ⟨insL l x, a', c', Or.inr (Or.inl ⟨hi, hlt, rfl⟩), by rw [insL_length], h1, by rw [insL_length]; exact h2, h4, h5⟩, h3⟩
    · have h8' : l.length = 8 := by omega
      rcases leastU_spec (fitB false H) l l.length (Nat.le_refl _) with ⟨hr, _⟩ | ⟨k, hk, _, hr, _⟩
      · refine (put_full gh egh hc H l a c x w hl hn h8' hi hh hr).mono ?_
        rintro e w' ⟨rfl, h3⟩
        exact ⟨Or.inr ⟨hi, h8', hr, rfl⟩, h3⟩
      · refine (put_dropN gh egh hc H l a c x w hl hn h8' hi hh k hk hr).mono ?_
        rintro e w' ⟨a', c', rfl, h1, h2, h4, h5, h3⟩
        have hL : (insL (l.eraseIdx k) x).length = l.length := by rw [insL_length, List.length_eraseIdx, if_pos hk]; omega
        exact ⟨Or.inl ⟨insL (l.eraseIdx k) x, a', c', Or.inr (Or.inr ⟨hi, h8', k, hk, hr, rfl⟩), by rw [hL], h1, by rw [hL]; exact h2, h4, h5⟩, h3⟩
  · refine (put_haveN gh hc l a c x w hl hn h8 k hk hi).mono ?_
    rintro e w' ⟨a', c', rfl, h1, h2, h4, h5, h3⟩
    exact ⟨Or.inl ⟨l.set k x, a', c', Or.inl ⟨k, hk, hi, rfl⟩, by rw [List.length_set], h1, by rw [List.length_set]; exact h2, h4, h5⟩, h3⟩

end Go.Proofs.YtgjkdhedkbkagaaGreat
/- A stack of all in memory: its block, its driver, its rows; what stands when something else turns. -/
namespace Go.Proofs.YtgjkdhedkbkagaaGreat
open Go.RowKit Go.BigFrame Go.Maps
set_option maxRecDepth 100000
attribute [local go_sem] Later.cell Later.frozen

/-- Where a stack's things lie. -/
structure Sa where
  b : Nat
  v : Nat
  bm : Nat
  an : An
  n : Nat
  D : DataW Unit
  la : Nat → Option Addr
  lc : Nat → Nat
  ha : Option Addr
  hc : Nat
  qa : Option Addr
  qc : Nat
  M : Nat
def clCells (c : Cl) (a : Option Addr) (k : Nat) : List Value := [.int .i64 c.kind, .int .i64 c.pl, .string c.data, .slice a c.left.length k, .string c.got, errOf c.err]
def Sk.head (A : Sa) : List Value := [.pointer (some ⟨A.b, 0, none⟩), .pointer (some ⟨A.v, 0, none⟩)]
def Sk.tail (p : Sk) (A : Sa) : List Value := [.slice A.ha p.hand.length A.hc, .slice A.qa p.queue.length A.qc, .bool p.turn.w, .int .i64 p.turn.g, .int .i64 p.turn.s, .int .i64 p.turn.p, .int .i64 p.moment, .int .i64 p.tags, .int .i64 p.uses, .bool p.dead]
def Sk.cells (p : Sk) (A : Sa) : List Value := Sk.head A ++ (clCells (p.client 0) (A.la 0) (A.lc 0) ++ (clCells (p.client 1) (A.la 1) (A.lc 1) ++ (clCells (p.client 2) (A.la 2) (A.lc 2) ++ p.tail A)))
def intV (l : List Int) : List Value := l.map fun n => .int .i64 n
/-- What a step of the stack may turn. -/
def Sa.foot (A : Sa) (s : Nat) (k : Nat) : Prop := k = s ∨ vfoot A.b A.bm A.an k ∨ ∃ i, i < 3 ∧ ∃ p, A.la i = some p ∧ k = p.block
/-- Where no list of its own lies: what it turns, and what is older than M. -/
def Sa.off (A : Sa) (s : Nat) (k : Nat) : Prop := A.foot s k ∨ k < A.M
/-- What lies beyond the stack's block. -/
structure StkMem (s : Nat) (p : Sk) (A : Sa) (w : World) : Prop where
  drv : VAt A.v A.b A.bm p.dev A.an A.n A.D w
  map : MapIs A.D p.f
  im : IsMap A.D
  nb : A.n ≤ p.ag
  hand : BufsAt w A.ha p.hand
  hnil : A.ha = none → A.hc = 0
  hcap : p.hand.length ≤ A.hc
  queue : ReqsAt w A.qa p.queue
  qnil : A.qa = none → A.qc = 0
  qcap : p.queue.length ≤ A.qc
  left : ∀ i, i < 3 → w.ownsRow 0 3 1 (.slice (A.la i) (p.client i).left.length (A.lc i)) (p.client i).left.length (intV (p.client i).left)
  sv : ¬ vfoot A.b A.bm A.an s ∧ s ≠ A.v
  vl : ∀ i, i < 3 → ∀ q, A.la i = some q → q.block ≠ s ∧ q.block ≠ A.v ∧ ¬ vfoot A.b A.bm A.an q.block
  ll : ∀ i j, i < 3 → j < 3 → i ≠ j → ∀ q q', A.la i = some q → A.la j = some q' → q.block ≠ q'.block
  hoffX : p.hand ≠ [] → ∀ q, A.ha = some q → ¬ A.off s q.block
  qoffX : p.queue ≠ [] → ∀ q, A.qa = some q → ¬ A.off s q.block
  roffX : ∀ r ∈ p.queue ++ p.dev.busy, r.Off (A.off s)
  xlt : A.M ≤ w.heap.size
theorem StkMem.hoff {s : Nat} {p : Sk} {A : Sa} {w : World} (h : StkMem s p A w) : p.hand ≠ [] → ∀ q, A.ha = some q → ¬ A.foot s q.block := fun hne q hq e => h.hoffX hne q hq (Or.inl e)
theorem StkMem.qoff {s : Nat} {p : Sk} {A : Sa} {w : World} (h : StkMem s p A w) : p.queue ≠ [] → ∀ q, A.qa = some q → ¬ A.foot s q.block := fun hne q hq e => h.qoffX hne q hq (Or.inl e)
theorem StkMem.roff {s : Nat} {p : Sk} {A : Sa} {w : World} (h : StkMem s p A w) : ∀ r ∈ p.queue ++ p.dev.busy, r.Off (A.foot s) := fun r hr => ⟨fun he ad ha e => (h.roffX r hr).1 he ad ha (Or.inl e), fun he ad ha e => (h.roffX r hr).2 he ad ha (Or.inl e)⟩
structure StkAt (s : Nat) (p : Sk) (A : Sa) (w : World) : Prop where
  blk : w.heap[s]? = some (.cells (p.cells A).toArray 79 (0, 0))
  mem : StkMem s p A w
structure SStep (s : Nat) (p : Sk) (A : Sa) (p' : Sk) (A' : Sa) (w w' : World) : Prop where
  at' : StkAt s p' A' w'
  only : Only (A.foot s) w w'
  foot : ∀ k, A'.foot s k → A.foot s k ∨ w.heap.size ≤ k
  same : A'.b = A.b ∧ A'.v = A.v ∧ A'.bm = A.bm ∧ A'.M = A.M
theorem SStep.trans {s : Nat} {p p' p2 : Sk} {A A' A2 : Sa} {w w' w2 : World} (h : SStep s p A p' A' w w') (k : SStep s p' A' p2 A2 w' w2) : SStep s p A p2 A2 w w2 :=
  ⟨k.at', h.only.trans k.only h.foot, fun i hi => (k.foot i hi).elim (h.foot i) (fun h' => Or.inr (Nat.le_trans h.only.size h')), by rw [k.same.1, k.same.2.1, k.same.2.2.1, k.same.2.2.2]; exact h.same⟩
theorem bufs_frame {F : Nat → Prop} {w w' : World} {a : Option Addr} {l : List Bf} (h : BufsAt w a l) (hk : Only F w w') (hn : l ≠ [] → ∀ q, a = some q → ¬ F q.block) : BufsAt w' a l := by
  refine ⟨?_, h.2⟩
  rcases h.1 with h | ⟨b, o, ha, hc⟩
  · exact Or.inl h
  · by_cases he : l = []
    · exact Or.inl he
    · refine Or.inr ⟨b, o, ha, fun i hi j hj => ?_⟩
      have := hc i hi j hj
      rw [hk.cell (p := ⟨b, o + i * 4 + j, none⟩) (lt_of_cell this) (hn he ⟨b, o, none⟩ ha)]
      exact this
theorem reqsS_frame {F : Nat → Prop} {w w' : World} {a : Option Addr} {l : List Rq} (h : ReqsAt w a l) (hk : Only F w w') (hn : l ≠ [] → ∀ p, a = some p → ¬ F p.block) (hr : ∀ r ∈ l, r.Off F) : ReqsAt w' a l := by
  obtain ⟨h1, h2, h3⟩ := h
  refine ⟨?_, fun r hr' => (h2 r hr').frame (hr r hr') hk, h3⟩
  rcases h1 with h | ⟨b, o, ha, hc⟩
  · exact Or.inl h
  · by_cases he : l = []
    · exact Or.inl he
    · refine Or.inr ⟨b, o, ha, fun i hi j hj => ?_⟩
      have := hc i hi j hj
      rw [hk.cell (p := ⟨b, o + i * 6 + j, none⟩) (lt_of_cell this) (hn he ⟨b, o, none⟩ ha)]
      exact this
section
variable {s : Nat} {p p' : Sk} {A A' : Sa} {w w' : World}
theorem StkMem.lrow (h : StkMem s p A w) {i : Nat} (hi : i < 3) {q : Addr} (hq : A.la i = some q) : q.block < w.heap.size := ((h.left i hi).lt q.block (by rw [hq]; rfl)).2
theorem StkAt.lt (h : StkAt s p A w) : s < w.heap.size := lt_of_heap h.blk
theorem StkAt.footLt (h : StkAt s p A w) (k : Nat) (hk : A.foot s k) : k < w.heap.size := by
  rcases hk with rfl | hk | ⟨i, hi, q, hq, rfl⟩
  · exact h.lt
  · exact h.mem.drv.footLt k hk
  · exact h.mem.lrow hi hq
theorem StkAt.offLt (h : StkAt s p A w) (k : Nat) (hk : A.off s k) : k < w.heap.size := hk.elim (h.footLt k) (fun e => Nat.lt_of_lt_of_le e h.mem.xlt)
/-- What lies beyond the block stands when nothing of it turns. -/
theorem StkMem.frame {F : Nat → Prop} (h : StkMem s p A w) (hk : Only F w w') (hF : ∀ k, A.foot s k → k ≠ s → ¬ F k) (hv : ¬ F A.v) (hh : p.hand ≠ [] → ∀ q, A.ha = some q → ¬ F q.block) (hq : p.queue ≠ [] → ∀ q, A.qa = some q → ¬ F q.block) (hr : ∀ r ∈ p.queue ++ p.dev.busy, r.Off F) : StkMem s p A w' where
  drv := h.drv.frame hk (fun k e => hF k (Or.inr (Or.inl e)) (fun e' => h.sv.1 (e' ▸ e))) hv (fun r hr' => hr r (List.mem_append_right _ hr'))
  map := h.map
  im := h.im
  nb := h.nb
  hand := bufs_frame h.hand hk hh
  hnil := h.hnil
  hcap := h.hcap
  queue := reqsS_frame h.queue hk hq (fun r hr' => hr r (List.mem_append_left _ hr'))
  qnil := h.qnil
  qcap := h.qcap
  left := fun i hi => own_frame (h.left i hi) fun g hg => by
    obtain ⟨q, hq, rfl⟩ := ownBlock_slice.1 hg
    exact hk.block _ (h.lrow hi hq) (hF _ (Or.inr (Or.inr ⟨i, hi, q, hq, rfl⟩)) (h.vl i hi q hq).1)
  sv := h.sv
  vl := h.vl
  ll := h.ll
  hoffX := h.hoffX
  qoffX := h.qoffX
  roffX := h.roffX
  xlt := Nat.le_trans h.xlt hk.size
theorem StkAt.frame {F : Nat → Prop} (h : StkAt s p A w) (hk : Only F w w') (hF : ∀ k, A.foot s k → ¬ F k) (hv : ¬ F A.v) (hh : p.hand ≠ [] → ∀ q, A.ha = some q → ¬ F q.block) (hq : p.queue ≠ [] → ∀ q, A.qa = some q → ¬ F q.block) (hr : ∀ r ∈ p.queue ++ p.dev.busy, r.Off F) : StkAt s p A w' :=
  ⟨by rw [hk.block s h.lt (hF s (Or.inl rfl))]; exact h.blk, h.mem.frame hk (fun k e _ => hF k e) hv hh hq hr⟩
theorem offNone (r : Rq) : r.Off (fun _ => False) := ⟨fun _ _ _ e => e, fun _ _ _ e => e⟩
theorem StkAt.later (h : StkAt s p A w) (hb : Below w.heap.size w w') : StkAt s p A w' := h.frame (F := fun _ => False) (Only.of_below hb) (fun _ _ e => e) (fun e => e) (fun _ _ _ e => e) (fun _ _ _ e => e) (fun r _ => offNone r)
theorem SStep.same' (h : StkAt s p A w) (hb : Below w.heap.size w w') : SStep s p A p A w w' := ⟨h.later hb, Only.of_below hb, fun _ hk => Or.inl hk, rfl, rfl, rfl, rfl⟩
theorem SStep.later {w2 : World} (h : SStep s p A p' A' w w') (hb : Below w'.heap.size w' w2) : SStep s p A p' A' w w2 := h.trans (SStep.same' h.at' hb)
/-- A cell of the block is written, what lies beyond it is that of the other state. -/
theorem StkAt.put (h : StkAt s p A w) (hm : StkMem s p' A' w) (j : Nat) (u : Value) (hc : (p.cells A).set j u = p'.cells A') (hf : ∀ k, A'.foot s k → A.foot s k) (hsame : A'.b = A.b ∧ A'.v = A.v ∧ A'.bm = A.bm ∧ A'.M = A.M) : SStep s p A p' A' w (w.setCell ⟨s, j, none⟩ u) := by
  have hO : Only (fun k => k = s) w (w.setCell ⟨s, j, none⟩ u) := (Only.refl (fun k => k = s) w).setCell ⟨s, j, none⟩ (Or.inl rfl) u
  refine ⟨⟨by rw [set_same h.blk, hc], hm.frame hO (fun k _ hne => hne) (fun e => hm.sv.2 e.symm) (fun hne q hq e => hm.hoff hne q hq (Or.inl e)) (fun hne q hq e => hm.qoff hne q hq (Or.inl e)) (fun r hr => ⟨fun he ad ha e => (hm.roff r hr).1 he ad ha (Or.inl e), fun he ad ha e => (hm.roff r hr).2 he ad ha (Or.inl e)⟩)⟩, hO.mono (fun k e => Or.inl e), fun k hk => Or.inl (hf k hk), hsame⟩
/-- A step of its driver. -/
theorem StkAt.step {d' : Dl} {an' : An} {n' : Nat} {D' : DataW Unit} {f' : Int → Int} (g' : Nat) (hg : n' ≤ g') (h : StkAt s p A w) (hs : VStep A.v A.b A.bm p.dev A.an A.n A.D d' an' n' D' w w') (hm : MapIs D' f') (hi : IsMap D') (hr : ∀ r ∈ d'.busy, r.Off (({ A with an := an', n := n', D := D' } : Sa).off s)) :
    SStep s p A { p with dev := d', f := f', ag := g' } { A with an := an', n := n', D := D' } w w' := by
  have hft : ∀ k, ({ A with an := an', n := n', D := D' } : Sa).foot s k → A.foot s k ∨ w.heap.size ≤ k := by
    rintro k (e | e | e)
    · exact Or.inl (Or.inl e)
    · exact (hs.foot k e).imp (fun e => Or.inr (Or.inl e)) id
    · exact Or.inl (Or.inr (Or.inr e))
  have hfx : ∀ k, ({ A with an := an', n := n', D := D' } : Sa).off s k → A.off s k ∨ w.heap.size ≤ k := fun k hk => hk.elim (fun e => (hft k e).imp Or.inl id) (fun e => Or.inl (Or.inr e))
  have hO : Only (A.foot s) w w' := hs.only.mono (fun k e => Or.inr (Or.inl e))
  have hat : ∀ r ∈ p.queue, r.At w := h.mem.queue.2.1
  have hnew : ∀ {q : Addr}, ¬ vfoot A.b A.bm A.an q.block → q.block < w.heap.size → ¬ vfoot A.b A.bm an' q.block := fun h1 h2 e => (hs.foot _ e).elim h1 (fun h' => by omega)
  refine ⟨⟨?_, ?_⟩, hO, hft, rfl, rfl, rfl, rfl⟩
  · rw [hs.only.block s h.lt h.mem.sv.1]; exact h.blk
  · have hqlt : p.queue ≠ [] → ∀ q, A.qa = some q → q.block < w.heap.size := fun hne q hq => by
      rcases h.mem.queue.1 with e | ⟨b', o', ha, hc⟩
      · exact absurd e hne
      · have : p.queue.length ≠ 0 := fun e => hne (List.eq_nil_of_length_eq_zero e)
        have := lt_of_cell (hc 0 (by omega) 0 (by omega))
        rw [ha] at hq; simp only [Option.some.injEq] at hq; subst hq; exact this
    have hhlt : p.hand ≠ [] → ∀ q, A.ha = some q → q.block < w.heap.size := fun hne q hq => by
      rcases h.mem.hand.1 with e | ⟨b', o', ha, hc⟩
      · exact absurd e hne
      · have : p.hand.length ≠ 0 := fun e => hne (List.eq_nil_of_length_eq_zero e)
        have := lt_of_cell (hc 0 (by omega) 0 (by omega))
        rw [ha] at hq; simp only [Option.some.injEq] at hq; subst hq; exact this
    have nf : ∀ q : Addr, ¬ A.off s q.block → q.block < w.heap.size → ¬ ({ A with an := an', n := n', D := D' } : Sa).off s q.block := fun q h1 h2 e => (hfx _ e).elim h1 (fun h' => by omega)
    exact {
      drv := hs.at'
      map := hm
      im := hi
      nb := hg
      hand := bufs_frame h.mem.hand hO h.mem.hoff
      hnil := h.mem.hnil
      hcap := h.mem.hcap
      queue := reqsS_frame h.mem.queue hO h.mem.qoff (fun r hr' => h.mem.roff r (List.mem_append_left _ hr'))
      qnil := h.mem.qnil
      qcap := h.mem.qcap
      left := fun i hi => own_frame (h.mem.left i hi) fun g hg => by
        obtain ⟨q, hq, rfl⟩ := ownBlock_slice.1 hg
        exact hs.only.block _ (h.mem.lrow hi hq) (h.mem.vl i hi q hq).2.2
      sv := ⟨fun e => (hs.foot _ e).elim h.mem.sv.1 (fun h' => by have := h.lt; omega), h.mem.sv.2⟩
      vl := fun i hi q hq => ⟨(h.mem.vl i hi q hq).1, (h.mem.vl i hi q hq).2.1, hnew (h.mem.vl i hi q hq).2.2 (h.mem.lrow hi hq)⟩
      ll := h.mem.ll
      hoffX := fun hne q hq => nf q (h.mem.hoffX hne q hq) (hhlt hne q hq)
      qoffX := fun hne q hq => nf q (h.mem.qoffX hne q hq) (hqlt hne q hq)
      xlt := Nat.le_trans h.mem.xlt hO.size
      roffX := fun r hr' => by
        rcases List.mem_append.1 hr' with h' | h'
        · exact Rq.Off.step (hat r h') (h.mem.roffX r (List.mem_append_left _ h')) hfx
        · exact hr r h' }
/-- What no list lies in behind a step of the driver. -/
theorem off_to {d' : Dl} {an' : An} {n' : Nat} {D' : DataW Unit} (h : VStep A.v A.b A.bm p.dev A.an A.n A.D d' an' n' D' w w') : ∀ k, ({ A with an := an', n := n', D := D' } : Sa).off s k → A.off s k ∨ w.heap.size ≤ k := by
  rintro k ((e | e | e) | e)
  · exact Or.inl (Or.inl (Or.inl e))
  · exact (h.foot k e).imp (fun e => Or.inl (Or.inr (Or.inl e))) id
  · exact Or.inl (Or.inl (Or.inr (Or.inr e)))
  · exact Or.inl (Or.inr e)
end
end Go.Proofs.YtgjkdhedkbkagaaGreat
/- A stack of all: New, Waits, Dead, Got, Busy, Queue. -/
namespace Go.Proofs.YtgjkdhedkbkagaaGreat
open Go.RowKit Go.BigFrame Go.Maps
set_option maxRecDepth 100000
attribute [local go_sem] Later.cell Later.frozen

section
variable {s : Nat} {p : Sk} {A : Sa} {w : World}
theorem StkAt.cell (h : StkAt s p A w) (j : Nat) (u : Value) (hj : (p.cells A)[j]? = some u) : w.cell? ⟨s, j, none⟩ = some u := (cell_of_heap h.blk j).trans hj
theorem StkAt.fz (h : StkAt s p A w) (j : Nat) : w.frozen? ⟨s, j, none⟩ = false := frozen_of_heap h.blk j
/-- A client's cells. -/
theorem StkAt.client (h : StkAt s p A w) (i : Nat) (hi : i < 3) : w.cell? ⟨s, 2 + i * 6, none⟩ = some (.int .i64 (p.client i).kind) ∧ w.cell? ⟨s, 2 + i * 6 + 1, none⟩ = some (.int .i64 (p.client i).pl) ∧ w.cell? ⟨s, 2 + i * 6 + 2, none⟩ = some (.string (p.client i).data) ∧ w.cell? ⟨s, 2 + i * 6 + 3, none⟩ = some (.slice (A.la i) (p.client i).left.length (A.lc i)) ∧ w.cell? ⟨s, 2 + i * 6 + 4, none⟩ = some (.string (p.client i).got) ∧ w.cell? ⟨s, 2 + i * 6 + 5, none⟩ = some (errOf (p.client i).err) := by
  match i, hi with
  | 0, _ => exact ⟨h.cell _ _ rfl, h.cell _ _ rfl, h.cell _ _ rfl, h.cell _ _ rfl, h.cell _ _ rfl, h.cell _ _ rfl⟩
  | 1, _ => exact ⟨h.cell _ _ rfl, h.cell _ _ rfl, h.cell _ _ rfl, h.cell _ _ rfl, h.cell _ _ rfl, h.cell _ _ rfl⟩
  | 2, _ => exact ⟨h.cell _ _ rfl, h.cell _ _ rfl, h.cell _ _ rfl, h.cell _ _ rfl, h.cell _ _ rfl, h.cell _ _ rfl⟩
end
set_option maxHeartbeats 400000 in
theorem isClient_any (c : Int) (w : World) (t : Bool) (ht : decide (0 ≤ c ∧ c < 3) = t) : Calls Tryz.prog 48 #[.int .i64 c] w fun e w' => e = .returned (.bool t) ∧ w' = w := by
  subst ht
  by_cases h0 : 0 ≤ c
  · by_cases h3 : c < 3
    · go_enter Tryz.func48, Tryz.ntmps48
      go_wp2
      go_ret
      exact ⟨ret_bool (by simp [h0, h3]), rfl⟩
    · go_enter Tryz.func48, Tryz.ntmps48
      go_wp2
      go_ret
      exact ⟨ret_bool (by simp [h3]), rfl⟩
  · have HC := hidT h0
    go_enter Tryz.func48, Tryz.ntmps48
    go_wp2
    go_ret
    exact ⟨ret_bool (by have := HC.out; rw [decide_eq_false (show ¬ (0 : Int) ≤ c by omega)]; rfl), rfl⟩
set_option maxHeartbeats 400000 in
theorem waits_any (s : Nat) (p : Sk) (A : Sa) (c : Int) (w : World) (h : StkAt s p A w) (t : Bool) (ht : p.waits c = t) : Calls Tryz.prog 31 #[.pointer (some ⟨s, 0, none⟩), .int .i64 c] w fun e w' => e = .returned (.bool t) ∧ w' = w := by
  subst ht
  by_cases hc : 0 ≤ c ∧ c < 3
  · obtain ⟨i, rfl⟩ : ∃ i : Nat, c = i := ⟨c.toNat, by omega⟩
    have hi : i < 3 := by omega
    have hl := h.lt
    obtain ⟨c0, -⟩ := h.client i hi
    have e : p.waits (i : Int) = ((p.client i).kind != 0) := by
      unfold Sk.waits
      rw [decide_eq_true hc, Bool.true_and, Int.toNat_natCast]
      rfl
    rw [e]
    have hi0 : (0 : Int) ≤ (i : Int) := by omega
    have hi3 : (i : Int) < 3 := by omega
    have HC := hidT hc
    clear h e hc
    go_enter Tryz.func31, Tryz.ntmps31
    go_wp2_with fail
    refine (isClient_any _ _ true (decide_eq_true HC.out)).mono ?_
    rintro e w1 ⟨rfl, rfl⟩
    go_wp2
    go_ret
    exact ⟨rfl, rfl⟩
  · have e : p.waits c = false := by unfold Sk.waits; rw [decide_eq_false hc]; rfl
    rw [e]
    have HC := hidT hc
    clear h hc
    go_enter Tryz.func31, Tryz.ntmps31
    go_wp2_with fail
    refine (isClient_any _ _ false (decide_eq_false HC.out)).mono ?_
    rintro e w1 ⟨rfl, rfl⟩
    go_wp2
    go_ret
    exact ⟨rfl, rfl⟩
set_option maxHeartbeats 400000 in
theorem dead_any (s : Nat) (p : Sk) (A : Sa) (w : World) (h : StkAt s p A w) : Calls Tryz.prog 28 #[.pointer (some ⟨s, 0, none⟩)] w fun e w' => e = .returned (.bool p.dead) ∧ w' = w := by
  have c := h.cell 29 _ rfl
  have hl := h.lt
  clear h
  go_enter Tryz.func28, Tryz.ntmps28
  go_wp2
  go_ret
  exact ⟨rfl, rfl⟩
set_option maxHeartbeats 1000000 in
theorem got_in (s : Nat) (p : Sk) (A : Sa) (i : Nat) (hi : i < 3) (w : World) (h : StkAt s p A w) : Calls Tryz.prog 27 #[.pointer (some ⟨s, 0, none⟩), .int .i64 i] w fun e w' => e = .returned (.tuple #[.string (p.client i).got, errOf (p.client i).err]) ∧ Below w.heap.size w w' := by
  have hl := h.lt
  obtain ⟨-, -, -, -, c4, c5⟩ := h.client i hi
  have hi0 : (0 : Int) ≤ (i : Int) := by omega
  have hi3 : (i : Int) < 3 := by omega
  have HC : Hid (0 ≤ (i : Int) ∧ (i : Int) < 3) := ⟨hi0, hi3⟩
  clear h
  generalize errOf (p.client i).err = ev at *
  go_enter Tryz.func27, Tryz.ntmps27
  go_wp2_with fail
  refine (isClient_any _ _ true (decide_eq_true HC.out)).mono ?_
  rintro e w1 ⟨rfl, rfl⟩
  go_wp2_with fail
  go_region
  go_wp2
  go_ret2
  exact ⟨rfl, (Below.refl _ _).drew⟩
theorem StkAt.blen {s : Nat} {p : Sk} {A : Sa} {w : World} (h : StkAt s p A w) : p.dev.busy.length ≤ 2 := h.mem.drv.dev.blen
end Go.Proofs.YtgjkdhedkbkagaaGreat
/- The document's answer on sectors at hand: GetBuf, DirtyBufs, least, PickBuf, SameBufs; cache.Dirty. -/
namespace Go.Proofs.YtgjkdhedkbkagaaGreat
open Go.RowKit Go.BigFrame
set_option maxRecDepth 100000
attribute [local go_sem] Later.cell Later.frozen

/-- How many of the first k are dirty. -/
def dirtyN (l : List Bf) : Nat → Nat
  | 0 => 0
  | k + 1 => match l[k]? with | some x => (if x.dirty then dirtyN l k + 1 else dirtyN l k) | none => dirtyN l k
theorem dirtyN_yes {l : List Bf} {k : Nat} (h : k < l.length) (hd : l[k].dirty = true) : dirtyN l (k + 1) = dirtyN l k + 1 := by
  rw [dirtyN, List.getElem?_eq_getElem h]; simp [hd]
theorem dirtyN_no {l : List Bf} {k : Nat} (h : k < l.length) (hd : l[k].dirty = false) : dirtyN l (k + 1) = dirtyN l k := by
  rw [dirtyN, List.getElem?_eq_getElem h]; simp [hd]
theorem dirtyN_le (l : List Bf) (k : Nat) : dirtyN l k ≤ k := by
  induction k with
  | zero => exact Nat.le_refl _
  | succ k ih =>
    rw [dirtyN]
    split
    · split <;> omega
    · omega
set_option maxHeartbeats 1000000 in
theorem dirty_any (l : List Bf) (a : Option Addr) (c : Nat) (w : World) (hl : BufsAt w a l) (n : Nat) (hn : dirtyN l l.length = n) :
    Calls Tryz.prog 42 #[.slice a l.length c] w fun e w' => e = .returned (.int .i64 n) ∧ Below w.heap.size w w' := by
  subst hn
  have hb3 := hl.2
  go_enter Tryz.func42, Tryz.ntmps42
  go_wp2
  go_loopw [3, 8] (fun n i wr => ∃ k : Nat, k ≤ l.length ∧ i = .int .i64 k ∧ n = .int .i64 (dirtyN l k) ∧ Below w.heap.size w wr) (fun n i _ => l.length - (intOf i).toNat)
  case atStart => exact ⟨0, by omega, rfl, rfl, by repeat (first | with_reducible exact Below.refl _ _ | with_reducible refine balloc ?_ _ | with_reducible refine bdrew ?_ | with_reducible refine bset' ?_ (by omega) _ | with_reducible refine bthen ?_ (by assumption))⟩
  case round =>
    obtain ⟨k, hk, rfl, rfl, HB⟩ := hrel
    have hd := dirtyN_le l k
    by_cases hlt : k < l.length
    · have h0 : l ≠ [] := by rintro rfl; exact absurd hlt (Nat.not_lt_zero _)
      obtain ⟨b, o, rfl⟩ := hl.form.resolve_left h0
      obtain ⟨c0, c1, c2, c3⟩ := (hl.later HB).cells hlt
      clear h0
      cases hdd : l[k].dirty
      · have HD := hidC (dirtyN_no hlt hdd)
        rw [hdd] at c2
        clear hdd
        go_wp2
        go_roundw
        case rel => exact ⟨k + 1, by omega, by go_num, by rw [HD.out], by repeat (first | with_reducible exact Below.refl _ _ | with_reducible refine balloc ?_ _ | with_reducible refine bdrew ?_ | with_reducible refine bset' ?_ (by omega) _ | with_reducible refine bthen ?_ (by assumption))⟩
        case measure => simp [intOf]; omega
      · have HD := hidC (dirtyN_yes hlt hdd)
        rw [hdd] at c2
        clear hdd
        go_wp2
        go_roundw
        case rel => exact ⟨k + 1, by omega, by go_num, by rw [HD.out]; go_num, by repeat (first | with_reducible exact Below.refl _ _ | with_reducible refine balloc ?_ _ | with_reducible refine bdrew ?_ | with_reducible refine bset' ?_ (by omega) _ | with_reducible refine bthen ?_ (by assumption))⟩
        case measure => simp [intOf]; omega
    · obtain rfl : k = l.length := by omega
      go_wp2
      go_ret
      exact ⟨rfl, by repeat (first | with_reducible exact Below.refl _ _ | with_reducible refine balloc ?_ _ | with_reducible refine bdrew ?_ | with_reducible refine bset' ?_ (by omega) _ | with_reducible refine bthen ?_ (by assumption))⟩

end Go.Proofs.YtgjkdhedkbkagaaGreat
