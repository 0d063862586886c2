/- A stack of all: Ask, Tick. -/
import Derived.Test.YtgjkdhedkbkagaaGreatJ32
namespace Go.Proofs.YtgjkdhedkbkagaaGreat
open Go.RowKit Go.BigFrame Go.Maps
set_option maxRecDepth 100000
attribute [local go_sem] Later.cell Later.frozen

theorem own_slice {w : World} {B e k n : Nat} {v : Value} {xs : List Value} (h : w.ownsRow B e k v n xs) : ∃ a c, v = .slice a n c := by
  rcases h.2 with ⟨rfl, h0⟩ | ⟨g, cap, cur, rfl, _⟩
  · exact ⟨none, 0, by rw [h0]⟩
  · exact ⟨_, cap, rfl⟩
theorem asks_ne3 (p : Sk) (i : Nat) {kind pl : Int} {data : ByteArray} (h : ¬ kind = 3) : p.asks i kind pl data = p.asks0 i kind pl data := by unfold Sk.asks Sk.asks0; rw [if_neg h]
theorem asks_3 (p : Sk) (hl : p.cl.length = 3) {i : Nat} (hi : i < 3) {pl : Int} {data : ByteArray} : (p.asks0 i 3 pl data).setLeft i (dirtyOnes p.hand) = p.asks i 3 pl data := by
  unfold Sk.setLeft
  rw [show (p.asks0 i 3 pl data).client i = { p.client i with kind := 3, pl := pl, data := data } by unfold Sk.asks0; rw [client_set hl hi, if_pos rfl]]
  unfold Sk.asks0 Sk.asks
  rw [List.set_set, if_pos rfl]
set_option maxRecDepth 100000 in
set_option maxHeartbeats 2000000 in
theorem ask_no (s : Nat) (p : Sk) (A : Sa) (w : World) (h : StkAt s p A w) (c kind pl : Int) (data : ByteArray) (t : Int) (ht : askFault c kind pl data = t) (h0 : ¬ t = 0) :
    Calls Tryz.prog 37 #[.pointer (some ⟨s, 0, none⟩), .int .i64 c, .int .i64 kind, .int .i64 pl, .string data] w fun e w' => e = .returned (errOf t) ∧ SOk s p A w w' p.nf := by
  have HST := hidT h
  have HT := hidT ht
  have he : errOf t = .iface 89 (.int .i64 t) := by unfold errOf; rw [if_neg h0]
  have HE := hidT he
  clear h ht h0 he
  go_enter Tryz.func37, Tryz.ntmps37
  go_wp2_with fail
  refine (scheck_any c kind pl data _ t HT.out).mono ?_
  rintro e w1 ⟨rfl, rfl⟩
  rw [HE.out]
  go_wp2
  go_ret
  exact ⟨by rw [HE.out]; rfl, p, A, SStep.same' HST.out (Below.refl _ _), rfl⟩
set_option maxRecDepth 100000 in
set_option maxHeartbeats 2000000 in
theorem ask_busy (s : Nat) (p : Sk) (A : Sa) (w : World) (h : StkAt s p A w) (c kind pl : Int) (data : ByteArray) (ht : askFault c kind pl data = 0) (hw : p.waits c = true) :
    Calls Tryz.prog 37 #[.pointer (some ⟨s, 0, none⟩), .int .i64 c, .int .i64 kind, .int .i64 pl, .string data] w fun e w' => e = .returned (errOf 6) ∧ SOk s p A w w' p.nf := by
  have HST := hidT h
  have HT := hidT ht
  have HW := hidT hw
  clear h ht hw
  go_enter Tryz.func37, Tryz.ntmps37
  go_wp2_with fail
  refine (scheck_any c kind pl data _ 0 HT.out).mono ?_
  rintro e w1 ⟨rfl, rfl⟩
  rw [show errOf 0 = .nilIface from rfl]
  go_wp2_with fail
  refine (waits_any s p A c _ HST.out true HW.out).mono ?_
  rintro e w2 ⟨rfl, rfl⟩
  go_wp2
  go_ret
  exact ⟨rfl, p, A, SStep.same' HST.out (Below.refl _ _), rfl⟩
set_option linter.unusedSimpArgs false in
set_option maxRecDepth 100000 in
set_option maxHeartbeats 2000000 in
theorem ask_yes (s : Nat) (p : Sk) (A : Sa) (w : World) (h : StkAt s p A w) (hI : Inv p) (hT : p.tags ≤ 3999999999999999990) (hU : p.uses ≤ 3999999999999999990) (i : Nat) (hi : i < 3) (kind pl : Int) (data : ByteArray) (ht : askFault (i : Int) kind pl data = 0) (hw : p.waits (i : Int) = false) (q : Sk) (hq : (p.nf.asks i kind pl data).serve = q) :
    Calls Tryz.prog 37 #[.pointer (some ⟨s, 0, none⟩), .int .i64 (i : Int), .int .i64 kind, .int .i64 pl, .string data] w fun e w' => e = .returned (errOf 0) ∧ SOk s p A w w' q := by
  have HST := hidT h
  have HT := hidT ht
  have HW := hidT hw
  have hz := askFault_zero ht
  have HIA := hidT (hI.asks i kind pl data hz.2.1 hz.2.2.1 hz.2.2.2.2.1)
  have HQ := hidT hq
  have HB := hidT (And.intro hT hU)
  have hl3 := hI.cl3
  have H8 := hidT hI.hand.len
  have hi' : (i : Int) < 3 := by omega
  obtain ⟨c0, c1, c2, c3, -⟩ := h.client i hi
  have f0 := h.fz (2 + i * 6)
  have f1 := h.fz (2 + i * 6 + 1)
  have f2 := h.fz (2 + i * 6 + 2)
  have hl := h.lt
  have HX := hidT (h.asks0 hl3 hi kind pl data)
  clear h ht hw hz hI hT hU hq
  generalize (p.client i).kind = y0 at *
  generalize (p.client i).pl = y1 at *
  generalize (p.client i).data = y2 at *
  by_cases h3 : kind = 3
  · subst h3
    go_enter Tryz.func37, Tryz.ntmps37
    go_wp2_with fail
    refine (scheck_any i 3 pl data _ 0 HT.out).mono ?_
    rintro e w1 ⟨rfl, rfl⟩
    rw [show errOf 0 = .nilIface from rfl]
    go_wp2_with fail
    refine (waits_any s p A i _ HST.out false HW.out).mono ?_
    rintro e w2 ⟨rfl, rfl⟩
    go_wp2_with fail
    refine (dirtyOnes_any s (p.asks0 i 3 pl data) A _ HX.out.at' (by have := H8.out; show p.hand.length ≤ 1000; omega)).mono ?_
    rintro e w3 ⟨v, rfl, hown, hb3⟩
    obtain ⟨va, vc, rfl⟩ := own_slice hown
    obtain ⟨A', hs3⟩ := HX.out.at'.newLeft (show (p.asks0 i 3 pl data).cl.length = 3 by unfold Sk.asks0; rw [List.length_set]; exact hl3) hi (dirtyOnes p.hand) _ hb3 hown
    rw [asks_3 p hl3 hi] at hs3
    have HS3 := hidT (HX.out.trans hs3)
    have hst3 := HX.out.at'.later hb3
    have g3 := (hst3.client i hi).2.2.2.1
    have gf := hst3.fz (2 + i * 6 + 3)
    have l3 := hst3.lt
    clear hown hb3 hs3 hst3 c0 c1 c2 c3 f0 f1 f2
    obtain ⟨y3, hy3⟩ : ∃ y3, ((p.asks0 i 3 pl data).client i).left.length = y3 := ⟨_, rfl⟩
    rw [hy3] at g3
    clear hy3
    go_wp2_with fail
    refine (serve_any s (p.asks i 3 pl data) A' _ HS3.out.at' HIA.out HB.out.1 HB.out.2 q HQ.out).mono ?_
    rintro e w4 ⟨rfl, hok⟩
    have HO := hidT (SOk.trans HS3.out hok)
    clear hok
    go_wp2
    go_ret
    exact ⟨rfl, HO.out⟩
  · have HA := hidT (asks_ne3 p i (pl := pl) (data := data) h3)
    go_enter Tryz.func37, Tryz.ntmps37
    go_wp2_with fail
    refine (scheck_any i kind pl data _ 0 HT.out).mono ?_
    rintro e w1 ⟨rfl, rfl⟩
    rw [show errOf 0 = .nilIface from rfl]
    go_wp2_with fail
    refine (waits_any s p A i _ HST.out false HW.out).mono ?_
    rintro e w2 ⟨rfl, rfl⟩
    go_wp2_with fail
    refine (serve_any s (p.asks0 i kind pl data) A _ HX.out.at' (by rw [← HA.out]; exact HIA.out) HB.out.1 HB.out.2 q (by rw [← HA.out]; exact HQ.out)).mono ?_
    rintro e w4 ⟨rfl, hok⟩
    have HO := hidT (SOk.trans HX.out hok)
    clear hok
    go_wp2
    go_ret
    exact ⟨rfl, HO.out⟩
theorem ask_any (s : Nat) (p : Sk) (A : Sa) (w : World) (h : StkAt s p A w) (hI : Inv p) (hT : p.tags ≤ 3999999999999999990) (hU : p.uses ≤ 3999999999999999990) (c kind pl : Int) (data : ByteArray) (n : Int) (q : Sk) (hq : p.nf.ask c kind pl data = (n, q)) :
    Calls Tryz.prog 37 #[.pointer (some ⟨s, 0, none⟩), .int .i64 c, .int .i64 kind, .int .i64 pl, .string data] w fun e w' => e = .returned (errOf n) ∧ SOk s p A w w' q := by
  unfold Sk.ask at hq
  by_cases h0 : askFault c kind pl data = 0
  · rw [if_neg (by simpa using h0)] at hq
    cases hw : p.waits c
    · rw [if_neg (by rw [show p.nf.waits c = p.waits c from rfl, hw]; exact Bool.false_ne_true)] at hq
      simp only [Prod.mk.injEq] at hq
      obtain ⟨rfl, hq⟩ := hq
      have hz := (askFault_zero h0).1
      obtain ⟨i, rfl⟩ : ∃ i : Nat, c = i := ⟨c.toNat, by omega⟩
      rw [Int.toNat_natCast] at hq
      exact ask_yes s p A w h hI hT hU i (by omega) kind pl data h0 hw q hq
    · rw [if_pos (show p.nf.waits c = true from hw)] at hq
      simp only [Prod.mk.injEq] at hq
      obtain ⟨rfl, rfl⟩ := hq
      exact ask_busy s p A w h c kind pl data h0 hw
  · rw [if_pos h0] at hq
    simp only [Prod.mk.injEq] at hq
    obtain ⟨rfl, rfl⟩ := hq
    exact ask_no s p A w h c kind pl data _ rfl h0
theorem StkMem.setMoment {s : Nat} {p : Sk} {A : Sa} {w : World} (h : StkMem s p A w) (m : Int) : StkMem s { p with moment := m } A w where
  drv := h.drv
  map := h.map
  im := h.im
  nb := h.nb
  hand := h.hand
  hnil := h.hnil
  hcap := h.hcap
  queue := h.queue
  qnil := h.qnil
  qcap := h.qcap
  left := h.left
  sv := h.sv
  vl := h.vl
  ll := h.ll
  hoffX := h.hoffX
  qoffX := h.qoffX
  roffX := h.roffX
  xlt := h.xlt
theorem StkAt.setMoment {s : Nat} {p : Sk} {A : Sa} {w : World} (h : StkAt s p A w) (m : Int) : SStep s p A { p with moment := m } A w (w.setCell ⟨s, 26, none⟩ (.int .i64 m)) := h.put (h.mem.setMoment m) 26 _ rfl (fun _ hk => hk) ⟨rfl, rfl, rfl, rfl⟩
set_option linter.unusedSimpArgs false in
set_option maxRecDepth 100000 in
set_option maxHeartbeats 2000000 in
theorem tick_any (s : Nat) (p : Sk) (A : Sa) (w : World) (h : StkAt s p A w) (hI : Inv p) (hT : p.tags ≤ 3999999999999999990) (hU : p.uses ≤ 3999999999999999990) (q : Sk) (hq : p.nf.tick = q) :
    Calls Tryz.prog 34 #[.pointer (some ⟨s, 0, none⟩)] w fun e w' => e = .returned (.tuple #[]) ∧ SOk s p A w w' q := by
  obtain ⟨m, hm⟩ : ∃ m : Int, (if p.moment + 1 < 1000000000 then p.moment + 1 else 1000000000) = m := ⟨_, rfl⟩
  have HM := hidT (hI.mom)
  have HX := hidT (h.setMoment m)
  have HI2 : Hid (Inv { p with moment := m }) := ⟨hI.cl3, hI.cok, hI.hand, hI.d6, hI.good, hI.apart, hI.q6, hI.b2, by
    have := hI.mom
    show 0 ≤ m ∧ m ≤ 1000000000
    rw [← hm]; split <;> omega, hI.tg, hI.us, hI.tin, hI.n32, hI.g32, hI.ts, hI.fr⟩
  have HQ : Hid (({ p with moment := m } : Sk).nf.serve = q) := by
    rw [← hq, ← hm]; rfl
  have c26 := h.cell 26 _ rfl
  have f26 := h.fz 26
  have hl := h.lt
  have hwr : IntKind.i64.wrap (p.moment + 1) = p.moment + 1 := by have := hI.mom; rw [IntKind.wrap_i64]; omega
  clear h hI hq
  by_cases hlt : 1000000000 < p.moment + 1
  · obtain rfl : 1000000000 = m := by rw [← hm, if_neg (by omega)]
    clear hm
    go_enter Tryz.func34, Tryz.ntmps34
    go_wp2_with fail
    refine (serve_any s _ A _ HX.out.at' HI2.out hT hU q HQ.out).mono ?_
    rintro e w4 ⟨rfl, hok⟩
    have HO := hidT (SOk.trans HX.out hok)
    clear hok
    go_wp2
    go_end0
    exact ⟨rfl, HO.out⟩
  · obtain rfl : p.moment + 1 = m := by rw [← hm]; split <;> omega
    clear hm
    go_enter Tryz.func34, Tryz.ntmps34
    go_wp2_with fail
    refine (serve_any s _ A _ HX.out.at' HI2.out hT hU q HQ.out).mono ?_
    rintro e w4 ⟨rfl, hok⟩
    have HO := hidT (SOk.trans HX.out hok)
    clear hok
    go_wp2
    go_end0
    exact ⟨rfl, HO.out⟩
end Go.Proofs.YtgjkdhedkbkagaaGreat
/- A stack of all: does a client wait for what can't be answered till dirty sectors are on the disk? -/
namespace Go.Proofs.YtgjkdhedkbkagaaGreat
open Go.RowKit Go.BigFrame Go.Maps
set_option maxRecDepth 100000
attribute [local go_sem] Later.cell Later.frozen

def wantsC (c : Cl) : Bool := (c.kind == 2) || (c.kind == 3)
set_option maxHeartbeats 1000000 in
theorem wants1_any (kd pl : Int) (hkd : 0 ≤ kd ∧ kd ≤ 3) (da : ByteArray) (a : Option Addr) (n c : Nat) (got : ByteArray) (ev : Value) (w : World) (t : Bool) (ht : ((kd == 2) || (kd == 3)) = t) :
    Calls Tryz.prog 65 #[.agg #[.int .i64 kd, .int .i64 pl, .string da, .slice a n c, .string got, ev]] w fun e w' => e = .returned (.bool t) ∧ Below w.heap.size w w' := by
  have h4 : kd = 0 ∨ kd = 1 ∨ kd = 2 ∨ kd = 3 := by omega
  clear hkd
  rcases h4 with rfl | rfl | rfl | rfl
  · obtain rfl : false = t := ht
    go_enter Tryz.func65, Tryz.ntmps65
    go_wp2
    go_ret
    exact ⟨rfl, by repeat (first | with_reducible exact Below.refl _ _ | with_reducible refine balloc ?_ _ | with_reducible refine bdrew ?_ | with_reducible refine bset' ?_ (by omega) _ | with_reducible refine bthen ?_ (by assumption))⟩
  · obtain rfl : false = t := ht
    go_enter Tryz.func65, Tryz.ntmps65
    go_wp2
    go_ret
    exact ⟨rfl, by repeat (first | with_reducible exact Below.refl _ _ | with_reducible refine balloc ?_ _ | with_reducible refine bdrew ?_ | with_reducible refine bset' ?_ (by omega) _ | with_reducible refine bthen ?_ (by assumption))⟩
  · obtain rfl : true = t := ht
    go_enter Tryz.func65, Tryz.ntmps65
    go_wp2
    go_ret
    exact ⟨rfl, by repeat (first | with_reducible exact Below.refl _ _ | with_reducible refine balloc ?_ _ | with_reducible refine bdrew ?_ | with_reducible refine bset' ?_ (by omega) _ | with_reducible refine bthen ?_ (by assumption))⟩
  · obtain rfl : true = t := ht
    go_enter Tryz.func65, Tryz.ntmps65
    go_wp2
    go_ret
    exact ⟨rfl, by repeat (first | with_reducible exact Below.refl _ _ | with_reducible refine balloc ?_ _ | with_reducible refine bdrew ?_ | with_reducible refine bset' ?_ (by omega) _ | with_reducible refine bthen ?_ (by assumption))⟩
theorem wants_found {p : Sk} (hl : p.cl.length = 3) {k : Nat} (hk : k < 3) (h : wantsC (p.client k) = true) : p.wantsClean = true := List.any_eq_true.2 ⟨_, client_mem hl hk, h⟩
theorem wants_none {p : Sk} (hl : p.cl.length = 3) (h : ∀ k, k < 3 → wantsC (p.client k) = false) : p.wantsClean = false := by
  unfold Sk.wantsClean
  rw [List.any_eq_false]
  intro c hc
  obtain ⟨i, hi, rfl⟩ := mem_client hl hc
  have := h i hi
  unfold wantsC at this
  rw [this]; exact Bool.false_ne_true
def hidK (w : World) (s : Nat) (p : Sk) (A : Sa) : Prop := ∃ w0, StkAt s p A w0 ∧ Below w0.heap.size w0 w
set_option maxHeartbeats 1000000 in
theorem indexC_any (s : Nat) (p : Sk) (A : Sa) (w : World) (h : StkAt s p A w) (hI : Inv p) :
    Calls Tryz.prog 88 #[.slice (some ⟨s, 2, none⟩) 3 3, .func (.func 65) #[] #[]] w fun e w' => ∃ n : Int, e = .returned (.int .i64 n) ∧ (decide (0 ≤ n) = p.wantsClean) ∧ Below w.heap.size w w' := by
  have HST := hidT h
  have HI := hidT hI
  clear h hI
  go_enter Tryz.func88, Tryz.ntmps88
  go_wp2
  go_loopw [8] (fun i wr => ∃ k : Nat, k ≤ 3 ∧ i = .int .i64 k ∧ (∀ j, j < k → wantsC (p.client j) = false) ∧ Below w.heap.size w wr) (fun i _ => 3 - (intOf i).toNat)
  case atStart => exact ⟨0, by omega, rfl, fun j hj => absurd hj (Nat.not_lt_zero _), Below.refl _ _⟩
  case round =>
    obtain ⟨k, hk, rfl, hno, HB⟩ := hrel
    have HN := hidT hno
    clear hno
    by_cases hlt : k < 3
    · have hlt' : (k : Int) < 3 := by omega
      have hst := HST.out.later HB
      obtain ⟨c0, c1, c2, c3, c4, c5⟩ := hst.client k hlt
      have hl := hst.lt
      have hkd := (HI.out.client k).kind
      have HW : Hid (wantsC (p.client k) = (((p.client k).kind == 2) || ((p.client k).kind == 3))) := hidT rfl
      clear hst
      generalize (p.client k).kind = y0 at *
      generalize (p.client k).pl = y1 at *
      generalize (p.client k).data = y2 at *
      generalize (p.client k).left.length = y3 at *
      generalize (p.client k).got = y4 at *
      generalize errOf (p.client k).err = y5 at *
      have HKD := hidT hkd
      clear hkd
      cases hw : ((y0 == 2) || (y0 == 3))
      · rw [hw] at HW
        have HWW := hidT hw
        clear hw
        go_wp2_with fail
        refine (wants1_any y0 y1 HKD.out y2 _ _ _ y4 y5 _ false HWW.out).mono ?_
        rintro e w1 ⟨rfl, hb⟩
        go_wp2
        go_roundw
        case rel => exact ⟨k + 1, by omega, by go_num, fun j hj => by by_cases e : j = k; (subst e; exact HW.out); exact HN.out j (by omega), by repeat (first | with_reducible exact Below.refl _ _ | with_reducible refine balloc ?_ _ | with_reducible refine bdrew ?_ | with_reducible refine bset' ?_ (by omega) _ | with_reducible refine bthen ?_ (by assumption))⟩
        case measure => simp [intOf]; omega
      · rw [hw] at HW
        have HWW := hidT hw
        clear hw
        go_wp2_with fail
        refine (wants1_any y0 y1 HKD.out y2 _ _ _ y4 y5 _ true HWW.out).mono ?_
        rintro e w1 ⟨rfl, hb⟩
        go_wp2
        go_ret
        exact ⟨k, rfl, by rw [wants_found HI.out.cl3 hlt HW.out]; exact decide_eq_true (by omega), by repeat (first | with_reducible exact Below.refl _ _ | with_reducible refine balloc ?_ _ | with_reducible refine bdrew ?_ | with_reducible refine bset' ?_ (by omega) _ | with_reducible refine bthen ?_ (by assumption))⟩
    · obtain rfl : k = 3 := by omega
      go_wp2
      go_ret
      exact ⟨-1, rfl, by rw [wants_none HI.out.cl3 (fun j hj => HN.out j hj)]; rfl, HB⟩
set_option maxHeartbeats 1000000 in
theorem wants_any (s : Nat) (p : Sk) (A : Sa) (w : World) (h : StkAt s p A w) (hI : Inv p) (t : Bool) (ht : p.wantsClean = t) :
    Calls Tryz.prog 49 #[.pointer (some ⟨s, 0, none⟩)] w fun e w' => e = .returned (.bool t) ∧ Below w.heap.size w w' := by
  have HST := hidT h
  have HI := hidT hI
  have HT := hidT ht
  have hl := h.lt
  clear h hI ht
  have hcon : Calls Tryz.prog 66 #[.slice (some ⟨s, 2, none⟩) 3 3, .func (.func 65) #[] #[]] w fun e w' => e = .returned (.bool t) ∧ Below w.heap.size w w' := by
    go_enter Tryz.func66, Tryz.ntmps66
    go_wp2_with fail
    refine (indexC_any s p A w HST.out HI.out).mono ?_
    rintro e w1 ⟨n, rfl, hn, hb⟩
    rw [HT.out] at hn
    go_wp2
    go_ret
    exact ⟨ret_bool (by rw [← hn]), hb⟩
  have HCON := hidT hcon
  clear hcon
  go_enter Tryz.func49, Tryz.ntmps49
  go_wp2_with fail
  refine HCON.out.mono ?_
  rintro e w1 ⟨rfl, hb⟩
  go_wp2
  go_ret
  exact ⟨rfl, hb⟩
end Go.Proofs.YtgjkdhedkbkagaaGreat
/- A stack of all: Clean. -/
namespace Go.Proofs.YtgjkdhedkbkagaaGreat
open Go.RowKit Go.BigFrame Go.Maps
set_option maxRecDepth 100000
attribute [local go_sem] Later.cell Later.frozen

set_option maxRecDepth 100000 in
set_option maxHeartbeats 1000000 in
theorem clean_dead (s : Nat) (p : Sk) (A : Sa) (w : World) (h : StkAt s p A w) (hd : p.dead = true) :
    Calls Tryz.prog 33 #[.pointer (some ⟨s, 0, none⟩)] w fun e w' => e = .returned (.bool false) ∧ SOk s p A w w' p.nf := by
  have c29 := h.cell 29 _ rfl
  rw [hd] at c29
  have hl := h.lt
  have HST := hidT h
  clear h
  go_enter Tryz.func33, Tryz.ntmps33
  go_wp2
  go_ret
  exact ⟨rfl, p, A, SStep.same' HST.out (Below.refl _ _), rfl⟩
set_option maxRecDepth 100000 in
set_option maxHeartbeats 1000000 in
theorem clean_few (s : Nat) (p : Sk) (A : Sa) (w : World) (h : StkAt s p A w) (hI : Inv p) (hd : p.dead = false) (h3 : dirtyB p.hand < 3) (hw : p.wantsClean = false) :
    Calls Tryz.prog 33 #[.pointer (some ⟨s, 0, none⟩)] w fun e w' => e = .returned (.bool false) ∧ SOk s p A w w' p.nf := by
  have c29 := h.cell 29 _ rfl
  rw [hd] at c29
  have hl := h.lt
  have HST := hidT h
  have HI := hidT hI
  have HW := hidT hw
  obtain ⟨n, hn⟩ : ∃ n, dirtyB p.hand = n := ⟨_, rfl⟩
  rw [hn] at h3
  have HN := hidT hn
  have h3' : (n : Int) < 3 := by omega
  clear h hI hw hn
  go_enter Tryz.func33, Tryz.ntmps33
  go_wp2_with fail
  refine (sdirty_any s p A w HST.out n HN.out).mono ?_
  rintro e w1 ⟨rfl, hb1⟩
  have HS1 := hidT (SStep.same' HST.out hb1)
  clear hb1
  go_wp2_with fail
  refine (wants_any s p A w1 HS1.out.at' HI.out false HW.out).mono ?_
  rintro e w2 ⟨rfl, hb2⟩
  have HS2 := hidT (HS1.out.later hb2)
  clear hb2
  go_wp2
  go_ret
  exact ⟨rfl, p, A, HS2.out, rfl⟩
theorem strs_one {w : World} {b : Nat} {x : ByteArray} (h : w.cell? ⟨b, 0, none⟩ = some (.string x)) : StrsAt w (some ⟨b, 0, none⟩) [x] := by
  refine Or.inr ⟨b, 0, rfl, ?_⟩
  intro i hi
  match i, hi with
  | 0, _ => simpa using h
set_option linter.unusedSimpArgs false in
set_option maxRecDepth 100000 in
set_option maxHeartbeats 4000000 in
theorem clean_goes (s : Nat) (p : Sk) (A : Sa) (w : World) (h : StkAt s p A w) (hI : Inv p) (hT : p.tags ≤ 4000000000000000000) (hd : p.dead = false) (hc : ¬ (dirtyB p.hand < 3 ∧ p.wantsClean = false)) (t : Bool) (q : Sk) (hq : p.nf.clean = (t, q)) :
    Calls Tryz.prog 33 #[.pointer (some ⟨s, 0, none⟩)] w fun e w' => e = .returned (.bool t) ∧ SOk s p A w w' q := by
  have e1 : p.nf.clean = if pickB p.hand (holdsB (p.queue ++ p.dev.busy)) < 0 then (false, p.nf) else p.nf.askQ (pickB p.hand (holdsB (p.queue ++ p.dev.busy))) true [((getB p.hand (pickB p.hand (holdsB (p.queue ++ p.dev.busy)))).getD ⟨0, ByteArray.empty, false, 0⟩).data] := by
    rw [← held_fun]
    unfold Sk.clean
    rw [if_neg (fun e => e.elim (fun e => by rw [show p.nf.dead = false from hd] at e; cases e) hc)]
    rfl
  rw [e1] at hq
  have HQ := hidT hq
  have HC := hidT hc
  have HST := hidT h
  have HI := hidT hI
  have c29 := h.cell 29 _ rfl
  rw [hd] at c29
  have hl := h.lt
  have h9 : dirtyB p.hand ≤ 8 := Nat.le_trans (List.length_filter_le _ _) hI.hand.len
  obtain ⟨n, hn⟩ : ∃ n, dirtyB p.hand = n := ⟨_, rfl⟩
  rw [hn] at h9
  have HN := hidT hn
  clear h hI hc hq e1 hn
  by_cases h3 : n < 3
  have h3' : (n : Int) < 3 := by omega
  have HW : Hid (p.wantsClean = true) := by
    cases hw : p.wantsClean
    · exact absurd ⟨by rw [HN.out]; exact h3, hw⟩ HC.out
    · rfl
  go_enter Tryz.func33, Tryz.ntmps33
  go_wp2_with fail
  refine (sdirty_any s p A w HST.out n HN.out).mono ?_
  rintro e w1 ⟨rfl, hb1⟩
  have HS1 := hidT (SStep.same' HST.out hb1)
  clear hb1
  go_wp2_with fail
  refine (wants_any s p A w1 HS1.out.at' HI.out true HW.out).mono ?_
  rintro e w2 ⟨rfl, hb2⟩
  have HS2 := hidT (HS1.out.later hb2)
  clear hb2
  go_wp2_with fail
  rotate_left
  have h3' : ¬ (n : Int) < 3 := by omega
  go_enter Tryz.func33, Tryz.ntmps33
  go_wp2_with fail
  refine (sdirty_any s p A w HST.out n HN.out).mono ?_
  rintro e w2 ⟨rfl, hb2⟩
  have HS2 := hidT (SStep.same' HST.out hb2)
  clear hb2
  go_wp2_with fail
  all_goals
    have y20 := HS2.out.at'.cell 20 _ rfl
    have ly := HS2.out.at'.lt
    rcases leastU_spec (fitB true (holdsB (p.queue ++ p.dev.busy))) p.hand p.hand.length (Nat.le_refl _) with ⟨hr, -⟩ | ⟨k, hk, -, hr, -⟩
    · have HR := hidT hr
      have HP : Hid (pickB p.hand (holdsB (p.queue ++ p.dev.busy)) = -1) := by show pickB p.hand (holdsB (p.queue ++ p.dev.busy)) = -1; unfold pickB; rw [hr, if_neg (by omega)]
      clear hr
      rw [HP.out, if_pos (by omega)] at HQ
      go_region_held3 (fun w' => w'.cell? ⟨s, 20, none⟩ = some (.slice A.ha p.hand.length A.hc)) (exact cellB_later' (w := w2) (by repeat (first | with_reducible exact Below.refl _ _ | with_reducible refine balloc ?_ _ | with_reducible refine bdrew ?_ | with_reducible refine bset' ?_ (by omega) _ | with_reducible refine bthen ?_ (by assumption))) y20) (first | (go_at_call 51; refine (held_any s p A _ (HS2.out.at'.later (by repeat (first | with_reducible exact Below.refl _ _ | with_reducible refine balloc ?_ _ | with_reducible refine bdrew ?_ | with_reducible refine bset' ?_ (by omega) _ | with_reducible refine bthen ?_ (by assumption)))) (by have := HI.out.q6; omega)).mono ?_; rintro e w3 ⟨hb, rfl, hH, hb3⟩) | (go_at_call 50; refine (pick_no 69 (by intro args w; go_simp) #[.pointer (some ⟨hb, 0, none⟩)] (holdsB (p.queue ++ p.dev.busy)) p.hand A.ha A.hc _ (HS2.out.at'.mem.hand.later (by repeat (first | with_reducible exact Below.refl _ _ | with_reducible refine balloc ?_ _ | with_reducible refine bdrew ?_ | with_reducible refine bset' ?_ (by omega) _ | with_reducible refine bthen ?_ (by assumption)))) (fun n w' hb' => hold1_any hb _ n w' ((HoldAt.later hH (by repeat (first | with_reducible exact Below.refl _ _ | with_reducible refine balloc ?_ _ | with_reducible refine bdrew ?_ | with_reducible refine bset' ?_ (by omega) _ | with_reducible refine bthen ?_ (by assumption)))).later hb')) HR.out).mono ?_; rintro e w4 ⟨rfl, hb4⟩))
      all_goals
        have HS4 : Hid (SStep s p A p A w w4) := HS2.out.later (by repeat (first | with_reducible exact Below.refl _ _ | with_reducible refine balloc ?_ _ | with_reducible refine bdrew ?_ | with_reducible refine bset' ?_ (by omega) _ | with_reducible refine bthen ?_ (by assumption)))
        clear hb3 hb4 hH
        go_wp2
        go_ret
        have hz := HQ.out
        simp only [Prod.mk.injEq] at hz
        exact ⟨by rw [← hz.1]; rfl, p, A, HS4.out, hz.2⟩
    · have HR := hidT hr
      obtain ⟨x, hx⟩ : ∃ x, x = p.hand[k] := ⟨_, rfl⟩
      have hxm : x ∈ p.hand := by rw [hx]; exact List.getElem_mem hk
      have HIN := hidT (HI.out.hand.in' x hxm)
      have HP : Hid (pickB p.hand (holdsB (p.queue ++ p.dev.busy)) = x.pl) := by
        show pickB p.hand (holdsB (p.queue ++ p.dev.busy)) = x.pl
        unfold pickB; rw [hr, if_pos (by omega), Int.toNat_natCast, List.getD_eq_getElem?_getD, List.getElem?_eq_getElem hk, Option.getD_some, hx]
      have HG := hidT (getB_mem HI.out.hand.rise hxm)
      have HXE := hidT hx
      rw [HP.out, if_neg (by have := HIN.out; omega), HG.out] at HQ
      have HIX : Hid (∃ j, ∃ hj : j < p.hand.length, idxB (plB x.pl) p.hand = j ∧ p.hand[j] = x) := by
        rcases getB_idx p.hand x.pl with ⟨h1, _⟩ | ⟨j, hj, h1, h2, _⟩
        · rw [HG.out] at h1; cases h1
        · rw [HG.out] at h1
          exact ⟨j, hj, h2, (Option.some.inj h1).symm⟩
      have hx0 : ¬ x.pl < 0 := by have := HIN.out; omega
      clear hr hx hxm
      go_region_held3 (fun w' => w'.cell? ⟨s, 20, none⟩ = some (.slice A.ha p.hand.length A.hc)) (exact cellB_later' (w := w2) (by repeat (first | with_reducible exact Below.refl _ _ | with_reducible refine balloc ?_ _ | with_reducible refine bdrew ?_ | with_reducible refine bset' ?_ (by omega) _ | with_reducible refine bthen ?_ (by assumption))) y20) (first | (go_at_call 51; refine (held_any s p A _ (HS2.out.at'.later (by repeat (first | with_reducible exact Below.refl _ _ | with_reducible refine balloc ?_ _ | with_reducible refine bdrew ?_ | with_reducible refine bset' ?_ (by omega) _ | with_reducible refine bthen ?_ (by assumption)))) (by have := HI.out.q6; omega)).mono ?_; rintro e w3 ⟨hb, rfl, hH, hb3⟩) | (go_at_call 50; refine (pick_yes 69 (by intro args w; go_simp) #[.pointer (some ⟨hb, 0, none⟩)] (holdsB (p.queue ++ p.dev.busy)) p.hand A.ha A.hc _ (HS2.out.at'.mem.hand.later (by repeat (first | with_reducible exact Below.refl _ _ | with_reducible refine balloc ?_ _ | with_reducible refine bdrew ?_ | with_reducible refine bset' ?_ (by omega) _ | with_reducible refine bthen ?_ (by assumption)))) (fun n w' hb' => hold1_any hb _ n w' ((HoldAt.later hH (by repeat (first | with_reducible exact Below.refl _ _ | with_reducible refine balloc ?_ _ | with_reducible refine bdrew ?_ | with_reducible refine bset' ?_ (by omega) _ | with_reducible refine bthen ?_ (by assumption)))).later hb')) k hk HR.out).mono ?_; rw [← HXE.out]; rintro e w4 ⟨rfl, hb4⟩))
      all_goals
        have HS4 : Hid (SStep s p A p A w w4) := HS2.out.later (by repeat (first | with_reducible exact Below.refl _ _ | with_reducible refine balloc ?_ _ | with_reducible refine bdrew ?_ | with_reducible refine bset' ?_ (by omega) _ | with_reducible refine bthen ?_ (by assumption)))
        have g20 := HS4.out.at'.cell 20 _ rfl
        have l4 := HS4.out.at'.lt
        clear hb3 hb4 hH y20 ly
        obtain ⟨j, hj, hix, hjx⟩ := HIX.out
        have HJ := hidT (And.intro hix hjx)
        clear hix hjx
        go_wp2_with fail
        refine (get_yes p.hand A.ha A.hc x.pl _ (HS4.out.at'.mem.hand.later (by repeat (first | with_reducible exact Below.refl _ _ | with_reducible refine balloc ?_ _ | with_reducible refine bdrew ?_ | with_reducible refine bset' ?_ (by omega) _ | with_reducible refine bthen ?_ (by assumption)))) j hj HJ.out.1).mono ?_
        rw [HJ.out.2]
        rintro e w5 ⟨rfl, hb5⟩
        have HS5 : Hid (SStep s p A p A w w5) := HS4.out.later (by repeat (first | with_reducible exact Below.refl _ _ | with_reducible refine balloc ?_ _ | with_reducible refine bdrew ?_ | with_reducible refine bset' ?_ (by omega) _ | with_reducible refine bthen ?_ (by assumption)))
        have l5 := HS5.out.at'.lt
        clear g20 l4
        go_wp2_with fail
        have HB5 := hidT (And.intro HI.out.tg hT)
        refine (askQ_any s p A _ (HS5.out.at'.later (by repeat (first | with_reducible exact Below.refl _ _ | with_reducible refine balloc ?_ _ | with_reducible refine bdrew ?_ | with_reducible refine bset' ?_ (by omega) _ | with_reducible refine bthen ?_ (by assumption)))) (by have := HI.out.q6; omega) HI.out.goods ⟨HI.out.tg, hT⟩ HI.out.mom x.pl ⟨HIN.out.1, HIN.out.2.1⟩ true [x.data] (by simp) (some ⟨_, 0, none⟩) 1 (strs_one (by simp)) (fun e => by cases e) (fun _ ad ha e => by simp only [Option.some.injEq] at ha; subst ha; have := HS5.out.at'.offLt _ e; simp at this; omega) (fun tb => askR_good (reqOf_good HI.out x.pl ⟨HIN.out.1, HIN.out.2.1⟩ true [x.data] (Or.inl ⟨rfl, rfl, fun s' hs' => by rw [List.mem_singleton.1 hs']; exact HIN.out.2.2⟩)) _ 1 tb)).mono ?_
        have hq2 : p.nf.askQ x.pl true [x.data] = (t, q) := HQ.out
        rw [hq2]
        clear hq2
        rintro e w6 ⟨p', A', rfl, hs6, hn6⟩
        have HS6 : Hid (SStep s p A p' A' w w6) := (HS5.out.later (by repeat (first | with_reducible exact Below.refl _ _ | with_reducible refine balloc ?_ _ | with_reducible refine bdrew ?_ | with_reducible refine bset' ?_ (by omega) _ | with_reducible refine bthen ?_ (by assumption)))).trans hs6
        have HN6 := hidT hn6
        clear hs6 hn6
        go_wp2
        go_ret
        exact ⟨rfl, p', A', HS6.out, HN6.out⟩
theorem sclean_any (s : Nat) (p : Sk) (A : Sa) (w : World) (h : StkAt s p A w) (hI : Inv p) (hT : p.tags ≤ 4000000000000000000) (t : Bool) (q : Sk) (hq : p.nf.clean = (t, q)) :
    Calls Tryz.prog 33 #[.pointer (some ⟨s, 0, none⟩)] w fun e w' => e = .returned (.bool t) ∧ SOk s p A w w' q := by
  cases hd : p.dead
  · by_cases hc : dirtyB p.hand < 3 ∧ p.wantsClean = false
    · have e : p.nf.clean = (false, p.nf) := by
        unfold Sk.clean
        exact if_pos (Or.inr hc)
      rw [e] at hq
      cases hq
      exact clean_few s p A w h hI hd hc.1 hc.2
    · exact clean_goes s p A w h hI hT hd hc t q hq
  · have e : p.nf.clean = (false, p.nf) := by
      unfold Sk.clean
      exact if_pos (Or.inl hd)
    rw [e] at hq
    cases hq
    exact clean_dead s p A w h hd
end Go.Proofs.YtgjkdhedkbkagaaGreat
/- A stack of all: Dispatch. -/
namespace Go.Proofs.YtgjkdhedkbkagaaGreat
open Go.RowKit Go.BigFrame Go.Maps
set_option maxRecDepth 100000
attribute [local go_sem] Later.cell Later.frozen

/-- The next one, and the turn then, called. -/
theorem nextF_call (l : List Rq) (hg : Goods l) (hne : l ≠ []) (b o c : Nat) (t : Tn) (now : Int) (n0 : 0 ≤ now) (n1 : now ≤ 1000000000) (hs : In64 t.s) :
    ∃ (i : Nat) (T : Tn), i < l.length ∧ nextF l t now = ((i : Int), T) ∧ NextCall 56 b o c l t now i T := by
  have ende : ∀ (i : Nat) (hi : i < l.length), endAt l (i : Int) = l[i].f + l[i].m := fun i hi => by unfold endAt; rw [Int.toNat_natCast, List.getElem?_eq_getElem hi]
  have begins : ¬ (0 < t.g ∧ t.g < 3 ∧ 0 ≤ frI t.w t.p l) → ∃ (i : Nat) (T : Tn), i < l.length ∧ nextF l t now = ((i : Int), T) ∧ NextCall 56 b o c l t now i T := by
    intro hpre
    unfold nextF
    rw [if_neg hpre]
    obtain ⟨i0, hi0, hO, hw⟩ := kind_there l hne t _ _ rfl rfl
    generalize d1 : decide (0 ≤ oldI false l) = b1 at *
    generalize d2 : decide (0 ≤ oldI true l) = b2 at *
    obtain ⟨e1, e2⟩ := beginT_p b1 b2 t
    obtain ⟨i, hi, hway⟩ := first_way l hg (beginT b1 b2 t) now i0 hi0 hw
    have g := (hg.good i hi).bds
    have hbg : beginI l (beginT b1 b2 t) now = i := by
      unfold beginI
      have hborn : bornAt l (oldI (beginT b1 b2 t).w l) = l[i0].born := by unfold bornAt; rw [hO, Int.toNat_natCast, List.getElem?_eq_getElem hi0]
      rw [hborn]
      rcases hway with ⟨h1, rfl⟩ | ⟨h1, h2 | ⟨h2, h3⟩⟩
      · rw [if_pos h1]; exact hO
      · rw [if_neg (by omega), if_pos (by omega)]; exact h2
      · rw [if_neg (by omega), if_neg (by omega)]; exact h3
    refine ⟨i, ⟨(beginT b1 b2 t).w, 1, (beginT b1 b2 t).s, l[i].f + l[i].m⟩, hi, by rw [hbg, ende i hi], ?_⟩
    intro w hl
    have := next_begin l b o c t (beginT b1 b2 t) now w hl i hi ?_ (fun w' hl' => begin_any l b o c t w' hl' hs b1 b2 d1 d2) (fun w' hl' => nfirst_any l hg b o c _ now w' hl' n0 n1 i0 hi0 hO i hway) (by omega) (by omega) (by omega) (by omega)
    · rw [e2] at this; exact this
    · intro w' hl'
      by_cases hgo : t.g ≤ 0 ∨ 3 ≤ t.g
      · exact goesOn_no l _ c t w' hgo
      · refine goesOn_yes l _ c t w' hl' (by omega) (by omega) _ ?_
        rcases fr_spec t.w t.p l with ⟨h1, _⟩ | ⟨j, hj, h1, _⟩
        · exact h1
        · exact absurd ⟨by omega, by omega, by omega⟩ hpre
  by_cases hgo : 0 < t.g ∧ t.g < 3 ∧ 0 ≤ frI t.w t.p l
  · rcases fr_spec t.w t.p l with ⟨h1, _⟩ | ⟨j, hj, h1, h2, _⟩
    · omega
    · have g := (hg.good j hj).bds
      refine ⟨j, ⟨t.w, t.g + 1, t.s, l[j].f + l[j].m⟩, hj, by unfold nextF; rw [if_pos hgo, h1, ende j hj], fun w hl => ?_⟩
      exact next_on l b o c t now w hl (by omega) (by omega) j hj h1 (by omega) (by omega) (by omega) (by omega)
  · exact begins hgo
theorem Inv.goodsQ {p : Sk} (h : Inv p) : Goods p.queue := by
  refine ⟨h.goods, fun i j hi hj => ?_⟩
  have hp := List.pairwise_iff_getElem.1 h.queue.2 j i (by omega) hi hj
  have h1 := h.goods i hi
  have h2 := h.goods j (by omega)
  have := (meets_apart (r := p.queue[j]) h1 h2).2 hp.symm
  exact this
end Go.Proofs.YtgjkdhedkbkagaaGreat
/- A stack of all: Dispatch, the walk. -/
namespace Go.Proofs.YtgjkdhedkbkagaaGreat
open Go.RowKit Go.BigFrame Go.Maps
set_option maxRecDepth 100000
attribute [local go_sem] Later.cell Later.frozen

theorem leastI_nf (F : Rq → Bool) (R : Rq → Int) (hF : ∀ r : Rq, F r.nf = F r) (hR : ∀ r : Rq, R r.nf = R r) (l : List Rq) : ∀ n, leastI F R (l.map Rq.nf) n = leastI F R l n := by
  have e1 : ∀ k, fitAt F (l.map Rq.nf) k = fitAt F l k := fun k => by
    unfold fitAt
    rw [List.getElem?_map]
    cases l[k]? with
    | none => rfl
    | some r => exact hF r
  have e2 : ∀ k, rankAt R (l.map Rq.nf) k = rankAt R l k := fun k => by
    unfold rankAt
    rw [List.getElem?_map]
    cases l[k]? with
    | none => rfl
    | some r => exact hR r
  intro n
  induction n with
  | zero => rfl
  | succ k ih =>
    unfold leastI
    rw [ih, e1, e2, e2]
theorem oldI_nf (b : Bool) (l : List Rq) : oldI b (l.map Rq.nf) = oldI b l := by unfold oldI; rw [List.length_map]; exact leastI_nf _ _ (fun _ => rfl) (fun _ => rfl) l _
theorem frI_nf (b : Bool) (a : Int) (l : List Rq) : frI b a (l.map Rq.nf) = frI b a l := by unfold frI; rw [List.length_map]; exact leastI_nf _ _ (fun _ => rfl) (fun _ => rfl) l _
theorem endAt_nf (l : List Rq) (i : Int) : endAt (l.map Rq.nf) i = endAt l i := by
  unfold endAt
  rw [List.getElem?_map]
  cases l[i.toNat]? <;> rfl
theorem bornAt_nf (l : List Rq) (i : Int) : bornAt (l.map Rq.nf) i = bornAt l i := by
  unfold bornAt
  rw [List.getElem?_map]
  cases l[i.toNat]? <;> rfl
theorem nextF_nf (l : List Rq) (t : Tn) (now : Int) : nextF (l.map Rq.nf) t now = nextF l t now := by
  unfold nextF beginI
  simp only [oldI_nf, frI_nf, endAt_nf, bornAt_nf]
theorem set4c {w : World} {b : Nat} {u0 u1 u2 u3 : Value} (v0 v1 v2 v3 : Value) (k0 : w.cell? ⟨b, 0, none⟩ = some u0) (k1 : w.cell? ⟨b, 1, none⟩ = some u1) (k2 : w.cell? ⟨b, 2, none⟩ = some u2) (k3 : w.cell? ⟨b, 3, none⟩ = some u3) {w' : World} (hw : w' = (((w.setCell ⟨b, 0, none⟩ v0).setCell ⟨b, 1, none⟩ v1).setCell ⟨b, 2, none⟩ v2).setCell ⟨b, 3, none⟩ v3) :
    w'.cell? ⟨b, 0, none⟩ = some v0 ∧ w'.cell? ⟨b, 1, none⟩ = some v1 ∧ w'.cell? ⟨b, 2, none⟩ = some v2 ∧ w'.cell? ⟨b, 3, none⟩ = some v3 := by
  subst hw
  refine ⟨?_, ?_, ?_, ?_⟩
  · exact (sc_other (Or.inr (by omega))).trans ((sc_other (Or.inr (by omega))).trans ((sc_other (Or.inr (by omega))).trans (World.cell?_setCell_same _ _ _ k0)))
  · exact (sc_other (Or.inr (by omega))).trans ((sc_other (Or.inr (by omega))).trans (World.cell?_setCell_same _ _ _ ((sc_other (Or.inr (by omega))).trans k1)))
  · exact (sc_other (Or.inr (by omega))).trans (World.cell?_setCell_same _ _ _ ((sc_other (Or.inr (by omega))).trans ((sc_other (Or.inr (by omega))).trans k2)))
  · exact World.cell?_setCell_same _ _ _ ((sc_other (Or.inr (by omega))).trans ((sc_other (Or.inr (by omega))).trans ((sc_other (Or.inr (by omega))).trans k3)))
section
variable {s : Nat} {p : Sk} {A : Sa} {w w' : World}
theorem StkMem.setQT (h : StkMem s p A w) (L : List Rq) (a' : Option Addr) (c' : Nat) (T : Tn) (hR : ReqsAt w a' L) (hcap : L.length ≤ c') (hnil : a' = none → c' = 0) (ho : L ≠ [] → ∀ q, a' = some q → ¬ A.off s q.block) (hro : ∀ r ∈ L, r.Off (A.off s)) : StkMem s { p with queue := L, turn := T } { A with qa := a', qc := c' } w where
  drv := h.drv
  map := h.map
  im := h.im
  nb := h.nb
  hand := h.hand
  hnil := h.hnil
  hcap := h.hcap
  queue := hR
  qnil := hnil
  qcap := hcap
  left := h.left
  sv := h.sv
  vl := h.vl
  ll := h.ll
  hoffX := h.hoffX
  qoffX := ho
  roffX := fun r hr => (List.mem_append.1 hr).elim (hro r) (fun h' => h.roffX r (List.mem_append_right _ h'))
  xlt := h.xlt
def setT (w : World) (s : Nat) (T : Tn) : World := (((w.setCell ⟨s, 22, none⟩ (.bool T.w)).setCell ⟨s, 23, none⟩ (.int .i64 T.g)).setCell ⟨s, 24, none⟩ (.int .i64 T.s)).setCell ⟨s, 25, none⟩ (.int .i64 T.p)
/-- The queue and the turn are others, in either order. -/
theorem StkAt.setQT (h : StkAt s p A w) (L : List Rq) (a' : Option Addr) (c' : Nat) (T : Tn) (hR : ReqsAt w a' L) (hcap : L.length ≤ c') (hnil : a' = none → c' = 0) (ho : L ≠ [] → ∀ q, a' = some q → ¬ A.off s q.block) (hro : ∀ r ∈ L, r.Off (A.off s)) :
    SStep s p A { p with queue := L, turn := T } { A with qa := a', qc := c' } w (setT (w.setCell ⟨s, 21, none⟩ (.slice a' L.length c')) s T) ∧ SStep s p A { p with queue := L, turn := T } { A with qa := a', qc := c' } w ((setT w s T).setCell ⟨s, 21, none⟩ (.slice a' L.length c')) := by
  have hm := h.mem.setQT L a' c' T hR hcap hnil ho hro
  constructor
  · refine hm.puts ?_ ?_ (fun k hk => hk) ⟨rfl, rfl, rfl, rfl⟩
    · unfold setT
      exact (((((Only.refl (fun k => k = s) w).setCell _ (Or.inl rfl) _).setCell _ (Or.inl rfl) _).setCell _ (Or.inl rfl) _).setCell _ (Or.inl rfl) _).setCell _ (Or.inl rfl) _
    · unfold setT
      rw [set_same (set_same (set_same (set_same (set_same h.blk _ _) _ _) _ _) _ _)]
      rfl
  · refine hm.puts ?_ ?_ (fun k hk => hk) ⟨rfl, rfl, rfl, rfl⟩
    · unfold setT
      exact (((((Only.refl (fun k => k = s) w).setCell _ (Or.inl rfl) _).setCell _ (Or.inl rfl) _).setCell _ (Or.inl rfl) _).setCell _ (Or.inl rfl) _).setCell _ (Or.inl rfl) _
    · unfold setT
      rw [set_same (set_same (set_same (set_same (set_same h.blk _ _) _ _) _ _) _ _)]
      rfl
end
set_option maxRecDepth 100000 in
set_option maxHeartbeats 1000000 in
theorem sdispatch_none (s : Nat) (p : Sk) (A : Sa) (w : World) (h : StkAt s p A w) (he : p.queue = []) :
    Calls Tryz.prog 35 #[.pointer (some ⟨s, 0, none⟩)] w fun e w' => e = .returned (.bool false) ∧ SOk s p A w w' p.nf := by
  have c21 := h.cell 21 _ rfl
  rw [he] at c21
  have hl := h.lt
  have HST := hidT h
  clear h
  go_enter Tryz.func35, Tryz.ntmps35
  go_wp2
  go_ret
  exact ⟨rfl, p, A, SStep.same' HST.out (Below.refl _ _), rfl⟩
set_option maxRecDepth 100000 in
set_option maxHeartbeats 1000000 in
theorem sdispatch_full (s : Nat) (p : Sk) (A : Sa) (w : World) (h : StkAt s p A w) (hq : p.queue ≠ []) (hf : 2 ≤ p.dev.busy.length) :
    Calls Tryz.prog 35 #[.pointer (some ⟨s, 0, none⟩)] w fun e w' => e = .returned (.bool false) ∧ SOk s p A w w' p.nf := by
  have c21 := h.cell 21 _ rfl
  have c1 := h.cell 1 _ rfl
  have hl := h.lt
  have HST := hidT h
  have h0 : ¬ p.queue.length = 0 := fun e => hq (List.eq_nil_of_length_eq_zero e)
  have h1 : ¬ (p.queue.length : Int) = 0 := by omega
  have h2 : ((p.queue.length : Int) == 0) = false := beq_eq_false_iff_ne.2 h1
  have HF : Hid (decide (p.dev.busy.length < 2) = false) := decide_eq_false (by omega)
  clear h hq hf
  generalize p.queue.length = n at *
  go_enter Tryz.func35, Tryz.ntmps35
  go_wp2_with fail
  refine (room_any A.v A.b A.bm p.dev A.an A.n A.D false w HST.out.mem.drv HF.out).mono ?_
  rintro e w1 ⟨rfl, hb1⟩
  go_wp2
  go_ret
  exact ⟨rfl, p, A, SStep.same' HST.out hb1, rfl⟩
end Go.Proofs.YtgjkdhedkbkagaaGreat
