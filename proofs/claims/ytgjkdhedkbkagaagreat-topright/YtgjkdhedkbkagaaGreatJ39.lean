/- A stack of all that is a law's own: what each call makes of it; New. -/
import Derived.Test.YtgjkdhedkbkagaaGreatJ35
import Derived.Test.YtgjkdhedkbkagaaGreatJ36
import Derived.Test.YtgjkdhedkbkagaaGreatJ38
import Derived.Test.YtgjkdhedkbkagaaGreatChecked
import Derived.Test.YtgjkdhedkbkagaaGreatJ1
import Derived.ProofKit
import Derived.OpenShut
import Derived.Lib.SmallJoins
namespace Go.Proofs.YtgjkdhedkbkagaaGreat
open Go.RowKit Go.BigFrame Go.Maps
set_option maxRecDepth 100000
attribute [local go_sem] Later.cell Later.frozen

/-- A stack in memory that was made since W: it is q, but for the places of lists. -/
def Own (W : World) (s b : Nat) (q : Sk) (wr : World) : Prop := ∃ p A, StkAt s p A wr ∧ p.nf = q ∧ A.b = b ∧ (∀ k, A.foot s k → W.heap.size ≤ k) ∧ Below W.heap.size W wr
section
variable {W wr w' : World} {s b : Nat} {q q' : Sk}
theorem Own.bel (h : Own W s b q wr) : Below W.heap.size W wr := by obtain ⟨_, _, _, _, _, _, h⟩ := h; exact h
theorem Own.later (h : Own W s b q wr) (hb : Below wr.heap.size wr w') : Own W s b q w' := by
  obtain ⟨p, A, h1, h2, h3, h4, h5⟩ := h
  exact ⟨p, A, h1.later hb, h2, h3, h4, bthen h5 hb⟩
theorem Own.of {p : Sk} {A : Sa} (h3 : A.b = b) (h4 : ∀ k, A.foot s k → W.heap.size ≤ k) (h5 : Below W.heap.size W wr) (h : SOk s p A wr w' q') : Own W s b q' w' := by
  obtain ⟨p', A', hs, hn⟩ := h
  exact ⟨p', A', hs.at', hn, hs.same.1.trans h3, fun k hk => (hs.foot k hk).elim (h4 k) (fun h' => Nat.le_trans h5.size h'), h5.trans (hs.only.below h5.size h4)⟩
theorem Own.lt (h : Own W s b q wr) : W.heap.size ≤ s ∧ s < wr.heap.size := by
  obtain ⟨p, A, h1, h2, h3, h4, h5⟩ := h
  exact ⟨h4 s (Or.inl rfl), h1.lt⟩
end
section
variable (W w : World) (s b : Nat) (q : Sk) (n : Nat)
theorem own_waits (h : Own W s b q w) (c : Int) (t : Bool) (ht : q.waits c = t) : Calls Tryz.prog 31 #[.pointer (some ⟨s, 0, none⟩), .int .i64 c] w fun e w' => e = .returned (.bool t) ∧ w' = w := by
  obtain ⟨p, A, h1, rfl, _⟩ := h
  exact waits_any s p A c w h1 t ht
theorem own_dead (h : Own W s b q w) : Calls Tryz.prog 28 #[.pointer (some ⟨s, 0, none⟩)] w fun e w' => e = .returned (.bool q.dead) ∧ w' = w := by
  obtain ⟨p, A, h1, rfl, _⟩ := h
  exact dead_any s p A w h1
theorem own_got (h : Own W s b q w) (i : Nat) (hi : i < 3) : Calls Tryz.prog 27 #[.pointer (some ⟨s, 0, none⟩), .int .i64 i] w fun e w' => e = .returned (.tuple #[.string (q.client i).got, errOf (q.client i).err]) ∧ Below w.heap.size w w' := by
  obtain ⟨p, A, h1, rfl, _⟩ := h
  exact got_in s p A i hi w h1
theorem own_dirty (h : Own W s b q w) (k : Nat) (hk : dirtyB q.hand = k) : Calls Tryz.prog 19 #[.pointer (some ⟨s, 0, none⟩)] w fun e w' => e = .returned (.int .i64 k) ∧ Below w.heap.size w w' := by
  obtain ⟨p, A, h1, rfl, _⟩ := h
  exact sdirty_any s p A w h1 k hk
theorem own_queue (h : Own W s b q w) (h6 : q.queue.length ≤ 1000) : Calls Tryz.prog 20 #[.pointer (some ⟨s, 0, none⟩)] w fun e w' => ∃ a' c' l, e = .returned (.slice a' q.queue.length c') ∧ ReqsAt w' a' l ∧ l.map Rq.nf = q.queue ∧ (a' = none → c' = 0) ∧ Below w.heap.size w w' := by
  obtain ⟨p, A, h1, rfl, _⟩ := h
  have e : p.nf.queue.length = p.queue.length := List.length_map _
  rw [e] at h6 ⊢
  refine (squeue_any s p A w h1 h6).mono ?_
  rintro x w' ⟨a', c', rfl, hR, hn, hb⟩
  exact ⟨a', c', p.queue, rfl, hR, rfl, hn, hb⟩
theorem own_busy (h : Own W s b q w) : Calls Tryz.prog 21 #[.pointer (some ⟨s, 0, none⟩)] w fun e w' => ∃ a' c' l, e = .returned (.slice a' q.dev.busy.length c') ∧ ReqsAt w' a' l ∧ l.map Rq.nf = q.dev.busy ∧ (a' = none → c' = 0) ∧ Below w.heap.size w w' := by
  obtain ⟨p, A, h1, rfl, _⟩ := h
  have e : p.nf.dev.busy.length = p.dev.busy.length := List.length_map _
  rw [e]
  refine (sbusy_any s p A w h1).mono ?_
  rintro x w' ⟨a', c', rfl, hR, hn, hb⟩
  exact ⟨a', c', p.dev.busy, rfl, hR, rfl, hn, hb⟩
theorem own_ask (h : Own W s b q w) (hf : Fit n q) (hn : n ≤ 1000000) (c kind pl : Int) (data : ByteArray) (x : Int) (q' : Sk) (hq : q.ask c kind pl data = (x, q')) : Calls Tryz.prog 37 #[.pointer (some ⟨s, 0, none⟩), .int .i64 c, .int .i64 kind, .int .i64 pl, .string data] w fun e w' => e = .returned (errOf x) ∧ Own W s b q' w' := by
  obtain ⟨p, A, h1, rfl, h3, h4, h5⟩ := h
  have hf' := hf.of_nf
  refine (ask_any s p A w h1 hf'.inv (by have := hf'.tags; omega) (by have := hf'.uses; omega) c kind pl data x q' hq).mono ?_
  rintro e w' ⟨he, hok⟩
  exact ⟨he, Own.of h3 h4 h5 hok⟩
theorem own_tick (h : Own W s b q w) (hf : Fit n q) (hn : n ≤ 1000000) (q' : Sk) (hq : q.tick = q') : Calls Tryz.prog 34 #[.pointer (some ⟨s, 0, none⟩)] w fun e w' => e = .returned (.tuple #[]) ∧ Own W s b q' w' := by
  obtain ⟨p, A, h1, rfl, h3, h4, h5⟩ := h
  have hf' := hf.of_nf
  refine (tick_any s p A w h1 hf'.inv (by have := hf'.tags; omega) (by have := hf'.uses; omega) q' hq).mono ?_
  rintro e w' ⟨he, hok⟩
  exact ⟨he, Own.of h3 h4 h5 hok⟩
theorem own_clean (h : Own W s b q w) (hf : Fit n q) (hn : n ≤ 1000000) (t : Bool) (q' : Sk) (hq : q.clean = (t, q')) : Calls Tryz.prog 33 #[.pointer (some ⟨s, 0, none⟩)] w fun e w' => e = .returned (.bool t) ∧ Own W s b q' w' := by
  obtain ⟨p, A, h1, rfl, h3, h4, h5⟩ := h
  have hf' := hf.of_nf
  refine (sclean_any s p A w h1 hf'.inv (by have := hf'.tags; omega) t q' hq).mono ?_
  rintro e w' ⟨he, hok⟩
  exact ⟨he, Own.of h3 h4 h5 hok⟩
theorem own_dispatch (h : Own W s b q w) (hf : Fit n q) (t : Bool) (q' : Sk) (hq : q.dispatch = (t, q')) : Calls Tryz.prog 35 #[.pointer (some ⟨s, 0, none⟩)] w fun e w' => e = .returned (.bool t) ∧ Own W s b q' w' := by
  obtain ⟨p, A, h1, rfl, h3, h4, h5⟩ := h
  have hf' := hf.of_nf
  refine (sdispatch_any s p A w h1 hf'.inv t q' hq).mono ?_
  rintro e w' ⟨he, hok⟩
  exact ⟨he, Own.of h3 h4 h5 hok⟩
theorem own_end (h : Own W s b q w) (hf : Fit n q) (hn : n ≤ 1000000) (i : Int) (fl : Bool) (x : Int) (q' : Sk) (hq : q.end' i fl = (x, q')) : Calls Tryz.prog 41 #[.pointer (some ⟨s, 0, none⟩), .int .i64 i, .bool fl] w fun e w' => e = .returned (errOf x) ∧ Own W s b q' w' := by
  obtain ⟨p, A, h1, rfl, h3, h4, h5⟩ := h
  have hf' := hf.of_nf
  refine (send_any s p A w h1 hf'.inv hf'.short (by have := hf'.tags; omega) (by have := hf'.uses; omega) (by have := hf'.ag; omega) i fl x q' hq).mono ?_
  rintro e w' ⟨he, hok⟩
  exact ⟨he, Own.of h3 h4 h5 hok⟩
end
def sa0 (b v bm : Nat) : Sa := ⟨b, v, bm, an0, 0, .map [], fun _ => none, fun _ => 0, none, 0, none, 0, 0⟩
theorem sk0_nf : sk0.nf = sk0 := rfl
set_option linter.unusedSimpArgs false in
set_option maxHeartbeats 1000000 in
/-- A new one over a new device. -/
theorem snew_any (W : World) (b : Nat) (w : World) (h : DevAt b d0 an0 w) (hb : W.heap.size ≤ b) (hB : Below W.heap.size W w) :
    Calls Tryz.prog 16 #[.pointer (some ⟨b, 0, none⟩)] w fun e w' => ∃ s, e = .returned (.pointer (some ⟨s, 0, none⟩)) ∧ Own W s b sk0 w' := by
  have HD := hidT h
  have HB := hidT (And.intro hb hB)
  clear h hb hB
  have hzv : ∀ w', Sem.run Tryz.prog (zeroValue 79) w' = .ok (.agg (([Value.pointer none, Value.pointer none] : List Value) ++ (clCells cl0 none 0 ++ (clCells cl0 none 0 ++ (clCells cl0 none 0 ++ sk0.tail (sa0 0 0 0))))).toArray) w' := fun _ => rfl
  go_enter Tryz.func16, Tryz.ntmps16
  go_wp2_with fail
  refine (vnew_any b d0 an0 w HD.out).mono ?_
  rintro e w1 ⟨rfl, hv, hb1⟩
  have HV := hidT hv
  have HB1 := hidT hb1
  clear hv hb1
  go_wp2
  go_ret
  have hb2 := below1 w1 (.cells ((Value.pointer (some ⟨b, 0, none⟩) :: Value.pointer (some ⟨w.heap.size + 1, 0, none⟩) :: (clCells cl0 none 0 ++ (clCells cl0 none 0 ++ (clCells cl0 none 0 ++ sk0.tail (sa0 0 0 0))))).toArray) 79)
  have hvl := lt_of_heap HV.out.blk
  refine ⟨w1.heap.size, rfl, sk0, sa0 b (w.heap.size + 1) w.heap.size, ⟨heap_alloc_new _ _, ?_⟩, rfl, rfl, ?_, bthen (bthen HB.out.2 HB1.out) hb2⟩
  · exact {
      drv := HV.out.later hb2
      map := mapIs_new
      im := HV.out.map.isMap
      nb := Nat.le_refl 0
      hand := ⟨Or.inl rfl, by show 0 ≤ _; omega⟩
      hnil := fun _ => rfl
      hcap := Nat.le_refl 0
      queue := ⟨Or.inl rfl, (fun r hr => by cases hr), by show 0 ≤ _; omega⟩
      qnil := fun _ => rfl
      qcap := Nat.le_refl 0
      left := fun i hi => by
        have e : (sk0.client i).left = [] := by
          match i, hi with
          | 0, _ => rfl
          | 1, _ => rfl
          | 2, _ => rfl
        rw [e]; exact World.ownsRow_nil _ _ _ _
      sv := ⟨fun e => by have := HV.out.footLt _ e; omega, fun (e : w1.heap.size = w.heap.size + 1) => by omega⟩
      vl := fun i _ q' hq' => by cases hq'
      ll := fun i j _ _ _ q' _ hq' => by cases hq'
      hoffX := fun hne => absurd rfl hne
      qoffX := fun hne => absurd rfl hne
      roffX := fun r hr => (by cases hr)
      xlt := Nat.zero_le _ }
  · rintro k (rfl | (rfl | e) | ⟨i, _, q', hq', _⟩)
    · exact Nat.le_trans HB.out.2.size HB1.out.size
    · exact HB.out.2.size
    · rcases e with rfl | ⟨_, h', _⟩ | ⟨_, h', _⟩
      · exact HB.out.1
      · cases h'
      · cases h'
    · cases hq'
end Go.Proofs.YtgjkdhedkbkagaaGreat
/- All goes on: Quiet, Round, Settle. -/
namespace Go.Proofs.YtgjkdhedkbkagaaGreat
open Go.RowKit Go.BigFrame Go.Maps
set_option maxRecDepth 100000
attribute [local go_sem] Later.cell Later.frozen

theorem quiet_all {q : Sk} (h : ∀ i : Nat, i < 3 → q.waits (i : Int) = false) : q.quiet = (q.queue.isEmpty && q.dev.busy.isEmpty) := by
  have h0 : q.waits 0 = false := h 0 (by omega)
  have h1 : q.waits 1 = false := h 1 (by omega)
  have h2 : q.waits 2 = false := h 2 (by omega)
  unfold Sk.quiet
  rw [h0, h1, h2]; rfl
theorem quiet_not {q : Sk} {i : Nat} (hi : i < 3) (h : q.waits (i : Int) = true) : q.quiet = false := by
  cases e : q.quiet
  · rfl
  · have := ((quiet_iff q).1 e).1 i hi
    exact absurd this ((waits_iff q i hi).1 h)
theorem isEmpty_len {α : Type} (l : List α) : l.isEmpty = ((l.length : Int) == 0) := by
  cases l with
  | nil => rfl
  | cons x l => symm; rw [beq_eq_false_iff_ne.2]; rfl; rw [List.length_cons]; omega
set_option maxHeartbeats 2000000 in
theorem own_quiet (W w : World) (s b : Nat) (q : Sk) (h : Own W s b q w) (h6 : q.queue.length ≤ 1000) (t : Bool) (ht : q.quiet = t) :
    Calls Tryz.prog 32 #[.pointer (some ⟨s, 0, none⟩)] w fun e w' => e = .returned (.bool t) ∧ Below w.heap.size w w' := by
  have HO := hidT h
  have H6 := hidT h6
  have HT := hidT ht
  clear h h6 ht
  go_enter Tryz.func32, Tryz.ntmps32
  go_wp2
  go_loopw [4] (fun i wr => ∃ k : Nat, k ≤ 3 ∧ i = .int .i64 k ∧ (∀ j : Nat, j < k → q.waits (j : Int) = false) ∧ Below w.heap.size w wr) (fun i _ => 3 - (intOf i).toNat)
  case atStart => exact ⟨0, by omega, rfl, fun j hj => absurd hj (Nat.not_lt_zero _), Below.refl _ _⟩
  case round =>
    obtain ⟨k, hk, rfl, hno, hbr⟩ := hrel
    have HBR := hidT hbr
    have HOR := hidT (HO.out.later hbr)
    clear hbr
    have HN := hidT hno
    clear hno
    by_cases hlt : k < 3
    · have hlt' : (k : Int) < 3 := by omega
      cases hwt : q.waits (k : Int)
      · have HW := hidT hwt
        clear hwt
        go_wp2_with fail
        refine (own_waits W wr s b q HOR.out k false HW.out).mono ?_
        rintro e w1 ⟨rfl, rfl⟩
        go_wp2
        go_roundw
        case rel => exact ⟨k + 1, by omega, by go_num, fun j hj => by by_cases e : j = k; (subst e; exact HW.out); exact HN.out j (by omega), HBR.out⟩
        case measure => simp [intOf]; omega
      · have HW := hidT hwt
        have HF : Hid (false = t) := (quiet_not hlt hwt).symm.trans HT.out
        clear hwt
        go_wp2_with fail
        refine (own_waits W wr s b q HOR.out k true HW.out).mono ?_
        rintro e w1 ⟨rfl, rfl⟩
        go_wp2
        go_ret
        exact ⟨ret_bool HF.out, HBR.out⟩
    · obtain rfl : k = 3 := by omega
      have HE : Hid ((q.queue.isEmpty && q.dev.busy.isEmpty) = t) := (quiet_all (fun i hi => HN.out i hi)).symm.trans HT.out
      cases hq : q.queue.isEmpty
      · have HF : Hid (false = t) := by have := HE.out; rw [hq] at this; exact this
        have hq2 : ((q.queue.length : Int) == 0) = false := (isEmpty_len _).symm.trans hq
        have hq3 : ¬ (q.queue.length : Int) = 0 := beq_eq_false_iff_ne.1 hq2
        have hq4 : ¬ q.queue.length = 0 := by omega
        clear hq
        go_wp2_with fail
        refine (own_queue W wr s b q HOR.out H6.out).mono ?_
        rintro e w1 ⟨a', c', l, rfl, -, -, -, hb1⟩
        generalize q.queue.length = n at *
        go_wp2
        go_ret
        exact ⟨ret_bool HF.out, bthen HBR.out hb1⟩
      · have HF : Hid (q.dev.busy.isEmpty = t) := by have := HE.out; rw [hq] at this; exact this
        have hq2 : q.queue = [] := List.isEmpty_iff.1 hq
        have HQL : Hid (q.queue.length = 0) := by show q.queue.length = 0; rw [hq2]; rfl
        clear hq hq2
        go_wp2_with fail
        refine (own_queue W wr s b q HOR.out H6.out).mono ?_
        rw [HQL.out]
        rintro e w1 ⟨a', c', l, rfl, -, -, -, hb1⟩
        go_wp2_with fail
        refine (own_busy W w1 s b q (HOR.out.later hb1)).mono ?_
        rintro e w2 ⟨a2, c2, l2, rfl, -, -, -, hb2⟩
        have HF2 : Hid (((q.dev.busy.length : Int) == 0) = t) := (isEmpty_len _).symm.trans HF.out
        generalize q.dev.busy.length = n at *
        go_wp2
        go_ret
        exact ⟨ret_bool HF2.out, bthen HBR.out (bthen hb1 hb2)⟩
end Go.Proofs.YtgjkdhedkbkagaaGreat
/- All goes on: Round, Settle. -/
namespace Go.Proofs.YtgjkdhedkbkagaaGreat
open Go.RowKit Go.BigFrame Go.Maps
set_option maxRecDepth 100000
attribute [local go_sem] Later.cell Later.frozen

def sliceLen : Option Value → Nat
  | some (.slice _ n _) => n
  | _ => 0
def busyOf (w : World) (b : Nat) : Nat := sliceLen (w.cell? ⟨b, 66, none⟩)
theorem own_busyOf {W w : World} {s b : Nat} {q : Sk} (h : Own W s b q w) : busyOf w b = q.dev.busy.length := by
  obtain ⟨p, A, h1, rfl, rfl, _⟩ := h
  unfold busyOf
  rw [h1.mem.drv.dev.c66]
  exact (List.length_map _).symm
theorem dispatch_more {q : Sk} (hI : Inv q) (h : q.dispatch.1 = true) : q.dispatch.2.dev.busy.length = q.dev.busy.length + 1 := by
  rcases dispatch_cases hI with ⟨_, e⟩ | ⟨i, hi, T, _, _, _, _, e⟩
  · rw [e] at h; cases h
  · rw [e]; simp
set_option linter.unusedSimpArgs false in
set_option maxHeartbeats 2000000 in
theorem own_round (W w : World) (s b : Nat) (q : Sk) (n : Nat) (h : Own W s b q w) (hf : Fit n q) (hn : n ≤ 900000) (q' : Sk) (hq : q.round = q') :
    Calls Tryz.prog 39 #[.pointer (some ⟨s, 0, none⟩)] w fun e w' => e = .returned (.tuple #[]) ∧ Own W s b q' w' := by
  have HO := hidT h
  have HF := hidT hf
  have HQ := hidT hq
  clear h hf hq
  go_enter Tryz.func39, Tryz.ntmps39
  go_wp2_with fail
  refine (own_tick W w s b q n HO.out HF.out (by omega) _ rfl).mono ?_
  rintro e w1 ⟨rfl, h1⟩
  have HO1 := hidT h1
  clear h1
  go_wp2_with fail
  refine (own_clean W w1 s b q.tick (n + 3) HO1.out HF.out.tick (by omega) q.tick.clean.1 q.tick.clean.2 rfl).mono ?_
  rintro e w2 ⟨rfl, h2⟩
  have HO2 := hidT h2
  have HF2 := hidT HF.out.tick.clean
  have HQ2 : Hid (((q.tick.clean.2.dispatches 3).end' 0 false).2 = q') := HQ.out
  clear h2 HQ HO1
  generalize q.tick.clean.1 = t at *
  generalize q.tick.clean.2 = q2 at *
  go_wp2
  go_loopw [] (fun wr => ∃ (j : Nat) (r : Sk), Own W s b r wr ∧ Fit (n + 3 + 1) r ∧ r.dispatches j = q2.dispatches 3 ∧ 3 ≤ r.dev.busy.length + j) (fun wr => 3 - busyOf wr b)
  case atStart => exact ⟨3, q2, HO2.out, HF2.out, rfl, by omega⟩
  case round =>
    obtain ⟨j, r, ho, hfr, hd, hj⟩ := hrel
    have HOR := hidT ho
    have HFR := hidT hfr
    have HD := hidT hd
    have hb2 := hfr.inv.b2
    obtain ⟨i, rfl⟩ : ∃ i, j = i + 1 := ⟨j - 1, by omega⟩
    have HJ := hidT hj
    have HB2 := hidT hb2
    clear ho hfr hd hj hb2
    cases ht : r.dispatch.1
    · have HE : Hid (r = q2.dispatches 3) := by
        have := HD.out
        unfold Sk.dispatches at this
        rw [ht, if_neg Bool.false_ne_true] at this
        exact this
      have HS : Hid (r.dispatch = (false, r)) := by
        rcases dispatch_cases HFR.out.inv with ⟨_, e⟩ | ⟨_, _, _, _, _, _, _, e⟩
        · exact e
        · rw [e] at ht; cases ht
      clear ht
      go_wp2_with fail
      refine (own_dispatch W wr s b r _ HOR.out HFR.out false r HS.out).mono ?_
      rintro e w3 ⟨rfl, h3⟩
      have HO3 := hidT h3
      clear h3
      go_wp2_with fail
      refine (own_end W w3 s b r _ HO3.out HFR.out (by omega) 0 false (r.end' 0 false).1 q' (by rw [Prod.ext_iff]; exact ⟨rfl, by show (r.end' 0 false).2 = q'; rw [HE.out]; exact HQ2.out⟩)).mono ?_
      generalize (r.end' 0 false).1 = x
      rintro e w4 ⟨rfl, h4⟩
      generalize errOf x = ev
      go_wp2
      go_end0
      exact ⟨rfl, h4⟩
    · have HE : Hid (r.dispatch.2.dispatches i = q2.dispatches 3) := by
        have := HD.out
        unfold Sk.dispatches at this
        rw [ht, if_pos rfl] at this
        exact this
      have HM := hidT (dispatch_more HFR.out.inv ht)
      have HT := hidT ht
      clear ht
      go_wp2_with fail
      refine (own_dispatch W wr s b r _ HOR.out HFR.out true r.dispatch.2 (by rw [Prod.ext_iff]; exact ⟨HT.out, rfl⟩)).mono ?_
      rintro e w3 ⟨rfl, h3⟩
      have HO3 := hidT h3
      clear h3
      go_wp2
      go_roundw
      case rel => exact ⟨i, r.dispatch.2, HO3.out, HFR.out.dispatch, HE.out, by have := HM.out; have := HJ.out; omega⟩
      case measure => rw [own_busyOf HOR.out, own_busyOf HO3.out]; have := HM.out; have := HB2.out; omega
set_option linter.unusedSimpArgs false in
set_option maxHeartbeats 2000000 in
theorem own_settle (W w : World) (s b : Nat) (q : Sk) (n m : Nat) (h : Own W s b q w) (hf : Fit n q) (hn : n + 11 * m ≤ 900000) (x : Nat) (q' : Sk) (hq : q.settle m = (x, q')) (t : Bool) (ht : q'.quiet = t) :
    Calls Tryz.prog 30 #[.pointer (some ⟨s, 0, none⟩), .int .i64 m] w fun e w' => e = .returned (.tuple #[.int .i64 x, .bool t]) ∧ Own W s b q' w' := by
  have HO := hidT h
  have HF := hidT hf
  have HQ := hidT hq
  have HT := hidT ht
  clear h hf hq ht
  go_enter Tryz.func30, Tryz.ntmps30
  go_wp2
  go_loopw [6] (fun i wr => ∃ (k : Nat) (r : Sk), k ≤ m ∧ i = .int .i64 k ∧ Own W s b r wr ∧ Fit (n + 11 * k) r ∧ q.settle m = ((r.settle (m - k)).1 + k, (r.settle (m - k)).2)) (fun i _ => m - (intOf i).toNat)
  case atStart => exact ⟨0, q, by omega, rfl, HO.out, HF.out, rfl⟩
  case round =>
    obtain ⟨k, r, hk, rfl, ho, hfr, hd⟩ := hrel
    have HOR := hidT ho
    have HFR := hidT hfr
    have HD := hidT (hd.symm.trans HQ.out)
    have H6 : Hid (r.queue.length ≤ 1000) := by have := hfr.inv.q6; show r.queue.length ≤ 1000; omega
    clear ho hfr hd
    by_cases hlt : k < m
    · have hlt' : (k : Int) < (m : Int) := by omega
      obtain ⟨i, hi⟩ : ∃ i, m - k = i + 1 := ⟨m - k - 1, by omega⟩
      have HI := hidT hi
      rw [hi] at HD
      cases hqt : r.quiet
      · have HD2 : Hid (((r.round.settle i).1 + (k + 1), (r.round.settle i).2) = (x, q')) := by
          have := HD.out
          unfold Sk.settle at this
          rw [if_neg (by rw [hqt]; exact Bool.false_ne_true)] at this
          show _ = _
          rw [← this]
          simp only [Prod.mk.injEq, and_true]
          omega
        have HQT := hidT hqt
        clear hqt hi
        go_wp2_with fail
        refine (own_quiet W wr s b r HOR.out H6.out false HQT.out).mono ?_
        rintro e w1 ⟨rfl, hb1⟩
        have HO1 := hidT (HOR.out.later hb1)
        clear hb1
        go_wp2_with fail
        refine (own_round W w1 s b r _ HO1.out HFR.out (by omega) _ rfl).mono ?_
        rintro e w2 ⟨rfl, h2⟩
        have HO2 := hidT h2
        clear h2
        go_wp2
        go_roundw
        case rel => exact ⟨k + 1, r.round, by omega, by go_num, HO2.out, HFR.out.round.mono (by omega), by
          have e : m - (k + 1) = i := by have := HI.out; omega
          rw [e]; exact HQ.out.trans HD2.out.symm⟩
        case measure => simp [intOf]; omega
      · have HD2 : Hid (k = x ∧ r = q') := by
          show k = x ∧ r = q'
          have := HD.out
          unfold Sk.settle at this
          rw [if_pos hqt] at this
          simpa using this
        have HQT := hidT hqt
        have HQ' : Hid (true = t) := by have := HT.out; rw [← HD2.out.2, hqt] at this; exact this
        clear hqt hi
        go_wp2_with fail
        refine (own_quiet W wr s b r HOR.out H6.out true HQT.out).mono ?_
        rintro e w1 ⟨rfl, hb1⟩
        have HO1 := hidT (HOR.out.later hb1)
        clear hb1
        go_wp2_with fail
        refine (own_quiet W w1 s b r HO1.out H6.out true HQT.out).mono ?_
        rintro e w2 ⟨rfl, hb2⟩
        have HO2 := hidT (HO1.out.later hb2)
        clear hb2
        go_wp2
        refine bodyPost_ret (v := .tuple #[.int .i64 k, .bool true]) (by simp [results, Tryz.results30, go_sem]) rfl ?_
        exact ⟨by rw [← HD2.out.1, HQ'.out], by rw [← HD2.out.2]; exact HO2.out⟩
    · obtain rfl : k = m := by omega
      have HD2 : Hid (k = x ∧ r = q') := by
        show k = x ∧ r = q'
        have := HD.out
        rw [Nat.sub_self] at this
        unfold Sk.settle at this
        simpa using this
      have HQT : Hid (r.quiet = t) := by have := HT.out; rw [← HD2.out.2] at this; exact this
      go_wp2_with fail
      refine (own_quiet W wr s b r HOR.out H6.out t HQT.out).mono ?_
      rintro e w1 ⟨rfl, hb1⟩
      have HO1 := hidT (HOR.out.later hb1)
      clear hb1
      go_wp2
      refine bodyPost_ret (v := .tuple #[.int .i64 k, .bool t]) (by simp [results, Tryz.results30, go_sem]) rfl ?_
      exact ⟨by rw [← HD2.out.1], by rw [← HD2.out.2]; exact HO1.out⟩
end Go.Proofs.YtgjkdhedkbkagaaGreat
/- A step of a stack; steps. -/
namespace Go.Proofs.YtgjkdhedkbkagaaGreat
open Go.RowKit Go.BigFrame Go.Maps
set_option maxRecDepth 100000
attribute [local go_sem] Later.cell Later.frozen

set_option linter.unusedSimpArgs false in
set_option maxRecDepth 100000 in
set_option maxHeartbeats 4000000 in
theorem own_step (W w : World) (s b : Nat) (q : Sk) (n : Nat) (h : Own W s b q w) (hf : Fit n q) (hn : n ≤ 800000) (x : Sp) (e : Int) (q' : Sk) (hq : q.doStep x = (e, q')) :
    Calls Tryz.prog 18 #[.pointer (some ⟨s, 0, none⟩), x.val] w fun r w' => r = .returned (errOf e) ∧ Own W s b q' w' := by
  have HO := hidT h
  have HF := hidT hf
  clear h hf
  obtain ⟨wd, xa, xb, dt⟩ := x
  by_cases h1 : wd = wRead
  · subst h1
    have HQ : Hid (((q.ask xa 1 xb ByteArray.empty) : Int × Sk) = (e, q')) := by
      show ((q.ask xa 1 xb ByteArray.empty) : Int × Sk) = (e, q')
      have := hq
      unfold Sk.doStep at this
      rw [if_pos rfl] at this
      exact this
    clear hq
    unfold wRead
    go_enter Tryz.func18, Tryz.ntmps18
    go_wp2_with fail
    refine (own_ask W _ s b q n (HO.out.later (by repeat (first | with_reducible exact Below.refl _ _ | with_reducible refine balloc ?_ _ | with_reducible refine bdrew ?_ | with_reducible refine bset' ?_ (by omega) _ | with_reducible refine bthen ?_ (by assumption)))) HF.out (by omega) xa 1 xb ByteArray.empty e q' HQ.out).mono ?_
    rintro r w1 ⟨rfl, h1⟩
    generalize hev : errOf e = ev
    go_wp2
    go_ret
    exact ⟨by rw [hev]; rfl, h1⟩
  by_cases h2 : wd = wWrite
  · subst h2
    have HQ : Hid (((q.ask xa 2 xb dt) : Int × Sk) = (e, q')) := by
      show ((q.ask xa 2 xb dt) : Int × Sk) = (e, q')
      have := hq
      unfold Sk.doStep at this
      rw [if_neg (show ¬ wWrite = wRead by decide)] at this
      rw [if_pos rfl] at this
      exact this
    clear h1
    clear hq
    unfold wWrite
    go_enter Tryz.func18, Tryz.ntmps18
    go_wp2_with fail
    refine (own_ask W _ s b q n (HO.out.later (by repeat (first | with_reducible exact Below.refl _ _ | with_reducible refine balloc ?_ _ | with_reducible refine bdrew ?_ | with_reducible refine bset' ?_ (by omega) _ | with_reducible refine bthen ?_ (by assumption)))) HF.out (by omega) xa 2 xb dt e q' HQ.out).mono ?_
    rintro r w1 ⟨rfl, h1⟩
    generalize hev : errOf e = ev
    go_wp2
    go_ret
    exact ⟨by rw [hev]; rfl, h1⟩
  by_cases h3 : wd = wSync
  · subst h3
    have HQ : Hid (((q.ask xa 3 0 ByteArray.empty) : Int × Sk) = (e, q')) := by
      show ((q.ask xa 3 0 ByteArray.empty) : Int × Sk) = (e, q')
      have := hq
      unfold Sk.doStep at this
      rw [if_neg (show ¬ wSync = wRead by decide)] at this
      rw [if_neg (show ¬ wSync = wWrite by decide)] at this
      rw [if_pos rfl] at this
      exact this
    clear h1 h2
    clear hq
    unfold wSync
    go_enter Tryz.func18, Tryz.ntmps18
    go_wp2_with fail
    refine (own_ask W _ s b q n (HO.out.later (by repeat (first | with_reducible exact Below.refl _ _ | with_reducible refine balloc ?_ _ | with_reducible refine bdrew ?_ | with_reducible refine bset' ?_ (by omega) _ | with_reducible refine bthen ?_ (by assumption)))) HF.out (by omega) xa 3 0 ByteArray.empty e q' HQ.out).mono ?_
    rintro r w1 ⟨rfl, h1⟩
    generalize hev : errOf e = ev
    go_wp2
    go_ret
    exact ⟨by rw [hev]; rfl, h1⟩
  by_cases h4 : wd = wTick
  · subst h4
    have HQ : Hid ((((0, q.tick)) : Int × Sk) = (e, q')) := by
      show (((0, q.tick)) : Int × Sk) = (e, q')
      have := hq
      unfold Sk.doStep at this
      rw [if_neg (show ¬ wTick = wRead by decide)] at this
      rw [if_neg (show ¬ wTick = wWrite by decide)] at this
      rw [if_neg (show ¬ wTick = wSync by decide)] at this
      rw [if_pos rfl] at this
      exact this
    clear h1 h2 h3
    clear hq
    unfold wTick
    obtain ⟨rfl, rfl⟩ := Prod.mk.inj HQ.out
    clear HQ
    go_enter Tryz.func18, Tryz.ntmps18
    go_wp2_with fail
    refine (own_tick W _ s b q n (HO.out.later (by repeat (first | with_reducible exact Below.refl _ _ | with_reducible refine balloc ?_ _ | with_reducible refine bdrew ?_ | with_reducible refine bset' ?_ (by omega) _ | with_reducible refine bthen ?_ (by assumption)))) HF.out (by omega) _ rfl).mono ?_
    rintro r w1 ⟨rfl, h1⟩
    go_wp2
    go_ret
    exact ⟨rfl, h1⟩
  by_cases h5 : wd = wClean
  · subst h5
    have HQ : Hid ((((0, q.clean.2)) : Int × Sk) = (e, q')) := by
      show (((0, q.clean.2)) : Int × Sk) = (e, q')
      have := hq
      unfold Sk.doStep at this
      rw [if_neg (show ¬ wClean = wRead by decide)] at this
      rw [if_neg (show ¬ wClean = wWrite by decide)] at this
      rw [if_neg (show ¬ wClean = wSync by decide)] at this
      rw [if_neg (show ¬ wClean = wTick by decide)] at this
      rw [if_pos rfl] at this
      exact this
    clear h1 h2 h3 h4
    clear hq
    unfold wClean
    obtain ⟨rfl, rfl⟩ := Prod.mk.inj HQ.out
    clear HQ
    go_enter Tryz.func18, Tryz.ntmps18
    go_wp2_with fail
    refine (own_clean W _ s b q n (HO.out.later (by repeat (first | with_reducible exact Below.refl _ _ | with_reducible refine balloc ?_ _ | with_reducible refine bdrew ?_ | with_reducible refine bset' ?_ (by omega) _ | with_reducible refine bthen ?_ (by assumption)))) HF.out (by omega) q.clean.1 q.clean.2 rfl).mono ?_
    generalize q.clean.1 = t
    rintro r w1 ⟨rfl, h1⟩
    go_wp2
    go_ret
    exact ⟨rfl, h1⟩
  by_cases h6 : wd = wDispatch
  · subst h6
    have HQ : Hid ((((0, q.dispatch.2)) : Int × Sk) = (e, q')) := by
      show (((0, q.dispatch.2)) : Int × Sk) = (e, q')
      have := hq
      unfold Sk.doStep at this
      rw [if_neg (show ¬ wDispatch = wRead by decide)] at this
      rw [if_neg (show ¬ wDispatch = wWrite by decide)] at this
      rw [if_neg (show ¬ wDispatch = wSync by decide)] at this
      rw [if_neg (show ¬ wDispatch = wTick by decide)] at this
      rw [if_neg (show ¬ wDispatch = wClean by decide)] at this
      rw [if_pos rfl] at this
      exact this
    clear h1 h2 h3 h4 h5
    clear hq
    unfold wDispatch
    obtain ⟨rfl, rfl⟩ := Prod.mk.inj HQ.out
    clear HQ
    go_enter Tryz.func18, Tryz.ntmps18
    go_wp2_with fail
    refine (own_dispatch W _ s b q n (HO.out.later (by repeat (first | with_reducible exact Below.refl _ _ | with_reducible refine balloc ?_ _ | with_reducible refine bdrew ?_ | with_reducible refine bset' ?_ (by omega) _ | with_reducible refine bthen ?_ (by assumption)))) HF.out q.dispatch.1 q.dispatch.2 rfl).mono ?_
    generalize q.dispatch.1 = t
    rintro r w1 ⟨rfl, h1⟩
    go_wp2
    go_ret
    exact ⟨rfl, h1⟩
  by_cases h7 : wd = wEnd
  · subst h7
    have HQ : Hid (((q.end' xa false) : Int × Sk) = (e, q')) := by
      show ((q.end' xa false) : Int × Sk) = (e, q')
      have := hq
      unfold Sk.doStep at this
      rw [if_neg (show ¬ wEnd = wRead by decide)] at this
      rw [if_neg (show ¬ wEnd = wWrite by decide)] at this
      rw [if_neg (show ¬ wEnd = wSync by decide)] at this
      rw [if_neg (show ¬ wEnd = wTick by decide)] at this
      rw [if_neg (show ¬ wEnd = wClean by decide)] at this
      rw [if_neg (show ¬ wEnd = wDispatch by decide)] at this
      rw [if_pos rfl] at this
      exact this
    clear h1 h2 h3 h4 h5 h6
    clear hq
    unfold wEnd
    go_enter Tryz.func18, Tryz.ntmps18
    go_wp2_with fail
    refine (own_end W _ s b q n (HO.out.later (by repeat (first | with_reducible exact Below.refl _ _ | with_reducible refine balloc ?_ _ | with_reducible refine bdrew ?_ | with_reducible refine bset' ?_ (by omega) _ | with_reducible refine bthen ?_ (by assumption)))) HF.out (by omega) xa false e q' HQ.out).mono ?_
    rintro r w1 ⟨rfl, h1⟩
    generalize hev : errOf e = ev
    go_wp2
    go_ret
    exact ⟨by rw [hev]; rfl, h1⟩
  by_cases h8 : wd = wFault
  · subst h8
    have HQ : Hid (((q.end' xa true) : Int × Sk) = (e, q')) := by
      show ((q.end' xa true) : Int × Sk) = (e, q')
      have := hq
      unfold Sk.doStep at this
      rw [if_neg (show ¬ wFault = wRead by decide)] at this
      rw [if_neg (show ¬ wFault = wWrite by decide)] at this
      rw [if_neg (show ¬ wFault = wSync by decide)] at this
      rw [if_neg (show ¬ wFault = wTick by decide)] at this
      rw [if_neg (show ¬ wFault = wClean by decide)] at this
      rw [if_neg (show ¬ wFault = wDispatch by decide)] at this
      rw [if_neg (show ¬ wFault = wEnd by decide)] at this
      rw [if_pos rfl] at this
      exact this
    clear h1 h2 h3 h4 h5 h6 h7
    clear hq
    unfold wFault
    go_enter Tryz.func18, Tryz.ntmps18
    go_wp2_with fail
    refine (own_end W _ s b q n (HO.out.later (by repeat (first | with_reducible exact Below.refl _ _ | with_reducible refine balloc ?_ _ | with_reducible refine bdrew ?_ | with_reducible refine bset' ?_ (by omega) _ | with_reducible refine bthen ?_ (by assumption)))) HF.out (by omega) xa true e q' HQ.out).mono ?_
    rintro r w1 ⟨rfl, h1⟩
    generalize hev : errOf e = ev
    go_wp2
    go_ret
    exact ⟨by rw [hev]; rfl, h1⟩
  by_cases h9 : wd = wRound
  · subst h9
    have HQ : Hid ((((0, q.round)) : Int × Sk) = (e, q')) := by
      show (((0, q.round)) : Int × Sk) = (e, q')
      have := hq
      unfold Sk.doStep at this
      rw [if_neg (show ¬ wRound = wRead by decide)] at this
      rw [if_neg (show ¬ wRound = wWrite by decide)] at this
      rw [if_neg (show ¬ wRound = wSync by decide)] at this
      rw [if_neg (show ¬ wRound = wTick by decide)] at this
      rw [if_neg (show ¬ wRound = wClean by decide)] at this
      rw [if_neg (show ¬ wRound = wDispatch by decide)] at this
      rw [if_neg (show ¬ wRound = wEnd by decide)] at this
      rw [if_neg (show ¬ wRound = wFault by decide)] at this
      rw [if_pos rfl] at this
      exact this
    clear h1 h2 h3 h4 h5 h6 h7 h8
    clear hq
    unfold wRound
    obtain ⟨rfl, rfl⟩ := Prod.mk.inj HQ.out
    clear HQ
    go_enter Tryz.func18, Tryz.ntmps18
    go_wp2_with fail
    refine (own_round W _ s b q n (HO.out.later (by repeat (first | with_reducible exact Below.refl _ _ | with_reducible refine balloc ?_ _ | with_reducible refine bdrew ?_ | with_reducible refine bset' ?_ (by omega) _ | with_reducible refine bthen ?_ (by assumption)))) HF.out (by omega) _ rfl).mono ?_
    rintro r w1 ⟨rfl, h1⟩
    go_wp2
    go_ret
    exact ⟨rfl, h1⟩
  obtain ⟨rfl, rfl⟩ : (0 : Int) = e ∧ q = q' := by
    have := hq
    unfold Sk.doStep at this
    rw [if_neg h1, if_neg h2, if_neg h3, if_neg h4, if_neg h5, if_neg h6, if_neg h7, if_neg h8, if_neg h9] at this
    exact Prod.mk.inj this
  have g1 : (wd.toList == [114, 101, 97, 100]) = false := strK_ne _ h1
  have g2 : (wd.toList == [119, 114, 105, 116, 101]) = false := strK_ne _ h2
  have g3 : (wd.toList == [115, 121, 110, 99]) = false := strK_ne _ h3
  have g4 : (wd.toList == [116, 105, 99, 107]) = false := strK_ne _ h4
  have g5 : (wd.toList == [99, 108, 101, 97, 110]) = false := strK_ne _ h5
  have g6 : (wd.toList == [100, 105, 115, 112, 97, 116, 99, 104]) = false := strK_ne _ h6
  have g7 : (wd.toList == [101, 110, 100]) = false := strK_ne _ h7
  have g8 : (wd.toList == [102, 97, 117, 108, 116]) = false := strK_ne _ h8
  have g9 : (wd.toList == [114, 111, 117, 110, 100]) = false := strK_ne _ h9
  clear h1 h2 h3 h4 h5 h6 h7 h8 h9 hq
  go_enter Tryz.func18, Tryz.ntmps18
  go_wp2
  go_ret
  exact ⟨rfl, HO.out.later (by repeat (first | with_reducible exact Below.refl _ _ | with_reducible refine balloc ?_ _ | with_reducible refine bdrew ?_ | with_reducible refine bset' ?_ (by omega) _ | with_reducible refine bthen ?_ (by assumption)))⟩
end Go.Proofs.YtgjkdhedkbkagaaGreat
/- What is written is read: a closed fact. Steps on a new stack. -/
namespace Go.Proofs.YtgjkdhedkbkagaaGreat
open Go.RowKit Go.BigFrame Go.Maps
set_option maxRecDepth 100000
attribute [local go_sem] Later.cell Later.frozen

def qw1 : Sk := (sk0.ask 0 2 3 ⟨#[120]⟩).2
def qw2 : Sk := (qw1.ask 1 1 3 ⟨#[]⟩).2
theorem works1 : sk0.ask 0 2 3 ⟨#[120]⟩ = (0, qw1) := by rw [Prod.ext_iff]; exact ⟨by decide +kernel, rfl⟩
theorem works2 : qw1.ask 1 1 3 ⟨#[]⟩ = (0, qw2) := by rw [Prod.ext_iff]; exact ⟨by decide +kernel, rfl⟩
theorem works3 : (qw2.client 1).got = ⟨#[120]⟩ := by decide +kernel
theorem works4 : (qw2.client 1).err = 0 := by decide +kernel
theorem works5 : dirtyB qw2.hand = 1 := by decide +kernel
theorem qw1_fit : Fit 3 qw1 := sk0_fit.ask 0 2 3 ⟨#[120]⟩
theorem qw2_fit : Fit 6 qw2 := qw1_fit.ask 1 1 3 ⟨#[]⟩
set_option maxHeartbeats 2000000 in
theorem works_any (w : World) : Calls Tryz.prog 14 #[] w fun e w' => e = .returned (.bool true) ∧ Below w.heap.size w w' := by
  go_enter Tryz.func14, Tryz.ntmps14
  go_wp2_with fail
  refine (new_any _).mono ?_
  rintro e w1 ⟨rfl, hd, hb1, -⟩
  have HD := hidT hd
  have HB1 := hidT hb1
  clear hd hb1
  go_wp2_with fail
  refine (snew_any w w.heap.size w1 HD.out (Nat.le_refl _) HB1.out).mono ?_
  rintro e w2 ⟨s, rfl, ho⟩
  have HO2 := hidT ho
  clear ho
  go_wp2_with fail
  refine (own_ask w w2 s w.heap.size sk0 0 HO2.out sk0_fit (by omega) 0 2 3 ⟨#[120]⟩ 0 qw1 works1).mono ?_
  rw [show errOf 0 = .nilIface from rfl]
  rintro e w3 ⟨rfl, ho⟩
  have HO3 := hidT ho
  clear ho
  go_wp2_with fail
  refine (own_ask w w3 s w.heap.size qw1 3 HO3.out qw1_fit (by omega) 1 1 3 ⟨#[]⟩ 0 qw2 works2).mono ?_
  rw [show errOf 0 = .nilIface from rfl]
  rintro e w4 ⟨rfl, ho⟩
  have HO4 := hidT ho
  clear ho
  go_wp2_with fail
  refine (own_got w w4 s w.heap.size qw2 HO4.out 1 (by omega)).mono ?_
  rw [works3, works4, show errOf 0 = .nilIface from rfl]
  rintro e w5 ⟨rfl, hb5⟩
  have HO5 := hidT (HO4.out.later hb5)
  clear hb5
  go_wp2_with fail
  refine (own_dirty w w5 s w.heap.size qw2 HO5.out 1 works5).mono ?_
  rintro e w6 ⟨rfl, hb6⟩
  have HO6 := hidT (HO5.out.later hb6)
  clear hb6
  go_wp2
  go_ret
  exact ⟨rfl, HO6.out.bel⟩
set_option maxHeartbeats 2000000 in
theorem stepped_no (l : List Sp) (la : Option Addr) (lc : Nat) (w : World) (hl : StepsAt w la l) (hb : lightsS l 120 = false) :
    Calls Tryz.prog 29 #[.slice la l.length lc] w fun e w' => e = .returned (.tuple #[.pointer none, .pointer none, .bool false]) ∧ Below w.heap.size w w' := by
  have HL := hidT hl
  have HB := hidT hb
  clear hl hb
  go_enter Tryz.func29, Tryz.ntmps29
  go_wp2_with fail
  refine (lightsS_any l la lc 120 _ HL.out (by omega) false HB.out).mono ?_
  rintro e w1 ⟨rfl, hb1⟩
  go_wp2
  refine bodyPost_ret (v := .tuple #[.pointer none, .pointer none, .bool false]) (by simp [results, Tryz.results29, go_sem]) rfl ?_
  exact ⟨rfl, hb1⟩
theorem lightsS_len {l : List Sp} {n : Nat} (h : lightsS l n = true) : l.length ≤ n := by
  simp only [lightsS, Bool.and_eq_true, decide_eq_true_eq] at h; exact h.1
set_option maxHeartbeats 2000000 in
theorem stepped_yes (l : List Sp) (la : Option Addr) (lc : Nat) (w : World) (hl : StepsAt w la l) (hb : lightsS l 120 = true) :
    Calls Tryz.prog 29 #[.slice la l.length lc] w fun e w' => ∃ s b, e = .returned (.tuple #[.pointer (some ⟨s, 0, none⟩), .pointer (some ⟨b, 0, none⟩), .bool true]) ∧ Own w s b (sk0.steps l) w' := by
  have HL := hidT hl
  have HB := hidT hb
  have h120 := lightsS_len hb
  clear hl hb
  go_enter Tryz.func29, Tryz.ntmps29
  go_wp2_with fail
  refine (lightsS_any l la lc 120 _ HL.out (by omega) true HB.out).mono ?_
  rintro e w1 ⟨rfl, hb1⟩
  have HB1 := hidT hb1
  clear hb1 HB
  go_wp2_with fail
  refine (new_any _).mono ?_
  rintro e w2 ⟨rfl, hd, hb2, -⟩
  have HD := hidT hd
  have HB2 := hidT (bthen HB1.out hb2)
  have HG : Hid (w.heap.size ≤ w1.heap.size) := HB1.out.size
  clear hd hb2
  generalize w1.heap.size = b at *
  go_wp2_with fail
  refine (snew_any w b w2 HD.out HG.out HB2.out).mono ?_
  rintro e w3 ⟨s, rfl, ho⟩
  have HO3 := hidT ho
  clear ho HD HB2 HB1
  go_wp2
  go_loopw [7] (fun i wr => ∃ k : Nat, k ≤ l.length ∧ i = .int .i64 k ∧ Own w s b (sk0.steps (l.take k)) wr) (fun i _ => l.length - (intOf i).toNat)
  case atStart => exact ⟨0, by omega, rfl, HO3.out⟩
  case round =>
    obtain ⟨k, hk, rfl, ho⟩ := hrel
    have HO := hidT ho
    have HBr := ho.bel
    clear ho
    by_cases hlt : k < l.length
    · have hlt' : (k : Int) < (l.length : Int) := by omega
      rcases HL.out.form with rfl | ⟨bl, ol, rfl⟩
      · exact absurd hlt (Nat.not_lt_zero _)
      obtain ⟨c0, c1, c2, c3⟩ := (HL.out.later HBr).cells hlt
      have HT := hidT (steps_take hlt sk0)
      have HF := hidT (sk0_fit.steps (l.take k))
      have HLK : Hid ((l.take k).length ≤ 120) := by show (l.take k).length ≤ 120; rw [List.length_take]; omega
      generalize hx : l[k] = x at *
      clear hx
      go_wp2_with fail
      refine (own_step w wr s b _ _ HO.out HF.out (by have := HLK.out; omega) x _ _ rfl).mono ?_
      generalize errOf ((sk0.steps (l.take k)).doStep x).1 = ev
      rintro e w4 ⟨rfl, ho4⟩
      have HO4 := hidT ho4
      clear ho4
      go_wp2
      go_roundw
      case rel => exact ⟨k + 1, by omega, by go_num, by rw [HT.out]; exact HO4.out⟩
      case measure => simp [intOf]; omega
    · obtain rfl : k = l.length := by omega
      rw [List.take_length] at HO
      go_wp2
      refine bodyPost_ret (v := .tuple #[.pointer (some ⟨s, 0, none⟩), .pointer (some ⟨b, 0, none⟩), .bool true]) (by simp [results, Tryz.results29, go_sem]) rfl ?_
      exact ⟨s, b, rfl, HO.out⟩
end Go.Proofs.YtgjkdhedkbkagaaGreat
/- How the arguments of the laws read: whole numbers, bools, spans. -/
namespace Go.Proofs.YtgjkdhedkbkagaaGreat
open Go.ChangeShapes Go.WideShapes Go.RowKit
set_option maxRecDepth 100000
set_option maxRecDepth 100000

theorem own : ownKnob Tryz.prog.godebug = none := by kernel_rfl
theorem laidOut : laidOutB Tryz.prog = true := by kernel_rfl
theorem cellsSpan : Tryz.prog.cellsOf 40 = 2 := by kernel_rfl


theorem in64 {n : Int} (h : (Lit.int .i64 n).wf = true) : In64 n := bounds_i64 h

section
variable {H : Type} {enc : TypeId × Value → H} {W : World} {base b0 : Nat} {spare : Nat → Bool} {held : Bool} {r : Reach} {v : Value} {d : DataW H} {p : List MemPlace}

theorem openInt (hv : Value.okWide Tryz.prog W r b0 3 v) (h : DataW.Trod enc Tryz.prog W base spare held 3 v d p) : ∃ n, v = .int .i64 n ∧ In64 n := by
  obtain ⟨x, rfl, rfl, rfl, wx⟩ := open_int Tryz.underlying3 hv h
  exact ⟨x, rfl, in64 wx⟩

theorem openSpan (hv : Value.okWide Tryz.prog W r b0 40 v) (h : DataW.Trod enc Tryz.prog W base spare held 40 v d p) : ∃ f m, v = .agg #[.int .i64 f, .int .i64 m] ∧ In64 f ∧ In64 m := by
  obtain ⟨c0, c1, y0, y1, n, rfl, rfl, rfl, hy0, hy1⟩ := Joins.open_agg2 Tryz.underlying40 (by kernel_rfl) cellsSpan hv h
  obtain ⟨a, e0, rfl, wa⟩ := DataW.trod_int Tryz.underlying3 hy0
  obtain ⟨b, e1, rfl, wb⟩ := DataW.trod_int Tryz.underlying3 hy1
  simp at e0 e1
  subst e0 e1
  exact ⟨a, b, rfl, in64 wa, in64 wb⟩
end
end Go.Proofs.YtgjkdhedkbkagaaGreat
