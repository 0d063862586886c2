/- What is written is read: a closed fact. Steps on a new stack. -/
import Derived.Test.YtgjkdhedkbkagaaGreatJ36
import Derived.Test.YtgjkdhedkbkagaaGreatChecked
import Derived.Test.YtgjkdhedkbkagaaGreatJ1
import Derived.ProofKit
import Derived.OpenShut
import Derived.Lib.SmallJoins
import Derived.Deep.Slices
import Derived.Deep.Strs
namespace Go.Proofs.YtgjkdhedkbkagaaGreat
open Go.RowKit Go.BigFrame Go.Maps
set_option maxRecDepth 100000
attribute [local go_sem] Later.cell Later.frozen

def qw1 : Sk := (sk0.ask 0 2 3 ⟨#[120]⟩).2
def qw2 : Sk := (qw1.ask 1 1 3 ⟨#[]⟩).2
theorem works1 : sk0.ask 0 2 3 ⟨#[120]⟩ = (0, qw1) := by rw [Prod.ext_iff]; exact ⟨by decide +kernel, rfl⟩
theorem works2 : qw1.ask 1 1 3 ⟨#[]⟩ = (0, qw2) := by rw [Prod.ext_iff]; exact ⟨by decide +kernel, rfl⟩
theorem works3 : (qw2.client 1).got = ⟨#[120]⟩ := by decide +kernel
theorem works4 : (qw2.client 1).err = 0 := by decide +kernel
theorem works5 : dirtyB qw2.hand = 1 := by decide +kernel
theorem qw1_fit : Fit 3 qw1 := sk0_fit.ask 0 2 3 ⟨#[120]⟩
set_option maxHeartbeats 2000000 in
theorem works_any (w : World) : Calls Tryz.prog 14 #[] w fun e w' => e = .returned (.bool true) ∧ Below w.heap.size w w' := by
  go_enter Tryz.func14, Tryz.ntmps14
  go_wp2_with fail
  refine (new_any _).mono ?_
  rintro e w1 ⟨rfl, hd, hb1, -⟩
  have HD := hidT hd
  have HB1 := hidT hb1
  clear hd hb1
  go_wp2_with fail
  refine (snew_any w w.heap.size w1 HD.out (Nat.le_refl _) HB1.out).mono ?_
  rintro e w2 ⟨s, rfl, ho⟩
  have HO2 := hidT ho
  clear ho
  go_wp2_with fail
  refine (own_ask w w2 s w.heap.size sk0 0 HO2.out sk0_fit (by omega) 0 2 3 ⟨#[120]⟩ 0 qw1 works1).mono ?_
  rw [show errOf 0 = .nilIface from rfl]
  rintro e w3 ⟨rfl, ho⟩
  have HO3 := hidT ho
  clear ho
  go_wp2_with fail
  refine (own_ask w w3 s w.heap.size qw1 3 HO3.out qw1_fit (by omega) 1 1 3 ⟨#[]⟩ 0 qw2 works2).mono ?_
  rw [show errOf 0 = .nilIface from rfl]
  rintro e w4 ⟨rfl, ho⟩
  have HO4 := hidT ho
  clear ho
  go_wp2_with fail
  refine (own_got w w4 s w.heap.size qw2 HO4.out 1 (by omega)).mono ?_
  rw [works3, works4, show errOf 0 = .nilIface from rfl]
  rintro e w5 ⟨rfl, hb5⟩
  have HO5 := hidT (HO4.out.later hb5)
  clear hb5
  go_wp2_with fail
  refine (own_dirty w w5 s w.heap.size qw2 HO5.out 1 works5).mono ?_
  rintro e w6 ⟨rfl, hb6⟩
  have HO6 := hidT (HO5.out.later hb6)
  clear hb6
  go_wp2
  go_ret
  exact ⟨rfl, HO6.out.bel⟩
theorem lightsS_len {l : List Sp} {n : Nat} (h : lightsS l n = true) : l.length ≤ n := by
  simp only [lightsS, Bool.and_eq_true, decide_eq_true_eq] at h; exact h.1
end Go.Proofs.YtgjkdhedkbkagaaGreat
/- How the arguments of the laws read: whole numbers, bools, spans. -/
namespace Go.Proofs.YtgjkdhedkbkagaaGreat
open Go.ChangeShapes Go.WideShapes Go.RowKit
set_option maxRecDepth 100000
set_option maxRecDepth 100000

theorem own : ownKnob Tryz.prog.godebug = none := by kernel_rfl
theorem laidOut : laidOutB Tryz.prog = true := by kernel_rfl
theorem in64 {n : Int} (h : (Lit.int .i64 n).wf = true) : In64 n := bounds_i64 h

section
variable {H : Type} {enc : TypeId × Value → H} {W : World} {base b0 : Nat} {spare : Nat → Bool} {held : Bool} {r : Reach} {v : Value} {d : DataW H} {p : List MemPlace}

end
end Go.Proofs.YtgjkdhedkbkagaaGreat
/- How requests, lists of requests and turns among the arguments of the laws read. -/
namespace Go.Proofs.YtgjkdhedkbkagaaGreat
open Go.ChangeShapes Go.WideShapes Go.RowKit Go.Deep
set_option maxRecDepth 100000
set_option maxRecDepth 100000

theorem cellsInt : Tryz.prog.cellsOf 3 = 1 := by kernel_rfl
theorem cellsStr : Tryz.prog.cellsOf 9 = 1 := by kernel_rfl
theorem add_mk (b o i : Nat) : (Addr.add ⟨b, o, none⟩ i) = ⟨b, o + i, none⟩ := by
  unfold Addr.add; split
  · rename_i h; subst h; rfl
  · rfl

section
variable {H : Type} {enc : TypeId × Value → H} {W : World} {base b0 fuel : Nat} {spare : Nat → Bool} {held : Bool} {r : Reach} {v : Value} {d : DataW H} {p : List MemPlace} {x : DataW H × List MemPlace} {cs : List Value}

theorem fieldAt {fs : Array Field} {xs : List (DataW H × List MemPlace)} {n : Nat} (hf : ∀ (i : Nat) (f : Field), fs[i]? = some f → DataW.trod enc Tryz.prog W base spare held n f.type ((cs.drop f.offset).take (Tryz.prog.cellsOf f.type)) = xs[i]?)
    (i T o c : Nat) (h : (fs[i]?).map (fun f => (f.type, f.offset)) = some (T, o)) (hc : Tryz.prog.cellsOf T = c) (hi : i < xs.length) : ∃ y, DataW.trod enc Tryz.prog W base spare held n T ((cs.drop o).take c) = some y := by
  cases e : fs[i]? with
  | none => rw [e] at h; cases h
  | some f =>
    rw [e] at h
    simp only [Option.map_some, Option.some.injEq, Prod.mk.injEq] at h
    obtain ⟨rfl, rfl⟩ := h
    subst hc
    exact ⟨_, (hf i f e).trans (List.getElem?_eq_getElem hi)⟩

theorem six {cs : List Value} (h : cs.length = 6) : ∃ a b c d e f, cs = [a, b, c, d, e, f] := by
  match cs, h with
  | [a, b, c, d, e, f], _ => exact ⟨a, b, c, d, e, f, rfl⟩

end
end Go.Proofs.YtgjkdhedkbkagaaGreat
/- How lists of steps among the arguments of the laws read. -/
namespace Go.Proofs.YtgjkdhedkbkagaaGreat
open Go.ChangeShapes Go.WideShapes Go.RowKit Go.Deep
set_option maxRecDepth 100000
set_option maxRecDepth 100000

theorem cellsStep : Tryz.prog.cellsOf 33 = 4 := by kernel_rfl
def StepsIn (l : List Sp) : Prop := ∀ x ∈ l, In64 x.a ∧ In64 x.b
section
variable {H : Type} {enc : TypeId × Value → H} {W : World} {base b0 fuel : Nat} {spare : Nat → Bool} {held : Bool} {r : Reach} {v : Value} {d : DataW H} {p : List MemPlace} {x : DataW H × List MemPlace} {cs : List Value}
theorem four4 {cs : List Value} (h : cs.length = 4) : ∃ a b c d, cs = [a, b, c, d] := by
  match cs, h with
  | [a, b, c, d], _ => exact ⟨a, b, c, d, rfl⟩
theorem openStepCells (h : DataW.trod enc Tryz.prog W base spare held fuel 33 cs = some x) : ∃ q : Sp, cs = [q.cell 0, q.cell 1, q.cell 2, q.cell 3] ∧ In64 q.a ∧ In64 q.b := by
  obtain ⟨xs, n, _, _, hl, hlen, hf⟩ := DataW.trod_struct Tryz.underlying33 h
  rw [cellsStep] at hl
  obtain ⟨v0, v1, v2, v3, rfl⟩ := four4 hl
  have hlen' : xs.length = 4 := hlen
  obtain ⟨y0, f0⟩ := fieldAt hf 0 9 0 1 rfl cellsStr (by omega)
  obtain ⟨y1, f1⟩ := fieldAt hf 1 3 1 1 rfl cellsInt (by omega)
  obtain ⟨y2, f2⟩ := fieldAt hf 2 3 2 1 rfl cellsInt (by omega)
  obtain ⟨y3, f3⟩ := fieldAt hf 3 9 3 1 rfl cellsStr (by omega)
  obtain ⟨s, g0, _⟩ := DataW.trod_string Tryz.underlying9 f0
  obtain ⟨n1, g1, _, w1⟩ := DataW.trod_int Tryz.underlying3 f1
  obtain ⟨n2, g2, _, w2⟩ := DataW.trod_int Tryz.underlying3 f2
  obtain ⟨t, g3, _⟩ := DataW.trod_string Tryz.underlying9 f3
  simp only [List.drop, List.take, List.cons.injEq, and_true] at g0 g1 g2 g3
  subst g0 g1 g2 g3
  exact ⟨⟨s, n1, n2, t⟩, rfl, in64 w1, in64 w2⟩
theorem openSteps (hv : Value.okWide Tryz.prog W r b0 22 v) (h : DataW.Trod enc Tryz.prog W base spare held 22 v d p) : ∃ (l : List Sp) (a : Option Addr) (c : Nat), v = .slice a l.length c ∧ StepsAt W a l ∧ StepsIn l := by
  obtain ⟨a, len, cap, rfl⟩ := okWide_slice Tryz.underlying22 hv
  obtain ⟨fuel, hf⟩ := h
  rcases open_slice Tryz.underlying22 hf with ⟨hcs, _⟩ | ⟨a', len', cap', m, n, D, Pl, hcs, _, hl, hm, hmm, _, hel⟩
  · simp [Value.cells] at hcs
    obtain ⟨rfl, rfl, rfl⟩ := hcs
    exact ⟨[], none, 0, rfl, ⟨Or.inl rfl, by simp⟩, fun x hx => by cases hx⟩
  · simp [Value.cells] at hcs
    obtain ⟨rfl, rfl, rfl⟩ := hcs
    have hlm : len ≤ m := by rw [hmm]; split <;> omega
    rw [cellsStep] at hel
    have each : ∀ i, i < len → ∃ q : Sp, (∀ j, j < 4 → W.cell? ((a'.add (i * 4)).add j) = some (q.cell j)) ∧ In64 q.a ∧ In64 q.b := by
      intro i hi
      obtain ⟨cs, h1, h2⟩ := hel i (by omega)
      obtain ⟨q, hq, hat⟩ := openStepCells h2
      obtain ⟨_, _, h3⟩ := World.cells?_some h1
      refine ⟨q, fun j hj => ?_, hat⟩
      rw [h3 j hj, hq]
      match j, hj with
      | 0, _ => rfl
      | 1, _ => rfl
      | 2, _ => rfl
      | 3, _ => rfl
    have inh : Inhabited Sp := ⟨⟨ByteArray.empty, 0, 0, ByteArray.empty⟩⟩
    obtain ⟨Q, hQ⟩ := choose_lt each
    have hm' : cap ≤ 9223372036854775807 := by unfold maxLen at hm; omega
    refine ⟨(List.range len).map Q, some a', cap, by simp, ⟨?_, by simp; omega⟩, ?_⟩
    · rcases Nat.eq_zero_or_pos len with rfl | hp
      · exact Or.inl rfl
      · right
        have e : a' = ⟨a'.block, a'.off, none⟩ := by
          have h0 := (hQ 0 hp).1 0 (by omega)
          rw [Nat.zero_mul] at h0
          have h1 : a'.spot = none := by simpa [Addr.add] using World.cell?_spot h0
          cases a'; simp_all
        refine ⟨a'.block, a'.off, by rw [← e], fun i hi j hj => ?_⟩
        simp only [List.length_map, List.length_range] at hi
        have := (hQ i hi).1 j hj
        rw [e, add_mk, add_mk] at this
        rw [this]; simp
    · intro q hq
      simp only [List.mem_map, List.mem_range] at hq
      obtain ⟨i, hi, rfl⟩ := hq
      exact (hQ i hi).2
end
end Go.Proofs.YtgjkdhedkbkagaaGreat
/- A stack of all, from where it was: what each call makes of it; a step. -/
namespace Go.Proofs.YtgjkdhedkbkagaaGreat
open Go.RowKit Go.BigFrame Go.Maps
set_option maxRecDepth 100000
attribute [local go_sem] Later.cell Later.frozen

/-- Where a stack was. -/
structure Ref where
  p : Sk
  A : Sa
  w : World
/-- From there it has become q, but for the places of lists. -/
def OwnR (R : Ref) (s b : Nat) (q : Sk) (wr : World) : Prop := ∃ p A, SStep s R.p R.A p A R.w wr ∧ p.nf = q ∧ R.A.b = b
section
variable {W : Ref} {wr w' : World} {s b : Nat} {q q' : Sk}
theorem OwnR.later (h : OwnR W s b q wr) (hb : Below wr.heap.size wr w') : OwnR W s b q w' := by
  obtain ⟨p, A, h1, h2, h3⟩ := h
  exact ⟨p, A, h1.later hb, h2, h3⟩
theorem OwnR.of {p : Sk} {A : Sa} (h3 : W.A.b = b) (hs : SStep s W.p W.A p A W.w wr) (h : SOk s p A wr w' q') : OwnR W s b q' w' := by
  obtain ⟨p', A', h', hn⟩ := h
  exact ⟨p', A', hs.trans h', hn, h3⟩
theorem ref_busyOf (h : OwnR W s b q wr) : busyOf wr b = q.dev.busy.length := by
  obtain ⟨p, A, hs, rfl, rfl⟩ := h
  unfold busyOf
  rw [← hs.same.1, hs.at'.mem.drv.dev.c66]
  exact (List.length_map _).symm
end
section
variable (W : Ref) (w : World) (s b : Nat) (q : Sk) (n : Nat)
theorem ref_ask (h : OwnR W s b q w) (hf : Fit n q) (hn : n ≤ 1000000) (c kind pl : Int) (data : ByteArray) (x : Int) (q' : Sk) (hq : q.ask c kind pl data = (x, q')) : Calls Tryz.prog 37 #[.pointer (some ⟨s, 0, none⟩), .int .i64 c, .int .i64 kind, .int .i64 pl, .string data] w fun e w' => e = .returned (errOf x) ∧ OwnR W s b q' w' := by
  obtain ⟨p, A, hs, rfl, h3⟩ := h
  have h1 := hs.at'
  have hf' := hf.of_nf
  refine (ask_any s p A w h1 hf'.inv (by have := hf'.tags; omega) (by have := hf'.uses; omega) c kind pl data x q' hq).mono ?_
  rintro e w' ⟨he, hok⟩
  exact ⟨he, OwnR.of h3 hs hok⟩
theorem ref_tick (h : OwnR W s b q w) (hf : Fit n q) (hn : n ≤ 1000000) (q' : Sk) (hq : q.tick = q') : Calls Tryz.prog 34 #[.pointer (some ⟨s, 0, none⟩)] w fun e w' => e = .returned (.tuple #[]) ∧ OwnR W s b q' w' := by
  obtain ⟨p, A, hs, rfl, h3⟩ := h
  have h1 := hs.at'
  have hf' := hf.of_nf
  refine (tick_any s p A w h1 hf'.inv (by have := hf'.tags; omega) (by have := hf'.uses; omega) q' hq).mono ?_
  rintro e w' ⟨he, hok⟩
  exact ⟨he, OwnR.of h3 hs hok⟩
theorem ref_clean (h : OwnR W s b q w) (hf : Fit n q) (hn : n ≤ 1000000) (t : Bool) (q' : Sk) (hq : q.clean = (t, q')) : Calls Tryz.prog 33 #[.pointer (some ⟨s, 0, none⟩)] w fun e w' => e = .returned (.bool t) ∧ OwnR W s b q' w' := by
  obtain ⟨p, A, hs, rfl, h3⟩ := h
  have h1 := hs.at'
  have hf' := hf.of_nf
  refine (sclean_any s p A w h1 hf'.inv (by have := hf'.tags; omega) t q' hq).mono ?_
  rintro e w' ⟨he, hok⟩
  exact ⟨he, OwnR.of h3 hs hok⟩
theorem ref_dispatch (h : OwnR W s b q w) (hf : Fit n q) (t : Bool) (q' : Sk) (hq : q.dispatch = (t, q')) : Calls Tryz.prog 35 #[.pointer (some ⟨s, 0, none⟩)] w fun e w' => e = .returned (.bool t) ∧ OwnR W s b q' w' := by
  obtain ⟨p, A, hs, rfl, h3⟩ := h
  have h1 := hs.at'
  have hf' := hf.of_nf
  refine (sdispatch_any s p A w h1 hf'.inv t q' hq).mono ?_
  rintro e w' ⟨he, hok⟩
  exact ⟨he, OwnR.of h3 hs hok⟩
theorem ref_end (h : OwnR W s b q w) (hf : Fit n q) (hn : n ≤ 1000000) (i : Int) (fl : Bool) (x : Int) (q' : Sk) (hq : q.end' i fl = (x, q')) : Calls Tryz.prog 41 #[.pointer (some ⟨s, 0, none⟩), .int .i64 i, .bool fl] w fun e w' => e = .returned (errOf x) ∧ OwnR W s b q' w' := by
  obtain ⟨p, A, hs, rfl, h3⟩ := h
  have h1 := hs.at'
  have hf' := hf.of_nf
  refine (send_any s p A w h1 hf'.inv hf'.short (by have := hf'.tags; omega) (by have := hf'.uses; omega) (by have := hf'.ag; omega) i fl x q' hq).mono ?_
  rintro e w' ⟨he, hok⟩
  exact ⟨he, OwnR.of h3 hs hok⟩
end
set_option linter.unusedSimpArgs false in
set_option maxHeartbeats 2000000 in
theorem ref_round (W : Ref) (w : World) (s b : Nat) (q : Sk) (n : Nat) (h : OwnR W s b q w) (hf : Fit n q) (hn : n ≤ 900000) (q' : Sk) (hq : q.round = q') :
    Calls Tryz.prog 39 #[.pointer (some ⟨s, 0, none⟩)] w fun e w' => e = .returned (.tuple #[]) ∧ OwnR W s b q' w' := by
  have HO := hidT h
  have HF := hidT hf
  have HQ := hidT hq
  clear h hf hq
  go_enter Tryz.func39, Tryz.ntmps39
  go_wp2_with fail
  refine (ref_tick W w s b q n HO.out HF.out (by omega) _ rfl).mono ?_
  rintro e w1 ⟨rfl, h1⟩
  have HO1 := hidT h1
  clear h1
  go_wp2_with fail
  refine (ref_clean W w1 s b q.tick (n + 3) HO1.out HF.out.tick (by omega) q.tick.clean.1 q.tick.clean.2 rfl).mono ?_
  rintro e w2 ⟨rfl, h2⟩
  have HO2 := hidT h2
  have HF2 := hidT HF.out.tick.clean
  have HQ2 : Hid (((q.tick.clean.2.dispatches 3).end' 0 false).2 = q') := HQ.out
  clear h2 HQ HO1
  generalize q.tick.clean.1 = t at *
  generalize q.tick.clean.2 = q2 at *
  go_wp2
  go_loopw [] (fun wr => ∃ (j : Nat) (r : Sk), OwnR W s b r wr ∧ Fit (n + 3 + 1) r ∧ r.dispatches j = q2.dispatches 3 ∧ 3 ≤ r.dev.busy.length + j) (fun wr => 3 - busyOf wr b)
  case atStart => exact ⟨3, q2, HO2.out, HF2.out, rfl, by omega⟩
  case round =>
    obtain ⟨j, r, ho, hfr, hd, hj⟩ := hrel
    have HOR := hidT ho
    have HFR := hidT hfr
    have HD := hidT hd
    have hb2 := hfr.inv.b2
    obtain ⟨i, rfl⟩ : ∃ i, j = i + 1 := ⟨j - 1, by omega⟩
    have HJ := hidT hj
    have HB2 := hidT hb2
    clear ho hfr hd hj hb2
    cases ht : r.dispatch.1
    · have HE : Hid (r = q2.dispatches 3) := by
        have := HD.out
        unfold Sk.dispatches at this
        rw [ht, if_neg Bool.false_ne_true] at this
        exact this
      have HS : Hid (r.dispatch = (false, r)) := by
        rcases dispatch_cases HFR.out.inv with ⟨_, e⟩ | ⟨_, _, _, _, _, _, _, e⟩
        · exact e
        · rw [e] at ht; cases ht
      clear ht
      go_wp2_with fail
      refine (ref_dispatch W wr s b r _ HOR.out HFR.out false r HS.out).mono ?_
      rintro e w3 ⟨rfl, h3⟩
      have HO3 := hidT h3
      clear h3
      go_wp2_with fail
      refine (ref_end W w3 s b r _ HO3.out HFR.out (by omega) 0 false (r.end' 0 false).1 q' (by rw [Prod.ext_iff]; exact ⟨rfl, by show (r.end' 0 false).2 = q'; rw [HE.out]; exact HQ2.out⟩)).mono ?_
      generalize (r.end' 0 false).1 = x
      rintro e w4 ⟨rfl, h4⟩
      generalize errOf x = ev
      go_wp2
      go_end0
      exact ⟨rfl, h4⟩
    · have HE : Hid (r.dispatch.2.dispatches i = q2.dispatches 3) := by
        have := HD.out
        unfold Sk.dispatches at this
        rw [ht, if_pos rfl] at this
        exact this
      have HM := hidT (dispatch_more HFR.out.inv ht)
      have HT := hidT ht
      clear ht
      go_wp2_with fail
      refine (ref_dispatch W wr s b r _ HOR.out HFR.out true r.dispatch.2 (by rw [Prod.ext_iff]; exact ⟨HT.out, rfl⟩)).mono ?_
      rintro e w3 ⟨rfl, h3⟩
      have HO3 := hidT h3
      clear h3
      go_wp2
      go_roundw
      case rel => exact ⟨i, r.dispatch.2, HO3.out, HFR.out.dispatch, HE.out, by have := HM.out; have := HJ.out; omega⟩
      case measure => rw [ref_busyOf HOR.out, ref_busyOf HO3.out]; have := HM.out; have := HB2.out; omega
set_option linter.unusedSimpArgs false in
set_option maxRecDepth 100000 in
set_option maxHeartbeats 4000000 in
theorem ref_step (W : Ref) (w : World) (s b : Nat) (q : Sk) (n : Nat) (h : OwnR W s b q w) (hf : Fit n q) (hn : n ≤ 800000) (x : Sp) (e : Int) (q' : Sk) (hq : q.doStep x = (e, q')) :
    Calls Tryz.prog 18 #[.pointer (some ⟨s, 0, none⟩), x.val] w fun r w' => r = .returned (errOf e) ∧ OwnR W s b q' w' := by
  have HO := hidT h
  have HF := hidT hf
  clear h hf
  obtain ⟨wd, xa, xb, dt⟩ := x
  by_cases h1 : wd = wRead
  · subst h1
    have HQ : Hid (((q.ask xa 1 xb ByteArray.empty) : Int × Sk) = (e, q')) := by
      show ((q.ask xa 1 xb ByteArray.empty) : Int × Sk) = (e, q')
      have := hq
      unfold Sk.doStep at this
      rw [if_pos rfl] at this
      exact this
    clear hq
    unfold wRead
    go_enter Tryz.func18, Tryz.ntmps18
    go_wp2_with fail
    refine (ref_ask W _ s b q n (HO.out.later (by repeat (first | with_reducible exact Below.refl _ _ | with_reducible refine balloc ?_ _ | with_reducible refine bdrew ?_ | with_reducible refine bset' ?_ (by omega) _ | with_reducible refine bthen ?_ (by assumption)))) HF.out (by omega) xa 1 xb ByteArray.empty e q' HQ.out).mono ?_
    rintro r w1 ⟨rfl, h1⟩
    generalize hev : errOf e = ev
    go_wp2
    go_ret
    exact ⟨by rw [hev]; rfl, h1⟩
  by_cases h2 : wd = wWrite
  · subst h2
    have HQ : Hid (((q.ask xa 2 xb dt) : Int × Sk) = (e, q')) := by
      show ((q.ask xa 2 xb dt) : Int × Sk) = (e, q')
      have := hq
      unfold Sk.doStep at this
      rw [if_neg (show ¬ wWrite = wRead by decide)] at this
      rw [if_pos rfl] at this
      exact this
    clear h1
    clear hq
    unfold wWrite
    go_enter Tryz.func18, Tryz.ntmps18
    go_wp2_with fail
    refine (ref_ask W _ s b q n (HO.out.later (by repeat (first | with_reducible exact Below.refl _ _ | with_reducible refine balloc ?_ _ | with_reducible refine bdrew ?_ | with_reducible refine bset' ?_ (by omega) _ | with_reducible refine bthen ?_ (by assumption)))) HF.out (by omega) xa 2 xb dt e q' HQ.out).mono ?_
    rintro r w1 ⟨rfl, h1⟩
    generalize hev : errOf e = ev
    go_wp2
    go_ret
    exact ⟨by rw [hev]; rfl, h1⟩
  by_cases h3 : wd = wSync
  · subst h3
    have HQ : Hid (((q.ask xa 3 0 ByteArray.empty) : Int × Sk) = (e, q')) := by
      show ((q.ask xa 3 0 ByteArray.empty) : Int × Sk) = (e, q')
      have := hq
      unfold Sk.doStep at this
      rw [if_neg (show ¬ wSync = wRead by decide)] at this
      rw [if_neg (show ¬ wSync = wWrite by decide)] at this
      rw [if_pos rfl] at this
      exact this
    clear h1 h2
    clear hq
    unfold wSync
    go_enter Tryz.func18, Tryz.ntmps18
    go_wp2_with fail
    refine (ref_ask W _ s b q n (HO.out.later (by repeat (first | with_reducible exact Below.refl _ _ | with_reducible refine balloc ?_ _ | with_reducible refine bdrew ?_ | with_reducible refine bset' ?_ (by omega) _ | with_reducible refine bthen ?_ (by assumption)))) HF.out (by omega) xa 3 0 ByteArray.empty e q' HQ.out).mono ?_
    rintro r w1 ⟨rfl, h1⟩
    generalize hev : errOf e = ev
    go_wp2
    go_ret
    exact ⟨by rw [hev]; rfl, h1⟩
  by_cases h4 : wd = wTick
  · subst h4
    have HQ : Hid ((((0, q.tick)) : Int × Sk) = (e, q')) := by
      show (((0, q.tick)) : Int × Sk) = (e, q')
      have := hq
      unfold Sk.doStep at this
      rw [if_neg (show ¬ wTick = wRead by decide)] at this
      rw [if_neg (show ¬ wTick = wWrite by decide)] at this
      rw [if_neg (show ¬ wTick = wSync by decide)] at this
      rw [if_pos rfl] at this
      exact this
    clear h1 h2 h3
    clear hq
    unfold wTick
    obtain ⟨rfl, rfl⟩ := Prod.mk.inj HQ.out
    clear HQ
    go_enter Tryz.func18, Tryz.ntmps18
    go_wp2_with fail
    refine (ref_tick W _ s b q n (HO.out.later (by repeat (first | with_reducible exact Below.refl _ _ | with_reducible refine balloc ?_ _ | with_reducible refine bdrew ?_ | with_reducible refine bset' ?_ (by omega) _ | with_reducible refine bthen ?_ (by assumption)))) HF.out (by omega) _ rfl).mono ?_
    rintro r w1 ⟨rfl, h1⟩
    go_wp2
    go_ret
    exact ⟨rfl, h1⟩
  by_cases h5 : wd = wClean
  · subst h5
    have HQ : Hid ((((0, q.clean.2)) : Int × Sk) = (e, q')) := by
      show (((0, q.clean.2)) : Int × Sk) = (e, q')
      have := hq
      unfold Sk.doStep at this
      rw [if_neg (show ¬ wClean = wRead by decide)] at this
      rw [if_neg (show ¬ wClean = wWrite by decide)] at this
      rw [if_neg (show ¬ wClean = wSync by decide)] at this
      rw [if_neg (show ¬ wClean = wTick by decide)] at this
      rw [if_pos rfl] at this
      exact this
    clear h1 h2 h3 h4
    clear hq
    unfold wClean
    obtain ⟨rfl, rfl⟩ := Prod.mk.inj HQ.out
    clear HQ
    go_enter Tryz.func18, Tryz.ntmps18
    go_wp2_with fail
    refine (ref_clean W _ s b q n (HO.out.later (by repeat (first | with_reducible exact Below.refl _ _ | with_reducible refine balloc ?_ _ | with_reducible refine bdrew ?_ | with_reducible refine bset' ?_ (by omega) _ | with_reducible refine bthen ?_ (by assumption)))) HF.out (by omega) q.clean.1 q.clean.2 rfl).mono ?_
    generalize q.clean.1 = t
    rintro r w1 ⟨rfl, h1⟩
    go_wp2
    go_ret
    exact ⟨rfl, h1⟩
  by_cases h6 : wd = wDispatch
  · subst h6
    have HQ : Hid ((((0, q.dispatch.2)) : Int × Sk) = (e, q')) := by
      show (((0, q.dispatch.2)) : Int × Sk) = (e, q')
      have := hq
      unfold Sk.doStep at this
      rw [if_neg (show ¬ wDispatch = wRead by decide)] at this
      rw [if_neg (show ¬ wDispatch = wWrite by decide)] at this
      rw [if_neg (show ¬ wDispatch = wSync by decide)] at this
      rw [if_neg (show ¬ wDispatch = wTick by decide)] at this
      rw [if_neg (show ¬ wDispatch = wClean by decide)] at this
      rw [if_pos rfl] at this
      exact this
    clear h1 h2 h3 h4 h5
    clear hq
    unfold wDispatch
    obtain ⟨rfl, rfl⟩ := Prod.mk.inj HQ.out
    clear HQ
    go_enter Tryz.func18, Tryz.ntmps18
    go_wp2_with fail
    refine (ref_dispatch W _ s b q n (HO.out.later (by repeat (first | with_reducible exact Below.refl _ _ | with_reducible refine balloc ?_ _ | with_reducible refine bdrew ?_ | with_reducible refine bset' ?_ (by omega) _ | with_reducible refine bthen ?_ (by assumption)))) HF.out q.dispatch.1 q.dispatch.2 rfl).mono ?_
    generalize q.dispatch.1 = t
    rintro r w1 ⟨rfl, h1⟩
    go_wp2
    go_ret
    exact ⟨rfl, h1⟩
  by_cases h7 : wd = wEnd
  · subst h7
    have HQ : Hid (((q.end' xa false) : Int × Sk) = (e, q')) := by
      show ((q.end' xa false) : Int × Sk) = (e, q')
      have := hq
      unfold Sk.doStep at this
      rw [if_neg (show ¬ wEnd = wRead by decide)] at this
      rw [if_neg (show ¬ wEnd = wWrite by decide)] at this
      rw [if_neg (show ¬ wEnd = wSync by decide)] at this
      rw [if_neg (show ¬ wEnd = wTick by decide)] at this
      rw [if_neg (show ¬ wEnd = wClean by decide)] at this
      rw [if_neg (show ¬ wEnd = wDispatch by decide)] at this
      rw [if_pos rfl] at this
      exact this
    clear h1 h2 h3 h4 h5 h6
    clear hq
    unfold wEnd
    go_enter Tryz.func18, Tryz.ntmps18
    go_wp2_with fail
    refine (ref_end W _ s b q n (HO.out.later (by repeat (first | with_reducible exact Below.refl _ _ | with_reducible refine balloc ?_ _ | with_reducible refine bdrew ?_ | with_reducible refine bset' ?_ (by omega) _ | with_reducible refine bthen ?_ (by assumption)))) HF.out (by omega) xa false e q' HQ.out).mono ?_
    rintro r w1 ⟨rfl, h1⟩
    generalize hev : errOf e = ev
    go_wp2
    go_ret
    exact ⟨by rw [hev]; rfl, h1⟩
  by_cases h8 : wd = wFault
  · subst h8
    have HQ : Hid (((q.end' xa true) : Int × Sk) = (e, q')) := by
      show ((q.end' xa true) : Int × Sk) = (e, q')
      have := hq
      unfold Sk.doStep at this
      rw [if_neg (show ¬ wFault = wRead by decide)] at this
      rw [if_neg (show ¬ wFault = wWrite by decide)] at this
      rw [if_neg (show ¬ wFault = wSync by decide)] at this
      rw [if_neg (show ¬ wFault = wTick by decide)] at this
      rw [if_neg (show ¬ wFault = wClean by decide)] at this
      rw [if_neg (show ¬ wFault = wDispatch by decide)] at this
      rw [if_neg (show ¬ wFault = wEnd by decide)] at this
      rw [if_pos rfl] at this
      exact this
    clear h1 h2 h3 h4 h5 h6 h7
    clear hq
    unfold wFault
    go_enter Tryz.func18, Tryz.ntmps18
    go_wp2_with fail
    refine (ref_end W _ s b q n (HO.out.later (by repeat (first | with_reducible exact Below.refl _ _ | with_reducible refine balloc ?_ _ | with_reducible refine bdrew ?_ | with_reducible refine bset' ?_ (by omega) _ | with_reducible refine bthen ?_ (by assumption)))) HF.out (by omega) xa true e q' HQ.out).mono ?_
    rintro r w1 ⟨rfl, h1⟩
    generalize hev : errOf e = ev
    go_wp2
    go_ret
    exact ⟨by rw [hev]; rfl, h1⟩
  by_cases h9 : wd = wRound
  · subst h9
    have HQ : Hid ((((0, q.round)) : Int × Sk) = (e, q')) := by
      show (((0, q.round)) : Int × Sk) = (e, q')
      have := hq
      unfold Sk.doStep at this
      rw [if_neg (show ¬ wRound = wRead by decide)] at this
      rw [if_neg (show ¬ wRound = wWrite by decide)] at this
      rw [if_neg (show ¬ wRound = wSync by decide)] at this
      rw [if_neg (show ¬ wRound = wTick by decide)] at this
      rw [if_neg (show ¬ wRound = wClean by decide)] at this
      rw [if_neg (show ¬ wRound = wDispatch by decide)] at this
      rw [if_neg (show ¬ wRound = wEnd by decide)] at this
      rw [if_neg (show ¬ wRound = wFault by decide)] at this
      rw [if_pos rfl] at this
      exact this
    clear h1 h2 h3 h4 h5 h6 h7 h8
    clear hq
    unfold wRound
    obtain ⟨rfl, rfl⟩ := Prod.mk.inj HQ.out
    clear HQ
    go_enter Tryz.func18, Tryz.ntmps18
    go_wp2_with fail
    refine (ref_round W _ s b q n (HO.out.later (by repeat (first | with_reducible exact Below.refl _ _ | with_reducible refine balloc ?_ _ | with_reducible refine bdrew ?_ | with_reducible refine bset' ?_ (by omega) _ | with_reducible refine bthen ?_ (by assumption)))) HF.out (by omega) _ rfl).mono ?_
    rintro r w1 ⟨rfl, h1⟩
    go_wp2
    go_ret
    exact ⟨rfl, h1⟩
  obtain ⟨rfl, rfl⟩ : (0 : Int) = e ∧ q = q' := by
    have := hq
    unfold Sk.doStep at this
    rw [if_neg h1, if_neg h2, if_neg h3, if_neg h4, if_neg h5, if_neg h6, if_neg h7, if_neg h8, if_neg h9] at this
    exact Prod.mk.inj this
  have g1 : (wd.toList == [114, 101, 97, 100]) = false := strK_ne _ h1
  have g2 : (wd.toList == [119, 114, 105, 116, 101]) = false := strK_ne _ h2
  have g3 : (wd.toList == [115, 121, 110, 99]) = false := strK_ne _ h3
  have g4 : (wd.toList == [116, 105, 99, 107]) = false := strK_ne _ h4
  have g5 : (wd.toList == [99, 108, 101, 97, 110]) = false := strK_ne _ h5
  have g6 : (wd.toList == [100, 105, 115, 112, 97, 116, 99, 104]) = false := strK_ne _ h6
  have g7 : (wd.toList == [101, 110, 100]) = false := strK_ne _ h7
  have g8 : (wd.toList == [102, 97, 117, 108, 116]) = false := strK_ne _ h8
  have g9 : (wd.toList == [114, 111, 117, 110, 100]) = false := strK_ne _ h9
  clear h1 h2 h3 h4 h5 h6 h7 h8 h9 hq
  go_enter Tryz.func18, Tryz.ntmps18
  go_wp2
  go_ret
  exact ⟨rfl, HO.out.later (by repeat (first | with_reducible exact Below.refl _ _ | with_reducible refine balloc ?_ _ | with_reducible refine bdrew ?_ | with_reducible refine bset' ?_ (by omega) _ | with_reducible refine bthen ?_ (by assumption)))⟩
theorem step_any (s : Nat) (p : Sk) (A : Sa) (w : World) (h : StkAt s p A w) (n : Nat) (hf : Fit n p.nf) (hn : n ≤ 800000) (x : Sp) (e : Int) (q' : Sk) (hq : p.nf.doStep x = (e, q')) :
    Calls Tryz.prog 18 #[.pointer (some ⟨s, 0, none⟩), x.val] w fun r w' => r = .returned (errOf e) ∧ SOk s p A w w' q' := by
  refine (ref_step ⟨p, A, w⟩ w s A.b p.nf n ⟨p, A, SStep.same' h (Below.refl _ _), rfl, rfl⟩ hf hn x e q' hq).mono ?_
  rintro r w' ⟨he, p', A', hs, hn', _⟩
  exact ⟨he, p', A', hs, hn'⟩
end Go.Proofs.YtgjkdhedkbkagaaGreat
/- The number of an error; lists of requests that are the same but for their places. -/
namespace Go.Proofs.YtgjkdhedkbkagaaGreat
open Go.RowKit Go.BigFrame Go.Maps
set_option maxRecDepth 100000
attribute [local go_sem] Later.cell Later.frozen

theorem run_assertM (n : Int) (w : World) : Sem.run Tryz.prog (Instr.typeAssert (.iface 89 (.int .i64 n)) 30 89 true) w = .ok (.tuple #[.int .i64 n, .bool true]) w := by kernel_rfl
theorem number_any (n : Int) (w : World) : Calls Tryz.prog 36 #[errOf n] w fun e w' => e = .returned (.int .i64 n) ∧ Below w.heap.size w w' := by
  by_cases h : n = 0
  · subst h
    rw [show errOf 0 = .nilIface from rfl]
    go_enter Tryz.func36, Tryz.ntmps36
    go_wp2
    go_ret
    exact ⟨rfl, Below.refl _ _⟩
  · have ra := run_assertM n
    rw [show errOf n = .iface 89 (.int .i64 n) by unfold errOf; rw [if_neg h]]
    clear h
    go_enter Tryz.func36, Tryz.ntmps36
    go_wp2
    go_ret
    exact ⟨rfl, Below.refl _ _⟩
end Go.Proofs.YtgjkdhedkbkagaaGreat
/- A stack of all: what is on its way, and dirty: what stays true of it. -/
namespace Go.Proofs.YtgjkdhedkbkagaaGreat
open Go.RowKit
set_option maxRecDepth 100000

def Sk.all (p : Sk) : List Rq := p.queue ++ p.dev.busy
/-- What a request has is dirty, if it is at hand; what is to be written is at hand. -/
def Tight (p : Sk) : Prop := ∀ r ∈ p.all, ∀ a : Int, r.on a → (∀ x, getB p.hand a = some x → x.dirty = true) ∧ (r.wr = true → ∃ x, getB p.hand a = some x)
theorem Good.on_in {r : Rq} (g : Good r) {a : Int} (h : r.on a) : 0 ≤ a ∧ a ≤ 31 := by
  have := g.bds
  obtain ⟨h1, h2⟩ := h
  omega
theorem held_on {p : Sk} (hI : Inv p) {r : Rq} (hr : r ∈ p.all) {a : Int} (h : r.on a) : p.held a = true := by
  cases e : p.held a
  · exact absurd h ((held_iff hI a ((hI.good r hr).on_in h).2).1 e r hr)
  · rfl
section
variable {p : Sk}
theorem Tight.congr {q : Sk} (h : Tight p) (hh : q.hand = p.hand) (ha : ∀ r ∈ q.all, r ∈ p.all) : Tight q := fun r hr a ho => by rw [hh]; exact h r (ha r hr) a ho
theorem Tight.map (h : Tight p) (g : Bf → Bf) (hg : ∀ x, (g x).pl = x.pl) {q : Sk} (hh : q.hand = p.hand.map g) (ha : ∀ r ∈ q.all, r ∈ p.all ∧ ∀ a, r.on a → ∀ x, x.pl = a → (g x).dirty = x.dirty) : Tight q := by
  intro r hr a ho
  obtain ⟨h1, h2⟩ := ha r hr
  obtain ⟨t1, t2⟩ := h r h1 a ho
  rw [hh, map_find _ g hg]
  refine ⟨fun x hx => ?_, fun hw => ?_⟩
  · obtain ⟨y, hy, rfl⟩ := Option.map_eq_some_iff.1 hx
    rw [h2 a ho y (getB_some hy).2]; exact t1 y hy
  · obtain ⟨y, hy⟩ := t2 hw
    exact ⟨g y, by rw [hy]; rfl⟩
/-- A Put: what is held stays. -/
theorem Tight.put (hI : Inv p) (h : Tight p) {x : Bf} {m : List Bf} (hp : putB p.hand x p.held = some m) (hx : x.dirty = true ∨ ∀ r ∈ p.all, ¬ r.on x.pl) {q : Sk} (hh : q.hand = m) (ha : q.all = p.all) : Tight q := by
  intro r hr a ho
  rw [ha] at hr
  obtain ⟨t1, t2⟩ := h r hr a ho
  have P := putB_some hI.hand hp
  have hheld := held_on hI hr ho
  rw [hh]
  by_cases e : a = x.pl
  · rcases hx with hx | hx
    · rw [e, P.same]
      exact ⟨fun y hy => by obtain rfl := Option.some.inj hy; exact hx, fun _ => ⟨x, rfl⟩⟩
    · exact absurd (e ▸ ho) (hx r hr)
  · rcases P.other a e with e1 | ⟨_, _, y, _, _, hf⟩
    · rw [e1]; exact ⟨t1, t2⟩
    · rw [hheld] at hf; cases hf
theorem Tight.askQ (hI : Inv p) (h : Tight p) (pl : Int) (hpl : 0 ≤ pl ∧ pl ≤ 31) (wr : Bool) (data : List ByteArray) (hd : (wr = true ∧ data.length = 1 ∧ ∀ s ∈ data, s.size ≤ 4) ∨ (wr = false ∧ data = [])) (h1 : ∀ x, getB p.hand pl = some x → x.dirty = true) (h2 : wr = true → ∃ x, getB p.hand pl = some x) : Tight (p.askQ pl wr data).2 := by
  rcases askQ_cases (p := p) pl wr data with ⟨_, e⟩ | ⟨L, e1, e⟩
  · rw [e]; exact h
  · rw [e]
    have A := hI.adds hpl hd e1
    intro r hr a ho
    rcases List.mem_append.1 hr with h' | h'
    · obtain ⟨q', hq', ho', hw', _⟩ := A.from' r h' a ho
      rcases List.mem_cons.1 hq' with rfl | h4
      · rw [reqOf_on] at ho'
        subst ho'
        exact ⟨h1, fun hw => h2 (hw'.trans hw)⟩
      · obtain ⟨t1, t2⟩ := h q' (List.mem_append_left _ h4) a ho'
        exact ⟨t1, fun hw => t2 (hw'.trans hw)⟩
    · exact h r (List.mem_append_right _ h') a ho
theorem Tight.serve1 (hI : Inv p) (h : Tight p) (i : Nat) : Tight (p.serve1 i) := by
  have hc := hI.client i
  unfold Sk.serve1
  split
  · rename_i hk
    have hpl := hc.pl (by rw [hk]; omega)
    unfold Sk.serveRead
    cases e : getB p.hand (p.client i).pl with
    | some b => exact h.map (fun x => if x.pl = (p.client i).pl then { x with used := p.uses + 1 } else x) (fun x => by split <;> rfl) rfl (fun _ hr => ⟨hr, fun a _ x _ => by split <;> rfl⟩)
    | none =>
      simp only
      split
      · exact h
      · exact h.askQ hI _ hpl false [] (Or.inr ⟨rfl, rfl⟩) (fun x hx => by rw [e] at hx; cases hx) (fun hw => by cases hw)
  split
  · rename_i hk
    unfold Sk.serveWrite
    split
    · exact h.congr rfl (fun _ hr => hr)
    split
    · exact h
    split
    · rename_i l e
      exact Tight.put hI h e (Or.inl rfl) rfl rfl
    · exact h.congr rfl (fun _ hr => hr)
  split
  · unfold Sk.serveSync
    split
    · exact h.congr rfl (fun _ hr => hr)
    split
    · exact h.congr rfl (fun _ hr => hr)
    · exact h.congr rfl (fun _ hr => hr)
  · exact h
theorem Tight.serve (hI : Inv p) (h : Tight p) : Tight p.serve := Tight.serve1 ((hI.serve1 0).serve1 1) (Tight.serve1 (hI.serve1 0) (Tight.serve1 hI h 0) 1) 2
theorem tick_inv (hI : Inv p) : Inv ({ p with moment := if p.moment + 1 < 1000000000 then p.moment + 1 else 1000000000 } : Sk) := by
  refine ⟨hI.cl3, hI.cok, hI.hand, hI.d6, hI.good, hI.apart, hI.q6, hI.b2, ?_, hI.tg, hI.us, hI.tin, hI.n32, hI.g32, hI.ts, hI.fr⟩
  have := hI.mom
  show 0 ≤ (if p.moment + 1 < 1000000000 then p.moment + 1 else 1000000000) ∧ (if p.moment + 1 < 1000000000 then p.moment + 1 else 1000000000) ≤ 1000000000
  split <;> omega
theorem Tight.tick (hI : Inv p) (h : Tight p) : Tight p.tick := Tight.serve (tick_inv hI) (h.congr rfl (fun _ hr => hr))
theorem Tight.ask (hI : Inv p) (h : Tight p) (c kind pl : Int) (data : ByteArray) : Tight (p.ask c kind pl data).2 := by
  unfold Sk.ask
  by_cases hf : askFault c kind pl data = 0
  · rw [if_neg (by simpa using hf)]
    split
    · exact h
    · have z := askFault_zero hf
      exact Tight.serve (hI.asks c.toNat kind pl data z.2.1 z.2.2.1 z.2.2.2.2.1) (h.congr rfl (fun _ hr => hr))
  · rw [if_pos hf]; exact h
theorem Tight.clean (hI : Inv p) (h : Tight p) : Tight p.clean.2 := by
  unfold Sk.clean
  split
  · exact h
  split
  · exact h
  · rename_i _ hp
    rcases pickB_spec p.hand p.held with ⟨e, _⟩ | ⟨x, hx, e, hd, hh⟩
    · rw [e] at hp; omega
    · have hin := hI.hand.in' x hx
      have hg := getB_mem hI.hand.rise hx
      rw [e, hg]
      exact h.askQ hI _ ⟨hin.1, hin.2.1⟩ true [x.data] (Or.inl ⟨rfl, rfl, fun s hs => by rw [List.mem_singleton.1 hs]; exact hin.2.2⟩) (fun y hy => by rw [hg] at hy; obtain rfl := Option.some.inj hy; exact hd) (fun _ => ⟨x, hg⟩)
theorem Tight.dispatch (hI : Inv p) (h : Tight p) : Tight p.dispatch.2 := by
  rcases dispatch_cases hI with ⟨_, e⟩ | ⟨i, hi, T, _, hb, _, hT, e⟩
  · rw [e]; exact h
  · rw [e]
    refine h.congr rfl (fun r hr => ?_)
    exact (moved_perm p.queue p.dev.busy i hi).mem_iff.2 hr
theorem Tight.dispatches (n : Nat) : ∀ {p : Sk}, Inv p → Tight p → Tight (p.dispatches n) := by
  induction n with
  | zero => intro p _ h; exact h
  | succ n ih =>
    intro p hI h
    unfold Sk.dispatches
    split
    · exact ih hI.dispatch (Tight.dispatch hI h)
    · exact h
end
/-- No request that is left has a sector of this one's. -/
def Freed (p : Sk) (r : Rq) : Prop := ∀ r' ∈ p.all, ∀ a, r.on a → ¬ r'.on a
theorem took_all {p : Sk} {k : Nat} (hk : k < p.dev.busy.length) : (p.all).Perm ((p.took k).all ++ [p.dev.busy[k]]) := by
  have P := (erase_perm p.dev.busy k hk).symm
  have := List.Perm.append_left p.queue P
  rw [← List.append_assoc] at this
  exact this
theorem took_freed {p : Sk} (hI : Inv p) {k : Nat} (hk : k < p.dev.busy.length) : Freed (p.took k) p.dev.busy[k] := by
  have P := apart_perm (took_all hk) hI.apart
  have h2 := (List.pairwise_append.1 P).2.2
  intro r' hr' a h1 h3
  exact h2 r' hr' _ List.mem_cons_self a h3 h1
theorem took_sub {p : Sk} (k : Nat) : ∀ r ∈ (p.took k).all, r ∈ p.all := fun r hr => by
  rcases List.mem_append.1 hr with h | h
  · exact List.mem_append_left _ h
  · exact List.mem_append_right _ (List.mem_of_mem_eraseIdx h)
theorem did_all (p : Sk) (r : Rq) : (p.did r).all = p.all := by
  show p.queue ++ (p.dev.did r).busy = _
  rw [Dl.did_busy]; rfl
theorem wasRead_all (p : Sk) (pl : Int) (s : ByteArray) : (p.wasRead pl s).all = p.all := by
  unfold Sk.wasRead
  split
  · rfl
  · split <;> rfl
theorem wentOne_all (p : Sk) (r : Rq) (xs : List ByteArray) (j : Nat) : (p.wentOne r xs j).all = p.all := by
  unfold Sk.wentOne
  split
  · rfl
  · exact wasRead_all p _ _
theorem wentTo_all (p : Sk) (r : Rq) (xs : List ByteArray) : ∀ n, (p.wentTo r xs n).all = p.all
  | 0 => rfl
  | n + 1 => by rw [wentTo_succ, wentOne_all]; exact wentTo_all p r xs n
theorem Tight.wasRead {p : Sk} (hI : Inv p) (h : Tight p) (pl : Int) (s : ByteArray) (hf : ∀ r ∈ p.all, ¬ r.on pl) : Tight (p.wasRead pl s) := by
  unfold Sk.wasRead
  split
  · exact h
  · split
    · rename_i l e
      exact Tight.put hI h e (Or.inr hf) rfl rfl
    · exact h.congr rfl (fun _ hr => hr)
theorem Tight.wentTo {p : Sk} (hI : Inv p) (h : Tight p) (r : Rq) (gr : Good r) (hf : Freed p r) (xs : List ByteArray) (hx : ∀ j, (xs.getD j ByteArray.empty).size ≤ 4) : ∀ n, n ≤ r.m.toNat → Tight (p.wentTo r xs n)
  | 0, _ => h
  | n + 1, hn => by
    rw [wentTo_succ]
    have ih := Tight.wentTo hI h r gr hf xs hx n (by omega)
    have hIn := hI.wentTo r gr xs hx n (by omega)
    have := gr.bds
    have hon : r.on (r.f + n) := ⟨by omega, by omega⟩
    have hfr : ∀ r' ∈ (p.wentTo r xs n).all, ¬ r'.on (r.f + n) := fun r' hr' => by rw [wentTo_all] at hr'; exact hf r' hr' _ hon
    unfold Sk.wentOne
    split
    · refine ih.map (fun x => if x.pl = r.f + n ∧ x.data = r.data.getD n ByteArray.empty then { x with dirty := false } else x) (fun x => by split <;> rfl) rfl (fun r' hr' => ⟨hr', fun a ho x hx' => ?_⟩)
      rw [if_neg]
      rintro ⟨e, _⟩
      exact hfr r' hr' (by rw [← e, hx']; exact ho)
    · exact Tight.wasRead hIn ih _ _ hfr
theorem Tight.end' {p : Sk} (hI : Inv p) (hs : DevShort p.dev) (h : Tight p) (i : Int) (fault : Bool) : Tight (p.end' i fault).2 := by
  rcases end_cases p i fault with ⟨_, e⟩ | ⟨k, hk, _, ⟨_, e⟩ | ⟨_, hf, e⟩ | ⟨_, _, _, e⟩ | ⟨_, _, _, e⟩⟩
  · rw [e]; exact h
  · rw [e]
    have gr := hI.good _ (List.mem_append_right _ (List.getElem_mem hk))
    have hI1 := (hI.took k).did p.dev.busy[k]
    have h1 : Tight ((p.took k).did p.dev.busy[k]) := h.congr rfl (fun r hr => by rw [did_all] at hr; exact took_sub k r hr)
    have hf : Freed ((p.took k).did p.dev.busy[k]) p.dev.busy[k] := by unfold Freed; rw [did_all]; exact took_freed hI hk
    exact Tight.serve (hI1.wentTo _ gr _ (didRead_short hs _) _ (Nat.le_refl _)) (Tight.wentTo hI1 h1 _ gr hf _ (didRead_short hs _) _ (Nat.le_refl _))
  · rw [e]
    refine h.congr rfl (fun r hr => ?_)
    have P : (p.queue ++ p.dev.busy).Perm (p.queue ++ (p.dev.busy.eraseIdx k ++ [p.dev.busy[k]])) := List.Perm.append_left _ (erase_perm p.dev.busy k hk).symm
    exact P.mem_iff.2 hr
  · rw [e]; exact Tight.serve ((hI.took k).lost _ _) (h.congr rfl (fun r hr => took_sub (p := p) k r hr))
  · rw [e]; exact Tight.serve (((hI.took k).lost' _).readers _ _ _) (h.congr rfl (fun r hr => took_sub (p := p) k r hr))
/-- All that stays. -/
structure Firm (n : Nat) (p : Sk) : Prop where
  fit : Fit n p
  tight : Tight p
theorem Firm.round {n : Nat} {p : Sk} (h : Firm n p) : Firm (n + 11) p.round := ⟨h.fit.round, Tight.end' ((h.fit.tick.clean.dispatches 3).inv) ((h.fit.tick.clean.dispatches 3).short) (Tight.dispatches 3 h.fit.tick.clean.inv (Tight.clean h.fit.tick.inv (Tight.tick h.fit.inv h.tight))) 0 false⟩
theorem Firm.doStep {n : Nat} {p : Sk} (h : Firm n p) (x : Sp) : Firm (n + 11) (p.doStep x).2 := by
  refine ⟨h.fit.doStep x, ?_⟩
  unfold Sk.doStep
  split
  · exact Tight.ask h.fit.inv h.tight _ _ _ _
  split
  · exact Tight.ask h.fit.inv h.tight _ _ _ _
  split
  · exact Tight.ask h.fit.inv h.tight _ _ _ _
  split
  · exact Tight.tick h.fit.inv h.tight
  split
  · exact Tight.clean h.fit.inv h.tight
  split
  · exact Tight.dispatch h.fit.inv h.tight
  split
  · exact Tight.end' h.fit.inv h.fit.short h.tight _ _
  split
  · exact Tight.end' h.fit.inv h.fit.short h.tight _ _
  split
  · exact h.round.tight
  · exact h.tight
theorem Firm.steps (l : List Sp) : ∀ {n : Nat} {p : Sk}, Firm n p → Firm (n + 11 * l.length) (p.steps l) := by
  induction l with
  | nil => intro n p h; exact h
  | cons x l ih =>
    intro n p h
    have := ih (h.doStep x)
    exact ⟨this.fit.mono (by rw [List.length_cons]; omega), this.tight⟩
theorem sk0_firm : Firm 0 sk0 := ⟨sk0_fit, fun r hr => by cases hr⟩
end Go.Proofs.YtgjkdhedkbkagaaGreat
