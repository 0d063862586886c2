/- DeviceSays: two devices, the code's and the document's, side by side. -/
import Derived.Test.YthmeaclekedilacRDev9
import Derived.Test.YthmeaclekedilacTopDevice
namespace Go.Proofs.Ythmeaclekedilac
open Go.RowKit Go.BigFrame
attribute [local go_sem] Later.cell Later.frozen

/-- The code's device and the document's, tied; both of the law's own. -/
structure Duo (w : World) (b1 : Nat) (d : Dl) (a : An) (b2 : Nat) (m : Rd) (ra : Ra) (wr : World) : Prop where
  c : DevAt b1 d a wr
  r : RdAt b2 m ra wr
  apart : ∀ k, a.foot b1 k → ra.foot b2 k → False
  fc : ∀ k, a.foot b1 k → w.heap.size ≤ k
  fr : ∀ k, ra.foot b2 k → w.heap.size ≤ k
  lf : m.busy ≠ [] → ∀ p, ra.la = some p → ¬ a.foot b1 p.block
  same : d.busy = m.busy
  at' : ∀ r ∈ d.busy, r.At w ∧ Good r
  tied : Tied d m
  bel : Below w.heap.size w wr
/-- Half a step: what the two have need not be the same. -/
structure Half (w : World) (b1 : Nat) (d : Dl) (a : An) (b2 : Nat) (m : Rd) (ra : Ra) (wr : World) : Prop where
  c : DevAt b1 d a wr
  r : RdAt b2 m ra wr
  apart : ∀ k, a.foot b1 k → ra.foot b2 k → False
  fc : ∀ k, a.foot b1 k → w.heap.size ≤ k
  fr : ∀ k, ra.foot b2 k → w.heap.size ≤ k
  lf : m.busy ≠ [] → ∀ p, ra.la = some p → ¬ a.foot b1 p.block
  at1 : ∀ r ∈ d.busy, r.At w
  at2 : ∀ r ∈ m.busy, r.At w
  bel : Below w.heap.size w wr
theorem RdAt.llt {b : Nat} {d : Rd} {a : Ra} {w : World} (h : RdAt b d a w) (hne : d.busy ≠ []) {p : Addr} (hp : a.la = some p) : p.block < w.heap.size := by
  rcases h.lrow.1 with e | ⟨b', o', ha, hc⟩
  · exact absurd e hne
  · have hp' : d.busy.length ≠ 0 := fun e => hne (List.eq_nil_of_length_eq_zero e)
    have := lt_of_cell (hc 0 (by omega) 0 (by omega))
    rw [ha] at hp
    simp only [Option.some.injEq] at hp
    subst hp
    exact this
theorem Duo.half {w wr : World} {b1 b2 : Nat} {d : Dl} {a : An} {m : Rd} {ra : Ra} (h : Duo w b1 d a b2 m ra wr) : Half w b1 d a b2 m ra wr := ⟨h.c, h.r, h.apart, h.fc, h.fr, h.lf, fun r hr => (h.at' r hr).1, fun r hr => (h.at' r (by rw [h.same]; exact hr)).1, h.bel⟩
theorem Half.stepC {w wr wr' : World} {b1 b2 : Nat} {d d' : Dl} {a a' : An} {m : Rd} {ra : Ra} (h : Half w b1 d a b2 m ra wr) (hs : DStep b1 d a d' a' wr wr') (hr : ∀ r ∈ d'.busy, r.At w) : Half w b1 d' a' b2 m ra wr' where
  c := hs.dev
  r := h.r.frame hs.only (fun k hk hc => h.apart k hc hk) h.lf (fun r hr' => off_of (h.at2 r hr') h.fc)
  apart := fun k hc hd => (hs.foot k hc).elim (fun hc' => h.apart k hc' hd) (fun h' => by have := h.r.footLt k hd; omega)
  fc := fun k hk => (hs.foot k hk).elim (h.fc k) (fun h' => Nat.le_trans h.bel.size h')
  fr := h.fr
  lf := fun hne p hp hk => (hs.foot _ hk).elim (h.lf hne p hp) (fun h' => by have := h.r.llt hne hp; omega)
  at1 := hr
  at2 := h.at2
  bel := h.bel.trans (hs.only.below h.bel.size h.fc)
theorem Half.stepR {w wr wr' : World} {b1 b2 : Nat} {d : Dl} {a : An} {m m' : Rd} {ra ra' : Ra} (h : Half w b1 d a b2 m ra wr) (hs : RStep b2 m ra m' ra' wr wr') (hr : ∀ r ∈ m'.busy, r.At w) : Half w b1 d a b2 m' ra' wr' where
  c := h.c.frame hs.only (fun k hk hc => h.apart k hk hc) (fun r hr' => off_of (h.at1 r hr') h.fr)
  r := hs.dev
  apart := fun k hc hd => (hs.foot k hd).elim (fun hd' => h.apart k hc hd') (fun h' => by have := h.c.footLt k hc; omega)
  fc := h.fc
  fr := fun k hk => (hs.foot k hk).elim (h.fr k) (fun h' => Nat.le_trans h.bel.size h')
  lf := fun hne p hp hk => (hs.lan hne p hp).elim (fun e => h.lf e.1 p e.2 hk) (fun h' => by have := h.c.footLt _ hk; omega)
  at1 := h.at1
  at2 := hr
  bel := h.bel.trans (hs.only.below h.bel.size h.fr)
theorem Half.later {w wr wr' : World} {b1 b2 : Nat} {d : Dl} {a : An} {m : Rd} {ra : Ra} (h : Half w b1 d a b2 m ra wr) (hb : Below wr.heap.size wr wr') : Half w b1 d a b2 m ra wr' := h.stepC (DStep.same h.c hb) h.at1
theorem Half.duo {w wr : World} {b1 b2 : Nat} {d : Dl} {a : An} {m : Rd} {ra : Ra} (h : Half w b1 d a b2 m ra wr) (hs : d.busy = m.busy) (hg : ∀ r ∈ d.busy, Good r) (ht : Tied d m) : Duo w b1 d a b2 m ra wr := ⟨h.c, h.r, h.apart, h.fc, h.fr, h.lf, hs, fun r hr => ⟨h.at1 r hr, hg r hr⟩, ht, h.bel⟩
theorem Duo.later {w wr wr' : World} {b1 b2 : Nat} {d : Dl} {a : An} {m : Rd} {ra : Ra} (h : Duo w b1 d a b2 m ra wr) (hb : Below wr.heap.size wr wr') : Duo w b1 d a b2 m ra wr' := (h.half.later hb).duo h.same (fun r hr => (h.at' r hr).2) h.tied
set_option maxHeartbeats 1000000 in
theorem sameRes_er (er : Int) (r : Rq) (xs : List ByteArray) (xa ya : Option Addr) (n xc yc : Nat) (hn : n = xs.length) (w : World) (hr : r.At w) (hx : StrsAt w xa xs) (hy : StrsAt w ya xs) (hl : xs.length ≤ 100) :
    Calls Try.prog 18 #[resV r xa n xc er, resV r ya n yc er] w fun e w' => e = .returned (.bool true) ∧ Below w.heap.size w w' := by
  subst hn
  have hs : sameB r r = true := by simp [sameB, eqS, eqN]
  have he : eqS xs xs = true := by simp [eqS]
  have HS := hidT hs
  have HE := hidT he
  clear hs he
  go_enter Try.func18, Try.ntmps18
  go_wp2_with fail
  refine (sameReq_any r r _ (hr.later (by repeat (first | with_reducible exact Below.refl _ _ | with_reducible refine balloc ?_ _ | with_reducible refine bdrew ?_ | with_reducible refine bset' ?_ (by omega) _ | with_reducible refine bthen ?_ (by assumption)))) (hr.later (by repeat (first | with_reducible exact Below.refl _ _ | with_reducible refine balloc ?_ _ | with_reducible refine bdrew ?_ | with_reducible refine bset' ?_ (by omega) _ | with_reducible refine bthen ?_ (by assumption)))) _ HS.out).mono ?_
  rintro e w1 ⟨rfl, hb1⟩
  have c6 := (hb1.cell (p := ⟨w.heap.size, 6, none⟩) (by simp; omega)).trans (show _ = some (.slice xa xs.length xc) by simp)
  have c7 := (hb1.cell (p := ⟨w.heap.size, 7, none⟩) (by simp; omega)).trans (show _ = some (.int .i64 er) by simp)
  have d6 := (hb1.cell (p := ⟨w.heap.size + 1, 6, none⟩) (by simp)).trans (show _ = some (.slice ya xs.length yc) by simp)
  have d7 := (hb1.cell (p := ⟨w.heap.size + 1, 7, none⟩) (by simp)).trans (show _ = some (.int .i64 er) by simp)
  have HB1 := hidT (show Below w.heap.size w w1 by repeat (first | with_reducible exact Below.refl _ _ | with_reducible refine balloc ?_ _ | with_reducible refine bdrew ?_ | with_reducible refine bset' ?_ (by omega) _ | with_reducible refine bthen ?_ (by assumption)))
  clear hb1
  go_wp2_with fail
  refine (texts_any xs xs xa ya _ _ _ (hx.later HB1.out) (hy.later HB1.out) (by omega)).mono ?_
  rw [HE.out]
  rintro e w2 ⟨rfl, hb2⟩
  replace c7 := cell_later' hb2 c7
  replace d7 := cell_later' hb2 d7
  have HB2 := hidT (bthen HB1.out hb2)
  clear hb2
  go_wp2
  go_ret
  exact ⟨rfl, HB2.out⟩
/-- A new device of the document. -/
def m0 : Rd := ⟨List.replicate 32 ByteArray.empty, List.replicate 32 ByteArray.empty, [], []⟩
def ra0 : Ra := ⟨none, 0, none, 0⟩
theorem m0_at (w : World) (b : Nat) (h : w.heap[b]? = some (.cells (m0.cells ra0).toArray 32 (0, 0))) : RdAt b m0 ra0 w where
  k32 := rfl
  n32 := rfl
  blk := h
  wrow := World.ownsRow_nil _ _ _ _
  lrow := ⟨Or.inl rfl, by simp [m0], by simp [m0]⟩
  lnil := fun _ => rfl
  lcap := by simp [m0]
  loff := fun h => absurd rfl h
  sepw := fun p hp => by cases hp
  reqs := fun r hr => by cases hr
  wfin := fun r hr => by cases hr
  blen := by simp [m0]
theorem ra0_foot {b k : Nat} (h : ra0.foot b k) : k = b := by
  rcases h with h | ⟨p, hp, _⟩
  · exact h
  · cases hp
set_option maxRecDepth 100000 in
set_option maxHeartbeats 1000000 in
theorem devices_any (w : World) : Calls Try.prog 9 #[] w fun e w' => e = .returned (.bool true) ∧ Below w.heap.size w w' := by
  go_enter Try.func9, Try.ntmps9
  go_wp2_with fail
  refine (new_any _).mono ?_
  rintro e w1 ⟨rfl, hd1, hb1, hz1⟩
  have HD1 := hidT (⟨hd1, hb1, hz1⟩ : _ ∧ _ ∧ _)
  clear hd1 hb1 hz1
  go_wp2_with fail
  have hbx := below2 w1 (.cells #[.string ⟨#[120]⟩] 9) (.cells #[.int .i64 1] 3)
  have hra := atW w1.heap.size (w1.heap.size + 1) ((w1.alloc (.cells #[.string ⟨#[120]⟩] 9)).alloc (.cells #[.int .i64 1] 3)) (by simp [go_sem]) (by simp [go_sem])
  refine (start_ok w.heap.size d0 an0 (rqW w1.heap.size (w1.heap.size + 1)) _ (HD1.out.1.later hbx) (by decide) hra ⟨fun _ ad e hk => by have := an0_foot hk; have h9 := HD1.out.2.2; simp [rqW] at e; subst e; simp at this; omega, fun _ ad e hk => by have := an0_foot hk; have h9 := HD1.out.2.2; simp [rqW] at e; subst e; simp at this; omega⟩).mono ?_
  rintro e w2 ⟨a2, rfl, hs2⟩
  have HS2 := hidT hs2
  have HBX := hidT hbx
  clear hs2 hbx hra
  go_wp2_with fail
  refine (end_only w.heap.size d0 (rqW w1.heap.size (w1.heap.size + 1)) a2 _ rfl HS2.out.dev (goodW _ _)).mono ?_
  rintro e w3 ⟨a3, xa, xc, xs, rfl, -, -, -, hs3⟩
  have HS3 := hidT (((DStep.same HD1.out.1 HBX.out).trans HS2.out).trans hs3)
  clear hs3 HS2 HBX
  go_wp2_with fail
  refine (same_nil 0 _).mono ?_
  rintro e w4 ⟨rfl, hb4⟩
  go_wp2_with fail
  refine (same_nil 0 _).mono ?_
  rintro e w5 ⟨rfl, hb5⟩
  have HM5 := hidT (((HS3.out.later (below1 w3 _)).later hb4).later hb5)
  clear hb4 hb5 HS3
  go_wp2_with fail
  refine (peek_in w.heap.size _ a3 3 _ HM5.out.dev (by omega) ⟨#[120]⟩ (has3 _ _)).mono ?_
  rintro e w6 ⟨rfl, hb6⟩
  have hB6 : Below w.heap.size w w6 := HD1.out.2.1.trans ((HM5.out.later hb6).only.below HD1.out.2.1.size (fun k hk => by rw [an0_foot hk]; exact Nat.le_refl _))
  have HB6 := hidT hB6
  clear hb6 hB6 HM5
  go_wp2
  go_ret
  exact ⟨rfl, HB6.out⟩
end Go.Proofs.Ythmeaclekedilac
