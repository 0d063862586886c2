/- A device: End of any request; two devices at once; what a sector has behind it. -/
import Derived.Test.YthmeaclekedilacTopPart
namespace Go.Proofs.Ythmeaclekedilac
open Go.RowKit Go.BigFrame
attribute [local go_sem] Later.cell Later.frozen

theorem end_any (b : Nat) (d : Dl) (a : An) (k : Nat) (hk : k < d.busy.length) (w : World) (h : DevAt b d a w) (gr : Good d.busy[k]) :
    Calls Try.prog 16 #[.pointer (some ⟨b, 0, none⟩), .int .i64 k, .bool false] w fun e w' => ∃ a' xa xc xs, e = .returned (.tuple #[resV d.busy[k] xa (List.length xs) xc 0, .nilIface]) ∧ Hid (xs = didRead d d.busy[k]) ∧ StrsAt w' xa xs ∧ (∀ ad, xa = some ad → w.heap.size ≤ ad.block ∧ ¬ a'.foot b ad.block) ∧ DStep b d a (({ d with busy := d.busy.eraseIdx k } : Dl).did d.busy[k]) a' w w' := by
  by_cases hw : d.busy[k].wr = true
  · refine (end_write b d a k hk w h gr hw).mono ?_
    rintro e w' ⟨a', rfl, hs⟩
    refine ⟨a', none, 0, [], rfl, by show _ = _; rw [didRead, if_pos hw], Or.inl rfl, by simp, ?_⟩
    rw [Dl.did, if_pos hw]; exact hs
  · have hw' : d.busy[k].wr = false := by simpa using hw
    refine (end_read b d a k hk w h gr hw').mono ?_
    rintro e w' ⟨a', xa, xc, rfl, h1, h2, h3, hs⟩
    refine ⟨a', xa, xc, _, rfl, by show _ = _; rw [didRead, if_neg hw], h1, h3, ?_⟩
    rw [Dl.did, if_neg hw]; exact hs

theorem end_at (b : Nat) (d : Dl) (a : An) (l : List Rq) (k : Nat) (r : Rq) (hb : d.busy = l) (hk : l[k]? = some r) (w : World) (h : DevAt b d a w) (gr : Good r) :
    Calls Try.prog 16 #[.pointer (some ⟨b, 0, none⟩), .int .i64 k, .bool false] w fun e w' => ∃ a' xa xc xs, e = .returned (.tuple #[resV r xa (List.length xs) xc 0, .nilIface]) ∧ Hid (xs = didRead d r) ∧ StrsAt w' xa xs ∧ (∀ ad, xa = some ad → w.heap.size ≤ ad.block ∧ ¬ a'.foot b ad.block) ∧ DStep b d a (({ d with busy := l.eraseIdx k } : Dl).did r) a' w w' := by
  subst hb
  obtain ⟨hk', rfl⟩ := List.getElem?_eq_some_iff.1 hk
  exact end_any b d a k hk' w h gr
/-- What a sector has. -/
def Dl.has (d : Dl) (p : Nat) : ByteArray := d.now.getD p ByteArray.empty
theorem write_has (d : Dl) (q : Nat) (s : ByteArray) (p : Nat) (hq : q < d.now.length) : (d.write q s).has p = if p = q then s else d.has p := by
  unfold Dl.has Dl.write
  simp only [List.getD_eq_getElem?_getD, List.getElem?_set]
  by_cases e : q = p
  · subst e; simp [hq]
  · rw [if_neg e, if_neg (fun h => e h.symm)]
theorem write_len (d : Dl) (q : Nat) (s : ByteArray) : (d.write q s).now.length = d.now.length := by simp [Dl.write]
theorem writesTo_len (d : Dl) (r : Rq) (n : Nat) : (d.writesTo r n).now.length = d.now.length := by
  induction n with
  | zero => rfl
  | succ n ih => rw [Dl.writesTo_succ, write_len, ih]
theorem writesTo_has (d : Dl) (r : Rq) (n p : Nat) (h : r.f.toNat + n ≤ d.now.length) : (d.writesTo r n).has p = if r.f.toNat ≤ p ∧ p < r.f.toNat + n then r.data.getD (p - r.f.toNat) ByteArray.empty else d.has p := by
  induction n with
  | zero => rw [if_neg (by omega)]; rfl
  | succ n ih =>
    rw [Dl.writesTo_succ, write_has _ _ _ _ (by rw [writesTo_len]; omega), ih (by omega)]
    by_cases e : p = r.f.toNat + n
    · subst e
      rw [if_pos rfl, if_pos (by omega)]
      congr 1; omega
    · rw [if_neg e]
      by_cases e2 : r.f.toNat ≤ p ∧ p < r.f.toNat + n
      · rw [if_pos e2, if_pos (by omega)]
      · rw [if_neg e2, if_neg (by omega)]
theorem did_has (d : Dl) (r : Rq) (p : Nat) (h : r.f.toNat + r.m.toNat ≤ d.now.length) : (d.did r).has p = if r.wr = true ∧ r.f.toNat ≤ p ∧ p < r.f.toNat + r.m.toNat then r.data.getD (p - r.f.toNat) ByteArray.empty else d.has p := by
  unfold Dl.did
  by_cases hw : r.wr = true
  · rw [if_pos hw, writesTo_has d r _ p h]; simp [hw]
  · rw [if_neg hw, if_neg (fun h => hw h.1)]
theorem did_len (d : Dl) (r : Rq) : (d.did r).now.length = d.now.length := by unfold Dl.did; split; exact writesTo_len _ _ _; rfl
theorem did_swap (d : Dl) (a b : Rq) (la lb l1 : List Rq) (p : Nat) (ha : a.f.toNat + a.m.toNat ≤ d.now.length) (hb : b.f.toNat + b.m.toNat ≤ d.now.length) (hab : a.f.toNat + a.m.toNat ≤ b.f.toNat ∨ b.f.toNat + b.m.toNat ≤ a.f.toNat) :
    (({ ({ d with busy := la } : Dl).did a with busy := l1 } : Dl).did b).has p = (({ ({ d with busy := lb } : Dl).did b with busy := l1 } : Dl).did a).has p := by
  rw [did_has _ b p (by show _ ≤ (({ d with busy := la } : Dl).did a).now.length; rw [did_len]; exact hb), did_has _ a p (by show _ ≤ (({ d with busy := lb } : Dl).did b).now.length; rw [did_len]; exact ha)]
  show (if _ then _ else (({ d with busy := la } : Dl).did a).has p) = (if _ then _ else (({ d with busy := lb } : Dl).did b).has p)
  rw [did_has ({ d with busy := la } : Dl) a p ha, did_has ({ d with busy := lb } : Dl) b p hb]
  by_cases h1 : b.wr = true ∧ b.f.toNat ≤ p ∧ p < b.f.toNat + b.m.toNat
  · rw [if_pos h1, if_pos h1, if_neg (by omega)]
  · rw [if_neg h1, if_neg h1]; rfl
theorem readTo_did (d : Dl) (a b : Rq) (l : List Rq) (hb : b.f.toNat + b.m.toNat ≤ d.now.length) (hab : a.f.toNat + a.m.toNat ≤ b.f.toNat ∨ b.f.toNat + b.m.toNat ≤ a.f.toNat) : didRead (({ d with busy := l } : Dl).did b) a = didRead d a := by
  unfold didRead
  split
  · rfl
  · unfold readTo
    refine List.map_congr_left fun j hj => ?_
    have hj' := List.mem_range.1 hj
    have := did_has ({ d with busy := l } : Dl) b (a.f.toNat + j) hb
    rw [if_neg (by omega)] at this
    exact this
theorem meet_apart {a b : Rq} (ga : Good a) (gb : Good b) (h : meetB a.f a.m b.f b.m = false) : a.f.toNat + a.m.toNat ≤ b.f.toNat ∨ b.f.toNat + b.m.toNat ≤ a.f.toNat := by
  rw [meetB_ok _ _ _ _ (ok4_32 ga.ok) (ok4_32 gb.ok)] at h
  have h := of_decide_eq_false h
  have := ga.bndD
  have := gb.bndD
  omega
/-- Two devices of a law's own. -/
structure Two (w : World) (bc : Nat) (dc : Dl) (ac : An) (bd : Nat) (dd : Dl) (ad : An) (wr : World) : Prop where
  c : DevAt bc dc ac wr
  d : DevAt bd dd ad wr
  apart : ∀ k, ac.foot bc k → ad.foot bd k → False
  fc : ∀ k, ac.foot bc k → w.heap.size ≤ k
  fd : ∀ k, ad.foot bd k → w.heap.size ≤ k
  rc : ∀ r ∈ dc.busy, r.At w
  rd : ∀ r ∈ dd.busy, r.At w
  bel : Below w.heap.size w wr
theorem Two.stepC {w wr wr' : World} {bc bd : Nat} {dc dc' dd : Dl} {ac ac' ad : An} (h : Two w bc dc ac bd dd ad wr) (hs : DStep bc dc ac dc' ac' wr wr') (hr : ∀ r ∈ dc'.busy, r.At w) : Two w bc dc' ac' bd dd ad wr' where
  c := hs.dev
  d := h.d.frame hs.only (fun k hk hc => h.apart k hc hk) (fun r hr' => off_of (h.rd r hr') h.fc)
  apart := fun k hc hd => (hs.foot k hc).elim (fun hc' => h.apart k hc' hd) (fun h' => by have := h.d.footLt k hd; omega)
  fc := fun k hk => (hs.foot k hk).elim (h.fc k) (fun h' => Nat.le_trans h.bel.size h')
  fd := h.fd
  rc := hr
  rd := h.rd
  bel := h.bel.trans (hs.only.below h.bel.size h.fc)
theorem Two.swap {w wr : World} {bc bd : Nat} {dc dd : Dl} {ac ad : An} (h : Two w bc dc ac bd dd ad wr) : Two w bd dd ad bc dc ac wr := ⟨h.d, h.c, fun k h1 h2 => h.apart k h2 h1, h.fd, h.fc, h.rd, h.rc, h.bel⟩
theorem Two.stepD {w wr wr' : World} {bc bd : Nat} {dc dd dd' : Dl} {ac ad ad' : An} (h : Two w bc dc ac bd dd ad wr) (hs : DStep bd dd ad dd' ad' wr wr') (hr : ∀ r ∈ dd'.busy, r.At w) : Two w bc dc ac bd dd' ad' wr' := (h.swap.stepC hs hr).swap
theorem Two.later {w wr wr' : World} {bc bd : Nat} {dc dd : Dl} {ac ad : An} (h : Two w bc dc ac bd dd ad wr) (hb : Below wr.heap.size wr wr') : Two w bc dc ac bd dd ad wr' := ⟨h.c.later hb, h.d.later hb, h.apart, h.fc, h.fd, h.rc, h.rd, bthen h.bel hb⟩
set_option maxHeartbeats 1000000 in
theorem sameRes_yes (r : Rq) (xs : List ByteArray) (xa ya : Option Addr) (n xc yc : Nat) (hn : n = xs.length) (w : World) (hr : r.At w) (hx : StrsAt w xa xs) (hy : StrsAt w ya xs) (hl : xs.length ≤ 100) :
    Calls Try.prog 18 #[resV r xa n xc 0, resV r ya n yc 0] w fun e w' => e = .returned (.bool true) ∧ Below w.heap.size w w' := by
  subst hn
  have hs : sameB r r = true := by simp [sameB, eqS, eqN]
  have he : eqS xs xs = true := by simp [eqS]
  have HS := hidT hs
  have HE := hidT he
  clear hs he
  go_enter Try.func18, Try.ntmps18
  go_wp2_with fail
  refine (sameReq_any r r _ (hr.later (by repeat (first | with_reducible exact Below.refl _ _ | with_reducible refine balloc ?_ _ | with_reducible refine bdrew ?_ | with_reducible refine bset' ?_ (by omega) _ | with_reducible refine bthen ?_ (by assumption)))) (hr.later (by repeat (first | with_reducible exact Below.refl _ _ | with_reducible refine balloc ?_ _ | with_reducible refine bdrew ?_ | with_reducible refine bset' ?_ (by omega) _ | with_reducible refine bthen ?_ (by assumption)))) _ HS.out).mono ?_
  rintro e w1 ⟨rfl, hb1⟩
  have c6 := (hb1.cell (p := ⟨w.heap.size, 6, none⟩) (by simp; omega)).trans (show _ = some (.slice xa xs.length xc) by simp)
  have c7 := (hb1.cell (p := ⟨w.heap.size, 7, none⟩) (by simp; omega)).trans (show _ = some (.int .i64 0) by simp)
  have d6 := (hb1.cell (p := ⟨w.heap.size + 1, 6, none⟩) (by simp)).trans (show _ = some (.slice ya xs.length yc) by simp)
  have d7 := (hb1.cell (p := ⟨w.heap.size + 1, 7, none⟩) (by simp)).trans (show _ = some (.int .i64 0) by simp)
  have HB1 := hidT (show Below w.heap.size w w1 by repeat (first | with_reducible exact Below.refl _ _ | with_reducible refine balloc ?_ _ | with_reducible refine bdrew ?_ | with_reducible refine bset' ?_ (by omega) _ | with_reducible refine bthen ?_ (by assumption)))
  clear hb1
  go_wp2_with fail
  refine (texts_any xs xs xa ya _ _ _ (hx.later HB1.out) (hy.later HB1.out) (by omega)).mono ?_
  rw [HE.out]
  rintro e w2 ⟨rfl, hb2⟩
  replace c7 := cell_later' hb2 c7
  replace d7 := cell_later' hb2 d7
  have HB2 := hidT (bthen HB1.out hb2)
  clear hb2
  go_wp2
  go_ret
  exact ⟨rfl, HB2.out⟩
end Go.Proofs.Ythmeaclekedilac
