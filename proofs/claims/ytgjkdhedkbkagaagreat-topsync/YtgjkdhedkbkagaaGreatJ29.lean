/- A stack of all: one who waits to read. -/
import Derived.Test.YtgjkdhedkbkagaaGreatJ28
namespace Go.Proofs.YtgjkdhedkbkagaaGreat
open Go.RowKit Go.BigFrame Go.Maps
set_option maxRecDepth 100000
attribute [local go_sem] Later.cell Later.frozen

theorem held_nf (p : Sk) (n : Int) : p.nf.held n = p.held n := by
  show ((p.queue.map Rq.nf ++ p.dev.busy.map Rq.nf).any fun r => hasB r.f r.m n) = _
  rw [← List.map_append, List.any_map]
  rfl
theorem askR_good {p : Sk} {pl : Int} {wr : Bool} {data : List ByteArray} (g : Good (p.reqOf pl wr data)) (da : Option Addr) (dc tb : Nat) : Good (askR p pl wr data da dc tb) ∧ faultR (askR p pl wr data da dc tb) = 0 := by
  have : Good (askR p pl wr data da dc tb) := ⟨g.ok, g.shape, g.t1, g.t4, g.b0, g.b1, g.small⟩
  exact ⟨this, (good_iff _).2 this⟩
theorem Inv.goods {p : Sk} (h : Inv p) (i : Nat) (hi : i < p.queue.length) : Good p.queue[i] := h.good _ (List.mem_append_left _ (List.getElem_mem hi))
/-- What a step has made is that, but for the places of lists. -/
def SOk (s : Nat) (p : Sk) (A : Sa) (w w' : World) (q : Sk) : Prop := ∃ p' A', SStep s p A p' A' w w' ∧ p'.nf = q
set_option linter.unusedSimpArgs false in
set_option maxRecDepth 100000 in
set_option maxHeartbeats 1000000 in
theorem serveRead_no (s : Nat) (p : Sk) (A : Sa) (w : World) (h : StkAt s p A w) (hI : Inv p) (hT : p.tags ≤ 4000000000000000000) (i : Nat) (hi : i < 3) (hk : ¬ (p.client i).kind = 0) (hg : getB p.hand (p.client i).pl = none) (q : Sk) (hq : p.nf.serveRead i = q) :
    Calls Tryz.prog 74 #[.pointer (some ⟨s, 0, none⟩), .pointer (some ⟨s, 2 + i * 6, none⟩)] w fun e w' => e = .returned (.tuple #[]) ∧ SOk s p A w w' q := by
  have HPL := hidT ((hI.client i).pl hk)
  have e1 : p.nf.serveRead i = if p.held (p.client i).pl = true then p.nf else (p.nf.askQ (p.client i).pl false []).2 := by
    rw [← held_nf]
    show (match getB p.hand (p.client i).pl with | some b => _ | none => _) = _
    rw [hg]; rfl
  rw [e1] at hq
  have HIX : Hid (idxB (plB (p.client i).pl) p.hand = -1) := by
    rcases getB_idx p.hand (p.client i).pl with ⟨_, h'⟩ | ⟨k, hk', h', _⟩
    · exact h'
    · rw [hg] at h'; cases h'
  have HGR := hidT (fun tb => askR_good (reqOf_good hI (p.client i).pl HPL.out false [] (Or.inr ⟨rfl, rfl⟩)) none 0 tb)
  have HGL := hidT hI.goods
  have HQ6 := hidT hI.q6
  have HTM := hidT (And.intro hI.tg hI.mom)
  obtain ⟨-, d1, -⟩ := h.client i hi
  have c20 := h.cell 20 _ rfl
  have hl := h.lt
  have HST := hidT h
  have HH := hidT h.mem.hand
  clear h hI e1 hg
  generalize hpl : (p.client i).pl = pl at *
  have HC : Hid ((p.client i).pl = pl) := hpl
  have HQ := hidT hq
  clear hpl hq
  go_enter Tryz.func74, Tryz.ntmps74
  go_wp2_with fail
  go_region_held3 (fun w' => w'.cell? ⟨s, 20, none⟩ = some (.slice A.ha p.hand.length A.hc) ∧ w'.cell? ⟨s, 2 + i * 6 + 1, none⟩ = some (.int .i64 pl)) (exact ⟨cellB_later' (w := w) (by repeat (first | with_reducible exact Below.refl _ _ | with_reducible refine balloc ?_ _ | with_reducible refine bdrew ?_ | with_reducible refine bset' ?_ (by omega) _ | with_reducible refine bthen ?_ (by assumption))) c20, cellB_later' (w := w) (by repeat (first | with_reducible exact Below.refl _ _ | with_reducible refine balloc ?_ _ | with_reducible refine bdrew ?_ | with_reducible refine bset' ?_ (by omega) _ | with_reducible refine bthen ?_ (by assumption))) d1⟩) (first | (go_at_call 52; refine (get_no p.hand A.ha A.hc pl _ (HH.out.later (by repeat (first | with_reducible exact Below.refl _ _ | with_reducible refine balloc ?_ _ | with_reducible refine bdrew ?_ | with_reducible refine bset' ?_ (by omega) _ | with_reducible refine bthen ?_ (by assumption)))) HIX.out).mono ?_; rintro e w1 ⟨rfl, hb1⟩; have z1 : w.heap.size ≤ w1.heap.size := (show Below w.heap.size w w1 by repeat (first | with_reducible exact Below.refl _ _ | with_reducible refine balloc ?_ _ | with_reducible refine bdrew ?_ | with_reducible refine bset' ?_ (by omega) _ | with_reducible refine bthen ?_ (by assumption))).size; (try (obtain ⟨k0, k1, k2, k3, k4, k5, k6, k7⟩ : w1.cell? ⟨w.heap.size, 0, none⟩ = some (.int .i64 0) ∧ w1.cell? ⟨w.heap.size, 1, none⟩ = some (.string ⟨#[]⟩) ∧ w1.cell? ⟨w.heap.size, 2, none⟩ = some (.bool false) ∧ w1.cell? ⟨w.heap.size, 3, none⟩ = some (.int .i64 0) ∧ w1.frozen? ⟨w.heap.size, 0, none⟩ = false ∧ w1.frozen? ⟨w.heap.size, 1, none⟩ = false ∧ w1.frozen? ⟨w.heap.size, 2, none⟩ = false ∧ w1.frozen? ⟨w.heap.size, 3, none⟩ = false; (focus ((refine ⟨(hb1.cell (p := ⟨w.heap.size, 0, none⟩) ?_).trans ?_, (hb1.cell (p := ⟨w.heap.size, 1, none⟩) ?_).trans ?_, (hb1.cell (p := ⟨w.heap.size, 2, none⟩) ?_).trans ?_, (hb1.cell (p := ⟨w.heap.size, 3, none⟩) ?_).trans ?_, (hb1.frozen (p := ⟨w.heap.size, 0, none⟩) ?_).trans ?_, (hb1.frozen (p := ⟨w.heap.size, 1, none⟩) ?_).trans ?_, (hb1.frozen (p := ⟨w.heap.size, 2, none⟩) ?_).trans ?_, (hb1.frozen (p := ⟨w.heap.size, 3, none⟩) ?_).trans ?_⟩); (all_goals simp); (all_goals omega)))))))
  all_goals
    go_wp2_with fail
    refine (held_any s p A _ (HST.out.later (by repeat (first | with_reducible exact Below.refl _ _ | with_reducible refine balloc ?_ _ | with_reducible refine bdrew ?_ | with_reducible refine bset' ?_ (by omega) _ | with_reducible refine bthen ?_ (by assumption)))) (by have := HQ6.out; omega)).mono ?_
    rintro e w2 ⟨hb, rfl, hH, hb2⟩
    have HB2 : Hid (Below w.heap.size w w2) := (show Below w.heap.size w w2 by repeat (first | with_reducible exact Below.refl _ _ | with_reducible refine balloc ?_ _ | with_reducible refine bdrew ?_ | with_reducible refine bset' ?_ (by omega) _ | with_reducible refine bthen ?_ (by assumption)))
    have HHO := hidT hH
    have HS2 := hidT (SStep.same' HST.out HB2.out)
    have g1 := (HS2.out.at'.client i hi).2.1
    rw [HC.out] at g1
    have l2 := HS2.out.at'.lt
    clear hb2 hH c20 d1
    go_wp2_with fail
    refine (hold1_any hb _ pl w2 HHO.out).mono ?_
    rintro e w3 ⟨rfl, hb3⟩
    have HS3 := hidT (HS2.out.later hb3)
    have g3 := (HS3.out.at'.client i hi).2.1
    rw [HC.out] at g3
    have l3 := HS3.out.at'.lt
    have HEQ : Hid (holdsB (p.queue ++ p.dev.busy) pl = p.held pl) := hidT rfl
    cases hh : holdsB (p.queue ++ p.dev.busy) pl
    · have HF : Hid (p.held pl = false) := HEQ.out.symm.trans hh
      go_wp2_with fail
      refine (askQ_any s p A w3 HS3.out.at' (by have := HQ6.out; omega) HGL.out ⟨HTM.out.1, hT⟩ HTM.out.2 pl HPL.out false [] (by simp) none 0 (Or.inl rfl) (fun _ => rfl) (fun hne => absurd rfl hne) HGR.out).mono ?_
      rintro e w4 ⟨p', A', rfl, hs4, hn4⟩
      have HS4 := hidT (HS3.out.trans hs4)
      have HN4 := hidT hn4
      clear hs4 hn4
      go_wp2
      go_end0
      exact ⟨rfl, p', A', HS4.out, HN4.out.trans (by rw [← HQ.out, HF.out]; rfl)⟩
    · have HF : Hid (p.held pl = true) := HEQ.out.symm.trans hh
      go_wp2
      go_end0
      exact ⟨rfl, p, A, HS3.out, by rw [← HQ.out, HF.out]; rfl⟩
end Go.Proofs.YtgjkdhedkbkagaaGreat
/- A stack of all: one who waits to read, and what it reads is at hand. -/
namespace Go.Proofs.YtgjkdhedkbkagaaGreat
open Go.RowKit Go.BigFrame Go.Maps
set_option maxRecDepth 100000
attribute [local go_sem] Later.cell Later.frozen

theorem exit_world {K : Act → World → Prop} {Q : Exit → Act → World → Prop} {a : Act} {w : World} (R : World → Prop) (h : R w) (k : ∀ w', R w' → Exit.then K Q .normal a w') : Exit.then K Q .normal a w := k w h
theorem step_call3E {P : Program} {ops : Array Oper} {o : Oper} {a : Act} {w : World} {K : Act → World → Prop} {Q : Exit → Act → World → Prop} {E : Prop}
    (hg : o.guard = none) (f : FuncId) (x1 x2 x3 : Nat) (t1 t2 t3 : TypeId) (hop : o.op = Op.call { callee := Callee.value (.func f), args := #[.tmp x1, .tmp x2, .tmp x3], argTypes := #[t1, t2, t3] }) (eg : ∀ args w, (callFunc f args).run P w = .ok (.enter f args) w)
    (v1 v2 v3 : Value) (e1 : a.tmps[x1]?.getD undef = v1) (e2 : a.tmps[x2]?.getD undef = v2) (e3 : a.tmps[x3]?.getD undef = v3) (R : Value → World → Prop) (hc : Calls P f #[v1, v2, v3] w fun e w' => ∃ r, e = .returned r ∧ R r w') (h : ∀ r w', R r w' → K (a.put o.dst r) w') :
    if Region.wanted o (yielded ops a.tmps) = true then Oper.wp P o a w K Q else E := by
  have hw : Region.wanted o (yielded ops a.tmps) = true := by simp [Region.wanted, hg]
  rw [if_pos hw]
  unfold Oper.wp
  simp [execOp, hop, resolve, invoke, e1, e2, e3, eg, go_sem]
  refine hc.mono ?_
  rintro _ w' ⟨r, rfl, hs⟩
  exact h r w' hs
section
variable {s : Nat} {p : Sk} {A : Sa} {w : World}
theorem StkMem.setHand (h : StkMem s p A w) (l : List Bf) (a' : Option Addr) (c' : Nat) (hB : BufsAt w a' l) (hcap : l.length ≤ c') (hnil : a' = none → c' = 0) (ho : l ≠ [] → ∀ q, a' = some q → ¬ A.off s q.block) : StkMem s { p with hand := l } { A with ha := a', hc := c' } w where
  drv := h.drv
  map := h.map
  im := h.im
  nb := h.nb
  hand := hB
  hnil := hnil
  hcap := hcap
  queue := h.queue
  qnil := h.qnil
  qcap := h.qcap
  left := h.left
  sv := h.sv
  vl := h.vl
  ll := h.ll
  hoffX := ho
  qoffX := h.qoffX
  roffX := h.roffX
  xlt := h.xlt
theorem StkMem.setUses (h : StkMem s p A w) (u : Int) : StkMem s { p with uses := u } A w where
  drv := h.drv
  map := h.map
  im := h.im
  nb := h.nb
  hand := h.hand
  hnil := h.hnil
  hcap := h.hcap
  queue := h.queue
  qnil := h.qnil
  qcap := h.qcap
  left := h.left
  sv := h.sv
  vl := h.vl
  ll := h.ll
  hoffX := h.hoffX
  qoffX := h.qoffX
  roffX := h.roffX
  xlt := h.xlt
/-- Something was used once more. -/
theorem StkAt.setUses (h : StkAt s p A w) (u : Int) : SStep s p A { p with uses := u } A w (w.setCell ⟨s, 28, none⟩ (.int .i64 u)) := h.put (h.mem.setUses u) 28 _ rfl (fun _ hk => hk) ⟨rfl, rfl, rfl, rfl⟩
/-- What is at hand is something else, in new memory. -/
theorem StkAt.setHand (h : StkAt s p A w) (l : List Bf) (a' : Option Addr) (c' : Nat) (hB : BufsAt w a' l) (hcap : l.length ≤ c') (hnil : a' = none → c' = 0) (ho : l ≠ [] → ∀ q, a' = some q → ¬ A.off s q.block) : SStep s p A { p with hand := l } { A with ha := a', hc := c' } w (w.setCell ⟨s, 20, none⟩ (.slice a' l.length c')) := h.put (h.mem.setHand l a' c' hB hcap hnil ho) 20 _ rfl (fun _ hk => hk) ⟨rfl, rfl, rfl, rfl⟩
end
theorem useL_lenS (l : List Bf) (pl u : Int) : (useL l pl u).length = l.length := by simp [useL]
theorem SStep.box {s : Nat} {p p' : Sk} {A A' : Sa} {w wz w' : World} {g j : Nat} {v : Value} (hs : SStep s p A p' A' wz w') (h0 : StkAt s p A w) (hg : w.heap.size ≤ g) (hc : wz.cell? ⟨g, j, none⟩ = some v) : w'.cell? ⟨g, j, none⟩ = some v :=
  (hs.only.cell (p := ⟨g, j, none⟩) (lt_of_cell hc) (fun e => by have := h0.footLt _ e; simp only at this; omega)).trans hc
set_option linter.unusedSimpArgs false in
set_option maxRecDepth 100000 in
set_option maxHeartbeats 2000000 in
theorem serveRead_yes (s : Nat) (p : Sk) (A : Sa) (w : World) (h : StkAt s p A w) (hI : Inv p) (hU : p.uses ≤ 4000000000000000000) (i : Nat) (hi : i < 3) (k : Nat) (hk : k < p.hand.length) (hg : getB p.hand (p.client i).pl = some p.hand[k]) (hix : idxB (plB (p.client i).pl) p.hand = k) (ho : OnceB p.hand) (q : Sk) (hq : p.nf.serveRead i = q) :
    Calls Tryz.prog 74 #[.pointer (some ⟨s, 0, none⟩), .pointer (some ⟨s, 2 + i * 6, none⟩)] w fun e w' => e = .returned (.tuple #[]) ∧ SOk s p A w w' q := by
  have e1 : p.nf.serveRead i = ({ p.nf with uses := p.uses + 1, hand := useL p.hand (p.client i).pl (p.uses + 1) } : Sk).answer i p.hand[k].data 0 := by
    show (match getB p.hand (p.client i).pl with | some b => _ | none => _) = _
    rw [hg]; rfl
  rw [e1] at hq
  have H8 := hidT hI.hand.len
  have HU0 := hidT hI.us
  have HCL := hidT hI.cl3
  have HIX := hidT hix
  have HO := hidT ho
  obtain ⟨-, d1, -⟩ := h.client i hi
  have c20 := h.cell 20 _ rfl
  have hl := h.lt
  have HST := hidT h
  have HH := hidT h.mem.hand
  have hwr : IntKind.i64.wrap (p.uses + 1) = p.uses + 1 := by have := hI.us; rw [IntKind.wrap_i64]; omega
  clear h hI e1 hg hix ho
  generalize hpl : (p.client i).pl = pl at *
  have HC : Hid ((p.client i).pl = pl) := hpl
  obtain ⟨b, hbk⟩ : ∃ b, b = p.hand[k] := ⟨_, rfl⟩
  rw [← hbk] at hq
  have HBK : Hid (b = p.hand[k]) := hbk
  have HQ := hidT hq
  clear hpl hq hbk
  obtain ⟨bpl, bdata, bdirty, bused⟩ := b
  go_enter Tryz.func74, Tryz.ntmps74
  go_wp2_with fail
  go_region_held3 (fun w' => w'.cell? ⟨s, 20, none⟩ = some (.slice A.ha p.hand.length A.hc) ∧ w'.cell? ⟨s, 2 + i * 6 + 1, none⟩ = some (.int .i64 pl)) (exact ⟨cellB_later' (w := w) (by repeat (first | with_reducible exact Below.refl _ _ | with_reducible refine balloc ?_ _ | with_reducible refine bdrew ?_ | with_reducible refine bset' ?_ (by omega) _ | with_reducible refine bthen ?_ (by assumption))) c20, cellB_later' (w := w) (by repeat (first | with_reducible exact Below.refl _ _ | with_reducible refine balloc ?_ _ | with_reducible refine bdrew ?_ | with_reducible refine bset' ?_ (by omega) _ | with_reducible refine bthen ?_ (by assumption))) d1⟩) (first | (go_at_call 52; refine (get_yes p.hand A.ha A.hc pl _ (HH.out.later (by repeat (first | with_reducible exact Below.refl _ _ | with_reducible refine balloc ?_ _ | with_reducible refine bdrew ?_ | with_reducible refine bset' ?_ (by omega) _ | with_reducible refine bthen ?_ (by assumption)))) k hk HIX.out).mono ?_; rw [← HBK.out]; rintro e w1 ⟨rfl, hb1⟩; have z1 : w.heap.size ≤ w1.heap.size := (show Below w.heap.size w w1 by repeat (first | with_reducible exact Below.refl _ _ | with_reducible refine balloc ?_ _ | with_reducible refine bdrew ?_ | with_reducible refine bset' ?_ (by omega) _ | with_reducible refine bthen ?_ (by assumption))).size; (try (obtain ⟨k0, k1, k2, k3, k4, k5, k6, k7⟩ : w1.cell? ⟨w.heap.size, 0, none⟩ = some (.int .i64 0) ∧ w1.cell? ⟨w.heap.size, 1, none⟩ = some (.string ⟨#[]⟩) ∧ w1.cell? ⟨w.heap.size, 2, none⟩ = some (.bool false) ∧ w1.cell? ⟨w.heap.size, 3, none⟩ = some (.int .i64 0) ∧ w1.frozen? ⟨w.heap.size, 0, none⟩ = false ∧ w1.frozen? ⟨w.heap.size, 1, none⟩ = false ∧ w1.frozen? ⟨w.heap.size, 2, none⟩ = false ∧ w1.frozen? ⟨w.heap.size, 3, none⟩ = false; (focus ((refine ⟨(hb1.cell (p := ⟨w.heap.size, 0, none⟩) ?_).trans ?_, (hb1.cell (p := ⟨w.heap.size, 1, none⟩) ?_).trans ?_, (hb1.cell (p := ⟨w.heap.size, 2, none⟩) ?_).trans ?_, (hb1.cell (p := ⟨w.heap.size, 3, none⟩) ?_).trans ?_, (hb1.frozen (p := ⟨w.heap.size, 0, none⟩) ?_).trans ?_, (hb1.frozen (p := ⟨w.heap.size, 1, none⟩) ?_).trans ?_, (hb1.frozen (p := ⟨w.heap.size, 2, none⟩) ?_).trans ?_, (hb1.frozen (p := ⟨w.heap.size, 3, none⟩) ?_).trans ?_⟩); (all_goals simp); (all_goals omega)))))))
  refine exit_world (fun wz => Below w.heap.size w wz ∧ wz.cell? ⟨w1.heap.size, 1, none⟩ = some (.string bdata) ∧ w.heap.size ≤ w1.heap.size) ⟨by repeat (first | with_reducible exact Below.refl _ _ | with_reducible refine balloc ?_ _ | with_reducible refine bdrew ?_ | with_reducible refine bset' ?_ (by omega) _ | with_reducible refine bthen ?_ (by assumption)), by simp, z1⟩ ?_
  rotate_left
  refine exit_world (fun wz => Below w.heap.size w wz ∧ wz.cell? ⟨w.heap.size, 1, none⟩ = some (.string bdata) ∧ w.heap.size ≤ w.heap.size) ⟨by repeat (first | with_reducible exact Below.refl _ _ | with_reducible refine balloc ?_ _ | with_reducible refine bdrew ?_ | with_reducible refine bset' ?_ (by omega) _ | with_reducible refine bthen ?_ (by assumption)), (sc_other (Or.inr (by omega))).trans ((sc_other (Or.inr (by omega))).trans (World.cell?_setCell_same _ _ _ ((sc_other (Or.inr (by omega))).trans k1))), Nat.le_refl _⟩ ?_
  all_goals
    rintro wz ⟨hbz, hbx, hge⟩
    have HBX := hidT hbx
    have HGE := hidT hge
    have HSz := hidT (SStep.same' HST.out hbz)
    have c28 := HSz.out.at'.cell 28 _ rfl
    have f28 := HSz.out.at'.fz 28
    have lz := HSz.out.at'.lt
    clear hb1 z1 hbx hge hbz c20 d1
    go_wp2_with fail
    refine wp_worldD (fun wy => SStep s p A { p with uses := p.uses + 1 } A wz wy) (HSz.out.at'.setUses (p.uses + 1)) ?_
    intro wy hsy
    have HSy := hidT hsy
    have HS : Hid ((fun wv : World => wv.cell? ⟨s, 20, none⟩ = some (.slice A.ha p.hand.length A.hc) ∧ wv.cell? ⟨s, 2 + i * 6 + 1, none⟩ = some (.int .i64 pl) ∧ wv.cell? ⟨s, 28, none⟩ = some (.int .i64 (p.uses + 1)) ∧ s < wv.heap.size) wy.drew) := ⟨hsy.at'.cell 20 _ rfl, by rw [← HC.out]; exact (hsy.at'.client i hi).2.1, hsy.at'.cell 28 _ rfl, hsy.at'.lt⟩
    have eg : ∀ args w, Sem.run Tryz.prog (callFunc 99 args) w = .ok (.enter 99 args) w := by intro args w; go_simp
    clear hsy c28 f28 lz
    refine region_till (S := fun wv : World => wv.cell? ⟨s, 20, none⟩ = some (.slice A.ha p.hand.length A.hc) ∧ wv.cell? ⟨s, 2 + i * 6 + 1, none⟩ = some (.int .i64 pl) ∧ wv.cell? ⟨s, 28, none⟩ = some (.int .i64 (p.uses + 1)) ∧ s < wv.heap.size) (d := 16) (by kernel_rfl) ?_
    refine till_take (i := 0) (v := ?_) rfl (by kernel_rfl) (by kernel_rfl) (by kernel_rfl) (by kernel_rfl) (fun _ _ _ h => h) (Or.inl ⟨by rfl, ?_⟩) HS.out ?_; rotate_left; (focus (intro w0 hSw; obtain ⟨s0, s1, s2, s3⟩ := hSw; go_simp; (try with_reducible rfl))); (try simp only [Act.put, List.getElem_toArray, List.getElem_cons_succ, List.getElem_cons_zero, List.setIfInBounds_toArray, List.set_cons_zero, List.set_cons_succ])
    refine till_take (i := 1) (v := ?_) rfl (by kernel_rfl) (by kernel_rfl) (by kernel_rfl) (by kernel_rfl) (fun _ _ _ h => h) (Or.inl ⟨by rfl, ?_⟩) HS.out ?_; rotate_left; (focus (intro w0 hSw; obtain ⟨s0, s1, s2, s3⟩ := hSw; go_simp; (try with_reducible rfl))); (try simp only [Act.put, List.getElem_toArray, List.getElem_cons_succ, List.getElem_cons_zero, List.setIfInBounds_toArray, List.set_cons_zero, List.set_cons_succ])
    refine till_take (i := 2) (v := ?_) rfl (by kernel_rfl) (by kernel_rfl) (by kernel_rfl) (by kernel_rfl) (fun _ _ _ h => h) (Or.inl ⟨by rfl, ?_⟩) HS.out ?_; rotate_left; (focus (intro w0 hSw; obtain ⟨s0, s1, s2, s3⟩ := hSw; go_simp; (try with_reducible rfl))); (try simp only [Act.put, List.getElem_toArray, List.getElem_cons_succ, List.getElem_cons_zero, List.setIfInBounds_toArray, List.set_cons_zero, List.set_cons_succ])
    refine till_take (i := 3) (v := ?_) rfl (by kernel_rfl) (by kernel_rfl) (by kernel_rfl) (by kernel_rfl) (fun _ _ _ h => h) (Or.inl ⟨by rfl, ?_⟩) HS.out ?_; rotate_left; (focus (intro w0 hSw; obtain ⟨s0, s1, s2, s3⟩ := hSw; go_simp; (try with_reducible rfl))); (try simp only [Act.put, List.getElem_toArray, List.getElem_cons_succ, List.getElem_cons_zero, List.setIfInBounds_toArray, List.set_cons_zero, List.set_cons_succ])
    refine till_take (i := 4) (v := ?_) rfl (by kernel_rfl) (by kernel_rfl) (by kernel_rfl) (by kernel_rfl) (fun _ _ _ h => h) (Or.inl ⟨by rfl, ?_⟩) HS.out ?_; rotate_left; (focus (intro w0 hSw; obtain ⟨s0, s1, s2, s3⟩ := hSw; go_simp; (try with_reducible rfl))); (try simp only [Act.put, List.getElem_toArray, List.getElem_cons_succ, List.getElem_cons_zero, List.setIfInBounds_toArray, List.set_cons_zero, List.set_cons_succ])
    refine till_take (i := 5) (v := ?_) rfl (by kernel_rfl) (by kernel_rfl) (by kernel_rfl) (by kernel_rfl) (fun _ _ _ h => h) (Or.inl ⟨by rfl, ?_⟩) HS.out ?_; rotate_left; (focus (intro w0 hSw; obtain ⟨s0, s1, s2, s3⟩ := hSw; go_simp; (try with_reducible rfl))); (try simp only [Act.put, List.getElem_toArray, List.getElem_cons_succ, List.getElem_cons_zero, List.setIfInBounds_toArray, List.set_cons_zero, List.set_cons_succ])
    refine till_take (i := 6) (v := ?_) rfl (by kernel_rfl) (by kernel_rfl) (by kernel_rfl) (by kernel_rfl) (fun _ _ _ h => h) (Or.inl ⟨by rfl, ?_⟩) HS.out ?_; rotate_left; (focus (intro w0 hSw; obtain ⟨s0, s1, s2, s3⟩ := hSw; go_simp; (try with_reducible rfl))); (try simp only [Act.put, List.getElem_toArray, List.getElem_cons_succ, List.getElem_cons_zero, List.setIfInBounds_toArray, List.set_cons_zero, List.set_cons_succ])
    refine till_take (i := 7) (v := ?_) rfl (by kernel_rfl) (by kernel_rfl) (by kernel_rfl) (by kernel_rfl) (fun _ _ _ h => h) (Or.inl ⟨by rfl, ?_⟩) HS.out ?_; rotate_left; (focus (intro w0 hSw; obtain ⟨s0, s1, s2, s3⟩ := hSw; go_simp; (try with_reducible rfl))); (try simp only [Act.put, List.getElem_toArray, List.getElem_cons_succ, List.getElem_cons_zero, List.setIfInBounds_toArray, List.set_cons_zero, List.set_cons_succ])
    refine till_take (i := 8) (v := ?_) rfl (by kernel_rfl) (by kernel_rfl) (by kernel_rfl) (by kernel_rfl) (fun _ _ _ h => h) (Or.inl ⟨by rfl, ?_⟩) HS.out ?_; rotate_left; (focus (intro w0 hSw; obtain ⟨s0, s1, s2, s3⟩ := hSw; go_simp; (try with_reducible rfl))); (try simp only [Act.put, List.getElem_toArray, List.getElem_cons_succ, List.getElem_cons_zero, List.setIfInBounds_toArray, List.set_cons_zero, List.set_cons_succ])
    refine till_take (i := 9) (v := ?_) rfl (by kernel_rfl) (by kernel_rfl) (by kernel_rfl) (by kernel_rfl) (fun _ _ _ h => h) (Or.inl ⟨by rfl, ?_⟩) HS.out ?_; rotate_left; (focus (intro w0 hSw; obtain ⟨s0, s1, s2, s3⟩ := hSw; go_simp; (try with_reducible rfl))); (try simp only [Act.put, List.getElem_toArray, List.getElem_cons_succ, List.getElem_cons_zero, List.setIfInBounds_toArray, List.set_cons_zero, List.set_cons_succ])
    refine till_take (i := 10) (v := ?_) rfl (by kernel_rfl) (by kernel_rfl) (by kernel_rfl) (by kernel_rfl) (fun _ _ _ h => h) (Or.inl ⟨by rfl, ?_⟩) HS.out ?_; rotate_left; (focus (intro w0 hSw; obtain ⟨s0, s1, s2, s3⟩ := hSw; go_simp; (try with_reducible rfl))); (try simp only [Act.put, List.getElem_toArray, List.getElem_cons_succ, List.getElem_cons_zero, List.setIfInBounds_toArray, List.set_cons_zero, List.set_cons_succ])
    refine till_take (i := 11) (v := ?_) rfl (by kernel_rfl) (by kernel_rfl) (by kernel_rfl) (by kernel_rfl) (fun _ _ _ h => h) (Or.inl ⟨by rfl, ?_⟩) HS.out ?_; rotate_left; (focus (intro w0 hSw; obtain ⟨s0, s1, s2, s3⟩ := hSw; go_simp; (try with_reducible rfl))); (try simp only [Act.put, List.getElem_toArray, List.getElem_cons_succ, List.getElem_cons_zero, List.setIfInBounds_toArray, List.set_cons_zero, List.set_cons_succ])
    refine till_take (i := 12) (v := ?_) rfl (by kernel_rfl) (by kernel_rfl) (by kernel_rfl) (by kernel_rfl) (fun _ _ _ h => h) (Or.inl ⟨by rfl, ?_⟩) HS.out ?_; rotate_left; (focus (intro w0 hSw; obtain ⟨s0, s1, s2, s3⟩ := hSw; go_simp; (try with_reducible rfl))); (try simp only [Act.put, List.getElem_toArray, List.getElem_cons_succ, List.getElem_cons_zero, List.setIfInBounds_toArray, List.set_cons_zero, List.set_cons_succ])
    refine till_one (i := 13) rfl (by kernel_rfl) ?_
    intro K hK
    refine step_call3E rfl 99 31 35 39 75 3 3 rfl eg (.slice A.ha p.hand.length A.hc) (.int .i64 pl) (.int .i64 (p.uses + 1)) rfl rfl rfl (fun r w' => ∃ a' c', r = .slice a' p.hand.length c' ∧ BufsAt w' a' (useL p.hand pl (p.uses + 1)) ∧ p.hand.length ≤ c' ∧ NewA wy.heap.size a' ∧ (a' = none → c' = 0) ∧ Below wy.heap.size wy w') ((useN p.hand A.ha A.hc pl (p.uses + 1) wy.drew (HSy.out.at'.mem.hand.later (Below.refl _ _).drew) HSy.out.at'.mem.hnil (by have := H8.out; omega) HO.out).mono (fun e w' ⟨a', c', he, h1, h2, h3, h4, h5⟩ => ⟨_, he, a', c', rfl, h1, h2, h3, h4, (Below.refl _ _).drew.trans h5⟩)) ?_
    rintro r w5 ⟨a', c', rfl, u1, u2, u3, u4, u5⟩
    have HS5 := hidT (HSy.out.later u5)
    have HSH := hidT (HS5.out.trans (HS5.out.at'.setHand (useL p.hand pl (p.uses + 1)) a' c' u1 (by rw [useL_lenS]; exact u2) u4 (fun _ q' hq' e => by have := u3 q' hq'; have := HSy.out.at'.offLt _ e; omega)))
    have v20 := HS5.out.at'.cell 20 _ rfl
    have x20 := HS5.out.at'.fz 20
    have l5 := HS5.out.at'.lt
    refine hK _ _ (fun _ => ⟨v20, by rw [← HC.out]; exact (HS5.out.at'.client i hi).2.1, HS5.out.at'.cell 28 _ rfl, l5⟩) ?_
    (try simp only [Act.put, List.getElem_toArray, List.getElem_cons_succ, List.getElem_cons_zero, List.setIfInBounds_toArray, List.set_cons_zero, List.set_cons_succ])
    have HS' : Hid ((fun wv : World => wv.cell? ⟨s, 20, none⟩ = some (.slice A.ha p.hand.length A.hc) ∧ wv.cell? ⟨s, 2 + i * 6 + 1, none⟩ = some (.int .i64 pl) ∧ wv.cell? ⟨s, 28, none⟩ = some (.int .i64 (p.uses + 1)) ∧ s < wv.heap.size) w5) := ⟨v20, by rw [← HC.out]; exact (HS5.out.at'.client i hi).2.1, HS5.out.at'.cell 28 _ rfl, l5⟩
    clear hK u1 u2 u3 u4 u5
    refine till_one (i := 14) rfl (by kernel_rfl) ?_
    intro K hK
    go_simp
    refine hK _ _ (fun _ => HS'.out) ?_
    (try simp only [Act.put, List.getElem_toArray, List.getElem_cons_succ, List.getElem_cons_zero, List.setIfInBounds_toArray, List.set_cons_zero, List.set_cons_succ])
    clear hK
    refine till_one (i := 15) rfl (by kernel_rfl) ?_
    intro K hK
    go_simp
    refine hK _ _ (fun _ => HS'.out) ?_
    (try simp only [Act.put, List.getElem_toArray, List.getElem_cons_succ, List.getElem_cons_zero, List.setIfInBounds_toArray, List.set_cons_zero, List.set_cons_succ])
    clear hK
    refine till_one (i := 16) rfl (by kernel_rfl) ?_
    intro K hK
    go_simp
    refine hK _ _ (fun h => absurd rfl h) ?_
    (try simp only [Act.put, List.getElem_toArray, List.getElem_cons_succ, List.getElem_cons_zero, List.setIfInBounds_toArray, List.set_cons_zero, List.set_cons_succ])
    clear hK
    refine till_done (by kernel_rfl) ?_ _
    refine exit_world (fun wv => SStep s p A { p with uses := p.uses + 1, hand := useL p.hand pl (p.uses + 1) } { A with ha := a', hc := c' } wz wv) (by have := HSH.out; rw [useL_lenS] at this; exact this) ?_
    intro w6 hs6
    have HS6 := hidT hs6
    have hbx6 := hs6.box HST.out HGE.out HBX.out
    have l6 := lt_of_cell hbx6
    clear hs6 v20 x20 l5
    go_wp2_with fail
    have hans := answer_any s _ _ w6 HS6.out.at' HCL.out i hi bdata 0
    rw [show errOf 0 = .nilIface from rfl] at hans
    refine hans.mono ?_
    clear hans
    rintro e w7 ⟨rfl, hs7⟩
    have HS7 := hidT (HSz.out.trans (HS6.out.trans hs7))
    clear hs7 hbx6 l6
    go_wp2
    refine bodyPost_ret (v := .tuple #[]) (by simp [results, Tryz.results74, go_sem]) rfl ?_
    exact ⟨rfl, _, _, HS7.out, by rw [← HQ.out]; rfl⟩
end Go.Proofs.YtgjkdhedkbkagaaGreat
/- A stack of all: one who waits to write: nothing is written any more, or too much is not on the disk yet. -/
namespace Go.Proofs.YtgjkdhedkbkagaaGreat
open Go.RowKit Go.BigFrame Go.Maps
set_option maxRecDepth 100000
attribute [local go_sem] Later.cell Later.frozen

set_option maxRecDepth 100000 in
set_option maxHeartbeats 1000000 in
theorem serveWrite_dead (s : Nat) (p : Sk) (A : Sa) (w : World) (h : StkAt s p A w) (hl3 : p.cl.length = 3) (i : Nat) (hi : i < 3) (hd : p.dead = true) (q : Sk) (hq : p.nf.serveWrite i = q) :
    Calls Tryz.prog 75 #[.pointer (some ⟨s, 0, none⟩), .pointer (some ⟨s, 2 + i * 6, none⟩)] w fun e w' => e = .returned (.tuple #[]) ∧ SOk s p A w w' q := by
  have e1 : p.nf.serveWrite i = p.nf.answer i ByteArray.empty 9 := by
    unfold Sk.serveWrite
    rw [if_pos (show p.nf.dead = true from hd)]
  rw [e1] at hq
  have c29 := h.cell 29 _ rfl
  rw [hd] at c29
  have hl := h.lt
  have HANS := hidT (answer_any s p A w h hl3 i hi ByteArray.empty 9)
  have HQ := hidT hq
  clear h e1 hq
  go_enter Tryz.func75, Tryz.ntmps75
  go_wp2_with fail
  refine HANS.out.mono ?_
  rintro e w7 ⟨rfl, hs7⟩
  have HS7 := hidT hs7
  clear hs7
  go_wp2
  refine bodyPost_ret (v := .tuple #[]) (by simp [results, Tryz.results75, go_sem]) rfl ?_
  exact ⟨rfl, _, _, HS7.out, by rw [← HQ.out]; rfl⟩
set_option maxRecDepth 100000 in
set_option maxHeartbeats 1000000 in
theorem serveWrite_hard (s : Nat) (p : Sk) (A : Sa) (w : World) (h : StkAt s p A w) (i : Nat) (hi : i < 3) (hd : p.dead = false) (h6 : 6 ≤ dirtyB p.hand) (h8 : p.hand.length ≤ 8) (hn : isDirtyB p.hand (p.client i).pl = false) (q : Sk) (hq : p.nf.serveWrite i = q) :
    Calls Tryz.prog 75 #[.pointer (some ⟨s, 0, none⟩), .pointer (some ⟨s, 2 + i * 6, none⟩)] w fun e w' => e = .returned (.tuple #[]) ∧ SOk s p A w w' q := by
  have e1 : p.nf.serveWrite i = p.nf := by
    unfold Sk.serveWrite
    rw [if_neg (by rw [show p.nf.dead = false from hd]; exact Bool.false_ne_true), if_pos ⟨h6, hn⟩]
  rw [e1] at hq
  have c29 := h.cell 29 _ rfl
  rw [hd] at c29
  have hl := h.lt
  obtain ⟨-, d1, -⟩ := h.client i hi
  have HQ := hidT hq
  have HST := hidT h
  have HN := hidT hn
  have h9 : dirtyB p.hand ≤ 8 := Nat.le_trans (List.length_filter_le _ _) h8
  obtain ⟨n, hnn⟩ : ∃ n, dirtyB p.hand = n := ⟨_, rfl⟩
  rw [hnn] at h6 h9
  have HNN := hidT hnn
  generalize hpl : (p.client i).pl = pl at *
  have h6' : (6 : Int) ≤ (n : Int) := by omega
  clear h e1 hq hn hnn h8 hpl
  go_enter Tryz.func75, Tryz.ntmps75
  go_wp2_with fail
  refine (sdirty_any s p A w HST.out n HNN.out).mono ?_
  rintro e w1 ⟨rfl, hb1⟩
  have HS1 := hidT (SStep.same' HST.out hb1)
  have g1 := cellB_later' hb1 d1
  have l1 := HS1.out.at'.lt
  go_wp2_with fail
  refine (isDirty_any s p A pl w1 HS1.out.at' false HN.out).mono ?_
  rintro e w2 ⟨rfl, hb2⟩
  have HS2 := hidT (HS1.out.later hb2)
  clear hb1 hb2
  go_wp2
  refine bodyPost_ret (v := .tuple #[]) (by simp [results, Tryz.results75, go_sem]) rfl ?_
  exact ⟨rfl, p, A, HS2.out, HQ.out⟩
end Go.Proofs.YtgjkdhedkbkagaaGreat
/- A stack of all: one who waits to write: what it writes comes at hand, or there is no room. -/
namespace Go.Proofs.YtgjkdhedkbkagaaGreat
open Go.RowKit Go.BigFrame Go.Maps
set_option maxRecDepth 100000
attribute [local go_sem] Later.cell Later.frozen

theorem putB_of {l m : List Bf} {x : Bf} {H : Int → Bool} (h : PutsM l x H m) : putB l x H = some m := by
  unfold putB
  rcases h with ⟨k, hk, hi, rfl⟩ | ⟨hi, h8, rfl⟩ | ⟨hi, h8, k, hk, hl, rfl⟩
  · rw [hi, if_pos (by omega)]; simp
  · rw [hi, if_neg (by omega), if_pos h8]
  · rw [hi, if_neg (by omega), if_neg (by omega), hl, if_pos (by omega)]; simp
theorem putB_not {l : List Bf} {x : Bf} {H : Int → Bool} (hi : idxB (plB x.pl) l = -1) (h8 : l.length = 8) (hl : leastU (fitB false H) l l.length = -1) : putB l x H = none := by
  unfold putB
  rw [hi, if_neg (by omega), if_neg (by omega), hl, if_neg (by omega)]
theorem put_none (hb : Nat) (lq : List Rq) (l : List Bf) (a : Option Addr) (c : Nat) (x : Bf) (w : World) (hl : BufsAt w a l) (hn : a = none → c = 0) (h8 : l.length ≤ 8) (hh : HoldAt w hb lq) (hp : putB l x (holdsB lq) = none) :
    Calls Tryz.prog 101 #[.slice a l.length c, x.val, .func (.func 69) #[] #[.pointer (some ⟨hb, 0, none⟩)]] w fun e w' => e = .returned (.tuple #[.slice none 0 0, .iface 89 (.int .i64 7)]) ∧ Below w.heap.size w w' := by
  refine (put_anyN 69 (by intro args w; go_simp) #[.pointer (some ⟨hb, 0, none⟩)] (holdsB lq) l a c x w hl hn h8 (fun n w' hb' => hold1_any hb lq n w' (hh.later hb'))).mono ?_
  rintro e w' ⟨⟨m, a', c', hm, _⟩ | ⟨_, _, _, he⟩, hb'⟩
  · rw [putB_of hm] at hp; cases hp
  · exact ⟨he, hb'⟩
theorem put_some (hb : Nat) (lq : List Rq) (l : List Bf) (a : Option Addr) (c : Nat) (x : Bf) (w : World) (hl : BufsAt w a l) (hn : a = none → c = 0) (h8 : l.length ≤ 8) (hh : HoldAt w hb lq) (m : List Bf) (hp : putB l x (holdsB lq) = some m) :
    Calls Tryz.prog 101 #[.slice a l.length c, x.val, .func (.func 69) #[] #[.pointer (some ⟨hb, 0, none⟩)]] w fun e w' => ∃ a' c', e = .returned (.tuple #[.slice a' m.length c', .nilIface]) ∧ (BufsAt w' a' m ∧ m.length ≤ c' ∧ NewA w.heap.size a' ∧ (a' = none → c' = 0)) ∧ Below w.heap.size w w' := by
  refine (put_anyN 69 (by intro args w; go_simp) #[.pointer (some ⟨hb, 0, none⟩)] (holdsB lq) l a c x w hl hn h8 (fun n w' hb' => hold1_any hb lq n w' (hh.later hb'))).mono ?_
  rintro e w' ⟨⟨m', a', c', hm, he, h1⟩ | ⟨hi, h8', hl', _⟩, hb'⟩
  · rw [putB_of hm] at hp
    cases hp
    exact ⟨a', c', he, h1, hb'⟩
  · rw [putB_not hi h8' hl'] at hp; cases hp
end Go.Proofs.YtgjkdhedkbkagaaGreat
