/- A stack of all: a sector was read. -/
import Derived.Test.YtgjkdhedkbkagaaGreatJ34
namespace Go.Proofs.YtgjkdhedkbkagaaGreat
open Go.RowKit Go.BigFrame Go.Maps
set_option maxRecDepth 100000
attribute [local go_sem] Later.cell Later.frozen

theorem has_one {pl x : Int} (hpl : 0 ≤ pl ∧ pl ≤ 31) (hx : x ≤ 31) : (x == pl) = hasB pl 1 x := by
  rw [hasB_ok pl 1 4 x (by simp only [okB, decide_eq_true_eq]; omega) (by omega), Bool.eq_iff_iff]
  simp only [beq_iff_eq, inSpan, decide_eq_true_eq]
  omega
theorem readers_one {p : Sk} (hI : Inv p) {pl : Int} (hpl : 0 ≤ pl ∧ pl ≤ 31) (s : ByteArray) (e : Int) : p.readers (fun x => x == pl) s e = p.readers (hasB pl 1) s e :=
  readers_congr p _ _ s e (fun c hc hk => has_one hpl ((hI.cok c hc).pl (by rw [hk]; omega)).2)
set_option maxRecDepth 100000 in
set_option maxHeartbeats 1000000 in
theorem wasRead_at (s : Nat) (p : Sk) (A : Sa) (w : World) (h : StkAt s p A w) (pl : Int) (data : ByteArray) (k : Nat) (hk : k < p.hand.length) (hix : idxB (plB pl) p.hand = k) :
    Calls Tryz.prog 86 #[.pointer (some ⟨s, 0, none⟩), .int .i64 pl, .string data] w fun e w' => e = .returned (.tuple #[]) ∧ SOk s p A w w' p.nf := by
  have c20 := h.cell 20 _ rfl
  have hl := h.lt
  have HST := hidT h
  have HIX := hidT hix
  clear h hix
  go_enter Tryz.func86, Tryz.ntmps86
  go_wp2_with fail
  refine (get_yes p.hand A.ha A.hc pl _ (HST.out.mem.hand.later (by repeat (first | with_reducible exact Below.refl _ _ | with_reducible refine balloc ?_ _ | with_reducible refine bdrew ?_ | with_reducible refine bset' ?_ (by omega) _ | with_reducible refine bthen ?_ (by assumption)))) k hk HIX.out).mono ?_
  rintro e w1 ⟨rfl, hb1⟩
  go_wp2
  refine bodyPost_ret (v := .tuple #[]) (by simp [results, Tryz.results86, go_sem]) rfl ?_
  exact ⟨rfl, p, A, SStep.same' HST.out (by repeat (first | with_reducible exact Below.refl _ _ | with_reducible refine balloc ?_ _ | with_reducible refine bdrew ?_ | with_reducible refine bset' ?_ (by omega) _ | with_reducible refine bthen ?_ (by assumption))), rfl⟩
theorem StkAt.setHU {s : Nat} {p : Sk} {A : Sa} {w : World} (h : StkAt s p A w) (l : List Bf) (a' : Option Addr) (c' : Nat) (u : Int) (hB : BufsAt w a' l) (hcap : l.length ≤ c') (hnil : a' = none → c' = 0) (ho : l ≠ [] → ∀ q, a' = some q → ¬ A.off s q.block) : SStep s p A { p with hand := l, uses := u } { A with ha := a', hc := c' } w ((w.setCell ⟨s, 20, none⟩ (.slice a' l.length c')).setCell ⟨s, 28, none⟩ (.int .i64 u)) :=
  (h.setHand l a' c' hB hcap hnil ho).trans ((h.setHand l a' c' hB hcap hnil ho).at'.setUses u)
set_option linter.unusedSimpArgs false in
set_option maxRecDepth 100000 in
set_option maxHeartbeats 4000000 in
theorem wasRead_new (s : Nat) (p : Sk) (A : Sa) (w : World) (h : StkAt s p A w) (hI : Inv p) (hU : p.uses ≤ 4000000000000000000) (pl : Int) (hpl : 0 ≤ pl ∧ pl ≤ 31) (data : ByteArray) (hs4 : data.size ≤ 4) (hg : getB p.hand pl = none) (q : Sk) (hq : p.nf.wasRead pl data = q) :
    Calls Tryz.prog 86 #[.pointer (some ⟨s, 0, none⟩), .int .i64 pl, .string data] w fun e w' => e = .returned (.tuple #[]) ∧ SOk s p A w w' q := by
  have e1 : p.nf.wasRead pl data = match putB p.hand ⟨pl, data, false, p.uses + 1⟩ (holdsB (p.queue ++ p.dev.busy)) with
    | some l => ({ p.nf with hand := l, uses := p.uses + 1 } : Sk).readers (fun x => x == pl) data 0
    | none => p.nf.readers (fun x => x == pl) data 0 := by
    rw [← held_fun]
    show (match getB p.hand pl with | some _ => _ | none => _) = _
    rw [hg]; rfl
  rw [e1] at hq
  have HIX : Hid (idxB (plB pl) p.hand = -1) := by
    rcases getB_idx p.hand pl with ⟨_, h'⟩ | ⟨k, hk', h', _⟩
    · exact h'
    · rw [hg] at h'; cases h'
  have HPL := hidT hpl
  have HI := hidT hI
  have HQ := hidT hq
  have HST := hidT h
  have h8 := hI.hand.len
  have c20 := h.cell 20 _ rfl
  have hl := h.lt
  have hwr : IntKind.i64.wrap (p.uses + 1) = p.uses + 1 := by have := hI.us; rw [IntKind.wrap_i64]; omega
  clear h hI hpl hq e1 hg
  go_enter Tryz.func86, Tryz.ntmps86
  go_wp2_with fail
  refine (get_no p.hand A.ha A.hc pl _ (HST.out.mem.hand.later (by repeat (first | with_reducible exact Below.refl _ _ | with_reducible refine balloc ?_ _ | with_reducible refine bdrew ?_ | with_reducible refine bset' ?_ (by omega) _ | with_reducible refine bthen ?_ (by assumption)))) HIX.out).mono ?_
  rintro e w1 ⟨rfl, hb1⟩
  go_wp2_with fail
  refine wp_worldD (fun wy => SStep s p A p A w wy) (SStep.same' HST.out (by repeat (first | with_reducible exact Below.refl _ _ | with_reducible refine balloc ?_ _ | with_reducible refine bdrew ?_ | with_reducible refine bset' ?_ (by omega) _ | with_reducible refine bthen ?_ (by assumption)))) ?_
  intro wy hsy
  have HSy := hidT hsy
  have y20 := hsy.at'.cell 20 _ rfl
  have y28 := hsy.at'.cell 28 _ rfl
  have ly := hsy.at'.lt
  clear hsy hb1 c20 hl
  cases hP : putB p.hand ⟨pl, data, false, p.uses + 1⟩ (holdsB (p.queue ++ p.dev.busy)) with
  | none =>
    have HP := hidT hP
    have HQ2 : Hid (p.nf.readers (hasB pl 1) data 0 = q) := by
      have := HQ.out; rw [hP] at this
      rw [← readers_one HI.out.nf HPL.out]; exact this
    clear hP HQ
    go_region_held3 (fun w' => w'.cell? ⟨s, 20, none⟩ = some (.slice A.ha p.hand.length A.hc) ∧ w'.cell? ⟨s, 28, none⟩ = some (.int .i64 p.uses)) (exact ⟨cellB_later' (w := wy) (by repeat (first | with_reducible exact Below.refl _ _ | with_reducible refine balloc ?_ _ | with_reducible refine bdrew ?_ | with_reducible refine bset' ?_ (by omega) _ | with_reducible refine bthen ?_ (by assumption))) y20, cellB_later' (w := wy) (by repeat (first | with_reducible exact Below.refl _ _ | with_reducible refine balloc ?_ _ | with_reducible refine bdrew ?_ | with_reducible refine bset' ?_ (by omega) _ | with_reducible refine bthen ?_ (by assumption))) y28⟩) (first | (go_at_call 51; refine (held_any s p A _ (HSy.out.at'.later (by repeat (first | with_reducible exact Below.refl _ _ | with_reducible refine balloc ?_ _ | with_reducible refine bdrew ?_ | with_reducible refine bset' ?_ (by omega) _ | with_reducible refine bthen ?_ (by assumption)))) (by have := HI.out.q6; omega)).mono ?_; rintro e w3 ⟨hb, rfl, hH, hb3⟩) | (go_at_call 101; refine (put_none hb (p.queue ++ p.dev.busy) p.hand A.ha A.hc ⟨pl, data, false, p.uses + 1⟩ _ (HSy.out.at'.mem.hand.later (by repeat (first | with_reducible exact Below.refl _ _ | with_reducible refine balloc ?_ _ | with_reducible refine bdrew ?_ | with_reducible refine bset' ?_ (by omega) _ | with_reducible refine bthen ?_ (by assumption)))) HSy.out.at'.mem.hnil h8 (HoldAt.later hH (by repeat (first | with_reducible exact Below.refl _ _ | with_reducible refine balloc ?_ _ | with_reducible refine bdrew ?_ | with_reducible refine bset' ?_ (by omega) _ | with_reducible refine bthen ?_ (by assumption)))) HP.out).mono ?_; rintro e w4 ⟨rfl, hb4⟩))
    all_goals
      have HS4 : Hid (SStep s p A p A w w4) := HSy.out.later (by repeat (first | with_reducible exact Below.refl _ _ | with_reducible refine balloc ?_ _ | with_reducible refine bdrew ?_ | with_reducible refine bset' ?_ (by omega) _ | with_reducible refine bthen ?_ (by assumption)))
      clear hb3 hb4 hH
      go_wp2_with fail
      have hrd := readers_any s p A _ HS4.out.at' HI.out pl 1 data 0 q HQ2.out
      rw [show errOf 0 = .nilIface from rfl] at hrd
      refine hrd.mono ?_
      clear hrd
      rintro e w5 ⟨rfl, hok⟩
      have HO := hidT (SOk.trans HS4.out hok)
      clear hok
      go_wp2
      go_end0
      exact ⟨rfl, HO.out⟩
  | some l =>
    have HP := hidT hP
    have P := putB_some HI.out.hand hP
    have HIN : Hid (∀ c ∈ p.cl, c.kind = 1 → c.pl ≤ 31) := fun c hc hk => ((HI.out.cok c hc).pl (by rw [hk]; omega)).2
    have HQ2 : Hid (({ p with hand := l, uses := p.uses + 1 } : Sk).nf.readers (hasB pl 1) data 0 = q) := by
      have := HQ.out; rw [hP] at this
      rw [← this]
      exact (readers_congr ({ p with hand := l, uses := p.uses + 1 } : Sk).nf (fun x => x == pl) (hasB pl 1) data 0 (fun c hc hk => has_one HPL.out (HIN.out c hc hk))).symm
    have HI2 := hidT (HI.out.setHand l (p.uses + 1) (P.ok ⟨HPL.out.1, HPL.out.2, hs4⟩) (by have h1 := P.dirty; simp only [Bool.false_eq_true, if_false] at h1; have := HI.out.d6; omega) (by have := HI.out.us; omega))
    clear hP HQ P
    go_region_held3 (fun w' => w'.cell? ⟨s, 20, none⟩ = some (.slice A.ha p.hand.length A.hc) ∧ w'.cell? ⟨s, 28, none⟩ = some (.int .i64 p.uses)) (exact ⟨cellB_later' (w := wy) (by repeat (first | with_reducible exact Below.refl _ _ | with_reducible refine balloc ?_ _ | with_reducible refine bdrew ?_ | with_reducible refine bset' ?_ (by omega) _ | with_reducible refine bthen ?_ (by assumption))) y20, cellB_later' (w := wy) (by repeat (first | with_reducible exact Below.refl _ _ | with_reducible refine balloc ?_ _ | with_reducible refine bdrew ?_ | with_reducible refine bset' ?_ (by omega) _ | with_reducible refine bthen ?_ (by assumption))) y28⟩) (first | (go_at_call 51; refine (held_any s p A _ (HSy.out.at'.later (by repeat (first | with_reducible exact Below.refl _ _ | with_reducible refine balloc ?_ _ | with_reducible refine bdrew ?_ | with_reducible refine bset' ?_ (by omega) _ | with_reducible refine bthen ?_ (by assumption)))) (by have := HI.out.q6; omega)).mono ?_; rintro e w3 ⟨hb, rfl, hH, hb3⟩; have z3 : wy.heap.size ≤ w3.heap.size := (show Below wy.heap.size wy w3 by repeat (first | with_reducible exact Below.refl _ _ | with_reducible refine balloc ?_ _ | with_reducible refine bdrew ?_ | with_reducible refine bset' ?_ (by omega) _ | with_reducible refine bthen ?_ (by assumption))).size) | (go_at_call 101; refine (put_some hb (p.queue ++ p.dev.busy) p.hand A.ha A.hc ⟨pl, data, false, p.uses + 1⟩ _ (HSy.out.at'.mem.hand.later (by repeat (first | with_reducible exact Below.refl _ _ | with_reducible refine balloc ?_ _ | with_reducible refine bdrew ?_ | with_reducible refine bset' ?_ (by omega) _ | with_reducible refine bthen ?_ (by assumption)))) HSy.out.at'.mem.hnil h8 (HoldAt.later hH (by repeat (first | with_reducible exact Below.refl _ _ | with_reducible refine balloc ?_ _ | with_reducible refine bdrew ?_ | with_reducible refine bset' ?_ (by omega) _ | with_reducible refine bthen ?_ (by assumption)))) l HP.out).mono ?_; rintro e w4 ⟨a', c', rfl, hput, hb4⟩; have HPU := hidT hput; clear hput))
    all_goals
      have HS4 : Hid (SStep s p A p A w w4) := HSy.out.later (by repeat (first | with_reducible exact Below.refl _ _ | with_reducible refine balloc ?_ _ | with_reducible refine bdrew ?_ | with_reducible refine bset' ?_ (by omega) _ | with_reducible refine bthen ?_ (by assumption)))
      have HS5 := hidT (HS4.out.trans (HS4.out.at'.setHU l a' c' (p.uses + 1) HPU.out.1 HPU.out.2.1 HPU.out.2.2.2 (fun _ q' hq' e => by have := HPU.out.2.2.1 q' hq'; have := HSy.out.at'.offLt _ e; omega)))
      have v20 := HS4.out.at'.cell 20 _ rfl
      have x20 := HS4.out.at'.fz 20
      have v28 := HS4.out.at'.cell 28 _ rfl
      have x28 := HS4.out.at'.fz 28
      have l4 := HS4.out.at'.lt
      clear hb3 hb4 hH y20 y28
      go_wp2_with fail
      have hrd := readers_any s _ _ _ HS5.out.at' HI2.out pl 1 data 0 q HQ2.out
      rw [show errOf 0 = .nilIface from rfl] at hrd
      refine hrd.mono ?_
      clear hrd
      rintro e w5 ⟨rfl, hok⟩
      have HO := hidT (SOk.trans HS5.out hok)
      clear hok
      go_wp2
      go_end0
      exact ⟨rfl, HO.out⟩
theorem wasRead_any (s : Nat) (p : Sk) (A : Sa) (w : World) (h : StkAt s p A w) (hI : Inv p) (hU : p.uses ≤ 4000000000000000000) (pl : Int) (hpl : 0 ≤ pl ∧ pl ≤ 31) (data : ByteArray) (hs4 : data.size ≤ 4) (q : Sk) (hq : p.nf.wasRead pl data = q) :
    Calls Tryz.prog 86 #[.pointer (some ⟨s, 0, none⟩), .int .i64 pl, .string data] w fun e w' => e = .returned (.tuple #[]) ∧ SOk s p A w w' q := by
  rcases getB_idx p.hand pl with ⟨hg, _⟩ | ⟨k, hk', hg, hix, _⟩
  · exact wasRead_new s p A w h hI hU pl hpl data hs4 hg q hq
  · have e : p.nf.wasRead pl data = p.nf := by
      show (match getB p.hand pl with | some _ => _ | none => _) = _
      rw [hg]
    rw [e] at hq
    subst hq
    exact wasRead_at s p A w h pl data k hk' hix
end Go.Proofs.YtgjkdhedkbkagaaGreat
/- A stack of all: a request went well. -/
namespace Go.Proofs.YtgjkdhedkbkagaaGreat
open Go.RowKit Go.BigFrame Go.Maps
set_option maxRecDepth 100000
attribute [local go_sem] Later.cell Later.frozen

theorem resBox_only {F : Nat → Prop} {w w' : World} {q n xc : Nat} {r : Rq} {xa : Option Addr} {er : Int} (h : ResBox w q r xa n xc er) (hO : Only F w w') (hn : ¬ F q) : ResBox w' q r xa n xc er := by
  obtain ⟨h0, h1, h2, h3, h4, h5, h6, h7⟩ := h
  exact ⟨only_cell' hO hn h0, only_cell' hO hn h1, only_cell' hO hn h2, only_cell' hO hn h3, only_cell' hO hn h4, only_cell' hO hn h5, only_cell' hO hn h6, only_cell' hO hn h7⟩
/-- What stays as long as a request's sectors are told. -/
structure Went (s : Nat) (p : Sk) (A : Sa) (w0 wr : World) (q : Sk) (p' : Sk) (A' : Sa) : Prop where
  step : SStep s p A p' A' w0 wr
  nf : p'.nf = q
theorem wrapK (k f : Int) (h0 : 0 ≤ f ∧ f ≤ 31) (h1 : 0 ≤ k ∧ k ≤ 32) : wrap64 (k - f) = k - f := by unfold wrap64; omega
set_option linter.unusedSimpArgs false in
set_option maxRecDepth 100000 in
set_option maxHeartbeats 4000000 in
theorem wentWell_wr (s : Nat) (p : Sk) (A : Sa) (w : World) (h : StkAt s p A w) (hI : Inv p) (r : Rq) (gr : Good r) (hw : r.wr = true) (hd : StrsAt w r.da r.data) (hdo : r.data ≠ [] → ∀ ad, r.da = some ad → ¬ A.foot s ad.block) (xa : Option Addr) (xn xc : Nat) (xs : List ByteArray) (hx4 : ∀ j, (xs.getD j ByteArray.empty).size ≤ 4) (q : Sk) (hq : p.nf.wentWell r xs = q) :
    Calls Tryz.prog 63 #[.pointer (some ⟨s, 0, none⟩), resV r xa xn xc 0] w fun e w' => e = .returned (.tuple #[]) ∧ SOk s p A w w' q := by
  have HST := hidT h
  have HI := hidT hI
  have HG := hidT gr
  have HD := hidT hd
  have HDO := hidT hdo
  have HQ := hidT hq
  have HHAS := hidT (has_in r gr)
  have HB0 := hidT gr.bndD
  have HLEN := hidT (gr.shapeW hw)
  have HWR := hidT hw
  have hl := h.lt
  clear h hI gr hd hdo hq
  have ev : resV r xa xn xc 0 = .agg #[.bool true, .int .i64 r.f, .int .i64 r.m, .slice r.da r.data.length r.dc, .slice r.ta r.tags.length r.tc, .int .i64 r.born, .slice xa xn xc, .int .i64 0] := by
    unfold resV; rw [hw]
  rw [ev]
  clear ev
  go_enter Tryz.func63, Tryz.ntmps63
  go_wp2
  have hw0 : Below w.heap.size w (w.alloc (.cells #[.bool true, .int .i64 r.f, .int .i64 r.m, .slice r.da r.data.length r.dc, .slice r.ta r.tags.length r.tc, .int .i64 r.born, .slice r.da r.data.length r.dc, .int .i64 0] 110)) := by repeat (first | with_reducible exact Below.refl _ _ | with_reducible refine balloc ?_ _ | with_reducible refine bdrew ?_ | with_reducible refine bset' ?_ (by omega) _ | with_reducible refine bthen ?_ (by assumption))
  have hx0 : ResBox (w.alloc (.cells #[.bool true, .int .i64 r.f, .int .i64 r.m, .slice r.da r.data.length r.dc, .slice r.ta r.tags.length r.tc, .int .i64 r.born, .slice r.da r.data.length r.dc, .int .i64 0] 110)) w.heap.size r r.da r.data.length r.dc 0 := by
    have hr := res_new w 110 r r.da r.data.length r.dc 0
    rw [hw] at hr
    exact hr
  generalize hW : (w.alloc (.cells #[.bool true, .int .i64 r.f, .int .i64 r.m, .slice r.da r.data.length r.dc, .slice r.ta r.tags.length r.tc, .int .i64 r.born, .slice r.da r.data.length r.dc, .int .i64 0] 110)) = w0 at *
  clear hW
  have HS0 := hidT (SStep.same' HST.out hw0)
  have HX := hidT hx0
  have HD0 := hidT (HD.out.later hw0)
  have HGF : Hid (¬ A.foot s w.heap.size) := fun e => by have := HST.out.footLt _ e; omega
  have HSH : Hid (∀ j, (xs.getD j ByteArray.empty).size ≤ 4) := hx4
  clear hx4
  go_loopw [14] (fun i wr => ∃ k : Nat, k ≤ 32 ∧ i = .int .i64 k ∧ SRel s p A w0 wr (p.nf.wentTo r xs (below r.f.toNat r.m.toNat k))) (fun i _ => 32 - (intOf i).toNat)
  case atStart => exact ⟨0, by omega, rfl, p, A, SStep.same' HS0.out.at' (Below.refl _ _), by rw [show below r.f.toNat r.m.toNat 0 = 0 by unfold below; omega]; rfl⟩
  case round =>
    obtain ⟨k, hk, rfl, p', A', hs, hn⟩ := hrel
    have HS := hidT hs
    have HN := hidT hn
    by_cases hlt : k < 32
    · have hlt' : (k : Int) < 32 := by omega
      have HBX := hidT (resBox_only HX.out hs.only HGF.out)
      have HDD := hidT (strs_frame HD0.out hs.only HDO.out)
      obtain ⟨b0, b1, b2, b3, b4, b5, b6, b7⟩ := id HBX.out
      rw [hw] at b0
      have lb := lt_of_cell b0
      have hl1 := hs.at'.lt
      have c20 := hs.at'.cell 20 _ rfl
      have f20 := hs.at'.fz 20
      have hh := HHAS.out k hlt
      have HJ : Hid (below r.f.toNat r.m.toNat k ≤ r.m.toNat) := by show below r.f.toNat r.m.toNat k ≤ r.m.toNat; unfold below; omega
      have HI' : Hid (Inv p') := by
        have := HI.out.nf.wentTo r HG.out xs HSH.out _ HJ.out
        rw [← hn] at this
        exact this.of_nf
      clear hs hn
      by_cases hin : r.f.toNat ≤ k ∧ k < r.f.toNat + r.m.toNat
      · rw [decide_eq_true hin] at hh
        have HH := hidT hh
        obtain ⟨e1, e2⟩ := below_in hin.1 hin.2
        obtain ⟨j, hj⟩ : ∃ j, below r.f.toNat r.m.toNat k = j := ⟨_, rfl⟩
        rw [hj] at e1 e2 HN HJ
        have HE1 := hidT e1
        have HKJ : Hid ((k : Int) = r.f + j) := by have := HB0.out; show (k : Int) = r.f + j; omega
        have HWP : Hid (wrap64 ((k : Int) - r.f) = (j : Nat)) := by
          have := HB0.out; have := HKJ.out
          rw [wrapK k r.f (by omega) (by omega)]; show (k : Int) - r.f = j; omega
        have HJL : Hid (j < r.data.length) := by have := HLEN.out; have := HB0.out; show j < r.data.length; omega
        obtain ⟨d, hd⟩ : ∃ d, r.data.getD j ByteArray.empty = d := ⟨_, rfl⟩
        have HDJ := hidT hd
        have HSTEP : Hid (p'.nf.wentOne r xs j = { p'.nf with hand := cleanL p'.hand k d }) := by
          show p'.nf.wentOne r xs j = _
          unfold Sk.wentOne
          rw [if_pos hw, hd, ← HKJ.out]
          rfl
        clear hh hin e1 e2 hj hd
        go_wp2_with fail
        have hpt := part_in r r.data r.da r.dc 0 k _ HDD.out HH.out j HWP.out HJL.out d HDJ.out
        rw [show resV r r.da r.data.length r.dc 0 = .agg #[.bool true, .int .i64 r.f, .int .i64 r.m, .slice r.da r.data.length r.dc, .slice r.ta r.tags.length r.tc, .int .i64 r.born, .slice r.da r.data.length r.dc, .int .i64 0] by unfold resV; rw [hw]] at hpt
        refine hpt.mono ?_
        clear hpt
        rintro e w1 ⟨rfl, hb1⟩
        have HS1 := hidT (HS.out.later hb1)
        replace c20 := cellB_later' hb1 c20
        replace f20 := HS1.out.at'.fz 20
        replace b0 := cellB_later' hb1 b0
        replace hl1 := HS1.out.at'.lt
        replace lb := lt_of_cell b0
        clear hb1 b1 b2 b3 b4 b5 b6 b7
        go_wp2_with fail
        refine (cleanN p'.hand A'.ha A'.hc k d _ HS1.out.at'.mem.hand HS1.out.at'.mem.hnil (by have := HI'.out.hand.len; omega) HI'.out.hand.once).mono ?_
        rintro e w2 ⟨a', c', rfl, u1, u2, u3, u4, u5⟩
        have HS2 := hidT (HS1.out.later u5)
        have HS3 := hidT (HS2.out.trans (HS2.out.at'.setHand (cleanL p'.hand k d) a' c' u1 (by rw [show (cleanL p'.hand k d).length = p'.hand.length by simp [cleanL]]; exact u2) u4 (fun _ q' hq' e => by have := u3 q' hq'; have := HS1.out.at'.offLt _ e; omega)))
        rw [show (cleanL p'.hand k d).length = p'.hand.length by simp [cleanL]] at HS3
        have v20 := HS2.out.at'.cell 20 _ rfl
        have x20 := HS2.out.at'.fz 20
        have l2 := HS2.out.at'.lt
        clear c20 f20 u1 u2 u3 u4 u5
        go_wp2
        go_roundw
        case rel => exact ⟨k + 1, by omega, by go_num, _, _, HS3.out, by rw [HE1.out, wentTo_succ, ← HN.out, HSTEP.out]; rfl⟩
        case measure => simp [intOf]; omega
      · rw [decide_eq_false hin] at hh
        have HH := hidT hh
        have HE1 := hidT (below_out hin)
        clear hh hin
        go_wp2_with fail
        have hpt := part_no r r.da r.data.length r.dc 0 k wr HH.out
        rw [show resV r r.da r.data.length r.dc 0 = .agg #[.bool true, .int .i64 r.f, .int .i64 r.m, .slice r.da r.data.length r.dc, .slice r.ta r.tags.length r.tc, .int .i64 r.born, .slice r.da r.data.length r.dc, .int .i64 0] by unfold resV; rw [hw]] at hpt
        refine hpt.mono ?_
        clear hpt
        rintro e w1 ⟨rfl, hb1⟩
        have HS1 := hidT (HS.out.later hb1)
        clear hb1 b0 b1 b2 b3 b4 b5 b6 b7
        go_wp2
        go_roundw
        case rel => exact ⟨k + 1, by omega, by go_num, p', A', HS1.out, by rw [HE1.out]; exact HN.out⟩
        case measure => simp [intOf]; omega
    · obtain rfl : k = 32 := by omega
      clear hs hn
      go_wp2
      go_end0
      refine ⟨rfl, p', A', HS0.out.trans HS.out, HN.out.trans ?_⟩
      rw [below_all (by have := HB0.out; omega)]; exact HQ.out
end Go.Proofs.YtgjkdhedkbkagaaGreat
/- A stack of all: a request to read went well. -/
namespace Go.Proofs.YtgjkdhedkbkagaaGreat
open Go.RowKit Go.BigFrame Go.Maps
set_option maxRecDepth 100000
attribute [local go_sem] Later.cell Later.frozen

set_option linter.unusedSimpArgs false in
set_option maxRecDepth 100000 in
set_option maxHeartbeats 4000000 in
theorem wentWell_rd (s : Nat) (p : Sk) (A : Sa) (w : World) (h : StkAt s p A w) (hI : Inv p) (r : Rq) (hU : p.uses ≤ 3999999999999999990) (gr : Good r) (hw : r.wr = false) (xa : Option Addr) (xc : Nat) (xs : List ByteArray) (hd : StrsAt w xa xs) (hdo : xs ≠ [] → ∀ ad, xa = some ad → ¬ A.foot s ad.block) (hlen : xs.length = r.m.toNat) (hx4 : ∀ j, (xs.getD j ByteArray.empty).size ≤ 4) (q : Sk) (hq : p.nf.wentWell r xs = q) :
    Calls Tryz.prog 63 #[.pointer (some ⟨s, 0, none⟩), resV r xa xs.length xc 0] w fun e w' => e = .returned (.tuple #[]) ∧ SOk s p A w w' q := by
  have HST := hidT h
  have HI := hidT hI
  have HG := hidT gr
  have HD := hidT hd
  have HDO := hidT hdo
  have HQ := hidT hq
  have HHAS := hidT (has_in r gr)
  have HB0 := hidT gr.bndD
  have HLEN := hidT hlen
  have HU := hidT hU
  have HWR := hidT hw
  have hl := h.lt
  clear h hI gr hd hdo hq hlen hU
  have ev : resV r xa xs.length xc 0 = .agg #[.bool false, .int .i64 r.f, .int .i64 r.m, .slice r.da r.data.length r.dc, .slice r.ta r.tags.length r.tc, .int .i64 r.born, .slice xa xs.length xc, .int .i64 0] := by
    unfold resV; rw [hw]
  rw [ev]
  clear ev
  go_enter Tryz.func63, Tryz.ntmps63
  go_wp2
  have hw0 : Below w.heap.size w (w.alloc (.cells #[.bool false, .int .i64 r.f, .int .i64 r.m, .slice r.da r.data.length r.dc, .slice r.ta r.tags.length r.tc, .int .i64 r.born, .slice xa xs.length xc, .int .i64 0] 110)) := by repeat (first | with_reducible exact Below.refl _ _ | with_reducible refine balloc ?_ _ | with_reducible refine bdrew ?_ | with_reducible refine bset' ?_ (by omega) _ | with_reducible refine bthen ?_ (by assumption))
  have hx0 : ResBox (w.alloc (.cells #[.bool false, .int .i64 r.f, .int .i64 r.m, .slice r.da r.data.length r.dc, .slice r.ta r.tags.length r.tc, .int .i64 r.born, .slice xa xs.length xc, .int .i64 0] 110)) w.heap.size r xa xs.length xc 0 := by
    have hr := res_new w 110 r xa xs.length xc 0
    rw [hw] at hr
    exact hr
  generalize hW : (w.alloc (.cells #[.bool false, .int .i64 r.f, .int .i64 r.m, .slice r.da r.data.length r.dc, .slice r.ta r.tags.length r.tc, .int .i64 r.born, .slice xa xs.length xc, .int .i64 0] 110)) = w0 at *
  clear hW
  have HS0 := hidT (SStep.same' HST.out hw0)
  have HX := hidT hx0
  have HD0 := hidT (HD.out.later hw0)
  have HGF : Hid (¬ A.foot s w.heap.size) := fun e => by have := HST.out.footLt _ e; omega
  have HSH : Hid (∀ j, (xs.getD j ByteArray.empty).size ≤ 4) := hx4
  clear hx4
  go_loopw [14] (fun i wr => ∃ k : Nat, k ≤ 32 ∧ i = .int .i64 k ∧ SRel s p A w0 wr (p.nf.wentTo r xs (below r.f.toNat r.m.toNat k))) (fun i _ => 32 - (intOf i).toNat)
  case atStart => exact ⟨0, by omega, rfl, p, A, SStep.same' HS0.out.at' (Below.refl _ _), by rw [show below r.f.toNat r.m.toNat 0 = 0 by unfold below; omega]; rfl⟩
  case round =>
    obtain ⟨k, hk, rfl, p', A', hs, hn⟩ := hrel
    have HS := hidT hs
    have HN := hidT hn
    by_cases hlt : k < 32
    · have hlt' : (k : Int) < 32 := by omega
      have HBX := hidT (resBox_only HX.out hs.only HGF.out)
      have HDD := hidT (strs_frame HD0.out hs.only HDO.out)
      obtain ⟨b0, b1, b2, b3, b4, b5, b6, b7⟩ := id HBX.out
      rw [hw] at b0
      have lb := lt_of_cell b0
      have hl1 := hs.at'.lt
      have c20 := hs.at'.cell 20 _ rfl
      have f20 := hs.at'.fz 20
      have hh := HHAS.out k hlt
      have HJ : Hid (below r.f.toNat r.m.toNat k ≤ r.m.toNat) := by show below r.f.toNat r.m.toNat k ≤ r.m.toNat; unfold below; omega
      have HI' : Hid (Inv p') := by
        have := HI.out.nf.wentTo r HG.out xs HSH.out _ HJ.out
        rw [← hn] at this
        exact this.of_nf
      clear hs hn
      by_cases hin : r.f.toNat ≤ k ∧ k < r.f.toNat + r.m.toNat
      · rw [decide_eq_true hin] at hh
        have HH := hidT hh
        obtain ⟨e1, e2⟩ := below_in hin.1 hin.2
        obtain ⟨j, hj⟩ : ∃ j, below r.f.toNat r.m.toNat k = j := ⟨_, rfl⟩
        rw [hj] at e1 e2 HN HJ
        have HE1 := hidT e1
        have HKJ : Hid ((k : Int) = r.f + j) := by have := HB0.out; show (k : Int) = r.f + j; omega
        have HWP : Hid (wrap64 ((k : Int) - r.f) = (j : Nat)) := by
          have := HB0.out; have := HKJ.out
          rw [wrapK k r.f (by omega) (by omega)]; show (k : Int) - r.f = j; omega
        have HJL : Hid (j < xs.length) := by have := HLEN.out; have := HB0.out; show j < xs.length; omega
        obtain ⟨d, hd⟩ : ∃ d, xs.getD j ByteArray.empty = d := ⟨_, rfl⟩
        have HDJ := hidT hd
        have HSTEP : Hid (p'.nf.wentOne r xs j = p'.nf.wasRead k d) := by
          show p'.nf.wentOne r xs j = _
          unfold Sk.wentOne
          rw [if_neg (by rw [hw]; exact Bool.false_ne_true), hd, ← HKJ.out]
        have HD4 : Hid (d.size ≤ 4) := by have := HSH.out j; rw [hd] at this; exact this
        have HUU : Hid (p'.uses ≤ 4000000000000000000) := by
          have h1 := (mild_wentTo p.nf r xs j).uses
          rw [← HN.out] at h1
          have h2 : p'.uses ≤ p.uses + j := h1
          have := HU.out; have := HJ.out; have := HB0.out
          show p'.uses ≤ 4000000000000000000
          omega
        clear hh hin e1 e2 hj hd
        go_wp2_with fail
        have hpt := part_in r xs xa xc 0 k _ HDD.out HH.out j HWP.out HJL.out d HDJ.out
        rw [show resV r xa xs.length xc 0 = .agg #[.bool false, .int .i64 r.f, .int .i64 r.m, .slice r.da r.data.length r.dc, .slice r.ta r.tags.length r.tc, .int .i64 r.born, .slice xa xs.length xc, .int .i64 0] by unfold resV; rw [hw]] at hpt
        refine hpt.mono ?_
        clear hpt
        rintro e w1 ⟨rfl, hb1⟩
        have HS1 := hidT (HS.out.later hb1)
        replace c20 := cellB_later' hb1 c20
        replace f20 := HS1.out.at'.fz 20
        replace b0 := cellB_later' hb1 b0
        replace hl1 := HS1.out.at'.lt
        replace lb := lt_of_cell b0
        clear hb1 b1 b2 b3 b4 b5 b6 b7
        go_wp2_with fail
        refine (wasRead_any s p' A' _ HS1.out.at' HI'.out HUU.out k (by have := HB0.out; have := HKJ.out; omega) d HD4.out _ rfl).mono ?_
        rintro e w2 ⟨rfl, hok⟩
        have HO := hidT (SOk.trans HS1.out hok)
        clear hok c20 f20
        go_wp2
        go_roundw
        case rel => exact ⟨k + 1, by omega, by go_num, by rw [HE1.out, wentTo_succ, ← HN.out, HSTEP.out]; exact HO.out⟩
        case measure => simp [intOf]; omega
      · rw [decide_eq_false hin] at hh
        have HH := hidT hh
        have HE1 := hidT (below_out hin)
        clear hh hin
        go_wp2_with fail
        have hpt := part_no r xa xs.length xc 0 k wr HH.out
        rw [show resV r xa xs.length xc 0 = .agg #[.bool false, .int .i64 r.f, .int .i64 r.m, .slice r.da r.data.length r.dc, .slice r.ta r.tags.length r.tc, .int .i64 r.born, .slice xa xs.length xc, .int .i64 0] by unfold resV; rw [hw]] at hpt
        refine hpt.mono ?_
        clear hpt
        rintro e w1 ⟨rfl, hb1⟩
        have HS1 := hidT (HS.out.later hb1)
        clear hb1 b0 b1 b2 b3 b4 b5 b6 b7
        go_wp2
        go_roundw
        case rel => exact ⟨k + 1, by omega, by go_num, p', A', HS1.out, by rw [HE1.out]; exact HN.out⟩
        case measure => simp [intOf]; omega
    · obtain rfl : k = 32 := by omega
      clear hs hn
      go_wp2
      go_end0
      refine ⟨rfl, p', A', HS0.out.trans HS.out, HN.out.trans ?_⟩
      rw [below_all (by have := HB0.out; omega)]; exact HQ.out
end Go.Proofs.YtgjkdhedkbkagaaGreat
/- A stack of all: how a request ends, without the places of lists; the driver's answer. -/
namespace Go.Proofs.YtgjkdhedkbkagaaGreat
open Go.RowKit Go.BigFrame Go.Maps
set_option maxRecDepth 100000
attribute [local go_sem] Later.cell Later.frozen

theorem writesTo_at (d : Dl) (l : List Rq) (r : Rq) : ∀ n, ({ d with busy := l } : Dl).writesTo r n = { d.writesTo r n with busy := l }
  | 0 => rfl
  | n + 1 => by rw [Dl.writesTo_succ, writesTo_at d l r n, Dl.writesTo_succ]; rfl
theorem did_at (d : Dl) (l : List Rq) (r : Rq) : ({ d with busy := l } : Dl).did r = { d.did r with busy := l } := by
  unfold Dl.did
  split
  · exact writesTo_at d l r _
  · rfl
theorem did_nf (d : Dl) (r : Rq) : d.nf.did r.nf = (d.did r).nf := by
  show ({ d with busy := d.busy.map Rq.nf } : Dl).did r = { d.did r with busy := (d.did r).busy.map Rq.nf }
  rw [did_at, Dl.did_busy]
theorem took_nf (p : Sk) (k : Nat) : p.nf.took k = (p.took k).nf := by
  simp only [Sk.took, Sk.nf, Dl.nf, List.eraseIdx_eq_take_drop_succ, List.map_append, List.map_take, List.map_drop]
theorem skdid_nf (p : Sk) (r : Rq) : p.nf.did r.nf = (p.did r).nf := by
  have e : p.nf.dev.did r.nf = (p.dev.did r).nf := did_nf p.dev r
  unfold Sk.did
  rw [e]
  rfl
theorem again_nf (p : Sk) (r : Rq) : p.nf.again r.nf = (p.again r).nf := by
  simp only [Sk.again, Sk.nf, Dl.nf, List.map_append, List.map_cons, List.map_nil]
  rfl
theorem busy_nf {p : Sk} {k : Nat} {r : Rq} (h : p.dev.busy[k]? = some r) : p.nf.dev.busy[((k : Int)).toNat]? = some r.nf := by
  rw [Int.toNat_natCast]
  show (p.dev.busy.map Rq.nf)[k]? = _
  rw [List.getElem?_map, h]; rfl
section
variable {p : Sk} {k : Nat} {r : Rq}
theorem end_ok_nf (h : p.dev.busy[k]? = some r) : p.nf.end' (k : Int) false = (0, (((p.took k).did r).nf.wentWell r (didRead p.dev r)).serve) := by
  unfold Sk.end'
  rw [if_neg (by omega), busy_nf h]
  simp only [Int.toNat_natCast, if_true]
  rw [took_nf, skdid_nf]; rfl
theorem end_again_nf (h : p.dev.busy[k]? = some r) (hf : p.f (r.tags.getD 0 0) < 2) : p.nf.end' (k : Int) true = (0, ((p.took k).again r).nf) := by
  unfold Sk.end'
  rw [if_neg (by omega), busy_nf h]
  simp only [Int.toNat_natCast]
  rw [if_neg (by decide), if_pos (show p.nf.f (r.nf.tags.getD 0 0) < 2 from hf), took_nf, again_nf]
theorem end_dead_nf (h : p.dev.busy[k]? = some r) (hf : ¬ p.f (r.tags.getD 0 0) < 2) (hw : r.wr = true) : p.nf.end' (k : Int) true = (0, ({ (p.took k).lost r with dead := true } : Sk).nf.serve) := by
  unfold Sk.end'
  rw [if_neg (by omega), busy_nf h]
  simp only [Int.toNat_natCast]
  rw [if_neg (by decide), if_neg (show ¬ p.nf.f (r.nf.tags.getD 0 0) < 2 from hf), if_pos (show r.nf.wr = true from hw), took_nf]; rfl
theorem end_lost_nf (h : p.dev.busy[k]? = some r) (hf : ¬ p.f (r.tags.getD 0 0) < 2) (hw : r.wr = false) : p.nf.end' (k : Int) true = (0, ((((p.took k).lost r).nf.readers (hasB r.f r.m) ByteArray.empty 8).serve)) := by
  unfold Sk.end'
  rw [if_neg (by omega), busy_nf h]
  simp only [Int.toNat_natCast]
  rw [if_neg (by decide), if_neg (show ¬ p.nf.f (r.nf.tags.getD 0 0) < 2 from hf), if_neg (by rw [show r.nf.wr = false from hw]; exact Bool.false_ne_true), took_nf]; rfl
end
theorem end_out_nf {p : Sk} {i : Int} (h : i < 0 ∨ (p.dev.busy.length : Int) ≤ i) (fl : Bool) : p.nf.end' i fl = (5, p.nf) := by
  unfold Sk.end'
  by_cases h0 : i < 0
  · rw [if_pos h0]
  · rw [if_neg h0]
    have : p.nf.dev.busy[i.toNat]? = none := by
      show (p.dev.busy.map Rq.nf)[i.toNat]? = none
      rw [List.getElem?_eq_none]; rw [List.length_map]; omega
    rw [this]
section
variable {s : Nat} {p : Sk} {A : Sa} {w : World} {k : Nat} {r : Rq}
theorem StkAt.vreq (h : StkAt s p A w) (hI : Inv p) (hT : p.tags ≤ 4000000000000000000) (hk : p.dev.busy[k]? = some r) : VReq A.bm p.dev k r (r.tags.getD 0 0) := by
  have hm : r ∈ p.queue ++ p.dev.busy := List.mem_append_right _ (List.mem_of_getElem? hk)
  have g := hI.good r hm
  refine ⟨hk, rfl, ?_, g.t1, fun q hq => ?_⟩
  · have h1 : 0 < r.tags.length := g.t1
    have h2 : r.tags.getD 0 0 ∈ r.tags := by
      rw [List.getD_eq_getElem?_getD, List.getElem?_eq_getElem h1, Option.getD_some]; exact List.getElem_mem h1
    have h3 := hI.tin r hm _ h2
    unfold In64
    omega
  · have := h.mem.roff q (List.mem_append_right _ hq)
    exact ⟨fun he ad ha e => this.1 he ad ha (Or.inr (Or.inl (Or.inl e))), fun he ad ha e => this.2 he ad ha (Or.inr (Or.inl (Or.inl e)))⟩
end
end Go.Proofs.YtgjkdhedkbkagaaGreat
