/- The document's device: End of none, End by a fault; what stands when a request is taken out. -/
import Derived.Test.YthmeaclekedilacRDev6
import Derived.Test.YthmeaclekedilacDrv2
namespace Go.Proofs.Ythmeaclekedilac
open Go.RowKit Go.BigFrame
attribute [local go_sem] Later.cell Later.frozen

/-- A block of the call's own turns. -/
theorem RStep.other {b : Nat} {d d' : Rd} {a a' : Ra} {w w' w'' : World} {q : Nat} (h : RStep b d a d' a' w w') (hO : Only (fun k => k = q) w' w'') (hq : w.heap.size ≤ q) (nf : ¬ a'.foot b q) (nl : d'.busy ≠ [] → ∀ p, a'.la = some p → p.block ≠ q) (nr : ∀ r ∈ d'.busy, r.Off (fun k => k = q)) : RStep b d a d' a' w w'' :=
  ⟨h.dev.frame hO (fun k hk e => nf (e ▸ hk)) nl nr, h.only.trans hO (fun i e => Or.inr (by subst e; exact hq)), h.foot, h.lan⟩
set_option maxHeartbeats 1000000 in
theorem rend_none (b : Nat) (d : Rd) (a : Ra) (i : Int) (fl : Bool) (w : World) (h : RdAt b d a w) (hi : i < 0 ∨ (d.busy.length : Int) ≤ i) :
    Calls Try.prog 17 #[.pointer (some ⟨b, 0, none⟩), .int .i64 i, .bool fl] w fun e w' => e = .returned (.tuple #[noRes, .int .i64 5]) ∧ Below w.heap.size w w' := by
  have c := h.c65
  have hl := h.lt
  clear h
  have hz := zero_new w 49
  have HZ := hidT hz
  have HB := hidT (below1 w (.cells #[.bool false, .int .i64 0, .int .i64 0, .slice none 0 0, .slice none 0 0, .int .i64 0, .slice none 0 0, .int .i64 0] 49))
  clear hz
  by_cases h0 : i < 0
  · go_enter Try.func17, Try.ntmps17
    go_wp2_with (refine wpList_store_res rfl (.tmp 6) (.tmp 23) rfl w.heap.size rq0 none 0 0 0 rfl rfl (zero_there HZ.out) (fun wK => Below w.heap.size w wK ∧ ResBoxF wK w.heap.size rq0 none 0 0 0) ⟨HB.out.trans ((set8_only _ w.heap.size _ _ _ _ _ _ _ _).below (by simp) (fun i e => by omega)), set8_res (zero_there HZ.out) HZ.out.2.2⟩ ?_; rintro w3 ⟨hb3, ⟨z0, z1, z2, z3, z4, z5, z6, z7⟩, -, -⟩; have HB3 := hidT hb3; clear hb3)
    exact bodyPost_ret (v := .tuple #[noRes, .int .i64 5]) (by simp [results, Try.results17, go_sem, z0, z1, z2, z3, z4, z5, z6, z7, rq0]) rfl ⟨rfl, HB3.out⟩
  · have h1 : (d.busy.length : Int) ≤ i := hi.resolve_left h0
    go_enter Try.func17, Try.ntmps17
    go_wp2_with (refine wpList_store_res rfl (.tmp 6) (.tmp 23) rfl w.heap.size rq0 none 0 0 0 rfl rfl (zero_there HZ.out) (fun wK => Below w.heap.size w wK ∧ ResBoxF wK w.heap.size rq0 none 0 0 0) ⟨HB.out.trans ((set8_only _ w.heap.size _ _ _ _ _ _ _ _).below (by simp) (fun i e => by omega)), set8_res (zero_there HZ.out) HZ.out.2.2⟩ ?_; rintro w3 ⟨hb3, ⟨z0, z1, z2, z3, z4, z5, z6, z7⟩, -, -⟩; have HB3 := hidT hb3; clear hb3)
    exact bodyPost_ret (v := .tuple #[noRes, .int .i64 5]) (by simp [results, Try.results17, go_sem, z0, z1, z2, z3, z4, z5, z6, z7, rq0]) rfl ⟨rfl, HB3.out⟩
/-- What stands behind 'd.L = without(d.L, i)': w4. -/
structure Out (b : Nat) (d : Rd) (a : Ra) (k : Nat) (r : Rq) (a' : Ra) (w w4 : World) : Prop where
  step : RStep b d a { d with busy := d.busy.eraseIdx k } a' w w4
  zero : ZeroAt w4 w.heap.size
  box : BoxAt w4 (w.heap.size + 1) r
  nf : ∀ q, w.heap.size ≤ q → ¬ a'.foot b q
  nl : ∀ p, a'.la = some p → w.heap.size + 2 ≤ p.block
  at' : r.At w4
  off : r.Off (a'.foot b)
  same : a'.foot b = a.foot b
theorem Out.nr {b : Nat} {d : Rd} {a : Ra} {k : Nat} {r : Rq} {a' : Ra} {w w4 : World} (_h : Out b d a k r a' w w4) (hd : RdAt b d a w) (q : Nat) (hq : w.heap.size ≤ q) : ∀ x ∈ d.busy.eraseIdx k, x.Off (fun j => j = q) := fun x hx =>
  off_of (hd.lrow.2.1 x (List.mem_of_mem_eraseIdx hx)) (fun j e => by omega)
/-- The head of End: till the request is out. -/
theorem ended_out {b : Nat} {d : Rd} {a : Ra} {w w2 w3 : World} {k : Nat} (hk : k < d.busy.length) (h : RdAt b d a w) (hb : Below w.heap.size w w2) (hz : ZeroAt w2 w.heap.size) (hx : BoxAt w2 (w.heap.size + 1) d.busy[k]) (hs : w.heap.size + 2 ≤ w2.heap.size) {x : Option Addr} {c : Nat} (hb3 : Below w2.heap.size w2 w3) (hN : NewL w2.heap.size w3 x c (d.busy.eraseIdx k)) :
    Out b d a k d.busy[k] { a with la := x, lc := c } w (w3.setCell ⟨b, 65, none⟩ (.slice x (d.busy.eraseIdx k).length c)) := by
  have hl := h.lt
  have hst := h.busied (bthen hb hb3) (d.busy.eraseIdx k) (by have := h.blen; rw [List.length_eraseIdx]; split <;> omega) x c hN.here hN.nil hN.cap (fun _ p hp => by have := hN.new p hp; omega) (fun r hr => ⟨h.lrow.2.1 r (List.mem_of_mem_eraseIdx hr), h.reqs r (List.mem_of_mem_eraseIdx hr)⟩)
  have hO : Only (fun j => j = b) w3 (w3.setCell ⟨b, 65, none⟩ (.slice x (d.busy.eraseIdx k).length c)) := Only.of_set _
  have hm := List.getElem_mem hk
  exact {
    step := hst
    zero := (hz.only (F := fun _ => False) (Only.of_below hb3) (fun e => e)).only hO (by omega)
    box := (hx.later hb3).only hO (by omega)
    nf := fun q hq e => by have := h.footLt q e; omega
    nl := fun p hp => by have := hN.new p hp; omega
    at' := (h.lrow.2.1 _ hm).frame (h.reqs _ hm) hst.only
    off := h.reqs _ hm
    same := rfl }
theorem RdAt.lplace {b : Nat} {d : Rd} {a : Ra} {w : World} (h : RdAt b d a w) {k : Nat} (hk : k < d.busy.length) : ∃ g o, a.la = some ⟨g, o, none⟩ ∧ w.cell? ⟨g, o + k * 6, none⟩ = some (.bool d.busy[k].wr) ∧ w.cell? ⟨g, o + k * 6 + 1, none⟩ = some (.int .i64 d.busy[k].f) ∧ w.cell? ⟨g, o + k * 6 + 2, none⟩ = some (.int .i64 d.busy[k].m) ∧
      w.cell? ⟨g, o + k * 6 + 3, none⟩ = some (.slice d.busy[k].da d.busy[k].data.length d.busy[k].dc) ∧ w.cell? ⟨g, o + k * 6 + 4, none⟩ = some (.slice d.busy[k].ta d.busy[k].tags.length d.busy[k].tc) ∧ w.cell? ⟨g, o + k * 6 + 5, none⟩ = some (.int .i64 d.busy[k].born) := by
  have hl := h.lrow
  rcases hl.form with e | ⟨g, o, e⟩
  · rw [e] at hk; exact absurd hk (Nat.not_lt_zero _)
  · rw [e] at hl
    exact ⟨g, o, e, hl.cells hk⟩
set_option maxRecDepth 100000 in
set_option maxHeartbeats 2000000 in
theorem rend_fault (b : Nat) (d : Rd) (a : Ra) (k : Nat) (hk : k < d.busy.length) (w : World) (h : RdAt b d a w) :
    Calls Try.prog 17 #[.pointer (some ⟨b, 0, none⟩), .int .i64 k, .bool true] w fun e w' => ∃ a', e = .returned (.tuple #[resV d.busy[k] none 0 0 8, .int .i64 0]) ∧ a'.wa = a.wa ∧ RStep b d a { d with busy := d.busy.eraseIdx k } a' w w' := by
  have hl := h.lt; have HD := hidT h; have h0 : ¬ (k : Int) < 0 := (by omega); have h1 : ¬ (d.busy.length : Int) ≤ (k : Int) := (by omega); have h2 : (k : Int) < (d.busy.length : Int) := (by omega); have hk2 : (k : Int) ≤ 1 := (by have := h.blen; omega); have c := h.c65; obtain ⟨g, o, hg0, r0, r1, r2, r3, r4, r5⟩ := h.lplace hk; have hR := h.lrow; have hcap := h.lcap; rw [hg0] at c hR; have HR := hidT (⟨hR, hcap⟩ : _ ∧ _); have lg := lt_of_cell r0; have HBL := hidT h.blen; clear h hR hcap hg0; generalize hr : d.busy[k] = r at *; have HRR := hidT hr; clear hr; go_enter Try.func17, Try.ntmps17; go_wp2_with fail; have hB2 := below2 w (.cells #[.bool false, .int .i64 0, .int .i64 0, .slice none 0 0, .slice none 0 0, .int .i64 0, .slice none 0 0, .int .i64 0] 49) (.cells #[.bool r.wr, .int .i64 r.f, .int .i64 r.m, .slice r.da r.data.length r.dc, .slice r.ta r.tags.length r.tc, .int .i64 r.born] 38); refine (rwithout_any d.busy g o a.lc k _ (HR.out.1.later hB2) (by have := HBL.out; omega) HR.out.2 hk).mono ?_; rintro e w3 ⟨xa, xc, rfl, hN, hb3⟩; have hz2 := (zero_new w 49).only (F := fun _ => False) ((Only.refl _ _).alloc (.cells #[.bool r.wr, .int .i64 r.f, .int .i64 r.m, .slice r.da r.data.length r.dc, .slice r.ta r.tags.length r.tc, .int .i64 r.born] 38)) (fun e => e); have hx2 := box_new (w.alloc (.cells #[.bool false, .int .i64 0, .int .i64 0, .slice none 0 0, .slice none 0 0, .int .i64 0, .slice none 0 0, .int .i64 0] 49)) 38 r; rw [World.size_alloc] at hx2; have hO := ended_out hk HD.out hB2 hz2 (by rw [HRR.out]; exact hx2) (by simp) hb3 hN; rw [HRR.out] at hO; have c3 := (HD.out.later (bthen hB2 hb3)).c65; have f3 := (HD.out.later (bthen hB2 hb3)).fz 65; have l3 := (HD.out.later (bthen hB2 hb3)).lt; have HO := hidT hO; clear hz2 hx2 hO hN hb3 hB2 r0 r1 r2 r3 r4 r5 c lg; obtain ⟨x0, x1, x2, x3, x4, x5⟩ := id HO.out.box; generalize hW : w3.setCell ⟨b, 65, none⟩ (.slice xa (d.busy.eraseIdx k).length xc) = w4 at *
  go_wp2_with (refine wpList_store_res rfl (.tmp 6) (.tmp 42) rfl w.heap.size r none 0 0 8 rfl rfl (zero_there HO.out.zero) (fun wK => RStep b d a { d with busy := d.busy.eraseIdx k } { a with la := xa, lc := xc } w wK ∧ ResBoxF wK w.heap.size r none 0 0 8) ⟨HO.out.step.other (set8_only _ w.heap.size _ _ _ _ _ _ _ _) (Nat.le_refl _) (HO.out.nf _ (Nat.le_refl _)) (fun _ p hp => by have := HO.out.nl p hp; omega) (HO.out.nr HD.out _ (Nat.le_refl _)), set8_res (zero_there HO.out.zero) HO.out.zero.2.2⟩ ?_; rintro w5 ⟨hs5, ⟨z0, z1, z2, z3, z4, z5, z6, z7⟩, -, -⟩; have HS5 := hidT hs5; clear hs5)
  exact bodyPost_ret (v := .tuple #[resV r none 0 0 8, .int .i64 0]) (by simp [results, Try.results17, go_sem, z0, z1, z2, z3, z4, z5, z6, z7]) rfl ⟨{ a with la := xa, lc := xc }, rfl, rfl, HS5.out⟩
end Go.Proofs.Ythmeaclekedilac
