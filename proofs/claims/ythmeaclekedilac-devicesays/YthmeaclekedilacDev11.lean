/- A request is done at once: written (of weighbridgetop). -/
import Derived.Test.YthmeaclekedilacDev10
import Derived.Test.YthmeaclekedilacActs
import Derived.Test.YthmeaclekedilacCheck2
namespace Go.Proofs.Ythmeaclekedilac
open Go.RowKit Go.BigFrame
attribute [local go_sem] Later.cell Later.frozen

theorem errOf0 : errOf 0 = .nilIface := rfl
theorem errOfN {n : Int} (h : ¬ n = 0) : errOf n = .iface 47 (.int .i64 n) := by rw [errOf, if_neg h]
theorem rcheck_nil (r : Rq) (w : World) (hr : r.At w) (hn : faultR r = 0) : Calls Try.prog 50 #[r.val] w fun e w' => e = .returned .nilIface ∧ Below w.heap.size w w' := by
  have := rcheck_any r w hr 0 hn
  rwa [errOf0] at this
theorem rcheck_err (r : Rq) (w : World) (hr : r.At w) (hn : ¬ faultR r = 0) : Calls Try.prog 50 #[r.val] w fun e w' => e = .returned (.iface 47 (.int .i64 (faultR r))) ∧ Below w.heap.size w w' := by
  have := rcheck_any r w hr _ rfl
  rwa [errOfN hn] at this
/-- What a device has when a request is done. -/
def Dl.did (d : Dl) (r : Rq) : Dl := if r.wr = true then d.writesTo r r.m.toNat else d
theorem Dl.did_busy (d : Dl) (r : Rq) : (d.did r).busy = d.busy := by unfold Dl.did; split; exact Dl.writesTo_busy _ _ _; rfl
theorem busy_back (d : Dl) (r : Rq) (h : d.busy = []) : ({ d with busy := (d.busy ++ [r]).eraseIdx 0 } : Dl) = d := by cases d; simp only at h; subst h; rfl
theorem noBusy (d : Dl) (h : d.busy = []) : ({ d with busy := [] } : Dl) = d := by cases d; simp only at h; subst h; rfl
def didRead (d : Dl) (r : Rq) : List ByteArray := if r.wr = true then [] else readTo d r.f.toNat r.m.toNat
/-- End of the only request that it has. -/
theorem end_only (b : Nat) (d : Dl) (r : Rq) (a : An) (w : World) (hd : d.busy = []) (h : DevAt b { d with busy := [r] } a w) (gr : Good r) :
    Calls Try.prog 16 #[.pointer (some ⟨b, 0, none⟩), .int .i64 0, .bool false] w fun e w' => ∃ a' xa xc xs, e = .returned (.tuple #[resV r xa (List.length xs) xc 0, .nilIface]) ∧ Hid (xs = didRead d r) ∧ StrsAt w' xa xs ∧ (∀ ad, xa = some ad → w.heap.size ≤ ad.block ∧ ¬ a'.foot b ad.block) ∧ DStep b { d with busy := [r] } a (d.did r) a' w w' := by
  have hk : 0 < ({ d with busy := [r] } : Dl).busy.length := by simp
  by_cases hw : r.wr = true
  · have := end_write b { d with busy := [r] } a 0 hk w h gr hw
    simp only [List.getElem_cons_zero, List.eraseIdx_cons_zero, noBusy d hd] at this
    refine this.mono ?_
    rintro e w' ⟨a', rfl, hs⟩
    refine ⟨a', none, 0, [], rfl, by show _ = _; rw [didRead, if_pos hw], Or.inl rfl, by simp, ?_⟩
    rw [Dl.did, if_pos hw]; exact hs
  · have hw' : r.wr = false := by simpa using hw
    have := end_read b { d with busy := [r] } a 0 hk w h gr hw'
    simp only [List.getElem_cons_zero, List.eraseIdx_cons_zero, noBusy d hd] at this
    refine this.mono ?_
    rintro e w' ⟨a', xa, xc, rfl, h1, h2, h3, hs⟩
    refine ⟨a', xa, xc, _, rfl, by show _ = _; rw [didRead, if_neg hw]; rfl, h1, h3, ?_⟩
    rw [Dl.did, if_neg hw]; exact hs
/-- An act in a block of its own. -/
def ActBox (w : World) (q : Nat) (x : Ac) : Prop := w.cell? ⟨q, 1, none⟩ = some (.bool x.req.wr) ∧ w.cell? ⟨q, 2, none⟩ = some (.int .i64 x.req.f) ∧ w.cell? ⟨q, 3, none⟩ = some (.int .i64 x.req.m) ∧ w.cell? ⟨q, 4, none⟩ = some (.slice x.req.da x.req.data.length x.req.dc) ∧ w.cell? ⟨q, 5, none⟩ = some (.slice x.req.ta x.req.tags.length x.req.tc) ∧ w.cell? ⟨q, 6, none⟩ = some (.int .i64 x.req.born)
theorem ActBox.later {w w' : World} {q : Nat} {x : Ac} (h : ActBox w q x) (hb : Below w.heap.size w w') : ActBox w' q x := by
  obtain ⟨h0, h1, h2, h3, h4, h5⟩ := h
  exact ⟨cell_later' hb h0, cell_later' hb h1, cell_later' hb h2, cell_later' hb h3, cell_later' hb h4, cell_later' hb h5⟩
theorem act_new (w : World) (T : TypeId) (x : Ac) : ActBox (w.alloc (.cells #[.string x.kind, .bool x.req.wr, .int .i64 x.req.f, .int .i64 x.req.m, .slice x.req.da x.req.data.length x.req.dc, .slice x.req.ta x.req.tags.length x.req.tc, .int .i64 x.req.born, .int .i64 x.n, .int .u64 x.k] T)) w.heap.size x := by
  refine ⟨?_, ?_, ?_, ?_, ?_, ?_⟩ <;> simp
set_option maxHeartbeats 1000000 in
theorem written_no (b : Nat) (x : Ac) (w : World) (hr : x.req.At w) (hn : ¬ faultR x.req = 0) :
    Calls Try.prog 48 #[.pointer (some ⟨b, 0, none⟩), x.val] w fun e w' => e = .returned (.bool false) ∧ Below w.heap.size w w' := by
  have HN := hidT hn
  clear hn
  go_enter Try.func48, Try.ntmps48
  go_wp2_with fail
  refine (rcheck_err x.req _ (hr.later (by repeat (first | with_reducible exact Below.refl _ _ | with_reducible refine balloc ?_ _ | with_reducible refine bdrew ?_ | with_reducible refine bset' ?_ (by omega) _ | with_reducible refine bthen ?_ (by assumption)))) HN.out).mono ?_
  rintro e w1 ⟨rfl, hb1⟩
  go_wp2
  go_ret
  exact ⟨rfl, by repeat (first | with_reducible exact Below.refl _ _ | with_reducible refine balloc ?_ _ | with_reducible refine bdrew ?_ | with_reducible refine bset' ?_ (by omega) _ | with_reducible refine bthen ?_ (by assumption))⟩
set_option maxRecDepth 100000 in
set_option maxHeartbeats 1000000 in
theorem written_yes (b : Nat) (d : Dl) (a : An) (x : Ac) (w : World) (h : DevAt b d a w) (hd : d.busy = []) (hr : x.req.At w) (ho : x.req.Off (a.foot b)) (hn : faultR x.req = 0) :
    Calls Try.prog 48 #[.pointer (some ⟨b, 0, none⟩), x.val] w fun e w' => ∃ a', e = .returned (.bool true) ∧ DStep b d a (d.did x.req) a' w w' := by
  have HN := hidT hn
  have HD := hidT h
  have HR := hidT hr
  have HO := hidT ho
  have HE := hidT hd
  have hl := h.lt
  clear hn h hr ho hd
  have hB0 := hidT (below1 w (.cells #[.string x.kind, .bool x.req.wr, .int .i64 x.req.f, .int .i64 x.req.m, .slice x.req.da x.req.data.length x.req.dc, .slice x.req.ta x.req.tags.length x.req.tc, .int .i64 x.req.born, .int .i64 x.n, .int .u64 x.k] 41))
  have hx0 := hidT (act_new w 41 x)
  go_enter Try.func48, Try.ntmps48
  go_wp2_with fail
  refine (rcheck_nil x.req _ (HR.out.later hB0.out) HN.out).mono ?_
  rintro e w1 ⟨rfl, hb1⟩
  have HB1 := hidT (bthen hB0.out hb1)
  obtain ⟨x1, x2, x3, x4, x5, x6⟩ := hx0.out.later hb1
  clear hb1
  go_wp2_with fail
  refine (start_ok b d a x.req _ (HD.out.later HB1.out) (by rw [HE.out]; simp) (HR.out.later HB1.out) HO.out).mono ?_
  rintro e w2 ⟨a2, rfl, hs2⟩
  rw [HE.out, List.nil_append] at hs2
  have HS2 := hidT hs2
  clear hs2 x1 x2 x3 x4 x5 x6
  go_wp2_with fail
  refine (busy_any b _ a2 _ HS2.out.dev).mono ?_
  rintro e w3 ⟨a3, c3, rfl, -, -, hb3⟩
  have HS3 := hidT (HS2.out.later hb3)
  clear hb3
  simp only [List.length_cons, List.length_nil, Nat.zero_add]
  go_wp2_with fail
  refine (end_only b d x.req a2 _ HE.out HS3.out.dev ((good_iff _).1 HN.out)).mono ?_
  rintro e w4 ⟨a4, xa, xc, xs, rfl, -, -, -, hs4⟩
  have HS4 := hidT (((DStep.same HD.out HB1.out).trans HS3.out).trans hs4)
  clear hs4
  go_wp2
  go_ret
  exact ⟨a4, rfl, HS4.out.later (by repeat (first | with_reducible exact Below.refl _ _ | with_reducible refine balloc ?_ _ | with_reducible refine bdrew ?_ | with_reducible refine bset' ?_ (by omega) _ | with_reducible refine bthen ?_ (by assumption)))⟩
end Go.Proofs.Ythmeaclekedilac
