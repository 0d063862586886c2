/- The document's driver: a request is tried again, or is lost. -/
import Derived.Test.YthmeaclekedilacJ5
namespace Go.Proofs.Ythmeaclekedilac
open Go.RowKit Go.BigFrame Go.Maps
attribute [local go_sem] Later.cell Later.frozen

section
variable {P : Program} {ops : Array Oper} {Q : Exit → Act → World → Prop} {S : World → Prop} {d : Nat}
theorem till_firstN {i : Nat} {oi : Oper} {v : Value} (hi : ops[i]? = some oi) (hsel : ∀ (j : Nat) (o : Oper) cs b, ops[j]? = some o → o.op ≠ .select cs b) (hd : ops.size ≤ d)
    (hQ : ∀ c a w, Q (.panic c) (a.put oi.dst v) w → Q (.panic c) a w) : ∀ (k : Nat) (ls : Array Bool) (a : Act) (w : World),
      (∀ j oj, ops[j]? = some oj → j ≠ i → ls.getD j true = false → (∀ e ∈ oj.after, Region.binds .any e = true → e.on ≠ i) → oi.apart ops oj = true) →
      i ∈ Region.ready .any ops ls → YieldsIf P ops S oi v a → S w → till P ops Q S d k (ls.setIfInBounds i true) (a.put oi.dst v) w → till P ops Q S d (k + 1) ls a w := by
  intro k
  induction k with
  | zero =>
    intro ls a w _ hr hy hS H
    refine ⟨fun h => (by rw [h] at hr; cases hr), fun j hj => ?_⟩
    by_cases e : j = i
    · subst e; exact hy.wpOp hi hS ⟨fun _ => hS, H⟩
    · have := ready_mono hj e
      rw [H.1] at this; cases this
  | succ k ih =>
    intro ls a w hfree hr hy hS H
    refine ⟨fun h => (by rw [h] at hr; cases hr), fun j hj => ?_⟩
    by_cases e : j = i
    · subst e; exact hy.wpOp hi hS ⟨fun _ => hS, H⟩
    obtain ⟨hun, oj, hoj, hall⟩ := mem_ready.1 hj
    have jd : j ≠ d := fun e' => by have := (Array.getElem?_eq_some_iff.1 hoj).1; omega
    have h1 := H.2 j (ready_mono hj e)
    have hno : ∀ x ∈ oj.after, Region.binds .any x = true → x.on ≠ i := fun x hx hb he => by
      have h1 := hall x hx hb
      have h0 := (mem_ready.1 hr).1
      rw [he] at h1
      rcases Nat.lt_or_ge i ls.size with h' | h'
      · simp [h'] at h0 h1; rw [h0] at h1; cases h1
      · simp [Array.getElem?_eq_none h'] at h1
    have h2 := wpOp_putIf hoj (hfree j oj hoj e hun hno) (fun cs b => hsel i oi cs b hi) (fun cs b => hsel j oj cs b hoj) hQ hy h1
    refine wpOp_mono (fun a' w' h3 => ⟨fun _ => h3.2.1 jd, ih (ls.setIfInBounds j true) a' w' (fun m om hm hmi hmu hmn => hfree m om hm hmi ?_ hmn) (ready_mono hr (Ne.symm e)) h3.1 (h3.2.1 jd) ?_⟩) h2
    · by_cases hjm : j = m
      · subst hjm; exact hun
      · rw [getD_set_ne true hjm] at hmu; exact hmu
    · rw [Array.setIfInBounds_comm _ _ e]; exact h3.2.2
theorem till_takeN {i : Nat} {oi : Oper} {v : Value} {k : Nat} {ls : Array Bool} {a : Act} {w : World} (hi : ops[i]? = some oi) (hs : Region.noSelect ops = true) (hf : Region.free .any ops ls i = true) (hr : (Region.ready .any ops ls).contains i = true) (hd : decide (ops.size ≤ d) = true)
    (hQ : ∀ c a w, Q (.panic c) (a.put oi.dst v) w → Q (.panic c) a w) (hy : YieldsIf P ops S oi v a) (hS : S w) (h : till P ops Q S d k (ls.setIfInBounds i true) (a.put oi.dst v) w) : till P ops Q S d (k + 1) ls a w :=
  till_firstN hi (Region.noSelect_spec hs) (of_decide_eq_true hd) hQ k ls a w (Region.free_spec hi hf) (by simpa using hr) hy hS h
end
theorem step_mapUpdate {H : Type} {P : Program} {w : World} {ops : Array Oper} {o : Oper} {a : Act} {K : Act → World → Prop} {Q : Exit → Act → World → Prop} {E : Prop}
    (hg : o.guard = none) (m x v : Operand) (t : TypeId) (hop : o.op = Op.mapUpdate t m x v)
    (k e : TypeId) (hk : Keyed P k) (ht : P.underlying t = some (.map k e)) (R : Value → Option (DataW H × List MemPlace)) (b n : Nat) (D : DataW H)
    (hm : a.eval m = .map (some b)) (hown : w.ownsMap P k R b n D) (hn : n < maxLen) (key val : Value) (kl : Lit) (hx : a.eval x = key) (hv : a.eval v = val) (hkey : keyOf P k key = some kl)
    (d : DataW H) (ps : List MemPlace) (hval : R val = some (d, ps))
    (hK : ∀ w', w'.ownsMap P k R b (n + 1) (D.put kl d) → w.grownBy w' (some b) → K (a.put o.dst undef) w') :
    if Region.wanted o (yielded ops a.tmps) = true then Oper.wp P o a w K Q else E := by
  have hw : Region.wanted o (yielded ops a.tmps) = true := by simp [Region.wanted, hg]
  rw [if_pos hw]
  obtain ⟨w', hrun, r1, r2⟩ := hown.update hk ht hn hkey hval
  unfold Oper.wp
  simp [execOp, hop, hm, hx, hv, hrun, Result.andThen]
  exact hK w' r1 r2
set_option linter.unusedSimpArgs false in
set_option maxRecDepth 100000 in
set_option maxHeartbeats 2000000 in
theorem rv_done (v b bm : Nat) (m : Rd) (a : Ra) (n : Nat) (D : DataW Unit) (k : Nat) (r : Rq) (tg c : Int) (w : World) (h : RVAt v b bm m a n D w) (hr : RVReq bm m k r tg) (hD : IsMap D) (hc : D.atKey (.int .i64 tg) (.lit (.int .i64 0)) = .lit (.int .i64 c)) (hc2 : 2 ≤ c ∧ c ≤ 2) (hn : n ≤ 1000000000) :
    Calls Try.prog 30 #[.pointer (some ⟨v, 0, none⟩), .int .i64 k, .bool true] w fun e w' => ∃ a', e = .returned (.tuple #[resV r none 0 0 8, .bool true, .int .i64 0]) ∧ RVStep v b bm m a n D { m with busy := m.busy.eraseIdx k } a' (n + 2) ((D.put (.int .i64 tg) (.lit (.int .i64 (c + 1)))).put (.int .i64 tg) (.lit (.int .i64 0))) w w' := by
  obtain ⟨hc4, hc5⟩ := hc2
  have HA0 := hidT (h.dev.lrow.2.1 r hr.mem); have HMEM := hidT hr.mem; have HRQ := hidT hr; have HC := hidT hc; have HDM := hidT hD; have hkey : keyOf Try.prog 3 (.int .i64 tg) = some (.int .i64 tg) := keyOf_int_mk Try.underlying3 (WalkArith.wf_i64 hr.in'); have HOR := hidT (hr.off r hr.mem); clear hc hr hD; obtain ⟨c0, c1⟩ := h.cells; have HV := hidT h; have hv := lt_of_heap h.blk; have hm := h.mlt; have hbv := h.dev.lt; have hb0 := hidT (below1 w (.cells #[.bool false, .int .i64 0, .int .i64 0, .slice none 0 0, .slice none 0 0, .int .i64 0, .slice none 0 0, .int .i64 0] 49)); clear h; go_enter Try.func30, Try.ntmps30; go_wp2_with fail; refine (rend_faultG b m a k r HRQ.out.at' _ (HV.out.dev.later hb0.out)).mono ?_; rintro e w1 ⟨a1, rfl, -, hs1⟩; obtain ⟨m1, hm1⟩ : ∃ m1 : Rd, m1 = { m with busy := m.busy.eraseIdx k } := ⟨_, rfl⟩; have HM1 := hidT hm1; rw [← hm1] at hs1; have HBY : Hid (∀ q ∈ m1.busy, q ∈ m.busy) := (fun q hq => by rw [HM1.out] at hq; exact List.mem_of_mem_eraseIdx hq); have HOB : Hid (∀ q ∈ m1.busy, q.Off (fun j => j = bm)) := (fun q hq => HRQ.out.off q (HBY.out q hq)); have HOQ : Hid (∀ q ∈ m1.busy, q.Off (fun j => j = w.heap.size)) := (fun q hq => off_of (HV.out.dev.lrow.2.1 q (HBY.out q hq)) (fun j e => by omega)); clear hm1; have HS1 := hidT (HV.out.step ((RStep.same HV.out.dev hb0.out).trans hs1)); have n0 : ¬ a1.foot b w.heap.size := (fun e => by rcases hs1.foot _ e with e' | e'; (have := HV.out.dev.footLt _ e'; omega); (rw [World.size_alloc] at e'; omega)); have nl : m1.busy ≠ [] → ∀ p, a1.la = some p → p.block ≠ w.heap.size := (fun hne p hp => by rcases hs1.lan hne p hp with e' | e'; (have := HV.out.dev.llt e'.1 e'.2; omega); (rw [World.size_alloc] at e'; omega)); have hz1 := (zero_new w 49).only hs1.only (fun e => by have := HV.out.dev.footLt _ e; omega); have ha1 := (HA0.out.later hb0.out).frame (HV.out.dev.reqs r HMEM.out) hs1.only; have hb2 := below1 w1 (.cells #[.bool r.wr, .int .i64 r.f, .int .i64 r.m, .slice r.da r.data.length r.dc, .slice r.ta r.tags.length r.tc, .int .i64 r.born, .slice none 0 0, .int .i64 8] 49); go_upto_region 2 with fail; refine wp_worldD (fun wK => RVStep v b bm m a n D m1 a1 n D w wK ∧ ZeroAt wK w.heap.size ∧ ResBox wK w1.heap.size r none 0 0 8 ∧ r.At wK ∧ (True)) ⟨HS1.out.later hb2, hz1.only (F := fun _ => False) (Only.of_below hb2) (fun e => e), res_new w1 49 r none 0 0 8, ha1.later hb2, trivial⟩ ?_; rintro w2 ⟨hS2, hZ2, hX2, hA2, hT2⟩; have HS2 := hidT hS2; have HZ2 := hidT hZ2; have HX2 := hidT hX2; have HA2 := hidT hA2; have HT2 := hidT hT2; have HN0 := hidT (⟨n0, nl⟩ : _ ∧ _); obtain ⟨tb, to, hta, htc⟩ := tag_cell HA2.out HRQ.out.tag HRQ.out.some'; have htl := lt_of_cell htc; have hti : 0 < r.tags.length := HRQ.out.some'; have hti' : (0 : Int) < (r.tags.length : Int) := (by omega); obtain ⟨x0, x1, x2, x3, x4, x5, x6, x7⟩ := id HX2.out; rw [hta] at x4; have HTA := hidT hta; have hw1 := HS1.out.only.size; have hxl := lt_of_cell x0; obtain ⟨p0, p1⟩ := HS2.out.at'.cells; have hmp := HS2.out.at'.map; have hvl := lt_of_heap HS2.out.at'.blk; have HVM := hidT hvl; have HNQ9 : Hid (¬ a1.foot b w1.heap.size) := (fun e => by have := hs1.dev.footLt _ e; omega); clear hS2 hZ2 hX2 hA2 hT2 hs1 n0 nl hz1 ha1 hb2 hta HS1; generalize w1.heap.size = q9 at *; obtain ⟨c2, hrun2, hat, -⟩ := hmp.drew.lookup_int keyI Try.underlying63 Try.underlying3 (zeroI _) hkey; obtain rfl : c = c2 := (by rw [HC.out] at hat; injection hat with e; injection e with _ e); have hwc : IntKind.i64.wrap (c + 1) = c + 1 := (by rw [IntKind.wrap_i64]; omega); clear hat HT2
  have HS : Hid ((fun wz : World => wz.cell? ⟨v, 1, none⟩ = some (.map (some bm)) ∧ v < wz.heap.size ∧ Sem.run Try.prog (Instr.lookup 63 (.map (some bm)) (.int .i64 tg) false) wz = .ok (.int .i64 c) wz) w2.drew) := ⟨p1, hvl, hrun2⟩; go_wp2_with fail; refine region_till (S := fun wz : World => wz.cell? ⟨v, 1, none⟩ = some (.map (some bm)) ∧ v < wz.heap.size ∧ Sem.run Try.prog (Instr.lookup 63 (.map (some bm)) (.int .i64 tg) false) wz = .ok (.int .i64 c) wz) (d := 12) (by kernel_rfl) ?_; refine till_take (i := 0) (v := ?_) rfl (by kernel_rfl) (by kernel_rfl) (by kernel_rfl) (by kernel_rfl) (fun _ _ _ h => h) (Or.inl ⟨by rfl, ?_⟩) HS.out ?_; rotate_left; (focus (intro w0 hSw; obtain ⟨s0, s1, s2⟩ := hSw; go_simp; (try with_reducible rfl))); (try simp only [Act.put, List.getElem_toArray, List.getElem_cons_succ, List.getElem_cons_zero, List.setIfInBounds_toArray, List.set_cons_zero, List.set_cons_succ]); refine till_take (i := 1) (v := ?_) rfl (by kernel_rfl) (by kernel_rfl) (by kernel_rfl) (by kernel_rfl) (fun _ _ _ h => h) (Or.inl ⟨by rfl, ?_⟩) HS.out ?_; rotate_left; (focus (intro w0 hSw; obtain ⟨s0, s1, s2⟩ := hSw; go_simp; (try with_reducible rfl))); (try simp only [Act.put, List.getElem_toArray, List.getElem_cons_succ, List.getElem_cons_zero, List.setIfInBounds_toArray, List.set_cons_zero, List.set_cons_succ]); refine till_take (i := 2) (v := ?_) rfl (by kernel_rfl) (by kernel_rfl) (by kernel_rfl) (by kernel_rfl) (fun _ _ _ h => h) (Or.inl ⟨by rfl, ?_⟩) HS.out ?_; rotate_left; (focus (intro w0 hSw; obtain ⟨s0, s1, s2⟩ := hSw; go_simp; (try with_reducible rfl))); (try simp only [Act.put, List.getElem_toArray, List.getElem_cons_succ, List.getElem_cons_zero, List.setIfInBounds_toArray, List.set_cons_zero, List.set_cons_succ]); refine till_take (i := 3) (v := ?_) rfl (by kernel_rfl) (by kernel_rfl) (by kernel_rfl) (by kernel_rfl) (fun _ _ _ h => h) (Or.inl ⟨by rfl, ?_⟩) HS.out ?_; rotate_left; (focus (intro w0 hSw; obtain ⟨s0, s1, s2⟩ := hSw; go_simp; (try with_reducible rfl))); (try simp only [Act.put, List.getElem_toArray, List.getElem_cons_succ, List.getElem_cons_zero, List.setIfInBounds_toArray, List.set_cons_zero, List.set_cons_succ]); refine till_take (i := 4) (v := ?_) rfl (by kernel_rfl) (by kernel_rfl) (by kernel_rfl) (by kernel_rfl) (fun _ _ _ h => h) (Or.inl ⟨by rfl, ?_⟩) HS.out ?_; rotate_left; (focus (intro w0 hSw; obtain ⟨s0, s1, s2⟩ := hSw; go_simp; (try with_reducible rfl))); (try simp only [Act.put, List.getElem_toArray, List.getElem_cons_succ, List.getElem_cons_zero, List.setIfInBounds_toArray, List.set_cons_zero, List.set_cons_succ]); refine till_take (i := 5) (v := ?_) rfl (by kernel_rfl) (by kernel_rfl) (by kernel_rfl) (by kernel_rfl) (fun _ _ _ h => h) (Or.inl ⟨by rfl, ?_⟩) HS.out ?_; rotate_left; (focus (intro w0 hSw; obtain ⟨s0, s1, s2⟩ := hSw; go_simp; (try with_reducible rfl))); (try simp only [Act.put, List.getElem_toArray, List.getElem_cons_succ, List.getElem_cons_zero, List.setIfInBounds_toArray, List.set_cons_zero, List.set_cons_succ]); refine till_take (i := 6) (v := ?_) rfl (by kernel_rfl) (by kernel_rfl) (by kernel_rfl) (by kernel_rfl) (fun _ _ _ h => h) (Or.inl ⟨by rfl, ?_⟩) HS.out ?_; rotate_left; (focus (intro w0 hSw; obtain ⟨s0, s1, s2⟩ := hSw; go_simp; (try with_reducible rfl))); (try simp only [Act.put, List.getElem_toArray, List.getElem_cons_succ, List.getElem_cons_zero, List.setIfInBounds_toArray, List.set_cons_zero, List.set_cons_succ]); refine till_take (i := 7) (v := ?_) rfl (by kernel_rfl) (by kernel_rfl) (by kernel_rfl) (by kernel_rfl) (fun _ _ _ h => h) (Or.inl ⟨by rfl, ?_⟩) HS.out ?_; rotate_left; (focus (intro w0 hSw; obtain ⟨s0, s1, s2⟩ := hSw; go_simp; (try with_reducible rfl))); (try simp only [Act.put, List.getElem_toArray, List.getElem_cons_succ, List.getElem_cons_zero, List.setIfInBounds_toArray, List.set_cons_zero, List.set_cons_succ]); refine till_take (i := 8) (v := ?_) rfl (by kernel_rfl) (by kernel_rfl) (by kernel_rfl) (by kernel_rfl) (fun _ _ _ h => h) (Or.inl ⟨by rfl, ?_⟩) HS.out ?_; rotate_left; (focus (intro w0 hSw; obtain ⟨s0, s1, s2⟩ := hSw; go_simp; (try with_reducible rfl))); (try simp only [Act.put, List.getElem_toArray, List.getElem_cons_succ, List.getElem_cons_zero, List.setIfInBounds_toArray, List.set_cons_zero, List.set_cons_succ]); refine till_take (i := 9) (v := ?_) rfl (by kernel_rfl) (by kernel_rfl) (by kernel_rfl) (by kernel_rfl) (fun _ _ _ h => h) (Or.inl ⟨by rfl, ?_⟩) HS.out ?_; rotate_left; (focus (intro w0 hSw; obtain ⟨s0, s1, s2⟩ := hSw; go_simp; (try with_reducible rfl))); (try simp only [Act.put, List.getElem_toArray, List.getElem_cons_succ, List.getElem_cons_zero, List.setIfInBounds_toArray, List.set_cons_zero, List.set_cons_succ]); refine till_take (i := 10) (v := ?_) rfl (by kernel_rfl) (by kernel_rfl) (by kernel_rfl) (by kernel_rfl) (fun _ _ _ h => h) (Or.inl ⟨by rfl, ?_⟩) HS.out ?_; rotate_left; (focus (intro w0 hSw; obtain ⟨s0, s1, s2⟩ := hSw; go_simp; (try with_reducible rfl))); (try simp only [Act.put, List.getElem_toArray, List.getElem_cons_succ, List.getElem_cons_zero, List.setIfInBounds_toArray, List.set_cons_zero, List.set_cons_succ]); refine till_take (i := 11) (v := ?_) rfl (by kernel_rfl) (by kernel_rfl) (by kernel_rfl) (by kernel_rfl) (fun _ _ _ h => h) (Or.inl ⟨by rfl, ?_⟩) HS.out ?_; rotate_left; (focus (intro w0 hSw; obtain ⟨s0, s1, s2⟩ := hSw; go_simp; (try with_reducible rfl))); (try simp only [Act.put, List.getElem_toArray, List.getElem_cons_succ, List.getElem_cons_zero, List.setIfInBounds_toArray, List.set_cons_zero, List.set_cons_succ]); refine till_one (i := 12) rfl (by kernel_rfl) ?_; intro K hK; refine step_mapUpdate rfl (.tmp 43) (.tmp 44) (.tmp 51) 63 rfl 3 3 keyI Try.underlying63 _ bm n D rfl hmp.drew (by unfold maxLen; omega) (.int .i64 tg) (.int .i64 (c + 1)) (.int .i64 tg) rfl rfl hkey _ [] (plainElem_int Try.underlying3 (WalkArith.wf_i64 (by omega))) ?_; intro w3 hown3 hgrow3; have hO3 : Only (fun k => k = bm) w2 w3 := (Only.of_below (Below.refl _ _).drew).trans (only_of_grown hgrow3) (fun i e => Or.inl e); have HS3 := hidT (HS2.out.trans (HS2.out.at'.turn hO3 hown3 HOB.out)); have HX3 := hidT (HX2.out.onlyR hO3 (by omega)); have HZ3 := hidT (HZ2.out.only hO3 (by omega)); have HA3 := hidT (HA2.out.frame HOR.out hO3); refine hK _ _ (fun h => absurd rfl h) ?_; (try simp only [Act.put, List.getElem_toArray, List.getElem_cons_succ, List.getElem_cons_zero, List.setIfInBounds_toArray, List.set_cons_zero, List.set_cons_succ]); clear hK hown3 hgrow3 hO3 hmp HS2 HX2 HZ2 HA2 x0 x1 x2 x3 x4 x5 x6 x7 p0 p1 HS hrun2; refine till_done (by kernel_rfl) ?_ _; obtain ⟨x0, x1, x2, x3, x4, x5, x6, x7⟩ := id HX3.out; obtain ⟨p0, p1⟩ := HS3.out.at'.cells; have hmp := HS3.out.at'.map; have hvl := lt_of_heap HS3.out.at'.blk; obtain ⟨c3, hrun, hat3, -⟩ := hmp.lookup_int keyI Try.underlying63 Try.underlying3 (zeroI _) hkey; obtain rfl : c3 = c + 1 := (by rw [atKey_put_same HDM.out (by trivial)] at hat3; injection hat3 with e; injection e with _ e; exact e.symm); clear hat3
  have hc3 : (c + 1 == 3) = true := by rw [beq_iff_eq]; omega
  have hn1 : n + 1 ≤ 1000000001 := by omega
  go_wp2_with (first
    | (at_mapUpdate; refine wpList_mapUpdate_own _ rfl _ _ _ 63 rfl 3 3 keyI Try.underlying63 _ bm (n + 1) _ rfl hmp (by unfold maxLen; omega) _ _ _ rfl rfl hkey _ [] (plainElem_int Try.underlying3 (WalkArith.wf_i64 (by omega))) ?_; intro w4 hown4 hgrow4; have HS4 := hidT (HS3.out.trans (HS3.out.at'.turn (only_of_grown hgrow4) hown4 HOB.out)); have HX4 := hidT (HX3.out.onlyR (only_of_grown hgrow4) (by omega)); have HZ4 := hidT (HZ3.out.only (only_of_grown hgrow4) (by omega)); clear hown4 hgrow4 hmp HS3 HX3 HZ3 HA3 x0 x1 x2 x3 x4 x5 x6 x7 p0 p1; obtain ⟨x0, x1, x2, x3, x4, x5, x6, x7⟩ := id HX4.out)
    | (refine wpList_store_res rfl (.tmp 6) (.tmp 64) rfl w.heap.size r none 0 0 8 rfl rfl (zero_there HZ4.out) (fun wK => RVStep v b bm m a n D m1 a1 (n + 2) ((D.put (.int .i64 tg) (.lit (.int .i64 (c + 1)))).put (.int .i64 tg) (.lit (.int .i64 0))) w wK ∧ ResBoxF wK w.heap.size r none 0 0 8) ⟨rvset8 HS4.out w.heap.size (Nat.le_refl _) (fun e => e.elim (fun e => by omega) HN0.out.1) (by omega) HN0.out.2 HOQ.out _ _ _ _ _ _ _ _, set8_res (zero_there HZ4.out) HZ4.out.2.2⟩ ?_; rintro w5 ⟨hs5, ⟨k0, k1, k2, k3, k4, k5, k6, k7⟩, -, -⟩; have HS5 := hidT hs5; clear hs5 HS4 HX4 HZ4))
  refine bodyPost_ret (v := .tuple #[resV r none 0 0 8, .bool true, .int .i64 0]) (by simp [results, Try.results30, go_sem, k0, k1, k2, k3, k4, k5, k6, k7]) rfl ⟨a1, rfl, ?_⟩
  rw [← HM1.out]
  exact HS5.out
set_option linter.unusedSimpArgs false in
set_option maxRecDepth 100000 in
set_option maxHeartbeats 2000000 in
theorem rv_again (v b bm : Nat) (m : Rd) (a : Ra) (n : Nat) (D : DataW Unit) (k : Nat) (r : Rq) (tg c : Int) (w : World) (h : RVAt v b bm m a n D w) (hr : RVReq bm m k r tg) (hD : IsMap D) (hc : D.atKey (.int .i64 tg) (.lit (.int .i64 0)) = .lit (.int .i64 c)) (hc2 : 0 ≤ c ∧ c < 2) (hn : n ≤ 1000000000) :
    Calls Try.prog 30 #[.pointer (some ⟨v, 0, none⟩), .int .i64 k, .bool true] w fun e w' => ∃ a', e = .returned (.tuple #[noRes, .bool false, .int .i64 0]) ∧ RVStep v b bm m a n D { m with busy := m.busy.eraseIdx k ++ [r] } a' (n + 1) (D.put (.int .i64 tg) (.lit (.int .i64 (c + 1)))) w w' := by
  have HLE : Hid ((m.busy.eraseIdx k).length < 2) := by
    show _ < _
    have h2 := h.dev.blen
    have h3 := (List.getElem?_eq_some_iff.1 hr.at').1
    rw [List.length_eraseIdx, if_pos h3]; omega
  have HA0 := hidT (h.dev.lrow.2.1 r hr.mem); have HMEM := hidT hr.mem; have HRQ := hidT hr; have HC := hidT hc; have HDM := hidT hD; have hkey : keyOf Try.prog 3 (.int .i64 tg) = some (.int .i64 tg) := keyOf_int_mk Try.underlying3 (WalkArith.wf_i64 hr.in'); have HOR := hidT (hr.off r hr.mem); clear hc hr hD; obtain ⟨c0, c1⟩ := h.cells; have HV := hidT h; have hv := lt_of_heap h.blk; have hm := h.mlt; have hbv := h.dev.lt; have hb0 := hidT (below1 w (.cells #[.bool false, .int .i64 0, .int .i64 0, .slice none 0 0, .slice none 0 0, .int .i64 0, .slice none 0 0, .int .i64 0] 49)); clear h; go_enter Try.func30, Try.ntmps30; go_wp2_with fail; refine (rend_faultG b m a k r HRQ.out.at' _ (HV.out.dev.later hb0.out)).mono ?_; rintro e w1 ⟨a1, rfl, -, hs1⟩; obtain ⟨m1, hm1⟩ : ∃ m1 : Rd, m1 = { m with busy := m.busy.eraseIdx k } := ⟨_, rfl⟩; have HM1 := hidT hm1; rw [← hm1] at hs1; have HBY : Hid (∀ q ∈ m1.busy, q ∈ m.busy) := (fun q hq => by rw [HM1.out] at hq; exact List.mem_of_mem_eraseIdx hq); have HOB : Hid (∀ q ∈ m1.busy, q.Off (fun j => j = bm)) := (fun q hq => HRQ.out.off q (HBY.out q hq)); have HOQ : Hid (∀ q ∈ m1.busy, q.Off (fun j => j = w.heap.size)) := (fun q hq => off_of (HV.out.dev.lrow.2.1 q (HBY.out q hq)) (fun j e => by omega)); clear hm1; have HS1 := hidT (HV.out.step ((RStep.same HV.out.dev hb0.out).trans hs1)); have n0 : ¬ a1.foot b w.heap.size := (fun e => by rcases hs1.foot _ e with e' | e'; (have := HV.out.dev.footLt _ e'; omega); (rw [World.size_alloc] at e'; omega)); have nl : m1.busy ≠ [] → ∀ p, a1.la = some p → p.block ≠ w.heap.size := (fun hne p hp => by rcases hs1.lan hne p hp with e' | e'; (have := HV.out.dev.llt e'.1 e'.2; omega); (rw [World.size_alloc] at e'; omega)); have hz1 := (zero_new w 49).only hs1.only (fun e => by have := HV.out.dev.footLt _ e; omega); have ha1 := (HA0.out.later hb0.out).frame (HV.out.dev.reqs r HMEM.out) hs1.only; have hb2 := below1 w1 (.cells #[.bool r.wr, .int .i64 r.f, .int .i64 r.m, .slice r.da r.data.length r.dc, .slice r.ta r.tags.length r.tc, .int .i64 r.born, .slice none 0 0, .int .i64 8] 49); go_upto_region 2 with fail; refine wp_worldD (fun wK => RVStep v b bm m a n D m1 a1 n D w wK ∧ ZeroAt wK w.heap.size ∧ ResBox wK w1.heap.size r none 0 0 8 ∧ r.At wK ∧ (True)) ⟨HS1.out.later hb2, hz1.only (F := fun _ => False) (Only.of_below hb2) (fun e => e), res_new w1 49 r none 0 0 8, ha1.later hb2, trivial⟩ ?_; rintro w2 ⟨hS2, hZ2, hX2, hA2, hT2⟩; have HS2 := hidT hS2; have HZ2 := hidT hZ2; have HX2 := hidT hX2; have HA2 := hidT hA2; have HT2 := hidT hT2; have HN0 := hidT (⟨n0, nl⟩ : _ ∧ _); obtain ⟨tb, to, hta, htc⟩ := tag_cell HA2.out HRQ.out.tag HRQ.out.some'; have htl := lt_of_cell htc; have hti : 0 < r.tags.length := HRQ.out.some'; have hti' : (0 : Int) < (r.tags.length : Int) := (by omega); obtain ⟨x0, x1, x2, x3, x4, x5, x6, x7⟩ := id HX2.out; rw [hta] at x4; have HTA := hidT hta; have hw1 := HS1.out.only.size; have hxl := lt_of_cell x0; obtain ⟨p0, p1⟩ := HS2.out.at'.cells; have hmp := HS2.out.at'.map; have hvl := lt_of_heap HS2.out.at'.blk; have HVM := hidT hvl; have HNQ9 : Hid (¬ a1.foot b w1.heap.size) := (fun e => by have := hs1.dev.footLt _ e; omega); clear hS2 hZ2 hX2 hA2 hT2 hs1 n0 nl hz1 ha1 hb2 hta HS1; generalize w1.heap.size = q9 at *; obtain ⟨c2, hrun2, hat, -⟩ := hmp.drew.lookup_int keyI Try.underlying63 Try.underlying3 (zeroI _) hkey; obtain rfl : c = c2 := (by rw [HC.out] at hat; injection hat with e; injection e with _ e); have hwc : IntKind.i64.wrap (c + 1) = c + 1 := (by rw [IntKind.wrap_i64]; omega); clear hat HT2
  have HL1 : Hid (m1.busy.length < 2) := by show _ < _; rw [HM1.out]; exact HLE.out
  have HOF : Hid (r.Off (a1.foot b)) := Rq.Off.step HA0.out (HV.out.dev.reqs r HMEM.out) (fun k hk => by
    rcases HS2.out.foot k (Or.inr hk) with e | e
    · rcases e with e | e
      · exact absurd e (HS2.out.at'.foot k hk).2
      · exact Or.inl e
    · exact Or.inr e)
  have HS : Hid ((fun wz : World => wz.cell? ⟨v, 1, none⟩ = some (.map (some bm)) ∧ v < wz.heap.size ∧ Sem.run Try.prog (Instr.lookup 63 (.map (some bm)) (.int .i64 tg) false) wz = .ok (.int .i64 c) wz) w2.drew) := ⟨p1, hvl, hrun2⟩; go_wp2_with fail; refine region_till (S := fun wz : World => wz.cell? ⟨v, 1, none⟩ = some (.map (some bm)) ∧ v < wz.heap.size ∧ Sem.run Try.prog (Instr.lookup 63 (.map (some bm)) (.int .i64 tg) false) wz = .ok (.int .i64 c) wz) (d := 12) (by kernel_rfl) ?_; refine till_take (i := 0) (v := ?_) rfl (by kernel_rfl) (by kernel_rfl) (by kernel_rfl) (by kernel_rfl) (fun _ _ _ h => h) (Or.inl ⟨by rfl, ?_⟩) HS.out ?_; rotate_left; (focus (intro w0 hSw; obtain ⟨s0, s1, s2⟩ := hSw; go_simp; (try with_reducible rfl))); (try simp only [Act.put, List.getElem_toArray, List.getElem_cons_succ, List.getElem_cons_zero, List.setIfInBounds_toArray, List.set_cons_zero, List.set_cons_succ]); refine till_take (i := 1) (v := ?_) rfl (by kernel_rfl) (by kernel_rfl) (by kernel_rfl) (by kernel_rfl) (fun _ _ _ h => h) (Or.inl ⟨by rfl, ?_⟩) HS.out ?_; rotate_left; (focus (intro w0 hSw; obtain ⟨s0, s1, s2⟩ := hSw; go_simp; (try with_reducible rfl))); (try simp only [Act.put, List.getElem_toArray, List.getElem_cons_succ, List.getElem_cons_zero, List.setIfInBounds_toArray, List.set_cons_zero, List.set_cons_succ]); refine till_take (i := 2) (v := ?_) rfl (by kernel_rfl) (by kernel_rfl) (by kernel_rfl) (by kernel_rfl) (fun _ _ _ h => h) (Or.inl ⟨by rfl, ?_⟩) HS.out ?_; rotate_left; (focus (intro w0 hSw; obtain ⟨s0, s1, s2⟩ := hSw; go_simp; (try with_reducible rfl))); (try simp only [Act.put, List.getElem_toArray, List.getElem_cons_succ, List.getElem_cons_zero, List.setIfInBounds_toArray, List.set_cons_zero, List.set_cons_succ]); refine till_take (i := 3) (v := ?_) rfl (by kernel_rfl) (by kernel_rfl) (by kernel_rfl) (by kernel_rfl) (fun _ _ _ h => h) (Or.inl ⟨by rfl, ?_⟩) HS.out ?_; rotate_left; (focus (intro w0 hSw; obtain ⟨s0, s1, s2⟩ := hSw; go_simp; (try with_reducible rfl))); (try simp only [Act.put, List.getElem_toArray, List.getElem_cons_succ, List.getElem_cons_zero, List.setIfInBounds_toArray, List.set_cons_zero, List.set_cons_succ]); refine till_take (i := 4) (v := ?_) rfl (by kernel_rfl) (by kernel_rfl) (by kernel_rfl) (by kernel_rfl) (fun _ _ _ h => h) (Or.inl ⟨by rfl, ?_⟩) HS.out ?_; rotate_left; (focus (intro w0 hSw; obtain ⟨s0, s1, s2⟩ := hSw; go_simp; (try with_reducible rfl))); (try simp only [Act.put, List.getElem_toArray, List.getElem_cons_succ, List.getElem_cons_zero, List.setIfInBounds_toArray, List.set_cons_zero, List.set_cons_succ]); refine till_take (i := 5) (v := ?_) rfl (by kernel_rfl) (by kernel_rfl) (by kernel_rfl) (by kernel_rfl) (fun _ _ _ h => h) (Or.inl ⟨by rfl, ?_⟩) HS.out ?_; rotate_left; (focus (intro w0 hSw; obtain ⟨s0, s1, s2⟩ := hSw; go_simp; (try with_reducible rfl))); (try simp only [Act.put, List.getElem_toArray, List.getElem_cons_succ, List.getElem_cons_zero, List.setIfInBounds_toArray, List.set_cons_zero, List.set_cons_succ]); refine till_take (i := 6) (v := ?_) rfl (by kernel_rfl) (by kernel_rfl) (by kernel_rfl) (by kernel_rfl) (fun _ _ _ h => h) (Or.inl ⟨by rfl, ?_⟩) HS.out ?_; rotate_left; (focus (intro w0 hSw; obtain ⟨s0, s1, s2⟩ := hSw; go_simp; (try with_reducible rfl))); (try simp only [Act.put, List.getElem_toArray, List.getElem_cons_succ, List.getElem_cons_zero, List.setIfInBounds_toArray, List.set_cons_zero, List.set_cons_succ]); refine till_take (i := 7) (v := ?_) rfl (by kernel_rfl) (by kernel_rfl) (by kernel_rfl) (by kernel_rfl) (fun _ _ _ h => h) (Or.inl ⟨by rfl, ?_⟩) HS.out ?_; rotate_left; (focus (intro w0 hSw; obtain ⟨s0, s1, s2⟩ := hSw; go_simp; (try with_reducible rfl))); (try simp only [Act.put, List.getElem_toArray, List.getElem_cons_succ, List.getElem_cons_zero, List.setIfInBounds_toArray, List.set_cons_zero, List.set_cons_succ]); refine till_take (i := 8) (v := ?_) rfl (by kernel_rfl) (by kernel_rfl) (by kernel_rfl) (by kernel_rfl) (fun _ _ _ h => h) (Or.inl ⟨by rfl, ?_⟩) HS.out ?_; rotate_left; (focus (intro w0 hSw; obtain ⟨s0, s1, s2⟩ := hSw; go_simp; (try with_reducible rfl))); (try simp only [Act.put, List.getElem_toArray, List.getElem_cons_succ, List.getElem_cons_zero, List.setIfInBounds_toArray, List.set_cons_zero, List.set_cons_succ]); refine till_take (i := 9) (v := ?_) rfl (by kernel_rfl) (by kernel_rfl) (by kernel_rfl) (by kernel_rfl) (fun _ _ _ h => h) (Or.inl ⟨by rfl, ?_⟩) HS.out ?_; rotate_left; (focus (intro w0 hSw; obtain ⟨s0, s1, s2⟩ := hSw; go_simp; (try with_reducible rfl))); (try simp only [Act.put, List.getElem_toArray, List.getElem_cons_succ, List.getElem_cons_zero, List.setIfInBounds_toArray, List.set_cons_zero, List.set_cons_succ]); refine till_take (i := 10) (v := ?_) rfl (by kernel_rfl) (by kernel_rfl) (by kernel_rfl) (by kernel_rfl) (fun _ _ _ h => h) (Or.inl ⟨by rfl, ?_⟩) HS.out ?_; rotate_left; (focus (intro w0 hSw; obtain ⟨s0, s1, s2⟩ := hSw; go_simp; (try with_reducible rfl))); (try simp only [Act.put, List.getElem_toArray, List.getElem_cons_succ, List.getElem_cons_zero, List.setIfInBounds_toArray, List.set_cons_zero, List.set_cons_succ]); refine till_take (i := 11) (v := ?_) rfl (by kernel_rfl) (by kernel_rfl) (by kernel_rfl) (by kernel_rfl) (fun _ _ _ h => h) (Or.inl ⟨by rfl, ?_⟩) HS.out ?_; rotate_left; (focus (intro w0 hSw; obtain ⟨s0, s1, s2⟩ := hSw; go_simp; (try with_reducible rfl))); (try simp only [Act.put, List.getElem_toArray, List.getElem_cons_succ, List.getElem_cons_zero, List.setIfInBounds_toArray, List.set_cons_zero, List.set_cons_succ]); refine till_one (i := 12) rfl (by kernel_rfl) ?_; intro K hK; refine step_mapUpdate rfl (.tmp 43) (.tmp 44) (.tmp 51) 63 rfl 3 3 keyI Try.underlying63 _ bm n D rfl hmp.drew (by unfold maxLen; omega) (.int .i64 tg) (.int .i64 (c + 1)) (.int .i64 tg) rfl rfl hkey _ [] (plainElem_int Try.underlying3 (WalkArith.wf_i64 (by omega))) ?_; intro w3 hown3 hgrow3; have hO3 : Only (fun k => k = bm) w2 w3 := (Only.of_below (Below.refl _ _).drew).trans (only_of_grown hgrow3) (fun i e => Or.inl e); have HS3 := hidT (HS2.out.trans (HS2.out.at'.turn hO3 hown3 HOB.out)); have HX3 := hidT (HX2.out.onlyR hO3 (by omega)); have HZ3 := hidT (HZ2.out.only hO3 (by omega)); have HA3 := hidT (HA2.out.frame HOR.out hO3); refine hK _ _ (fun h => absurd rfl h) ?_; (try simp only [Act.put, List.getElem_toArray, List.getElem_cons_succ, List.getElem_cons_zero, List.setIfInBounds_toArray, List.set_cons_zero, List.set_cons_succ]); clear hK hown3 hgrow3 hO3 hmp HS2 HX2 HZ2 HA2 x0 x1 x2 x3 x4 x5 x6 x7 p0 p1 HS hrun2; refine till_done (by kernel_rfl) ?_ _; obtain ⟨x0, x1, x2, x3, x4, x5, x6, x7⟩ := id HX3.out; obtain ⟨p0, p1⟩ := HS3.out.at'.cells; have hmp := HS3.out.at'.map; have hvl := lt_of_heap HS3.out.at'.blk; obtain ⟨c3, hrun, hat3, -⟩ := hmp.lookup_int keyI Try.underlying63 Try.underlying3 (zeroI _) hkey; obtain rfl : c3 = c + 1 := (by rw [atKey_put_same HDM.out (by trivial)] at hat3; injection hat3 with e; injection e with _ e; exact e.symm); clear hat3
  have hc3 : (c + 1 == 3) = false := by rw [beq_eq_false_iff_ne]; omega
  have HS : Hid ((fun wz : World => wz.cell? ⟨v, 0, none⟩ = some (.pointer (some ⟨b, 0, none⟩)) ∧ v < wz.heap.size ∧ ResBox wz q9 r none 0 0 8) w3.drew) := ⟨p0, hvl, HX3.out⟩
  have eg : ∀ args w, Sem.run Try.prog (callFunc 15 args) w = .ok (.enter 15 args) w := by intro args w; go_simp
  have HS3d := hidT (HS3.out.later (Below.refl _ _).drew)
  have HA3d := hidT (HA3.out.later (Below.refl _ _).drew)
  have HZ3d : Hid (ZeroAt w3.drew w.heap.size) := HZ3.out
  have hq3 : w.heap.size < w3.heap.size := HZ3.out.2.2
  clear hwc
  go_wp2_with fail
  clear hrun
  refine region_till (S := fun wz : World => wz.cell? ⟨v, 0, none⟩ = some (.pointer (some ⟨b, 0, none⟩)) ∧ v < wz.heap.size ∧ ResBox wz q9 r none 0 0 8) (d := 99) (by kernel_rfl) ?_
  refine till_takeN (i := 0) (v := ?_) rfl (by kernel_rfl) (by kernel_rfl) (by kernel_rfl) (by kernel_rfl) (fun _ _ _ h => h) (Or.inl ⟨by rfl, ?_⟩) HS.out ?_; rotate_left; (focus (intro w0 hSw; obtain ⟨s8, s9, s0, s1, s2, s3, s4, s5, -⟩ := hSw; go_simp; (try with_reducible rfl))); (try simp only [Act.put, List.getElem_toArray, List.getElem_cons_succ, List.getElem_cons_zero, List.setIfInBounds_toArray, List.set_cons_zero, List.set_cons_succ])
  refine till_takeN (i := 1) (v := ?_) rfl (by kernel_rfl) (by kernel_rfl) (by kernel_rfl) (by kernel_rfl) (fun _ _ _ h => h) (Or.inl ⟨by rfl, ?_⟩) HS.out ?_; rotate_left; (focus (intro w0 hSw; obtain ⟨s8, s9, s0, s1, s2, s3, s4, s5, -⟩ := hSw; go_simp; (try with_reducible rfl))); (try simp only [Act.put, List.getElem_toArray, List.getElem_cons_succ, List.getElem_cons_zero, List.setIfInBounds_toArray, List.set_cons_zero, List.set_cons_succ])
  refine till_takeN (i := 2) (v := ?_) rfl (by kernel_rfl) (by kernel_rfl) (by kernel_rfl) (by kernel_rfl) (fun _ _ _ h => h) (Or.inl ⟨by rfl, ?_⟩) HS.out ?_; rotate_left; (focus (intro w0 hSw; obtain ⟨s8, s9, s0, s1, s2, s3, s4, s5, -⟩ := hSw; go_simp; (try with_reducible rfl))); (try simp only [Act.put, List.getElem_toArray, List.getElem_cons_succ, List.getElem_cons_zero, List.setIfInBounds_toArray, List.set_cons_zero, List.set_cons_succ])
  refine till_takeN (i := 3) (v := ?_) rfl (by kernel_rfl) (by kernel_rfl) (by kernel_rfl) (by kernel_rfl) (fun _ _ _ h => h) (Or.inl ⟨by rfl, ?_⟩) HS.out ?_; rotate_left; (focus (intro w0 hSw; obtain ⟨s8, s9, s0, s1, s2, s3, s4, s5, -⟩ := hSw; go_simp; (try with_reducible rfl))); (try simp only [Act.put, List.getElem_toArray, List.getElem_cons_succ, List.getElem_cons_zero, List.setIfInBounds_toArray, List.set_cons_zero, List.set_cons_succ])
  refine till_takeN (i := 4) (v := ?_) rfl (by kernel_rfl) (by kernel_rfl) (by kernel_rfl) (by kernel_rfl) (fun _ _ _ h => h) (Or.inl ⟨by rfl, ?_⟩) HS.out ?_; rotate_left; (focus (intro w0 hSw; obtain ⟨s8, s9, s0, s1, s2, s3, s4, s5, -⟩ := hSw; go_simp; (try with_reducible rfl))); (try simp only [Act.put, List.getElem_toArray, List.getElem_cons_succ, List.getElem_cons_zero, List.setIfInBounds_toArray, List.set_cons_zero, List.set_cons_succ])
  refine till_takeN (i := 5) (v := ?_) rfl (by kernel_rfl) (by kernel_rfl) (by kernel_rfl) (by kernel_rfl) (fun _ _ _ h => h) (Or.inl ⟨by rfl, ?_⟩) HS.out ?_; rotate_left; (focus (intro w0 hSw; obtain ⟨s8, s9, s0, s1, s2, s3, s4, s5, -⟩ := hSw; go_simp; (try with_reducible rfl))); (try simp only [Act.put, List.getElem_toArray, List.getElem_cons_succ, List.getElem_cons_zero, List.setIfInBounds_toArray, List.set_cons_zero, List.set_cons_succ])
  refine till_one (i := 6) rfl (by kernel_rfl) ?_
  intro K hK
  refine step_call2 rfl 15 68 70 27 38 rfl eg (.pointer (some ⟨b, 0, none⟩)) r.val rfl rfl (.int .i64 0) (fun w' => ∃ a', RStep b m1 a1 { m1 with busy := m1.busy ++ [r] } a' w3.drew w') ((rstart_ok b m1 a1 r _ HS3d.out.at'.dev HL1.out HA3d.out HOF.out).mono (fun e w' ⟨a', he, _, hs⟩ => ⟨he, a', hs⟩)) ?_
  rintro w4 ⟨a4, hs4⟩
  have HS4 := hidT (HS3d.out.trans (HS3d.out.at'.step hs4))
  have HZ4 := hidT (HZ3d.out.only hs4.only HN0.out.1)
  have hq4 : ¬ rvfoot b bm a4 w.heap.size := by
    rintro (e | e)
    · omega
    · rcases hs4.foot _ e with e | e
      · exact HN0.out.1 e
      · have : w3.heap.size ≤ w.heap.size := e
        omega
  have hl4 : m1.busy ++ [r] ≠ [] → ∀ p, a4.la = some p → p.block ≠ w.heap.size := fun hne p hp => by
    rcases hs4.lan hne p hp with e | e
    · exact HN0.out.2 e.1 p e.2
    · have : w3.heap.size ≤ p.block := e
      omega
  have HQ4 := hidT (⟨hq4, hl4⟩ : _ ∧ _)
  have nq9 : ¬ a1.foot b q9 := HNQ9.out
  refine hK _ _ (fun _ => ⟨HS4.out.at'.cells.1, lt_of_heap HS4.out.at'.blk, HS.out.2.2.onlyR hs4.only nq9⟩) ?_
  (try simp only [Act.put, List.getElem_toArray, List.getElem_cons_succ, List.getElem_cons_zero, List.setIfInBounds_toArray, List.set_cons_zero, List.set_cons_succ])
  clear hK hs4 hq4 hl4 HS x0 x1 x2 x3 x4 x5 x6 x7 p0 p1 HS3d HA3d HZ3d HS3 HX3 HZ3 HA3 hmp
  refine till_done (by kernel_rfl) ?_ _
  go_wp2_with (refine wpList_store_res rfl (.tmp 6) (.tmp 72) rfl w.heap.size rq0 none 0 0 0 rfl rfl (zero_there HZ4.out) (fun wK => RVStep v b bm m a n D { m1 with busy := m1.busy ++ [r] } a4 (n + 1) (D.put (.int .i64 tg) (.lit (.int .i64 (c + 1)))) w wK ∧ ResBoxF wK w.heap.size rq0 none 0 0 0) ⟨rvset8 HS4.out w.heap.size (Nat.le_refl _) HQ4.out.1 (by omega) HQ4.out.2 (fun q hq => by rcases List.mem_append.1 hq with hq' | hq'; exact HOQ.out q hq'; (rw [List.mem_singleton.1 hq']; exact off_of HA0.out (fun k e => by omega))) _ _ _ _ _ _ _ _, set8_res (zero_there HZ4.out) HZ4.out.2.2⟩ ?_; rintro w5 ⟨hs5, ⟨k0, k1, k2, k3, k4, k5, k6, k7⟩, -, -⟩; have HS5 := hidT hs5; clear hs5 HS4 HZ4)
  refine bodyPost_ret (v := .tuple #[noRes, .bool false, .int .i64 0]) (by simp [results, Try.results30, go_sem, k0, k1, k2, k3, k4, k5, k6, k7, rq0]) rfl ⟨a4, rfl, ?_⟩
  have := HS5.out
  rw [HM1.out] at this
  exact this
end Go.Proofs.Ythmeaclekedilac
/- A driver of a device, whatever requests it has: Room, Start of one too many; drivers that lie beside others. -/
namespace Go.Proofs.Ythmeaclekedilac
open Go.RowKit Go.BigFrame Go.Maps
attribute [local go_sem] Later.cell Later.frozen

set_option maxRecDepth 100000 in
set_option maxHeartbeats 400000 in
theorem room_any (v b bm : Nat) (d : Dl) (a : An) (n : Nat) (D : DataW Unit) (t : Bool) (w : World) (h : VAt v b bm d a n D w) (ht : decide (d.busy.length < 2) = t) : Calls Try.prog 31 #[.pointer (some ⟨v, 0, none⟩)] w fun e w' => e = .returned (.bool t) ∧ Below w.heap.size w w' := by
  cases t with
  | true => exact room_yes v b bm d a n D w h (of_decide_eq_true ht)
  | false =>
    obtain ⟨c0, c1⟩ := h.cells
    have HV := hidT h
    have h2 := of_decide_eq_false ht
    have h2' : ¬ (d.busy.length : Int) < 2 := by omega
    clear h c1 ht h2
    go_enter Try.func31, Try.ntmps31
    go_wp2_with fail
    refine (busy_any b d a _ HV.out.dev).mono ?_
    rintro e w1 ⟨xa, xc, rfl, -, -, hb⟩
    go_wp2
    go_ret
    exact ⟨ret_bool (decide_eq_false (by omega)), hb⟩
set_option linter.unusedSimpArgs false in
set_option maxRecDepth 100000 in
set_option maxHeartbeats 400000 in
theorem vstart_full (v b bm : Nat) (d : Dl) (a : An) (n : Nat) (D : DataW Unit) (r : Rq) (w : World) (h : VAt v b bm d a n D w) (h2 : d.busy.length = 2) :
    Calls Try.prog 28 #[.pointer (some ⟨v, 0, none⟩), r.val] w fun e w' => e = .returned (.iface 47 (.int .i64 7)) ∧ Below w.heap.size w w' := by
  obtain ⟨c0, c1⟩ := h.cells
  have HV := hidT h
  have hv := lt_of_heap h.blk
  have H2 := hidT h2
  clear h c1 h2
  have hb0 := hidT (below1 w (.cells #[.bool r.wr, .int .i64 r.f, .int .i64 r.m, .slice r.da r.data.length r.dc, .slice r.ta r.tags.length r.tc, .int .i64 r.born] 38))
  go_enter Try.func28, Try.ntmps28
  go_wp2_with fail
  have hS0 : (w.alloc (.cells #[.bool r.wr, .int .i64 r.f, .int .i64 r.m, .slice r.da r.data.length r.dc, .slice r.ta r.tags.length r.tc, .int .i64 r.born] 38)).drew.cell? ⟨v, 0, none⟩ = some (.pointer (some ⟨b, 0, none⟩)) ∧ BoxAt (w.alloc (.cells #[.bool r.wr, .int .i64 r.f, .int .i64 r.m, .slice r.da r.data.length r.dc, .slice r.ta r.tags.length r.tc, .int .i64 r.born] 38)).drew w.heap.size r := ⟨(hb0.out.drew.cell (p := ⟨v, 0, none⟩) hv).trans c0, (box_new w 38 r).later (Below.refl _ _).drew⟩
  have HS := hidT hS0
  have eg : ∀ args w, Sem.run Try.prog (callFunc 14 args) w = .ok (.enter 14 args) w := by intro args w; go_simp
  clear hS0
  refine region_till (S := fun wz => wz.cell? ⟨v, 0, none⟩ = some (.pointer (some ⟨b, 0, none⟩)) ∧ BoxAt wz w.heap.size r) (d := 6) (by kernel_rfl) ?_
  refine till_take (i := 0) (v := ?_) rfl (by kernel_rfl) (by kernel_rfl) (by kernel_rfl) (by kernel_rfl) (fun _ _ _ h => h) (Or.inl ⟨by rfl, ?_⟩) HS.out ?_; rotate_left; (focus (intro w0 hSw; obtain ⟨s6, s0, s1, s2, s3, s4, s5⟩ := hSw; go_simp; (try with_reducible rfl))); (try simp only [Act.put, List.getElem_toArray, List.getElem_cons_succ, List.getElem_cons_zero, List.setIfInBounds_toArray, List.set_cons_zero, List.set_cons_succ])
  refine till_take (i := 1) (v := ?_) rfl (by kernel_rfl) (by kernel_rfl) (by kernel_rfl) (by kernel_rfl) (fun _ _ _ h => h) (Or.inl ⟨by rfl, ?_⟩) HS.out ?_; rotate_left; (focus (intro w0 hSw; obtain ⟨s6, s0, s1, s2, s3, s4, s5⟩ := hSw; go_simp; (try with_reducible rfl))); (try simp only [Act.put, List.getElem_toArray, List.getElem_cons_succ, List.getElem_cons_zero, List.setIfInBounds_toArray, List.set_cons_zero, List.set_cons_succ])
  refine till_take (i := 2) (v := ?_) rfl (by kernel_rfl) (by kernel_rfl) (by kernel_rfl) (by kernel_rfl) (fun _ _ _ h => h) (Or.inl ⟨by rfl, ?_⟩) HS.out ?_; rotate_left; (focus (intro w0 hSw; obtain ⟨s6, s0, s1, s2, s3, s4, s5⟩ := hSw; go_simp; (try with_reducible rfl))); (try simp only [Act.put, List.getElem_toArray, List.getElem_cons_succ, List.getElem_cons_zero, List.setIfInBounds_toArray, List.set_cons_zero, List.set_cons_succ])
  refine till_take (i := 3) (v := ?_) rfl (by kernel_rfl) (by kernel_rfl) (by kernel_rfl) (by kernel_rfl) (fun _ _ _ h => h) (Or.inl ⟨by rfl, ?_⟩) HS.out ?_; rotate_left; (focus (intro w0 hSw; obtain ⟨s6, s0, s1, s2, s3, s4, s5⟩ := hSw; go_simp; (try with_reducible rfl))); (try simp only [Act.put, List.getElem_toArray, List.getElem_cons_succ, List.getElem_cons_zero, List.setIfInBounds_toArray, List.set_cons_zero, List.set_cons_succ])
  refine till_take (i := 4) (v := ?_) rfl (by kernel_rfl) (by kernel_rfl) (by kernel_rfl) (by kernel_rfl) (fun _ _ _ h => h) (Or.inl ⟨by rfl, ?_⟩) HS.out ?_; rotate_left; (focus (intro w0 hSw; obtain ⟨s6, s0, s1, s2, s3, s4, s5⟩ := hSw; go_simp; (try with_reducible rfl))); (try simp only [Act.put, List.getElem_toArray, List.getElem_cons_succ, List.getElem_cons_zero, List.setIfInBounds_toArray, List.set_cons_zero, List.set_cons_succ])
  refine till_one (i := 5) rfl (by kernel_rfl) ?_
  intro K hK
  refine step_call2 rfl 14 8 9 25 38 rfl eg (.pointer (some ⟨b, 0, none⟩)) r.val rfl rfl (.iface 47 (.int .i64 7)) (fun w' => Below w.heap.size w w' ∧ w'.cell? ⟨v, 0, none⟩ = some (.pointer (some ⟨b, 0, none⟩)) ∧ BoxAt w' w.heap.size r) ((start_full b d a r _ (HV.out.dev.later hb0.out.drew) H2.out).mono ?_) ?_
  · rintro e w1 ⟨he, hb1⟩
    exact ⟨he, bthen hb0.out.drew hb1, cellA_later hb1 HS.out.1, HS.out.2.later hb1⟩
  rintro w1 ⟨hB1, hS1⟩
  have HB1 := hidT hB1
  refine hK _ _ (fun _ => hS1) ?_
  (try simp only [Act.put, List.getElem_toArray, List.getElem_cons_succ, List.getElem_cons_zero, List.setIfInBounds_toArray, List.set_cons_zero, List.set_cons_succ])
  clear hK
  refine till_one (i := 6) rfl (by kernel_rfl) ?_; intro K hK; go_simp; refine hK _ _ (fun h => absurd rfl h) ?_; (try simp only [Act.put, List.getElem_toArray, List.getElem_cons_succ, List.getElem_cons_zero, List.setIfInBounds_toArray, List.set_cons_zero, List.set_cons_succ]); clear hK; refine till_done (by kernel_rfl) ?_ _
  go_wp2
  go_ret
  exact ⟨rfl, HB1.out⟩
/-- A driver that nothing of its own has turned. -/
theorem VAt.frame {F : Nat → Prop} {v b bm : Nat} {d : Dl} {a : An} {n : Nat} {D : DataW Unit} {w w' : World} (h : VAt v b bm d a n D w) (hk : Only F w w') (hF : ∀ k, vfoot b bm a k → ¬ F k) (hv : ¬ F v) (hr : ∀ r ∈ d.busy, r.Off F) : VAt v b bm d a n D w' :=
  ⟨h.dev.frame hk (fun k e => hF k (Or.inr e)) hr, by rw [hk.block v (lt_of_heap h.blk) hv]; exact h.blk, owns_block h.map (hk.block bm h.mlt (hF bm (Or.inl rfl))), h.foot⟩
theorem VAt.footLt {v b bm : Nat} {d : Dl} {a : An} {n : Nat} {D : DataW Unit} {w : World} (h : VAt v b bm d a n D w) (k : Nat) (hk : vfoot b bm a k) : k < w.heap.size := hk.elim (fun e => by rw [e]; exact h.mlt) (h.dev.footLt k)
end Go.Proofs.Ythmeaclekedilac
/- DriverSays: two drivers, the code's and the document's, side by side. -/
namespace Go.Proofs.Ythmeaclekedilac
open Go.RowKit Go.BigFrame Go.Maps
attribute [local go_sem] Later.cell Later.frozen

theorem RVAt.frame {F : Nat → Prop} {v b bm : Nat} {m : Rd} {a : Ra} {n : Nat} {D : DataW Unit} {w w' : World} (h : RVAt v b bm m a n D w) (hk : Only F w w') (hF : ∀ k, rvfoot b bm a k → ¬ F k) (hv : ¬ F v) (hl : m.busy ≠ [] → ∀ p, a.la = some p → ¬ F p.block) (hr : ∀ r ∈ m.busy, r.Off F) : RVAt v b bm m a n D w' :=
  ⟨h.dev.frame hk (fun k e => hF k (Or.inr e)) hl hr, by rw [hk.block v (lt_of_heap h.blk) hv]; exact h.blk, owns_block h.map (hk.block bm h.mlt (hF bm (Or.inl rfl))), h.foot⟩
theorem RVAt.footLt {v b bm : Nat} {m : Rd} {a : Ra} {n : Nat} {D : DataW Unit} {w : World} (h : RVAt v b bm m a n D w) (k : Nat) (hk : rvfoot b bm a k) : k < w.heap.size := hk.elim (fun e => by rw [e]; exact h.mlt) (h.dev.footLt k)
/-- The places of the two drivers. -/
structure Pl where
  v1 : Nat
  b1 : Nat
  m1 : Nat
  v2 : Nat
  b2 : Nat
  m2 : Nat
/-- What the code's driver has. -/
structure Cv where
  d : Dl
  a : An
  n : Nat
  D : DataW Unit
/-- What the document's has. -/
structure Rv where
  m : Rd
  a : Ra
  n : Nat
  D : DataW Unit
structure VH (w : World) (P : Pl) (c : Cv) (r : Rv) (wr : World) : Prop where
  dc : VAt P.v1 P.b1 P.m1 c.d c.a c.n c.D wr
  dr : RVAt P.v2 P.b2 P.m2 r.m r.a r.n r.D wr
  apart : ∀ k, vfoot P.b1 P.m1 c.a k → rvfoot P.b2 P.m2 r.a k → False
  fc : ∀ k, vfoot P.b1 P.m1 c.a k → w.heap.size ≤ k
  fr : ∀ k, rvfoot P.b2 P.m2 r.a k → w.heap.size ≤ k
  x1 : ¬ rvfoot P.b2 P.m2 r.a P.v1
  x2 : ¬ vfoot P.b1 P.m1 c.a P.v2
  lf : r.m.busy ≠ [] → ∀ p, r.a.la = some p → ¬ vfoot P.b1 P.m1 c.a p.block
  at1 : ∀ q ∈ c.d.busy, q.At w
  at2 : ∀ q ∈ r.m.busy, q.At w
  bel : Below w.heap.size w wr
section
variable {w wr wr' : World} {P : Pl} {c c' : Cv} {r r' : Rv}
theorem VH.stepC (h : VH w P c r wr) (hs : VStep P.v1 P.b1 P.m1 c.d c.a c.n c.D c'.d c'.a c'.n c'.D wr wr') (hr : ∀ q ∈ c'.d.busy, q.At w) : VH w P c' r wr' where
  dc := hs.at'
  dr := h.dr.frame hs.only (fun k hk hc => h.apart k hc hk) h.x2 h.lf (fun q hq => off_of (h.at2 q hq) h.fc)
  apart := fun k hc hd => (hs.foot k hc).elim (fun hc' => h.apart k hc' hd) (fun h' => by have := h.dr.footLt k hd; omega)
  fc := fun k hk => (hs.foot k hk).elim (h.fc k) (fun h' => Nat.le_trans h.bel.size h')
  fr := h.fr
  x1 := h.x1
  x2 := fun e => (hs.foot _ e).elim h.x2 (fun h' => by have := lt_of_heap h.dr.blk; omega)
  lf := fun hne p hp hk => (hs.foot _ hk).elim (h.lf hne p hp) (fun h' => by have := h.dr.dev.llt hne hp; omega)
  at1 := hr
  at2 := h.at2
  bel := h.bel.trans (hs.only.below h.bel.size h.fc)
theorem VH.stepR (h : VH w P c r wr) (hs : RVStep P.v2 P.b2 P.m2 r.m r.a r.n r.D r'.m r'.a r'.n r'.D wr wr') (hr : ∀ q ∈ r'.m.busy, q.At w) : VH w P c r' wr' where
  dc := h.dc.frame hs.only (fun k hk hc => h.apart k hk hc) h.x1 (fun q hq => off_of (h.at1 q hq) h.fr)
  dr := hs.at'
  apart := fun k hc hd => (hs.foot k hd).elim (fun hd' => h.apart k hc hd') (fun h' => by have := h.dc.footLt k hc; omega)
  fc := h.fc
  fr := fun k hk => (hs.foot k hk).elim (h.fr k) (fun h' => Nat.le_trans h.bel.size h')
  x1 := fun e => (hs.foot _ e).elim h.x1 (fun h' => by have := lt_of_heap h.dc.blk; omega)
  x2 := h.x2
  lf := fun hne p hp hk => (hs.lan hne p hp).elim (fun e => h.lf e.1 p e.2 hk) (fun h' => by have := h.dc.footLt _ hk; omega)
  at1 := h.at1
  at2 := hr
  bel := h.bel.trans (hs.only.below h.bel.size h.fr)
theorem VH.later (h : VH w P c r wr) (hb : Below wr.heap.size wr wr') : VH w P c r wr' := h.stepC (c' := c) (h.dc.step (DStep.same h.dc.dev hb)) h.at1
/-- Both, tied. -/
structure VD (w : World) (P : Pl) (c : Cv) (r : Rv) (f : Int → Int) (B : Nat) (wr : World) : Prop where
  half : VH w P c r wr
  same : c.d.busy = r.m.busy
  good : ∀ q ∈ c.d.busy, Good q ∧ ∀ t ∈ q.tags, In64 t
  tied : Tied c.d r.m
  f1 : MapIs c.D f
  f2 : MapIs r.D f
  i1 : IsMap c.D
  i2 : IsMap r.D
  rng : ∀ t, 0 ≤ f t ∧ f t ≤ 2
  b1 : c.n ≤ 2 * B
  b2 : r.n ≤ 2 * B
  b3 : r.m.waits.length ≤ 4 * B
theorem VD.later {f : Int → Int} {B : Nat} (h : VD w P c r f B wr) (hb : Below wr.heap.size wr wr') : VD w P c r f B wr' := ⟨h.half.later hb, h.same, h.good, h.tied, h.f1, h.f2, h.i1, h.i2, h.rng, h.b1, h.b2, h.b3⟩
theorem VD.more {f : Int → Int} {B B' : Nat} (h : VD w P c r f B wr) (hB : B ≤ B') : VD w P c r f B' wr := ⟨h.half, h.same, h.good, h.tied, h.f1, h.f2, h.i1, h.i2, h.rng, by have := h.b1; omega, by have := h.b2; omega, by have := h.b3; omega⟩
end
theorem tag_in {q : Rq} (g : Good q) (h : ∀ t ∈ q.tags, In64 t) : In64 (q.tags.getD 0 0) ∧ 1 ≤ q.tags.length := by
  have h1 := g.t1
  refine ⟨?_, h1⟩
  rw [List.getD_eq_getElem?_getD, List.getElem?_eq_getElem (by omega), Option.getD_some]
  exact h _ (List.getElem_mem _)
end Go.Proofs.Ythmeaclekedilac
/- DriverSays: the steps of both. -/
namespace Go.Proofs.Ythmeaclekedilac
open Go.RowKit Go.BigFrame Go.Maps
attribute [local go_sem] Later.cell Later.frozen

theorem samesV {l m : List Rq} (h : l = m) : Sames l m := by
  subst h
  exact ⟨rfl, fun i _ _ => by simp [sameB, eqS, eqN]⟩
section
variable {w wr wr1 wr2 wr3 : World} {P : Pl} {c : Cv} {r : Rv} {f : Int → Int} {B k : Nat} {q : Rq}
theorem VD.start {a' : An} {ra' : Ra} (h : VD w P c r f B wr) (hq : q.At w) (gq : Good q) (tq : ∀ t ∈ q.tags, In64 t) (hs : VStep P.v1 P.b1 P.m1 c.d c.a c.n c.D { c.d with busy := c.d.busy ++ [q] } a' c.n c.D wr wr1) (ht : RStep P.b2 r.m r.a { r.m with busy := r.m.busy ++ [q] } ra' wr1 wr2) :
    VD w P { c with d := { c.d with busy := c.d.busy ++ [q] }, a := a' } { r with m := { r.m with busy := r.m.busy ++ [q] }, a := ra' } f B wr2 := by
  have k1 : ∀ x ∈ c.d.busy ++ [q], x.At w := fun x hx => by
    rcases List.mem_append.1 hx with hx | hx
    · exact h.half.at1 x hx
    · rw [List.mem_singleton.1 hx]; exact hq
  have k2 : ∀ x ∈ c.d.busy ++ [q], Good x ∧ ∀ t ∈ x.tags, In64 t := fun x hx => by
    rcases List.mem_append.1 hx with hx | hx
    · exact h.good x hx
    · rw [List.mem_singleton.1 hx]; exact ⟨gq, tq⟩
  have h1 := h.half.stepC (c' := { c with d := { c.d with busy := c.d.busy ++ [q] }, a := a' }) hs k1
  have h2 := h1.stepR (r' := { r with m := { r.m with busy := r.m.busy ++ [q] }, a := ra' }) (h1.dr.step ht) (by show ∀ x ∈ r.m.busy ++ [q], _; rw [← h.same]; exact k1)
  exact ⟨h2, by show c.d.busy ++ [q] = r.m.busy ++ [q]; rw [h.same], k2, h.tied.busy _ _, h.f1, h.f2, h.i1, h.i2, h.rng, h.b1, h.b2, h.b3⟩
theorem VD.halfOk {a' : An} {D' : DataW Unit} (h : VD w P c r f B wr) (hs : VStep P.v1 P.b1 P.m1 c.d c.a c.n c.D (({ c.d with busy := c.d.busy.eraseIdx k } : Dl).did q) a' c.n D' wr wr1) : VH w P { c with d := ({ c.d with busy := c.d.busy.eraseIdx k } : Dl).did q, a := a', D := D' } r wr1 :=
  h.half.stepC (c' := { c with d := ({ c.d with busy := c.d.busy.eraseIdx k } : Dl).did q, a := a', D := D' }) hs (by show ∀ x ∈ (({ c.d with busy := c.d.busy.eraseIdx k } : Dl).did q).busy, _; rw [Dl.did_busy]; exact fun x hx => h.half.at1 x (List.mem_of_mem_eraseIdx hx))
theorem VD.halfLost {a' : An} {D' : DataW Unit} (h : VD w P c r f B wr) (hs : VStep P.v1 P.b1 P.m1 c.d c.a c.n c.D { c.d with busy := c.d.busy.eraseIdx k } a' c.n D' wr wr1) : VH w P { c with d := { c.d with busy := c.d.busy.eraseIdx k }, a := a', D := D' } r wr1 :=
  h.half.stepC (c' := { c with d := { c.d with busy := c.d.busy.eraseIdx k }, a := a', D := D' }) hs (fun x hx => h.half.at1 x (List.mem_of_mem_eraseIdx hx))
theorem VD.halfAgain {a' : An} {D' : DataW Unit} (h : VD w P c r f B wr) (hq : q ∈ c.d.busy) (hs : VStep P.v1 P.b1 P.m1 c.d c.a c.n c.D { c.d with busy := c.d.busy.eraseIdx k ++ [q] } a' (c.n + 1) D' wr wr1) : VH w P ⟨{ c.d with busy := c.d.busy.eraseIdx k ++ [q] }, a', c.n + 1, D'⟩ r wr1 :=
  h.half.stepC (c' := ⟨{ c.d with busy := c.d.busy.eraseIdx k ++ [q] }, a', c.n + 1, D'⟩) hs (fun x hx => by
    rcases List.mem_append.1 hx with hx | hx
    · exact h.half.at1 x (List.mem_of_mem_eraseIdx hx)
    · rw [List.mem_singleton.1 hx]; exact h.half.at1 q hq)
theorem did_waitsV (m : Rd) (r : Rq) (g : Good r) : (m.did r).waits.length ≤ m.waits.length + 4 := by
  have hw : ∀ n, (m.writesTo r n).waits.length = m.waits.length + n := fun n => by
    induction n with
    | zero => rfl
    | succ n ih =>
      rw [Rd.writesTo_succ]
      show ((m.writesTo r n).waits ++ [_]).length = _
      rw [List.length_append, List.length_singleton, ih]; omega
  have := g.bndD
  unfold Rd.did
  split
  · rw [hw]; omega
  · omega
theorem isMap_put (D : DataW Unit) (h : IsMap D) (k : Lit) (d : DataW Unit) : IsMap (D.put k d) := by
  obtain ⟨l, rfl⟩ := h
  exact ⟨_, rfl⟩
theorem isMap_del (D : DataW Unit) (h : IsMap D) (k : Lit) : IsMap (D.del k) := by
  obtain ⟨l, rfl⟩ := h
  exact ⟨_, rfl⟩
theorem VD.ok {a' : An} {ra' : Ra} {tg : Int} (h : VD w P c r f B wr) (gq : Good q) (hs : VStep P.v1 P.b1 P.m1 c.d c.a c.n c.D (({ c.d with busy := c.d.busy.eraseIdx k } : Dl).did q) a' c.n (c.D.del (.int .i64 tg)) wr wr1) (hb : Below wr1.heap.size wr1 wr2)
    (ht : RVStep P.v2 P.b2 P.m2 r.m r.a r.n r.D (({ r.m with busy := r.m.busy.eraseIdx k } : Rd).did q) ra' (r.n + 1) (r.D.put (.int .i64 tg) (.lit (.int .i64 0))) wr2 wr3) :
    VD w P ⟨({ c.d with busy := c.d.busy.eraseIdx k } : Dl).did q, a', c.n, c.D.del (.int .i64 tg)⟩ ⟨({ r.m with busy := r.m.busy.eraseIdx k } : Rd).did q, ra', r.n + 1, r.D.put (.int .i64 tg) (.lit (.int .i64 0))⟩ (fun x => if x = tg then 0 else f x) (B + 1) wr3 := by
  have h1 := (h.halfOk hs).later hb
  have h2 := h1.stepR (r' := ⟨({ r.m with busy := r.m.busy.eraseIdx k } : Rd).did q, ra', r.n + 1, r.D.put (.int .i64 tg) (.lit (.int .i64 0))⟩) ht (by show ∀ x ∈ (({ r.m with busy := r.m.busy.eraseIdx k } : Rd).did q).busy, _; rw [Rd.did_busyR]; show ∀ x ∈ r.m.busy.eraseIdx k, _; rw [← h.same]; exact fun x hx => h.half.at1 x (List.mem_of_mem_eraseIdx hx))
  have hw := did_waitsV { r.m with busy := r.m.busy.eraseIdx k } q gq
  refine ⟨h2, by show (({ c.d with busy := c.d.busy.eraseIdx k } : Dl).did q).busy = (({ r.m with busy := r.m.busy.eraseIdx k } : Rd).did q).busy; rw [Dl.did_busy, Rd.did_busyR, ← h.same], by show ∀ x ∈ (({ c.d with busy := c.d.busy.eraseIdx k } : Dl).did q).busy, _; rw [Dl.did_busy]; exact fun x hx => h.good x (List.mem_of_mem_eraseIdx hx), (h.tied.busy _ _).did q, h.f1.del tg, h.f2.put h.i2 tg 0, isMap_del _ h.i1 _, isMap_put _ h.i2 _ _, fun t => ?_, by have := h.b1; show c.n ≤ _; omega, by have := h.b2; show r.n + 1 ≤ _; omega, ?_⟩
  · have := h.rng t
    split <;> omega
  · have := h.b3
    have hw' : (({ r.m with busy := r.m.busy.eraseIdx k } : Rd).did q).waits.length ≤ r.m.waits.length + 4 := hw
    show (({ r.m with busy := r.m.busy.eraseIdx k } : Rd).did q).waits.length ≤ _
    omega
theorem VD.lost {a' : An} {ra' : Ra} {tg x : Int} (h : VD w P c r f B wr) (hs : VStep P.v1 P.b1 P.m1 c.d c.a c.n c.D { c.d with busy := c.d.busy.eraseIdx k } a' c.n (c.D.del (.int .i64 tg)) wr wr1) (hb : Below wr1.heap.size wr1 wr2)
    (ht : RVStep P.v2 P.b2 P.m2 r.m r.a r.n r.D { r.m with busy := r.m.busy.eraseIdx k } ra' (r.n + 2) ((r.D.put (.int .i64 tg) (.lit (.int .i64 x))).put (.int .i64 tg) (.lit (.int .i64 0))) wr2 wr3) :
    VD w P ⟨{ c.d with busy := c.d.busy.eraseIdx k }, a', c.n, c.D.del (.int .i64 tg)⟩ ⟨{ r.m with busy := r.m.busy.eraseIdx k }, ra', r.n + 2, (r.D.put (.int .i64 tg) (.lit (.int .i64 x))).put (.int .i64 tg) (.lit (.int .i64 0))⟩ (fun t => if t = tg then 0 else f t) (B + 1) wr3 := by
  have h1 := (h.halfLost hs).later hb
  have h2 := h1.stepR (r' := ⟨{ r.m with busy := r.m.busy.eraseIdx k }, ra', r.n + 2, (r.D.put (.int .i64 tg) (.lit (.int .i64 x))).put (.int .i64 tg) (.lit (.int .i64 0))⟩) ht (by show ∀ y ∈ r.m.busy.eraseIdx k, _; rw [← h.same]; exact fun y hy => h.half.at1 y (List.mem_of_mem_eraseIdx hy))
  have hf2 := (h.f2.put h.i2 tg x).put (isMap_put _ h.i2 _ _) tg 0
  refine ⟨h2, by show c.d.busy.eraseIdx k = r.m.busy.eraseIdx k; rw [h.same], fun y hy => h.good y (List.mem_of_mem_eraseIdx hy), h.tied.busy _ _, h.f1.del tg, fun t => ?_, isMap_del _ h.i1 _, isMap_put _ (isMap_put _ h.i2 _ _) _ _, fun t => ?_, by have := h.b1; show c.n ≤ _; omega, by have := h.b2; show r.n + 2 ≤ _; omega, by have := h.b3; show r.m.waits.length ≤ _; omega⟩
  · rw [hf2 t]
    by_cases e : t = tg
    · simp [e]
    · simp [e]
  · have := h.rng t
    split <;> omega
theorem VD.again {a' : An} {ra' : Ra} {tg : Int} (h : VD w P c r f B wr) (hq : q ∈ c.d.busy) (hf : f tg < 2) (hs : VStep P.v1 P.b1 P.m1 c.d c.a c.n c.D { c.d with busy := c.d.busy.eraseIdx k ++ [q] } a' (c.n + 1) (c.D.put (.int .i64 tg) (.lit (.int .i64 (f tg + 1)))) wr wr1) (hb : Below wr1.heap.size wr1 wr2)
    (ht : RVStep P.v2 P.b2 P.m2 r.m r.a r.n r.D { r.m with busy := r.m.busy.eraseIdx k ++ [q] } ra' (r.n + 1) (r.D.put (.int .i64 tg) (.lit (.int .i64 (f tg + 1)))) wr2 wr3) :
    VD w P ⟨{ c.d with busy := c.d.busy.eraseIdx k ++ [q] }, a', c.n + 1, c.D.put (.int .i64 tg) (.lit (.int .i64 (f tg + 1)))⟩ ⟨{ r.m with busy := r.m.busy.eraseIdx k ++ [q] }, ra', r.n + 1, r.D.put (.int .i64 tg) (.lit (.int .i64 (f tg + 1)))⟩ (fun t => if t = tg then f tg + 1 else f t) (B + 1) wr3 := by
  have h1 := (h.halfAgain hq hs).later hb
  have k1 : ∀ x ∈ c.d.busy.eraseIdx k ++ [q], x ∈ c.d.busy := fun x hx => by
    rcases List.mem_append.1 hx with hx | hx
    · exact List.mem_of_mem_eraseIdx hx
    · rw [List.mem_singleton.1 hx]; exact hq
  have h2 := h1.stepR (r' := ⟨{ r.m with busy := r.m.busy.eraseIdx k ++ [q] }, ra', r.n + 1, r.D.put (.int .i64 tg) (.lit (.int .i64 (f tg + 1)))⟩) ht (by show ∀ x ∈ r.m.busy.eraseIdx k ++ [q], _; rw [← h.same]; exact fun x hx => h.half.at1 x (k1 x hx))
  refine ⟨h2, by show c.d.busy.eraseIdx k ++ [q] = r.m.busy.eraseIdx k ++ [q]; rw [h.same], fun x hx => h.good x (k1 x hx), h.tied.busy _ _, h.f1.put h.i1 tg _, h.f2.put h.i2 tg _, isMap_put _ h.i1 _ _, isMap_put _ h.i2 _ _, fun t => ?_, by have := h.b1; show c.n + 1 ≤ _; omega, by have := h.b2; show r.n + 1 ≤ _; omega, by have := h.b3; show r.m.waits.length ≤ _; omega⟩
  have h3 := h.rng t
  have h4 := h.rng tg
  split <;> omega
end
end Go.Proofs.Ythmeaclekedilac
/- DriverSays: the walk. -/
namespace Go.Proofs.Ythmeaclekedilac
open Go.RowKit Go.BigFrame Go.Maps
attribute [local go_sem] Later.cell Later.frozen

/-- What a region reads of the document's device. -/
def LBv (w : World) (b : Nat) (v : Value) : Prop := w.cell? ⟨b, 65, none⟩ = some v ∧ b < w.heap.size
theorem LBv.keep {w w' : World} {b : Nat} {v : Value} (h : LBv w b v) (hb : Below w.heap.size w w') : w'.cell? ⟨b, 65, none⟩ = some v ∧ b < w'.heap.size := ⟨cellA_later hb h.1, Nat.lt_of_lt_of_le h.2 hb.size⟩
def rqR (c : Nat) : Rq := ⟨false, 3, 1, none, 0, [], some ⟨c, 0, none⟩, 1, [1], 0⟩
theorem atR (c : Nat) (w : World) (h2 : w.cell? ⟨c, 0, none⟩ = some (.int .i64 1)) : (rqR c).At w := by
  refine ⟨Or.inl rfl, Or.inr ⟨c, 0, rfl, ?_⟩, by simp [rqR], by simp [rqR], by simp [rqR, In64], by simp [rqR, In64], by simp [rqR, In64], fun _ => rfl, by simp [rqR]⟩
  intro i hi
  obtain rfl : i = 0 := by simp [rqR] at hi; omega
  simpa [rqR] using h2
set_option maxRecDepth 100000 in
set_option maxHeartbeats 1000000 in
theorem drivers_any (w : World) : Calls Try.prog 26 #[] w fun e w' => e = .returned (.bool true) ∧ Below w.heap.size w w' := by
  go_enter Try.func26, Try.ntmps26
  go_wp2_with fail
  refine (new_any _).mono ?_
  rintro e w1 ⟨rfl, hd1, hb1, hz1⟩
  have HD1 := hidT (⟨hd1, hb1, hz1⟩ : _ ∧ _ ∧ _)
  clear hd1 hb1 hz1
  go_wp2_with fail
  refine (vnew_any w.heap.size d0 an0 _ HD1.out.1).mono ?_
  rintro e w2 ⟨rfl, hv2, hb2⟩
  have HV2 := hidT hv2
  have HB2 := hidT (bthen HD1.out.2.1 hb2)
  have hw1 : w.heap.size < w1.heap.size := by have := HD1.out.2.2; omega
  have hw2 := hb2.size
  have hmlt := hv2.mlt
  have hvlt := lt_of_heap hv2.blk
  clear hv2 hb2
  go_wp2_with fail
  have hbx := below1 w2 (.cells #[.int .i64 1] 3)
  have hra := atR w2.heap.size (w2.alloc (.cells #[.int .i64 1] 3)) (by simp [go_sem])
  have hoff : (rqR w2.heap.size).Off (an0.foot w.heap.size) := ⟨fun h => absurd rfl h, fun _ ad e hk => by have := an0_foot hk; simp [rqR] at e; subst e; simp only at this; omega⟩
  refine (vstart_ok (w1.heap.size + 1) w.heap.size w1.heap.size d0 an0 0 (.map []) (rqR w2.heap.size) _ (HV2.out.later hbx) (by decide) hra hoff).mono ?_
  rintro e w3 ⟨a3, rfl, hs3⟩
  have HS3 := hidT hs3
  have HBX := hidT hbx
  clear hs3 hbx hra hoff
  go_wp2_with fail
  have hreq : VReq w1.heap.size { d0 with busy := d0.busy ++ [rqR w2.heap.size] } 0 (rqR w2.heap.size) 1 := ⟨rfl, rfl, by simp [In64], by simp [rqR], fun q hq => by
    obtain rfl := List.mem_singleton.1 hq
    exact ⟨fun h => absurd rfl h, fun _ ad e hk => by simp [rqR] at e; subst e; simp only at hk; omega⟩⟩
  refine (vg_again (w1.heap.size + 1) w.heap.size w1.heap.size _ a3 0 (.map []) 0 (rqR w2.heap.size) 1 0 _ HS3.out.at' hreq rfl (by omega) (by omega)).mono ?_
  rintro e w4 ⟨a4, rfl, hs4⟩
  have HS4 := hidT ((HS3.out.trans hs4).later (below1 w4 (.cells #[.bool false, .int .i64 0, .int .i64 0, .slice none 0 0, .slice none 0 0, .int .i64 0, .slice none 0 0, .int .i64 0] 49)))
  clear hs4 hreq HS3
  go_wp2_with fail
  refine (same_nil 0 _).mono ?_
  rintro e w5 ⟨rfl, hb5⟩
  go_wp2_with fail
  refine (same_nil 0 _).mono ?_
  rintro e w6 ⟨rfl, hb6⟩
  have HM6 := hidT ((HS4.out.later hb5).later hb6)
  clear hb5 hb6 HS4
  go_wp2_with fail
  refine (room_any (w1.heap.size + 1) w.heap.size w1.heap.size _ a4 _ _ true _ HM6.out.at' rfl).mono ?_
  rintro e w7 ⟨rfl, hb7⟩
  have hB7 : Below w.heap.size w w7 := (bthen HB2.out HBX.out).trans ((HM6.out.later hb7).only.below (bthen HB2.out HBX.out).size (fun k hk => by
    rcases hk with e | e
    · omega
    · rw [an0_foot e]; exact Nat.le_refl _))
  have HB7 := hidT hB7
  clear hb7 hB7 HM6
  go_wp2
  go_ret
  exact ⟨rfl, HB7.out⟩
theorem strD_ne {s : ByteArray} (l : List UInt8) (h : ¬ s = ⟨l.toArray⟩) : (s.toList == l) = false := by
  rw [beq_eq_false_iff_ne]
  intro e
  apply h
  rw [ByteArray.toList_eq] at e
  cases s
  simp only at e
  rw [← e]
/-- What is left of an act, to be read. -/
def ActK (w : World) (q : Nat) (kd : ByteArray) (n k : Int) : Prop := w.cell? ⟨q, 0, none⟩ = some (.string kd) ∧ w.cell? ⟨q, 7, none⟩ = some (.int .i64 n) ∧ w.cell? ⟨q, 8, none⟩ = some (.int .u64 k)
theorem ActK.only {F : Nat → Prop} {w w' : World} {q : Nat} {kd : ByteArray} {n k : Int} (h : ActK w q kd n k) (hO : Only F w w') (hn : ¬ F q) : ActK w' q kd n k := by
  obtain ⟨h0, h1, h2⟩ := h
  have hl := lt_of_cell h0
  exact ⟨(hO.cell (p := ⟨q, 0, none⟩) hl hn).trans h0, (hO.cell (p := ⟨q, 7, none⟩) hl hn).trans h1, (hO.cell (p := ⟨q, 8, none⟩) hl hn).trans h2⟩
theorem ActK.later {w w' : World} {q : Nat} {kd : ByteArray} {n k : Int} (h : ActK w q kd n k) (hb : Below w.heap.size w w') : ActK w' q kd n k := h.only (F := fun _ => False) (Only.of_below hb) (fun e => e)
theorem actK_new (w : World) (T : TypeId) (kd : ByteArray) (a b c d e f : Value) (n k : Int) : ActK (w.alloc (.cells #[.string kd, a, b, c, d, e, f, .int .i64 n, .int .u64 k] T)) w.heap.size kd n k := by
  refine ⟨?_, ?_, ?_⟩ <;> simp
theorem rq0_at (w : World) : rq0.At w := ⟨Or.inl rfl, Or.inl rfl, by simp [rq0], by simp [rq0], by simp [rq0, In64], by simp [rq0, In64], by simp [rq0, In64], fun _ => rfl, fun _ => rfl⟩
end Go.Proofs.Ythmeaclekedilac
