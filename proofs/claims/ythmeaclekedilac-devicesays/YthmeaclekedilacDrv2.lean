/- A driver of a device: the end of a request. -/
import Derived.Test.YthmeaclekedilacDrv1
import Derived.Test.YthmeaclekedilacTopPart
namespace Go.Proofs.Ythmeaclekedilac
open Go.RowKit Go.BigFrame Go.Maps
attribute [local go_sem] Later.cell Later.frozen

theorem calls_worldD {P : Program} {f : FuncId} {args : Array Value} {w : World} {post : Ending → World → Prop} (R : World → Prop) (h : R w) (k : ∀ w', R w' → Calls P f args w' post) : Calls P f args w post := k w h
/-- A result in a block of its own, that may be written. -/
def ResBoxF (w : World) (q : Nat) (r : Rq) (xa : Option Addr) (n xc : Nat) (er : Int) : Prop := ResBox w q r xa n xc er ∧ w.there q 0 8 ∧ q < w.heap.size
theorem there_only {F : Nat → Prop} {w w' : World} {q : Nat} (h : w.there q 0 8) (hl : q < w.heap.size) (hO : Only F w w') (hn : ¬ F q) : w'.there q 0 8 := fun j hj => by
  rw [hO.cell (p := ⟨q, 0 + j, none⟩) hl hn, hO.frozen (p := ⟨q, 0 + j, none⟩) hl hn]; exact h j hj
theorem ResBoxF.only {F : Nat → Prop} {w w' : World} {q n xc : Nat} {r : Rq} {xa : Option Addr} {er : Int} (h : ResBoxF w q r xa n xc er) (hO : Only F w w') (hn : ¬ F q) : ResBoxF w' q r xa n xc er := by
  obtain ⟨⟨h0, h1, h2, h3, h4, h5, h6, h7⟩, hf, hl⟩ := h
  exact ⟨⟨(hO.cell (p := ⟨q, 0, none⟩) hl hn).trans h0, (hO.cell (p := ⟨q, 1, none⟩) hl hn).trans h1, (hO.cell (p := ⟨q, 2, none⟩) hl hn).trans h2, (hO.cell (p := ⟨q, 3, none⟩) hl hn).trans h3, (hO.cell (p := ⟨q, 4, none⟩) hl hn).trans h4, (hO.cell (p := ⟨q, 5, none⟩) hl hn).trans h5, (hO.cell (p := ⟨q, 6, none⟩) hl hn).trans h6, (hO.cell (p := ⟨q, 7, none⟩) hl hn).trans h7⟩, there_only hf hl hO hn, Nat.lt_of_lt_of_le hl hO.size⟩
theorem ResBoxF.later {w w' : World} {q n xc : Nat} {r : Rq} {xa : Option Addr} {er : Int} (h : ResBoxF w q r xa n xc er) (hb : Below w.heap.size w w') : ResBoxF w' q r xa n xc er := h.only (F := fun _ => False) (Only.of_below hb) (fun e => e)
theorem zero_there {w : World} {q : Nat} (h : ZeroAt w q) : w.there q 0 8 := by
  obtain ⟨⟨z0, z1, z2, z3, z4, z5, z6, z7⟩, zf, zl⟩ := h
  intro j hj
  refine ⟨?_, zf _⟩
  match j, hj with
  | 0, _ => simp [z0]
  | 1, _ => simp [z1]
  | 2, _ => simp [z2]
  | 3, _ => simp [z3]
  | 4, _ => simp [z4]
  | 5, _ => simp [z5]
  | 6, _ => simp [z6]
  | 7, _ => simp [z7]
/-- Eight cells of one block. -/
def set8 (w : World) (q : Nat) (v0 v1 v2 v3 v4 v5 v6 v7 : Value) : World := (((((((w.setCell ⟨q, 0, none⟩ v0).setCell ⟨q, 1, none⟩ v1).setCell ⟨q, 2, none⟩ v2).setCell ⟨q, 3, none⟩ v3).setCell ⟨q, 4, none⟩ v4).setCell ⟨q, 5, none⟩ v5).setCell ⟨q, 6, none⟩ v6).setCell ⟨q, 7, none⟩ v7
theorem set8_only (w : World) (q : Nat) (v0 v1 v2 v3 v4 v5 v6 v7 : Value) : Only (fun k => k = q) w (set8 w q v0 v1 v2 v3 v4 v5 v6 v7) :=
  ((((((((Only.refl (fun k => k = q) w).setCell ⟨q, 0, none⟩ (Or.inl rfl) v0).setCell ⟨q, 1, none⟩ (Or.inl rfl) v1).setCell ⟨q, 2, none⟩ (Or.inl rfl) v2).setCell ⟨q, 3, none⟩ (Or.inl rfl) v3).setCell ⟨q, 4, none⟩ (Or.inl rfl) v4).setCell ⟨q, 5, none⟩ (Or.inl rfl) v5).setCell ⟨q, 6, none⟩ (Or.inl rfl) v6).setCell ⟨q, 7, none⟩ (Or.inl rfl) v7
theorem set8_res {w : World} {q n xc : Nat} {r : Rq} {xa : Option Addr} {er : Int} (h : w.there q 0 8) (hl : q < w.heap.size) : ResBoxF (set8 w q (.bool r.wr) (.int .i64 r.f) (.int .i64 r.m) (.slice r.da r.data.length r.dc) (.slice r.ta r.tags.length r.tc) (.int .i64 r.born) (.slice xa n xc) (.int .i64 er)) q r xa n xc er := by
  have hs := World.rangeAt_setCells_same w q 0 [.bool r.wr, .int .i64 r.f, .int .i64 r.m, .slice r.da r.data.length r.dc, .slice r.ta r.tags.length r.tc, .int .i64 r.born, .slice xa n xc, .int .i64 er] h
  exact ⟨⟨hs 0 _ rfl, hs 1 _ rfl, hs 2 _ rfl, hs 3 _ rfl, hs 4 _ rfl, hs 5 _ rfl, hs 6 _ rfl, hs 7 _ rfl⟩, World.there_setCells h q 0 [.bool r.wr, .int .i64 r.f, .int .i64 r.m, .slice r.da r.data.length r.dc, .slice r.ta r.tags.length r.tc, .int .i64 r.born, .slice xa n xc, .int .i64 er], by simpa [set8] using hl⟩
/-- A result is stored over one. -/
theorem wpList_store_res {ops : Array Oper} {rest : List Oper} {op : Oper} {a : Act} {w : World} {Q : Exit → Act → World → Prop} (hgd : op.guard = none) (x y : Operand) (ho : op.op = .store 49 x y)
    (q : Nat) (r : Rq) (xa : Option Addr) (n xc : Nat) (er : Int) (hx : a.eval x = .pointer (some ⟨q, 0, none⟩)) (hy : a.eval y = resV r xa n xc er) (ht : w.there q 0 8)
    (R : World → Prop) (hR : R (set8 w q (.bool r.wr) (.int .i64 r.f) (.int .i64 r.m) (.slice r.da r.data.length r.dc) (.slice r.ta r.tags.length r.tc) (.int .i64 r.born) (.slice xa n xc) (.int .i64 er)))
    (h : ∀ w', R w' → wpList Try.prog ops Q rest (a.put op.dst undef) w') : wpList Try.prog ops Q (op :: rest) a w :=
  wpList_store_mid hgd 49 x y ho q 0 _ hx hy ht (by kernel_rfl) (by simp [Value.oneCell']) (h _ hR)
def rq0 : Rq := ⟨false, 0, 0, none, 0, [], none, 0, [], 0⟩
/-- A block of the call's own is written. -/
theorem vset8 {v b bm : Nat} {d d' : Dl} {a a' : An} {n n' : Nat} {D D' : DataW Unit} {w w' : World} (h : VStep v b bm d a n D d' a' n' D' w w') (q : Nat) (hq : w.heap.size ≤ q) (hq' : ¬ vfoot b bm a' q) (hqv : q ≠ v) (hr : ∀ r ∈ d'.busy, r.Off (fun k => k = q)) (v0 v1 v2 v3 v4 v5 v6 v7 : Value) : VStep v b bm d a n D d' a' n' D' w (set8 w' q v0 v1 v2 v3 v4 v5 v6 v7) where
  at' := ⟨h.at'.dev.frame (set8_only w' q _ _ _ _ _ _ _ _) (fun k hk e => hq' (by rw [← e]; exact Or.inr hk)) hr, by rw [(set8_only w' q v0 v1 v2 v3 v4 v5 v6 v7).block v (lt_of_heap h.at'.blk) (Ne.symm hqv)]; exact h.at'.blk, owns_block h.at'.map ((set8_only w' q v0 v1 v2 v3 v4 v5 v6 v7).block bm h.at'.mlt (fun e => hq' (Or.inl e.symm))), h.at'.foot⟩
  only := h.only.trans (set8_only w' q v0 v1 v2 v3 v4 v5 v6 v7) (fun i e => Or.inr (by subst e; exact hq))
  foot := h.foot
theorem set8_size (w : World) (q : Nat) (v0 v1 v2 v3 v4 v5 v6 v7 : Value) : (set8 w q v0 v1 v2 v3 v4 v5 v6 v7).heap.size = w.heap.size := by simp [set8]
set_option maxRecDepth 100000 in
set_option maxHeartbeats 1000000 in
theorem vend_none (v b bm : Nat) (d : Dl) (a : An) (n : Nat) (D : DataW Unit) (fl : Bool) (w : World) (h : VAt v b bm d a n D w) (he : d.busy = []) :
    Calls Try.prog 29 #[.pointer (some ⟨v, 0, none⟩), .int .i64 0, .bool fl] w fun e w' => e = .returned (.tuple #[noRes, .bool false, .iface 47 (.int .i64 5)]) ∧ Below w.heap.size w w' := by
  obtain ⟨c0, c1⟩ := h.cells; have HV := hidT h; have hv := lt_of_heap h.blk; have hm := h.mlt; have hbv := h.dev.lt; have hb0 := hidT (below1 w (.cells #[.bool false, .int .i64 0, .int .i64 0, .slice none 0 0, .slice none 0 0, .int .i64 0, .slice none 0 0, .int .i64 0] 49)); clear h
  have HE := hidT he
  clear he
  go_enter Try.func29, Try.ntmps29
  go_wp2_with fail
  refine (end_none b d a 0 fl _ (HV.out.dev.later hb0.out) (by rw [HE.out]; simp)).mono ?_
  rintro e w1 ⟨rfl, hb1⟩
  have hz1 := (zero_new w 49).only (F := fun _ => False) (Only.of_below hb1) (fun e => e)
  have hB1 := hb0.out.trans (hb1.mono hb0.out.size)
  have HZ1 := hidT hz1
  have HB1 := hidT hB1
  clear hb1 hB1 hz1
  go_wp2_with (first
    | (refine wpList_store_res rfl (.tmp 6) (.tmp 18) rfl w.heap.size rq0 none 0 0 0 rfl rfl (zero_there HZ1.out) (fun wK => Below w.heap.size w wK ∧ ResBoxF wK w.heap.size rq0 none 0 0 0) ⟨HB1.out.trans ((set8_only w1 w.heap.size _ _ _ _ _ _ _ _).below HB1.out.size (fun i e => by omega)), set8_res (zero_there HZ1.out) HZ1.out.2.2⟩ ?_; rintro w2 ⟨hb2, hr2⟩; have HB2 := hidT hb2; have HR2 := hidT hr2; clear hb2 hr2 HB1 HZ1)
    | (refine wpList_store_res rfl (.tmp 6) (.tmp 22) rfl w.heap.size rq0 none 0 0 0 rfl rfl HR2.out.2.1 (fun wK => Below w.heap.size w wK ∧ ResBoxF wK w.heap.size rq0 none 0 0 0) ⟨HB2.out.trans ((set8_only w2 w.heap.size _ _ _ _ _ _ _ _).below HB2.out.size (fun i e => by omega)), set8_res HR2.out.2.1 HR2.out.2.2⟩ ?_; rintro w3 ⟨hb3, ⟨z0, z1, z2, z3, z4, z5, z6, z7⟩, -, -⟩; have HB3 := hidT hb3; clear hb3 HB2 HR2))
  exact bodyPost_ret (v := .tuple #[noRes, .bool false, .iface 47 (.int .i64 5)]) (by simp [results, Try.results29, go_sem, z0, z1, z2, z3, z4, z5, z6, z7, rq0]) rfl ⟨rfl, HB3.out⟩
end Go.Proofs.Ythmeaclekedilac
