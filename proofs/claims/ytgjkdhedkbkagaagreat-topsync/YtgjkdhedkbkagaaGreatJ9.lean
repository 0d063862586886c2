/- A device: do: a request that writes. -/
import Derived.Test.YtgjkdhedkbkagaaGreatJ8
namespace Go.Proofs.YtgjkdhedkbkagaaGreat
open Go.RowKit Go.BigFrame
set_option maxRecDepth 100000
attribute [local go_sem] Later.cell Later.frozen

def Dl.writesTo (d : Dl) (r : Rq) (n : Nat) : Dl := (List.range n).foldl (fun d j => d.write (r.f.toNat + j) (r.data.getD j ByteArray.empty)) d
theorem Dl.writesTo_succ (d : Dl) (r : Rq) (n : Nat) : d.writesTo r (n + 1) = (d.writesTo r n).write (r.f.toNat + n) (r.data.getD n ByteArray.empty) := by simp [Dl.writesTo, List.range_succ]
theorem DStep.later {b : Nat} {d d' : Dl} {a a' : An} {w w' w'' : World} (h : DStep b d a d' a' w w') (hb : Below w'.heap.size w' w'') : DStep b d a d' a' w w'' := ⟨h.dev.later hb, h.only.later hb, h.foot⟩
theorem DStep.same {b : Nat} {d : Dl} {a : An} {w w' : World} (h : DevAt b d a w) (hb : Below w.heap.size w w') : DStep b d a d a w w' := ⟨h.later hb, Only.of_below hb, fun _ hk => Or.inl hk⟩
/-- A request in a block of its own. -/
def BoxAt (w : World) (q : Nat) (r : Rq) : Prop := w.cell? ⟨q, 0, none⟩ = some (.bool r.wr) ∧ w.cell? ⟨q, 1, none⟩ = some (.int .i64 r.f) ∧ w.cell? ⟨q, 2, none⟩ = some (.int .i64 r.m) ∧ w.cell? ⟨q, 3, none⟩ = some (.slice r.da r.data.length r.dc) ∧ w.cell? ⟨q, 4, none⟩ = some (.slice r.ta r.tags.length r.tc) ∧ w.cell? ⟨q, 5, none⟩ = some (.int .i64 r.born)
theorem BoxAt.only {F : Nat → Prop} {w w' : World} {q : Nat} {r : Rq} (h : BoxAt w q r) (hO : Only F w w') (hn : ¬ F q) : BoxAt w' q r := by
  obtain ⟨h0, h1, h2, h3, h4, h5⟩ := h
  have hl := lt_of_cell h0
  exact ⟨(hO.cell (p := ⟨q, 0, none⟩) hl hn).trans h0, (hO.cell (p := ⟨q, 1, none⟩) hl hn).trans h1, (hO.cell (p := ⟨q, 2, none⟩) hl hn).trans h2, (hO.cell (p := ⟨q, 3, none⟩) hl hn).trans h3, (hO.cell (p := ⟨q, 4, none⟩) hl hn).trans h4, (hO.cell (p := ⟨q, 5, none⟩) hl hn).trans h5⟩
theorem BoxAt.later {w w' : World} {q : Nat} {r : Rq} (h : BoxAt w q r) (hb : Below w.heap.size w w') : BoxAt w' q r := h.only (F := fun _ => False) (Only.of_below hb) (fun e => e)
theorem box_new (w : World) (T : TypeId) (r : Rq) : BoxAt (w.alloc (.cells #[.bool r.wr, .int .i64 r.f, .int .i64 r.m, .slice r.da r.data.length r.dc, .slice r.ta r.tags.length r.tc, .int .i64 r.born] T)) w.heap.size r := by
  refine ⟨?_, ?_, ?_, ?_, ?_, ?_⟩ <;> simp

set_option maxRecDepth 100000 in
set_option maxHeartbeats 2000000 in
theorem do_write (b : Nat) (d : Dl) (a : An) (r : Rq) (w : World) (h : DevAt b d a w) (gr : Good r) (hw : r.wr = true) (hr : r.At w) (ho : r.Off (a.foot b)) :
    Calls Tryz.prog 108 #[.pointer (some ⟨b, 0, none⟩), r.val] w fun e w' => ∃ a', e = .returned (.slice none 0 0) ∧ DStep b d a (d.writesTo r r.m.toNat) a' w w' := by
  have HB0 := hidT gr.bndD
  have HHAS := hidT (has_in r gr)
  have hdl : (r.data.length : Int) = r.m := by
    have := gr.shape
    simp only [shapeB, hw, if_true, decide_eq_true_eq] at this
    exact this
  have HDL := hidT hdl
  have HD := hidT h
  have hl := h.lt
  have hB1 := below1 w (.cells #[.bool r.wr, .int .i64 r.f, .int .i64 r.m, .slice r.da r.data.length r.dc, .slice r.ta r.tags.length r.tc, .int .i64 r.born] 44)
  have hX := box_new w 44 r
  have HR := hidT (hr.later hB1)
  have HO := hidT ho
  have HW := hidT hw
  clear h gr hdl hr ho hw
  go_enter Tryz.func108, Tryz.ntmps108
  go_wp2_with fail
  generalize hW1 : w.alloc (.cells #[.bool r.wr, .int .i64 r.f, .int .i64 r.m, .slice r.da r.data.length r.dc, .slice r.ta r.tags.length r.tc, .int .i64 r.born] 44) = w1 at *
  have hs1 : w1.heap.size = w.heap.size + 1 := by rw [← hW1]; simp
  have HS1 := hidT hs1
  have HX := hidT hX
  have HB1 := hidT hB1
  clear hW1 hs1 hX hB1
  go_loopw [5, 9] (fun v i wr => ∃ (k : Nat) (a' : An), k ≤ 32 ∧ i = .int .i64 k ∧ v = .slice none 0 0 ∧ DStep b d a (d.writesTo r (below r.f.toNat r.m.toNat k)) a' w1 wr) (fun _ i _ => 32 - (intOf i).toNat)
  case atStart => exact ⟨0, a, by omega, rfl, rfl, by simpa [below, Dl.writesTo] using DStep.same (HD.out.later HB1.out) (Below.refl _ _)⟩
  case round =>
    obtain ⟨k, a', hk, rfl, rfl, hst⟩ := hrel
    have HST := hidT hst
    have nq : ¬ a.foot b w.heap.size := fun e => by have := HD.out.footLt _ e; omega
    have hbx := HX.out.only HST.out.only nq
    have hra := hidT (HR.out.frame HO.out HST.out.only)
    clear hst nq
    by_cases hlt : k < 32
    · have hhs := HHAS.out k hlt
      have hlt' : (k : Int) < 32 := by omega
      obtain ⟨b1, b2, b3, b4, b5⟩ := HB0.out
      by_cases hin : r.f.toNat ≤ k ∧ k < r.f.toNat + r.m.toNat
      · rw [decide_eq_true hin] at hhs
        obtain ⟨e1, e2⟩ := below_in hin.1 hin.2
        have HE := hidT (⟨e1, e2⟩ : _ ∧ _)
        have hwp : wrap64 ((k : Int) - r.f) = ((below r.f.toNat r.m.toNat k : Nat) : Int) := by unfold wrap64; omega
        have hjl : below r.f.toNat r.m.toNat k < r.data.length := by have := HDL.out; omega
        have HWP := hidT hwp
        have HHS := hidT hhs
        obtain ⟨x0, x1, x2, x3, x4, x5⟩ := id hbx
        have lx := lt_of_cell x0
        rw [HW.out] at x0
        clear e1 e2 hin hwp b1 b2 b3 b4 b5 hhs
        go_wp2_with fail
        refine (has_eq _ _ _ _ _ HHS.out).mono ?_
        rintro e w2 ⟨rfl, hb2⟩
        obtain ⟨y0, y1, y2, y3, y4, y5⟩ := hbx.later hb2
        rw [HW.out] at y0
        clear x0 x1 x2 x3 x4 x5
        go_wp2_with fail
        refine (part_in { r with wr := true } r.data r.da r.dc 0 k _ (hra.out.data.later hb2) HHS.out _ HWP.out hjl _ rfl).mono ?_
        rintro e w3 ⟨rfl, hb3⟩
        have hst3 := hidT ((HST.out.later hb2).later hb3)
        go_wp2_with fail
        refine (write_any b _ a' k _ _ hst3.out.dev hlt).mono ?_
        rintro e w4 ⟨a4, rfl, hst4⟩
        have HST4 := hidT (hst3.out.trans hst4)
        clear hst4 hb2 hb3 y0 y1 y2 y3 y4 y5 hra hbx
        go_wp2
        go_roundw
        case rel =>
          refine ⟨k + 1, a4, by omega, by go_num, rfl, ?_⟩
          rw [HE.out.1, Dl.writesTo_succ, HE.out.2, List.getD_eq_getElem?_getD, List.getElem?_eq_getElem hjl, Option.getD_some]
          exact HST4.out
        case measure => simp [intOf]; omega
      · rw [decide_eq_false hin] at hhs
        have HE := hidT (below_out hin)
        have HHS := hidT hhs
        obtain ⟨x0, x1, x2, x3, x4, x5⟩ := id hbx
        clear hin b1 b2 b3 b4 b5 hhs
        go_wp2_with fail
        refine (has_eq _ _ _ _ _ HHS.out).mono ?_
        rintro e w2 ⟨rfl, hb2⟩
        have HST2 := hidT (HST.out.later hb2)
        clear hb2 x0 x1 x2 x3 x4 x5 hra hbx
        go_wp2
        go_roundw
        case rel => exact ⟨k + 1, a', by omega, by go_num, rfl, by rw [HE.out]; exact HST2.out⟩
        case measure => simp [intOf]; omega
    · have hk32 : k = 32 := by omega
      subst hk32
      obtain ⟨b1, b2, b3, b4, b5⟩ := HB0.out
      have hall : below r.f.toNat r.m.toNat 32 = r.m.toNat := below_all (by omega)
      rw [hall] at HST
      clear hall b1 b2 b3 b4 b5 hra hbx
      go_wp2
      go_ret
      exact ⟨a', rfl, (DStep.same HD.out HB1.out).trans HST.out⟩
end Go.Proofs.YtgjkdhedkbkagaaGreat
/- A device: Flush. -/
namespace Go.Proofs.YtgjkdhedkbkagaaGreat
open Go.RowKit Go.BigFrame
set_option maxRecDepth 100000
attribute [local go_sem] Later.cell Later.frozen

def Dl.flush (d : Dl) : Dl := { d with good := d.now, wr := [], next := 0 }
theorem strV_one (l : List ByteArray) : ∀ v ∈ strV l, v.oneCell' = true := by
  intro v hv
  simp only [strV, List.mem_map] at hv
  obtain ⟨s, _, rfl⟩ := hv
  rfl
theorem cells_good (d : Dl) (a : An) (l : List ByteArray) (h1 : d.now.length = 32) (h2 : d.good.length = 32) (h3 : l.length = 32) : splice (d.cells a) 32 (strV l) = ({ d with good := l } : Dl).cells a := by
  have e1 : (strV d.now).length = 32 := by rw [strV_length, h1]
  have e2 : (strV d.good).length = 32 := by rw [strV_length, h2]
  have e3 : (strV l).length = 32 := by rw [strV_length, h3]
  rw [splice, Dl.cells, Dl.cells, e3, List.append_assoc, List.take_append_of_le_length (by omega), List.take_of_length_le (by omega), List.drop_append, List.drop_eq_nil_of_le (by omega), List.nil_append, e1, show 32 + 32 - 32 = 32 by omega, List.drop_append, List.drop_eq_nil_of_le (by omega), List.nil_append, e2, Nat.sub_self, List.drop_zero, List.append_assoc]
theorem cells_now (d : Dl) (a : An) (l : List ByteArray) (h1 : d.now.length = 32) (h3 : l.length = 32) : splice (d.cells a) 0 (strV l) = ({ d with now := l } : Dl).cells a := by
  have e1 : (strV d.now).length = 32 := by rw [strV_length, h1]
  have e3 : (strV l).length = 32 := by rw [strV_length, h3]
  rw [splice, Dl.cells, Dl.cells, e3, List.take_zero, List.nil_append, List.append_assoc, List.drop_append, List.drop_eq_nil_of_le (by omega), List.nil_append, e1, show 0 + 32 - 32 = 0 by omega, List.drop_zero, List.append_assoc]
/-- The device's block is another, its rows are not (or are nil). -/
theorem DevAt.reblock {b : Nat} {d d' : Dl} {a a' : An} {w w' : World} (h : DevAt b d a w) (hO : Only (fun k => k = b) w w') (hblk : w'.heap[b]? = some (.cells (d'.cells a').toArray 82 (0, 0)))
    (hw : (d'.wr = d.wr ∧ a'.wa = a.wa ∧ a'.wc = a.wc) ∨ (d'.wr = [] ∧ a'.wa = none ∧ a'.wc = 0)) (hb : (d'.busy = d.busy ∧ a'.ba = a.ba ∧ a'.bc = a.bc) ∨ (d'.busy = [] ∧ a'.ba = none ∧ a'.bc = 0)) (n32 : d'.now.length = 32) (g32 : d'.good.length = 32) (nxt : d'.next < 64) : DStep b d a d' a' w w' := by
  have hft : ∀ k, a'.foot b k → a.foot b k := by
    rintro k (e | ⟨p, hp, e⟩ | ⟨p, hp, e⟩)
    · exact Or.inl e
    · rcases hw with ⟨_, h2, _⟩ | ⟨_, h2, _⟩
      · rw [h2] at hp; exact Or.inr (Or.inl ⟨p, hp, e⟩)
      · rw [h2] at hp; cases hp
    · rcases hb with ⟨_, h2, _⟩ | ⟨_, h2, _⟩
      · rw [h2] at hp; exact Or.inr (Or.inr ⟨p, hp, e⟩)
      · rw [h2] at hp; cases hp
  refine ⟨?_, hO.mono (fun k hk => Or.inl hk), fun k hk => Or.inl (hft k hk)⟩
  exact {
    n32 := n32
    g32 := g32
    blk := hblk
    wrow := by
      rcases hw with ⟨h1, h2, h3⟩ | ⟨h1, h2, h3⟩
      · rw [h1, h2, h3]
        exact own_frame h.wrow fun g hg => by
          obtain ⟨p, hp, rfl⟩ := ownBlock_slice.1 hg
          exact hO.block _ (h.wlt p hp) (h.sepw p hp)
      · rw [h1, h2, h3]; exact World.ownsRow_nil _ _ _ _
    brow := by
      rcases hb with ⟨h1, h2, h3⟩ | ⟨h1, h2, h3⟩
      · rw [h1, h2, h3]
        exact own_frame h.brow fun g hg => by
          obtain ⟨p, hp, rfl⟩ := ownBlock_slice.1 hg
          exact hO.block _ (h.blt p hp) (h.sepb p hp)
      · rw [h1, h2, h3]; exact World.ownsRow_nil _ _ _ _
    sepw := fun p hp => by
      rcases hw with ⟨_, h2, _⟩ | ⟨_, h2, _⟩
      · rw [h2] at hp; exact h.sepw p hp
      · rw [h2] at hp; cases hp
    sepb := fun p hp => by
      rcases hb with ⟨_, h2, _⟩ | ⟨_, h2, _⟩
      · rw [h2] at hp; exact h.sepb p hp
      · rw [h2] at hp; cases hp
    sepwb := fun p q hp hq => by
      rcases hw with ⟨_, h2, _⟩ | ⟨_, h2, _⟩
      · rcases hb with ⟨_, k2, _⟩ | ⟨_, k2, _⟩
        · rw [h2] at hp; rw [k2] at hq; exact h.sepwb p q hp hq
        · rw [k2] at hq; cases hq
      · rw [h2] at hp; cases hp
    reqs := fun r hr => by
      rcases hb with ⟨h1, _, _⟩ | ⟨h1, _, _⟩
      · rw [h1] at hr
        have := h.reqs r hr
        exact ⟨this.1.frame (F := fun k => k = b) (this.2.mono fun k hk => Or.inl hk) hO, this.2.mono hft⟩
      · rw [h1] at hr; cases hr
    wfin := by
      rcases hw with ⟨h1, _, _⟩ | ⟨h1, _, _⟩
      · rw [h1]; exact h.wfin
      · rw [h1]; simp
    nod := by
      rcases hw with ⟨h1, _, _⟩ | ⟨h1, _, _⟩
      · rw [h1]; exact h.nod
      · rw [h1]; simp
    blen := by
      rcases hb with ⟨h1, _, _⟩ | ⟨h1, _, _⟩
      · rw [h1]; exact h.blen
      · rw [h1]; simp
    nxt := nxt }
theorem DevAt.rangeNow {b : Nat} {d : Dl} {a : An} {w : World} (h : DevAt b d a w) : w.rangeAt b 0 (strV d.now) := fun j v hv => by
  have hj : j < 32 := by
    have := (List.getElem?_eq_some_iff.1 hv).1
    rw [strV_length, h.n32] at this; exact this
  rw [Nat.zero_add, cell_of_heap h.blk, Dl.cells, List.append_assoc, List.getElem?_append_left (by rw [strV_length, h.n32]; exact hj)]
  exact hv
theorem DevAt.rangeGood {b : Nat} {d : Dl} {a : An} {w : World} (h : DevAt b d a w) : w.rangeAt b 32 (strV d.good) := fun j v hv => by
  have hj : j < 32 := by
    have := (List.getElem?_eq_some_iff.1 hv).1
    rw [strV_length, h.g32] at this; exact this
  rw [cell_of_heap h.blk, Dl.cells, List.append_assoc, List.getElem?_append_right (by rw [strV_length, h.n32]; omega), strV_length, h.n32, show 32 + j - 32 = j by omega, List.getElem?_append_left (by rw [strV_length, h.g32]; exact hj)]
  exact hv
theorem DevAt.there {b : Nat} {d : Dl} {a : An} {w : World} (h : DevAt b d a w) (o n : Nat) (ho : o + n ≤ 67) : w.there b o n := fun j hj => by
  refine ⟨?_, h.fz _⟩
  rw [cell_of_heap h.blk, List.getElem?_eq_getElem (by rw [Dl.cells_length h.n32 h.g32]; omega)]
  rfl
theorem size32 : (Tryz.prog.info? 46).map (·.size) = some 32 := by kernel_rfl
theorem setCells_onlyB (b : Nat) (vs : List Value) (o : Nat) (w : World) : Only (fun k => k = b) w (w.setCells b o vs) := setCells_only (F := fun k => k = b) b (Or.inl rfl) vs o w (Only.refl _ _)
set_option maxHeartbeats 1000000 in
theorem flush_any (b : Nat) (d : Dl) (a : An) (w : World) (h : DevAt b d a w) :
    Calls Tryz.prog 47 #[.pointer (some ⟨b, 0, none⟩)] w fun e w' => e = .returned (.tuple #[]) ∧ DStep b d a d.flush { a with wa := none, wc := 0 } w w' := by
  have HD := hidT h
  have hl := h.lt
  have e32 : (strV d.now).length = 32 := by rw [strV_length]; exact h.n32
  have HE := hidT e32
  have blk1 := setCells_heap b 82 (strV d.now) 32 (d.cells a) w h.blk (by rw [e32, Dl.cells_length h.n32 h.g32]; omega)
  rw [cells_good d a d.now h.n32 h.g32 h.n32] at blk1
  have c64 := (cell_of_heap blk1 64).trans (Dl.cell64 h.n32 h.n32)
  have c65 := (cell_of_heap blk1 65).trans (Dl.cell65 h.n32 h.n32)
  have f64 := frozen_of_heap blk1 64
  have f65 := frozen_of_heap blk1 65
  have HB1 := hidT blk1
  clear h e32 blk1
  go_enter Tryz.func47, Tryz.ntmps47
  go_wp2_with (first | (refine wpList_load_mid rfl 46 (.tmp 5) rfl b 0 rfl (strV d.now) _ HD.out.rangeNow Tryz.underlying46 rfl (by rw [HE.out]; exact size32) ?_) | (refine wpList_store_mid rfl 46 (.tmp 8) (.tmp 6) rfl b 32 (strV d.now).toArray rfl rfl (by rw [List.size_toArray, HE.out]; exact HD.out.there 32 32 (by omega)) (by rw [List.size_toArray, HE.out]; exact size32) (all_oneCell_toArray (strV_one _)) ?_; simp only))
  go_end0
  refine ⟨rfl, HD.out.reblock (((setCells_onlyB b (strV d.now) 32 w).setCell ⟨b, 64, none⟩ (Or.inl rfl) _).setCell ⟨b, 65, none⟩ (Or.inl rfl) _) ?_ (Or.inr ⟨rfl, rfl, rfl⟩) (Or.inl ⟨rfl, rfl, rfl⟩) HD.out.n32 HD.out.n32 (by simp [Dl.flush])⟩
  rw [set_same (set_same HB1.out 64 _) 65 _]
  have e1 := cells_set64 ({ d with good := d.now } : Dl) a [] none 0 HD.out.n32 HD.out.n32
  have e2 := cells_set65 ({ d with good := d.now, wr := [] } : Dl) { a with wa := none, wc := 0 } 0 HD.out.n32 HD.out.n32
  simp only [List.length_nil] at e1
  rw [e1]
  exact congrArg (fun l : List Value => some (Obj.cells l.toArray 82 (0, 0))) e2
end Go.Proofs.YtgjkdhedkbkagaaGreat
/- A device: Crash. -/
namespace Go.Proofs.YtgjkdhedkbkagaaGreat
open Go.RowKit Go.BigFrame
set_option maxRecDepth 100000
attribute [local go_sem] Later.cell Later.frozen

/-- Is the bit set? -/
def bitOn (kp : Int) (n : Nat) : Bool := bits BinOp.and IntKind.u64 (kp / 2 ^ n) 1 == 1
/-- What is kept, in order. -/
def applyW (kp : Int) (l : List Wn) (now : List ByteArray) : List ByteArray := l.foldl (fun n x => if bitOn kp x.bit = true then n.set x.pl x.data else n) now
def Dl.crash (d : Dl) (kp : Int) : Dl := ({ d with busy := [], now := applyW kp d.wr d.good } : Dl).flush
theorem applyW_snoc (kp : Int) (l : List Wn) (x : Wn) (now : List ByteArray) : applyW kp (l ++ [x]) now = if bitOn kp x.bit = true then (applyW kp l now).set x.pl x.data else applyW kp l now := by simp [applyW]
theorem DStep.setNow {b : Nat} {d0 d : Dl} {a0 a : An} {w w' : World} (h : DStep b d0 a0 d a w w') {p : Nat} (hp : p < 32) (s : ByteArray) : DStep b d0 a0 { d with now := d.now.set p s } a w (w'.setCell ⟨b, p, none⟩ (.string s)) :=
  h.trans ⟨h.dev.setB p _ (cells_setNow d a p s h.dev.n32 hp) rfl rfl (by simpa using h.dev.n32) h.dev.g32 h.dev.nxt, (Only.refl (a.foot b) w').setCell ⟨b, p, none⟩ (Or.inl (Or.inl rfl)) _, fun k hk => Or.inl hk⟩
/-- What stands when the loop of Crash begins. -/
theorem crash_start {b : Nat} {d : Dl} {a : An} {w : World} (h : DevAt b d a w) : DStep b d a { d with busy := [], now := d.good } { a with ba := none, bc := 0 } w ((w.setCell ⟨b, 66, none⟩ (.slice none 0 0)).setCells b 0 (strV d.good)) ∧ DevAt b { d with busy := [] } { a with ba := none, bc := 0 } (w.setCell ⟨b, 66, none⟩ (.slice none 0 0)) := by
  have S1 : DStep b d a { d with busy := [] } { a with ba := none, bc := 0 } w (w.setCell ⟨b, 66, none⟩ (.slice none 0 0)) :=
    h.reblock ((Only.refl (fun k => k = b) w).setCell ⟨b, 66, none⟩ (Or.inl rfl) _) (by rw [set_same h.blk, ← cells_set66 d a [] none 0 h.n32 h.g32]; rfl) (Or.inl ⟨rfl, rfl, rfl⟩) (Or.inr ⟨rfl, rfl, rfl⟩) h.n32 h.g32 h.nxt
  have eg : (strV d.good).length = 32 := by rw [strV_length]; exact h.g32
  have blk2 := setCells_heap b 82 (strV d.good) 0 _ _ S1.dev.blk (by rw [eg, Dl.cells_length S1.dev.n32 S1.dev.g32]; omega)
  rw [cells_now _ _ d.good S1.dev.n32 S1.dev.g32] at blk2
  exact ⟨S1.trans (S1.dev.reblock (setCells_onlyB b (strV d.good) 0 _) blk2 (Or.inl ⟨rfl, rfl, rfl⟩) (Or.inl ⟨rfl, rfl, rfl⟩) h.g32 h.g32 h.nxt), S1.dev⟩

set_option maxRecDepth 100000 in
set_option maxHeartbeats 2000000 in
theorem crash_some (b : Nat) (d : Dl) (g wc : Nat) (ba : Option Addr) (bc : Nat) (kp : Int) (_hkp : 0 ≤ kp ∧ kp ≤ 18446744073709551615) (w : World) (h : DevAt b d ⟨some ⟨g, 0, none⟩, wc, ba, bc⟩ w) :
    Calls Tryz.prog 24 #[.pointer (some ⟨b, 0, none⟩), .int .u64 kp] w fun e w' => ∃ a', e = .returned (.tuple #[]) ∧ DStep b d ⟨some ⟨g, 0, none⟩, wc, ba, bc⟩ (d.crash kp) a' w w' := by
  have HD := hidT h; have hl := h.lt; have c66 := h.c66; have f66 := h.fz 66; have HE : Hid ((strV d.good).length = 32) := (by show _ = _; rw [strV_length]; exact h.g32); have S2 := hidT (crash_start h).1; have HS1 := hidT (crash_start h).2; have c64 := (crash_start h).1.dev.c64; clear h; go_enter Tryz.func24, Tryz.ntmps24; go_wp2_with (first | (refine wpList_load_mid rfl 46 (.tmp 12) rfl b 32 rfl (strV d.good) _ HS1.out.rangeGood Tryz.underlying46 rfl (by rw [HE.out]; exact size32) ?_) | (refine wpList_store_mid rfl 46 (.tmp 15) (.tmp 13) rfl b 0 (strV d.good).toArray rfl rfl (by rw [List.size_toArray, HE.out]; exact HS1.out.there 0 32 (by omega)) (by rw [List.size_toArray, HE.out]; exact size32) (all_oneCell_toArray (strV_one _)) ?_; simp only))
  refine wp_worldD (fun wK => DStep b d ⟨some ⟨g, 0, none⟩, wc, ba, bc⟩ { d with busy := [], now := d.good } ⟨some ⟨g, 0, none⟩, wc, none, 0⟩ w wK) S2.out ?_
  clear S2 HS1 c64 c66 f66
  intro w2 h2
  have H2 := hidT h2
  clear h2
  go_loopw [21] (fun i wr => ∃ k : Nat, k ≤ d.wr.length ∧ i = .int .i64 k ∧ DStep b d ⟨some ⟨g, 0, none⟩, wc, ba, bc⟩ { d with busy := [], now := applyW kp (d.wr.take k) d.good } ⟨some ⟨g, 0, none⟩, wc, none, 0⟩ w wr) (fun i _ => d.wr.length - (intOf i).toNat)
  case atStart => exact ⟨0, by omega, rfl, H2.out⟩
  case round =>
    obtain ⟨k, hk, rfl, hs⟩ := hrel
    have HS := hidT hs
    have hws := wns_of_own hs.dev.wrow
    have hfin := hs.dev.wfin
    have lbr := hs.dev.lt
    have hwl := hs.dev.wlen
    simp only at hws hfin hwl
    clear hs
    by_cases hlt : k < d.wr.length
    · rcases hws with e | ⟨g', hg, hcs⟩
      · rw [e] at hlt; exact absurd hlt (Nat.not_lt_zero _)
      simp only [Option.some.injEq, Addr.mk.injEq, and_true] at hg
      obtain rfl := hg
      obtain ⟨c0, c1, c2⟩ := hcs k hlt
      obtain ⟨p1, p2⟩ := hfin _ (List.getElem_mem hlt)
      clear hcs hfin
      have lg := lt_of_cell c0
      have htk : d.wr.take (k + 1) = d.wr.take k ++ [d.wr[k]] := List.take_succ_eq_append_getElem hlt
      have HTK := hidT htk
      generalize d.wr[k] = x at *
      have hlt' : (k : Int) < (d.wr.length : Int) := by omega
      have p1' : (x.pl : Int) < 32 := by omega
      have cN := HS.out.dev.cNow x.pl p1
      have fN := HS.out.dev.fz x.pl
      clear htk
      cases hbt : bitOn kp x.bit
      · have hb' : (bits BinOp.and IntKind.u64 (kp / 2 ^ x.bit) 1 == 1) = false := hbt
        have HBT := hidT hbt
        clear hbt
        go_wp2
        refine ⟨⟨k + 1, by omega, by go_num, ?_⟩, by simp [intOf]; omega⟩
        rw [HTK.out, applyW_snoc, HBT.out, if_neg (by simp)]
        exact HS.out.later (below1 _ _)
      · have hb' : (bits BinOp.and IntKind.u64 (kp / 2 ^ x.bit) 1 == 1) = true := hbt
        have HBT := hidT hbt
        clear hbt
        go_wp2_with fail
        go_region
        go_wp2
        refine ⟨⟨k + 1, by omega, by go_num, ?_⟩, by simp [intOf]; omega⟩
        rw [HTK.out, applyW_snoc, if_pos HBT.out]
        exact ((HS.out.setNow p1 x.data).later (below1 _ _)).drewAt
    · have hkl : k = d.wr.length := by omega
      subst hkl
      rw [List.take_length] at HS
      go_wp2_with fail
      refine (flush_any b _ _ _ HS.out.dev).mono ?_
      rintro e w3 ⟨rfl, hs3⟩
      have HS3 := hidT (HS.out.trans hs3)
      clear hs3
      go_wp2
      go_end0
      exact ⟨_, rfl, HS3.out⟩
set_option maxRecDepth 100000 in
set_option maxHeartbeats 2000000 in
theorem crash_nil (b : Nat) (d : Dl) (a : An) (kp : Int) (_hkp : 0 ≤ kp ∧ kp ≤ 18446744073709551615) (w : World) (h : DevAt b d a w) (h0 : d.wr = []) :
    Calls Tryz.prog 24 #[.pointer (some ⟨b, 0, none⟩), .int .u64 kp] w fun e w' => ∃ a', e = .returned (.tuple #[]) ∧ DStep b d a (d.crash kp) a' w w' := by
  have hl0 : d.wr.length = 0 := by rw [h0]; rfl
  have H0 := hidT h0
  clear h0
  have HD := hidT h; have hl := h.lt; have c66 := h.c66; have f66 := h.fz 66; have HE : Hid ((strV d.good).length = 32) := (by show _ = _; rw [strV_length]; exact h.g32); have S2 := hidT (crash_start h).1; have HS1 := hidT (crash_start h).2; have c64 := (crash_start h).1.dev.c64; clear h; go_enter Tryz.func24, Tryz.ntmps24; go_wp2_with (first | (refine wpList_load_mid rfl 46 (.tmp 12) rfl b 32 rfl (strV d.good) _ HS1.out.rangeGood Tryz.underlying46 rfl (by rw [HE.out]; exact size32) ?_) | (refine wpList_store_mid rfl 46 (.tmp 15) (.tmp 13) rfl b 0 (strV d.good).toArray rfl rfl (by rw [List.size_toArray, HE.out]; exact HS1.out.there 0 32 (by omega)) (by rw [List.size_toArray, HE.out]; exact size32) (all_oneCell_toArray (strV_one _)) ?_; simp only))
  have eg : applyW kp d.wr d.good = d.good := by rw [H0.out]; rfl
  refine wp_worldD (fun wK => DStep b d a { d with busy := [], now := applyW kp d.wr d.good } { a with ba := none, bc := 0 } w wK) (by rw [eg]; exact S2.out) ?_
  clear S2 HS1 c64 c66 f66 eg
  intro w2 h2
  have H2 := hidT h2
  clear h2
  go_loopw [21] (fun i wr => i = .int .i64 0 ∧ DStep b d a { d with busy := [], now := applyW kp d.wr d.good } { a with ba := none, bc := 0 } w wr) (fun _ _ => 0)
  case atStart => exact ⟨rfl, H2.out⟩
  case round =>
    obtain ⟨rfl, hs⟩ := hrel
    have HS := hidT hs
    clear hs
    go_wp2_with fail
    refine (flush_any b _ _ _ HS.out.dev).mono ?_
    rintro e w3 ⟨rfl, hs3⟩
    have HS3 := hidT (HS.out.trans hs3)
    clear hs3
    go_wp2
    go_end0
    exact ⟨_, rfl, HS3.out⟩
theorem crash_any (b : Nat) (d : Dl) (a : An) (kp : Int) (hkp : 0 ≤ kp ∧ kp ≤ 18446744073709551615) (w : World) (h : DevAt b d a w) :
    Calls Tryz.prog 24 #[.pointer (some ⟨b, 0, none⟩), .int .u64 kp] w fun e w' => ∃ a', e = .returned (.tuple #[]) ∧ DStep b d a (d.crash kp) a' w w' := by
  rcases wns_of_own h.wrow with e | ⟨g, hg, _⟩
  · exact crash_nil b d a kp hkp w h e
  · obtain ⟨wa, wc, ba, bc⟩ := a
    simp only at hg
    subst hg
    exact crash_some b d g wc ba bc kp hkp w h
end Go.Proofs.YtgjkdhedkbkagaaGreat
/- A device: End. -/
namespace Go.Proofs.YtgjkdhedkbkagaaGreat
open Go.RowKit Go.BigFrame
set_option maxRecDepth 100000
attribute [local go_sem] Later.cell Later.frozen

abbrev noRes : Value := .agg #[.bool false, .int .i64 0, .int .i64 0, .slice none 0 0, .slice none 0 0, .int .i64 0, .slice none 0 0, .int .i64 0]
set_option maxHeartbeats 400000 in
theorem end_none (b : Nat) (d : Dl) (a : An) (i : Int) (fl : Bool) (w : World) (h : DevAt b d a w) (hi : i < 0 ∨ (d.busy.length : Int) ≤ i) :
    Calls Tryz.prog 82 #[.pointer (some ⟨b, 0, none⟩), .int .i64 i, .bool fl] w fun e w' => e = .returned (.tuple #[noRes, .iface 89 (.int .i64 5)]) ∧ Below w.heap.size w w' := by
  have c := h.c66
  have hl := h.lt
  clear h
  by_cases h0 : i < 0
  · go_enter Tryz.func82, Tryz.ntmps82
    go_wp2
    exact bodyPost_ret (v := .tuple #[noRes, .iface 89 (.int .i64 5)]) (by simp [results, Tryz.results82, go_sem]) rfl ⟨rfl, by repeat (first | with_reducible exact Below.refl _ _ | with_reducible refine balloc ?_ _ | with_reducible refine bdrew ?_ | with_reducible refine bset' ?_ (by omega) _ | with_reducible refine bthen ?_ (by assumption))⟩
  · have h1 : (d.busy.length : Int) ≤ i := by omega
    go_enter Tryz.func82, Tryz.ntmps82
    go_wp2
    exact bodyPost_ret (v := .tuple #[noRes, .iface 89 (.int .i64 5)]) (by simp [results, Tryz.results82, go_sem]) rfl ⟨rfl, by repeat (first | with_reducible exact Below.refl _ _ | with_reducible refine balloc ?_ _ | with_reducible refine bdrew ?_ | with_reducible refine bset' ?_ (by omega) _ | with_reducible refine bthen ?_ (by assumption))⟩
theorem Only.of_set {w : World} {q o : Nat} (v : Value) : Only (fun k => k = q) w (w.setCell ⟨q, o, none⟩ v) := (Only.refl (fun k => k = q) w).setCell ⟨q, o, none⟩ (Or.inl rfl) v
/-- Something of a call's own is written. -/
theorem DStep.setNew {b : Nat} {d d' : Dl} {a a' : An} {w w' : World} (h : DStep b d a d' a' w w') (hd : DevAt b d a w) (hs : ∀ r ∈ d'.busy, r ∈ d.busy) {q : Nat} (hq : w.heap.size ≤ q) (hn : ¬ a'.foot b q) (o : Nat) (v : Value) : DStep b d a d' a' w (w'.setCell ⟨q, o, none⟩ v) :=
  ⟨h.dev.frame (Only.of_set v) (fun k hk e => hn (e ▸ hk)) (fun r hr => by
    have hat := (hd.reqs r (hs r hr)).1
    exact ⟨fun he ad ha e => by have := strs_lt hat.data he ha; omega, fun he ad ha e => by have := ints_lt hat.tags he ha; omega⟩),
   h.only.setCell ⟨q, o, none⟩ (Or.inr hq) v, h.foot⟩
/-- A result without anything, in a block of its own, that may be written. -/
def ZeroAt (w : World) (q : Nat) : Prop := (w.cell? ⟨q, 0, none⟩ = some (.bool false) ∧ w.cell? ⟨q, 1, none⟩ = some (.int .i64 0) ∧ w.cell? ⟨q, 2, none⟩ = some (.int .i64 0) ∧ w.cell? ⟨q, 3, none⟩ = some (.slice none 0 0) ∧ w.cell? ⟨q, 4, none⟩ = some (.slice none 0 0) ∧ w.cell? ⟨q, 5, none⟩ = some (.int .i64 0) ∧ w.cell? ⟨q, 6, none⟩ = some (.slice none 0 0) ∧ w.cell? ⟨q, 7, none⟩ = some (.int .i64 0)) ∧ (∀ o, w.frozen? ⟨q, o, none⟩ = false) ∧ q < w.heap.size
theorem ZeroAt.only {F : Nat → Prop} {w w' : World} {q : Nat} (h : ZeroAt w q) (hO : Only F w w') (hn : ¬ F q) : ZeroAt w' q := by
  obtain ⟨⟨h0, h1, h2, h3, h4, h5, h6, h7⟩, hf, hl⟩ := h
  exact ⟨⟨(hO.cell (p := ⟨q, 0, none⟩) hl hn).trans h0, (hO.cell (p := ⟨q, 1, none⟩) hl hn).trans h1, (hO.cell (p := ⟨q, 2, none⟩) hl hn).trans h2, (hO.cell (p := ⟨q, 3, none⟩) hl hn).trans h3, (hO.cell (p := ⟨q, 4, none⟩) hl hn).trans h4, (hO.cell (p := ⟨q, 5, none⟩) hl hn).trans h5, (hO.cell (p := ⟨q, 6, none⟩) hl hn).trans h6, (hO.cell (p := ⟨q, 7, none⟩) hl hn).trans h7⟩, fun o => (hO.frozen (p := ⟨q, o, none⟩) hl hn).trans (hf o), Nat.lt_of_lt_of_le hl hO.size⟩
theorem zero_new (w : World) (T : TypeId) : ZeroAt (w.alloc (.cells #[.bool false, .int .i64 0, .int .i64 0, .slice none 0 0, .slice none 0 0, .int .i64 0, .slice none 0 0, .int .i64 0] T)) w.heap.size := by
  refine ⟨⟨?_, ?_, ?_, ?_, ?_, ?_, ?_, ?_⟩, fun o => ?_, ?_⟩ <;> simp
theorem DevAt.place {b : Nat} {d : Dl} {a : An} {w : World} (h : DevAt b d a w) {k : Nat} (hk : k < d.busy.length) : ∃ g, a.ba = some ⟨g, 0, none⟩ ∧ g < w.heap.size := by
  obtain ⟨x, cx, hv, h1, h2, _⟩ := slice_of_own h.brow
  simp only [Value.slice.injEq, true_and] at hv
  obtain ⟨rfl, rfl⟩ := hv
  cases ha : a.ba with
  | none =>
    have := h.reqsAt.form
    rw [ha] at this
    rcases this with e | ⟨_, _, e⟩
    · rw [e] at hk; exact absurd hk (Nat.not_lt_zero _)
    · cases e
  | some ad =>
    obtain ⟨g, rfl⟩ := h2 ad ha
    exact ⟨g, rfl, h.blt _ ha⟩
/-- The device behind slices.Delete and the store, and what else is at hand. -/
theorem ended {b : Nat} {d : Dl} {a : An} {w w2 w3 : World} {k g : Nat} {r : Rq} (h : DevAt b d a w) (hk : k < d.busy.length) (hg0 : a.ba = some ⟨g, 0, none⟩) (hb : Below w.heap.size w w2) (hz : ZeroAt w2 w.heap.size) (hx : BoxAt w2 (w.heap.size + 1) r)
    (hown : w3.ownsRow 0 44 6 (.slice (some ⟨g, 0, none⟩) (d.busy.eraseIdx k).length a.bc) (d.busy.eraseIdx k).length (rcells (d.busy.eraseIdx k))) (hg : w2.grownBy w3 (some g)) :
    (w3.cell? ⟨b, 66, none⟩ = some (.slice (some ⟨g, 0, none⟩) d.busy.length a.bc) ∧ w3.frozen? ⟨b, 66, none⟩ = false ∧ b < w3.heap.size) ∧ ∃ a', DStep b d a { d with busy := d.busy.eraseIdx k } a' w (w3.setCell ⟨b, 66, none⟩ (.slice (some ⟨g, 0, none⟩) (d.busy.eraseIdx k).length a.bc)) ∧ ZeroAt (w3.setCell ⟨b, 66, none⟩ (.slice (some ⟨g, 0, none⟩) (d.busy.eraseIdx k).length a.bc)) w.heap.size ∧ BoxAt (w3.setCell ⟨b, 66, none⟩ (.slice (some ⟨g, 0, none⟩) (d.busy.eraseIdx k).length a.bc)) (w.heap.size + 1) r ∧ ¬ a'.foot b w.heap.size ∧ ¬ a'.foot b (w.heap.size + 1) := by
  have hob : (Value.slice a.ba d.busy.length a.bc).ownBlock = some g := ownBlock_slice.2 ⟨_, hg0, rfl⟩
  have k66 := h.kept66 hb (by rw [hob]; exact hg)
  rw [hg0] at k66
  have hlt := h.lt
  have hgl := h.blt _ hg0
  have hel : (d.busy.eraseIdx k).length ≤ 2 := by rw [List.length_eraseIdx, if_pos hk]; have := h.blen; omega
  obtain ⟨x, c, e, hst⟩ := h.busied hb (d.busy.eraseIdx k) hel (fun q hq => h.reqs q (List.mem_of_mem_eraseIdx hq)) hown (by rw [hob]; exact hg) (fun g' hg' => Or.inl ⟨_, hg0, by simpa [Value.ownBlock] using hg'.symm⟩)
  simp only [Value.slice.injEq, true_and] at e
  obtain ⟨rfl, rfl⟩ := e
  have hO : Only (fun i => i = g ∨ i = b) w2 (w3.setCell ⟨b, 66, none⟩ (.slice (some ⟨g, 0, none⟩) (d.busy.eraseIdx k).length a.bc)) :=
    ((Only.refl (fun i => i = g ∨ i = b) w2).grown hg (fun i hi => Or.inl (Or.inl (by simpa using hi.symm)))).setCell ⟨b, 66, none⟩ (Or.inl (Or.inr rfl)) _
  have hft : ∀ q, w.heap.size ≤ q → ¬ ({ a with ba := some ⟨g, 0, none⟩, bc := a.bc } : An).foot b q := by
    rintro q hq (e | ⟨p, hp, e⟩ | ⟨p, hp, e⟩)
    · omega
    · have := h.wlt p hp; omega
    · simp only [Option.some.injEq] at hp; subst hp; simp only at e hgl; omega
  exact ⟨k66, _, hst, hz.only hO (by simp only at hgl; omega), hx.only hO (by simp only at hgl; omega), hft _ (Nat.le_refl _), hft _ (by omega)⟩

set_option maxRecDepth 100000 in
set_option maxHeartbeats 2000000 in
theorem end_fault (b : Nat) (d : Dl) (a : An) (k : Nat) (hk : k < d.busy.length) (w : World) (h : DevAt b d a w) :
    Calls Tryz.prog 82 #[.pointer (some ⟨b, 0, none⟩), .int .i64 k, .bool true] w fun e w' => ∃ a', e = .returned (.tuple #[resV d.busy[k] none 0 0 8, .nilIface]) ∧ DStep b d a { d with busy := d.busy.eraseIdx k } a' w w' := by
  have hl := h.lt; have HD := hidT h; have h0 : ¬ (k : Int) < 0 := (by omega); have h1 : ¬ (d.busy.length : Int) ≤ (k : Int) := (by omega); have h2 : (k : Int) < (d.busy.length : Int) := (by omega); have hk2 : (k : Int) ≤ 1 := (by have := h.blen; omega); have hR := h.reqsAt; have c := h.c66; obtain ⟨g, hg0, lg⟩ := h.place hk; rw [hg0] at hR c; obtain ⟨r0, r1, r2, r3, r4, r5⟩ := hR.cells hk; simp only [Nat.zero_add] at r0 r1 r2 r3 r4 r5; have HG0 := hidT hg0; clear h hR hg0
  generalize hr : d.busy[k] = r at *
  have HRR := hidT hr
  clear hr
  go_enter Tryz.func82, Tryz.ntmps82; go_wp2_with fail; have hbr := (HD.out.later (below2 w (.cells #[.bool false, .int .i64 0, .int .i64 0, .slice none 0 0, .slice none 0 0, .int .i64 0, .slice none 0 0, .int .i64 0] 110) (.cells #[.bool r.wr, .int .i64 r.f, .int .i64 r.m, .slice r.da r.data.length r.dc, .slice r.ta r.tags.length r.tc, .int .i64 r.born] 44))).brow; rw [HG0.out] at hbr; refine (delR d.busy g a.bc k _ hk hbr).mono ?_; rintro e w3 ⟨rfl, hown3, hg3⟩; have hz2 := (zero_new w 110).only (F := fun _ => False) ((Only.refl _ _).alloc (.cells #[.bool r.wr, .int .i64 r.f, .int .i64 r.m, .slice r.da r.data.length r.dc, .slice r.ta r.tags.length r.tc, .int .i64 r.born] 44)) (fun e => e); have hx2 := box_new (w.alloc (.cells #[.bool false, .int .i64 0, .int .i64 0, .slice none 0 0, .slice none 0 0, .int .i64 0, .slice none 0 0, .int .i64 0] 110)) 44 r; rw [World.size_alloc] at hx2; obtain ⟨⟨c3, f3, l3⟩, a', hst, hz4, hx4, nf6, nf8⟩ := ended HD.out hk HG0.out (below2 w _ _) hz2 hx2 hown3 hg3; clear hz2 hx2 hbr hown3 hg3 r0 r1 r2 r3 r4 r5 c
  obtain ⟨⟨z0, z1, z2, z3, z4, z5, z6, z7⟩, zf, zl⟩ := hz4
  obtain ⟨x0, x1, x2, x3, x4, x5⟩ := hx4
  have HST := hidT hst
  clear hst
  generalize hW : w3.setCell ⟨b, 66, none⟩ (.slice (some ⟨g, 0, none⟩) (d.busy.eraseIdx k).length a.bc) = w4 at *
  go_wp2
  refine bodyPost_ret (v := .tuple #[resV r none 0 0 8, .nilIface]) (by simp [results, Tryz.results82, go_sem, z0, z1, z2, z3, z4, z5, z6, z7]) rfl ⟨a', rfl, ?_⟩
  repeat (first | with_reducible exact HST.out | with_reducible refine DStep.setNew ?_ HD.out (fun q hq => List.mem_of_mem_eraseIdx hq) (Nat.le_refl _) nf6 _ _ | with_reducible refine DStep.drewAt ?_)
end Go.Proofs.YtgjkdhedkbkagaaGreat
