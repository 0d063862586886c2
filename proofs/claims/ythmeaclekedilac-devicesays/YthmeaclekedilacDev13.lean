/- A device: Flush. -/
import Derived.Test.YthmeaclekedilacDev8
namespace Go.Proofs.Ythmeaclekedilac
open Go.RowKit Go.BigFrame
attribute [local go_sem] Later.cell Later.frozen

def Dl.flush (d : Dl) : Dl := { d with good := d.now, wr := [], next := 0 }
theorem strV_one (l : List ByteArray) : ∀ v ∈ strV l, v.oneCell' = true := by
  intro v hv
  simp only [strV, List.mem_map] at hv
  obtain ⟨s, _, rfl⟩ := hv
  rfl
theorem cells_good (d : Dl) (a : An) (l : List ByteArray) (h1 : d.now.length = 32) (h2 : d.good.length = 32) (h3 : l.length = 32) : splice (d.cells a) 32 (strV l) = ({ d with good := l } : Dl).cells a := by
  have e1 : (strV d.now).length = 32 := by rw [strV_length, h1]
  have e2 : (strV d.good).length = 32 := by rw [strV_length, h2]
  have e3 : (strV l).length = 32 := by rw [strV_length, h3]
  rw [splice, Dl.cells, Dl.cells, e3, List.append_assoc, List.take_append_of_le_length (by omega), List.take_of_length_le (by omega), List.drop_append, List.drop_eq_nil_of_le (by omega), List.nil_append, e1, show 32 + 32 - 32 = 32 by omega, List.drop_append, List.drop_eq_nil_of_le (by omega), List.nil_append, e2, Nat.sub_self, List.drop_zero, List.append_assoc]
theorem cells_now (d : Dl) (a : An) (l : List ByteArray) (h1 : d.now.length = 32) (h3 : l.length = 32) : splice (d.cells a) 0 (strV l) = ({ d with now := l } : Dl).cells a := by
  have e1 : (strV d.now).length = 32 := by rw [strV_length, h1]
  have e3 : (strV l).length = 32 := by rw [strV_length, h3]
  rw [splice, Dl.cells, Dl.cells, e3, List.take_zero, List.nil_append, List.append_assoc, List.drop_append, List.drop_eq_nil_of_le (by omega), List.nil_append, e1, show 0 + 32 - 32 = 0 by omega, List.drop_zero, List.append_assoc]
/-- The device's block is another, its rows are not (or are nil). -/
theorem DevAt.reblock {b : Nat} {d d' : Dl} {a a' : An} {w w' : World} (h : DevAt b d a w) (hO : Only (fun k => k = b) w w') (hblk : w'.heap[b]? = some (.cells (d'.cells a').toArray 101 (0, 0)))
    (hw : (d'.wr = d.wr ∧ a'.wa = a.wa ∧ a'.wc = a.wc) ∨ (d'.wr = [] ∧ a'.wa = none ∧ a'.wc = 0)) (hb : (d'.busy = d.busy ∧ a'.ba = a.ba ∧ a'.bc = a.bc) ∨ (d'.busy = [] ∧ a'.ba = none ∧ a'.bc = 0)) (n32 : d'.now.length = 32) (g32 : d'.good.length = 32) (nxt : d'.next < 64) : DStep b d a d' a' w w' := by
  have hft : ∀ k, a'.foot b k → a.foot b k := by
    rintro k (e | ⟨p, hp, e⟩ | ⟨p, hp, e⟩)
    · exact Or.inl e
    · rcases hw with ⟨_, h2, _⟩ | ⟨_, h2, _⟩
      · rw [h2] at hp; exact Or.inr (Or.inl ⟨p, hp, e⟩)
      · rw [h2] at hp; cases hp
    · rcases hb with ⟨_, h2, _⟩ | ⟨_, h2, _⟩
      · rw [h2] at hp; exact Or.inr (Or.inr ⟨p, hp, e⟩)
      · rw [h2] at hp; cases hp
  refine ⟨?_, hO.mono (fun k hk => Or.inl hk), fun k hk => Or.inl (hft k hk)⟩
  exact {
    n32 := n32
    g32 := g32
    blk := hblk
    wrow := by
      rcases hw with ⟨h1, h2, h3⟩ | ⟨h1, h2, h3⟩
      · rw [h1, h2, h3]
        exact own_frame h.wrow fun g hg => by
          obtain ⟨p, hp, rfl⟩ := ownBlock_slice.1 hg
          exact hO.block _ (h.wlt p hp) (h.sepw p hp)
      · rw [h1, h2, h3]; exact World.ownsRow_nil _ _ _ _
    brow := by
      rcases hb with ⟨h1, h2, h3⟩ | ⟨h1, h2, h3⟩
      · rw [h1, h2, h3]
        exact own_frame h.brow fun g hg => by
          obtain ⟨p, hp, rfl⟩ := ownBlock_slice.1 hg
          exact hO.block _ (h.blt p hp) (h.sepb p hp)
      · rw [h1, h2, h3]; exact World.ownsRow_nil _ _ _ _
    sepw := fun p hp => by
      rcases hw with ⟨_, h2, _⟩ | ⟨_, h2, _⟩
      · rw [h2] at hp; exact h.sepw p hp
      · rw [h2] at hp; cases hp
    sepb := fun p hp => by
      rcases hb with ⟨_, h2, _⟩ | ⟨_, h2, _⟩
      · rw [h2] at hp; exact h.sepb p hp
      · rw [h2] at hp; cases hp
    sepwb := fun p q hp hq => by
      rcases hw with ⟨_, h2, _⟩ | ⟨_, h2, _⟩
      · rcases hb with ⟨_, k2, _⟩ | ⟨_, k2, _⟩
        · rw [h2] at hp; rw [k2] at hq; exact h.sepwb p q hp hq
        · rw [k2] at hq; cases hq
      · rw [h2] at hp; cases hp
    reqs := fun r hr => by
      rcases hb with ⟨h1, _, _⟩ | ⟨h1, _, _⟩
      · rw [h1] at hr
        have := h.reqs r hr
        exact ⟨this.1.frame (F := fun k => k = b) (this.2.mono fun k hk => Or.inl hk) hO, this.2.mono hft⟩
      · rw [h1] at hr; cases hr
    wfin := by
      rcases hw with ⟨h1, _, _⟩ | ⟨h1, _, _⟩
      · rw [h1]; exact h.wfin
      · rw [h1]; simp
    nod := by
      rcases hw with ⟨h1, _, _⟩ | ⟨h1, _, _⟩
      · rw [h1]; exact h.nod
      · rw [h1]; simp
    blen := by
      rcases hb with ⟨h1, _, _⟩ | ⟨h1, _, _⟩
      · rw [h1]; exact h.blen
      · rw [h1]; simp
    nxt := nxt }
theorem DevAt.rangeNow {b : Nat} {d : Dl} {a : An} {w : World} (h : DevAt b d a w) : w.rangeAt b 0 (strV d.now) := fun j v hv => by
  have hj : j < 32 := by
    have := (List.getElem?_eq_some_iff.1 hv).1
    rw [strV_length, h.n32] at this; exact this
  rw [Nat.zero_add, cell_of_heap h.blk, Dl.cells, List.append_assoc, List.getElem?_append_left (by rw [strV_length, h.n32]; exact hj)]
  exact hv
theorem DevAt.rangeGood {b : Nat} {d : Dl} {a : An} {w : World} (h : DevAt b d a w) : w.rangeAt b 32 (strV d.good) := fun j v hv => by
  have hj : j < 32 := by
    have := (List.getElem?_eq_some_iff.1 hv).1
    rw [strV_length, h.g32] at this; exact this
  rw [cell_of_heap h.blk, Dl.cells, List.append_assoc, List.getElem?_append_right (by rw [strV_length, h.n32]; omega), strV_length, h.n32, show 32 + j - 32 = j by omega, List.getElem?_append_left (by rw [strV_length, h.g32]; exact hj)]
  exact hv
theorem DevAt.there {b : Nat} {d : Dl} {a : An} {w : World} (h : DevAt b d a w) (o n : Nat) (ho : o + n ≤ 67) : w.there b o n := fun j hj => by
  refine ⟨?_, h.fz _⟩
  rw [cell_of_heap h.blk, List.getElem?_eq_getElem (by rw [Dl.cells_length h.n32 h.g32]; omega)]
  rfl
theorem size32 : (Try.prog.info? 28).map (·.size) = some 32 := by kernel_rfl
theorem setCells_onlyB (b : Nat) (vs : List Value) (o : Nat) (w : World) : Only (fun k => k = b) w (w.setCells b o vs) := setCells_only (F := fun k => k = b) b (Or.inl rfl) vs o w (Only.refl _ _)
set_option maxHeartbeats 1000000 in
theorem flush_any (b : Nat) (d : Dl) (a : An) (w : World) (h : DevAt b d a w) :
    Calls Try.prog 19 #[.pointer (some ⟨b, 0, none⟩)] w fun e w' => e = .returned (.tuple #[]) ∧ DStep b d a d.flush { a with wa := none, wc := 0 } w w' := by
  have HD := hidT h
  have hl := h.lt
  have e32 : (strV d.now).length = 32 := by rw [strV_length]; exact h.n32
  have HE := hidT e32
  have blk1 := setCells_heap b 101 (strV d.now) 32 (d.cells a) w h.blk (by rw [e32, Dl.cells_length h.n32 h.g32]; omega)
  rw [cells_good d a d.now h.n32 h.g32 h.n32] at blk1
  have c64 := (cell_of_heap blk1 64).trans (Dl.cell64 h.n32 h.n32)
  have c65 := (cell_of_heap blk1 65).trans (Dl.cell65 h.n32 h.n32)
  have f64 := frozen_of_heap blk1 64
  have f65 := frozen_of_heap blk1 65
  have HB1 := hidT blk1
  clear h e32 blk1
  go_enter Try.func19, Try.ntmps19
  go_wp2_with (first | (refine wpList_load_mid rfl 28 (.tmp 5) rfl b 0 rfl (strV d.now) _ HD.out.rangeNow Try.underlying28 rfl (by rw [HE.out]; exact size32) ?_) | (refine wpList_store_mid rfl 28 (.tmp 8) (.tmp 6) rfl b 32 (strV d.now).toArray rfl rfl (by rw [List.size_toArray, HE.out]; exact HD.out.there 32 32 (by omega)) (by rw [List.size_toArray, HE.out]; exact size32) (all_oneCell_toArray (strV_one _)) ?_; simp only))
  go_end0
  refine ⟨rfl, HD.out.reblock (((setCells_onlyB b (strV d.now) 32 w).setCell ⟨b, 64, none⟩ (Or.inl rfl) _).setCell ⟨b, 65, none⟩ (Or.inl rfl) _) ?_ (Or.inr ⟨rfl, rfl, rfl⟩) (Or.inl ⟨rfl, rfl, rfl⟩) HD.out.n32 HD.out.n32 (by simp [Dl.flush])⟩
  rw [set_same (set_same HB1.out 64 _) 65 _]
  have e1 := cells_set64 ({ d with good := d.now } : Dl) a [] none 0 HD.out.n32 HD.out.n32
  have e2 := cells_set65 ({ d with good := d.now, wr := [] } : Dl) { a with wa := none, wc := 0 } 0 HD.out.n32 HD.out.n32
  simp only [List.length_nil] at e1
  rw [e1]
  exact congrArg (fun l : List Value => some (Obj.cells l.toArray 101 (0, 0))) e2
end Go.Proofs.Ythmeaclekedilac
