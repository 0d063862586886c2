/- The document's device: Flush, Crash. -/
import Derived.Test.YthmeaclekedilacRDev4
namespace Go.Proofs.Ythmeaclekedilac
open Go.RowKit Go.BigFrame
attribute [local go_sem] Later.cell Later.frozen

theorem rcells_kept (d : Rd) (a : Ra) (l : List ByteArray) (h1 : d.kept.length = 32) (h3 : l.length = 32) : splice (d.cells a) 0 (strV l) = ({ d with kept := l } : Rd).cells a := by
  have e1 : (strV d.kept).length = 32 := by rw [strV_length, h1]
  have e3 : (strV l).length = 32 := by rw [strV_length, h3]
  rw [splice, Rd.cells, Rd.cells, e3, List.take_zero, List.nil_append, List.append_assoc, List.drop_append, List.drop_eq_nil_of_le (by omega), List.nil_append, e1, show 0 + 32 - 32 = 0 by omega, List.drop_zero, List.append_assoc]
theorem rcells_now (d : Rd) (a : Ra) (l : List ByteArray) (h1 : d.kept.length = 32) (h2 : d.now.length = 32) (h3 : l.length = 32) : splice (d.cells a) 32 (strV l) = ({ d with now := l } : Rd).cells a := by
  have e1 : (strV d.kept).length = 32 := by rw [strV_length, h1]
  have e2 : (strV d.now).length = 32 := by rw [strV_length, h2]
  have e3 : (strV l).length = 32 := by rw [strV_length, h3]
  rw [splice, Rd.cells, Rd.cells, e3, List.append_assoc, List.take_append_of_le_length (by omega), List.take_of_length_le (by omega), List.drop_append, List.drop_eq_nil_of_le (by omega), List.nil_append, e1, show 32 + 32 - 32 = 32 by omega, List.drop_append, List.drop_eq_nil_of_le (by omega), List.nil_append, e2, Nat.sub_self, List.drop_zero, List.append_assoc]
theorem RdAt.rangeKept {b : Nat} {d : Rd} {a : Ra} {w : World} (h : RdAt b d a w) : w.rangeAt b 0 (strV d.kept) := fun j v hv => by
  have hj : j < 32 := by
    have := (List.getElem?_eq_some_iff.1 hv).1
    rw [strV_length, h.k32] at this; exact this
  rw [Nat.zero_add, cell_of_heap h.blk, Rd.cells, List.append_assoc, List.getElem?_append_left (by rw [strV_length, h.k32]; exact hj)]
  exact hv
theorem RdAt.rangeNow {b : Nat} {d : Rd} {a : Ra} {w : World} (h : RdAt b d a w) : w.rangeAt b 32 (strV d.now) := fun j v hv => by
  have hj : j < 32 := by
    have := (List.getElem?_eq_some_iff.1 hv).1
    rw [strV_length, h.n32] at this; exact this
  rw [cell_of_heap h.blk, Rd.cells, List.append_assoc, List.getElem?_append_right (by rw [strV_length, h.k32]; omega), strV_length, h.k32, show 32 + j - 32 = j by omega, List.getElem?_append_left (by rw [strV_length, h.n32]; exact hj)]
  exact hv
theorem RdAt.there {b : Nat} {d : Rd} {a : Ra} {w : World} (h : RdAt b d a w) (o n : Nat) (ho : o + n ≤ 66) : w.there b o n := fun j hj => by
  refine ⟨?_, h.fz _⟩
  rw [cell_of_heap h.blk, List.getElem?_eq_getElem (by rw [Rd.cells_length h.k32 h.n32]; omega)]
  rfl
/-- Kept is another. -/
theorem RdAt.setKept {b : Nat} {d : Rd} {a : Ra} {w : World} (h : RdAt b d a w) (l : List ByteArray) (hl : l.length = 32) : RStep b d a { d with kept := l } a w (w.setCells b 0 (strV l)) := by
  have e : (strV l).length = 32 := by rw [strV_length, hl]
  have blk := setCells_heap b 32 (strV l) 0 _ _ h.blk (by rw [e, Rd.cells_length h.k32 h.n32]; omega)
  rw [rcells_kept d a l h.k32 hl] at blk
  exact h.reblock (setCells_onlyB b _ 0 _) blk rfl rfl hl h.n32
theorem RdAt.setNows {b : Nat} {d : Rd} {a : Ra} {w : World} (h : RdAt b d a w) (l : List ByteArray) (hl : l.length = 32) : RStep b d a { d with now := l } a w (w.setCells b 32 (strV l)) := by
  have e : (strV l).length = 32 := by rw [strV_length, hl]
  have blk := setCells_heap b 32 (strV l) 32 _ _ h.blk (by rw [e, Rd.cells_length h.k32 h.n32]; omega)
  rw [rcells_now d a l h.k32 h.n32 hl] at blk
  exact h.reblock (setCells_onlyB b _ 32 _) blk rfl rfl h.k32 hl
theorem RdAt.setKept1 {b : Nat} {d : Rd} {a : Ra} {w : World} (h : RdAt b d a w) {p : Nat} (hp : p < 32) (s : ByteArray) : RStep b d a { d with kept := d.kept.set p s } a w (w.setCell ⟨b, p, none⟩ (.string s)) :=
  h.reblock ((Only.refl (fun k => k = b) w).setCell ⟨b, p, none⟩ (Or.inl rfl) _) (by rw [set_same h.blk, rcells_setKept d a p s h.k32 hp]) rfl rfl (by simpa using h.k32) h.n32
theorem RdAt.setNow1 {b : Nat} {d : Rd} {a : Ra} {w : World} (h : RdAt b d a w) {p : Nat} (hp : p < 32) (s : ByteArray) : RStep b d a { d with now := d.now.set p s } a w (w.setCell ⟨b, 32 + p, none⟩ (.string s)) :=
  h.reblock ((Only.refl (fun k => k = b) w).setCell ⟨b, 32 + p, none⟩ (Or.inl rfl) _) (by rw [set_same h.blk, rcells_setNow d a p s h.k32 h.n32 hp]) rfl rfl h.k32 (by simpa using h.n32)
theorem RdAt.noWaits {b : Nat} {d : Rd} {a : Ra} {w : World} (h : RdAt b d a w) : RStep b d a { d with waits := [] } { a with wa := none, wc := 0 } w (w.setCell ⟨b, 64, none⟩ (.slice none 0 0)) := by
  obtain ⟨x, c, hv, hs⟩ := h.rewaits (Below.refl _ _) [] (by simp) (World.ownsRow_nil w 0 108 2) (Only.refl _ _) (fun g hg => by cases hg)
  simp only [Value.slice.injEq] at hv
  obtain ⟨rfl, _, rfl⟩ := hv
  exact hs
theorem RdAt.noBusy {b : Nat} {d : Rd} {a : Ra} {w : World} (h : RdAt b d a w) : RStep b d a { d with busy := [] } { a with la := none, lc := 0 } w (w.setCell ⟨b, 65, none⟩ (.slice none 0 0)) :=
  h.busied (Below.refl _ _) [] (by simp) none 0 ⟨Or.inl rfl, by simp, by simp⟩ (fun _ => rfl) (by simp) (fun h => absurd rfl h) (by simp)
set_option maxHeartbeats 1000000 in
theorem rflush_any (b : Nat) (d : Rd) (a : Ra) (w : World) (h : RdAt b d a w) :
    Calls Try.prog 20 #[.pointer (some ⟨b, 0, none⟩)] w fun e w' => e = .returned (.tuple #[]) ∧ RStep b d a d.flush { a with wa := none, wc := 0 } w w' := by
  have HD := hidT h
  have hl := h.lt
  have HE : Hid ((strV d.now).length = 32) := by show _ = _; rw [strV_length]; exact h.n32
  have S1 := h.setKept d.now h.n32
  have S2 := S1.trans S1.dev.noWaits
  have c64 := S1.dev.c64
  have f64 := S1.dev.fz 64
  have HS2 := hidT S2
  clear h S1 S2
  go_enter Try.func20, Try.ntmps20
  go_wp2_with (first | (refine wpList_load_mid rfl 28 (.tmp 5) rfl b 32 rfl (strV d.now) _ HD.out.rangeNow Try.underlying28 rfl (by rw [HE.out]; exact size32) ?_) | (refine wpList_store_mid rfl 28 (.tmp 8) (.tmp 6) rfl b 0 (strV d.now).toArray rfl rfl (by rw [List.size_toArray, HE.out]; exact HD.out.there 0 32 (by omega)) (by rw [List.size_toArray, HE.out]; exact size32) (all_oneCell_toArray (strV_one _)) ?_; simp only))
  go_end0
  exact ⟨rfl, HS2.out⟩
end Go.Proofs.Ythmeaclekedilac
