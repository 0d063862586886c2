/- A text that is read as a step's: its numbers. -/
import Derived.Test.YtlhgjplipgandaaDoorScript8
namespace Go.Proofs.YtlhgjplipgandaaDoor
open Go.RowKit Go.BigFrame Go.Maps
attribute [local go_sem] Later.cell Later.frozen

theorem text_any (x : St) (w : World) (hx : StIn x) (hl : LibW w) : Calls Tryd.prog 6 #[x.val] w fun e w' => e = .returned (.tuple #[.string (textA x), errOf (stepFault x)]) ∧ Below w.heap.size w w' := by
  by_cases h0 : stepFault x = 0
  · unfold textA
    rw [if_pos h0, h0]
    obtain ⟨wd, xa, xb, dt⟩ := x
    obtain ⟨W, rfl⟩ := bytes_list wd
    obtain ⟨L, rfl⟩ := bytes_list dt
    exact text_yes W L xa xb w hx hl h0
  · unfold textA
    rw [if_neg h0]
    exact text_no x w hx h0
theorem cut_len1 (l : List UInt8) : (Lib.cut l [32]).1.length ≤ l.length := by
  unfold Lib.cut
  split
  · simp; omega
  · exact Nat.le_refl _
theorem cut_len2 (l : List UInt8) : (Lib.cut l [32]).2.1.length ≤ l.length := by
  unfold Lib.cut
  split
  · simp
  · exact Nat.zero_le _
/-- What is behind so many numbers. -/
def rest2 (l : List UInt8) : Nat → List UInt8
  | 0 => l
  | j + 1 => (Lib.cut (rest2 l j) [32]).2.1
def numA (l : List UInt8) (j : Nat) : Int := atoiV (Lib.cut (rest2 l j) [32]).1
theorem rest2_len (l : List UInt8) : ∀ j, (rest2 l j).length ≤ l.length
  | 0 => Nat.le_refl _
  | j + 1 => Nat.le_trans (cut_len2 _) (rest2_len l j)
/-- A step that is read, so many numbers of it. -/
structure RN (s b : Nat) (wd dt : ByteArray) (A B : Int) (l : List UInt8) (j : Nat) (W w : World) : Prop where
  box : BoxSt s ⟨wd, if 1 ≤ j then numA l 0 else A, if 2 ≤ j then numA l 1 else B, dt⟩ w
  b0 : w.cell? ⟨b, 0, none⟩ = some (.pointer (some ⟨s, 1, none⟩))
  b1 : w.cell? ⟨b, 1, none⟩ = some (.pointer (some ⟨s, 2, none⟩))
  f1 : w.frozen? ⟨s, 1, none⟩ = false
  f2 : w.frozen? ⟨s, 2, none⟩ = false
  f3 : w.frozen? ⟨s, 3, none⟩ = false
  bel : Below W.heap.size W w
variable {s b : Nat} {wd dt : ByteArray} {A B : Int} {l : List UInt8} {j : Nat} {W w w' : World}
theorem RN.later (h : RN s b wd dt A B l j W w) (hb : Below w.heap.size w w') : RN s b wd dt A B l j W w' :=
  ⟨h.box.later hb, cellB_later' hb h.b0, cellB_later' hb h.b1, (hb.frozen (p := ⟨s, 1, none⟩) h.box.2.2.2.2).trans h.f1, (hb.frozen (p := ⟨s, 2, none⟩) h.box.2.2.2.2).trans h.f2, (hb.frozen (p := ⟨s, 3, none⟩) h.box.2.2.2.2).trans h.f3, bthen h.bel hb⟩
theorem RN.set1 (h : RN s b wd dt A B l 0 W w) (hs : W.heap.size ≤ s) (hsb : ¬ s = b) : RN s b wd dt A B l 1 W (w.setCell ⟨s, 1, none⟩ (.int .i64 (numA l 0))) := by
  obtain ⟨⟨c0, c1, c2, c3, c4⟩, b0, b1, f1, f2, f3, bl⟩ := h
  refine ⟨⟨?_, ?_, ?_, ?_, by simpa using c4⟩, ?_, ?_, by simpa using f1, by simpa using f2, by simpa using f3, bset' bl hs _⟩
  · rw [World.cell?_setCell_other _ _ _ _ (by simp)]; exact c0
  · exact World.cell?_setCell_same _ _ _ c1
  · rw [World.cell?_setCell_other _ _ _ _ (by simp)]; exact c2
  · rw [World.cell?_setCell_other _ _ _ _ (by simp)]; exact c3
  · rw [World.cell?_setCell_other _ _ _ _ (by simp)]; exact b0
  · rw [World.cell?_setCell_other _ _ _ _ (fun e => hsb (by injection e))]; exact b1
theorem RN.set2 (h : RN s b wd dt A B l 1 W w) (hs : W.heap.size ≤ s) : RN s b wd dt A B l 2 W (w.setCell ⟨s, 2, none⟩ (.int .i64 (numA l 1))) := by
  obtain ⟨⟨c0, c1, c2, c3, c4⟩, b0, b1, f1, f2, f3, bl⟩ := h
  refine ⟨⟨?_, ?_, ?_, ?_, by simpa using c4⟩, ?_, ?_, by simpa using f1, by simpa using f2, by simpa using f3, bset' bl hs _⟩
  · rw [World.cell?_setCell_other _ _ _ _ (by simp)]; exact c0
  · rw [World.cell?_setCell_other _ _ _ _ (by simp)]; exact c1
  · exact World.cell?_setCell_same _ _ _ c2
  · rw [World.cell?_setCell_other _ _ _ _ (by simp)]; exact c3
  · rw [World.cell?_setCell_other _ _ _ _ (by simp)]; exact b0
  · rw [World.cell?_setCell_other _ _ _ _ (by simp)]; exact b1
theorem RN.next (hj : j < 2) (hs : W.heap.size ≤ s) (hsb : ¬ s = b) (h : RN s b wd dt A B l j W w) : ∃ o, w.cell? ⟨b, j, none⟩ = some (.pointer (some ⟨s, o, none⟩)) ∧ ∀ w2, RN s b wd dt A B l j W w2 → (∃ v, w2.cell? ⟨s, o, none⟩ = some (.int .i64 v)) ∧ w2.frozen? ⟨s, o, none⟩ = false ∧ RN s b wd dt A B l (j + 1) W (w2.setCell ⟨s, o, none⟩ (.int .i64 (numA l j))) := by
  have hj2 : j = 0 ∨ j = 1 := by omega
  rcases hj2 with rfl | rfl
  · exact ⟨1, h.b0, fun w2 h2 => ⟨⟨_, h2.box.2.1⟩, h2.f1, h2.set1 hs hsb⟩⟩
  · exact ⟨2, h.b1, fun w2 h2 => ⟨⟨_, h2.box.2.2.1⟩, h2.f2, h2.set2 hs⟩⟩
set_option maxRecDepth 100000 in
set_option maxHeartbeats 2000000 in
theorem readNumbers_any (s b : Nat) (wd dt : ByteArray) (A B : Int) (l : List UInt8) (k : Nat) (hk : k ≤ 2) (W w : World) (hl : LibW W) (hlen : l.length ≤ 1000) (hs : W.heap.size ≤ s) (hsb : ¬ s = b) (h : RN s b wd dt A B l 0 W w) :
    Calls Tryd.prog 26 #[.string ⟨l.toArray⟩, .slice (some ⟨b, 0, none⟩) k 2] w fun e w' => e = .returned (.string ⟨(rest2 l k).toArray⟩) ∧ RN s b wd dt A B l k W w' := by
  have H := hidT h
  have HL := hidT hl
  have HLEN := hidT hlen
  have HS := hidT hs
  have HSB := hidT hsb
  clear h hl hlen hs hsb
  go_enter Tryd.func26, Tryd.ntmps26
  go_wp2
  go_loopw [0, 10] (fun t i wr => ∃ (j : Nat) (T : List UInt8), j ≤ k ∧ i = .int .i64 j ∧ t = .string ⟨T.toArray⟩ ∧ T = rest2 l j ∧ RN s b wd dt A B l j W wr) (fun _ i _ => k - (intOf i).toNat)
  case atStart => exact ⟨0, l, by omega, rfl, rfl, rfl, H.out⟩
  case round =>
    obtain ⟨j, T, hj, rfl, rfl, hT, hr⟩ := hrel
    by_cases hlt : j < k
    · have hlt' : (j : Int) < (k : Int) := by omega
      obtain ⟨o, hcell, hnx⟩ := hr.next (by omega) HS.out HSB.out
      have HR := hidT hr
      have HNX := hidT hnx
      have hTl : T.length ≤ 1000 := by rw [hT]; exact Nat.le_trans (rest2_len l j) HLEN.out
      have hcl := Nat.le_trans (cut_len1 T) hTl
      have HN : Hid (atoiV (Lib.cut T [32]).1 = numA l j) := by show _ = _; rw [hT]; rfl
      have HT : Hid ((Lib.cut T [32]).2.1 = rest2 l (j + 1)) := by show _ = _; rw [hT]; rfl
      have HCUT := fun W2 hW2 => cut_any T hTl W2 hW2
      generalize Lib.cut T [32] = c at *
      obtain ⟨D, R, fd⟩ := c
      simp only at hcl HN HT HCUT
      have HATOI := fun W2 hW2 => atoi_any ⟨D.toArray⟩ (by rw [size_list]; exact hcl) W2 hW2
      simp only [show atoiV (ByteArray.mk D.toArray).data.toList = numA l j from HN.out] at HATOI
      clear hT hr hnx hTl hcl HN
      go_wp2_with fail
      refine (HCUT _ (HL.out.later HR.out.bel)).mono ?_
      rintro e w1 ⟨rfl, hb1⟩
      have HR1 := hidT (HR.out.later hb1)
      clear hb1 HR HCUT hcell
      go_wp2_with fail
      refine (HATOI _ (HL.out.later HR1.out.bel)).mono ?_
      rintro e w2 ⟨ev, rfl, hb2⟩
      obtain ⟨⟨v, hv⟩, hf, hR2⟩ := HNX.out w2 (HR1.out.later hb2)
      have HR2 := hidT hR2
      clear hb2 HR1 HATOI hR2 HNX
      go_wp2
      go_roundw
      case rel => exact ⟨j + 1, _, by omega, by go_num, rfl, HT.out, HR2.out⟩
      case measure => simp [intOf]; omega
    · have hjk : j = k := by omega
      have HR := hidT hr
      have HT := hidT hT
      clear hT hr
      go_wp2
      go_ret
      exact ⟨by rw [← hjk, ← HT.out]; rfl, hjk ▸ HR.out⟩
end Go.Proofs.YtlhgjplipgandaaDoor
