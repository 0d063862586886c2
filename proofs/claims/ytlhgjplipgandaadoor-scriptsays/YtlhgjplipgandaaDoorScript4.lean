/- A step of a script: data: strings.ContainsAny of a blank and a line's end, whatever bytes it has. -/
import Derived.Test.YtlhgjplipgandaaDoorScript3
import Derived.Deep.LoopGhost
import Derived.Lib.OthersKept
import Derived.Laws.RangeAny
namespace Go.Proofs.YtlhgjplipgandaaDoor
open Go.RowKit Go.BigFrame Go.Maps
attribute [local go_sem] Later.cell Later.frozen

/-- Ahead of a place there is no break. -/
def NoBr (s : ByteArray) (i : Nat) : Prop := ∀ j, j < i → ∀ h : j < s.size, breakB (s[j]'h) = false
theorem noBr_all {s : ByteArray} (h : NoBr s s.size) : breaks s = false := by
  unfold breaks
  rw [List.any_eq_false]
  intro x hx
  obtain ⟨j, hj, rfl⟩ := List.getElem_of_mem hx
  have := h j hj hj
  intro e
  have e2 : breakB (s[j]'hj) = true := e
  rw [this] at e2; cases e2
theorem br_hit {s : ByteArray} {i : Nat} (h : i < s.size) (hb : breakB (s[i]'h) = true) : breaks s = true := by
  unfold breaks
  rw [List.any_eq_true]
  exact ⟨s.data.toList[i]'h, List.getElem_mem h, hb⟩
theorem high_no {x : UInt8} (h : 128 ≤ x.toNat) : breakB x = false := by
  unfold breakB
  rw [Bool.or_eq_false_iff]
  constructor <;> (rw [beq_eq_false_iff_ne]; intro e; subst e; revert h; decide)
theorem break_idx (x : UInt8) : decide ((0 : Int) ≤ Lib.indexByte [32, 10] x) = breakB x := by
  have h := Lib.contains_iff_indexByte [32, 10] x
  rw [← h]
  simp only [breakB, List.contains_cons, List.contains_nil, Bool.or_false]
theorem below_iterAt {W w : World} {k : Nat} {s : ByteArray} {pos : Nat} (h : Below W.heap.size W w) (hk : W.heap.size ≤ k) : Below W.heap.size W (w.iterAt k s pos) := by
  refine ⟨h.os, h.tape, h.output, by simpa [World.iterAt] using h.size, fun i hi => ?_⟩
  have : (w.iterAt k s pos).heap[i]? = w.heap[i]? := by
    simp only [World.iterAt]
    rw [Array.getElem?_setIfInBounds_ne (by omega)]
  rw [this]; exact h.block i hi
theorem iterAt_at {w : World} {k : Nat} {s : ByteArray} {p pos : Nat} (h : w.heap[k]? = some (.stringIter s p)) : (w.iterAt k s pos).heap[k]? = some (.stringIter s pos) := by
  have hl := (Array.getElem?_eq_some_iff.1 h).1
  simp [World.iterAt, hl]
set_option maxRecDepth 100000 in
set_option maxHeartbeats 4000000 in
theorem indexAny_short (s : ByteArray) (h8 : s.size ≤ 8) (w : World) : Calls Tryd.prog 29 #[.string s, .string ⟨#[32, 10]⟩] w fun e w' => ∃ n : Int, e = .returned (.int .i64 n) ∧ decide (0 ≤ n) = breaks s ∧ Below w.heap.size w w' := by
  have h8z : decide ((8 : Int) < (s.size : Int)) = false := decide_eq_false (by omega)
  go_enter Tryd.func29, Tryd.ntmps29
  go_wp2_with (go_at_call 35; refine (Tryd.strings_shouldUseASCIISet _ _).mono ?_; rintro e w' ⟨rfl, hw⟩; rw [hw, h8z])
  go_loopg [9, 10] s.size (fun g _ _ wx => ∃ i : Nat, i ≤ s.size ∧ s.size ≤ i + g ∧ Below w.heap.size w wx ∧ wx.heap[w.heap.size]? = some (.stringIter s i) ∧ NoBr s i)
  case atStart => exact ⟨0, by omega, by omega, (Below.refl _ _).alloc (Nat.le_refl _) _, w.iter_heap s 0, fun j hj => absurd hj (Nat.not_lt_zero _)⟩
  case round =>
    obtain ⟨i, hi, hig, hb, hit, hno⟩ := hrel
    have HN : Hid (NoBr s i) := hno
    have HB := hidT hb
    have HI := hidT hit
    clear hno hb
    by_cases hlt : i < s.size
    · cases gk with
      | zero => omega
      | succ g =>
      by_cases hx : (s[i]'hlt).toNat < 128
      · have hnx := fun ty => Lib.run_next_ascii_at (P := Tryd.prog) wr w.heap.size s i ty hit hlt hx
        obtain ⟨x, hxe⟩ : ∃ x, s[i]'hlt = x := ⟨_, rfl⟩
        rw [hxe] at hnx hx
        have HX : Hid (s[i]'hlt = x) := hxe
        have hback : ((x.toNat : Int)).toNat.toUInt8 = x := by simp
        clear hxe hit
        cases hbk : breakB x
        · have hlt0 : ¬ ((0 : Int) ≤ Lib.indexByte [32, 10] x) := of_decide_eq_false ((break_idx x).trans hbk)
          go_wp2_with (go_at_call 34; refine (Tryd.strings_IndexRune_ascii _ _ _ (by omega) (by omega)).mono ?_; rintro e w' ⟨rfl, hw⟩; rw [hw, hback])
          go_roundg g
          case measure => omega
          case rel => exact ⟨i + 1, by omega, by omega, below_iterAt HB.out (Nat.le_refl _), iterAt_at HI.out, fun j hj h => by
            by_cases e : j = i
            · subst e; rw [HX.out]; exact hbk
            · exact HN.out j (by omega) h⟩
        · have hge : (0 : Int) ≤ Lib.indexByte [32, 10] x := of_decide_eq_true ((break_idx x).trans hbk)
          go_wp2_with (go_at_call 34; refine (Tryd.strings_IndexRune_ascii _ _ _ (by omega) (by omega)).mono ?_; rintro e w' ⟨rfl, hw⟩; rw [hw, hback])
          go_ret
          exact ⟨_, rfl, by rw [br_hit hlt (by rw [HX.out]; exact hbk)]; exact decide_eq_true (by omega), below_iterAt HB.out (Nat.le_refl _)⟩
      · have h128 : 128 ≤ (s[i]'hlt).toNat := by omega
        have hnx := fun ty => Lib.run_next_any_at (P := Tryd.prog) wr w.heap.size s i ty hit hlt
        have hd := decode_high s i hlt h128
        have hp := decode_past s i hlt h128
        have hm := decode_max s i
        obtain ⟨c, hc⟩ : ∃ c, (Utf8.decode s i).1 = c := ⟨_, rfl⟩
        obtain ⟨n, hn⟩ : ∃ n, (Utf8.decode s i).2 = n := ⟨_, rfl⟩
        rw [hc, hn] at hnx
        rw [hc, hn] at hd
        rw [hn] at hp
        rw [hc] at hm
        have HP := hidT hp.2
        have hp1 := hp.1
        clear hc hn hp hit h128 hx
        go_wp2_with fail
        refine (rune_no c _ (by omega) (by omega)).mono ?_
        rintro e w1 ⟨rfl, hb1⟩
        have HB1 := hidT (bthen (below_iterAt (s := s) (pos := i + n) HB.out (Nat.le_refl _)) hb1)
        have HI1 : Hid (w1.heap[w.heap.size]? = some (.stringIter s (i + n))) := (hb1.block _ (Array.getElem?_eq_some_iff.1 (iterAt_at (pos := i + n) HI.out)).1).trans (iterAt_at HI.out)
        clear hb1 hnx
        go_wp2
        go_roundg g
        case measure => omega
        case rel => exact ⟨i + n, by omega, by omega, HB1.out, HI1.out, fun j hj h => by
          by_cases e : j < i
          · exact HN.out j e h
          · obtain ⟨k, rfl⟩ : ∃ k, j = i + k := ⟨j - i, by omega⟩
            exact high_no (HP.out k (by omega) h)⟩
    · have hnx := fun ty => Lib.run_next_end_at (P := Tryd.prog) wr w.heap.size s i ty hit hlt
      go_wp2
      go_ret
      exact ⟨_, rfl, by rw [noBr_all (show NoBr s s.size from fun j hj h => HN.out j (by omega) h)]; rfl, HB.out⟩
end Go.Proofs.YtlhgjplipgandaaDoor
