/- A step of a script: its text: the library's numbers and cuts; the numbers of a text. -/
import Derived.Test.YtlhgjplipgandaaDoorScript6
import Derived.Lib.AppendIntMem
import Derived.Lib.AtoiErrMem
import Derived.WalkSmall
namespace Go.Proofs.YtlhgjplipgandaaDoor
open Go.RowKit Go.BigFrame Go.Maps
attribute [local go_sem] Later.cell Later.frozen

theorem itoa_len : ∀ n : Fin 1000, (Lib.itoa (n.val : Int)).length ≤ 3 := by decide +kernel
theorem itoa_len3 (n : Int) (h0 : 0 ≤ n) (h1 : n ≤ 999) : (Lib.itoa n).length ≤ 3 := by
  have := itoa_len ⟨n.toNat, by omega⟩
  rwa [show ((⟨n.toNat, by omega⟩ : Fin 1000).val : Int) = n by simp; omega] at this
theorem strS (a b : List UInt8) (h : a.length + b.length ≤ 9223372036854775807) (W : World) : Sem.run Tryd.prog (Op.stringOp .add ⟨a.toArray⟩ ⟨b.toArray⟩) W = .ok (.string ⟨(a ++ b).toArray⟩) W := by
  rw [run_string_add_sum]
  · congr 2
  · simpa [ByteArray.size] using h
/-- What the library's variables hold. -/
structure LibW (w : World) : Prop where
  tab : Lib.TabIs Tryd.prog w "internal/strconv.uint64pow10" .u64 Lib.pow10Tab
  ml : ∃ m, w.cell? ⟨0, 0, none⟩ = some (.int .i64 m)
  sx : ∃ tp p, w.cell? ⟨2, 0, none⟩ = some (.iface tp p)
  rg : ∃ tp p, w.cell? ⟨3, 0, none⟩ = some (.iface tp p)
theorem LibW.later {w w' : World} (h : LibW w) (hb : Below w.heap.size w w') : LibW w' :=
  ⟨Lib.tabBelow_of_tabIs h.tab w' hb, h.ml.imp fun _ e => cellB_later' hb e, h.sx.imp fun _ e => e.imp fun _ e => cellB_later' hb e, h.rg.imp fun _ e => e.imp fun _ e => cellB_later' hb e⟩
theorem itoa_any (n : Int) (w : World) (h : LibW w) (h0 : -9223372036854775808 ≤ n) (h1 : n ≤ 9223372036854775807) : Calls Tryd.prog 24 #[.int .i64 n] w fun e w' => e = .returned (.string ⟨(Lib.itoa n).toArray⟩) ∧ Below w.heap.size w w' :=
  (Tryd.strconv_Itoa n h0 h1 w h.tab).mono (fun e w' h' => ⟨h'.1, by obtain ⟨k, os, e'⟩ := h'.2; rw [e']; exact Lib.below_grow _ w (Nat.le_refl _) k os⟩)
/-- The number that is read of digits, whatever is wrong. -/
def atoiV (l : List UInt8) : Int := match Lib.atoiAll l with
  | .ok v => v
  | .«syntax» => 0
  | .range => Lib.atoiSat l
theorem atoi_any (s : ByteArray) (hs : s.size ≤ 1000) (w : World) (h : LibW w) : Calls Tryd.prog 32 #[.string s] w fun e w' => ∃ ev, e = .returned (.tuple #[.int .i64 (atoiV s.data.toList), ev]) ∧ Below w.heap.size w w' := by
  unfold atoiV
  cases ha : Lib.atoiAll s.data.toList with
  | ok v =>
    refine (Tryd.strconv_Atoi_ok s (by omega) v ha w).mono (fun e w' h' => ⟨_, h'.1, ?_⟩)
    rcases h'.2 with e' | ⟨t, e'⟩
    · rw [e']; exact Below.refl _ _
    · rw [e']; exact Lib.bytesWorld_below w _ t
  | «syntax» =>
    obtain ⟨tp, p, hv⟩ := h.sx
    refine (Tryd.strconv_Atoi_syntax s (by omega) ha _ w hv (Or.inr ⟨tp, p, rfl⟩)).mono (fun e w' h' => ?_)
    obtain ⟨N, h1, _, _, h2⟩ := h'
    exact ⟨_, h1, h2⟩
  | range =>
    obtain ⟨tp, p, hv⟩ := h.rg
    refine (Tryd.strconv_Atoi_range s (by omega) ha _ w hv (Or.inr ⟨tp, p, rfl⟩)).mono (fun e w' h' => ?_)
    obtain ⟨N, h1, _, _, h2⟩ := h'
    exact ⟨_, h1, h2⟩
theorem cut_any (l : List UInt8) (hs : l.length ≤ 1000) (w : World) (h : LibW w) : Calls Tryd.prog 25 #[.string ⟨l.toArray⟩, .string ⟨#[32]⟩] w fun e w' => e = .returned (.tuple #[.string ⟨(Lib.cut l [32]).1.toArray⟩, .string ⟨(Lib.cut l [32]).2.1.toArray⟩, .bool (Lib.cut l [32]).2.2]) ∧ Below w.heap.size w w' := by
  obtain ⟨m, hm⟩ := h.ml
  refine (Tryd.strings_Cut ⟨l.toArray⟩ ⟨#[32]⟩ m w (by show l.length < _; omega) hm).mono (fun e w' h' => ⟨h'.1, ?_⟩)
  obtain ⟨n, e'⟩ := h'.2
  rw [e']
  exact below_drewN (Below.refl _ _) n
/-- What numbers add to a text. -/
def numT (x y : Int) : Nat → List UInt8
  | 0 => []
  | 1 => 32 :: Lib.itoa x
  | _ => 32 :: Lib.itoa x ++ 32 :: Lib.itoa y
theorem numT_len (x y : Int) (k : Nat) (hx : 0 ≤ x ∧ x ≤ 999) (hy : 0 ≤ y ∧ y ≤ 999) : (numT x y k).length ≤ 8 := by
  have lx := itoa_len3 x hx.1 hx.2
  have ly := itoa_len3 y hy.1 hy.2
  unfold numT
  split <;> simp <;> omega
set_option maxRecDepth 100000 in
set_option maxHeartbeats 2000000 in
theorem withNumbers_any (l : List UInt8) (b : Nat) (x y : Int) (k : Nat) (hk : k ≤ 2) (w : World) (h : LibW w) (hl : l.length ≤ 1000) (h0 : w.cell? ⟨b, 0, none⟩ = some (.int .i64 x)) (h1 : w.cell? ⟨b, 1, none⟩ = some (.int .i64 y)) (hx : 0 ≤ x ∧ x ≤ 999) (hy : 0 ≤ y ∧ y ≤ 999) :
    Calls Tryd.prog 15 #[.string ⟨l.toArray⟩, .slice (some ⟨b, 0, none⟩) k 2] w fun e w' => e = .returned (.string ⟨(l ++ numT x y k).toArray⟩) ∧ Below w.heap.size w w' := by
  have H0 := hidT h0
  have H1 := hidT h1
  have HL := hidT h
  have HX := hidT hx
  have HY := hidT hy
  have HLEN := hidT hl
  clear h0 h1 h hx hy hl
  go_enter Tryd.func15, Tryd.ntmps15
  go_wp2
  go_loopw [0, 9] (fun t i wr => ∃ (j : Nat) (T : List UInt8), j ≤ k ∧ i = .int .i64 j ∧ t = .string ⟨T.toArray⟩ ∧ T = l ++ numT x y j ∧ Below w.heap.size w wr) (fun _ i _ => k - (intOf i).toNat)
  case atStart => exact ⟨0, l, by omega, rfl, rfl, by rw [show numT x y 0 = [] from rfl, List.append_nil], Below.refl _ _⟩
  case round =>
    obtain ⟨j, T, hj, rfl, rfl, hT, hb⟩ := hrel
    have HB := hidT hb
    have HT := hidT hT
    by_cases hlt : j < k
    · have hlt' : (j : Int) < (k : Int) := by omega
      obtain ⟨z, hcz, hz, hnx⟩ : ∃ z, wr.cell? ⟨b, j, none⟩ = some (.int .i64 z) ∧ (0 ≤ z ∧ z ≤ 999) ∧ numT x y (j + 1) = numT x y j ++ (32 :: Lib.itoa z) := by
        have hj2 : j = 0 ∨ j = 1 := by omega
        rcases hj2 with rfl | rfl
        · exact ⟨x, cellB_later' hb H0.out, HX.out, rfl⟩
        · exact ⟨y, cellB_later' hb H1.out, HY.out, by simp [numT]⟩
      have lz := itoa_len3 z hz.1 hz.2
      have hTl : T.length ≤ 1008 := by
        have h1 := numT_len x y j HX.out HY.out
        have h2 := HLEN.out
        rw [hT, List.length_append]; omega
      have s1 := strS [32] (Lib.itoa z) (by simp; omega)
      have s2 := strS T (32 :: Lib.itoa z) (by simp; omega)
      have HNX : Hid (T ++ (32 :: Lib.itoa z) = l ++ numT x y (j + 1)) := by show _ = _; rw [hnx, hT, List.append_assoc]
      have HZ := hidT hz
      generalize hI : Lib.itoa z = I at *
      have HI := hidT hI
      clear hT hb hnx hz lz hTl hI
      go_wp2_with fail
      refine (itoa_any z _ (HL.out.later HB.out) (by have := HZ.out; omega) (by have := HZ.out; omega)).mono ?_
      rw [HI.out]
      rintro e w1 ⟨rfl, hb1⟩
      have HB1 := hidT (bthen HB.out hb1)
      clear hb1
      go_wp2
      go_roundw
      case rel => exact ⟨j + 1, _, by omega, by go_num, rfl, HNX.out, HB1.out⟩
      case measure => simp [intOf]; omega
    · have hjk : j = k := by omega
      clear hb hT
      go_wp2
      go_ret
      exact ⟨by rw [← hjk, ← HT.out]; rfl, HB.out⟩
end Go.Proofs.YtlhgjplipgandaaDoor
