/- A device: Crash. -/
import Derived.Test.YthmeaclekedilacDev13
namespace Go.Proofs.Ythmeaclekedilac
open Go.RowKit Go.BigFrame
attribute [local go_sem] Later.cell Later.frozen

/-- Is the bit set? -/
def bitOn (kp : Int) (n : Nat) : Bool := bits BinOp.and IntKind.u64 (kp / 2 ^ n) 1 == 1
/-- What is kept, in order. -/
def applyW (kp : Int) (l : List Wn) (now : List ByteArray) : List ByteArray := l.foldl (fun n x => if bitOn kp x.bit = true then n.set x.pl x.data else n) now
def Dl.crash (d : Dl) (kp : Int) : Dl := ({ d with busy := [], now := applyW kp d.wr d.good } : Dl).flush
theorem applyW_length (kp : Int) (l : List Wn) : ∀ now, (applyW kp l now).length = now.length := by
  induction l with
  | nil => intro now; rfl
  | cons x l ih =>
    intro now
    show (applyW kp l (if bitOn kp x.bit = true then now.set x.pl x.data else now)).length = _
    rw [ih]; split <;> simp
theorem applyW_snoc (kp : Int) (l : List Wn) (x : Wn) (now : List ByteArray) : applyW kp (l ++ [x]) now = if bitOn kp x.bit = true then (applyW kp l now).set x.pl x.data else applyW kp l now := by simp [applyW]
theorem DStep.setNow {b : Nat} {d0 d : Dl} {a0 a : An} {w w' : World} (h : DStep b d0 a0 d a w w') {p : Nat} (hp : p < 32) (s : ByteArray) : DStep b d0 a0 { d with now := d.now.set p s } a w (w'.setCell ⟨b, p, none⟩ (.string s)) :=
  h.trans ⟨h.dev.setB p _ (cells_setNow d a p s h.dev.n32 hp) rfl rfl (by simpa using h.dev.n32) h.dev.g32 h.dev.nxt, (Only.refl (a.foot b) w').setCell ⟨b, p, none⟩ (Or.inl (Or.inl rfl)) _, fun k hk => Or.inl hk⟩
/-- What stands when the loop of Crash begins. -/
theorem crash_start {b : Nat} {d : Dl} {a : An} {w : World} (h : DevAt b d a w) : DStep b d a { d with busy := [], now := d.good } { a with ba := none, bc := 0 } w ((w.setCell ⟨b, 66, none⟩ (.slice none 0 0)).setCells b 0 (strV d.good)) ∧ DevAt b { d with busy := [] } { a with ba := none, bc := 0 } (w.setCell ⟨b, 66, none⟩ (.slice none 0 0)) := by
  have S1 : DStep b d a { d with busy := [] } { a with ba := none, bc := 0 } w (w.setCell ⟨b, 66, none⟩ (.slice none 0 0)) :=
    h.reblock ((Only.refl (fun k => k = b) w).setCell ⟨b, 66, none⟩ (Or.inl rfl) _) (by rw [set_same h.blk, ← cells_set66 d a [] none 0 h.n32 h.g32]; rfl) (Or.inl ⟨rfl, rfl, rfl⟩) (Or.inr ⟨rfl, rfl, rfl⟩) h.n32 h.g32 h.nxt
  have eg : (strV d.good).length = 32 := by rw [strV_length]; exact h.g32
  have blk2 := setCells_heap b 101 (strV d.good) 0 _ _ S1.dev.blk (by rw [eg, Dl.cells_length S1.dev.n32 S1.dev.g32]; omega)
  rw [cells_now _ _ d.good S1.dev.n32 S1.dev.g32] at blk2
  exact ⟨S1.trans (S1.dev.reblock (setCells_onlyB b (strV d.good) 0 _) blk2 (Or.inl ⟨rfl, rfl, rfl⟩) (Or.inl ⟨rfl, rfl, rfl⟩) h.g32 h.g32 h.nxt), S1.dev⟩

set_option maxRecDepth 100000 in
set_option maxHeartbeats 2000000 in
theorem crash_some (b : Nat) (d : Dl) (g wc : Nat) (ba : Option Addr) (bc : Nat) (kp : Int) (_hkp : 0 ≤ kp ∧ kp ≤ 18446744073709551615) (w : World) (h : DevAt b d ⟨some ⟨g, 0, none⟩, wc, ba, bc⟩ w) :
    Calls Try.prog 21 #[.pointer (some ⟨b, 0, none⟩), .int .u64 kp] w fun e w' => ∃ a', e = .returned (.tuple #[]) ∧ DStep b d ⟨some ⟨g, 0, none⟩, wc, ba, bc⟩ (d.crash kp) a' w w' := by
  have HD := hidT h; have hl := h.lt; have c66 := h.c66; have f66 := h.fz 66; have HE : Hid ((strV d.good).length = 32) := (by show _ = _; rw [strV_length]; exact h.g32); have S2 := hidT (crash_start h).1; have HS1 := hidT (crash_start h).2; have c64 := (crash_start h).1.dev.c64; clear h; go_enter Try.func21, Try.ntmps21; go_wp2_with (first | (refine wpList_load_mid rfl 28 (.tmp 12) rfl b 32 rfl (strV d.good) _ HS1.out.rangeGood Try.underlying28 rfl (by rw [HE.out]; exact size32) ?_) | (refine wpList_store_mid rfl 28 (.tmp 15) (.tmp 13) rfl b 0 (strV d.good).toArray rfl rfl (by rw [List.size_toArray, HE.out]; exact HS1.out.there 0 32 (by omega)) (by rw [List.size_toArray, HE.out]; exact size32) (all_oneCell_toArray (strV_one _)) ?_; simp only))
  refine wp_worldD (fun wK => DStep b d ⟨some ⟨g, 0, none⟩, wc, ba, bc⟩ { d with busy := [], now := d.good } ⟨some ⟨g, 0, none⟩, wc, none, 0⟩ w wK) S2.out ?_
  clear S2 HS1 c64 c66 f66
  intro w2 h2
  have H2 := hidT h2
  clear h2
  go_loopw [21] (fun i wr => ∃ k : Nat, k ≤ d.wr.length ∧ i = .int .i64 k ∧ DStep b d ⟨some ⟨g, 0, none⟩, wc, ba, bc⟩ { d with busy := [], now := applyW kp (d.wr.take k) d.good } ⟨some ⟨g, 0, none⟩, wc, none, 0⟩ w wr) (fun i _ => d.wr.length - (intOf i).toNat)
  case atStart => exact ⟨0, by omega, rfl, H2.out⟩
  case round =>
    obtain ⟨k, hk, rfl, hs⟩ := hrel
    have HS := hidT hs
    have hws := wns_of_own hs.dev.wrow
    have hfin := hs.dev.wfin
    have lbr := hs.dev.lt
    have hwl := hs.dev.wlen
    simp only at hws hfin hwl
    clear hs
    by_cases hlt : k < d.wr.length
    · rcases hws with e | ⟨g', hg, hcs⟩
      · rw [e] at hlt; exact absurd hlt (Nat.not_lt_zero _)
      simp only [Option.some.injEq, Addr.mk.injEq, and_true] at hg
      obtain rfl := hg
      obtain ⟨c0, c1, c2⟩ := hcs k hlt
      obtain ⟨p1, p2⟩ := hfin _ (List.getElem_mem hlt)
      clear hcs hfin
      have lg := lt_of_cell c0
      have htk : d.wr.take (k + 1) = d.wr.take k ++ [d.wr[k]] := List.take_succ_eq_append_getElem hlt
      have HTK := hidT htk
      generalize d.wr[k] = x at *
      have hlt' : (k : Int) < (d.wr.length : Int) := by omega
      have p1' : (x.pl : Int) < 32 := by omega
      have cN := HS.out.dev.cNow x.pl p1
      have fN := HS.out.dev.fz x.pl
      clear htk
      cases hbt : bitOn kp x.bit
      · have hb' : (bits BinOp.and IntKind.u64 (kp / 2 ^ x.bit) 1 == 1) = false := hbt
        have HBT := hidT hbt
        clear hbt
        go_wp2
        refine ⟨⟨k + 1, by omega, by go_num, ?_⟩, by simp [intOf]; omega⟩
        rw [HTK.out, applyW_snoc, HBT.out, if_neg (by simp)]
        exact HS.out.later (below1 _ _)
      · have hb' : (bits BinOp.and IntKind.u64 (kp / 2 ^ x.bit) 1 == 1) = true := hbt
        have HBT := hidT hbt
        clear hbt
        go_wp2_with fail
        go_region
        go_wp2
        refine ⟨⟨k + 1, by omega, by go_num, ?_⟩, by simp [intOf]; omega⟩
        rw [HTK.out, applyW_snoc, if_pos HBT.out]
        exact ((HS.out.setNow p1 x.data).later (below1 _ _)).drewAt
    · have hkl : k = d.wr.length := by omega
      subst hkl
      rw [List.take_length] at HS
      go_wp2_with fail
      refine (flush_any b _ _ _ HS.out.dev).mono ?_
      rintro e w3 ⟨rfl, hs3⟩
      have HS3 := hidT (HS.out.trans hs3)
      clear hs3
      go_wp2
      go_end0
      exact ⟨_, rfl, HS3.out⟩
set_option maxRecDepth 100000 in
set_option maxHeartbeats 2000000 in
theorem crash_nil (b : Nat) (d : Dl) (a : An) (kp : Int) (_hkp : 0 ≤ kp ∧ kp ≤ 18446744073709551615) (w : World) (h : DevAt b d a w) (h0 : d.wr = []) :
    Calls Try.prog 21 #[.pointer (some ⟨b, 0, none⟩), .int .u64 kp] w fun e w' => ∃ a', e = .returned (.tuple #[]) ∧ DStep b d a (d.crash kp) a' w w' := by
  have hl0 : d.wr.length = 0 := by rw [h0]; rfl
  have H0 := hidT h0
  clear h0
  have HD := hidT h; have hl := h.lt; have c66 := h.c66; have f66 := h.fz 66; have HE : Hid ((strV d.good).length = 32) := (by show _ = _; rw [strV_length]; exact h.g32); have S2 := hidT (crash_start h).1; have HS1 := hidT (crash_start h).2; have c64 := (crash_start h).1.dev.c64; clear h; go_enter Try.func21, Try.ntmps21; go_wp2_with (first | (refine wpList_load_mid rfl 28 (.tmp 12) rfl b 32 rfl (strV d.good) _ HS1.out.rangeGood Try.underlying28 rfl (by rw [HE.out]; exact size32) ?_) | (refine wpList_store_mid rfl 28 (.tmp 15) (.tmp 13) rfl b 0 (strV d.good).toArray rfl rfl (by rw [List.size_toArray, HE.out]; exact HS1.out.there 0 32 (by omega)) (by rw [List.size_toArray, HE.out]; exact size32) (all_oneCell_toArray (strV_one _)) ?_; simp only))
  have eg : applyW kp d.wr d.good = d.good := by rw [H0.out]; rfl
  refine wp_worldD (fun wK => DStep b d a { d with busy := [], now := applyW kp d.wr d.good } { a with ba := none, bc := 0 } w wK) (by rw [eg]; exact S2.out) ?_
  clear S2 HS1 c64 c66 f66 eg
  intro w2 h2
  have H2 := hidT h2
  clear h2
  go_loopw [21] (fun i wr => i = .int .i64 0 ∧ DStep b d a { d with busy := [], now := applyW kp d.wr d.good } { a with ba := none, bc := 0 } w wr) (fun _ _ => 0)
  case atStart => exact ⟨rfl, H2.out⟩
  case round =>
    obtain ⟨rfl, hs⟩ := hrel
    have HS := hidT hs
    clear hs
    go_wp2_with fail
    refine (flush_any b _ _ _ HS.out.dev).mono ?_
    rintro e w3 ⟨rfl, hs3⟩
    have HS3 := hidT (HS.out.trans hs3)
    clear hs3
    go_wp2
    go_end0
    exact ⟨_, rfl, HS3.out⟩
theorem crash_any (b : Nat) (d : Dl) (a : An) (kp : Int) (hkp : 0 ≤ kp ∧ kp ≤ 18446744073709551615) (w : World) (h : DevAt b d a w) :
    Calls Try.prog 21 #[.pointer (some ⟨b, 0, none⟩), .int .u64 kp] w fun e w' => ∃ a', e = .returned (.tuple #[]) ∧ DStep b d a (d.crash kp) a' w w' := by
  rcases wns_of_own h.wrow with e | ⟨g, hg, _⟩
  · exact crash_nil b d a kp hkp w h e
  · obtain ⟨wa, wc, ba, bc⟩ := a
    simp only at hg
    subst hg
    exact crash_some b d g wc ba bc kp hkp w h
end Go.Proofs.Ythmeaclekedilac
