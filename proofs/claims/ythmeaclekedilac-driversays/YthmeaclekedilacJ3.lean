/- A device: Crash. -/
import Derived.Test.YthmeaclekedilacJ2
import Derived.Test.YthmeaclekedilacJ1
namespace Go.Proofs.Ythmeaclekedilac
open Go.RowKit Go.BigFrame
attribute [local go_sem] Later.cell Later.frozen

/-- Is the bit set? -/
def bitOn (kp : Int) (n : Nat) : Bool := bits BinOp.and IntKind.u64 (kp / 2 ^ n) 1 == 1
/-- What is kept, in order. -/
def applyW (kp : Int) (l : List Wn) (now : List ByteArray) : List ByteArray := l.foldl (fun n x => if bitOn kp x.bit = true then n.set x.pl x.data else n) now
def Dl.crash (d : Dl) (kp : Int) : Dl := ({ d with busy := [], now := applyW kp d.wr d.good } : Dl).flush
theorem applyW_length (kp : Int) (l : List Wn) : ∀ now, (applyW kp l now).length = now.length := by
  induction l with
  | nil => intro now; rfl
  | cons x l ih =>
    intro now
    show (applyW kp l (if bitOn kp x.bit = true then now.set x.pl x.data else now)).length = _
    rw [ih]; split <;> simp
theorem applyW_snoc (kp : Int) (l : List Wn) (x : Wn) (now : List ByteArray) : applyW kp (l ++ [x]) now = if bitOn kp x.bit = true then (applyW kp l now).set x.pl x.data else applyW kp l now := by simp [applyW]
theorem DStep.setNow {b : Nat} {d0 d : Dl} {a0 a : An} {w w' : World} (h : DStep b d0 a0 d a w w') {p : Nat} (hp : p < 32) (s : ByteArray) : DStep b d0 a0 { d with now := d.now.set p s } a w (w'.setCell ⟨b, p, none⟩ (.string s)) :=
  h.trans ⟨h.dev.setB p _ (cells_setNow d a p s h.dev.n32 hp) rfl rfl (by simpa using h.dev.n32) h.dev.g32 h.dev.nxt, (Only.refl (a.foot b) w').setCell ⟨b, p, none⟩ (Or.inl (Or.inl rfl)) _, fun k hk => Or.inl hk⟩
/-- What stands when the loop of Crash begins. -/
theorem crash_start {b : Nat} {d : Dl} {a : An} {w : World} (h : DevAt b d a w) : DStep b d a { d with busy := [], now := d.good } { a with ba := none, bc := 0 } w ((w.setCell ⟨b, 66, none⟩ (.slice none 0 0)).setCells b 0 (strV d.good)) ∧ DevAt b { d with busy := [] } { a with ba := none, bc := 0 } (w.setCell ⟨b, 66, none⟩ (.slice none 0 0)) := by
  have S1 : DStep b d a { d with busy := [] } { a with ba := none, bc := 0 } w (w.setCell ⟨b, 66, none⟩ (.slice none 0 0)) :=
    h.reblock ((Only.refl (fun k => k = b) w).setCell ⟨b, 66, none⟩ (Or.inl rfl) _) (by rw [set_same h.blk, ← cells_set66 d a [] none 0 h.n32 h.g32]; rfl) (Or.inl ⟨rfl, rfl, rfl⟩) (Or.inr ⟨rfl, rfl, rfl⟩) h.n32 h.g32 h.nxt
  have eg : (strV d.good).length = 32 := by rw [strV_length]; exact h.g32
  have blk2 := setCells_heap b 101 (strV d.good) 0 _ _ S1.dev.blk (by rw [eg, Dl.cells_length S1.dev.n32 S1.dev.g32]; omega)
  rw [cells_now _ _ d.good S1.dev.n32 S1.dev.g32] at blk2
  exact ⟨S1.trans (S1.dev.reblock (setCells_onlyB b (strV d.good) 0 _) blk2 (Or.inl ⟨rfl, rfl, rfl⟩) (Or.inl ⟨rfl, rfl, rfl⟩) h.g32 h.g32 h.nxt), S1.dev⟩

set_option maxRecDepth 100000 in
set_option maxHeartbeats 2000000 in
theorem crash_some (b : Nat) (d : Dl) (g wc : Nat) (ba : Option Addr) (bc : Nat) (kp : Int) (_hkp : 0 ≤ kp ∧ kp ≤ 18446744073709551615) (w : World) (h : DevAt b d ⟨some ⟨g, 0, none⟩, wc, ba, bc⟩ w) :
    Calls Try.prog 21 #[.pointer (some ⟨b, 0, none⟩), .int .u64 kp] w fun e w' => ∃ a', e = .returned (.tuple #[]) ∧ DStep b d ⟨some ⟨g, 0, none⟩, wc, ba, bc⟩ (d.crash kp) a' w w' := by
  have HD := hidT h; have hl := h.lt; have c66 := h.c66; have f66 := h.fz 66; have HE : Hid ((strV d.good).length = 32) := (by show _ = _; rw [strV_length]; exact h.g32); have S2 := hidT (crash_start h).1; have HS1 := hidT (crash_start h).2; have c64 := (crash_start h).1.dev.c64; clear h; go_enter Try.func21, Try.ntmps21; go_wp2_with (first | (refine wpList_load_mid rfl 28 (.tmp 12) rfl b 32 rfl (strV d.good) _ HS1.out.rangeGood Try.underlying28 rfl (by rw [HE.out]; exact size32) ?_) | (refine wpList_store_mid rfl 28 (.tmp 15) (.tmp 13) rfl b 0 (strV d.good).toArray rfl rfl (by rw [List.size_toArray, HE.out]; exact HS1.out.there 0 32 (by omega)) (by rw [List.size_toArray, HE.out]; exact size32) (all_oneCell_toArray (strV_one _)) ?_; simp only))
  refine wp_worldD (fun wK => DStep b d ⟨some ⟨g, 0, none⟩, wc, ba, bc⟩ { d with busy := [], now := d.good } ⟨some ⟨g, 0, none⟩, wc, none, 0⟩ w wK) S2.out ?_
  clear S2 HS1 c64 c66 f66
  intro w2 h2
  have H2 := hidT h2
  clear h2
  go_loopw [21] (fun i wr => ∃ k : Nat, k ≤ d.wr.length ∧ i = .int .i64 k ∧ DStep b d ⟨some ⟨g, 0, none⟩, wc, ba, bc⟩ { d with busy := [], now := applyW kp (d.wr.take k) d.good } ⟨some ⟨g, 0, none⟩, wc, none, 0⟩ w wr) (fun i _ => d.wr.length - (intOf i).toNat)
  case atStart => exact ⟨0, by omega, rfl, H2.out⟩
  case round =>
    obtain ⟨k, hk, rfl, hs⟩ := hrel
    have HS := hidT hs
    have hws := wns_of_own hs.dev.wrow
    have hfin := hs.dev.wfin
    have lbr := hs.dev.lt
    have hwl := hs.dev.wlen
    simp only at hws hfin hwl
    clear hs
    by_cases hlt : k < d.wr.length
    · rcases hws with e | ⟨g', hg, hcs⟩
      · rw [e] at hlt; exact absurd hlt (Nat.not_lt_zero _)
      simp only [Option.some.injEq, Addr.mk.injEq, and_true] at hg
      obtain rfl := hg
      obtain ⟨c0, c1, c2⟩ := hcs k hlt
      obtain ⟨p1, p2⟩ := hfin _ (List.getElem_mem hlt)
      clear hcs hfin
      have lg := lt_of_cell c0
      have htk : d.wr.take (k + 1) = d.wr.take k ++ [d.wr[k]] := List.take_succ_eq_append_getElem hlt
      have HTK := hidT htk
      generalize d.wr[k] = x at *
      have hlt' : (k : Int) < (d.wr.length : Int) := by omega
      have p1' : (x.pl : Int) < 32 := by omega
      have cN := HS.out.dev.cNow x.pl p1
      have fN := HS.out.dev.fz x.pl
      clear htk
      cases hbt : bitOn kp x.bit
      · have hb' : (bits BinOp.and IntKind.u64 (kp / 2 ^ x.bit) 1 == 1) = false := hbt
        have HBT := hidT hbt
        clear hbt
        go_wp2
        refine ⟨⟨k + 1, by omega, by go_num, ?_⟩, by simp [intOf]; omega⟩
        rw [HTK.out, applyW_snoc, HBT.out, if_neg (by simp)]
        exact HS.out.later (below1 _ _)
      · have hb' : (bits BinOp.and IntKind.u64 (kp / 2 ^ x.bit) 1 == 1) = true := hbt
        have HBT := hidT hbt
        clear hbt
        go_wp2_with fail
        go_region
        go_wp2
        refine ⟨⟨k + 1, by omega, by go_num, ?_⟩, by simp [intOf]; omega⟩
        rw [HTK.out, applyW_snoc, if_pos HBT.out]
        exact ((HS.out.setNow p1 x.data).later (below1 _ _)).drewAt
    · have hkl : k = d.wr.length := by omega
      subst hkl
      rw [List.take_length] at HS
      go_wp2_with fail
      refine (flush_any b _ _ _ HS.out.dev).mono ?_
      rintro e w3 ⟨rfl, hs3⟩
      have HS3 := hidT (HS.out.trans hs3)
      clear hs3
      go_wp2
      go_end0
      exact ⟨_, rfl, HS3.out⟩
set_option maxRecDepth 100000 in
set_option maxHeartbeats 2000000 in
theorem crash_nil (b : Nat) (d : Dl) (a : An) (kp : Int) (_hkp : 0 ≤ kp ∧ kp ≤ 18446744073709551615) (w : World) (h : DevAt b d a w) (h0 : d.wr = []) :
    Calls Try.prog 21 #[.pointer (some ⟨b, 0, none⟩), .int .u64 kp] w fun e w' => ∃ a', e = .returned (.tuple #[]) ∧ DStep b d a (d.crash kp) a' w w' := by
  have hl0 : d.wr.length = 0 := by rw [h0]; rfl
  have H0 := hidT h0
  clear h0
  have HD := hidT h; have hl := h.lt; have c66 := h.c66; have f66 := h.fz 66; have HE : Hid ((strV d.good).length = 32) := (by show _ = _; rw [strV_length]; exact h.g32); have S2 := hidT (crash_start h).1; have HS1 := hidT (crash_start h).2; have c64 := (crash_start h).1.dev.c64; clear h; go_enter Try.func21, Try.ntmps21; go_wp2_with (first | (refine wpList_load_mid rfl 28 (.tmp 12) rfl b 32 rfl (strV d.good) _ HS1.out.rangeGood Try.underlying28 rfl (by rw [HE.out]; exact size32) ?_) | (refine wpList_store_mid rfl 28 (.tmp 15) (.tmp 13) rfl b 0 (strV d.good).toArray rfl rfl (by rw [List.size_toArray, HE.out]; exact HS1.out.there 0 32 (by omega)) (by rw [List.size_toArray, HE.out]; exact size32) (all_oneCell_toArray (strV_one _)) ?_; simp only))
  have eg : applyW kp d.wr d.good = d.good := by rw [H0.out]; rfl
  refine wp_worldD (fun wK => DStep b d a { d with busy := [], now := applyW kp d.wr d.good } { a with ba := none, bc := 0 } w wK) (by rw [eg]; exact S2.out) ?_
  clear S2 HS1 c64 c66 f66 eg
  intro w2 h2
  have H2 := hidT h2
  clear h2
  go_loopw [21] (fun i wr => i = .int .i64 0 ∧ DStep b d a { d with busy := [], now := applyW kp d.wr d.good } { a with ba := none, bc := 0 } w wr) (fun _ _ => 0)
  case atStart => exact ⟨rfl, H2.out⟩
  case round =>
    obtain ⟨rfl, hs⟩ := hrel
    have HS := hidT hs
    clear hs
    go_wp2_with fail
    refine (flush_any b _ _ _ HS.out.dev).mono ?_
    rintro e w3 ⟨rfl, hs3⟩
    have HS3 := hidT (HS.out.trans hs3)
    clear hs3
    go_wp2
    go_end0
    exact ⟨_, rfl, HS3.out⟩
theorem crash_any (b : Nat) (d : Dl) (a : An) (kp : Int) (hkp : 0 ≤ kp ∧ kp ≤ 18446744073709551615) (w : World) (h : DevAt b d a w) :
    Calls Try.prog 21 #[.pointer (some ⟨b, 0, none⟩), .int .u64 kp] w fun e w' => ∃ a', e = .returned (.tuple #[]) ∧ DStep b d a (d.crash kp) a' w w' := by
  rcases wns_of_own h.wrow with e | ⟨g, hg, _⟩
  · exact crash_nil b d a kp hkp w h e
  · obtain ⟨wa, wc, ba, bc⟩ := a
    simp only at hg
    subst hg
    exact crash_some b d g wc ba bc kp hkp w h
end Go.Proofs.Ythmeaclekedilac
/- A device: End. -/
namespace Go.Proofs.Ythmeaclekedilac
open Go.RowKit Go.BigFrame
attribute [local go_sem] Later.cell Later.frozen

abbrev noRes : Value := .agg #[.bool false, .int .i64 0, .int .i64 0, .slice none 0 0, .slice none 0 0, .int .i64 0, .slice none 0 0, .int .i64 0]
set_option maxHeartbeats 400000 in
theorem end_none (b : Nat) (d : Dl) (a : An) (i : Int) (fl : Bool) (w : World) (h : DevAt b d a w) (hi : i < 0 ∨ (d.busy.length : Int) ≤ i) :
    Calls Try.prog 16 #[.pointer (some ⟨b, 0, none⟩), .int .i64 i, .bool fl] w fun e w' => e = .returned (.tuple #[noRes, .iface 47 (.int .i64 5)]) ∧ Below w.heap.size w w' := by
  have c := h.c66
  have hl := h.lt
  clear h
  by_cases h0 : i < 0
  · go_enter Try.func16, Try.ntmps16
    go_wp2
    exact bodyPost_ret (v := .tuple #[noRes, .iface 47 (.int .i64 5)]) (by simp [results, Try.results16, go_sem]) rfl ⟨rfl, by repeat (first | with_reducible exact Below.refl _ _ | with_reducible refine balloc ?_ _ | with_reducible refine bdrew ?_ | with_reducible refine bset' ?_ (by omega) _ | with_reducible refine bthen ?_ (by assumption))⟩
  · have h1 : (d.busy.length : Int) ≤ i := by omega
    go_enter Try.func16, Try.ntmps16
    go_wp2
    exact bodyPost_ret (v := .tuple #[noRes, .iface 47 (.int .i64 5)]) (by simp [results, Try.results16, go_sem]) rfl ⟨rfl, by repeat (first | with_reducible exact Below.refl _ _ | with_reducible refine balloc ?_ _ | with_reducible refine bdrew ?_ | with_reducible refine bset' ?_ (by omega) _ | with_reducible refine bthen ?_ (by assumption))⟩
theorem Only.of_set {w : World} {q o : Nat} (v : Value) : Only (fun k => k = q) w (w.setCell ⟨q, o, none⟩ v) := (Only.refl (fun k => k = q) w).setCell ⟨q, o, none⟩ (Or.inl rfl) v
/-- Something of a call's own is written. -/
theorem DStep.setNew {b : Nat} {d d' : Dl} {a a' : An} {w w' : World} (h : DStep b d a d' a' w w') (hd : DevAt b d a w) (hs : ∀ r ∈ d'.busy, r ∈ d.busy) {q : Nat} (hq : w.heap.size ≤ q) (hn : ¬ a'.foot b q) (o : Nat) (v : Value) : DStep b d a d' a' w (w'.setCell ⟨q, o, none⟩ v) :=
  ⟨h.dev.frame (Only.of_set v) (fun k hk e => hn (e ▸ hk)) (fun r hr => by
    have hat := (hd.reqs r (hs r hr)).1
    exact ⟨fun he ad ha e => by have := strs_lt hat.data he ha; omega, fun he ad ha e => by have := ints_lt hat.tags he ha; omega⟩),
   h.only.setCell ⟨q, o, none⟩ (Or.inr hq) v, h.foot⟩
/-- A result without anything, in a block of its own, that may be written. -/
def ZeroAt (w : World) (q : Nat) : Prop := (w.cell? ⟨q, 0, none⟩ = some (.bool false) ∧ w.cell? ⟨q, 1, none⟩ = some (.int .i64 0) ∧ w.cell? ⟨q, 2, none⟩ = some (.int .i64 0) ∧ w.cell? ⟨q, 3, none⟩ = some (.slice none 0 0) ∧ w.cell? ⟨q, 4, none⟩ = some (.slice none 0 0) ∧ w.cell? ⟨q, 5, none⟩ = some (.int .i64 0) ∧ w.cell? ⟨q, 6, none⟩ = some (.slice none 0 0) ∧ w.cell? ⟨q, 7, none⟩ = some (.int .i64 0)) ∧ (∀ o, w.frozen? ⟨q, o, none⟩ = false) ∧ q < w.heap.size
theorem ZeroAt.only {F : Nat → Prop} {w w' : World} {q : Nat} (h : ZeroAt w q) (hO : Only F w w') (hn : ¬ F q) : ZeroAt w' q := by
  obtain ⟨⟨h0, h1, h2, h3, h4, h5, h6, h7⟩, hf, hl⟩ := h
  exact ⟨⟨(hO.cell (p := ⟨q, 0, none⟩) hl hn).trans h0, (hO.cell (p := ⟨q, 1, none⟩) hl hn).trans h1, (hO.cell (p := ⟨q, 2, none⟩) hl hn).trans h2, (hO.cell (p := ⟨q, 3, none⟩) hl hn).trans h3, (hO.cell (p := ⟨q, 4, none⟩) hl hn).trans h4, (hO.cell (p := ⟨q, 5, none⟩) hl hn).trans h5, (hO.cell (p := ⟨q, 6, none⟩) hl hn).trans h6, (hO.cell (p := ⟨q, 7, none⟩) hl hn).trans h7⟩, fun o => (hO.frozen (p := ⟨q, o, none⟩) hl hn).trans (hf o), Nat.lt_of_lt_of_le hl hO.size⟩
theorem zero_new (w : World) (T : TypeId) : ZeroAt (w.alloc (.cells #[.bool false, .int .i64 0, .int .i64 0, .slice none 0 0, .slice none 0 0, .int .i64 0, .slice none 0 0, .int .i64 0] T)) w.heap.size := by
  refine ⟨⟨?_, ?_, ?_, ?_, ?_, ?_, ?_, ?_⟩, fun o => ?_, ?_⟩ <;> simp
theorem DevAt.place {b : Nat} {d : Dl} {a : An} {w : World} (h : DevAt b d a w) {k : Nat} (hk : k < d.busy.length) : ∃ g, a.ba = some ⟨g, 0, none⟩ ∧ g < w.heap.size := by
  obtain ⟨x, cx, hv, h1, h2, _⟩ := slice_of_own h.brow
  simp only [Value.slice.injEq, true_and] at hv
  obtain ⟨rfl, rfl⟩ := hv
  cases ha : a.ba with
  | none =>
    have := h.reqsAt.form
    rw [ha] at this
    rcases this with e | ⟨_, _, e⟩
    · rw [e] at hk; exact absurd hk (Nat.not_lt_zero _)
    · cases e
  | some ad =>
    obtain ⟨g, rfl⟩ := h2 ad ha
    exact ⟨g, rfl, h.blt _ ha⟩
/-- The device behind slices.Delete and the store, and what else is at hand. -/
theorem ended {b : Nat} {d : Dl} {a : An} {w w2 w3 : World} {k g : Nat} {r : Rq} (h : DevAt b d a w) (hk : k < d.busy.length) (hg0 : a.ba = some ⟨g, 0, none⟩) (hb : Below w.heap.size w w2) (hz : ZeroAt w2 w.heap.size) (hx : BoxAt w2 (w.heap.size + 1) r)
    (hown : w3.ownsRow 0 38 6 (.slice (some ⟨g, 0, none⟩) (d.busy.eraseIdx k).length a.bc) (d.busy.eraseIdx k).length (rcells (d.busy.eraseIdx k))) (hg : w2.grownBy w3 (some g)) :
    (w3.cell? ⟨b, 66, none⟩ = some (.slice (some ⟨g, 0, none⟩) d.busy.length a.bc) ∧ w3.frozen? ⟨b, 66, none⟩ = false ∧ b < w3.heap.size) ∧ ∃ a', DStep b d a { d with busy := d.busy.eraseIdx k } a' w (w3.setCell ⟨b, 66, none⟩ (.slice (some ⟨g, 0, none⟩) (d.busy.eraseIdx k).length a.bc)) ∧ ZeroAt (w3.setCell ⟨b, 66, none⟩ (.slice (some ⟨g, 0, none⟩) (d.busy.eraseIdx k).length a.bc)) w.heap.size ∧ BoxAt (w3.setCell ⟨b, 66, none⟩ (.slice (some ⟨g, 0, none⟩) (d.busy.eraseIdx k).length a.bc)) (w.heap.size + 1) r ∧ ¬ a'.foot b w.heap.size ∧ ¬ a'.foot b (w.heap.size + 1) := by
  have hob : (Value.slice a.ba d.busy.length a.bc).ownBlock = some g := ownBlock_slice.2 ⟨_, hg0, rfl⟩
  have k66 := h.kept66 hb (by rw [hob]; exact hg)
  rw [hg0] at k66
  have hlt := h.lt
  have hgl := h.blt _ hg0
  have hel : (d.busy.eraseIdx k).length ≤ 2 := by rw [List.length_eraseIdx, if_pos hk]; have := h.blen; omega
  obtain ⟨x, c, e, hst⟩ := h.busied hb (d.busy.eraseIdx k) hel (fun q hq => h.reqs q (List.mem_of_mem_eraseIdx hq)) hown (by rw [hob]; exact hg) (fun g' hg' => Or.inl ⟨_, hg0, by simpa [Value.ownBlock] using hg'.symm⟩)
  simp only [Value.slice.injEq, true_and] at e
  obtain ⟨rfl, rfl⟩ := e
  have hO : Only (fun i => i = g ∨ i = b) w2 (w3.setCell ⟨b, 66, none⟩ (.slice (some ⟨g, 0, none⟩) (d.busy.eraseIdx k).length a.bc)) :=
    ((Only.refl (fun i => i = g ∨ i = b) w2).grown hg (fun i hi => Or.inl (Or.inl (by simpa using hi.symm)))).setCell ⟨b, 66, none⟩ (Or.inl (Or.inr rfl)) _
  have hft : ∀ q, w.heap.size ≤ q → ¬ ({ a with ba := some ⟨g, 0, none⟩, bc := a.bc } : An).foot b q := by
    rintro q hq (e | ⟨p, hp, e⟩ | ⟨p, hp, e⟩)
    · omega
    · have := h.wlt p hp; omega
    · simp only [Option.some.injEq] at hp; subst hp; simp only at e hgl; omega
  exact ⟨k66, _, hst, hz.only hO (by simp only at hgl; omega), hx.only hO (by simp only at hgl; omega), hft _ (Nat.le_refl _), hft _ (by omega)⟩

set_option maxRecDepth 100000 in
set_option maxHeartbeats 2000000 in
theorem end_fault (b : Nat) (d : Dl) (a : An) (k : Nat) (hk : k < d.busy.length) (w : World) (h : DevAt b d a w) :
    Calls Try.prog 16 #[.pointer (some ⟨b, 0, none⟩), .int .i64 k, .bool true] w fun e w' => ∃ a', e = .returned (.tuple #[resV d.busy[k] none 0 0 8, .nilIface]) ∧ DStep b d a { d with busy := d.busy.eraseIdx k } a' w w' := by
  have hl := h.lt; have HD := hidT h; have h0 : ¬ (k : Int) < 0 := (by omega); have h1 : ¬ (d.busy.length : Int) ≤ (k : Int) := (by omega); have h2 : (k : Int) < (d.busy.length : Int) := (by omega); have hk2 : (k : Int) ≤ 1 := (by have := h.blen; omega); have hR := h.reqsAt; have c := h.c66; obtain ⟨g, hg0, lg⟩ := h.place hk; rw [hg0] at hR c; obtain ⟨r0, r1, r2, r3, r4, r5⟩ := hR.cells hk; simp only [Nat.zero_add] at r0 r1 r2 r3 r4 r5; have HG0 := hidT hg0; clear h hR hg0
  generalize hr : d.busy[k] = r at *
  have HRR := hidT hr
  clear hr
  go_enter Try.func16, Try.ntmps16; go_wp2_with fail; have hbr := (HD.out.later (below2 w (.cells #[.bool false, .int .i64 0, .int .i64 0, .slice none 0 0, .slice none 0 0, .int .i64 0, .slice none 0 0, .int .i64 0] 49) (.cells #[.bool r.wr, .int .i64 r.f, .int .i64 r.m, .slice r.da r.data.length r.dc, .slice r.ta r.tags.length r.tc, .int .i64 r.born] 38))).brow; rw [HG0.out] at hbr; refine (delR d.busy g a.bc k _ hk hbr).mono ?_; rintro e w3 ⟨rfl, hown3, hg3⟩; have hz2 := (zero_new w 49).only (F := fun _ => False) ((Only.refl _ _).alloc (.cells #[.bool r.wr, .int .i64 r.f, .int .i64 r.m, .slice r.da r.data.length r.dc, .slice r.ta r.tags.length r.tc, .int .i64 r.born] 38)) (fun e => e); have hx2 := box_new (w.alloc (.cells #[.bool false, .int .i64 0, .int .i64 0, .slice none 0 0, .slice none 0 0, .int .i64 0, .slice none 0 0, .int .i64 0] 49)) 38 r; rw [World.size_alloc] at hx2; obtain ⟨⟨c3, f3, l3⟩, a', hst, hz4, hx4, nf6, nf8⟩ := ended HD.out hk HG0.out (below2 w _ _) hz2 hx2 hown3 hg3; clear hz2 hx2 hbr hown3 hg3 r0 r1 r2 r3 r4 r5 c
  obtain ⟨⟨z0, z1, z2, z3, z4, z5, z6, z7⟩, zf, zl⟩ := hz4
  obtain ⟨x0, x1, x2, x3, x4, x5⟩ := hx4
  have HST := hidT hst
  clear hst
  generalize hW : w3.setCell ⟨b, 66, none⟩ (.slice (some ⟨g, 0, none⟩) (d.busy.eraseIdx k).length a.bc) = w4 at *
  go_wp2
  refine bodyPost_ret (v := .tuple #[resV r none 0 0 8, .nilIface]) (by simp [results, Try.results16, go_sem, z0, z1, z2, z3, z4, z5, z6, z7]) rfl ⟨a', rfl, ?_⟩
  repeat (first | with_reducible exact HST.out | with_reducible refine DStep.setNew ?_ HD.out (fun q hq => List.mem_of_mem_eraseIdx hq) (Nat.le_refl _) nf6 _ _ | with_reducible refine DStep.drewAt ?_)
end Go.Proofs.Ythmeaclekedilac
/- A device: End of a request that is done. -/
namespace Go.Proofs.Ythmeaclekedilac
open Go.RowKit Go.BigFrame
attribute [local go_sem] Later.cell Later.frozen

theorem step_call2E {P : Program} {ops : Array Oper} {o : Oper} {a : Act} {w : World} {K : Act → World → Prop} {Q : Exit → Act → World → Prop} {E : Prop}
    (hg : o.guard = none) (f : FuncId) (x1 x2 : Nat) (t1 t2 : TypeId) (hop : o.op = Op.call { callee := Callee.value (.func f), args := #[.tmp x1, .tmp x2], argTypes := #[t1, t2] }) (eg : ∀ args w, (callFunc f args).run P w = .ok (.enter f args) w)
    (v1 v2 : Value) (e1 : a.tmps[x1]?.getD undef = v1) (e2 : a.tmps[x2]?.getD undef = v2) (R : Value → World → Prop) (hc : Calls P f #[v1, v2] w fun e w' => ∃ r, e = .returned r ∧ R r w') (h : ∀ r w', R r w' → K (a.put o.dst r) w') :
    if Region.wanted o (yielded ops a.tmps) = true then Oper.wp P o a w K Q else E := by
  have hw : Region.wanted o (yielded ops a.tmps) = true := by simp [Region.wanted, hg]
  rw [if_pos hw]
  unfold Oper.wp
  simp [execOp, hop, resolve, invoke, e1, e2, eg, go_sem]
  refine hc.mono ?_
  rintro _ w' ⟨r, rfl, hs⟩
  exact h r w' hs
theorem boxSet {w : World} {q q' o : Nat} {r : Rq} {v : Value} (h : BoxAt w q r) (hn : q ≠ q') : BoxAt (w.setCell ⟨q', o, none⟩ v) q r := h.only (Only.of_set v) hn
theorem box8 {w : World} {q : Nat} {r : Rq} {v0 v1 v2 v3 v4 v5 v6 v7 : Value} (h : BoxAt w (q + 1) r) : BoxAt ((((((((w.setCell ⟨q, 0, none⟩ v0).setCell ⟨q, 1, none⟩ v1).setCell ⟨q, 2, none⟩ v2).setCell ⟨q, 3, none⟩ v3).setCell ⟨q, 4, none⟩ v4).setCell ⟨q, 5, none⟩ v5).setCell ⟨q, 6, none⟩ v6).setCell ⟨q, 7, none⟩ v7) (q + 1) r :=
  boxSet (boxSet (boxSet (boxSet (boxSet (boxSet (boxSet (boxSet h (by omega)) (by omega)) (by omega)) (by omega)) (by omega)) (by omega)) (by omega)) (by omega)

theorem Dl.writesTo_busy (d : Dl) (r : Rq) (n : Nat) : (d.writesTo r n).busy = d.busy := by
  induction n with
  | zero => rfl
  | succ n ih => rw [Dl.writesTo_succ]; exact ih
set_option linter.unusedSimpArgs false in
set_option maxRecDepth 100000 in
set_option maxHeartbeats 2000000 in
theorem end_write (b : Nat) (d : Dl) (a : An) (k : Nat) (hk : k < d.busy.length) (w : World) (h : DevAt b d a w) (gr : Good d.busy[k]) (hw : d.busy[k].wr = true) :
    Calls Try.prog 16 #[.pointer (some ⟨b, 0, none⟩), .int .i64 k, .bool false] w fun e w' => ∃ a', e = .returned (.tuple #[resV d.busy[k] none 0 0 0, .nilIface]) ∧ DStep b d a (({ d with busy := d.busy.eraseIdx k } : Dl).writesTo d.busy[k] d.busy[k].m.toNat) a' w w' := by
  have HRA := hidT (h.reqs _ (List.getElem_mem hk))
  have GR := hidT gr
  have HW := hidT hw
  clear gr hw
  have hl := h.lt; have HD := hidT h; have h0 : ¬ (k : Int) < 0 := (by omega); have h1 : ¬ (d.busy.length : Int) ≤ (k : Int) := (by omega); have h2 : (k : Int) < (d.busy.length : Int) := (by omega); have hk2 : (k : Int) ≤ 1 := (by have := h.blen; omega); have hR := h.reqsAt; have c := h.c66; obtain ⟨g, hg0, lg⟩ := h.place hk; rw [hg0] at hR c; obtain ⟨r0, r1, r2, r3, r4, r5⟩ := hR.cells hk; simp only [Nat.zero_add] at r0 r1 r2 r3 r4 r5; have HG0 := hidT hg0; clear h hR hg0
  generalize hr : d.busy[k] = r at *
  have HRR := hidT hr
  clear hr
  go_enter Try.func16, Try.ntmps16; go_wp2_with fail; have hbr := (HD.out.later (below2 w (.cells #[.bool false, .int .i64 0, .int .i64 0, .slice none 0 0, .slice none 0 0, .int .i64 0, .slice none 0 0, .int .i64 0] 49) (.cells #[.bool r.wr, .int .i64 r.f, .int .i64 r.m, .slice r.da r.data.length r.dc, .slice r.ta r.tags.length r.tc, .int .i64 r.born] 38))).brow; rw [HG0.out] at hbr; refine (delR d.busy g a.bc k _ hk hbr).mono ?_; rintro e w3 ⟨rfl, hown3, hg3⟩; have hz2 := (zero_new w 49).only (F := fun _ => False) ((Only.refl _ _).alloc (.cells #[.bool r.wr, .int .i64 r.f, .int .i64 r.m, .slice r.da r.data.length r.dc, .slice r.ta r.tags.length r.tc, .int .i64 r.born] 38)) (fun e => e); have hx2 := box_new (w.alloc (.cells #[.bool false, .int .i64 0, .int .i64 0, .slice none 0 0, .slice none 0 0, .int .i64 0, .slice none 0 0, .int .i64 0] 49)) 38 r; rw [World.size_alloc] at hx2; obtain ⟨⟨c3, f3, l3⟩, a', hst, hz4, hx4, nf6, nf8⟩ := ended HD.out hk HG0.out (below2 w _ _) hz2 hx2 hown3 hg3; clear hz2 hx2 hbr hown3 hg3 r0 r1 r2 r3 r4 r5 c
  have HST := hidT hst
  generalize hW : w3.setCell ⟨b, 66, none⟩ (.slice (some ⟨g, 0, none⟩) (d.busy.eraseIdx k).length a.bc) = w4 at *
  clear hst
  have HS : Hid (BoxAt w4.drew (w.heap.size + 1) r) := hx4; have egd : ∀ args w, Sem.run Try.prog (callFunc 57 args) w = .ok (.enter 57 args) w := (by intro args w; go_simp); go_wp2_with fail; refine region_till (S := fun wz => BoxAt wz (w.heap.size + 1) r) (d := 5) (by kernel_rfl) ?_; refine till_take (i := 0) (v := ?_) rfl (by kernel_rfl) (by kernel_rfl) (by kernel_rfl) (by kernel_rfl) (fun _ _ _ h => h) (Or.inl ⟨by rfl, ?_⟩) HS.out ?_; rotate_left; (focus (intro w0 hSw; obtain ⟨s0, s1, s2, s3, s4, s5⟩ := hSw; go_simp; (try with_reducible rfl))); (try simp only [Act.put, List.getElem_toArray, List.getElem_cons_succ, List.getElem_cons_zero, List.setIfInBounds_toArray, List.set_cons_zero, List.set_cons_succ]); refine till_take (i := 1) (v := ?_) rfl (by kernel_rfl) (by kernel_rfl) (by kernel_rfl) (by kernel_rfl) (fun _ _ _ h => h) (Or.inl ⟨by rfl, ?_⟩) HS.out ?_; rotate_left; (focus (intro w0 hSw; obtain ⟨s0, s1, s2, s3, s4, s5⟩ := hSw; go_simp; (try with_reducible rfl))); (try simp only [Act.put, List.getElem_toArray, List.getElem_cons_succ, List.getElem_cons_zero, List.setIfInBounds_toArray, List.set_cons_zero, List.set_cons_succ]); refine till_take (i := 2) (v := ?_) rfl (by kernel_rfl) (by kernel_rfl) (by kernel_rfl) (by kernel_rfl) (fun _ _ _ h => h) (Or.inl ⟨by rfl, ?_⟩) HS.out ?_; rotate_left; (focus (intro w0 hSw; obtain ⟨s0, s1, s2, s3, s4, s5⟩ := hSw; go_simp; (try with_reducible rfl))); (try simp only [Act.put, List.getElem_toArray, List.getElem_cons_succ, List.getElem_cons_zero, List.setIfInBounds_toArray, List.set_cons_zero, List.set_cons_succ]); refine till_one (i := 3) rfl (by kernel_rfl) ?_; intro K hK
  refine step_call2E rfl 57 44 45 25 38 rfl egd (.pointer (some ⟨b, 0, none⟩)) r.val rfl rfl (fun v w5 => v = .slice none 0 0 ∧ ∃ a5, DStep b { d with busy := d.busy.eraseIdx k } a' (({ d with busy := d.busy.eraseIdx k } : Dl).writesTo r r.m.toNat) a5 w4.drew w5) ((do_write b _ a' r _ (HST.out.dev.later (Below.refl _ _).drew) GR.out HW.out ((HRA.out.1.frame HRA.out.2 HST.out.only).later (Below.refl _ _).drew) (HRA.out.2.step HRA.out.1 HST.out.foot)).mono fun e w' ⟨a5, he, hs⟩ => ⟨_, he, rfl, a5, hs⟩) ?_
  rintro v w5 ⟨rfl, a5, hst5⟩
  have hz5 := (hz4.only (F := fun _ => False) (Only.refl _ w4).drew (fun e => e)).only hst5.only nf6
  have HX5 := hidT (HS.out.only hst5.only nf8)
  have HST5 := hidT (HST.out.drewAt.trans hst5)
  have nf6' : ¬ a5.foot b w.heap.size := fun e => (hst5.foot _ e).elim nf6 (fun h' => by have := hz4.2.2; simp at h'; omega)
  refine hK _ _ (fun _ => HX5.out) ?_
  (try simp only [Act.put, List.getElem_toArray, List.getElem_cons_succ, List.getElem_cons_zero, List.setIfInBounds_toArray, List.set_cons_zero, List.set_cons_succ])
  clear hK hst5 hz4
  obtain ⟨⟨z0, z1, z2, z3, z4, z5, z6, z7⟩, zf, zl⟩ := hz5; refine till_one (i := 4) rfl (by kernel_rfl) ?_; intro K hK; go_simp; refine hK _ _ (fun _ => HX5.out) ?_; (try simp only [Act.put, List.getElem_toArray, List.getElem_cons_succ, List.getElem_cons_zero, List.setIfInBounds_toArray, List.set_cons_zero, List.set_cons_succ]); clear hK; refine till_one (i := 5) rfl (by kernel_rfl) ?_; intro K hK; go_simp; refine hK _ _ (fun h => absurd rfl h) ?_; (try simp only [Act.put, List.getElem_toArray, List.getElem_cons_succ, List.getElem_cons_zero, List.setIfInBounds_toArray, List.set_cons_zero, List.set_cons_succ]); clear hK; refine till_one (i := 6) rfl (by kernel_rfl) ?_; intro K hK; go_simp; refine hK _ _ (fun _ => box8 HX5.out) ?_; (try simp only [Act.put, List.getElem_toArray, List.getElem_cons_succ, List.getElem_cons_zero, List.setIfInBounds_toArray, List.set_cons_zero, List.set_cons_succ]); clear hK; refine till_done (by kernel_rfl) ?_ _; go_wp2
  refine bodyPost_ret (v := .tuple #[resV r none 0 0 0, .nilIface]) (by simp [results, Try.results16, go_sem, z0, z1, z2, z3, z4, z5, z6, z7]) rfl ⟨a5, rfl, ?_⟩
  repeat (first | with_reducible exact HST5.out | with_reducible refine DStep.setNew ?_ HD.out (fun q hq => List.mem_of_mem_eraseIdx (by rw [Dl.writesTo_busy] at hq; exact hq)) (Nat.le_refl _) nf6' _ _ | with_reducible refine DStep.drewAt ?_)

theorem strs_set {w : World} {q o : Nat} {v : Value} {xa : Option Addr} {xs : List ByteArray} (h : StrsAt w xa xs) (hn : ∀ ad, xa = some ad → ad.block ≠ q) : StrsAt (w.setCell ⟨q, o, none⟩ v) xa xs := strs_frame h (Only.of_set v) (fun _ ad ha => hn ad ha)
set_option linter.unusedSimpArgs false in
set_option maxRecDepth 100000 in
set_option maxHeartbeats 2000000 in
theorem end_read (b : Nat) (d : Dl) (a : An) (k : Nat) (hk : k < d.busy.length) (w : World) (h : DevAt b d a w) (gr : Good d.busy[k]) (hw : d.busy[k].wr = false) :
    Calls Try.prog 16 #[.pointer (some ⟨b, 0, none⟩), .int .i64 k, .bool false] w fun e w' => ∃ a' xa xc, e = .returned (.tuple #[resV d.busy[k] xa (readTo d d.busy[k].f.toNat d.busy[k].m.toNat).length xc 0, .nilIface]) ∧ StrsAt w' xa (readTo d d.busy[k].f.toNat d.busy[k].m.toNat) ∧ (xa = none → xc = 0) ∧ (∀ ad, xa = some ad → w.heap.size ≤ ad.block ∧ ¬ a'.foot b ad.block) ∧ DStep b d a { d with busy := d.busy.eraseIdx k } a' w w' := by
  have HRA := hidT (h.reqs _ (List.getElem_mem hk))
  have GR := hidT gr
  have HW := hidT hw
  clear gr hw
  have hl := h.lt; have HD := hidT h; have h0 : ¬ (k : Int) < 0 := (by omega); have h1 : ¬ (d.busy.length : Int) ≤ (k : Int) := (by omega); have h2 : (k : Int) < (d.busy.length : Int) := (by omega); have hk2 : (k : Int) ≤ 1 := (by have := h.blen; omega); have hR := h.reqsAt; have c := h.c66; obtain ⟨g, hg0, lg⟩ := h.place hk; rw [hg0] at hR c; obtain ⟨r0, r1, r2, r3, r4, r5⟩ := hR.cells hk; simp only [Nat.zero_add] at r0 r1 r2 r3 r4 r5; have HG0 := hidT hg0; clear h hR hg0
  generalize hr : d.busy[k] = r at *
  have HRR := hidT hr
  clear hr
  go_enter Try.func16, Try.ntmps16; go_wp2_with fail; have hbr := (HD.out.later (below2 w (.cells #[.bool false, .int .i64 0, .int .i64 0, .slice none 0 0, .slice none 0 0, .int .i64 0, .slice none 0 0, .int .i64 0] 49) (.cells #[.bool r.wr, .int .i64 r.f, .int .i64 r.m, .slice r.da r.data.length r.dc, .slice r.ta r.tags.length r.tc, .int .i64 r.born] 38))).brow; rw [HG0.out] at hbr; refine (delR d.busy g a.bc k _ hk hbr).mono ?_; rintro e w3 ⟨rfl, hown3, hg3⟩; have hz2 := (zero_new w 49).only (F := fun _ => False) ((Only.refl _ _).alloc (.cells #[.bool r.wr, .int .i64 r.f, .int .i64 r.m, .slice r.da r.data.length r.dc, .slice r.ta r.tags.length r.tc, .int .i64 r.born] 38)) (fun e => e); have hx2 := box_new (w.alloc (.cells #[.bool false, .int .i64 0, .int .i64 0, .slice none 0 0, .slice none 0 0, .int .i64 0, .slice none 0 0, .int .i64 0] 49)) 38 r; rw [World.size_alloc] at hx2; obtain ⟨⟨c3, f3, l3⟩, a', hst, hz4, hx4, nf6, nf8⟩ := ended HD.out hk HG0.out (below2 w _ _) hz2 hx2 hown3 hg3; clear hz2 hx2 hbr hown3 hg3 r0 r1 r2 r3 r4 r5 c
  have HST := hidT hst
  generalize hW : w3.setCell ⟨b, 66, none⟩ (.slice (some ⟨g, 0, none⟩) (d.busy.eraseIdx k).length a.bc) = w4 at *
  clear hst
  have HS : Hid (BoxAt w4.drew (w.heap.size + 1) r) := hx4; have egd : ∀ args w, Sem.run Try.prog (callFunc 57 args) w = .ok (.enter 57 args) w := (by intro args w; go_simp); go_wp2_with fail; refine region_till (S := fun wz => BoxAt wz (w.heap.size + 1) r) (d := 5) (by kernel_rfl) ?_; refine till_take (i := 0) (v := ?_) rfl (by kernel_rfl) (by kernel_rfl) (by kernel_rfl) (by kernel_rfl) (fun _ _ _ h => h) (Or.inl ⟨by rfl, ?_⟩) HS.out ?_; rotate_left; (focus (intro w0 hSw; obtain ⟨s0, s1, s2, s3, s4, s5⟩ := hSw; go_simp; (try with_reducible rfl))); (try simp only [Act.put, List.getElem_toArray, List.getElem_cons_succ, List.getElem_cons_zero, List.setIfInBounds_toArray, List.set_cons_zero, List.set_cons_succ]); refine till_take (i := 1) (v := ?_) rfl (by kernel_rfl) (by kernel_rfl) (by kernel_rfl) (by kernel_rfl) (fun _ _ _ h => h) (Or.inl ⟨by rfl, ?_⟩) HS.out ?_; rotate_left; (focus (intro w0 hSw; obtain ⟨s0, s1, s2, s3, s4, s5⟩ := hSw; go_simp; (try with_reducible rfl))); (try simp only [Act.put, List.getElem_toArray, List.getElem_cons_succ, List.getElem_cons_zero, List.setIfInBounds_toArray, List.set_cons_zero, List.set_cons_succ]); refine till_take (i := 2) (v := ?_) rfl (by kernel_rfl) (by kernel_rfl) (by kernel_rfl) (by kernel_rfl) (fun _ _ _ h => h) (Or.inl ⟨by rfl, ?_⟩) HS.out ?_; rotate_left; (focus (intro w0 hSw; obtain ⟨s0, s1, s2, s3, s4, s5⟩ := hSw; go_simp; (try with_reducible rfl))); (try simp only [Act.put, List.getElem_toArray, List.getElem_cons_succ, List.getElem_cons_zero, List.setIfInBounds_toArray, List.set_cons_zero, List.set_cons_succ]); refine till_one (i := 3) rfl (by kernel_rfl) ?_; intro K hK
  refine step_call2E rfl 57 44 45 25 38 rfl egd (.pointer (some ⟨b, 0, none⟩)) r.val rfl rfl (fun v w5 => ∃ xa xc, v = .slice xa (readTo d r.f.toNat r.m.toNat).length xc ∧ StrsAt w5 xa (readTo d r.f.toNat r.m.toNat) ∧ (xa = none → xc = 0) ∧ (∀ ad, xa = some ad → w4.heap.size ≤ ad.block) ∧ Below w4.heap.size w4.drew w5) ((do_read b _ a' r _ (HST.out.dev.later (Below.refl _ _).drew) GR.out HW.out).mono fun e w' ⟨xa, xc, he, h1, h2, h3, h4⟩ => ⟨_, he, xa, xc, rfl, h1, h2, h3, h4⟩) ?_
  rintro v w5 ⟨xa, xc, rfl, hxs, hxn, hxb, hb5⟩
  have hz5 := hz4.only (F := fun _ => False) (Only.of_below ((Below.refl w4.heap.size w4).drew.trans hb5)) (fun e => e)
  have HX5 := hidT (HS.out.later hb5)
  have HST5 := hidT (HST.out.drewAt.later hb5)
  have HXB := hidT (⟨hxs, hxn, hxb⟩ : _ ∧ _ ∧ _)
  have zl4 := hz4.2.2
  refine hK _ _ (fun _ => HX5.out) ?_
  (try simp only [Act.put, List.getElem_toArray, List.getElem_cons_succ, List.getElem_cons_zero, List.setIfInBounds_toArray, List.set_cons_zero, List.set_cons_succ])
  clear hK hz4 hxs hxn hxb hb5
  obtain ⟨⟨z0, z1, z2, z3, z4, z5, z6, z7⟩, zf, zl⟩ := hz5; refine till_one (i := 4) rfl (by kernel_rfl) ?_; intro K hK; go_simp; refine hK _ _ (fun _ => HX5.out) ?_; (try simp only [Act.put, List.getElem_toArray, List.getElem_cons_succ, List.getElem_cons_zero, List.setIfInBounds_toArray, List.set_cons_zero, List.set_cons_succ]); clear hK; refine till_one (i := 5) rfl (by kernel_rfl) ?_; intro K hK; go_simp; refine hK _ _ (fun h => absurd rfl h) ?_; (try simp only [Act.put, List.getElem_toArray, List.getElem_cons_succ, List.getElem_cons_zero, List.setIfInBounds_toArray, List.set_cons_zero, List.set_cons_succ]); clear hK; refine till_one (i := 6) rfl (by kernel_rfl) ?_; intro K hK; go_simp; refine hK _ _ (fun _ => box8 HX5.out) ?_; (try simp only [Act.put, List.getElem_toArray, List.getElem_cons_succ, List.getElem_cons_zero, List.setIfInBounds_toArray, List.set_cons_zero, List.set_cons_succ]); clear hK; refine till_done (by kernel_rfl) ?_ _; go_wp2
  obtain ⟨hxs, hxn, hxb⟩ := HXB.out
  refine bodyPost_ret (v := .tuple #[resV r xa (readTo d r.f.toNat r.m.toNat).length xc 0, .nilIface]) (by simp [results, Try.results16, go_sem, z0, z1, z2, z3, z4, z5, z6, z7]) rfl ⟨a', xa, xc, rfl, ?_, hxn, fun ad had => ⟨by have := hxb ad had; omega, fun e => ?_⟩, ?_⟩
  · repeat (first | with_reducible exact hxs | with_reducible refine strs_set ?_ (fun ad had => by have := hxb ad had; omega))
  · have h1 := HST.out.dev.footLt _ e
    have h2 := hxb ad had
    omega
  · repeat (first | with_reducible exact HST5.out | with_reducible refine DStep.setNew ?_ HD.out (fun q hq => List.mem_of_mem_eraseIdx hq) (Nat.le_refl _) nf6 _ _ | with_reducible refine DStep.drewAt ?_)
end Go.Proofs.Ythmeaclekedilac
/- Acts on a device, in memory; LightActs. -/
namespace Go.Proofs.Ythmeaclekedilac
open Go.RowKit Go.BigFrame
attribute [local go_sem] Later.cell Later.frozen

/-- What is done to a device. -/
structure Ac where
  kind : ByteArray
  req : Rq
  n : Int
  k : Int
def Ac.cell (x : Ac) : Nat → Value
  | 0 => .string x.kind
  | 1 => .bool x.req.wr
  | 2 => .int .i64 x.req.f
  | 3 => .int .i64 x.req.m
  | 4 => .slice x.req.da x.req.data.length x.req.dc
  | 5 => .slice x.req.ta x.req.tags.length x.req.tc
  | 6 => .int .i64 x.req.born
  | 7 => .int .i64 x.n
  | _ => .int .u64 x.k
abbrev Ac.val (x : Ac) : Value := .agg #[.string x.kind, .bool x.req.wr, .int .i64 x.req.f, .int .i64 x.req.m, .slice x.req.da x.req.data.length x.req.dc, .slice x.req.ta x.req.tags.length x.req.tc, .int .i64 x.req.born, .int .i64 x.n, .int .u64 x.k]
def ActsAt (w : World) (a : Option Addr) (l : List Ac) : Prop :=
  (l = [] ∨ ∃ b o, a = some ⟨b, o, none⟩ ∧ ∀ i (h : i < l.length) j, j < 9 → w.cell? ⟨b, o + i * 9 + j, none⟩ = some (l[i].cell j)) ∧ (∀ x ∈ l, x.req.At w) ∧ l.length ≤ 9223372036854775807
theorem ActsAt.later {w w' : World} {a : Option Addr} {l : List Ac} (h : ActsAt w a l) (hb : Below w.heap.size w w') : ActsAt w' a l := by
  obtain ⟨h1, h2, h3⟩ := h
  refine ⟨?_, fun r hr => (h2 r hr).later hb, h3⟩
  rcases h1 with h | ⟨b, o, ha, hc⟩
  · exact Or.inl h
  · exact Or.inr ⟨b, o, ha, fun i hi j hj => cell_later' hb (hc i hi j hj)⟩
theorem ActsAt.form {w : World} {a : Option Addr} {l : List Ac} (h : ActsAt w a l) : l = [] ∨ ∃ b o, a = some ⟨b, o, none⟩ := by
  rcases h.1 with h | ⟨b, o, ha, _⟩
  · exact Or.inl h
  · exact Or.inr ⟨b, o, ha⟩
theorem ActsAt.cells {w : World} {b o : Nat} {l : List Ac} (h : ActsAt w (some ⟨b, o, none⟩) l) {i : Nat} (hi : i < l.length) :
    w.cell? ⟨b, o + i * 9, none⟩ = some (.string l[i].kind) ∧ w.cell? ⟨b, o + i * 9 + 1, none⟩ = some (.bool l[i].req.wr) ∧ w.cell? ⟨b, o + i * 9 + 2, none⟩ = some (.int .i64 l[i].req.f) ∧ w.cell? ⟨b, o + i * 9 + 3, none⟩ = some (.int .i64 l[i].req.m) ∧ w.cell? ⟨b, o + i * 9 + 4, none⟩ = some (.slice l[i].req.da l[i].req.data.length l[i].req.dc) ∧ w.cell? ⟨b, o + i * 9 + 5, none⟩ = some (.slice l[i].req.ta l[i].req.tags.length l[i].req.tc) ∧ w.cell? ⟨b, o + i * 9 + 6, none⟩ = some (.int .i64 l[i].req.born) ∧ w.cell? ⟨b, o + i * 9 + 7, none⟩ = some (.int .i64 l[i].n) ∧ w.cell? ⟨b, o + i * 9 + 8, none⟩ = some (.int .u64 l[i].k) := by
  rcases h.1 with rfl | ⟨b', o', ha, hc⟩
  · exact absurd hi (Nat.not_lt_zero _)
  · simp only [Option.some.injEq, Addr.mk.injEq, and_true] at ha
    obtain ⟨rfl, rfl⟩ := ha
    exact ⟨hc i hi 0 (by omega), hc i hi 1 (by omega), hc i hi 2 (by omega), hc i hi 3 (by omega), hc i hi 4 (by omega), hc i hi 5 (by omega), hc i hi 6 (by omega), hc i hi 7 (by omega), hc i hi 8 (by omega)⟩
def lightsA (l : List Ac) (n : Nat) : Bool := decide (l.length ≤ n) && l.all fun x => lightB x.req
set_option maxHeartbeats 400000 in
theorem lightsA_long (l : List Ac) (a : Option Addr) (c n : Nat) (w : World) (_h3 : l.length ≤ 9223372036854775807) (h1 : n < l.length) :
    Calls Try.prog 10 #[.slice a l.length c, .int .i64 n] w fun e w' => e = .returned (.bool false) ∧ Below w.heap.size w w' := by
  have h1' : (n : Int) < (l.length : Int) := by omega
  go_enter Try.func10, Try.ntmps10
  go_wp2
  go_ret
  exact ⟨rfl, by repeat (first | with_reducible exact Below.refl _ _ | with_reducible refine balloc ?_ _ | with_reducible refine bdrew ?_ | with_reducible refine bset' ?_ (by omega) _ | with_reducible refine bthen ?_ (by assumption))⟩
set_option maxHeartbeats 1000000 in
theorem lightsA_short (l : List Ac) (a : Option Addr) (c n : Nat) (w : World) (hl : ActsAt w a l) (h1 : l.length ≤ n) (hn : n ≤ 1000) :
    Calls Try.prog 10 #[.slice a l.length c, .int .i64 n] w fun e w' => e = .returned (.bool (l.all fun x => lightB x.req)) ∧ Below w.heap.size w w' := by
  have h1' : ¬ (n : Int) < (l.length : Int) := by omega
  rcases hl.form with rfl | ⟨b, o, rfl⟩
  · go_enter Try.func10, Try.ntmps10
    go_wp2
    go_loop [5] (fun i => i = .int .i64 0) (fun _ => 0)
    case atStart => rfl
    case round =>
      subst hrel
      go_wp2
      go_ret
      exact ⟨rfl, by repeat (first | with_reducible exact Below.refl _ _ | with_reducible refine balloc ?_ _ | with_reducible refine bdrew ?_ | with_reducible refine bset' ?_ (by omega) _ | with_reducible refine bthen ?_ (by assumption))⟩
  have HL : Hid (ActsAt w (some ⟨b, o, none⟩) l) := hl
  have hlen := hl.2.2
  clear hl
  go_enter Try.func10, Try.ntmps10
  go_wp2
  go_loopw [5] (fun i wr => ∃ k : Nat, k ≤ l.length ∧ i = .int .i64 k ∧ ((l.take k).all fun x => lightB x.req) = true ∧ Below w.heap.size w wr) (fun i _ => l.length - (intOf i).toNat)
  case atStart => exact ⟨0, by omega, rfl, rfl, Below.refl _ _⟩
  case round =>
    obtain ⟨k, hk, rfl, hno, HB⟩ := hrel
    have HN : Hid (((l.take k).all fun x => lightB x.req) = true) := hno
    clear hno
    by_cases hlt : k < l.length
    · obtain ⟨c0, c1, c2, c3, c4, c5, c6, c7, c8⟩ := (HL.out.later HB).cells hlt
      have hlt' : (k : Int) < (l.length : Int) := by omega
      have hat : Hid (l[k].req.At wr) := (HL.out.later HB).2.1 _ (List.getElem_mem hlt)
      cases hb : lightB l[k].req
      · go_wp2_with fail
        refine (light_any l[k].req _ hat.out _ hb).mono ?_
        rintro e w1 ⟨rfl, hbx⟩
        go_wp2
        go_ret
        exact ⟨ret_bool (all_stop hlt hb).symm, bthen HB hbx⟩
      · go_wp2_with fail
        refine (light_any l[k].req _ hat.out _ hb).mono ?_
        rintro e w1 ⟨rfl, hbx⟩
        go_wp2
        go_roundw
        case rel => exact ⟨k + 1, by omega, by go_num, all_take hlt HN.out hb, bthen HB hbx⟩
        case measure => simp [intOf]; omega
    · go_wp2
      go_ret
      exact ⟨ret_bool (all_end (by omega) HN.out).symm, HB⟩
theorem lightsA_any (l : List Ac) (a : Option Addr) (c n : Nat) (w : World) (hl : ActsAt w a l) (hn : n ≤ 1000) (b : Bool) (hb : lightsA l n = b) :
    Calls Try.prog 10 #[.slice a l.length c, .int .i64 n] w fun e w' => e = .returned (.bool b) ∧ Below w.heap.size w w' := by
  subst hb
  unfold lightsA
  by_cases h : l.length ≤ n
  · rw [decide_eq_true h, Bool.true_and]; exact lightsA_short l a c n w hl h hn
  · rw [decide_eq_false h, Bool.false_and]; exact lightsA_long l a c n w hl.2.2 (by omega)
end Go.Proofs.Ythmeaclekedilac
/- request.Check: what is wrong with a request, as B1 says. -/
namespace Go.Proofs.Ythmeaclekedilac
open Go.RowKit Go.BigFrame
attribute [local go_sem] Later.cell Later.frozen

def longB (s : ByteArray) : Bool := decide (4 < s.size)

set_option maxHeartbeats 400000 in
theorem tooLong_any (s : ByteArray) (w : World) (b : Bool) (hb : longB s = b) :
    Calls Try.prog 75 #[.string s] w fun e w' => e = .returned (.bool b) ∧ Below w.heap.size w w' := by
  subst hb
  go_enter Try.func75, Try.ntmps75
  go_wp2
  go_ret
  exact ⟨ret_bool (by simp only [longB]; rw [decide_eq_decide]; omega), by repeat (first | with_reducible exact Below.refl _ _ | with_reducible refine balloc ?_ _ | with_reducible refine bdrew ?_ | with_reducible refine bset' ?_ (by omega) _ | with_reducible refine bthen ?_ (by assumption))⟩

set_option maxHeartbeats 400000 in
theorem dataOf_any (r : Rq) (w : World) :
    Calls Try.prog 73 #[r.val] w fun e w' => e = .returned (.int .i64 (if r.wr = true then r.m else 0)) ∧ Below w.heap.size w w' := by
  obtain ⟨wr, f, m, da, dc, data, ta, tc, tags, born⟩ := r
  cases wr
  all_goals
    go_enter Try.func73, Try.ntmps73
    go_wp2
    go_ret
    exact ⟨rfl, by repeat (first | with_reducible exact Below.refl _ _ | with_reducible refine balloc ?_ _ | with_reducible refine bdrew ?_ | with_reducible refine bset' ?_ (by omega) _ | with_reducible refine bthen ?_ (by assumption))⟩

set_option maxHeartbeats 1000000 in
theorem indexS_any (xs : List ByteArray) (a : Option Addr) (c : Nat) (w : World) (hx : StrsAt w a xs) (hl : xs.length ≤ 9223372036854775807) :
    Calls Try.prog 84 #[.slice a xs.length c, .func (.func 75) #[] #[]] w fun e w' => ∃ n : Int, e = .returned (.int .i64 n) ∧ decide (0 ≤ n) = xs.any longB ∧ Below w.heap.size w w' := by
  rcases hx with rfl | ⟨b, o, rfl, hc⟩
  · go_enter Try.func84, Try.ntmps84
    go_wp2
    go_loop [8] (fun i => i = .int .i64 0) (fun _ => 0)
    case atStart => rfl
    case round =>
      subst hrel
      go_wp2
      go_ret
      exact ⟨-1, rfl, by first | rfl | decide, Below.refl _ _⟩
  go_enter Try.func84, Try.ntmps84
  go_wp2
  go_loopw [8] (fun i wr => ∃ k : Nat, k ≤ xs.length ∧ i = .int .i64 k ∧ (xs.take k).any longB = false ∧ Below w.heap.size w wr) (fun i _ => xs.length - (intOf i).toNat)
  case atStart => exact ⟨0, by omega, rfl, by simp, Below.refl _ _⟩
  case round =>
    obtain ⟨k, hk, rfl, hno, HB⟩ := hrel
    have HN : Hid ((xs.take k).any longB = false) := hno
    clear hno
    by_cases hlt : k < xs.length
    · have c0 := cell_later' HB (hc k hlt)
      have hgd : xs.getD k ByteArray.empty = xs[k] := by simp [hlt]
      rw [hgd] at c0
      clear hgd hc
      have l0 := lt_of_cell c0
      have i0 : decide ((k : Int) < 0) = false := decide_eq_false (by omega)
      have i1 : decide ((xs.length : Int) ≤ (k : Int)) = false := decide_eq_false (by omega)
      have i1' : decide (xs.length ≤ k) = false := decide_eq_false (by omega)
      cases hlb : longB xs[k]
      · go_wp2_with fail
        refine (tooLong_any _ _ _ hlb).mono ?_
        rintro e w1 ⟨rfl, hb⟩
        replace HB := bthen HB hb
        clear hb
        go_wp2
        go_roundw
        case rel => exact ⟨k + 1, by omega, by go_num, by rw [List.take_add_one, List.getElem?_eq_getElem hlt, List.any_append, HN.out]; simp [hlb], HB⟩
        case measure => simp [intOf]; omega
      · go_wp2_with fail
        refine (tooLong_any _ _ _ hlb).mono ?_
        rintro e w1 ⟨rfl, hb⟩
        replace HB := bthen HB hb
        clear hb
        go_wp2
        go_ret
        exact ⟨k, rfl, by rw [List.any_eq_true.2 ⟨xs[k], List.getElem_mem _, hlb⟩]; exact decide_eq_true (by omega), by repeat (first | with_reducible exact Below.refl _ _ | with_reducible refine balloc ?_ _ | with_reducible refine bdrew ?_ | with_reducible refine bset' ?_ (by omega) _ | with_reducible refine bthen ?_ (by assumption))⟩
    · have hkl : k = xs.length := by omega
      have HN2 : Hid (xs.any longB = false) := by have := HN.out; rw [hkl, List.take_length] at this; exact this
      subst hkl
      go_wp2
      go_ret
      exact ⟨-1, rfl, by rw [HN2.out]; rfl, by repeat (first | with_reducible exact Below.refl _ _ | with_reducible refine balloc ?_ _ | with_reducible refine bdrew ?_ | with_reducible refine bset' ?_ (by omega) _ | with_reducible refine bthen ?_ (by assumption))⟩

set_option maxHeartbeats 400000 in
theorem containsS_any (xs : List ByteArray) (a : Option Addr) (c : Nat) (w : World) (hx : StrsAt w a xs) (hl : xs.length ≤ 9223372036854775807) (b : Bool) (hb : xs.any longB = b) :
    Calls Try.prog 74 #[.slice a xs.length c, .func (.func 75) #[] #[]] w fun e w' => e = .returned (.bool b) ∧ Below w.heap.size w w' := by
  go_enter Try.func74, Try.ntmps74
  go_wp2_with fail
  refine (indexS_any xs a c _ hx hl).mono ?_
  rintro e w1 ⟨n, rfl, hn, HB⟩
  rw [hb] at hn
  clear hb
  go_wp2
  go_ret
  exact ⟨rfl, by repeat (first | with_reducible exact Below.refl _ _ | with_reducible refine balloc ?_ _ | with_reducible refine bdrew ?_ | with_reducible refine bset' ?_ (by omega) _ | with_reducible refine bthen ?_ (by assumption))⟩
end Go.Proofs.Ythmeaclekedilac
/- request.Check of any request: the error that B1 names. -/
namespace Go.Proofs.Ythmeaclekedilac
open Go.RowKit Go.BigFrame
attribute [local go_sem] Later.cell Later.frozen

theorem dataOf_eq (r : Rq) (w : World) (D : Int) (hD : (if r.wr = true then r.m else 0) = D) :
    Calls Try.prog 73 #[r.val] w fun e w' => e = .returned (.int .i64 D) ∧ Below w.heap.size w w' := by
  subst hD; exact dataOf_any r w
def errN (n : Int) : Value := .iface 47 (.int .i64 n)

set_option maxHeartbeats 400000 in
theorem rcheck_span (r : Rq) (w : World) (h : okB r.f r.m 4 = false) :
    Calls Try.prog 50 #[r.val] w fun e w' => e = .returned (.iface 47 (.int .i64 1)) ∧ Below w.heap.size w w' := by
  obtain ⟨wr, f, m, da, dc, data, ta, tc, tags, born⟩ := r
  simp only at h
  go_enter Try.func50, Try.ntmps50
  go_wp2_with fail
  go_at_call 72; refine (check_no _ _ _ _ h).mono ?_; rintro e w1 ⟨rfl, hb⟩; (try clear hc hf hz); (first | replace HB := bthen HB hb | replace HB := bthen (bdrew HB) hb | have HB := hb); clear hb; obtain ⟨hc, hf, hz⟩ := bcell HB
  go_wp2
  go_ret
  exact ⟨rfl, by repeat (first | with_reducible exact Below.refl _ _ | with_reducible refine balloc ?_ _ | with_reducible refine bdrew ?_ | with_reducible refine bset' ?_ (by omega) _ | with_reducible refine bthen ?_ (by assumption))⟩

set_option maxHeartbeats 1000000 in
theorem rcheck_shape (r : Rq) (w : World) (hr : r.At w) (h : okB r.f r.m 4 = true) (D : Int) (hD : (if r.wr = true then r.m else 0) = D) (h2 : ((r.data.length : Int) != D) = true) :
    Calls Try.prog 50 #[r.val] w fun e w' => e = .returned (.iface 47 (.int .i64 3)) ∧ Below w.heap.size w w' := by
  have HD : Hid ((if r.wr = true then r.m else 0) = D) := hD
  clear hD
  have l1 := hr.dl
  have l2 := hr.tl
  all_goals
    go_enter Try.func50, Try.ntmps50
    go_wp2_with fail
    go_at_call 72; refine (check_yes _ _ _ _ h).mono ?_; rintro e w1 ⟨rfl, hb⟩; (try clear hc hf hz); (first | replace HB := bthen HB hb | replace HB := bthen (bdrew HB) hb | have HB := hb); clear hb; obtain ⟨hc, hf, hz⟩ := bcell HB
    go_wp2_with fail
    refine wp_region_later (by first | exact HB | exact bdrew HB | exact Below.refl _ _) (by kernel_rfl) (by kernel_rfl) ?_
    repeat (go_big_quiet_step (first | exact rfl | (go_at_call 73; exact calls_later (dataOf_eq r _ D HD.out))))
    refine wpQuiet_nil ?_; intro _ hw'; obtain ⟨p, hw''⟩ := hw'; subst hw''; (try clear hc hf hz); (try clear HB); have HB := p.below; obtain ⟨hc, hf, hz⟩ := bcell HB
    go_wp2
    go_ret
    exact ⟨rfl, by repeat (first | with_reducible exact Below.refl _ _ | with_reducible refine balloc ?_ _ | with_reducible refine bdrew ?_ | with_reducible refine bset' ?_ (by omega) _ | with_reducible refine bthen ?_ (by assumption))⟩

set_option maxHeartbeats 1000000 in
theorem rcheck_tags (r : Rq) (w : World) (hr : r.At w) (h : okB r.f r.m 4 = true) (D : Int) (hD : (if r.wr = true then r.m else 0) = D) (h2 : ((r.data.length : Int) != D) = false) (h3 : r.tags.length < 1 ∨ 4 < r.tags.length) :
    Calls Try.prog 50 #[r.val] w fun e w' => e = .returned (.iface 47 (.int .i64 3)) ∧ Below w.heap.size w w' := by
  have HD : Hid ((if r.wr = true then r.m else 0) = D) := hD
  clear hD
  have l1 := hr.dl
  have l2 := hr.tl
  rcases h3 with h3 | h3
  all_goals
    go_enter Try.func50, Try.ntmps50
    go_wp2_with fail
    go_at_call 72; refine (check_yes _ _ _ _ h).mono ?_; rintro e w1 ⟨rfl, hb⟩; (try clear hc hf hz); (first | replace HB := bthen HB hb | replace HB := bthen (bdrew HB) hb | have HB := hb); clear hb; obtain ⟨hc, hf, hz⟩ := bcell HB
    go_wp2_with fail
    refine wp_region_later (by first | exact HB | exact bdrew HB | exact Below.refl _ _) (by kernel_rfl) (by kernel_rfl) ?_
    repeat (go_big_quiet_step (first | exact rfl | (go_at_call 73; exact calls_later (dataOf_eq r _ D HD.out))))
    refine wpQuiet_nil ?_; intro _ hw'; obtain ⟨p, hw''⟩ := hw'; subst hw''; (try clear hc hf hz); (try clear HB); have HB := p.below; obtain ⟨hc, hf, hz⟩ := bcell HB
    go_wp2
    go_ret
    exact ⟨rfl, by repeat (first | with_reducible exact Below.refl _ _ | with_reducible refine balloc ?_ _ | with_reducible refine bdrew ?_ | with_reducible refine bset' ?_ (by omega) _ | with_reducible refine bthen ?_ (by assumption))⟩

set_option maxHeartbeats 1000000 in
theorem rcheck_born (r : Rq) (w : World) (hr : r.At w) (h : okB r.f r.m 4 = true) (D : Int) (hD : (if r.wr = true then r.m else 0) = D) (h2 : ((r.data.length : Int) != D) = false) (t1 : ¬ r.tags.length < 1) (t2 : ¬ 4 < r.tags.length) (h4 : r.born < 0 ∨ (0 ≤ r.born ∧ 1000000000 < r.born)) :
    Calls Try.prog 50 #[r.val] w fun e w' => e = .returned (.iface 47 (.int .i64 1)) ∧ Below w.heap.size w w' := by
  have HD : Hid ((if r.wr = true then r.m else 0) = D) := hD
  clear hD
  have l1 := hr.dl
  have l2 := hr.tl
  rcases h4 with h4 | ⟨h4, h5⟩
  all_goals
    go_enter Try.func50, Try.ntmps50
    go_wp2_with fail
    go_at_call 72; refine (check_yes _ _ _ _ h).mono ?_; rintro e w1 ⟨rfl, hb⟩; (try clear hc hf hz); (first | replace HB := bthen HB hb | replace HB := bthen (bdrew HB) hb | have HB := hb); clear hb; obtain ⟨hc, hf, hz⟩ := bcell HB
    go_wp2_with fail
    refine wp_region_later (by first | exact HB | exact bdrew HB | exact Below.refl _ _) (by kernel_rfl) (by kernel_rfl) ?_
    repeat (go_big_quiet_step (first | exact rfl | (go_at_call 73; exact calls_later (dataOf_eq r _ D HD.out))))
    refine wpQuiet_nil ?_; intro _ hw'; obtain ⟨p, hw''⟩ := hw'; subst hw''; (try clear hc hf hz); (try clear HB); have HB := p.below; obtain ⟨hc, hf, hz⟩ := bcell HB
    go_wp2
    go_ret
    exact ⟨rfl, by repeat (first | with_reducible exact Below.refl _ _ | with_reducible refine balloc ?_ _ | with_reducible refine bdrew ?_ | with_reducible refine bset' ?_ (by omega) _ | with_reducible refine bthen ?_ (by assumption))⟩

set_option maxHeartbeats 1000000 in
theorem rcheck_long (r : Rq) (w : World) (hr : r.At w) (h : okB r.f r.m 4 = true) (D : Int) (hD : (if r.wr = true then r.m else 0) = D) (h2 : ((r.data.length : Int) != D) = false) (t1 : ¬ r.tags.length < 1) (t2 : ¬ 4 < r.tags.length) (h4 : 0 ≤ r.born) (h5 : r.born ≤ 1000000000) (h6 : r.data.any longB = true) :
    Calls Try.prog 50 #[r.val] w fun e w' => e = .returned (.iface 47 (.int .i64 1)) ∧ Below w.heap.size w w' := by
  have HD : Hid ((if r.wr = true then r.m else 0) = D) := hD
  clear hD
  have l1 := hr.dl
  have l2 := hr.tl
  all_goals
    go_enter Try.func50, Try.ntmps50
    go_wp2_with fail
    go_at_call 72; refine (check_yes _ _ _ _ h).mono ?_; rintro e w1 ⟨rfl, hb⟩; (try clear hc hf hz); (first | replace HB := bthen HB hb | replace HB := bthen (bdrew HB) hb | have HB := hb); clear hb; obtain ⟨hc, hf, hz⟩ := bcell HB
    go_wp2_with fail
    refine wp_region_later (by first | exact HB | exact bdrew HB | exact Below.refl _ _) (by kernel_rfl) (by kernel_rfl) ?_
    repeat (go_big_quiet_step (first | exact rfl | (go_at_call 73; exact calls_later (dataOf_eq r _ D HD.out))))
    refine wpQuiet_nil ?_; intro _ hw'; obtain ⟨p, hw''⟩ := hw'; subst hw''; (try clear hc hf hz); (try clear HB); have HB := p.below; obtain ⟨hc, hf, hz⟩ := bcell HB
    go_wp2_with fail
    go_at_call 74; refine (containsS_any r.data _ _ _ (hr.data.later (by repeat (first | with_reducible exact Below.refl _ _ | with_reducible refine balloc ?_ _ | with_reducible refine bdrew ?_ | with_reducible refine bset' ?_ (by omega) _ | with_reducible refine bthen ?_ (by assumption)))) l1 _ h6).mono ?_; rintro e w1 ⟨rfl, hb⟩; (try clear hc hf hz); (first | replace HB := bthen HB hb | replace HB := bthen (bdrew HB) hb | have HB := hb); clear hb; obtain ⟨hc, hf, hz⟩ := bcell HB
    go_wp2
    go_ret
    exact ⟨rfl, by repeat (first | with_reducible exact Below.refl _ _ | with_reducible refine balloc ?_ _ | with_reducible refine bdrew ?_ | with_reducible refine bset' ?_ (by omega) _ | with_reducible refine bthen ?_ (by assumption))⟩

set_option maxHeartbeats 1000000 in
theorem rcheck_fine (r : Rq) (w : World) (hr : r.At w) (h : okB r.f r.m 4 = true) (D : Int) (hD : (if r.wr = true then r.m else 0) = D) (h2 : ((r.data.length : Int) != D) = false) (t1 : ¬ r.tags.length < 1) (t2 : ¬ 4 < r.tags.length) (h4 : 0 ≤ r.born) (h5 : r.born ≤ 1000000000) (h6 : r.data.any longB = false) :
    Calls Try.prog 50 #[r.val] w fun e w' => e = .returned .nilIface ∧ Below w.heap.size w w' := by
  have HD : Hid ((if r.wr = true then r.m else 0) = D) := hD
  clear hD
  have l1 := hr.dl
  have l2 := hr.tl
  all_goals
    go_enter Try.func50, Try.ntmps50
    go_wp2_with fail
    go_at_call 72; refine (check_yes _ _ _ _ h).mono ?_; rintro e w1 ⟨rfl, hb⟩; (try clear hc hf hz); (first | replace HB := bthen HB hb | replace HB := bthen (bdrew HB) hb | have HB := hb); clear hb; obtain ⟨hc, hf, hz⟩ := bcell HB
    go_wp2_with fail
    refine wp_region_later (by first | exact HB | exact bdrew HB | exact Below.refl _ _) (by kernel_rfl) (by kernel_rfl) ?_
    repeat (go_big_quiet_step (first | exact rfl | (go_at_call 73; exact calls_later (dataOf_eq r _ D HD.out))))
    refine wpQuiet_nil ?_; intro _ hw'; obtain ⟨p, hw''⟩ := hw'; subst hw''; (try clear hc hf hz); (try clear HB); have HB := p.below; obtain ⟨hc, hf, hz⟩ := bcell HB
    go_wp2_with fail
    go_at_call 74; refine (containsS_any r.data _ _ _ (hr.data.later (by repeat (first | with_reducible exact Below.refl _ _ | with_reducible refine balloc ?_ _ | with_reducible refine bdrew ?_ | with_reducible refine bset' ?_ (by omega) _ | with_reducible refine bthen ?_ (by assumption)))) l1 _ h6).mono ?_; rintro e w1 ⟨rfl, hb⟩; (try clear hc hf hz); (first | replace HB := bthen HB hb | replace HB := bthen (bdrew HB) hb | have HB := hb); clear hb; obtain ⟨hc, hf, hz⟩ := bcell HB
    go_wp2
    go_ret
    exact ⟨rfl, by repeat (first | with_reducible exact Below.refl _ _ | with_reducible refine balloc ?_ _ | with_reducible refine bdrew ?_ | with_reducible refine bset' ?_ (by omega) _ | with_reducible refine bthen ?_ (by assumption))⟩

def errOf (n : Int) : Value := if n = 0 then .nilIface else .iface 47 (.int .i64 n)
theorem shape_D (r : Rq) (D : Int) (hD : (if r.wr = true then r.m else 0) = D) : ((r.data.length : Int) != D) = !(shapeB r) := by
  subst hD
  unfold shapeB
  cases r.wr
  all_goals
    simp only [if_true, if_false, Bool.false_eq_true]
    rw [Bool.eq_iff_iff]
    simp only [bne_iff_ne, Bool.not_eq_true', decide_eq_false_iff_not, ne_eq]
    try omega
theorem long_small (r : Rq) : r.data.any longB = !(small4 r) := by
  unfold small4
  rw [List.not_all_eq_any_not]
  congr 1
  funext s
  simp only [longB]
  rw [← decide_not]
  congr 1
  simp
/-- request.Check says what B1 says. -/
theorem rcheck_any (r : Rq) (w : World) (hr : r.At w) (n : Int) (hn : faultR r = n) :
    Calls Try.prog 50 #[r.val] w fun e w' => e = .returned (errOf n) ∧ Below w.heap.size w w' := by
  subst hn
  unfold faultR
  have hD := shape_D r _ rfl
  by_cases h : okB r.f r.m 4 = false
  · rw [if_pos h]; exact rcheck_span r w h
  · rw [if_neg h]
    have h' : okB r.f r.m 4 = true := by simpa using h
    by_cases h2 : shapeB r = false
    · rw [if_pos h2]; exact rcheck_shape r w hr h' _ rfl (by rw [hD, h2]; rfl)
    · rw [if_neg h2]
      have h2' : ((r.data.length : Int) != (if r.wr = true then r.m else 0)) = false := by
        rw [hD]; simpa using h2
      by_cases h3 : r.tags.length < 1 ∨ 4 < r.tags.length
      · rw [if_pos h3]; exact rcheck_tags r w hr h' _ rfl h2' h3
      · rw [if_neg h3]
        by_cases h4 : r.born < 0 ∨ 1000000000 < r.born
        · rw [if_pos h4]; exact rcheck_born r w hr h' _ rfl h2' (by omega) (by omega) (by omega)
        · rw [if_neg h4]
          have hls := long_small r
          cases hs : small4 r
          · rw [hs] at hls; exact rcheck_long r w hr h' _ rfl h2' (by omega) (by omega) (by omega) (by omega) hls
          · rw [hs] at hls; exact rcheck_fine r w hr h' _ rfl h2' (by omega) (by omega) (by omega) (by omega) hls
end Go.Proofs.Ythmeaclekedilac
/- A request is done at once: written (of weighbridgetop). -/
namespace Go.Proofs.Ythmeaclekedilac
open Go.RowKit Go.BigFrame
attribute [local go_sem] Later.cell Later.frozen

theorem errOf0 : errOf 0 = .nilIface := rfl
theorem errOfN {n : Int} (h : ¬ n = 0) : errOf n = .iface 47 (.int .i64 n) := by rw [errOf, if_neg h]
theorem rcheck_nil (r : Rq) (w : World) (hr : r.At w) (hn : faultR r = 0) : Calls Try.prog 50 #[r.val] w fun e w' => e = .returned .nilIface ∧ Below w.heap.size w w' := by
  have := rcheck_any r w hr 0 hn
  rwa [errOf0] at this
theorem rcheck_err (r : Rq) (w : World) (hr : r.At w) (hn : ¬ faultR r = 0) : Calls Try.prog 50 #[r.val] w fun e w' => e = .returned (.iface 47 (.int .i64 (faultR r))) ∧ Below w.heap.size w w' := by
  have := rcheck_any r w hr _ rfl
  rwa [errOfN hn] at this
/-- What a device has when a request is done. -/
def Dl.did (d : Dl) (r : Rq) : Dl := if r.wr = true then d.writesTo r r.m.toNat else d
theorem Dl.did_busy (d : Dl) (r : Rq) : (d.did r).busy = d.busy := by unfold Dl.did; split; exact Dl.writesTo_busy _ _ _; rfl
theorem busy_back (d : Dl) (r : Rq) (h : d.busy = []) : ({ d with busy := (d.busy ++ [r]).eraseIdx 0 } : Dl) = d := by cases d; simp only at h; subst h; rfl
theorem noBusy (d : Dl) (h : d.busy = []) : ({ d with busy := [] } : Dl) = d := by cases d; simp only at h; subst h; rfl
def didRead (d : Dl) (r : Rq) : List ByteArray := if r.wr = true then [] else readTo d r.f.toNat r.m.toNat
/-- End of the only request that it has. -/
theorem end_only (b : Nat) (d : Dl) (r : Rq) (a : An) (w : World) (hd : d.busy = []) (h : DevAt b { d with busy := [r] } a w) (gr : Good r) :
    Calls Try.prog 16 #[.pointer (some ⟨b, 0, none⟩), .int .i64 0, .bool false] w fun e w' => ∃ a' xa xc xs, e = .returned (.tuple #[resV r xa (List.length xs) xc 0, .nilIface]) ∧ Hid (xs = didRead d r) ∧ StrsAt w' xa xs ∧ (∀ ad, xa = some ad → w.heap.size ≤ ad.block ∧ ¬ a'.foot b ad.block) ∧ DStep b { d with busy := [r] } a (d.did r) a' w w' := by
  have hk : 0 < ({ d with busy := [r] } : Dl).busy.length := by simp
  by_cases hw : r.wr = true
  · have := end_write b { d with busy := [r] } a 0 hk w h gr hw
    simp only [List.getElem_cons_zero, List.eraseIdx_cons_zero, noBusy d hd] at this
    refine this.mono ?_
    rintro e w' ⟨a', rfl, hs⟩
    refine ⟨a', none, 0, [], rfl, by show _ = _; rw [didRead, if_pos hw], Or.inl rfl, by simp, ?_⟩
    rw [Dl.did, if_pos hw]; exact hs
  · have hw' : r.wr = false := by simpa using hw
    have := end_read b { d with busy := [r] } a 0 hk w h gr hw'
    simp only [List.getElem_cons_zero, List.eraseIdx_cons_zero, noBusy d hd] at this
    refine this.mono ?_
    rintro e w' ⟨a', xa, xc, rfl, h1, h2, h3, hs⟩
    refine ⟨a', xa, xc, _, rfl, by show _ = _; rw [didRead, if_neg hw]; rfl, h1, h3, ?_⟩
    rw [Dl.did, if_neg hw]; exact hs
/-- An act in a block of its own. -/
def ActBox (w : World) (q : Nat) (x : Ac) : Prop := w.cell? ⟨q, 1, none⟩ = some (.bool x.req.wr) ∧ w.cell? ⟨q, 2, none⟩ = some (.int .i64 x.req.f) ∧ w.cell? ⟨q, 3, none⟩ = some (.int .i64 x.req.m) ∧ w.cell? ⟨q, 4, none⟩ = some (.slice x.req.da x.req.data.length x.req.dc) ∧ w.cell? ⟨q, 5, none⟩ = some (.slice x.req.ta x.req.tags.length x.req.tc) ∧ w.cell? ⟨q, 6, none⟩ = some (.int .i64 x.req.born)
theorem ActBox.later {w w' : World} {q : Nat} {x : Ac} (h : ActBox w q x) (hb : Below w.heap.size w w') : ActBox w' q x := by
  obtain ⟨h0, h1, h2, h3, h4, h5⟩ := h
  exact ⟨cell_later' hb h0, cell_later' hb h1, cell_later' hb h2, cell_later' hb h3, cell_later' hb h4, cell_later' hb h5⟩
theorem act_new (w : World) (T : TypeId) (x : Ac) : ActBox (w.alloc (.cells #[.string x.kind, .bool x.req.wr, .int .i64 x.req.f, .int .i64 x.req.m, .slice x.req.da x.req.data.length x.req.dc, .slice x.req.ta x.req.tags.length x.req.tc, .int .i64 x.req.born, .int .i64 x.n, .int .u64 x.k] T)) w.heap.size x := by
  refine ⟨?_, ?_, ?_, ?_, ?_, ?_⟩ <;> simp
set_option maxHeartbeats 1000000 in
theorem written_no (b : Nat) (x : Ac) (w : World) (hr : x.req.At w) (hn : ¬ faultR x.req = 0) :
    Calls Try.prog 48 #[.pointer (some ⟨b, 0, none⟩), x.val] w fun e w' => e = .returned (.bool false) ∧ Below w.heap.size w w' := by
  have HN := hidT hn
  clear hn
  go_enter Try.func48, Try.ntmps48
  go_wp2_with fail
  refine (rcheck_err x.req _ (hr.later (by repeat (first | with_reducible exact Below.refl _ _ | with_reducible refine balloc ?_ _ | with_reducible refine bdrew ?_ | with_reducible refine bset' ?_ (by omega) _ | with_reducible refine bthen ?_ (by assumption)))) HN.out).mono ?_
  rintro e w1 ⟨rfl, hb1⟩
  go_wp2
  go_ret
  exact ⟨rfl, by repeat (first | with_reducible exact Below.refl _ _ | with_reducible refine balloc ?_ _ | with_reducible refine bdrew ?_ | with_reducible refine bset' ?_ (by omega) _ | with_reducible refine bthen ?_ (by assumption))⟩
set_option maxRecDepth 100000 in
set_option maxHeartbeats 1000000 in
theorem written_yes (b : Nat) (d : Dl) (a : An) (x : Ac) (w : World) (h : DevAt b d a w) (hd : d.busy = []) (hr : x.req.At w) (ho : x.req.Off (a.foot b)) (hn : faultR x.req = 0) :
    Calls Try.prog 48 #[.pointer (some ⟨b, 0, none⟩), x.val] w fun e w' => ∃ a', e = .returned (.bool true) ∧ DStep b d a (d.did x.req) a' w w' := by
  have HN := hidT hn
  have HD := hidT h
  have HR := hidT hr
  have HO := hidT ho
  have HE := hidT hd
  have hl := h.lt
  clear hn h hr ho hd
  have hB0 := hidT (below1 w (.cells #[.string x.kind, .bool x.req.wr, .int .i64 x.req.f, .int .i64 x.req.m, .slice x.req.da x.req.data.length x.req.dc, .slice x.req.ta x.req.tags.length x.req.tc, .int .i64 x.req.born, .int .i64 x.n, .int .u64 x.k] 41))
  have hx0 := hidT (act_new w 41 x)
  go_enter Try.func48, Try.ntmps48
  go_wp2_with fail
  refine (rcheck_nil x.req _ (HR.out.later hB0.out) HN.out).mono ?_
  rintro e w1 ⟨rfl, hb1⟩
  have HB1 := hidT (bthen hB0.out hb1)
  obtain ⟨x1, x2, x3, x4, x5, x6⟩ := hx0.out.later hb1
  clear hb1
  go_wp2_with fail
  refine (start_ok b d a x.req _ (HD.out.later HB1.out) (by rw [HE.out]; simp) (HR.out.later HB1.out) HO.out).mono ?_
  rintro e w2 ⟨a2, rfl, hs2⟩
  rw [HE.out, List.nil_append] at hs2
  have HS2 := hidT hs2
  clear hs2 x1 x2 x3 x4 x5 x6
  go_wp2_with fail
  refine (busy_any b _ a2 _ HS2.out.dev).mono ?_
  rintro e w3 ⟨a3, c3, rfl, -, -, hb3⟩
  have HS3 := hidT (HS2.out.later hb3)
  clear hb3
  simp only [List.length_cons, List.length_nil, Nat.zero_add]
  go_wp2_with fail
  refine (end_only b d x.req a2 _ HE.out HS3.out.dev ((good_iff _).1 HN.out)).mono ?_
  rintro e w4 ⟨a4, xa, xc, xs, rfl, -, -, -, hs4⟩
  have HS4 := hidT (((DStep.same HD.out HB1.out).trans HS3.out).trans hs4)
  clear hs4
  go_wp2
  go_ret
  exact ⟨a4, rfl, HS4.out.later (by repeat (first | with_reducible exact Below.refl _ _ | with_reducible refine balloc ?_ _ | with_reducible refine bdrew ?_ | with_reducible refine bset' ?_ (by omega) _ | with_reducible refine bthen ?_ (by assumption)))⟩
end Go.Proofs.Ythmeaclekedilac
/- TopPart: of what was read of several sectors each has its own. The walk. -/
namespace Go.Proofs.Ythmeaclekedilac
open Go.RowKit Go.BigFrame
attribute [local go_sem] Later.cell Later.frozen

theorem off_of {F : Nat → Prop} {w : World} {r : Rq} (h : r.At w) (hF : ∀ k, F k → w.heap.size ≤ k) : r.Off F :=
  ⟨fun he ad ha hk => by have h1 := strs_lt h.data he ha; have h2 := hF _ hk; omega, fun he ad ha hk => by have h1 := ints_lt h.tags he ha; have h2 := hF _ hk; omega⟩
theorem an0_foot {b k : Nat} (h : an0.foot b k) : k = b := by
  rcases h with h | ⟨p, hp, _⟩ | ⟨p, hp, _⟩
  · exact h
  · cases hp
  · cases hp
def rqX : Rq := ⟨false, 3, 1, none, 0, [], none, 0, [], 0⟩
theorem x_at (w : World) (b : Nat) (h : w.cell? ⟨b, 0, none⟩ = some (.string ⟨#[120]⟩)) : StrsAt w (some ⟨b, 0, none⟩) [⟨#[120]⟩] := by
  refine Or.inr ⟨b, 0, rfl, ?_⟩
  intro i hi
  match i, hi with
  | 0, _ => simpa using h
theorem readTo_at (d : Dl) (f n j : Nat) (h : j < n) : (readTo d f n).getD j ByteArray.empty = d.now.getD (f + j) ByteArray.empty := by
  unfold readTo
  rw [List.getD_eq_getElem?_getD, List.getElem?_map, List.getElem?_range h]
  rfl
theorem peek_inI (b : Nat) (d : Dl) (a : An) (p : Int) (k : Nat) (w : World) (h : DevAt b d a w) (hp : p = k) (hk : k < 32) (s : ByteArray) (hs : d.now.getD k ByteArray.empty = s) :
    Calls Try.prog 25 #[.pointer (some ⟨b, 0, none⟩), .int .i64 p] w fun e w' => e = .returned (.string s) ∧ Below w.heap.size w w' := by
  subst hp; exact peek_in b d a k w h hk s hs
/-- A result in a block of its own. -/
def ResBox (w : World) (q : Nat) (r : Rq) (xa : Option Addr) (n xc : Nat) (er : Int) : Prop := w.cell? ⟨q, 0, none⟩ = some (.bool r.wr) ∧ w.cell? ⟨q, 1, none⟩ = some (.int .i64 r.f) ∧ w.cell? ⟨q, 2, none⟩ = some (.int .i64 r.m) ∧ w.cell? ⟨q, 3, none⟩ = some (.slice r.da r.data.length r.dc) ∧ w.cell? ⟨q, 4, none⟩ = some (.slice r.ta r.tags.length r.tc) ∧ w.cell? ⟨q, 5, none⟩ = some (.int .i64 r.born) ∧ w.cell? ⟨q, 6, none⟩ = some (.slice xa n xc) ∧ w.cell? ⟨q, 7, none⟩ = some (.int .i64 er)
theorem ResBox.later {w w' : World} {q n xc : Nat} {r : Rq} {xa : Option Addr} {er : Int} (h : ResBox w q r xa n xc er) (hb : Below w.heap.size w w') : ResBox w' q r xa n xc er := by
  obtain ⟨h0, h1, h2, h3, h4, h5, h6, h7⟩ := h
  exact ⟨cell_later' hb h0, cell_later' hb h1, cell_later' hb h2, cell_later' hb h3, cell_later' hb h4, cell_later' hb h5, cell_later' hb h6, cell_later' hb h7⟩
theorem res_new (w : World) (T : TypeId) (r : Rq) (xa : Option Addr) (n xc : Nat) (er : Int) : ResBox (w.alloc (.cells #[.bool r.wr, .int .i64 r.f, .int .i64 r.m, .slice r.da r.data.length r.dc, .slice r.ta r.tags.length r.tc, .int .i64 r.born, .slice xa n xc, .int .i64 er] T)) w.heap.size r xa n xc er := by
  refine ⟨?_, ?_, ?_, ?_, ?_, ?_, ?_, ?_⟩ <;> simp
/-- A device of a law's own, that has no request: what was there stands. -/
structure Mine (w w2 : World) (b : Nat) (d : Dl) (a : An) (wr : World) : Prop where
  step : DStep b d0 an0 d a w2 wr
  none : d.busy = []
theorem Mine.below {w w2 wr : World} {b : Nat} {d : Dl} {a : An} (h : Mine w w2 b d a wr) (hb : w.heap.size ≤ b) (hw : Below w.heap.size w w2) : Below w.heap.size w wr :=
  hw.trans (h.step.only.below hw.size (fun k hk => by rw [an0_foot hk]; exact hb))
theorem Mine.foot {w w2 wr : World} {b : Nat} {d : Dl} {a : An} (h : Mine w w2 b d a wr) (hb : w.heap.size ≤ b) (hw : Below w.heap.size w w2) : ∀ k, a.foot b k → w.heap.size ≤ k := fun k hk =>
  (h.step.foot k hk).elim (fun e => by rw [an0_foot e]; exact hb) (fun h' => Nat.le_trans hw.size h')
set_option maxRecDepth 100000 in
set_option maxHeartbeats 4000000 in
theorem tp_walk (l : List Ac) (la : Option Addr) (lc : Nat) (r : Rq) (w : World) (hl : ActsAt w la l) (hr : r.At w) :
    Calls Try.prog 8 #[.slice la l.length lc, r.val] w fun e w' => e = .returned (.bool true) ∧ Below w.heap.size w w' := by
  have HL := hidT hl
  have HR := hidT hr
  clear hl hr
  go_enter Try.func8, Try.ntmps8
  go_wp2_with fail
  refine (part_in rqX [⟨#[120]⟩] (some ⟨w.heap.size + 1, 0, none⟩) 1 0 3 _ (x_at _ _ (by simp [go_sem])) (by decide +kernel) 0 (by decide +kernel) (by decide) ⟨#[120]⟩ rfl).mono ?_
  rintro e w1 ⟨rfl, hb1⟩
  have HX1 := hidT ((box_new w 38 r).later (bthen (below1 _ _) hb1))
  have HB1 := hidT (show Below w.heap.size w w1 by repeat (first | with_reducible exact Below.refl _ _ | with_reducible refine balloc ?_ _ | with_reducible refine bdrew ?_ | with_reducible refine bset' ?_ (by omega) _ | with_reducible refine bthen ?_ (by assumption)))
  clear hb1
  go_wp2_with fail
  refine (new_any _).mono ?_
  rintro e w2 ⟨rfl, hdev, hb2, -⟩
  have HX2 := HX1.out.later hb2
  have HB2 := bthen HB1.out hb2
  have hb0 : w.heap.size ≤ w1.heap.size := HB1.out.size
  have hne : w.heap.size ≠ w1.heap.size := by have := lt_of_cell HX1.out.1; omega
  generalize w1.heap.size = b at *
  have HD2 := hidT hdev
  clear hb2 hdev
  go_wp2_with fail
  cases hla : lightsA l 30
  · refine (lightsA_any l la lc 30 _ (HL.out.later HB2) (by omega) _ hla).mono ?_
    rintro e w3 ⟨rfl, hb3⟩
    go_wp2
    go_ret
    exact ⟨rfl, by repeat (first | with_reducible exact Below.refl _ _ | with_reducible refine balloc ?_ _ | with_reducible refine bdrew ?_ | with_reducible refine bset' ?_ (by omega) _ | with_reducible refine bthen ?_ (by assumption))⟩
  refine (lightsA_any l la lc 30 _ (HL.out.later HB2) (by omega) _ hla).mono ?_
  rintro e w3 ⟨rfl, hb3⟩
  have HX3 := HX2.later hb3
  have HB3 := bthen HB2 hb3
  have HD3 := hidT (HD2.out.later hb3)
  have h30 : l.length ≤ 30 := by simp only [lightsA, Bool.and_eq_true, decide_eq_true_eq] at hla; exact hla.1
  clear hb3 HX2 HB2 HD2 hla HX1 HB1
  obtain ⟨x0, x1, x2, x3, x4, x5⟩ := id HX3
  go_wp2_with fail
  cases hlr : lightB r
  · refine (light_any r _ (HR.out.later HB3) _ hlr).mono ?_
    rintro e w4 ⟨rfl, hb4⟩
    go_wp2
    go_ret
    exact ⟨rfl, by repeat (first | with_reducible exact Below.refl _ _ | with_reducible refine balloc ?_ _ | with_reducible refine bdrew ?_ | with_reducible refine bset' ?_ (by omega) _ | with_reducible refine bthen ?_ (by assumption))⟩
  refine (light_any r _ (HR.out.later HB3) _ hlr).mono ?_
  rintro e w4 ⟨rfl, hb4⟩
  have HX4 := HX3.later hb4
  have HB4 := bthen HB3 hb4
  have HD4 := hidT (HD3.out.later hb4)
  clear hb4 HX3 HB3 HD3 hlr x0 x1 x2 x3 x4 x5
  obtain ⟨x0, x1, x2, x3, x4, x5⟩ := id HX4
  go_wp2_with fail
  by_cases hf : faultR r = 0
  case neg =>
    have HF := hidT hf
    clear hf
    refine (rcheck_err r _ (HR.out.later HB4) HF.out).mono ?_
    rintro e w5 ⟨rfl, hb5⟩
    go_wp2
    go_ret
    exact ⟨rfl, by repeat (first | with_reducible exact Below.refl _ _ | with_reducible refine balloc ?_ _ | with_reducible refine bdrew ?_ | with_reducible refine bset' ?_ (by omega) _ | with_reducible refine bthen ?_ (by assumption))⟩
  have GR := hidT ((good_iff r).1 hf)
  refine (rcheck_nil r _ (HR.out.later HB4) hf).mono ?_
  rintro e w5 ⟨rfl, hb5⟩
  have HX5 := HX4.later hb5
  have HB5 := bthen HB4 hb5
  have HD5 := hidT (HD4.out.later hb5)
  clear hb5 HX4 HB4 HD4 hf x0 x1 x2 x3 x4 x5
  obtain ⟨x0, x1, x2, x3, x4, x5⟩ := id HX5
  cases hw : r.wr
  case true =>
    have HW := hidT hw
    rw [hw] at x0
    clear hw
    go_wp2
    go_ret
    exact ⟨rfl, HB5⟩
  have HW := hidT hw
  rw [hw] at x0
  have HX := hidT HX5
  have HB := hidT HB5
  clear hw HX5 HB5
  go_wp2_with fail
  clear x0 x1 x2 x3 x4 x5
  go_loopw [8] (fun i wr => ∃ (k : Nat) (d : Dl) (a : An), k ≤ l.length ∧ i = .int .i64 k ∧ Mine w w5 b d a wr) (fun i _ => l.length - (intOf i).toNat)
  case atStart => exact ⟨0, d0, an0, by omega, rfl, DStep.same HD5.out (Below.refl _ _), rfl⟩
  case round =>
    obtain ⟨k, d, a, hk, rfl, hm⟩ := hrel
    have HM := hidT hm
    have HBr := hm.below hb0 HB.out
    have HF := hidT (hm.foot hb0 HB.out)
    clear hm
    by_cases hlt : k < l.length
    · have hlt' : (k : Int) < (l.length : Int) := by omega
      rcases HL.out.form with rfl | ⟨bl, ol, rfl⟩
      · exact absurd hlt (Nat.not_lt_zero _)
      have hla := HL.out.later HBr
      obtain ⟨c0, c1, c2, c3, c4, c5, c6, c7, c8⟩ := hla.cells hlt
      have hat := hidT (hla.2.1 _ (List.getElem_mem hlt))
      have hoff := hidT (off_of (HL.out.2.1 _ (List.getElem_mem hlt)) HF.out)
      clear hla
      generalize hx : l[k] = x at *
      clear hx
      go_wp2_with fail
      by_cases hf : faultR x.req = 0
      case neg =>
        have HFX := hidT hf
        clear hf
        refine (written_no b x _ hat.out HFX.out).mono ?_
        rintro e w6 ⟨rfl, hb6⟩
        have HM6 := hidT (⟨HM.out.step.later hb6, HM.out.none⟩ : Mine w w5 b d a w6)
        clear hb6 c0 c1 c2 c3 c4 c5 c6 c7 c8 hat hoff
        go_wp2
        go_roundw
        case rel => exact ⟨k + 1, d, a, by omega, by go_num, HM6.out⟩
        case measure => simp [intOf]; omega
      have HFX := hidT hf
      clear hf
      refine (written_yes b d a x _ HM.out.step.dev HM.out.none hat.out hoff.out HFX.out).mono ?_
      rintro e w6 ⟨a6, rfl, hs6⟩
      have HM6 := hidT (⟨HM.out.step.trans hs6, by rw [Dl.did_busy]; exact HM.out.none⟩ : Mine w w5 b (d.did x.req) a6 w6)
      clear hs6 c0 c1 c2 c3 c4 c5 c6 c7 c8 hat hoff
      go_wp2
      go_roundw
      case rel => exact ⟨k + 1, _, a6, by omega, by go_num, HM6.out⟩
      case measure => simp [intOf]; omega
    · have hbx := HX.out.only HM.out.step.only (fun e => hne (an0_foot e))
      obtain ⟨x0, x1, x2, x3, x4, x5⟩ := hbx
      have hgt : ¬ (k : Int) < (l.length : Int) := by omega
      go_wp2_with fail
      have hraw := HR.out.later HBr
      refine (start_ok b d a r _ HM.out.step.dev (by rw [HM.out.none]; simp) hraw (off_of HR.out HF.out)).mono ?_
      rintro e w6 ⟨a6, rfl, hs6⟩
      rw [HM.out.none, List.nil_append] at hs6
      have HS6 := hidT hs6
      clear hs6 x0 x1 x2 x3 x4 x5
      go_wp2_with fail
      refine (end_only b d r a6 _ HM.out.none HS6.out.dev GR.out).mono ?_
      rintro e w8 ⟨a8, xa, xc, xs, rfl, hxs, hst, hxb, hs8⟩
      have hxs' : xs = readTo d r.f.toNat r.m.toNat := by rw [hxs.out, didRead, if_neg (by rw [HW.out]; simp)]
      have hdid : d.did r = d := by rw [Dl.did, if_neg (by rw [HW.out]; simp)]
      rw [hdid] at hs8
      have HS8 := hidT (HS6.out.trans hs8)
      have nq : ¬ a.foot b w.heap.size := fun e => (HM.out.step.foot _ e).elim (fun e' => hne (an0_foot e')) (fun h' => by have := lt_of_cell HX.out.1; omega)
      have hbx8 := hidT (((HX.out.only HM.out.step.only (fun e => hne (an0_foot e)))).only HS8.out.only nq)
      have HB8 := hidT (HBr.trans (HS8.out.only.below HBr.size HF.out))
      have HXS := hidT (⟨hxs', hst⟩ : _ ∧ _)
      have hxl : xs.length = r.m.toNat := by rw [hxs', readTo_length]
      have HXL := hidT hxl
      clear hs8 hdid hxs hxs' hst hxb hraw nq hxl
      go_wp2_with fail
      have HR9 := hidT (res_new w8 49 r xa xs.length xc 0)
      have HD9 := hidT (HS8.out.dev.alloc (.cells #[.bool r.wr, .int .i64 r.f, .int .i64 r.m, .slice r.da r.data.length r.dc, .slice r.ta r.tags.length r.tc, .int .i64 r.born, .slice xa xs.length xc, .int .i64 0] 49))
      have HST9 := hidT (HXS.out.2.later (below1 w8 (.cells #[.bool r.wr, .int .i64 r.f, .int .i64 r.m, .slice r.da r.data.length r.dc, .slice r.ta r.tags.length r.tc, .int .i64 r.born, .slice xa xs.length xc, .int .i64 0] 49)))
      have HBX9 := hidT (hbx8.out.later (below1 w8 (.cells #[.bool r.wr, .int .i64 r.f, .int .i64 r.m, .slice r.da r.data.length r.dc, .slice r.ta r.tags.length r.tc, .int .i64 r.born, .slice xa xs.length xc, .int .i64 0] 49)))
      have HB9 := hidT (bthen HB8.out (below1 w8 (.cells #[.bool r.wr, .int .i64 r.f, .int .i64 r.m, .slice r.da r.data.length r.dc, .slice r.ta r.tags.length r.tc, .int .i64 r.born, .slice xa xs.length xc, .int .i64 0] 49)))
      generalize w8.alloc (.cells #[.bool r.wr, .int .i64 r.f, .int .i64 r.m, .slice r.da r.data.length r.dc, .slice r.ta r.tags.length r.tc, .int .i64 r.born, .slice xa xs.length xc, .int .i64 0] 49) = w9 at *
      obtain ⟨b1, b2, b3, b4, b5⟩ := GR.out.bndD
      go_loopw [11] (fun i wr => ∃ k : Nat, k ≤ 34 ∧ i = .int .i64 ((k : Int) - 1) ∧ Below w9.heap.size w9 wr) (fun i _ => (34 - (intOf i)).toNat)
      case atStart => exact ⟨0, by omega, rfl, Below.refl _ _⟩
      case round =>
        obtain ⟨n, hn, rfl, HBn⟩ := hrel
        obtain ⟨y0, y1, y2, y3, y4, y5, y6, y7⟩ := HR9.out.later HBn
        by_cases hn34 : n < 34
        · have hle : (n : Int) - 1 ≤ 32 := by omega
          have hmh := hidT (hasB_ok r.f r.m 4 ((n : Int) - 1) GR.out.ok (by omega))
          obtain ⟨z0, z1, z2, z3, z4, z5⟩ := HBX9.out.later HBn
          cases hh : hasB r.f r.m ((n : Int) - 1)
          · have HH := hidT hh
            clear hh
            go_wp2_with fail
            refine (part_no r xa xs.length xc 0 ((n : Int) - 1) _ HH.out).mono ?_
            rintro e wA ⟨rfl, hbA⟩
            obtain ⟨v0, v1, v2, v3, v4, v5⟩ := (HBX9.out.later HBn).later hbA
            go_wp2_with fail
            refine (has_eq _ _ _ _ _ HH.out).mono ?_
            rintro e wB ⟨rfl, hbB⟩
            have HBB := hidT (bthen (bthen HBn hbA) hbB)
            clear hbA hbB v0 v1 v2 v3 v4 v5 y0 y1 y2 y3 y4 y5 y6 y7 z0 z1 z2 z3 z4 z5
            go_wp2
            go_roundw
            case rel => exact ⟨n + 1, by omega, by congr 1; omega, HBB.out⟩
            case measure => simp [intOf]; omega
          · have hsp : r.f ≤ (n : Int) - 1 ∧ (n : Int) - 1 < r.f + r.m := by
              have h2 := hmh.out
              rw [hh, inSpan] at h2
              exact of_decide_eq_true h2.symm
            have HH := hidT hh
            obtain ⟨pk, hpk⟩ : ∃ pk : Nat, (n : Int) - 1 = pk := ⟨((n : Int) - 1).toNat, by omega⟩
            obtain ⟨jj, hjj⟩ : ∃ jj : Nat, pk = r.f.toNat + jj := ⟨pk - r.f.toNat, by omega⟩
            have hwj : wrap64 ((n : Int) - 1 - r.f) = jj := by unfold wrap64; omega
            have hjl : jj < xs.length := by rw [HXL.out]; omega
            have hsx : xs.getD jj ByteArray.empty = d.now.getD pk ByteArray.empty := by rw [HXS.out.1, readTo_at _ _ _ _ (by omega), hjj]
            have HPK := hidT (⟨hpk, (by omega : pk < 32)⟩ : (n : Int) - 1 = (pk : Int) ∧ pk < 32)
            generalize hs : d.now.getD pk ByteArray.empty = s at *
            have HS := hidT hs
            have hss : (!(s.toList == s.toList)) = false := by simp
            clear hh hsp hpk hjj hs
            go_wp2_with fail
            refine (part_in r xs xa xc 0 ((n : Int) - 1) _ (HST9.out.later HBn) HH.out jj hwj hjl s hsx).mono ?_
            rintro e wA ⟨rfl, hbA⟩
            obtain ⟨v0, v1, v2, v3, v4, v5⟩ := (HBX9.out.later HBn).later hbA
            clear hwj
            go_wp2_with fail
            refine (has_eq _ _ _ _ _ HH.out).mono ?_
            rintro e wB ⟨rfl, hbB⟩
            have HBB := bthen (bthen HBn hbA) hbB
            clear v0 v1 v2 v3 v4 v5
            go_wp2_with fail
            refine (peek_inI b d a8 ((n : Int) - 1) pk _ (HD9.out.later HBB) HPK.out.1 HPK.out.2 s HS.out).mono ?_
            rintro e wC ⟨rfl, hbC⟩
            have HBC := hidT (bthen HBB hbC)
            clear hbA hbB hbC HBB y0 y1 y2 y3 y4 y5 y6 y7 z0 z1 z2 z3 z4 z5 hsx hjl
            go_wp2
            go_roundw
            case rel => exact ⟨n + 1, by omega, by congr 1; omega, HBC.out⟩
            case measure => simp [intOf]; omega
        · have hle : ¬ (n : Int) - 1 ≤ 32 := by omega
          go_wp2
          go_ret
          exact ⟨rfl, bthen HB9.out HBn⟩
end Go.Proofs.Ythmeaclekedilac
/- A device: End of any request; two devices at once; what a sector has behind it. -/
namespace Go.Proofs.Ythmeaclekedilac
open Go.RowKit Go.BigFrame
attribute [local go_sem] Later.cell Later.frozen

theorem end_any (b : Nat) (d : Dl) (a : An) (k : Nat) (hk : k < d.busy.length) (w : World) (h : DevAt b d a w) (gr : Good d.busy[k]) :
    Calls Try.prog 16 #[.pointer (some ⟨b, 0, none⟩), .int .i64 k, .bool false] w fun e w' => ∃ a' xa xc xs, e = .returned (.tuple #[resV d.busy[k] xa (List.length xs) xc 0, .nilIface]) ∧ Hid (xs = didRead d d.busy[k]) ∧ StrsAt w' xa xs ∧ (∀ ad, xa = some ad → w.heap.size ≤ ad.block ∧ ¬ a'.foot b ad.block) ∧ DStep b d a (({ d with busy := d.busy.eraseIdx k } : Dl).did d.busy[k]) a' w w' := by
  by_cases hw : d.busy[k].wr = true
  · refine (end_write b d a k hk w h gr hw).mono ?_
    rintro e w' ⟨a', rfl, hs⟩
    refine ⟨a', none, 0, [], rfl, by show _ = _; rw [didRead, if_pos hw], Or.inl rfl, by simp, ?_⟩
    rw [Dl.did, if_pos hw]; exact hs
  · have hw' : d.busy[k].wr = false := by simpa using hw
    refine (end_read b d a k hk w h gr hw').mono ?_
    rintro e w' ⟨a', xa, xc, rfl, h1, h2, h3, hs⟩
    refine ⟨a', xa, xc, _, rfl, by show _ = _; rw [didRead, if_neg hw], h1, h3, ?_⟩
    rw [Dl.did, if_neg hw]; exact hs

theorem end_at (b : Nat) (d : Dl) (a : An) (l : List Rq) (k : Nat) (r : Rq) (hb : d.busy = l) (hk : l[k]? = some r) (w : World) (h : DevAt b d a w) (gr : Good r) :
    Calls Try.prog 16 #[.pointer (some ⟨b, 0, none⟩), .int .i64 k, .bool false] w fun e w' => ∃ a' xa xc xs, e = .returned (.tuple #[resV r xa (List.length xs) xc 0, .nilIface]) ∧ Hid (xs = didRead d r) ∧ StrsAt w' xa xs ∧ (∀ ad, xa = some ad → w.heap.size ≤ ad.block ∧ ¬ a'.foot b ad.block) ∧ DStep b d a (({ d with busy := l.eraseIdx k } : Dl).did r) a' w w' := by
  subst hb
  obtain ⟨hk', rfl⟩ := List.getElem?_eq_some_iff.1 hk
  exact end_any b d a k hk' w h gr
/-- What a sector has. -/
def Dl.has (d : Dl) (p : Nat) : ByteArray := d.now.getD p ByteArray.empty
theorem write_has (d : Dl) (q : Nat) (s : ByteArray) (p : Nat) (hq : q < d.now.length) : (d.write q s).has p = if p = q then s else d.has p := by
  unfold Dl.has Dl.write
  simp only [List.getD_eq_getElem?_getD, List.getElem?_set]
  by_cases e : q = p
  · subst e; simp [hq]
  · rw [if_neg e, if_neg (fun h => e h.symm)]
theorem write_len (d : Dl) (q : Nat) (s : ByteArray) : (d.write q s).now.length = d.now.length := by simp [Dl.write]
theorem writesTo_len (d : Dl) (r : Rq) (n : Nat) : (d.writesTo r n).now.length = d.now.length := by
  induction n with
  | zero => rfl
  | succ n ih => rw [Dl.writesTo_succ, write_len, ih]
theorem writesTo_has (d : Dl) (r : Rq) (n p : Nat) (h : r.f.toNat + n ≤ d.now.length) : (d.writesTo r n).has p = if r.f.toNat ≤ p ∧ p < r.f.toNat + n then r.data.getD (p - r.f.toNat) ByteArray.empty else d.has p := by
  induction n with
  | zero => rw [if_neg (by omega)]; rfl
  | succ n ih =>
    rw [Dl.writesTo_succ, write_has _ _ _ _ (by rw [writesTo_len]; omega), ih (by omega)]
    by_cases e : p = r.f.toNat + n
    · subst e
      rw [if_pos rfl, if_pos (by omega)]
      congr 1; omega
    · rw [if_neg e]
      by_cases e2 : r.f.toNat ≤ p ∧ p < r.f.toNat + n
      · rw [if_pos e2, if_pos (by omega)]
      · rw [if_neg e2, if_neg (by omega)]
theorem did_has (d : Dl) (r : Rq) (p : Nat) (h : r.f.toNat + r.m.toNat ≤ d.now.length) : (d.did r).has p = if r.wr = true ∧ r.f.toNat ≤ p ∧ p < r.f.toNat + r.m.toNat then r.data.getD (p - r.f.toNat) ByteArray.empty else d.has p := by
  unfold Dl.did
  by_cases hw : r.wr = true
  · rw [if_pos hw, writesTo_has d r _ p h]; simp [hw]
  · rw [if_neg hw, if_neg (fun h => hw h.1)]
theorem did_len (d : Dl) (r : Rq) : (d.did r).now.length = d.now.length := by unfold Dl.did; split; exact writesTo_len _ _ _; rfl
theorem did_swap (d : Dl) (a b : Rq) (la lb l1 : List Rq) (p : Nat) (ha : a.f.toNat + a.m.toNat ≤ d.now.length) (hb : b.f.toNat + b.m.toNat ≤ d.now.length) (hab : a.f.toNat + a.m.toNat ≤ b.f.toNat ∨ b.f.toNat + b.m.toNat ≤ a.f.toNat) :
    (({ ({ d with busy := la } : Dl).did a with busy := l1 } : Dl).did b).has p = (({ ({ d with busy := lb } : Dl).did b with busy := l1 } : Dl).did a).has p := by
  rw [did_has _ b p (by show _ ≤ (({ d with busy := la } : Dl).did a).now.length; rw [did_len]; exact hb), did_has _ a p (by show _ ≤ (({ d with busy := lb } : Dl).did b).now.length; rw [did_len]; exact ha)]
  show (if _ then _ else (({ d with busy := la } : Dl).did a).has p) = (if _ then _ else (({ d with busy := lb } : Dl).did b).has p)
  rw [did_has ({ d with busy := la } : Dl) a p ha, did_has ({ d with busy := lb } : Dl) b p hb]
  by_cases h1 : b.wr = true ∧ b.f.toNat ≤ p ∧ p < b.f.toNat + b.m.toNat
  · rw [if_pos h1, if_pos h1, if_neg (by omega)]
  · rw [if_neg h1, if_neg h1]; rfl
theorem readTo_did (d : Dl) (a b : Rq) (l : List Rq) (hb : b.f.toNat + b.m.toNat ≤ d.now.length) (hab : a.f.toNat + a.m.toNat ≤ b.f.toNat ∨ b.f.toNat + b.m.toNat ≤ a.f.toNat) : didRead (({ d with busy := l } : Dl).did b) a = didRead d a := by
  unfold didRead
  split
  · rfl
  · unfold readTo
    refine List.map_congr_left fun j hj => ?_
    have hj' := List.mem_range.1 hj
    have := did_has ({ d with busy := l } : Dl) b (a.f.toNat + j) hb
    rw [if_neg (by omega)] at this
    exact this
theorem meet_apart {a b : Rq} (ga : Good a) (gb : Good b) (h : meetB a.f a.m b.f b.m = false) : a.f.toNat + a.m.toNat ≤ b.f.toNat ∨ b.f.toNat + b.m.toNat ≤ a.f.toNat := by
  rw [meetB_ok _ _ _ _ (ok4_32 ga.ok) (ok4_32 gb.ok)] at h
  have h := of_decide_eq_false h
  have := ga.bndD
  have := gb.bndD
  omega
/-- Two devices of a law's own. -/
structure Two (w : World) (bc : Nat) (dc : Dl) (ac : An) (bd : Nat) (dd : Dl) (ad : An) (wr : World) : Prop where
  c : DevAt bc dc ac wr
  d : DevAt bd dd ad wr
  apart : ∀ k, ac.foot bc k → ad.foot bd k → False
  fc : ∀ k, ac.foot bc k → w.heap.size ≤ k
  fd : ∀ k, ad.foot bd k → w.heap.size ≤ k
  rc : ∀ r ∈ dc.busy, r.At w
  rd : ∀ r ∈ dd.busy, r.At w
  bel : Below w.heap.size w wr
theorem Two.stepC {w wr wr' : World} {bc bd : Nat} {dc dc' dd : Dl} {ac ac' ad : An} (h : Two w bc dc ac bd dd ad wr) (hs : DStep bc dc ac dc' ac' wr wr') (hr : ∀ r ∈ dc'.busy, r.At w) : Two w bc dc' ac' bd dd ad wr' where
  c := hs.dev
  d := h.d.frame hs.only (fun k hk hc => h.apart k hc hk) (fun r hr' => off_of (h.rd r hr') h.fc)
  apart := fun k hc hd => (hs.foot k hc).elim (fun hc' => h.apart k hc' hd) (fun h' => by have := h.d.footLt k hd; omega)
  fc := fun k hk => (hs.foot k hk).elim (h.fc k) (fun h' => Nat.le_trans h.bel.size h')
  fd := h.fd
  rc := hr
  rd := h.rd
  bel := h.bel.trans (hs.only.below h.bel.size h.fc)
theorem Two.swap {w wr : World} {bc bd : Nat} {dc dd : Dl} {ac ad : An} (h : Two w bc dc ac bd dd ad wr) : Two w bd dd ad bc dc ac wr := ⟨h.d, h.c, fun k h1 h2 => h.apart k h2 h1, h.fd, h.fc, h.rd, h.rc, h.bel⟩
theorem Two.stepD {w wr wr' : World} {bc bd : Nat} {dc dd dd' : Dl} {ac ad ad' : An} (h : Two w bc dc ac bd dd ad wr) (hs : DStep bd dd ad dd' ad' wr wr') (hr : ∀ r ∈ dd'.busy, r.At w) : Two w bc dc ac bd dd' ad' wr' := (h.swap.stepC hs hr).swap
theorem Two.later {w wr wr' : World} {bc bd : Nat} {dc dd : Dl} {ac ad : An} (h : Two w bc dc ac bd dd ad wr) (hb : Below wr.heap.size wr wr') : Two w bc dc ac bd dd ad wr' := ⟨h.c.later hb, h.d.later hb, h.apart, h.fc, h.fd, h.rc, h.rd, bthen h.bel hb⟩
set_option maxHeartbeats 1000000 in
theorem sameRes_yes (r : Rq) (xs : List ByteArray) (xa ya : Option Addr) (n xc yc : Nat) (hn : n = xs.length) (w : World) (hr : r.At w) (hx : StrsAt w xa xs) (hy : StrsAt w ya xs) (hl : xs.length ≤ 100) :
    Calls Try.prog 18 #[resV r xa n xc 0, resV r ya n yc 0] w fun e w' => e = .returned (.bool true) ∧ Below w.heap.size w w' := by
  subst hn
  have hs : sameB r r = true := by simp [sameB, eqS, eqN]
  have he : eqS xs xs = true := by simp [eqS]
  have HS := hidT hs
  have HE := hidT he
  clear hs he
  go_enter Try.func18, Try.ntmps18
  go_wp2_with fail
  refine (sameReq_any r r _ (hr.later (by repeat (first | with_reducible exact Below.refl _ _ | with_reducible refine balloc ?_ _ | with_reducible refine bdrew ?_ | with_reducible refine bset' ?_ (by omega) _ | with_reducible refine bthen ?_ (by assumption)))) (hr.later (by repeat (first | with_reducible exact Below.refl _ _ | with_reducible refine balloc ?_ _ | with_reducible refine bdrew ?_ | with_reducible refine bset' ?_ (by omega) _ | with_reducible refine bthen ?_ (by assumption)))) _ HS.out).mono ?_
  rintro e w1 ⟨rfl, hb1⟩
  have c6 := (hb1.cell (p := ⟨w.heap.size, 6, none⟩) (by simp; omega)).trans (show _ = some (.slice xa xs.length xc) by simp)
  have c7 := (hb1.cell (p := ⟨w.heap.size, 7, none⟩) (by simp; omega)).trans (show _ = some (.int .i64 0) by simp)
  have d6 := (hb1.cell (p := ⟨w.heap.size + 1, 6, none⟩) (by simp)).trans (show _ = some (.slice ya xs.length yc) by simp)
  have d7 := (hb1.cell (p := ⟨w.heap.size + 1, 7, none⟩) (by simp)).trans (show _ = some (.int .i64 0) by simp)
  have HB1 := hidT (show Below w.heap.size w w1 by repeat (first | with_reducible exact Below.refl _ _ | with_reducible refine balloc ?_ _ | with_reducible refine bdrew ?_ | with_reducible refine bset' ?_ (by omega) _ | with_reducible refine bthen ?_ (by assumption)))
  clear hb1
  go_wp2_with fail
  refine (texts_any xs xs xa ya _ _ _ (hx.later HB1.out) (hy.later HB1.out) (by omega)).mono ?_
  rw [HE.out]
  rintro e w2 ⟨rfl, hb2⟩
  replace c7 := cell_later' hb2 c7
  replace d7 := cell_later' hb2 d7
  have HB2 := hidT (bthen HB1.out hb2)
  clear hb2
  go_wp2
  go_ret
  exact ⟨rfl, HB2.out⟩
end Go.Proofs.Ythmeaclekedilac
/- What a crash keeps, write by write; a device of a law's own beside a row of texts. -/
namespace Go.Proofs.Ythmeaclekedilac
open Go.RowKit Go.BigFrame
attribute [local go_sem] Later.cell Later.frozen

theorem applyW_cons (kp : Int) (x : Wn) (l : List Wn) (G : List ByteArray) : applyW kp (x :: l) G = applyW kp l (if bitOn kp x.bit = true then G.set x.pl x.data else G) := rfl
theorem keepW_cons (p n : Nat) (x : Wn) (l : List Wn) : keepW p n (x :: l) = if hidB p n x = true then keepW p n l else x :: keepW p n l := by
  unfold keepW
  rw [List.filter_cons]
  cases hidB p n x <;> simp
theorem hid_is {p n : Nat} {x : Wn} (h : hidB p n x = true) : x.pl = p ∧ x.bit = n := by simpa [hidB] using h
theorem apply_off (kp : Int) (p n : Nat) (h : bitOn kp n = false) (l : List Wn) : ∀ G, applyW kp (keepW p n l) G = applyW kp l G := by
  induction l with
  | nil => intro G; rfl
  | cons x l ih =>
    intro G
    rw [keepW_cons]
    by_cases e : hidB p n x = true
    · rw [if_pos e, ih, applyW_cons, (hid_is e).2, h]; rfl
    · rw [if_neg e, applyW_cons, applyW_cons, ih]
theorem apply_on (kp : Int) (p n : Nat) (s : ByteArray) (l : List Wn) : ∀ G H : List ByteArray, G.set p s = H.set p s → (applyW kp (keepW p n l) G).set p s = (applyW kp l H).set p s := by
  induction l with
  | nil => intro G H h; exact h
  | cons x l ih =>
    intro G H h
    rw [keepW_cons]
    by_cases e : hidB p n x = true
    · rw [if_pos e, applyW_cons]
      refine ih _ _ ?_
      by_cases hb : bitOn kp x.bit = true
      · rw [if_pos hb, (hid_is e).1, List.set_set]; exact h
      · rw [if_neg hb]; exact h
    · rw [if_neg e, applyW_cons, applyW_cons]
      refine ih _ _ ?_
      by_cases hb : bitOn kp x.bit = true
      · rw [if_pos hb, if_pos hb]
        by_cases hq : x.pl = p
        · rw [hq, List.set_set, List.set_set]; exact h
        · rw [List.set_comm _ _ hq, List.set_comm _ _ hq, h]
      · rw [if_neg hb, if_neg hb]; exact h
theorem apply_write (kp : Int) (p n : Nat) (s : ByteArray) (l : List Wn) (G : List ByteArray) : applyW kp (keepW p n l ++ [⟨p, s, n⟩]) G = if bitOn kp n = true then (applyW kp l G).set p s else applyW kp l G := by
  rw [applyW_snoc]
  by_cases hb : bitOn kp n = true
  · rw [if_pos hb, if_pos hb]; exact apply_on kp p n s l G G rfl
  · rw [if_neg hb, if_neg hb]; exact apply_off kp p n (by simpa using hb) l G
/-- What a crash leaves. -/
def Dl.after (d : Dl) (kp : Int) : List ByteArray := applyW kp d.wr d.good
theorem after_write (d : Dl) (kp : Int) (p : Nat) (s : ByteArray) : (d.write p s).after kp = if bitOn kp d.next = true then (d.after kp).set p s else d.after kp := apply_write kp p d.next s d.wr d.good
theorem writesTo_next (d : Dl) (r : Rq) (n : Nat) (h : d.next < 64) : (d.writesTo r n).next = (d.next + n) % 64 := by
  induction n with
  | zero => show d.next = _; omega
  | succ n ih => rw [Dl.writesTo_succ]; show ((d.writesTo r n).next + 1) % 64 = _; rw [ih]; omega
theorem writesTo_after (d : Dl) (kp : Int) (r : Rq) (n : Nat) (h : d.next < 64) : (d.writesTo r (n + 1)).after kp = if bitOn kp ((d.next + n) % 64) = true then ((d.writesTo r n).after kp).set (r.f.toNat + n) (r.data.getD n ByteArray.empty) else (d.writesTo r n).after kp := by
  rw [Dl.writesTo_succ, after_write, writesTo_next d r n h]
theorem writesTo_good (d : Dl) (r : Rq) (n : Nat) : (d.writesTo r n).good = d.good := by
  induction n with
  | zero => rfl
  | succ n ih => rw [Dl.writesTo_succ]; exact ih
theorem after_length (d : Dl) (kp : Int) : (d.after kp).length = d.good.length := applyW_length kp d.wr d.good

/-- A device of a law's own, that has no request, and a row of texts beside it. -/
structure Ph (w : World) (b q : Nat) (d : Dl) (a : An) (l : List ByteArray) (wr : World) : Prop where
  dev : DevAt b d a wr
  idle : d.busy = []
  foot : ∀ k, a.foot b k → w.heap.size ≤ k ∧ k ≠ q
  want : wr.heap[q]? = some (.cells (strV l).toArray 28 (0, 0))
  len : l.length = 32
  qb : w.heap.size ≤ q
  bel : Below w.heap.size w wr
theorem Ph.step {w wr wr' : World} {b q : Nat} {d d' : Dl} {a a' : An} {l : List ByteArray} (h : Ph w b q d a l wr) (hs : DStep b d a d' a' wr wr') (hn : d'.busy = []) : Ph w b q d' a' l wr' where
  dev := hs.dev
  idle := hn
  foot := fun k hk => (hs.foot k hk).elim (h.foot k) (fun h' => ⟨Nat.le_trans h.bel.size h', fun e => by have := lt_of_heap h.want; omega⟩)
  want := by rw [hs.only.block q (lt_of_heap h.want) (fun e => (h.foot q e).2 rfl)]; exact h.want
  len := h.len
  qb := h.qb
  bel := h.bel.trans (hs.only.below h.bel.size (fun k hk => (h.foot k hk).1))
theorem Ph.later {w wr wr' : World} {b q : Nat} {d : Dl} {a : An} {l : List ByteArray} (h : Ph w b q d a l wr) (hb : Below wr.heap.size wr wr') : Ph w b q d a l wr' := h.step (DStep.same h.dev hb) h.idle
theorem strV_set (l : List ByteArray) (p : Nat) (s : ByteArray) : (strV l).set p (.string s) = strV (l.set p s) := by simp [strV, List.map_set]
theorem Ph.set {w wr : World} {b q : Nat} {d : Dl} {a : An} {l : List ByteArray} (h : Ph w b q d a l wr) (p : Nat) (s : ByteArray) : Ph w b q d a (l.set p s) (wr.setCell ⟨q, p, none⟩ (.string s)) where
  dev := h.dev.frame (Only.of_set _) (fun k hk e => (h.foot k hk).2 e) (fun r hr => by rw [h.idle] at hr; cases hr)
  idle := h.idle
  foot := h.foot
  want := by rw [set_same h.want, strV_set]
  len := by simpa using h.len
  qb := h.qb
  bel := h.bel.setCell h.qb _
theorem Ph.cell {w wr : World} {b q : Nat} {d : Dl} {a : An} {l : List ByteArray} (h : Ph w b q d a l wr) {p : Nat} (hp : p < 32) : wr.cell? ⟨q, p, none⟩ = some (.string (l.getD p ByteArray.empty)) ∧ wr.frozen? ⟨q, p, none⟩ = false ∧ q < wr.heap.size := by
  refine ⟨?_, frozen_of_heap h.want p, lt_of_heap h.want⟩
  rw [cell_of_heap h.want]
  simp [strV, List.getElem?_eq_getElem (show p < l.length by rw [h.len]; exact hp)]
end Go.Proofs.Ythmeaclekedilac
/- The document's answer: a device, and what ties it to the code's: the lists alone. -/
namespace Go.Proofs.Ythmeaclekedilac
open Go.RowKit Go.BigFrame

/-- A put that waits. -/
structure Pu where
  pl : Nat
  data : ByteArray
/-- What the document's device holds. -/
structure Rd where
  kept : List ByteArray
  now : List ByteArray
  waits : List Pu
  busy : List Rq
/-- What is kept of the puts behind the first i. -/
def applyP (kp : Int) : Nat → List Pu → List ByteArray → List ByteArray
  | _, [], G => G
  | i, x :: l, G => applyP kp (i + 1) l (if bitOn kp (i % 64) = true then G.set x.pl x.data else G)
theorem applyP_snoc (kp : Int) (l : List Pu) (x : Pu) : ∀ (i : Nat) (G : List ByteArray), applyP kp i (l ++ [x]) G = if bitOn kp ((i + l.length) % 64) = true then (applyP kp i l G).set x.pl x.data else applyP kp i l G := by
  induction l with
  | nil => intro i G; rfl
  | cons y l ih =>
    intro i G
    show applyP kp (i + 1) (l ++ [x]) _ = _
    rw [ih, List.length_cons, show i + 1 + l.length = i + (l.length + 1) by omega]
    rfl
theorem applyP_length (kp : Int) (l : List Pu) : ∀ (i : Nat) (G : List ByteArray), (applyP kp i l G).length = G.length := by
  induction l with
  | nil => intro i G; rfl
  | cons y l ih => intro i G; show (applyP kp (i + 1) l _).length = _; rw [ih]; split <;> simp
def Rd.write (m : Rd) (p : Nat) (s : ByteArray) : Rd := { m with now := m.now.set p s, waits := m.waits ++ [⟨p, s⟩] }
def Rd.flush (m : Rd) : Rd := { m with kept := m.now, waits := [] }
def Rd.crash (m : Rd) (kp : Int) : Rd := ⟨applyP kp 0 m.waits m.kept, applyP kp 0 m.waits m.kept, [], []⟩
/-- What ties them. -/
structure Tied (d : Dl) (m : Rd) : Prop where
  now : d.now = m.now
  good : d.good = m.kept
  next : d.next = m.waits.length % 64
  same : ∀ kp, d.after kp = applyP kp 0 m.waits m.kept
theorem Tied.start : Tied d0 ⟨List.replicate 32 ByteArray.empty, List.replicate 32 ByteArray.empty, [], []⟩ := ⟨rfl, rfl, rfl, fun _ => rfl⟩
theorem Tied.write {d : Dl} {m : Rd} (h : Tied d m) (p : Nat) (s : ByteArray) : Tied (d.write p s) (m.write p s) where
  now := by show d.now.set p s = m.now.set p s; rw [h.now]
  good := h.good
  next := by
    have := h.next
    show (d.next + 1) % 64 = (m.waits ++ [(⟨p, s⟩ : Pu)]).length % 64
    rw [List.length_append, List.length_singleton]; omega
  same := fun kp => by
    show (d.write p s).after kp = applyP kp 0 (m.waits ++ [⟨p, s⟩]) m.kept
    rw [after_write, applyP_snoc, h.same kp, h.next, Nat.zero_add]
theorem Tied.busy {d : Dl} {m : Rd} (h : Tied d m) (l l' : List Rq) : Tied { d with busy := l } { m with busy := l' } := ⟨h.now, h.good, h.next, h.same⟩
theorem Tied.flush {d : Dl} {m : Rd} (h : Tied d m) : Tied d.flush m.flush := ⟨h.now, h.now, rfl, fun _ => h.now⟩
theorem Tied.crash {d : Dl} {m : Rd} (h : Tied d m) (kp : Int) : Tied (d.crash kp) (m.crash kp) := ⟨h.same kp, h.same kp, rfl, fun _ => h.same kp⟩
/-- A request's writes, one by one. -/
def Rd.writesTo (m : Rd) (r : Rq) (n : Nat) : Rd := (List.range n).foldl (fun m j => m.write (r.f.toNat + j) (r.data.getD j ByteArray.empty)) m
theorem Rd.writesTo_succ (m : Rd) (r : Rq) (n : Nat) : m.writesTo r (n + 1) = (m.writesTo r n).write (r.f.toNat + n) (r.data.getD n ByteArray.empty) := by simp [Rd.writesTo, List.range_succ]
theorem Tied.writesTo {d : Dl} {m : Rd} (h : Tied d m) (r : Rq) (n : Nat) : Tied (d.writesTo r n) (m.writesTo r n) := by
  induction n with
  | zero => exact h
  | succ n ih => rw [Dl.writesTo_succ, Rd.writesTo_succ]; exact ih.write _ _
def Rd.did (m : Rd) (r : Rq) : Rd := if r.wr = true then m.writesTo r r.m.toNat else m
theorem Tied.did {d : Dl} {m : Rd} (h : Tied d m) (r : Rq) : Tied (d.did r) (m.did r) := by
  unfold Dl.did Rd.did
  split
  · exact h.writesTo r _
  · exact h
theorem Rd.writesTo_busy (m : Rd) (r : Rq) (n : Nat) : (m.writesTo r n).busy = m.busy := by
  induction n with
  | zero => rfl
  | succ n ih => rw [Rd.writesTo_succ]; exact ih
end Go.Proofs.Ythmeaclekedilac
/- The document's device in memory: its block, the row of what waits, and where its requests lie; what stands when something else turns. -/
namespace Go.Proofs.Ythmeaclekedilac
open Go.RowKit Go.BigFrame

abbrev Pu.val (x : Pu) : Value := .agg #[.int .i64 x.pl, .string x.data]
def pcells (l : List Pu) : List Value := l.flatMap fun x => [.int .i64 x.pl, .string x.data]
theorem pcells_cons (x : Pu) (l : List Pu) : pcells (x :: l) = .int .i64 x.pl :: .string x.data :: pcells l := rfl
theorem pcells_length (l : List Pu) : (pcells l).length = l.length * 2 := by
  induction l with
  | nil => rfl
  | cons r l ih => rw [pcells_cons, List.length_cons, List.length_cons, ih, List.length_cons]; omega
theorem pcells_append (l l' : List Pu) : pcells (l ++ l') = pcells l ++ pcells l' := by simp [pcells]
theorem pcells_snoc (l : List Pu) (x : Pu) : pcells (l ++ [x]) = pcells l ++ [.int .i64 x.pl, .string x.data] := by rw [pcells_append]; rfl
theorem pcells_at (l : List Pu) : ∀ (i : Nat) (h : i < l.length), (pcells l)[i * 2]? = some (.int .i64 l[i].pl) ∧ (pcells l)[i * 2 + 1]? = some (.string l[i].data) := by
  induction l with
  | nil => intro i h; exact absurd h (Nat.not_lt_zero _)
  | cons r l ih =>
    intro i h
    cases i with
    | zero => exact ⟨rfl, rfl⟩
    | succ i =>
      have := ih i (by simpa using h)
      rw [pcells_cons, show (i + 1) * 2 = i * 2 + 2 by omega]
      exact this
/-- Where its rows lie. -/
structure Ra where
  wa : Option Addr
  wc : Nat
  la : Option Addr
  lc : Nat
def Rd.cells (m : Rd) (a : Ra) : List Value := strV m.kept ++ strV m.now ++ [.slice a.wa m.waits.length a.wc, .slice a.la m.busy.length a.lc]
def Ra.foot (a : Ra) (b : Nat) (k : Nat) : Prop := k = b ∨ (∃ p, a.wa = some p ∧ k = p.block)
structure RdAt (b : Nat) (m : Rd) (a : Ra) (w : World) : Prop where
  k32 : m.kept.length = 32
  n32 : m.now.length = 32
  blk : w.heap[b]? = some (.cells (m.cells a).toArray 32 (0, 0))
  wrow : w.ownsRow 0 108 2 (.slice a.wa m.waits.length a.wc) m.waits.length (pcells m.waits)
  lrow : ReqsAt w a.la m.busy
  lnil : a.la = none → a.lc = 0
  lcap : m.busy.length ≤ a.lc
  loff : m.busy ≠ [] → ∀ p, a.la = some p → ¬ a.foot b p.block
  sepw : ∀ p, a.wa = some p → p.block ≠ b
  reqs : ∀ r ∈ m.busy, r.Off (a.foot b)
  wfin : ∀ x ∈ m.waits, x.pl < 32
  blen : m.busy.length ≤ 2
structure RStep (b : Nat) (m : Rd) (a : Ra) (m' : Rd) (a' : Ra) (w w' : World) : Prop where
  dev : RdAt b m' a' w'
  only : Only (a.foot b) w w'
  foot : ∀ k, a'.foot b k → a.foot b k ∨ w.heap.size ≤ k
  lan : m'.busy ≠ [] → ∀ p, a'.la = some p → (m.busy ≠ [] ∧ a.la = some p) ∨ w.heap.size ≤ p.block
theorem RStep.trans {b : Nat} {d d' d'' : Rd} {a a' a'' : Ra} {w w' w'' : World} (h : RStep b d a d' a' w w') (k : RStep b d' a' d'' a'' w' w'') : RStep b d a d'' a'' w w'' :=
  ⟨k.dev, h.only.trans k.only h.foot, fun i hi => (k.foot i hi).elim (h.foot i) (fun h' => Or.inr (Nat.le_trans h.only.size h')), fun hne p hp => (k.lan hne p hp).elim (fun e => h.lan e.1 p e.2) (fun h' => Or.inr (Nat.le_trans h.only.size h'))⟩
theorem Rd.cells_length {d : Rd} {a : Ra} (h1 : d.kept.length = 32) (h2 : d.now.length = 32) : (d.cells a).length = 66 := by simp [Rd.cells, strV_length, h1, h2]
theorem Rd.cell64 {d : Rd} {a : Ra} (h1 : d.kept.length = 32) (h2 : d.now.length = 32) : (d.cells a)[64]? = some (.slice a.wa d.waits.length a.wc) := by
  rw [Rd.cells, List.getElem?_append_right (by simp [strV_length, h1, h2])]; simp [strV_length, h1, h2]
theorem Rd.cell65 {d : Rd} {a : Ra} (h1 : d.kept.length = 32) (h2 : d.now.length = 32) : (d.cells a)[65]? = some (.slice a.la d.busy.length a.lc) := by
  rw [Rd.cells, List.getElem?_append_right (by simp [strV_length, h1, h2])]; simp [strV_length, h1, h2]
theorem Rd.cellNow {d : Rd} {a : Ra} (h1 : d.kept.length = 32) (h2 : d.now.length = 32) (k : Nat) (hk : k < 32) : (d.cells a)[32 + k]? = some (.string (d.now.getD k ByteArray.empty)) := by
  rw [Rd.cells, List.append_assoc, List.getElem?_append_right (by rw [strV_length]; omega), strV_length, h1, List.getElem?_append_left (by rw [strV_length]; omega)]
  simp [strV, List.getElem?_eq_getElem (show k < d.now.length by omega)]
theorem Rd.cellKept {d : Rd} {a : Ra} (h1 : d.kept.length = 32) (k : Nat) (hk : k < 32) : (d.cells a)[k]? = some (.string (d.kept.getD k ByteArray.empty)) := by
  rw [Rd.cells, List.append_assoc, List.getElem?_append_left (by rw [strV_length]; omega)]
  simp [strV, List.getElem?_eq_getElem (show k < d.kept.length by omega)]
section
variable {b : Nat} {d : Rd} {a : Ra} {w : World}
theorem RdAt.c64 (h : RdAt b d a w) : w.cell? ⟨b, 64, none⟩ = some (.slice a.wa d.waits.length a.wc) := by rw [cell_of_heap h.blk]; exact Rd.cell64 h.k32 h.n32
theorem RdAt.c65 (h : RdAt b d a w) : w.cell? ⟨b, 65, none⟩ = some (.slice a.la d.busy.length a.lc) := by rw [cell_of_heap h.blk]; exact Rd.cell65 h.k32 h.n32
theorem RdAt.cNow (h : RdAt b d a w) (k : Nat) (hk : k < 32) : w.cell? ⟨b, 32 + k, none⟩ = some (.string (d.now.getD k ByteArray.empty)) := by rw [cell_of_heap h.blk]; exact Rd.cellNow h.k32 h.n32 k hk
theorem RdAt.cKept (h : RdAt b d a w) (k : Nat) (hk : k < 32) : w.cell? ⟨b, k, none⟩ = some (.string (d.kept.getD k ByteArray.empty)) := by rw [cell_of_heap h.blk]; exact Rd.cellKept h.k32 k hk
theorem RdAt.fz (h : RdAt b d a w) (j : Nat) : w.frozen? ⟨b, j, none⟩ = false := frozen_of_heap h.blk j
theorem RdAt.lt (h : RdAt b d a w) : b < w.heap.size := lt_of_heap h.blk
theorem RdAt.wlt (h : RdAt b d a w) (p : Addr) (hp : a.wa = some p) : p.block < w.heap.size := (h.wrow.lt p.block (by rw [hp]; rfl)).2
theorem RdAt.footLt (h : RdAt b d a w) (k : Nat) (hk : a.foot b k) : k < w.heap.size := by
  rcases hk with rfl | ⟨p, hp, rfl⟩
  · exact h.lt
  · exact h.wlt p hp
theorem reqs_frame {F : Nat → Prop} {w w' : World} {a : Option Addr} {l : List Rq} (h : ReqsAt w a l) (hk : Only F w w') (hn : l ≠ [] → ∀ p, a = some p → ¬ F p.block) (hr : ∀ r ∈ l, r.Off F) : ReqsAt w' a l := by
  obtain ⟨h1, h2, h3⟩ := h
  refine ⟨?_, fun r hr' => (h2 r hr').frame (hr r hr') hk, h3⟩
  rcases h1 with h | ⟨b, o, ha, hc⟩
  · exact Or.inl h
  · by_cases he : l = []
    · exact Or.inl he
    · refine Or.inr ⟨b, o, ha, fun i hi j hj => ?_⟩
      have := hc i hi j hj
      rw [hk.cell (p := ⟨b, o + i * 6 + j, none⟩) (lt_of_cell this) (hn he ⟨b, o, none⟩ ha)]
      exact this
/-- A device that nothing of its own has turned. -/
theorem RdAt.frame {F : Nat → Prop} {w' : World} (h : RdAt b d a w) (hk : Only F w w') (hF : ∀ k, a.foot b k → ¬ F k) (hl : d.busy ≠ [] → ∀ p, a.la = some p → ¬ F p.block) (hr : ∀ r ∈ d.busy, r.Off F) : RdAt b d a w' where
  k32 := h.k32
  n32 := h.n32
  blk := by rw [hk.block b h.lt (hF b (Or.inl rfl))]; exact h.blk
  wrow := own_frame h.wrow fun g hg => by
    obtain ⟨p, hp, rfl⟩ := ownBlock_slice.1 hg
    exact hk.block _ (h.wlt p hp) (hF _ (Or.inr ⟨p, hp, rfl⟩))
  lrow := reqs_frame h.lrow hk hl hr
  lnil := h.lnil
  lcap := h.lcap
  loff := h.loff
  sepw := h.sepw
  reqs := h.reqs
  wfin := h.wfin
  blen := h.blen
theorem RdAt.later {w' : World} (h : RdAt b d a w) (hk : Below w.heap.size w w') : RdAt b d a w' :=
  h.frame (F := fun _ => False) (Only.of_below hk) (fun _ _ e => e) (fun _ _ _ e => e) (fun _ _ => ⟨fun _ _ _ e => e, fun _ _ _ e => e⟩)
end
theorem RStep.later {b : Nat} {d d' : Rd} {a a' : Ra} {w w' w'' : World} (h : RStep b d a d' a' w w') (hb : Below w'.heap.size w' w'') : RStep b d a d' a' w w'' := ⟨h.dev.later hb, h.only.later hb, h.foot, h.lan⟩
theorem RStep.drewAt {b : Nat} {d d' : Rd} {a a' : Ra} {w w' : World} (h : RStep b d a d' a' w w') : RStep b d a d' a' w w'.drew := h.later (Below.refl _ _).drew
theorem RStep.same {b : Nat} {d : Rd} {a : Ra} {w w' : World} (h : RdAt b d a w) (hb : Below w.heap.size w w') : RStep b d a d a w w' := ⟨h.later hb, Only.of_below hb, fun _ hk => Or.inl hk, fun hne _ hp => Or.inl ⟨hne, hp⟩⟩
theorem rcells_set65 (d : Rd) (a : Ra) (l : List Rq) (x : Option Addr) (c : Nat) (h1 : d.kept.length = 32) (h2 : d.now.length = 32) : (d.cells a).set 65 (.slice x l.length c) = ({ d with busy := l } : Rd).cells { a with la := x, lc := c } := by
  rw [Rd.cells, List.set_append_right _ _ (by simp [strV_length, h1, h2])]
  simp [strV_length, h1, h2, Rd.cells]
theorem rcells_set64 (d : Rd) (a : Ra) (l : List Pu) (x : Option Addr) (c : Nat) (h1 : d.kept.length = 32) (h2 : d.now.length = 32) : (d.cells a).set 64 (.slice x l.length c) = ({ d with waits := l } : Rd).cells { a with wa := x, wc := c } := by
  rw [Rd.cells, List.set_append_right _ _ (by simp [strV_length, h1, h2])]
  simp [strV_length, h1, h2, Rd.cells]
theorem rcells_setNow (d : Rd) (a : Ra) (p : Nat) (s : ByteArray) (h1 : d.kept.length = 32) (h2 : d.now.length = 32) (hp : p < 32) : (d.cells a).set (32 + p) (.string s) = ({ d with now := d.now.set p s } : Rd).cells a := by
  have e1 : (strV d.kept).length = 32 := by rw [strV_length, h1]
  rw [Rd.cells, Rd.cells, List.append_assoc, List.set_append_right _ _ (by omega), e1, show 32 + p - 32 = p by omega, List.set_append_left _ _ (by rw [strV_length]; omega), strV_set, List.append_assoc]
theorem rcells_setKept (d : Rd) (a : Ra) (p : Nat) (s : ByteArray) (h1 : d.kept.length = 32) (hp : p < 32) : (d.cells a).set p (.string s) = ({ d with kept := d.kept.set p s } : Rd).cells a := by
  rw [Rd.cells, Rd.cells, List.append_assoc, List.set_append_left _ _ (by rw [strV_length]; omega), strV_set, List.append_assoc]
/-- The list of requests is another one, in new memory (or nil). -/
theorem RdAt.busied {b : Nat} {d : Rd} {a : Ra} {w w3 : World} (h : RdAt b d a w) (hb : Below w.heap.size w w3) (l : List Rq) (hl2 : l.length ≤ 2) (x : Option Addr) (c : Nat) (hl : ReqsAt w3 x l) (hn : x = none → c = 0) (hc : l.length ≤ c) (hx : l ≠ [] → ∀ p, x = some p → w.heap.size ≤ p.block) (hr : ∀ r ∈ l, r.At w ∧ r.Off (a.foot b)) :
    RStep b d a { d with busy := l } { a with la := x, lc := c } w (w3.setCell ⟨b, 65, none⟩ (.slice x l.length c)) := by
  have h3 := h.later hb
  have hon : Only (a.foot b) w (w3.setCell ⟨b, 65, none⟩ (.slice x l.length c)) := (Only.of_below hb).setCell _ (Or.inl (Or.inl rfl)) _
  have hon3 : Only (fun k => k = b) w3 (w3.setCell ⟨b, 65, none⟩ (.slice x l.length c)) := (Only.refl (fun k => k = b) w3).setCell ⟨b, 65, none⟩ (Or.inl rfl) _
  have hxb : l ≠ [] → ∀ p, x = some p → ¬ a.foot b p.block := fun hne p hp hk => by
    have := h.footLt _ hk
    have := hx hne p hp
    omega
  refine ⟨?_, hon, fun k hk => Or.inl hk, fun hne p hp => Or.inr (hx hne p hp)⟩
  exact {
    k32 := h.k32
    n32 := h.n32
    blk := by rw [set_same h3.blk, rcells_set65 d a l x c h.k32 h.n32]
    wrow := own_frame h3.wrow fun g hg => by
      obtain ⟨p, hp, rfl⟩ := ownBlock_slice.1 hg
      exact set_other _ _ (h.sepw p hp)
    lrow := reqs_frame hl hon3 (fun hne p hp e => hxb hne p hp (Or.inl e)) (fun r hr' => ⟨fun he ad ha e => (hr r hr').2.1 he ad ha (Or.inl e), fun he ad ha e => (hr r hr').2.2 he ad ha (Or.inl e)⟩)
    lnil := hn
    lcap := hc
    loff := hxb
    sepw := h.sepw
    reqs := fun r hr' => (hr r hr').2
    wfin := h.wfin
    blen := hl2 }
/-- The device's block is another in its texts. -/
theorem RdAt.reblock {b : Nat} {d d' : Rd} {a : Ra} {w w' : World} (h : RdAt b d a w) (hO : Only (fun k => k = b) w w') (hblk : w'.heap[b]? = some (.cells (d'.cells a).toArray 32 (0, 0))) (hw : d'.waits = d.waits) (hb : d'.busy = d.busy) (k32 : d'.kept.length = 32) (n32 : d'.now.length = 32) : RStep b d a d' a w w' := by
  refine ⟨?_, hO.mono (fun k hk => Or.inl hk), fun k hk => Or.inl hk, fun hne p hp => Or.inl ⟨by rw [← hb]; exact hne, hp⟩⟩
  exact {
    k32 := k32
    n32 := n32
    blk := hblk
    wrow := by
      rw [hw]
      exact own_frame h.wrow fun g hg => by
        obtain ⟨p, hp, rfl⟩ := ownBlock_slice.1 hg
        exact hO.block _ (h.wlt p hp) (h.sepw p hp)
    lrow := by
      rw [hb]
      exact reqs_frame h.lrow hO (fun hne p hp e => h.loff hne p hp (Or.inl e)) (fun r hr' => ⟨fun he ad ha e => (h.reqs r hr').1 he ad ha (Or.inl e), fun he ad ha e => (h.reqs r hr').2 he ad ha (Or.inl e)⟩)
    lnil := h.lnil
    lcap := by rw [hb]; exact h.lcap
    loff := by rw [hb]; exact h.loff
    sepw := h.sepw
    reqs := by rw [hb]; exact h.reqs
    wfin := by rw [hw]; exact h.wfin
    blen := by rw [hb]; exact h.blen }
/-- What waits is another row: nil, in its old place, or in a new block. -/
theorem RdAt.rewaits {b : Nat} {d : Rd} {a : Ra} {w w2 w3 : World} (h : RdAt b d a w) (hb : Below w.heap.size w w2) (l : List Pu) (hf : ∀ x ∈ l, x.pl < 32) {v : Value} (hown : w3.ownsRow 0 108 2 v l.length (pcells l)) (hO : Only (fun k => ∃ p, a.wa = some p ∧ k = p.block) w2 w3) (hv : ∀ g, v.ownBlock = some g → (∃ p, a.wa = some p ∧ g = p.block) ∨ w2.heap.size ≤ g) :
    ∃ x c, v = .slice x l.length c ∧ RStep b d a { d with waits := l } { a with wa := x, wc := c } w (w3.setCell ⟨b, 64, none⟩ v) := by
  obtain ⟨x, c, rfl, _⟩ := slice_of_own hown
  have h2 := h.later hb
  have hs2 := hb.size
  have nb : ¬ ∃ p, a.wa = some p ∧ b = p.block := fun ⟨p, hp, e⟩ => h.sepw p hp e.symm
  have hlt := h.lt
  have e3 : w3.heap[b]? = some (.cells (d.cells a).toArray 32 (0, 0)) := by
    rw [hO.block b (by omega) nb]; exact h2.blk
  have xb : ∀ p, x = some p → p.block ≠ b := fun p hp e => by
    rcases hv p.block (ownBlock_slice.2 ⟨p, hp, rfl⟩) with ⟨q, hq, e'⟩ | h'
    · exact h.sepw q hq (by omega)
    · omega
  have hon2 : Only (a.foot b) w2 (w3.setCell ⟨b, 64, none⟩ (.slice x l.length c)) := (hO.mono (F' := a.foot b) (fun k hk => Or.inr hk)).setCell ⟨b, 64, none⟩ (Or.inl (Or.inl rfl)) _
  have hon : Only (a.foot b) w (w3.setCell ⟨b, 64, none⟩ (.slice x l.length c)) := (Only.of_below (F := a.foot b) hb).trans hon2 (fun i e => Or.inl e)
  have hft : ∀ k, ({ a with wa := x, wc := c } : Ra).foot b k → a.foot b k ∨ w.heap.size ≤ k := by
    rintro k (rfl | ⟨p, hp, rfl⟩)
    · exact Or.inl (Or.inl rfl)
    · rcases hv p.block (ownBlock_slice.2 ⟨p, hp, rfl⟩) with ⟨q, hq, e'⟩ | h'
      · exact Or.inl (Or.inr ⟨q, hq, e'⟩)
      · exact Or.inr (by omega)
  refine ⟨x, c, rfl, ⟨?_, hon, hft, fun hne p hp => Or.inl ⟨hne, hp⟩⟩⟩
  have lr : ReqsAt (w3.setCell ⟨b, 64, none⟩ (.slice x l.length c)) a.la d.busy := reqs_frame h.lrow hon h.loff h.reqs
  exact {
    k32 := h.k32
    n32 := h.n32
    blk := by rw [set_same e3, rcells_set64 d a l x c h.k32 h.n32]
    wrow := own_frame hown fun g hg' => by
      obtain ⟨p, hp, rfl⟩ := ownBlock_slice.1 hg'
      exact set_other _ _ (xb p hp)
    lrow := lr
    lnil := h.lnil
    lcap := h.lcap
    loff := fun hne p hp hk => (hft _ hk).elim (h.loff hne p hp) (fun h' => by
      rcases h.lrow.1 with e | ⟨b', o', ha, hc⟩
      · exact hne e
      · have hp' : d.busy.length ≠ 0 := fun e => hne (List.eq_nil_of_length_eq_zero e)
        have := lt_of_cell (hc 0 (by omega) 0 (by omega))
        change a.la = some p at hp
        rw [ha] at hp
        simp only [Option.some.injEq] at hp
        subst hp
        exact absurd h' (by simp only; omega))
    sepw := xb
    reqs := fun r hr' => Rq.Off.step (h.lrow.2.1 r hr') (h.reqs r hr') hft
    wfin := hf
    blen := h.blen }
end Go.Proofs.Ythmeaclekedilac
