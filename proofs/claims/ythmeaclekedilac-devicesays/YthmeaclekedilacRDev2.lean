/- The document's device in memory: its block, the row of what waits, and where its requests lie; what stands when something else turns. -/
import Derived.Test.YthmeaclekedilacRDev1
namespace Go.Proofs.Ythmeaclekedilac
open Go.RowKit Go.BigFrame

abbrev Pu.val (x : Pu) : Value := .agg #[.int .i64 x.pl, .string x.data]
def pcells (l : List Pu) : List Value := l.flatMap fun x => [.int .i64 x.pl, .string x.data]
theorem pcells_cons (x : Pu) (l : List Pu) : pcells (x :: l) = .int .i64 x.pl :: .string x.data :: pcells l := rfl
theorem pcells_length (l : List Pu) : (pcells l).length = l.length * 2 := by
  induction l with
  | nil => rfl
  | cons r l ih => rw [pcells_cons, List.length_cons, List.length_cons, ih, List.length_cons]; omega
theorem pcells_append (l l' : List Pu) : pcells (l ++ l') = pcells l ++ pcells l' := by simp [pcells]
theorem pcells_snoc (l : List Pu) (x : Pu) : pcells (l ++ [x]) = pcells l ++ [.int .i64 x.pl, .string x.data] := by rw [pcells_append]; rfl
theorem pcells_at (l : List Pu) : ∀ (i : Nat) (h : i < l.length), (pcells l)[i * 2]? = some (.int .i64 l[i].pl) ∧ (pcells l)[i * 2 + 1]? = some (.string l[i].data) := by
  induction l with
  | nil => intro i h; exact absurd h (Nat.not_lt_zero _)
  | cons r l ih =>
    intro i h
    cases i with
    | zero => exact ⟨rfl, rfl⟩
    | succ i =>
      have := ih i (by simpa using h)
      rw [pcells_cons, show (i + 1) * 2 = i * 2 + 2 by omega]
      exact this
/-- Where its rows lie. -/
structure Ra where
  wa : Option Addr
  wc : Nat
  la : Option Addr
  lc : Nat
def Rd.cells (m : Rd) (a : Ra) : List Value := strV m.kept ++ strV m.now ++ [.slice a.wa m.waits.length a.wc, .slice a.la m.busy.length a.lc]
def Ra.foot (a : Ra) (b : Nat) (k : Nat) : Prop := k = b ∨ (∃ p, a.wa = some p ∧ k = p.block)
structure RdAt (b : Nat) (m : Rd) (a : Ra) (w : World) : Prop where
  k32 : m.kept.length = 32
  n32 : m.now.length = 32
  blk : w.heap[b]? = some (.cells (m.cells a).toArray 32 (0, 0))
  wrow : w.ownsRow 0 108 2 (.slice a.wa m.waits.length a.wc) m.waits.length (pcells m.waits)
  lrow : ReqsAt w a.la m.busy
  lnil : a.la = none → a.lc = 0
  lcap : m.busy.length ≤ a.lc
  loff : m.busy ≠ [] → ∀ p, a.la = some p → ¬ a.foot b p.block
  sepw : ∀ p, a.wa = some p → p.block ≠ b
  reqs : ∀ r ∈ m.busy, r.Off (a.foot b)
  wfin : ∀ x ∈ m.waits, x.pl < 32
  blen : m.busy.length ≤ 2
structure RStep (b : Nat) (m : Rd) (a : Ra) (m' : Rd) (a' : Ra) (w w' : World) : Prop where
  dev : RdAt b m' a' w'
  only : Only (a.foot b) w w'
  foot : ∀ k, a'.foot b k → a.foot b k ∨ w.heap.size ≤ k
  lan : m'.busy ≠ [] → ∀ p, a'.la = some p → (m.busy ≠ [] ∧ a.la = some p) ∨ w.heap.size ≤ p.block
theorem RStep.trans {b : Nat} {d d' d'' : Rd} {a a' a'' : Ra} {w w' w'' : World} (h : RStep b d a d' a' w w') (k : RStep b d' a' d'' a'' w' w'') : RStep b d a d'' a'' w w'' :=
  ⟨k.dev, h.only.trans k.only h.foot, fun i hi => (k.foot i hi).elim (h.foot i) (fun h' => Or.inr (Nat.le_trans h.only.size h')), fun hne p hp => (k.lan hne p hp).elim (fun e => h.lan e.1 p e.2) (fun h' => Or.inr (Nat.le_trans h.only.size h'))⟩
theorem Rd.cells_length {d : Rd} {a : Ra} (h1 : d.kept.length = 32) (h2 : d.now.length = 32) : (d.cells a).length = 66 := by simp [Rd.cells, strV_length, h1, h2]
theorem Rd.cell64 {d : Rd} {a : Ra} (h1 : d.kept.length = 32) (h2 : d.now.length = 32) : (d.cells a)[64]? = some (.slice a.wa d.waits.length a.wc) := by
  rw [Rd.cells, List.getElem?_append_right (by simp [strV_length, h1, h2])]; simp [strV_length, h1, h2]
theorem Rd.cell65 {d : Rd} {a : Ra} (h1 : d.kept.length = 32) (h2 : d.now.length = 32) : (d.cells a)[65]? = some (.slice a.la d.busy.length a.lc) := by
  rw [Rd.cells, List.getElem?_append_right (by simp [strV_length, h1, h2])]; simp [strV_length, h1, h2]
theorem Rd.cellNow {d : Rd} {a : Ra} (h1 : d.kept.length = 32) (h2 : d.now.length = 32) (k : Nat) (hk : k < 32) : (d.cells a)[32 + k]? = some (.string (d.now.getD k ByteArray.empty)) := by
  rw [Rd.cells, List.append_assoc, List.getElem?_append_right (by rw [strV_length]; omega), strV_length, h1, List.getElem?_append_left (by rw [strV_length]; omega)]
  simp [strV, List.getElem?_eq_getElem (show k < d.now.length by omega)]
theorem Rd.cellKept {d : Rd} {a : Ra} (h1 : d.kept.length = 32) (k : Nat) (hk : k < 32) : (d.cells a)[k]? = some (.string (d.kept.getD k ByteArray.empty)) := by
  rw [Rd.cells, List.append_assoc, List.getElem?_append_left (by rw [strV_length]; omega)]
  simp [strV, List.getElem?_eq_getElem (show k < d.kept.length by omega)]
section
variable {b : Nat} {d : Rd} {a : Ra} {w : World}
theorem RdAt.c64 (h : RdAt b d a w) : w.cell? ⟨b, 64, none⟩ = some (.slice a.wa d.waits.length a.wc) := by rw [cell_of_heap h.blk]; exact Rd.cell64 h.k32 h.n32
theorem RdAt.c65 (h : RdAt b d a w) : w.cell? ⟨b, 65, none⟩ = some (.slice a.la d.busy.length a.lc) := by rw [cell_of_heap h.blk]; exact Rd.cell65 h.k32 h.n32
theorem RdAt.cNow (h : RdAt b d a w) (k : Nat) (hk : k < 32) : w.cell? ⟨b, 32 + k, none⟩ = some (.string (d.now.getD k ByteArray.empty)) := by rw [cell_of_heap h.blk]; exact Rd.cellNow h.k32 h.n32 k hk
theorem RdAt.cKept (h : RdAt b d a w) (k : Nat) (hk : k < 32) : w.cell? ⟨b, k, none⟩ = some (.string (d.kept.getD k ByteArray.empty)) := by rw [cell_of_heap h.blk]; exact Rd.cellKept h.k32 k hk
theorem RdAt.fz (h : RdAt b d a w) (j : Nat) : w.frozen? ⟨b, j, none⟩ = false := frozen_of_heap h.blk j
theorem RdAt.lt (h : RdAt b d a w) : b < w.heap.size := lt_of_heap h.blk
theorem RdAt.wlt (h : RdAt b d a w) (p : Addr) (hp : a.wa = some p) : p.block < w.heap.size := (h.wrow.lt p.block (by rw [hp]; rfl)).2
theorem RdAt.footLt (h : RdAt b d a w) (k : Nat) (hk : a.foot b k) : k < w.heap.size := by
  rcases hk with rfl | ⟨p, hp, rfl⟩
  · exact h.lt
  · exact h.wlt p hp
theorem reqs_frame {F : Nat → Prop} {w w' : World} {a : Option Addr} {l : List Rq} (h : ReqsAt w a l) (hk : Only F w w') (hn : l ≠ [] → ∀ p, a = some p → ¬ F p.block) (hr : ∀ r ∈ l, r.Off F) : ReqsAt w' a l := by
  obtain ⟨h1, h2, h3⟩ := h
  refine ⟨?_, fun r hr' => (h2 r hr').frame (hr r hr') hk, h3⟩
  rcases h1 with h | ⟨b, o, ha, hc⟩
  · exact Or.inl h
  · by_cases he : l = []
    · exact Or.inl he
    · refine Or.inr ⟨b, o, ha, fun i hi j hj => ?_⟩
      have := hc i hi j hj
      rw [hk.cell (p := ⟨b, o + i * 6 + j, none⟩) (lt_of_cell this) (hn he ⟨b, o, none⟩ ha)]
      exact this
/-- A device that nothing of its own has turned. -/
theorem RdAt.frame {F : Nat → Prop} {w' : World} (h : RdAt b d a w) (hk : Only F w w') (hF : ∀ k, a.foot b k → ¬ F k) (hl : d.busy ≠ [] → ∀ p, a.la = some p → ¬ F p.block) (hr : ∀ r ∈ d.busy, r.Off F) : RdAt b d a w' where
  k32 := h.k32
  n32 := h.n32
  blk := by rw [hk.block b h.lt (hF b (Or.inl rfl))]; exact h.blk
  wrow := own_frame h.wrow fun g hg => by
    obtain ⟨p, hp, rfl⟩ := ownBlock_slice.1 hg
    exact hk.block _ (h.wlt p hp) (hF _ (Or.inr ⟨p, hp, rfl⟩))
  lrow := reqs_frame h.lrow hk hl hr
  lnil := h.lnil
  lcap := h.lcap
  loff := h.loff
  sepw := h.sepw
  reqs := h.reqs
  wfin := h.wfin
  blen := h.blen
theorem RdAt.later {w' : World} (h : RdAt b d a w) (hk : Below w.heap.size w w') : RdAt b d a w' :=
  h.frame (F := fun _ => False) (Only.of_below hk) (fun _ _ e => e) (fun _ _ _ e => e) (fun _ _ => ⟨fun _ _ _ e => e, fun _ _ _ e => e⟩)
end
theorem RStep.later {b : Nat} {d d' : Rd} {a a' : Ra} {w w' w'' : World} (h : RStep b d a d' a' w w') (hb : Below w'.heap.size w' w'') : RStep b d a d' a' w w'' := ⟨h.dev.later hb, h.only.later hb, h.foot, h.lan⟩
theorem RStep.drewAt {b : Nat} {d d' : Rd} {a a' : Ra} {w w' : World} (h : RStep b d a d' a' w w') : RStep b d a d' a' w w'.drew := h.later (Below.refl _ _).drew
theorem RStep.same {b : Nat} {d : Rd} {a : Ra} {w w' : World} (h : RdAt b d a w) (hb : Below w.heap.size w w') : RStep b d a d a w w' := ⟨h.later hb, Only.of_below hb, fun _ hk => Or.inl hk, fun hne _ hp => Or.inl ⟨hne, hp⟩⟩
theorem rcells_set65 (d : Rd) (a : Ra) (l : List Rq) (x : Option Addr) (c : Nat) (h1 : d.kept.length = 32) (h2 : d.now.length = 32) : (d.cells a).set 65 (.slice x l.length c) = ({ d with busy := l } : Rd).cells { a with la := x, lc := c } := by
  rw [Rd.cells, List.set_append_right _ _ (by simp [strV_length, h1, h2])]
  simp [strV_length, h1, h2, Rd.cells]
theorem rcells_set64 (d : Rd) (a : Ra) (l : List Pu) (x : Option Addr) (c : Nat) (h1 : d.kept.length = 32) (h2 : d.now.length = 32) : (d.cells a).set 64 (.slice x l.length c) = ({ d with waits := l } : Rd).cells { a with wa := x, wc := c } := by
  rw [Rd.cells, List.set_append_right _ _ (by simp [strV_length, h1, h2])]
  simp [strV_length, h1, h2, Rd.cells]
theorem rcells_setNow (d : Rd) (a : Ra) (p : Nat) (s : ByteArray) (h1 : d.kept.length = 32) (h2 : d.now.length = 32) (hp : p < 32) : (d.cells a).set (32 + p) (.string s) = ({ d with now := d.now.set p s } : Rd).cells a := by
  have e1 : (strV d.kept).length = 32 := by rw [strV_length, h1]
  rw [Rd.cells, Rd.cells, List.append_assoc, List.set_append_right _ _ (by omega), e1, show 32 + p - 32 = p by omega, List.set_append_left _ _ (by rw [strV_length]; omega), strV_set, List.append_assoc]
theorem rcells_setKept (d : Rd) (a : Ra) (p : Nat) (s : ByteArray) (h1 : d.kept.length = 32) (hp : p < 32) : (d.cells a).set p (.string s) = ({ d with kept := d.kept.set p s } : Rd).cells a := by
  rw [Rd.cells, Rd.cells, List.append_assoc, List.set_append_left _ _ (by rw [strV_length]; omega), strV_set, List.append_assoc]
/-- The list of requests is another one, in new memory (or nil). -/
theorem RdAt.busied {b : Nat} {d : Rd} {a : Ra} {w w3 : World} (h : RdAt b d a w) (hb : Below w.heap.size w w3) (l : List Rq) (hl2 : l.length ≤ 2) (x : Option Addr) (c : Nat) (hl : ReqsAt w3 x l) (hn : x = none → c = 0) (hc : l.length ≤ c) (hx : l ≠ [] → ∀ p, x = some p → w.heap.size ≤ p.block) (hr : ∀ r ∈ l, r.At w ∧ r.Off (a.foot b)) :
    RStep b d a { d with busy := l } { a with la := x, lc := c } w (w3.setCell ⟨b, 65, none⟩ (.slice x l.length c)) := by
  have h3 := h.later hb
  have hon : Only (a.foot b) w (w3.setCell ⟨b, 65, none⟩ (.slice x l.length c)) := (Only.of_below hb).setCell _ (Or.inl (Or.inl rfl)) _
  have hon3 : Only (fun k => k = b) w3 (w3.setCell ⟨b, 65, none⟩ (.slice x l.length c)) := (Only.refl (fun k => k = b) w3).setCell ⟨b, 65, none⟩ (Or.inl rfl) _
  have hxb : l ≠ [] → ∀ p, x = some p → ¬ a.foot b p.block := fun hne p hp hk => by
    have := h.footLt _ hk
    have := hx hne p hp
    omega
  refine ⟨?_, hon, fun k hk => Or.inl hk, fun hne p hp => Or.inr (hx hne p hp)⟩
  exact {
    k32 := h.k32
    n32 := h.n32
    blk := by rw [set_same h3.blk, rcells_set65 d a l x c h.k32 h.n32]
    wrow := own_frame h3.wrow fun g hg => by
      obtain ⟨p, hp, rfl⟩ := ownBlock_slice.1 hg
      exact set_other _ _ (h.sepw p hp)
    lrow := reqs_frame hl hon3 (fun hne p hp e => hxb hne p hp (Or.inl e)) (fun r hr' => ⟨fun he ad ha e => (hr r hr').2.1 he ad ha (Or.inl e), fun he ad ha e => (hr r hr').2.2 he ad ha (Or.inl e)⟩)
    lnil := hn
    lcap := hc
    loff := hxb
    sepw := h.sepw
    reqs := fun r hr' => (hr r hr').2
    wfin := h.wfin
    blen := hl2 }
/-- The device's block is another in its texts. -/
theorem RdAt.reblock {b : Nat} {d d' : Rd} {a : Ra} {w w' : World} (h : RdAt b d a w) (hO : Only (fun k => k = b) w w') (hblk : w'.heap[b]? = some (.cells (d'.cells a).toArray 32 (0, 0))) (hw : d'.waits = d.waits) (hb : d'.busy = d.busy) (k32 : d'.kept.length = 32) (n32 : d'.now.length = 32) : RStep b d a d' a w w' := by
  refine ⟨?_, hO.mono (fun k hk => Or.inl hk), fun k hk => Or.inl hk, fun hne p hp => Or.inl ⟨by rw [← hb]; exact hne, hp⟩⟩
  exact {
    k32 := k32
    n32 := n32
    blk := hblk
    wrow := by
      rw [hw]
      exact own_frame h.wrow fun g hg => by
        obtain ⟨p, hp, rfl⟩ := ownBlock_slice.1 hg
        exact hO.block _ (h.wlt p hp) (h.sepw p hp)
    lrow := by
      rw [hb]
      exact reqs_frame h.lrow hO (fun hne p hp e => h.loff hne p hp (Or.inl e)) (fun r hr' => ⟨fun he ad ha e => (h.reqs r hr').1 he ad ha (Or.inl e), fun he ad ha e => (h.reqs r hr').2 he ad ha (Or.inl e)⟩)
    lnil := h.lnil
    lcap := by rw [hb]; exact h.lcap
    loff := by rw [hb]; exact h.loff
    sepw := h.sepw
    reqs := by rw [hb]; exact h.reqs
    wfin := by rw [hw]; exact h.wfin
    blen := by rw [hb]; exact h.blen }
/-- What waits is another row: nil, in its old place, or in a new block. -/
theorem RdAt.rewaits {b : Nat} {d : Rd} {a : Ra} {w w2 w3 : World} (h : RdAt b d a w) (hb : Below w.heap.size w w2) (l : List Pu) (hf : ∀ x ∈ l, x.pl < 32) {v : Value} (hown : w3.ownsRow 0 108 2 v l.length (pcells l)) (hO : Only (fun k => ∃ p, a.wa = some p ∧ k = p.block) w2 w3) (hv : ∀ g, v.ownBlock = some g → (∃ p, a.wa = some p ∧ g = p.block) ∨ w2.heap.size ≤ g) :
    ∃ x c, v = .slice x l.length c ∧ RStep b d a { d with waits := l } { a with wa := x, wc := c } w (w3.setCell ⟨b, 64, none⟩ v) := by
  obtain ⟨x, c, rfl, _⟩ := slice_of_own hown
  have h2 := h.later hb
  have hs2 := hb.size
  have nb : ¬ ∃ p, a.wa = some p ∧ b = p.block := fun ⟨p, hp, e⟩ => h.sepw p hp e.symm
  have hlt := h.lt
  have e3 : w3.heap[b]? = some (.cells (d.cells a).toArray 32 (0, 0)) := by
    rw [hO.block b (by omega) nb]; exact h2.blk
  have xb : ∀ p, x = some p → p.block ≠ b := fun p hp e => by
    rcases hv p.block (ownBlock_slice.2 ⟨p, hp, rfl⟩) with ⟨q, hq, e'⟩ | h'
    · exact h.sepw q hq (by omega)
    · omega
  have hon2 : Only (a.foot b) w2 (w3.setCell ⟨b, 64, none⟩ (.slice x l.length c)) := (hO.mono (F' := a.foot b) (fun k hk => Or.inr hk)).setCell ⟨b, 64, none⟩ (Or.inl (Or.inl rfl)) _
  have hon : Only (a.foot b) w (w3.setCell ⟨b, 64, none⟩ (.slice x l.length c)) := (Only.of_below (F := a.foot b) hb).trans hon2 (fun i e => Or.inl e)
  have hft : ∀ k, ({ a with wa := x, wc := c } : Ra).foot b k → a.foot b k ∨ w.heap.size ≤ k := by
    rintro k (rfl | ⟨p, hp, rfl⟩)
    · exact Or.inl (Or.inl rfl)
    · rcases hv p.block (ownBlock_slice.2 ⟨p, hp, rfl⟩) with ⟨q, hq, e'⟩ | h'
      · exact Or.inl (Or.inr ⟨q, hq, e'⟩)
      · exact Or.inr (by omega)
  refine ⟨x, c, rfl, ⟨?_, hon, hft, fun hne p hp => Or.inl ⟨hne, hp⟩⟩⟩
  have lr : ReqsAt (w3.setCell ⟨b, 64, none⟩ (.slice x l.length c)) a.la d.busy := reqs_frame h.lrow hon h.loff h.reqs
  exact {
    k32 := h.k32
    n32 := h.n32
    blk := by rw [set_same e3, rcells_set64 d a l x c h.k32 h.n32]
    wrow := own_frame hown fun g hg' => by
      obtain ⟨p, hp, rfl⟩ := ownBlock_slice.1 hg'
      exact set_other _ _ (xb p hp)
    lrow := lr
    lnil := h.lnil
    lcap := h.lcap
    loff := fun hne p hp hk => (hft _ hk).elim (h.loff hne p hp) (fun h' => by
      rcases h.lrow.1 with e | ⟨b', o', ha, hc⟩
      · exact hne e
      · have hp' : d.busy.length ≠ 0 := fun e => hne (List.eq_nil_of_length_eq_zero e)
        have := lt_of_cell (hc 0 (by omega) 0 (by omega))
        change a.la = some p at hp
        rw [ha] at hp
        simp only [Option.some.injEq] at hp
        subst hp
        exact absurd h' (by simp only; omega))
    sepw := xb
    reqs := fun r hr' => Rq.Off.step (h.lrow.2.1 r hr') (h.reqs r hr') hft
    wfin := hf
    blen := h.blen }
end Go.Proofs.Ythmeaclekedilac
