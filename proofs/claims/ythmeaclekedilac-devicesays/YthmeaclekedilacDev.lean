/- A device in memory: its block, its two rows; what stands when something else turns. -/
import Derived.Test.YthmeaclekedilacOnly
import Derived.Test.YthmeaclekedilacTake
import Derived.Test.YthmeaclekedilacPart
namespace Go.Proofs.Ythmeaclekedilac
open Go.RowKit

/-- What a sector was given, and its bit. -/
structure Wn where
  pl : Nat
  data : ByteArray
  bit : Nat
abbrev Wn.val (x : Wn) : Value := .agg #[.int .i64 x.pl, .string x.data, .int .i64 x.bit]
def Wn.key (x : Wn) : Nat := x.pl * 64 + x.bit
def wcells (l : List Wn) : List Value := l.flatMap fun x => [.int .i64 x.pl, .string x.data, .int .i64 x.bit]
theorem wcells_cons (x : Wn) (l : List Wn) : wcells (x :: l) = .int .i64 x.pl :: .string x.data :: .int .i64 x.bit :: wcells l := rfl
theorem wcells_length (l : List Wn) : (wcells l).length = l.length * 3 := by
  induction l with
  | nil => rfl
  | cons r l ih => rw [wcells_cons, List.length_cons, List.length_cons, List.length_cons, ih, List.length_cons]; omega
theorem wcells_append (l l' : List Wn) : wcells (l ++ l') = wcells l ++ wcells l' := by simp [wcells]
theorem wcells_one (l : List Wn) : ∀ u ∈ wcells l, u.oneCell' = true := by
  intro u hu
  simp only [wcells, List.mem_flatMap] at hu
  obtain ⟨r, _, hr⟩ := hu
  simp only [List.mem_cons, List.not_mem_nil, or_false] at hr
  rcases hr with rfl | rfl | rfl <;> rfl
theorem wcells_at (l : List Wn) : ∀ (i : Nat) (h : i < l.length), (wcells l)[i * 3]? = some (.int .i64 l[i].pl) ∧ (wcells l)[i * 3 + 1]? = some (.string l[i].data) ∧ (wcells l)[i * 3 + 2]? = some (.int .i64 l[i].bit) := by
  induction l with
  | nil => intro i h; exact absurd h (Nat.not_lt_zero _)
  | cons r l ih =>
    intro i h
    cases i with
    | zero => exact ⟨rfl, rfl, rfl⟩
    | succ i =>
      have := ih i (by simpa using h)
      rw [wcells_cons, show (i + 1) * 3 = i * 3 + 3 by omega]
      exact this
theorem wcells_take (l : List Wn) (k : Nat) : (wcells l).take (k * 3) = wcells (l.take k) := by
  by_cases hk : k ≤ l.length
  · have e := wcells_append (l.take k) (l.drop k)
    rw [List.take_append_drop] at e
    have hl : (wcells (l.take k)).length = k * 3 := by rw [wcells_length, List.length_take, Nat.min_eq_left hk]
    rw [e, List.take_append_of_le_length (by omega), List.take_of_length_le (by omega)]
  · rw [List.take_of_length_le (by rw [wcells_length]; omega), List.take_of_length_le (by omega)]

/-- What a device has. -/
structure Dl where
  now : List ByteArray
  good : List ByteArray
  wr : List Wn
  next : Nat
  busy : List Rq
/-- Where its rows lie. -/
structure An where
  wa : Option Addr
  wc : Nat
  ba : Option Addr
  bc : Nat
def strV (l : List ByteArray) : List Value := l.map fun s => .string s
def Dl.cells (d : Dl) (a : An) : List Value := strV d.now ++ strV d.good ++ [.slice a.wa d.wr.length a.wc, .int .i64 d.next, .slice a.ba d.busy.length a.bc]
def An.foot (a : An) (b : Nat) (k : Nat) : Prop := k = b ∨ (∃ p, a.wa = some p ∧ k = p.block) ∨ (∃ p, a.ba = some p ∧ k = p.block)

structure DevAt (b : Nat) (d : Dl) (a : An) (w : World) : Prop where
  n32 : d.now.length = 32
  g32 : d.good.length = 32
  blk : w.heap[b]? = some (.cells (d.cells a).toArray 101 (0, 0))
  wrow : w.ownsRow 0 111 3 (.slice a.wa d.wr.length a.wc) d.wr.length (wcells d.wr)
  brow : w.ownsRow 0 38 6 (.slice a.ba d.busy.length a.bc) d.busy.length (rcells d.busy)
  sepw : ∀ p, a.wa = some p → p.block ≠ b
  sepb : ∀ p, a.ba = some p → p.block ≠ b
  sepwb : ∀ p q, a.wa = some p → a.ba = some q → p.block ≠ q.block
  reqs : ∀ r ∈ d.busy, r.At w ∧ r.Off (a.foot b)
  wfin : ∀ x ∈ d.wr, x.pl < 32 ∧ x.bit < 64
  nod : (d.wr.map Wn.key).Nodup
  blen : d.busy.length ≤ 2
  nxt : d.next < 64

structure DStep (b : Nat) (d : Dl) (a : An) (d' : Dl) (a' : An) (w w' : World) : Prop where
  dev : DevAt b d' a' w'
  only : Only (a.foot b) w w'
  foot : ∀ k, a'.foot b k → a.foot b k ∨ w.heap.size ≤ k
theorem DStep.trans {b : Nat} {d d' d'' : Dl} {a a' a'' : An} {w w' w'' : World} (h : DStep b d a d' a' w w') (k : DStep b d' a' d'' a'' w' w'') : DStep b d a d'' a'' w w'' :=
  ⟨k.dev, h.only.trans k.only h.foot, fun i hi => (k.foot i hi).elim (h.foot i) (fun h' => Or.inr (Nat.le_trans h.only.size h'))⟩

theorem strV_length (l : List ByteArray) : (strV l).length = l.length := by simp [strV]
theorem Dl.cells_length {d : Dl} {a : An} (h1 : d.now.length = 32) (h2 : d.good.length = 32) : (d.cells a).length = 67 := by simp [Dl.cells, strV_length, h1, h2]
theorem Dl.cell64 {d : Dl} {a : An} (h1 : d.now.length = 32) (h2 : d.good.length = 32) : (d.cells a)[64]? = some (.slice a.wa d.wr.length a.wc) := by
  rw [Dl.cells, List.getElem?_append_right (by simp [strV_length, h1, h2])]; simp [strV_length, h1, h2]
theorem Dl.cell65 {d : Dl} {a : An} (h1 : d.now.length = 32) (h2 : d.good.length = 32) : (d.cells a)[65]? = some (.int .i64 d.next) := by
  rw [Dl.cells, List.getElem?_append_right (by simp [strV_length, h1, h2])]; simp [strV_length, h1, h2]
theorem Dl.cell66 {d : Dl} {a : An} (h1 : d.now.length = 32) (h2 : d.good.length = 32) : (d.cells a)[66]? = some (.slice a.ba d.busy.length a.bc) := by
  rw [Dl.cells, List.getElem?_append_right (by simp [strV_length, h1, h2])]; simp [strV_length, h1, h2]
theorem Dl.cellNow {d : Dl} {a : An} (h1 : d.now.length = 32) (k : Nat) (hk : k < 32) : (d.cells a)[k]? = some (.string (d.now.getD k ByteArray.empty)) := by
  rw [Dl.cells, List.append_assoc, List.getElem?_append_left (by rw [strV_length]; omega)]
  simp [strV, List.getElem?_eq_getElem (show k < d.now.length by omega)]
theorem nodup_le : ∀ (n : Nat) (l : List Nat), l.Nodup → (∀ x ∈ l, x < n) → l.length ≤ n
  | 0, l, _, h => by
    cases l with
    | nil => simp
    | cons x l => exact absurd (h x (by simp)) (Nat.not_lt_zero _)
  | n + 1, l, hn, h => by
    have h1 := nodup_le n (l.erase n) (hn.erase n) (fun x hx => by
      have := h x (List.mem_of_mem_erase hx)
      have hne := (hn.mem_erase_iff).1 hx
      omega)
    have h2 : l.length - 1 ≤ (l.erase n).length := by rw [List.length_erase]; split <;> omega
    omega
section
variable {b : Nat} {d : Dl} {a : An} {w : World}
theorem DevAt.wlen (h : DevAt b d a w) : d.wr.length ≤ 2048 := by
  have := nodup_le 2048 _ h.nod (fun x hx => by
    obtain ⟨y, hy, rfl⟩ := List.mem_map.1 hx
    have := h.wfin y hy
    unfold Wn.key; omega)
  simpa using this
theorem DevAt.c64 (h : DevAt b d a w) : w.cell? ⟨b, 64, none⟩ = some (.slice a.wa d.wr.length a.wc) := by rw [cell_of_heap h.blk]; exact Dl.cell64 h.n32 h.g32
theorem DevAt.c65 (h : DevAt b d a w) : w.cell? ⟨b, 65, none⟩ = some (.int .i64 d.next) := by rw [cell_of_heap h.blk]; exact Dl.cell65 h.n32 h.g32
theorem DevAt.c66 (h : DevAt b d a w) : w.cell? ⟨b, 66, none⟩ = some (.slice a.ba d.busy.length a.bc) := by rw [cell_of_heap h.blk]; exact Dl.cell66 h.n32 h.g32
theorem DevAt.cNow (h : DevAt b d a w) (k : Nat) (hk : k < 32) : w.cell? ⟨b, k, none⟩ = some (.string (d.now.getD k ByteArray.empty)) := by rw [cell_of_heap h.blk]; exact Dl.cellNow h.n32 k hk
theorem DevAt.fz (h : DevAt b d a w) (j : Nat) : w.frozen? ⟨b, j, none⟩ = false := frozen_of_heap h.blk j
theorem DevAt.lt (h : DevAt b d a w) : b < w.heap.size := lt_of_heap h.blk
theorem DevAt.wlt (h : DevAt b d a w) (p : Addr) (hp : a.wa = some p) : p.block < w.heap.size := (h.wrow.lt p.block (by rw [hp]; rfl)).2
theorem DevAt.blt (h : DevAt b d a w) (p : Addr) (hp : a.ba = some p) : p.block < w.heap.size := (h.brow.lt p.block (by rw [hp]; rfl)).2
theorem DevAt.footLt (h : DevAt b d a w) (k : Nat) (hk : a.foot b k) : k < w.heap.size := by
  rcases hk with rfl | ⟨p, hp, rfl⟩ | ⟨p, hp, rfl⟩
  · exact h.lt
  · exact h.wlt p hp
  · exact h.blt p hp
/-- A device that nothing of its own has turned. -/
theorem DevAt.frame {F : Nat → Prop} {w' : World} (h : DevAt b d a w) (hk : Only F w w') (hF : ∀ k, a.foot b k → ¬ F k) (hr : ∀ r ∈ d.busy, r.Off F) : DevAt b d a w' where
  n32 := h.n32
  g32 := h.g32
  blk := by rw [hk.block b h.lt (hF b (Or.inl rfl))]; exact h.blk
  wrow := own_frame h.wrow fun g hg => by
    have hl := h.wrow.lt g hg
    cases hp : a.wa with
    | none => rw [hp] at hg; cases hg
    | some p =>
      rw [hp] at hg
      simp only [Value.ownBlock, Option.some.injEq] at hg
      subst hg
      exact hk.block _ hl.2 (hF _ (Or.inr (Or.inl ⟨p, hp, rfl⟩)))
  brow := own_frame h.brow fun g hg => by
    have hl := h.brow.lt g hg
    cases hp : a.ba with
    | none => rw [hp] at hg; cases hg
    | some p =>
      rw [hp] at hg
      simp only [Value.ownBlock, Option.some.injEq] at hg
      subst hg
      exact hk.block _ hl.2 (hF _ (Or.inr (Or.inr ⟨p, hp, rfl⟩)))
  sepw := h.sepw
  sepb := h.sepb
  sepwb := h.sepwb
  reqs := fun r hr' => ⟨(h.reqs r hr').1.frame (hr r hr') hk, (h.reqs r hr').2⟩
  wfin := h.wfin
  nod := h.nod
  blen := h.blen
  nxt := h.nxt
theorem DevAt.later {w' : World} (h : DevAt b d a w) (hk : Below w.heap.size w w') : DevAt b d a w' :=
  h.frame (F := fun _ => False) (Only.of_below hk) (fun _ _ e => e) (fun _ _ => ⟨fun _ _ _ e => e, fun _ _ _ e => e⟩)
theorem DevAt.alloc (h : DevAt b d a w) (o : Obj) : DevAt b d a (w.alloc o) := h.later (below1 w o)
theorem DevAt.reqsAt (h : DevAt b d a w) : ReqsAt w a.ba d.busy := by
  have hl : d.busy.length ≤ 9223372036854775807 := by have := h.blen; omega
  obtain ⟨a', c', hv, hR, _⟩ := reqs_of_owned h.brow (fun r hr => (h.reqs r hr).1) rfl (by omega)
  simp only [Value.slice.injEq, true_and] at hv
  rw [hv.1]; exact hR
end
end Go.Proofs.Ythmeaclekedilac
