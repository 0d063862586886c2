/- request.Part: what a sector has of what was read. -/
import Derived.Test.YtgjkdhedkbkagaaGreatJ2
import Derived.Test.YtgjkdhedkbkagaaGreatJ1
import Derived.Test.YtgjkdhedkbkagaaGreatJ5
import Derived.Lib.SliceRun
import Derived.Deep.RegionLaw
namespace Go.Proofs.YtgjkdhedkbkagaaGreat
open Go.RowKit Go.BigFrame
set_option maxRecDepth 100000
attribute [local go_sem] Later.cell Later.frozen

/-- A result: a request, what was read, an error's number. -/
abbrev resV (r : Rq) (xa : Option Addr) (n xc : Nat) (er : Int) : Value := .agg #[.bool r.wr, .int .i64 r.f, .int .i64 r.m, .slice r.da r.data.length r.dc, .slice r.ta r.tags.length r.tc, .int .i64 r.born, .slice xa n xc, .int .i64 er]
set_option maxHeartbeats 400000 in
theorem part_no (r : Rq) (xa : Option Addr) (n xc : Nat) (er p : Int) (w : World) (h : hasB r.f r.m p = false) :
    Calls Tryz.prog 84 #[resV r xa n xc er, .int .i64 p] w fun e w' => e = .returned (.tuple #[.string ⟨#[]⟩, .bool false]) ∧ Below w.heap.size w w' := by
  obtain ⟨wr, f, m, da, dc, data, ta, tc, tags, born⟩ := r
  simp only at h
  go_enter Tryz.func84, Tryz.ntmps84
  go_wp2_with fail
  go_at_call 45; refine (has_eq _ _ _ _ _ h).mono ?_; rintro e w1 ⟨rfl, hb⟩; (try clear hc hf hz); (first | replace HB := bthen HB hb | replace HB := bthen (bdrew HB) hb | have HB := hb); clear hb; obtain ⟨hc, hf, hz⟩ := bcell HB
  go_wp2
  go_ret2
  exact ⟨rfl, by repeat (first | with_reducible exact Below.refl _ _ | with_reducible refine balloc ?_ _ | with_reducible refine bdrew ?_ | with_reducible refine bset' ?_ (by omega) _ | with_reducible refine bthen ?_ (by assumption))⟩
set_option maxHeartbeats 400000 in
theorem part_in (r : Rq) (xs : List ByteArray) (xa : Option Addr) (xc : Nat) (er p : Int) (w : World) (hx : StrsAt w xa xs) (h : hasB r.f r.m p = true) (k : Nat) (hk : wrap64 (p - r.f) = k) (hn : k < xs.length) (s : ByteArray) (hs : xs.getD k ByteArray.empty = s) :
    Calls Tryz.prog 84 #[resV r xa xs.length xc er, .int .i64 p] w fun e w' => e = .returned (.tuple #[.string s, .bool true]) ∧ Below w.heap.size w w' := by
  rcases hx with rfl | ⟨b, o, rfl, hcx⟩
  · exact absurd hn (Nat.not_lt_zero _)
  have c0 := hcx k hn
  have hlb := lt_of_cell c0
  rw [hs] at c0
  clear hcx hs
  obtain ⟨wr, f, m, da, dc, data, ta, tc, tags, born⟩ := r
  simp only at h hk
  have hn1 : ¬ (xs.length : Int) ≤ (k : Int) := by omega
  go_enter Tryz.func84, Tryz.ntmps84
  go_wp2_with fail
  go_at_call 45; refine (has_eq _ _ _ _ _ h).mono ?_; rintro e w1 ⟨rfl, hb⟩; (try clear hc hf hz); (first | replace HB := bthen HB hb | replace HB := bthen (bdrew HB) hb | have HB := hb); clear hb; obtain ⟨hc, hf, hz⟩ := bcell HB
  have c1 : w1.cell? ⟨b, o + k, none⟩ = some (.string s) := by rw [hc _ _ (by simp; omega), World.cell?_alloc_lt _ _ _ hlb]; exact c0
  go_wp2
  go_ret2
  exact ⟨rfl, by repeat (first | with_reducible exact Below.refl _ _ | with_reducible refine balloc ?_ _ | with_reducible refine bdrew ?_ | with_reducible refine bset' ?_ (by omega) _ | with_reducible refine bthen ?_ (by assumption))⟩
end Go.Proofs.YtgjkdhedkbkagaaGreat
/- A device in memory: its block, its two rows; what stands when something else turns. -/
namespace Go.Proofs.YtgjkdhedkbkagaaGreat
open Go.RowKit
set_option maxRecDepth 100000

/-- What a sector was given, and its bit. -/
structure Wn where
  pl : Nat
  data : ByteArray
  bit : Nat
abbrev Wn.val (x : Wn) : Value := .agg #[.int .i64 x.pl, .string x.data, .int .i64 x.bit]
def Wn.key (x : Wn) : Nat := x.pl * 64 + x.bit
def wcells (l : List Wn) : List Value := l.flatMap fun x => [.int .i64 x.pl, .string x.data, .int .i64 x.bit]
theorem wcells_cons (x : Wn) (l : List Wn) : wcells (x :: l) = .int .i64 x.pl :: .string x.data :: .int .i64 x.bit :: wcells l := rfl
theorem wcells_length (l : List Wn) : (wcells l).length = l.length * 3 := by
  induction l with
  | nil => rfl
  | cons r l ih => rw [wcells_cons, List.length_cons, List.length_cons, List.length_cons, ih, List.length_cons]; omega
theorem wcells_append (l l' : List Wn) : wcells (l ++ l') = wcells l ++ wcells l' := by simp [wcells]
theorem wcells_at (l : List Wn) : ∀ (i : Nat) (h : i < l.length), (wcells l)[i * 3]? = some (.int .i64 l[i].pl) ∧ (wcells l)[i * 3 + 1]? = some (.string l[i].data) ∧ (wcells l)[i * 3 + 2]? = some (.int .i64 l[i].bit) := by
  induction l with
  | nil => intro i h; exact absurd h (Nat.not_lt_zero _)
  | cons r l ih =>
    intro i h
    cases i with
    | zero => exact ⟨rfl, rfl, rfl⟩
    | succ i =>
      have := ih i (by simpa using h)
      rw [wcells_cons, show (i + 1) * 3 = i * 3 + 3 by omega]
      exact this
theorem wcells_take (l : List Wn) (k : Nat) : (wcells l).take (k * 3) = wcells (l.take k) := by
  by_cases hk : k ≤ l.length
  · have e := wcells_append (l.take k) (l.drop k)
    rw [List.take_append_drop] at e
    have hl : (wcells (l.take k)).length = k * 3 := by rw [wcells_length, List.length_take, Nat.min_eq_left hk]
    rw [e, List.take_append_of_le_length (by omega), List.take_of_length_le (by omega)]
  · rw [List.take_of_length_le (by rw [wcells_length]; omega), List.take_of_length_le (by omega)]

/-- What a device has. -/
structure Dl where
  now : List ByteArray
  good : List ByteArray
  wr : List Wn
  next : Nat
  busy : List Rq
/-- Where its rows lie. -/
structure An where
  wa : Option Addr
  wc : Nat
  ba : Option Addr
  bc : Nat
def strV (l : List ByteArray) : List Value := l.map fun s => .string s
def Dl.cells (d : Dl) (a : An) : List Value := strV d.now ++ strV d.good ++ [.slice a.wa d.wr.length a.wc, .int .i64 d.next, .slice a.ba d.busy.length a.bc]
def An.foot (a : An) (b : Nat) (k : Nat) : Prop := k = b ∨ (∃ p, a.wa = some p ∧ k = p.block) ∨ (∃ p, a.ba = some p ∧ k = p.block)

structure DevAt (b : Nat) (d : Dl) (a : An) (w : World) : Prop where
  n32 : d.now.length = 32
  g32 : d.good.length = 32
  blk : w.heap[b]? = some (.cells (d.cells a).toArray 82 (0, 0))
  wrow : w.ownsRow 0 88 3 (.slice a.wa d.wr.length a.wc) d.wr.length (wcells d.wr)
  brow : w.ownsRow 0 44 6 (.slice a.ba d.busy.length a.bc) d.busy.length (rcells d.busy)
  sepw : ∀ p, a.wa = some p → p.block ≠ b
  sepb : ∀ p, a.ba = some p → p.block ≠ b
  sepwb : ∀ p q, a.wa = some p → a.ba = some q → p.block ≠ q.block
  reqs : ∀ r ∈ d.busy, r.At w ∧ r.Off (a.foot b)
  wfin : ∀ x ∈ d.wr, x.pl < 32 ∧ x.bit < 64
  nod : (d.wr.map Wn.key).Nodup
  blen : d.busy.length ≤ 2
  nxt : d.next < 64

structure DStep (b : Nat) (d : Dl) (a : An) (d' : Dl) (a' : An) (w w' : World) : Prop where
  dev : DevAt b d' a' w'
  only : Only (a.foot b) w w'
  foot : ∀ k, a'.foot b k → a.foot b k ∨ w.heap.size ≤ k
theorem DStep.trans {b : Nat} {d d' d'' : Dl} {a a' a'' : An} {w w' w'' : World} (h : DStep b d a d' a' w w') (k : DStep b d' a' d'' a'' w' w'') : DStep b d a d'' a'' w w'' :=
  ⟨k.dev, h.only.trans k.only h.foot, fun i hi => (k.foot i hi).elim (h.foot i) (fun h' => Or.inr (Nat.le_trans h.only.size h'))⟩

theorem strV_length (l : List ByteArray) : (strV l).length = l.length := by simp [strV]
theorem Dl.cells_length {d : Dl} {a : An} (h1 : d.now.length = 32) (h2 : d.good.length = 32) : (d.cells a).length = 67 := by simp [Dl.cells, strV_length, h1, h2]
theorem Dl.cell64 {d : Dl} {a : An} (h1 : d.now.length = 32) (h2 : d.good.length = 32) : (d.cells a)[64]? = some (.slice a.wa d.wr.length a.wc) := by
  rw [Dl.cells, List.getElem?_append_right (by simp [strV_length, h1, h2])]; simp [strV_length, h1, h2]
theorem Dl.cell65 {d : Dl} {a : An} (h1 : d.now.length = 32) (h2 : d.good.length = 32) : (d.cells a)[65]? = some (.int .i64 d.next) := by
  rw [Dl.cells, List.getElem?_append_right (by simp [strV_length, h1, h2])]; simp [strV_length, h1, h2]
theorem Dl.cell66 {d : Dl} {a : An} (h1 : d.now.length = 32) (h2 : d.good.length = 32) : (d.cells a)[66]? = some (.slice a.ba d.busy.length a.bc) := by
  rw [Dl.cells, List.getElem?_append_right (by simp [strV_length, h1, h2])]; simp [strV_length, h1, h2]
theorem Dl.cellNow {d : Dl} {a : An} (h1 : d.now.length = 32) (k : Nat) (hk : k < 32) : (d.cells a)[k]? = some (.string (d.now.getD k ByteArray.empty)) := by
  rw [Dl.cells, List.append_assoc, List.getElem?_append_left (by rw [strV_length]; omega)]
  simp [strV, List.getElem?_eq_getElem (show k < d.now.length by omega)]
theorem nodup_le : ∀ (n : Nat) (l : List Nat), l.Nodup → (∀ x ∈ l, x < n) → l.length ≤ n
  | 0, l, _, h => by
    cases l with
    | nil => simp
    | cons x l => exact absurd (h x (by simp)) (Nat.not_lt_zero _)
  | n + 1, l, hn, h => by
    have h1 := nodup_le n (l.erase n) (hn.erase n) (fun x hx => by
      have := h x (List.mem_of_mem_erase hx)
      have hne := (hn.mem_erase_iff).1 hx
      omega)
    have h2 : l.length - 1 ≤ (l.erase n).length := by rw [List.length_erase]; split <;> omega
    omega
section
variable {b : Nat} {d : Dl} {a : An} {w : World}
theorem DevAt.wlen (h : DevAt b d a w) : d.wr.length ≤ 2048 := by
  have := nodup_le 2048 _ h.nod (fun x hx => by
    obtain ⟨y, hy, rfl⟩ := List.mem_map.1 hx
    have := h.wfin y hy
    unfold Wn.key; omega)
  simpa using this
theorem DevAt.c64 (h : DevAt b d a w) : w.cell? ⟨b, 64, none⟩ = some (.slice a.wa d.wr.length a.wc) := by rw [cell_of_heap h.blk]; exact Dl.cell64 h.n32 h.g32
theorem DevAt.c65 (h : DevAt b d a w) : w.cell? ⟨b, 65, none⟩ = some (.int .i64 d.next) := by rw [cell_of_heap h.blk]; exact Dl.cell65 h.n32 h.g32
theorem DevAt.c66 (h : DevAt b d a w) : w.cell? ⟨b, 66, none⟩ = some (.slice a.ba d.busy.length a.bc) := by rw [cell_of_heap h.blk]; exact Dl.cell66 h.n32 h.g32
theorem DevAt.cNow (h : DevAt b d a w) (k : Nat) (hk : k < 32) : w.cell? ⟨b, k, none⟩ = some (.string (d.now.getD k ByteArray.empty)) := by rw [cell_of_heap h.blk]; exact Dl.cellNow h.n32 k hk
theorem DevAt.fz (h : DevAt b d a w) (j : Nat) : w.frozen? ⟨b, j, none⟩ = false := frozen_of_heap h.blk j
theorem DevAt.lt (h : DevAt b d a w) : b < w.heap.size := lt_of_heap h.blk
theorem DevAt.wlt (h : DevAt b d a w) (p : Addr) (hp : a.wa = some p) : p.block < w.heap.size := (h.wrow.lt p.block (by rw [hp]; rfl)).2
theorem DevAt.blt (h : DevAt b d a w) (p : Addr) (hp : a.ba = some p) : p.block < w.heap.size := (h.brow.lt p.block (by rw [hp]; rfl)).2
theorem DevAt.footLt (h : DevAt b d a w) (k : Nat) (hk : a.foot b k) : k < w.heap.size := by
  rcases hk with rfl | ⟨p, hp, rfl⟩ | ⟨p, hp, rfl⟩
  · exact h.lt
  · exact h.wlt p hp
  · exact h.blt p hp
/-- A device that nothing of its own has turned. -/
theorem DevAt.frame {F : Nat → Prop} {w' : World} (h : DevAt b d a w) (hk : Only F w w') (hF : ∀ k, a.foot b k → ¬ F k) (hr : ∀ r ∈ d.busy, r.Off F) : DevAt b d a w' where
  n32 := h.n32
  g32 := h.g32
  blk := by rw [hk.block b h.lt (hF b (Or.inl rfl))]; exact h.blk
  wrow := own_frame h.wrow fun g hg => by
    have hl := h.wrow.lt g hg
    cases hp : a.wa with
    | none => rw [hp] at hg; cases hg
    | some p =>
      rw [hp] at hg
      simp only [Value.ownBlock, Option.some.injEq] at hg
      subst hg
      exact hk.block _ hl.2 (hF _ (Or.inr (Or.inl ⟨p, hp, rfl⟩)))
  brow := own_frame h.brow fun g hg => by
    have hl := h.brow.lt g hg
    cases hp : a.ba with
    | none => rw [hp] at hg; cases hg
    | some p =>
      rw [hp] at hg
      simp only [Value.ownBlock, Option.some.injEq] at hg
      subst hg
      exact hk.block _ hl.2 (hF _ (Or.inr (Or.inr ⟨p, hp, rfl⟩)))
  sepw := h.sepw
  sepb := h.sepb
  sepwb := h.sepwb
  reqs := fun r hr' => ⟨(h.reqs r hr').1.frame (hr r hr') hk, (h.reqs r hr').2⟩
  wfin := h.wfin
  nod := h.nod
  blen := h.blen
  nxt := h.nxt
theorem DevAt.later {w' : World} (h : DevAt b d a w) (hk : Below w.heap.size w w') : DevAt b d a w' :=
  h.frame (F := fun _ => False) (Only.of_below hk) (fun _ _ e => e) (fun _ _ => ⟨fun _ _ _ e => e, fun _ _ _ e => e⟩)
theorem DevAt.alloc (h : DevAt b d a w) (o : Obj) : DevAt b d a (w.alloc o) := h.later (below1 w o)
theorem DevAt.reqsAt (h : DevAt b d a w) : ReqsAt w a.ba d.busy := by
  have hl : d.busy.length ≤ 9223372036854775807 := by have := h.blen; omega
  obtain ⟨a', c', hv, hR, _⟩ := reqs_of_owned h.brow (fun r hr => (h.reqs r hr).1) rfl (by omega)
  simp only [Value.slice.injEq, true_and] at hv
  rw [hv.1]; exact hR
end
end Go.Proofs.YtgjkdhedkbkagaaGreat
/- A device: New, Peek, Busy. -/
namespace Go.Proofs.YtgjkdhedkbkagaaGreat
open Go.RowKit Go.BigFrame
set_option maxRecDepth 100000
attribute [local go_sem] Later.cell Later.frozen

def d0 : Dl := ⟨List.replicate 32 ByteArray.empty, List.replicate 32 ByteArray.empty, [], 0, []⟩
def an0 : An := ⟨none, 0, none, 0⟩
theorem d0_at (w : World) (b : Nat) (h : w.heap[b]? = some (.cells (d0.cells an0).toArray 82 (0, 0))) : DevAt b d0 an0 w where
  n32 := rfl
  g32 := rfl
  blk := h
  wrow := World.ownsRow_nil _ _ _ _
  brow := World.ownsRow_nil _ _ _ _
  sepw := fun p hp => by cases hp
  sepb := fun p hp => by cases hp
  sepwb := fun p q hp => by cases hp
  reqs := fun r hr => by cases hr
  wfin := fun r hr => by cases hr
  nod := by simp [d0]
  blen := by simp [d0]
  nxt := by simp [d0]
set_option maxRecDepth 100000 in
set_option maxHeartbeats 400000 in
theorem new_any (w : World) : Calls Tryz.prog 17 #[] w fun e w' => e = .returned (.pointer (some ⟨w.heap.size, 0, none⟩)) ∧ DevAt w.heap.size d0 an0 w' ∧ Below w.heap.size w w' ∧ w'.heap.size = w.heap.size + 1 := by
  have hz : ∀ w', Sem.run Tryz.prog (zeroValue 82) w' = .ok (.agg (d0.cells an0).toArray) w' := fun _ => rfl
  go_enter Tryz.func17, Tryz.ntmps17
  go_wp2
  go_ret
  refine ⟨rfl, d0_at _ _ ?_, below1 _ _, by simp⟩
  rw [heap_alloc_new]
set_option maxHeartbeats 400000 in
theorem peek_in (b : Nat) (d : Dl) (a : An) (k : Nat) (w : World) (h : DevAt b d a w) (hk : k < 32) (s : ByteArray) (hs : d.now.getD k ByteArray.empty = s) :
    Calls Tryz.prog 26 #[.pointer (some ⟨b, 0, none⟩), .int .i64 k] w fun e w' => e = .returned (.string s) ∧ Below w.heap.size w w' := by
  have c := h.cNow k hk
  rw [hs] at c
  have h1 : ¬ (k : Int) < 0 := by omega
  have h2 : ¬ (32 : Int) ≤ (k : Int) := by omega
  have h3 : (k : Int) < 32 := by omega
  clear hs h
  go_enter Tryz.func26, Tryz.ntmps26
  go_wp2
  go_ret
  exact ⟨rfl, Below.refl _ _⟩
theorem rowAll {w : World} {a : Option Addr} {c : Nat} {l : List Rq} (h : ReqsAt w a l) (hn : a = none → c = 0) : RowAt w 6 a l.length c (rcells l) := by
  rcases h.1 with rfl | ⟨b, o, rfl, hc⟩
  · cases a with
    | none => exact ⟨rfl, by simp [rcells], Or.inl ⟨rfl, rfl, hn rfl⟩⟩
    | some ad => exact ⟨rfl, by simp [rcells], Or.inr ⟨ad, rfl, fun j u h => by simp [rcells] at h⟩⟩
  · refine ⟨rcells_length l, rcells_one l, Or.inr ⟨_, rfl, fun k u hk => ?_⟩⟩
    obtain ⟨i, j, hi, hj, rfl, rfl⟩ := rcells_inv hk
    rw [add_mk', ← hc i hi j hj]
    congr 2
    omega
set_option maxRecDepth 100000 in
set_option maxHeartbeats 1000000 in
theorem cloneD (l : List Rq) (a : Option Addr) (c : Nat) (w : World) (hl : ReqsAt w a l) (hn : a = none → c = 0) (h10 : l.length ≤ 100000) :
    Calls Tryz.prog 43 #[.slice a l.length c] w fun e w' => ∃ a' c', e = .returned (.slice a' l.length c') ∧ ReqsAt w' a' l ∧ (a' = none → c' = 0) ∧ Below w.heap.size w w' := by
  obtain ⟨i, hi, hz0, hz1, hz2⟩ := pluck infoR
  have R := rowAll hl hn
  have q22 : ∀ (w : World) (a : Option Addr) (n c n' c' : Nat), (binOp .eql 35 (.slice a n c) (.slice none n' c')).run Tryz.prog w = .ok (.bool a.isNone) w := fun w a n c n' c' => Lib.run_eql_slice_nil w _ _ a n c n' c' Tryz.underlying35
  cases a with
  | none =>
    obtain rfl := hn rfl
    have hl0 : l = [] := by
      rcases hl.form with h | ⟨b, o, h⟩
      · exact h
      · cases h
    subst hl0
    go_enter Tryz.func43, Tryz.ntmps43
    go_wp2
    go_ret
    exact ⟨none, 0, rfl, ⟨Or.inl rfl, by simp, by simp⟩, fun _ => rfl, by repeat (first | with_reducible exact Below.refl _ _ | with_reducible refine balloc ?_ _ | with_reducible refine bdrew ?_ | with_reducible refine bset' ?_ (by omega) _ | with_reducible refine bthen ?_ (by assumption))⟩
  | some ad =>
    have HL : Hid (l.length ≤ 100000) := h10
    go_enter Tryz.func43, Tryz.ntmps43
    go_wp2_with (at_builtin; refine wpList_append_row rfl _ _ 35 rfl w.heap.size 44 i _ 6 80 Tryz.underlying35 hi hz0 hz1 hz2 rfl (by decide) _ 0 [] rfl (World.ownsRow_made _ _ _ (Nat.le_refl _) (by unfold maxLen; omega) (by simp)) (some ad) l.length c (rcells l) rfl (R.later (by repeat (first | with_reducible exact Below.refl _ _ | with_reducible refine balloc ?_ _ | with_reducible refine bdrew ?_ | with_reducible refine bset' ?_ (by omega) _ | with_reducible refine bthen ?_ (by assumption)))) (by unfold maxLen; omega) (by omega) (by simp) ?_; intro v1 w2 hown1 hb1)
    rw [Nat.zero_add, List.nil_append] at hown1
    obtain ⟨a', c', rfl, hR, _, _, hnn, _⟩ := reqs_of_owned hown1 (fun r hr => (hl.2.1 r hr).later ((balloc (Below.refl _ _) _).trans hb1)) rfl (by omega)
    go_wp2
    go_ret
    exact ⟨a', c', rfl, hR, hnn, (balloc (Below.refl _ _) _).trans hb1⟩
theorem DevAt.bnil {b : Nat} {d : Dl} {a : An} {w : World} (h : DevAt b d a w) : a.ba = none → a.bc = 0 := by
  obtain ⟨x, c, hv, h1, _⟩ := slice_of_own h.brow
  simp only [Value.slice.injEq, true_and] at hv
  obtain ⟨rfl, rfl⟩ := hv
  exact h1
set_option maxHeartbeats 400000 in
theorem busy_any (b : Nat) (d : Dl) (a : An) (w : World) (h : DevAt b d a w) :
    Calls Tryz.prog 44 #[.pointer (some ⟨b, 0, none⟩)] w fun e w' => ∃ a' c', e = .returned (.slice a' d.busy.length c') ∧ ReqsAt w' a' d.busy ∧ (a' = none → c' = 0) ∧ Below w.heap.size w w' := by
  have c := h.c66
  have hb := h.blen
  go_enter Tryz.func44, Tryz.ntmps44
  go_wp2_with fail
  refine (cloneD d.busy a.ba a.bc _ h.reqsAt h.bnil (by omega)).mono ?_
  rintro e w1 ⟨a', c', rfl, hR, hn, hb1⟩
  go_wp2
  go_ret
  exact ⟨a', c', rfl, hR, hn, hb1⟩
end Go.Proofs.YtgjkdhedkbkagaaGreat
/- A device: Start. -/
namespace Go.Proofs.YtgjkdhedkbkagaaGreat
open Go.RowKit Go.BigFrame
set_option maxRecDepth 100000
attribute [local go_sem] Later.cell Later.frozen

theorem hidT {p : Prop} (h : p) : Hid p := h
theorem cells_set66 (d : Dl) (a : An) (l : List Rq) (x : Option Addr) (c : Nat) (h1 : d.now.length = 32) (h2 : d.good.length = 32) : (d.cells a).set 66 (.slice x l.length c) = ({ d with busy := l } : Dl).cells { a with ba := x, bc := c } := by
  rw [Dl.cells, List.set_append_right _ _ (by simp [strV_length, h1, h2])]
  simp [strV_length, h1, h2, Dl.cells]
theorem ownBlock_slice {a : Option Addr} {n c : Nat} {g : Nat} : (Value.slice a n c).ownBlock = some g ↔ ∃ p, a = some p ∧ g = p.block := by
  cases a with
  | none => simp [Value.ownBlock]
  | some p => simp [Value.ownBlock, eq_comm]
theorem DStep.drewAt {b : Nat} {d d' : Dl} {a a' : An} {w w' : World} (h : DStep b d a d' a' w w') : DStep b d a d' a' w w'.drew := ⟨h.dev.later (Below.refl _ _).drew, h.only.drew, h.foot⟩
/-- The row of requests is another one, in its old place or a new block. -/
theorem DevAt.busied {b : Nat} {d : Dl} {a : An} {w w2 w3 : World} (h : DevAt b d a w) (hb : Below w.heap.size w w2) (l : List Rq) (hl2 : l.length ≤ 2) (hr : ∀ r ∈ l, r.At w ∧ r.Off (a.foot b)) {v : Value}
    (hown : w3.ownsRow 0 44 6 v l.length (rcells l)) (hg : w2.grownBy w3 (Value.slice a.ba d.busy.length a.bc).ownBlock) (hv : ∀ g, v.ownBlock = some g → (∃ p, a.ba = some p ∧ g = p.block) ∨ w2.heap.size ≤ g) :
    ∃ x c, v = .slice x l.length c ∧ DStep b d a { d with busy := l } { a with ba := x, bc := c } w (w3.setCell ⟨b, 66, none⟩ v) := by
  obtain ⟨x, c, rfl, _⟩ := slice_of_own hown
  have hs2 := hb.size
  have nb : some b ≠ (Value.slice a.ba d.busy.length a.bc).ownBlock := fun e => by
    obtain ⟨p, hp, e'⟩ := ownBlock_slice.1 e.symm
    exact h.sepb p hp e'.symm
  have hlt := h.lt
  have e3 : w3.heap[b]? = some (.cells (d.cells a).toArray 82 (0, 0)) := by
    rw [hg.block b (by omega) nb, hb.block b hlt]; exact h.blk
  have xb : ∀ p, x = some p → p.block ≠ b := fun p hp e => by
    rcases hv p.block (ownBlock_slice.2 ⟨p, hp, rfl⟩) with ⟨q, hq, e'⟩ | h'
    · exact h.sepb q hq (by omega)
    · omega
  have hon : Only (a.foot b) w (w3.setCell ⟨b, 66, none⟩ (.slice x l.length c)) := by
    refine ((Only.of_below hb).grown hg (fun k hk => Or.inl ?_)).setCell _ (Or.inl (Or.inl rfl)) _
    obtain ⟨p, hp, e⟩ := ownBlock_slice.1 hk
    exact Or.inr (Or.inr ⟨p, hp, e⟩)
  have hft : ∀ k, ({ a with ba := x, bc := c } : An).foot b k → a.foot b k ∨ w.heap.size ≤ k := by
    rintro k (rfl | ⟨p, hp, rfl⟩ | ⟨p, hp, rfl⟩)
    · exact Or.inl (Or.inl rfl)
    · exact Or.inl (Or.inr (Or.inl ⟨p, hp, rfl⟩))
    · rcases hv p.block (ownBlock_slice.2 ⟨p, hp, rfl⟩) with ⟨q, hq, e'⟩ | h'
      · exact Or.inl (Or.inr (Or.inr ⟨q, hq, e'⟩))
      · exact Or.inr (by omega)
  refine ⟨x, c, rfl, ⟨?_, hon, hft⟩⟩
  exact {
    n32 := h.n32
    g32 := h.g32
    blk := by rw [set_same e3, cells_set66 d a l x c h.n32 h.g32]
    wrow := own_frame h.wrow fun g hg' => by
      obtain ⟨p, hp, rfl⟩ := ownBlock_slice.1 hg'
      have hpl := h.wlt p hp
      rw [set_other _ _ (h.sepw p hp), hg.block _ (by omega) (fun e => ?_), hb.block _ hpl]
      obtain ⟨q, hq, e'⟩ := ownBlock_slice.1 e.symm
      exact h.sepwb p q hp hq e'
    brow := own_frame hown fun g hg' => by
      obtain ⟨p, hp, rfl⟩ := ownBlock_slice.1 hg'
      exact set_other _ _ (xb p hp)
    sepw := h.sepw
    sepb := xb
    sepwb := fun p q hp hq e => by
      rcases hv q.block (ownBlock_slice.2 ⟨q, hq, rfl⟩) with ⟨q', hq', e'⟩ | h'
      · exact h.sepwb p q' hp hq' (by omega)
      · have := h.wlt p hp; omega
    reqs := fun r hr' => ⟨(hr r hr').1.frame (hr r hr').2 hon, (hr r hr').2.step (hr r hr').1 hft⟩
    wfin := h.wfin
    nod := h.nod
    blen := hl2
    nxt := h.nxt }

theorem newRowAt {w : World} {n : Nat} (hn : w.heap.size = n) (vs : List Value) (T : TypeId) (j : Nat) (u : Value) (h : vs[j]? = some u) : (w.alloc (.cells vs.toArray T)).cell? (Addr.add ⟨n, 0, none⟩ j) = some u := by
  subst hn
  rw [Addr.add_mid, Nat.zero_add]
  exact (cell_of_heap (heap_alloc_new w (.cells vs.toArray T)) j).trans h
theorem DevAt.kept66 {b : Nat} {d : Dl} {a : An} {w w2 w3 : World} (h : DevAt b d a w) (hb : Below w.heap.size w w2) (hg : w2.grownBy w3 (Value.slice a.ba d.busy.length a.bc).ownBlock) : w3.cell? ⟨b, 66, none⟩ = some (.slice a.ba d.busy.length a.bc) ∧ w3.frozen? ⟨b, 66, none⟩ = false ∧ b < w3.heap.size := by
  have hs2 := hb.size
  have hs3 := hg.size
  have nb : some b ≠ (Value.slice a.ba d.busy.length a.bc).ownBlock := fun e => by
    obtain ⟨p, hp, e'⟩ := ownBlock_slice.1 e.symm
    exact h.sepb p hp e'.symm
  have hlt := h.lt
  have e3 : w3.heap[b]? = some (.cells (d.cells a).toArray 82 (0, 0)) := by
    rw [hg.block b (by omega) nb, hb.block b hlt]; exact h.blk
  exact ⟨by rw [cell_of_heap e3]; exact Dl.cell66 h.n32 h.g32, frozen_of_heap e3 66, lt_of_heap e3⟩

theorem rcells_snoc (l : List Rq) (r : Rq) : rcells (l ++ [r]) = rcells l ++ [.bool r.wr, .int .i64 r.f, .int .i64 r.m, .slice r.da r.data.length r.dc, .slice r.ta r.tags.length r.tc, .int .i64 r.born] := by rw [rcells_append]; rfl
set_option maxRecDepth 100000 in
set_option maxHeartbeats 2000000 in
theorem start_ok (b : Nat) (d : Dl) (a : An) (r : Rq) (w : World) (h : DevAt b d a w) (h2 : d.busy.length < 2) (hr : r.At w) (ho : r.Off (a.foot b)) :
    Calls Tryz.prog 80 #[.pointer (some ⟨b, 0, none⟩), r.val] w fun e w' => ∃ a', e = .returned .nilIface ∧ DStep b d a { d with busy := d.busy ++ [r] } a' w w' := by
  obtain ⟨i, hi, hz0, hz1, hz2⟩ := pluck infoR
  have HI := hidT (⟨hi, hz0, hz1, hz2⟩ : Tryz.prog.info? 44 = some i ∧ _ ∧ _ ∧ _)
  have c := h.c66
  have hl := h.lt
  have h3 : ¬ (2 : Int) ≤ (d.busy.length : Int) := by omega
  have HD := hidT h
  have HR := hidT (⟨hr, ho⟩ : r.At w ∧ r.Off (a.foot b))
  clear h hr ho hi hz0 hz1 hz2
  go_enter Tryz.func80, Tryz.ntmps80
  go_wp2_with fail
  go_region_law (refine step_push rfl (.tmp 16) (.tmp 18) 35 rfl 0 44 i _ 6 80 Tryz.underlying35 HI.out.1 HI.out.2.1 HI.out.2.2.1 HI.out.2.2.2 rfl (by decide) (.slice a.ba d.busy.length a.bc) d.busy.length (rcells d.busy) (by simp [Act.eval]) (HD.out.later (by repeat (first | with_reducible exact Below.refl _ _ | with_reducible refine balloc ?_ _ | with_reducible refine bdrew ?_ | with_reducible refine bset' ?_ (by omega) _ | with_reducible refine bthen ?_ (by assumption)))).brow ⟨w.heap.size + 1, 0, none⟩ 1 1 [.bool r.wr, .int .i64 r.f, .int .i64 r.m, .slice r.da r.data.length r.dc, .slice r.ta r.tags.length r.tc, .int .i64 r.born] (by simp [Act.eval]) rfl (fun j u hj => newRowAt (by simp) _ _ j u hj) (by simp [Value.oneCell']) (by omega) (by unfold maxLen; omega) (by omega) (Nat.zero_le _) ?_; intro v' w3 hown hg hv; obtain ⟨x, cx, rfl, -⟩ := slice_of_own hown; obtain ⟨c3, f3, l3⟩ := HD.out.kept66 (by repeat (first | with_reducible exact Below.refl _ _ | with_reducible refine balloc ?_ _ | with_reducible refine bdrew ?_ | with_reducible refine bset' ?_ (by omega) _ | with_reducible refine bthen ?_ (by assumption))) hg; have HG := hidT (⟨hown, hg, hv⟩ : _ ∧ _ ∧ _); clear hown hg hv)
  all_goals
    obtain ⟨hown, hg, hv⟩ := HG.out
    obtain ⟨x', c', e', hst⟩ := HD.out.busied (w2 := _) (by repeat (first | with_reducible exact Below.refl _ _ | with_reducible refine balloc ?_ _ | with_reducible refine bdrew ?_ | with_reducible refine bset' ?_ (by omega) _ | with_reducible refine bthen ?_ (by assumption))) (d.busy ++ [r]) (by simp; omega) (fun q hq => by
      rcases List.mem_append.1 hq with hq | hq
      · exact HD.out.reqs q hq
      · obtain rfl := List.mem_singleton.1 hq
        exact HR.out) (by rw [rcells_snoc, List.length_append]; exact hown) hg (fun g hg' => by
      rcases hv with hv | hv
      · rw [hv] at hg'; exact Or.inl (ownBlock_slice.1 hg')
      · rw [hv] at hg'; exact Or.inr (by simpa using Nat.le_of_eq (Option.some.inj hg')))
    have HST := hidT hst
    clear hown hg hv hst e'
    go_wp2
    go_ret
    exact ⟨_, rfl, HST.out⟩
end Go.Proofs.YtgjkdhedkbkagaaGreat
/- Rows known whole: append with room, clear: and that only that row turns. -/
namespace Go.Proofs.YtgjkdhedkbkagaaGreat
open Go.RowKit
set_option maxRecDepth 100000

/-- 'append(s, x...)' where there is room, into a row that is known whole. -/
theorem run_append_gp {P : Program} (w : World) (t ty e : TypeId) (k : Nat) (g n cap : Nat) (sp : Option Addr) (m c : Nat) (cur : List Value) (tr : TypeId) (cs : List Value)
    (hu : P.underlying t = some (.slice e)) (hs : (P.info? e).map (·.size) = some k) (hg : w.heap[g]? = some (.cells cur.toArray tr (0, 0))) (hn : cs.length = m * k) (hroom : n + m ≤ cap)
    (hpos : 0 < cs.length → ∃ ad, sp = some ad ∧ ∀ j v, cs[j]? = some v → w.cell? (ad.add j) = some v)
    (hfit : n * k + cs.length ≤ cur.length) (h1 : ∀ v ∈ cs, v.oneCell' = true) :
    ∃ w', (Builtin.append_ #[t, t] ty #[.slice (some ⟨g, 0, none⟩) n cap, .slice sp m c]).run P w = .ok (.slice (some ⟨g, 0, none⟩) (n + m) cap) w' ∧ w'.heap[g]? = some (.cells (splice cur (n * k) cs).toArray tr (0, 0)) ∧ w.grownBy w' (some g) := by
  obtain ⟨i, hq, hi⟩ : ∃ i, P.info? e = some i ∧ i.size = k := by
    cases hq : P.info? e with
    | none => simp [hq] at hs
    | some i => exact ⟨i, rfl, by simpa [hq] using hs⟩
  have hadd : (Addr.add ⟨g, 0, none⟩ (n * k)) = ⟨g, n * k, none⟩ := by
    unfold Addr.add; split
    · rename_i h; rw [h]
    · simp
  by_cases h0 : cs.length = 0
  · obtain rfl : cs = [] := List.eq_nil_of_length_eq_zero h0
    refine ⟨w, ?_, by rw [splice_nil]; exact hg, ⟨rfl, rfl, rfl, Nat.le_refl _, fun _ _ _ => rfl⟩⟩
    have hm : m * k = 0 := by simpa using hn.symm
    have hl : ∀ a, (loadCells a 0).run P w = .ok #[] w := fun a => by simpa using run_loadCells_list (P := P) w a [] (by simp)
    cases sp <;> simp [Builtin.append_, run_underlying hu, Builtin.lenOf, Builtin.firstCells, sizeOf, typeInfo, hq, hi, hm, hl, hroom, storeCells]
  · obtain ⟨ad, rfl, hsrc⟩ := hpos (by omega)
    have hl := run_loadCells_list (P := P) w ad cs hsrc
    have hst := run_storeCells_at P g (n * k) tr cs 0 cur.toArray w hg (by simpa using hfit) h1
    refine ⟨_, ?_, setRow_heap w g _ _ tr _ hg, ⟨rfl, rfl, rfl, by simp, fun k _ hk => setRow_other w g k _ (fun e => hk (by rw [e]))⟩⟩
    simp [Builtin.append_, run_underlying hu, Builtin.lenOf, Builtin.firstCells, sizeOf, typeInfo, hq, hi, ← hn, hl, hroom, hadd, hst, splice]

theorem step_append_gp {P : Program} {ops : Array Oper} {op : Oper} {a : Act} {w : World} {K : Act → World → Prop} {Q : Exit → Act → World → Prop} {E : Prop} (hgd : op.guard = none) (s x : Operand) (t : TypeId)
    (ho : op.op = .call { callee := .builtin .append, args := #[s, x], argTypes := #[t, t] }) (e : TypeId) (k : Nat) (hu : P.underlying t = some (.slice e)) (hs : (P.info? e).map (·.size) = some k)
    (g n cap : Nat) (sp : Option Addr) (m c : Nat) (hd : a.eval s = .slice (some ⟨g, 0, none⟩) n cap) (hsv : a.eval x = .slice sp m c)
    (cur : List Value) (tr : TypeId) (cs : List Value) (hg : w.heap[g]? = some (.cells cur.toArray tr (0, 0))) (hn : cs.length = m * k) (hroom : n + m ≤ cap)
    (hpos : 0 < cs.length → ∃ ad, sp = some ad ∧ ∀ j v, cs[j]? = some v → w.cell? (ad.add j) = some v)
    (hfit : n * k + cs.length ≤ cur.length) (h1 : ∀ v ∈ cs, v.oneCell' = true)
    (h : ∀ w', Hid (w'.heap[g]? = some (.cells (splice cur (n * k) cs).toArray tr (0, 0))) → w.grownBy w' (some g) → K (a.put op.dst (.slice (some ⟨g, 0, none⟩) (n + m) cap)) w') :
    if Region.wanted op (yielded ops a.tmps) = true then Oper.wp P op a w K Q else E := by
  have hw : Region.wanted op (yielded ops a.tmps) = true := by simp [Region.wanted, hgd]
  rw [if_pos hw]
  obtain ⟨w', hrun, hrow, hb⟩ := run_append_gp (P := P) w t op.type e k g n cap sp m c cur tr cs hu hs hg hn hroom hpos hfit h1
  unfold Oper.wp
  simp [execOp, ho, resolve, invoke, builtin, hd, hsv, hrun, Result.andThen]
  exact h w' hrow hb

/-- 'clear(s)' of a part of such a row. -/
theorem run_clear_gp {P : Program} (w : World) (t e ty : TypeId) (z : Value) (k : Nat) (hu : P.underlying t = some (.slice e)) (hv : ∀ w, (zeroValue e).run P w = .ok z w) (hz : z.cells.size = k) (hz1 : ∀ u ∈ z.cells.toList, u.oneCell' = true)
    (g o n c : Nat) (cur : List Value) (tr : TypeId) (hg : w.heap[g]? = some (.cells cur.toArray tr (0, 0))) (hn : 0 < n) (hfit : o + n * k ≤ cur.length) (hk : 0 < k) :
    ∃ w', (Builtin.clear_ #[t] ty #[.slice (some ⟨g, o, none⟩) n c]).run P w = .ok (.tuple #[]) w' ∧ w'.heap[g]? = some (.cells (splice cur o (Builtin.zeroCells z.cells n).toList).toArray tr (0, 0)) ∧ w.grownBy w' (some g) := by
  have hlen : (Builtin.zeroCells z.cells n).toList.length = n * k := by simp [Builtin.zeroCells, hz]
  have h1 : ∀ v ∈ (Builtin.zeroCells z.cells n).toList, v.oneCell' = true := by
    intro v hv
    simp only [Builtin.zeroCells, Array.toList_map, List.mem_map] at hv
    obtain ⟨i, _, rfl⟩ := hv
    have hi : i % z.cells.size < z.cells.size := Nat.mod_lt _ (by omega)
    rw [getElem!_pos z.cells _ hi]
    exact hz1 _ (by simp)
  have hst := run_storeCells_at P g o tr (Builtin.zeroCells z.cells n).toList 0 cur.toArray w hg (by simp only [Nat.add_zero, List.size_toArray]; omega) h1
  refine ⟨_, ?_, setRow_heap w g _ _ tr _ hg, ⟨rfl, rfl, rfl, by simp, fun k _ hk => setRow_other w g k _ (fun e => hk (by rw [e]))⟩⟩
  obtain ⟨m, rfl⟩ : ∃ m, n = m + 1 := ⟨n - 1, by omega⟩
  simp [Builtin.clear_, run_underlying hu, hv, hst, splice]

end Go.Proofs.YtgjkdhedkbkagaaGreat
/- slices.Delete of one request, in place. -/
namespace Go.Proofs.YtgjkdhedkbkagaaGreat
open Go.RowKit Go.BigFrame
set_option maxRecDepth 100000
attribute [local go_sem] Later.cell Later.frozen

theorem grow_trans {a b c : World} {g : Nat} (h : a.grownBy b (some g)) (k : b.grownBy c (some g)) : a.grownBy c (some g) :=
  ⟨k.os.trans h.os, k.tape.trans h.tape, k.output.trans h.output, Nat.le_trans h.size k.size, fun i hi hn => (k.block i (Nat.lt_of_lt_of_le hi h.size) hn).trans (h.block i hi hn)⟩
theorem grow_drew {a b : World} {row : Option Nat} (h : a.drew.grownBy b row) : a.grownBy b row := ⟨h.os, h.tape, h.output, h.size, h.block⟩
theorem zeroR (w : World) : (zeroValue 44).run Tryz.prog w = .ok (.agg #[.bool false, .int .i64 0, .int .i64 0, .slice none 0 0, .slice none 0 0, .int .i64 0]) w := Tryz.zeroValue44 w
theorem sizeR : (Tryz.prog.info? 44).map (·.size) = some 6 := by kernel_rfl

theorem sliceR_from (b n c i : Nat) (w : World) (hlt : i < n) (hce : ¬ c = i + 1) : (Instr.slice 35 (.slice (some ⟨b, 0, none⟩) n c) (some (.int .i64 ((i : Int) + 1))) none none).run Tryz.prog w = .ok (.slice (some ⟨b, (i + 1) * 6, none⟩) (n - (i + 1)) (c - (i + 1))) w := by
  have h1 : (0 : Int) ≤ (i : Int) + 1 := by omega
  have h2 : (i : Int) + 1 ≤ (n : Int) := by omega
  simp [go_sem, h1, h2, hce]
theorem sliceR_to (b n c i : Nat) (w : World) (hlt : i < n) (hcap : n ≤ c) : (Instr.slice 35 (.slice (some ⟨b, 0, none⟩) n c) none (some (.int .i64 (i : Int))) none).run Tryz.prog w = .ok (.slice (some ⟨b, 0, none⟩) i c) w := by
  have h2 : i ≤ c := by omega
  simp [go_sem, h2]
theorem sliceR_end (b n i : Nat) (w : World) (hlt : n = i + 1) : (Instr.slice 35 (.slice (some ⟨b, 0, none⟩) n (i + 1)) (some (.int .i64 ((i : Int) + 1))) none none).run Tryz.prog w = .ok (.slice (some ⟨b, 0, none⟩) 0 0) w := by
  subst hlt
  have h1 : (0 : Int) ≤ (i : Int) + 1 := by omega
  simp [go_sem, h1]
theorem sliceR_cut (b n c i : Nat) (w : World) (hlt : i < n) (hcap : n ≤ c) (hm : c ≤ 9223372036854775807) : (Instr.slice 35 (.slice (some ⟨b, 0, none⟩) (n - 1) c) (some (.int .i64 ((n - 1 : Nat) : Int))) (some (.int .i64 (n : Int))) none).run Tryz.prog w = .ok (.slice (some ⟨b, (n - 1) * 6, none⟩) 1 (c - (n - 1))) w := by
  have h1 : ((n - 1 : Nat) : Int) ≤ (n : Int) := by omega
  have h2 : ¬ c = n - 1 := by omega
  have h3 : n - (n - 1) = 1 := by omega
  simp [go_sem, h1, h2, h3, hcap]

def zs6 : List Value := (Builtin.zeroCells (Value.agg #[.bool false, .int .i64 0, .int .i64 0, .slice none 0 0, .slice none 0 0, .int .i64 0]).cells 1).toList
theorem zs6_length : zs6.length = 6 := by simp [zs6, Builtin.zeroCells, Value.cells]
theorem cell_row {w : World} {b : Nat} {cur : List Value} {t : TypeId} (hg : w.heap[b]? = some (.cells cur.toArray t (0, 0))) (o j : Nat) (v : Value) (h : cur[o + j]? = some v) : w.cell? (Addr.add ⟨b, o, none⟩ j) = some v := by
  rw [Addr.add_mid]
  simp [World.cell?, hg, h]

set_option maxRecDepth 100000 in
set_option maxHeartbeats 2000000 in
theorem delR_core (b n c k : Nat) (cur xs : List Value) (w : World) (hg : w.heap[b]? = some (.cells cur.toArray 44 (0, 0))) (hcl : cur.length = c * 6) (hk : k < n) (hnc : n ≤ c) (hcm : c ≤ 9223372036854775807)
    (hxl : xs.length = (n - (k + 1)) * 6) (hx : ∀ j v, xs[j]? = some v → cur[(k + 1) * 6 + j]? = some v) (h1 : ∀ v ∈ xs, v.oneCell' = true) :
    Calls Tryz.prog 107 #[.slice (some ⟨b, 0, none⟩) n c, .int .i64 k, .int .i64 ((k : Int) + 1)] w fun e w' =>
      e = .returned (.slice (some ⟨b, 0, none⟩) (n - 1) c) ∧ w'.heap[b]? = some (.cells (splice (splice cur (k * 6) xs) ((n - 1) * 6) zs6).toArray 44 (0, 0)) ∧ w.grownBy w' (some b) := by
  have q1 : (k : Int) + 1 ≤ (n : Int) := by omega
  have q2 : (0 : Int) ≤ (k : Int) + 1 := by omega
  have q3 : ¬ ((k : Int) = (k : Int) + 1) := by omega
  have q4 : (k : Int) ≤ (k : Int) + 1 := by omega
  have HC := hidT hcl
  have HX := hidT hx
  have HL := hidT hxl
  have HG := hidT hg
  have H1 := hidT h1
  clear hcl hx hxl hg h1
  have hsl1 := fun w => sliceR_to b n c k w hk hnc
  have hsl3 := fun w => sliceR_cut b n c k w hk hnc hcm
  have hcut : (splice cur (k * 6) xs).length = c * 6 := by rw [length_splice _ _ _ (by rw [HC.out, HL.out]; omega), HC.out]
  have HS := hidT hcut
  clear hcut
  have hn1 : k + (n - (k + 1)) = n - 1 := by omega
  have HN1 := hidT hn1
  clear hn1
  by_cases hce : c = k + 1
  · have hnk : n = k + 1 := by omega
    subst hce
    subst hnk
    clear hsl3
    have hsl3 := fun w => sliceR_cut b (k + 1) (k + 1) k w hk hnc hcm
    simp only [Nat.add_sub_cancel] at hsl3 HS
    rw [show k + 1 - k = 1 by omega] at hsl3
    have hsl2 := fun w => sliceR_end b (k + 1) k w rfl
    obtain rfl : xs = [] := List.eq_nil_of_length_eq_zero (by rw [HL.out]; omega)
    go_enter Tryz.func107, Tryz.ntmps107
    go_wp2_with fail
    go_region_law (refine step_append_gp rfl (.tmp 22) (.tmp 25) 35 rfl 44 6 Tryz.underlying35 sizeR b k (k + 1) (some ⟨b, 0, none⟩) 0 0 (by simp [Act.eval, Act.put]) (by simp [Act.eval, Act.put]) cur 44 [] HG.out rfl (by omega) (fun h => absurd h (Nat.not_lt_zero _)) (by rw [HC.out]; simp; omega) (by simp) ?_; intro w1 G1 hb1)
    obtain ⟨w2, hcl, G2, hb2⟩ := run_clear_gp (P := Tryz.prog) w1 35 44 0 _ 6 Tryz.underlying35 zeroR rfl (by decide) b (k * 6) 1 1 _ 44 G1.out (by omega) (by have := HS.out; omega) (by omega)
    have HG2 := hidT G2
    have HB2 := hidT hb2
    clear G2 hb2
    go_wp2
    go_ret
    exact ⟨rfl, HG2.out, grow_trans (grow_drew hb1) HB2.out⟩
  · have hsl2 := fun w => sliceR_from b n c k w hk hce
    go_enter Tryz.func107, Tryz.ntmps107
    go_wp2_with fail
    go_region_law (refine step_append_gp rfl (.tmp 22) (.tmp 25) 35 rfl 44 6 Tryz.underlying35 sizeR b k c (some ⟨b, (k + 1) * 6, none⟩) (n - (k + 1)) (c - (k + 1)) (by simp [Act.eval, Act.put]) (by simp [Act.eval, Act.put]) cur 44 xs HG.out HL.out (by omega) (fun _ => ⟨_, rfl, fun j v hj => cell_row HG.out _ _ _ (HX.out j v hj)⟩) (by rw [HC.out, HL.out]; omega) H1.out ?_; intro w1 G1 hb1; rw [HN1.out])
    obtain ⟨w2, hcl, G2, hb2⟩ := run_clear_gp (P := Tryz.prog) w1 35 44 0 _ 6 Tryz.underlying35 zeroR rfl (by decide) b ((n - 1) * 6) 1 (c - (n - 1)) _ 44 G1.out (by omega) (by rw [HS.out]; omega) (by omega)
    have HG2 := hidT G2
    have HB2 := hidT hb2
    clear G2 hb2
    go_wp2
    go_ret
    exact ⟨rfl, HG2.out, grow_trans (grow_drew hb1) HB2.out⟩

theorem take_splice {α : Type} (L cs : List α) (o : Nat) (h : o ≤ L.length) : (splice L o cs).take (o + cs.length) = L.take o ++ cs := by
  have e : (L.take o).length = o := by rw [List.length_take]; omega
  rw [splice, ← List.append_assoc, List.take_append_of_le_length (by rw [List.length_append, e]; exact Nat.le_refl _), List.take_of_length_le (by rw [List.length_append, e]; exact Nat.le_refl _)]
theorem take_splice_le {α : Type} (L cs : List α) (o m : Nat) (h : o ≤ L.length) (hm : m ≤ o) : (splice L o cs).take m = L.take m := by
  have e : (L.take o).length = o := by rw [List.length_take]; omega
  rw [splice, List.take_append_of_le_length (by rw [e]; exact hm), List.take_take, Nat.min_eq_left hm]
theorem rcells_take (l : List Rq) (k : Nat) : (rcells l).take (k * 6) = rcells (l.take k) := by
  by_cases hk : k ≤ l.length
  · have e := rcells_append (l.take k) (l.drop k)
    rw [List.take_append_drop] at e
    have hl : (rcells (l.take k)).length = k * 6 := by rw [rcells_length, List.length_take, Nat.min_eq_left hk]
    rw [e, List.take_append_of_le_length (by omega), List.take_of_length_le (by omega)]
  · rw [List.take_of_length_le (by rw [rcells_length]; omega), List.take_of_length_le (by omega)]
theorem rcells_drop (l : List Rq) (k j : Nat) : (rcells (l.drop k))[j]? = (rcells l)[k * 6 + j]? := by
  by_cases hk : k ≤ l.length
  · have e := rcells_append (l.take k) (l.drop k)
    rw [List.take_append_drop] at e
    have hl : (rcells (l.take k)).length = k * 6 := by rw [rcells_length, List.length_take, Nat.min_eq_left hk]
    rw [e, List.getElem?_append_right (by omega), hl]
    congr 1; omega
  · rw [List.drop_eq_nil_of_le (by omega), List.getElem?_eq_none (by simp [rcells]), List.getElem?_eq_none (by rw [rcells_length]; omega)]
theorem delR (l : List Rq) (b c k : Nat) (w : World) (hk : k < l.length) (hN : w.ownsRow 0 44 6 (.slice (some ⟨b, 0, none⟩) l.length c) l.length (rcells l)) :
    Calls Tryz.prog 107 #[.slice (some ⟨b, 0, none⟩) l.length c, .int .i64 k, .int .i64 ((k : Int) + 1)] w fun e w' =>
      e = .returned (.slice (some ⟨b, 0, none⟩) (l.eraseIdx k).length c) ∧ w'.ownsRow 0 44 6 (.slice (some ⟨b, 0, none⟩) (l.eraseIdx k).length c) (l.eraseIdx k).length (rcells (l.eraseIdx k)) ∧ w.grownBy w' (some b) := by
  rcases hN.2 with ⟨h, _⟩ | ⟨g, cap, cur, hv, hg, hh, hnc, hcm, hcs, ht⟩
  · cases h
  · simp only [Value.slice.injEq, Option.some.injEq, Addr.mk.injEq, and_true, true_and] at hv
    obtain ⟨rfl, rfl⟩ := hv
    have hcm' : c ≤ 9223372036854775807 := by unfold maxLen at hcm; omega
    have hcl : cur.toList.length = c * 6 := by rw [Array.length_toList]; exact hcs
    have hxl : (rcells (l.drop (k + 1))).length = (l.length - (k + 1)) * 6 := by rw [rcells_length, List.length_drop]
    have hel : (l.eraseIdx k).length = l.length - 1 := by rw [List.length_eraseIdx, if_pos hk]
    refine (delR_core b l.length c k cur.toList (rcells (l.drop (k + 1))) w (by rw [Array.toArray_toList]; exact hh) hcl hk hnc hcm' hxl (fun j v hj => ?_) (rcells_one _)).mono ?_
    · rw [rcells_drop, ← ht, List.getElem?_take] at hj
      split at hj
      · exact hj
      · cases hj
    · rintro e w' ⟨rfl, hrow, hB⟩
      refine ⟨by rw [hel], ?_, hB⟩
      have hsl : (splice cur.toList (k * 6) (rcells (l.drop (k + 1)))).length = c * 6 := by rw [length_splice _ _ _ (by rw [hcl, hxl]; omega), hcl]
      refine ⟨rcells_length _, Or.inr ⟨b, c, _, rfl, Nat.zero_le _, hrow, by omega, hcm, ?_, ?_⟩⟩
      · rw [List.size_toArray, length_splice _ _ _ (by rw [hsl, zs6_length]; omega), hsl]
      · rw [List.toList_toArray, hel, take_splice_le _ _ _ _ (by rw [hsl]; omega) (Nat.le_refl _), show (l.length - 1) * 6 = k * 6 + (rcells (l.drop (k + 1))).length by rw [hxl]; omega, take_splice _ _ _ (by omega), List.eraseIdx_eq_take_drop_succ, rcells_append, ← rcells_take, ← ht, List.take_take, Nat.min_eq_left (by omega)]
end Go.Proofs.YtgjkdhedkbkagaaGreat
