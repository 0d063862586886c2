/- A device: Start. -/
import Derived.Test.YthmeaclekedilacJ1
import Derived.Deep.RegionLaw
import Derived.Deep.QuietTactic
import Derived.BigQuiet
import Derived.Deep.RegionHeld
import Derived.OrdersHeld
import Derived.Deep.RegionHeld3
namespace Go.Proofs.Ythmeaclekedilac
open Go.RowKit Go.BigFrame
attribute [local go_sem] Later.cell Later.frozen

theorem hidT {p : Prop} (h : p) : Hid p := h
theorem cells_set66 (d : Dl) (a : An) (l : List Rq) (x : Option Addr) (c : Nat) (h1 : d.now.length = 32) (h2 : d.good.length = 32) : (d.cells a).set 66 (.slice x l.length c) = ({ d with busy := l } : Dl).cells { a with ba := x, bc := c } := by
  rw [Dl.cells, List.set_append_right _ _ (by simp [strV_length, h1, h2])]
  simp [strV_length, h1, h2, Dl.cells]
theorem ownBlock_slice {a : Option Addr} {n c : Nat} {g : Nat} : (Value.slice a n c).ownBlock = some g ↔ ∃ p, a = some p ∧ g = p.block := by
  cases a with
  | none => simp [Value.ownBlock]
  | some p => simp [Value.ownBlock, eq_comm]
theorem DStep.drewAt {b : Nat} {d d' : Dl} {a a' : An} {w w' : World} (h : DStep b d a d' a' w w') : DStep b d a d' a' w w'.drew := ⟨h.dev.later (Below.refl _ _).drew, h.only.drew, h.foot⟩
/-- The row of requests is another one, in its old place or a new block. -/
theorem DevAt.busied {b : Nat} {d : Dl} {a : An} {w w2 w3 : World} (h : DevAt b d a w) (hb : Below w.heap.size w w2) (l : List Rq) (hl2 : l.length ≤ 2) (hr : ∀ r ∈ l, r.At w ∧ r.Off (a.foot b)) {v : Value}
    (hown : w3.ownsRow 0 38 6 v l.length (rcells l)) (hg : w2.grownBy w3 (Value.slice a.ba d.busy.length a.bc).ownBlock) (hv : ∀ g, v.ownBlock = some g → (∃ p, a.ba = some p ∧ g = p.block) ∨ w2.heap.size ≤ g) :
    ∃ x c, v = .slice x l.length c ∧ DStep b d a { d with busy := l } { a with ba := x, bc := c } w (w3.setCell ⟨b, 66, none⟩ v) := by
  obtain ⟨x, c, rfl, _⟩ := slice_of_own hown
  have hs2 := hb.size
  have nb : some b ≠ (Value.slice a.ba d.busy.length a.bc).ownBlock := fun e => by
    obtain ⟨p, hp, e'⟩ := ownBlock_slice.1 e.symm
    exact h.sepb p hp e'.symm
  have hlt := h.lt
  have e3 : w3.heap[b]? = some (.cells (d.cells a).toArray 101 (0, 0)) := by
    rw [hg.block b (by omega) nb, hb.block b hlt]; exact h.blk
  have xb : ∀ p, x = some p → p.block ≠ b := fun p hp e => by
    rcases hv p.block (ownBlock_slice.2 ⟨p, hp, rfl⟩) with ⟨q, hq, e'⟩ | h'
    · exact h.sepb q hq (by omega)
    · omega
  have hon : Only (a.foot b) w (w3.setCell ⟨b, 66, none⟩ (.slice x l.length c)) := by
    refine ((Only.of_below hb).grown hg (fun k hk => Or.inl ?_)).setCell _ (Or.inl (Or.inl rfl)) _
    obtain ⟨p, hp, e⟩ := ownBlock_slice.1 hk
    exact Or.inr (Or.inr ⟨p, hp, e⟩)
  have hft : ∀ k, ({ a with ba := x, bc := c } : An).foot b k → a.foot b k ∨ w.heap.size ≤ k := by
    rintro k (rfl | ⟨p, hp, rfl⟩ | ⟨p, hp, rfl⟩)
    · exact Or.inl (Or.inl rfl)
    · exact Or.inl (Or.inr (Or.inl ⟨p, hp, rfl⟩))
    · rcases hv p.block (ownBlock_slice.2 ⟨p, hp, rfl⟩) with ⟨q, hq, e'⟩ | h'
      · exact Or.inl (Or.inr (Or.inr ⟨q, hq, e'⟩))
      · exact Or.inr (by omega)
  refine ⟨x, c, rfl, ⟨?_, hon, hft⟩⟩
  exact {
    n32 := h.n32
    g32 := h.g32
    blk := by rw [set_same e3, cells_set66 d a l x c h.n32 h.g32]
    wrow := own_frame h.wrow fun g hg' => by
      obtain ⟨p, hp, rfl⟩ := ownBlock_slice.1 hg'
      have hpl := h.wlt p hp
      rw [set_other _ _ (h.sepw p hp), hg.block _ (by omega) (fun e => ?_), hb.block _ hpl]
      obtain ⟨q, hq, e'⟩ := ownBlock_slice.1 e.symm
      exact h.sepwb p q hp hq e'
    brow := own_frame hown fun g hg' => by
      obtain ⟨p, hp, rfl⟩ := ownBlock_slice.1 hg'
      exact set_other _ _ (xb p hp)
    sepw := h.sepw
    sepb := xb
    sepwb := fun p q hp hq e => by
      rcases hv q.block (ownBlock_slice.2 ⟨q, hq, rfl⟩) with ⟨q', hq', e'⟩ | h'
      · exact h.sepwb p q' hp hq' (by omega)
      · have := h.wlt p hp; omega
    reqs := fun r hr' => ⟨(hr r hr').1.frame (hr r hr').2 hon, (hr r hr').2.step (hr r hr').1 hft⟩
    wfin := h.wfin
    nod := h.nod
    blen := hl2
    nxt := h.nxt }

theorem newRowAt {w : World} {n : Nat} (hn : w.heap.size = n) (vs : List Value) (T : TypeId) (j : Nat) (u : Value) (h : vs[j]? = some u) : (w.alloc (.cells vs.toArray T)).cell? (Addr.add ⟨n, 0, none⟩ j) = some u := by
  subst hn
  rw [Addr.add_mid, Nat.zero_add]
  exact (cell_of_heap (heap_alloc_new w (.cells vs.toArray T)) j).trans h
theorem DevAt.kept66 {b : Nat} {d : Dl} {a : An} {w w2 w3 : World} (h : DevAt b d a w) (hb : Below w.heap.size w w2) (hg : w2.grownBy w3 (Value.slice a.ba d.busy.length a.bc).ownBlock) : w3.cell? ⟨b, 66, none⟩ = some (.slice a.ba d.busy.length a.bc) ∧ w3.frozen? ⟨b, 66, none⟩ = false ∧ b < w3.heap.size := by
  have hs2 := hb.size
  have hs3 := hg.size
  have nb : some b ≠ (Value.slice a.ba d.busy.length a.bc).ownBlock := fun e => by
    obtain ⟨p, hp, e'⟩ := ownBlock_slice.1 e.symm
    exact h.sepb p hp e'.symm
  have hlt := h.lt
  have e3 : w3.heap[b]? = some (.cells (d.cells a).toArray 101 (0, 0)) := by
    rw [hg.block b (by omega) nb, hb.block b hlt]; exact h.blk
  exact ⟨by rw [cell_of_heap e3]; exact Dl.cell66 h.n32 h.g32, frozen_of_heap e3 66, lt_of_heap e3⟩

set_option maxHeartbeats 400000 in
theorem start_full (b : Nat) (d : Dl) (a : An) (r : Rq) (w : World) (h : DevAt b d a w) (h2 : d.busy.length = 2) :
    Calls Try.prog 14 #[.pointer (some ⟨b, 0, none⟩), r.val] w fun e w' => e = .returned (.iface 47 (.int .i64 7)) ∧ Below w.heap.size w w' := by
  have c := h.c66
  have hl := h.lt
  have h3 : (2 : Int) ≤ (d.busy.length : Int) := by omega
  clear h
  go_enter Try.func14, Try.ntmps14
  go_wp2
  go_ret
  exact ⟨rfl, by repeat (first | with_reducible exact Below.refl _ _ | with_reducible refine balloc ?_ _ | with_reducible refine bdrew ?_ | with_reducible refine bset' ?_ (by omega) _ | with_reducible refine bthen ?_ (by assumption))⟩
theorem rcells_snoc (l : List Rq) (r : Rq) : rcells (l ++ [r]) = rcells l ++ [.bool r.wr, .int .i64 r.f, .int .i64 r.m, .slice r.da r.data.length r.dc, .slice r.ta r.tags.length r.tc, .int .i64 r.born] := by rw [rcells_append]; rfl
set_option maxRecDepth 100000 in
set_option maxHeartbeats 2000000 in
theorem start_ok (b : Nat) (d : Dl) (a : An) (r : Rq) (w : World) (h : DevAt b d a w) (h2 : d.busy.length < 2) (hr : r.At w) (ho : r.Off (a.foot b)) :
    Calls Try.prog 14 #[.pointer (some ⟨b, 0, none⟩), r.val] w fun e w' => ∃ a', e = .returned .nilIface ∧ DStep b d a { d with busy := d.busy ++ [r] } a' w w' := by
  obtain ⟨i, hi, hz0, hz1, hz2⟩ := pluck infoR
  have HI := hidT (⟨hi, hz0, hz1, hz2⟩ : Try.prog.info? 38 = some i ∧ _ ∧ _ ∧ _)
  have c := h.c66
  have hl := h.lt
  have h3 : ¬ (2 : Int) ≤ (d.busy.length : Int) := by omega
  have HD := hidT h
  have HR := hidT (⟨hr, ho⟩ : r.At w ∧ r.Off (a.foot b))
  clear h hr ho hi hz0 hz1 hz2
  go_enter Try.func14, Try.ntmps14
  go_wp2_with fail
  go_region_law (refine step_push rfl (.tmp 16) (.tmp 18) 30 rfl 0 38 i _ 6 80 Try.underlying30 HI.out.1 HI.out.2.1 HI.out.2.2.1 HI.out.2.2.2 rfl (by decide) (.slice a.ba d.busy.length a.bc) d.busy.length (rcells d.busy) (by simp [Act.eval]) (HD.out.later (by repeat (first | with_reducible exact Below.refl _ _ | with_reducible refine balloc ?_ _ | with_reducible refine bdrew ?_ | with_reducible refine bset' ?_ (by omega) _ | with_reducible refine bthen ?_ (by assumption)))).brow ⟨w.heap.size + 1, 0, none⟩ 1 1 [.bool r.wr, .int .i64 r.f, .int .i64 r.m, .slice r.da r.data.length r.dc, .slice r.ta r.tags.length r.tc, .int .i64 r.born] (by simp [Act.eval]) rfl (fun j u hj => newRowAt (by simp) _ _ j u hj) (by simp [Value.oneCell']) (by omega) (by unfold maxLen; omega) (by omega) (Nat.zero_le _) ?_; intro v' w3 hown hg hv; obtain ⟨x, cx, rfl, -⟩ := slice_of_own hown; obtain ⟨c3, f3, l3⟩ := HD.out.kept66 (by repeat (first | with_reducible exact Below.refl _ _ | with_reducible refine balloc ?_ _ | with_reducible refine bdrew ?_ | with_reducible refine bset' ?_ (by omega) _ | with_reducible refine bthen ?_ (by assumption))) hg; have HG := hidT (⟨hown, hg, hv⟩ : _ ∧ _ ∧ _); clear hown hg hv)
  all_goals
    obtain ⟨hown, hg, hv⟩ := HG.out
    obtain ⟨x', c', e', hst⟩ := HD.out.busied (w2 := _) (by repeat (first | with_reducible exact Below.refl _ _ | with_reducible refine balloc ?_ _ | with_reducible refine bdrew ?_ | with_reducible refine bset' ?_ (by omega) _ | with_reducible refine bthen ?_ (by assumption))) (d.busy ++ [r]) (by simp; omega) (fun q hq => by
      rcases List.mem_append.1 hq with hq | hq
      · exact HD.out.reqs q hq
      · obtain rfl := List.mem_singleton.1 hq
        exact HR.out) (by rw [rcells_snoc, List.length_append]; exact hown) hg (fun g hg' => by
      rcases hv with hv | hv
      · rw [hv] at hg'; exact Or.inl (ownBlock_slice.1 hg')
      · rw [hv] at hg'; exact Or.inr (by simpa using Nat.le_of_eq (Option.some.inj hg')))
    have HST := hidT hst
    clear hown hg hv hst e'
    go_wp2
    go_ret
    exact ⟨_, rfl, HST.out⟩
end Go.Proofs.Ythmeaclekedilac
/- Rows known whole: append with room, clear: and that only that row turns. -/
namespace Go.Proofs.Ythmeaclekedilac
open Go.RowKit

/-- 'append(s, x...)' where there is room, into a row that is known whole. -/
theorem run_append_gp {P : Program} (w : World) (t ty e : TypeId) (k : Nat) (g n cap : Nat) (sp : Option Addr) (m c : Nat) (cur : List Value) (tr : TypeId) (cs : List Value)
    (hu : P.underlying t = some (.slice e)) (hs : (P.info? e).map (·.size) = some k) (hg : w.heap[g]? = some (.cells cur.toArray tr (0, 0))) (hn : cs.length = m * k) (hroom : n + m ≤ cap)
    (hpos : 0 < cs.length → ∃ ad, sp = some ad ∧ ∀ j v, cs[j]? = some v → w.cell? (ad.add j) = some v)
    (hfit : n * k + cs.length ≤ cur.length) (h1 : ∀ v ∈ cs, v.oneCell' = true) :
    ∃ w', (Builtin.append_ #[t, t] ty #[.slice (some ⟨g, 0, none⟩) n cap, .slice sp m c]).run P w = .ok (.slice (some ⟨g, 0, none⟩) (n + m) cap) w' ∧ w'.heap[g]? = some (.cells (splice cur (n * k) cs).toArray tr (0, 0)) ∧ w.grownBy w' (some g) := by
  obtain ⟨i, hq, hi⟩ : ∃ i, P.info? e = some i ∧ i.size = k := by
    cases hq : P.info? e with
    | none => simp [hq] at hs
    | some i => exact ⟨i, rfl, by simpa [hq] using hs⟩
  have hadd : (Addr.add ⟨g, 0, none⟩ (n * k)) = ⟨g, n * k, none⟩ := by
    unfold Addr.add; split
    · rename_i h; rw [h]
    · simp
  by_cases h0 : cs.length = 0
  · obtain rfl : cs = [] := List.eq_nil_of_length_eq_zero h0
    refine ⟨w, ?_, by rw [splice_nil]; exact hg, ⟨rfl, rfl, rfl, Nat.le_refl _, fun _ _ _ => rfl⟩⟩
    have hm : m * k = 0 := by simpa using hn.symm
    have hl : ∀ a, (loadCells a 0).run P w = .ok #[] w := fun a => by simpa using run_loadCells_list (P := P) w a [] (by simp)
    cases sp <;> simp [Builtin.append_, run_underlying hu, Builtin.lenOf, Builtin.firstCells, sizeOf, typeInfo, hq, hi, hm, hl, hroom, storeCells]
  · obtain ⟨ad, rfl, hsrc⟩ := hpos (by omega)
    have hl := run_loadCells_list (P := P) w ad cs hsrc
    have hst := run_storeCells_at P g (n * k) tr cs 0 cur.toArray w hg (by simpa using hfit) h1
    refine ⟨_, ?_, setRow_heap w g _ _ tr _ hg, ⟨rfl, rfl, rfl, by simp, fun k _ hk => setRow_other w g k _ (fun e => hk (by rw [e]))⟩⟩
    simp [Builtin.append_, run_underlying hu, Builtin.lenOf, Builtin.firstCells, sizeOf, typeInfo, hq, hi, ← hn, hl, hroom, hadd, hst, splice]

theorem step_append_gp {P : Program} {ops : Array Oper} {op : Oper} {a : Act} {w : World} {K : Act → World → Prop} {Q : Exit → Act → World → Prop} {E : Prop} (hgd : op.guard = none) (s x : Operand) (t : TypeId)
    (ho : op.op = .call { callee := .builtin .append, args := #[s, x], argTypes := #[t, t] }) (e : TypeId) (k : Nat) (hu : P.underlying t = some (.slice e)) (hs : (P.info? e).map (·.size) = some k)
    (g n cap : Nat) (sp : Option Addr) (m c : Nat) (hd : a.eval s = .slice (some ⟨g, 0, none⟩) n cap) (hsv : a.eval x = .slice sp m c)
    (cur : List Value) (tr : TypeId) (cs : List Value) (hg : w.heap[g]? = some (.cells cur.toArray tr (0, 0))) (hn : cs.length = m * k) (hroom : n + m ≤ cap)
    (hpos : 0 < cs.length → ∃ ad, sp = some ad ∧ ∀ j v, cs[j]? = some v → w.cell? (ad.add j) = some v)
    (hfit : n * k + cs.length ≤ cur.length) (h1 : ∀ v ∈ cs, v.oneCell' = true)
    (h : ∀ w', Hid (w'.heap[g]? = some (.cells (splice cur (n * k) cs).toArray tr (0, 0))) → w.grownBy w' (some g) → K (a.put op.dst (.slice (some ⟨g, 0, none⟩) (n + m) cap)) w') :
    if Region.wanted op (yielded ops a.tmps) = true then Oper.wp P op a w K Q else E := by
  have hw : Region.wanted op (yielded ops a.tmps) = true := by simp [Region.wanted, hgd]
  rw [if_pos hw]
  obtain ⟨w', hrun, hrow, hb⟩ := run_append_gp (P := P) w t op.type e k g n cap sp m c cur tr cs hu hs hg hn hroom hpos hfit h1
  unfold Oper.wp
  simp [execOp, ho, resolve, invoke, builtin, hd, hsv, hrun, Result.andThen]
  exact h w' hrow hb

/-- 'clear(s)' of a part of such a row. -/
theorem run_clear_gp {P : Program} (w : World) (t e ty : TypeId) (z : Value) (k : Nat) (hu : P.underlying t = some (.slice e)) (hv : ∀ w, (zeroValue e).run P w = .ok z w) (hz : z.cells.size = k) (hz1 : ∀ u ∈ z.cells.toList, u.oneCell' = true)
    (g o n c : Nat) (cur : List Value) (tr : TypeId) (hg : w.heap[g]? = some (.cells cur.toArray tr (0, 0))) (hn : 0 < n) (hfit : o + n * k ≤ cur.length) (hk : 0 < k) :
    ∃ w', (Builtin.clear_ #[t] ty #[.slice (some ⟨g, o, none⟩) n c]).run P w = .ok (.tuple #[]) w' ∧ w'.heap[g]? = some (.cells (splice cur o (Builtin.zeroCells z.cells n).toList).toArray tr (0, 0)) ∧ w.grownBy w' (some g) := by
  have hlen : (Builtin.zeroCells z.cells n).toList.length = n * k := by simp [Builtin.zeroCells, hz]
  have h1 : ∀ v ∈ (Builtin.zeroCells z.cells n).toList, v.oneCell' = true := by
    intro v hv
    simp only [Builtin.zeroCells, Array.toList_map, List.mem_map] at hv
    obtain ⟨i, _, rfl⟩ := hv
    have hi : i % z.cells.size < z.cells.size := Nat.mod_lt _ (by omega)
    rw [getElem!_pos z.cells _ hi]
    exact hz1 _ (by simp)
  have hst := run_storeCells_at P g o tr (Builtin.zeroCells z.cells n).toList 0 cur.toArray w hg (by simp only [Nat.add_zero, List.size_toArray]; omega) h1
  refine ⟨_, ?_, setRow_heap w g _ _ tr _ hg, ⟨rfl, rfl, rfl, by simp, fun k _ hk => setRow_other w g k _ (fun e => hk (by rw [e]))⟩⟩
  obtain ⟨m, rfl⟩ : ∃ m, n = m + 1 := ⟨n - 1, by omega⟩
  simp [Builtin.clear_, run_underlying hu, hv, hst, splice]

theorem step_clear_gp {P : Program} {ops : Array Oper} {op : Oper} {a : Act} {w : World} {K : Act → World → Prop} {Q : Exit → Act → World → Prop} {E : Prop} (hgd : op.guard = none) (s : Operand) (t : TypeId)
    (ho : op.op = .call { callee := .builtin .clear, args := #[s], argTypes := #[t] }) (e : TypeId) (z : Value) (k : Nat) (hu : P.underlying t = some (.slice e)) (hv : ∀ w, (zeroValue e).run P w = .ok z w) (hz : z.cells.size = k) (hz1 : ∀ u ∈ z.cells.toList, u.oneCell' = true)
    (g o n c : Nat) (hd : a.eval s = .slice (some ⟨g, o, none⟩) n c) (cur : List Value) (tr : TypeId) (hg : w.heap[g]? = some (.cells cur.toArray tr (0, 0))) (hn : 0 < n) (hfit : o + n * k ≤ cur.length) (hk : 0 < k)
    (h : ∀ w', Hid (w'.heap[g]? = some (.cells (splice cur o (Builtin.zeroCells z.cells n).toList).toArray tr (0, 0))) → w.grownBy w' (some g) → K (a.put op.dst (.tuple #[])) w') :
    if Region.wanted op (yielded ops a.tmps) = true then Oper.wp P op a w K Q else E := by
  have hw : Region.wanted op (yielded ops a.tmps) = true := by simp [Region.wanted, hgd]
  rw [if_pos hw]
  obtain ⟨w', hrun, hrow, hb⟩ := run_clear_gp (P := P) w t e op.type z k hu hv hz hz1 g o n c cur tr hg hn hfit hk
  unfold Oper.wp
  simp [execOp, ho, resolve, invoke, builtin, hd, hrun, Result.andThen]
  exact h w' hrow hb
end Go.Proofs.Ythmeaclekedilac
/- slices.Delete of one request, in place. -/
namespace Go.Proofs.Ythmeaclekedilac
open Go.RowKit Go.BigFrame
attribute [local go_sem] Later.cell Later.frozen

theorem grow_trans {a b c : World} {g : Nat} (h : a.grownBy b (some g)) (k : b.grownBy c (some g)) : a.grownBy c (some g) :=
  ⟨k.os.trans h.os, k.tape.trans h.tape, k.output.trans h.output, Nat.le_trans h.size k.size, fun i hi hn => (k.block i (Nat.lt_of_lt_of_le hi h.size) hn).trans (h.block i hi hn)⟩
theorem grow_drew {a b : World} {row : Option Nat} (h : a.drew.grownBy b row) : a.grownBy b row := ⟨h.os, h.tape, h.output, h.size, h.block⟩
theorem zeroR (w : World) : (zeroValue 38).run Try.prog w = .ok (.agg #[.bool false, .int .i64 0, .int .i64 0, .slice none 0 0, .slice none 0 0, .int .i64 0]) w := Try.zeroValue38 w
theorem sizeR : (Try.prog.info? 38).map (·.size) = some 6 := by kernel_rfl

theorem sliceR_from (b n c i : Nat) (w : World) (hlt : i < n) (hce : ¬ c = i + 1) : (Instr.slice 30 (.slice (some ⟨b, 0, none⟩) n c) (some (.int .i64 ((i : Int) + 1))) none none).run Try.prog w = .ok (.slice (some ⟨b, (i + 1) * 6, none⟩) (n - (i + 1)) (c - (i + 1))) w := by
  have h1 : (0 : Int) ≤ (i : Int) + 1 := by omega
  have h2 : (i : Int) + 1 ≤ (n : Int) := by omega
  simp [go_sem, h1, h2, hce]
theorem sliceR_to (b n c i : Nat) (w : World) (hlt : i < n) (hcap : n ≤ c) : (Instr.slice 30 (.slice (some ⟨b, 0, none⟩) n c) none (some (.int .i64 (i : Int))) none).run Try.prog w = .ok (.slice (some ⟨b, 0, none⟩) i c) w := by
  have h2 : i ≤ c := by omega
  simp [go_sem, h2]
theorem sliceR_end (b n i : Nat) (w : World) (hlt : n = i + 1) : (Instr.slice 30 (.slice (some ⟨b, 0, none⟩) n (i + 1)) (some (.int .i64 ((i : Int) + 1))) none none).run Try.prog w = .ok (.slice (some ⟨b, 0, none⟩) 0 0) w := by
  subst hlt
  have h1 : (0 : Int) ≤ (i : Int) + 1 := by omega
  simp [go_sem, h1]
theorem sliceR_cut (b n c i : Nat) (w : World) (hlt : i < n) (hcap : n ≤ c) (hm : c ≤ 9223372036854775807) : (Instr.slice 30 (.slice (some ⟨b, 0, none⟩) (n - 1) c) (some (.int .i64 ((n - 1 : Nat) : Int))) (some (.int .i64 (n : Int))) none).run Try.prog w = .ok (.slice (some ⟨b, (n - 1) * 6, none⟩) 1 (c - (n - 1))) w := by
  have h1 : ((n - 1 : Nat) : Int) ≤ (n : Int) := by omega
  have h2 : ¬ c = n - 1 := by omega
  have h3 : n - (n - 1) = 1 := by omega
  simp [go_sem, h1, h2, h3, hcap]

def zs6 : List Value := (Builtin.zeroCells (Value.agg #[.bool false, .int .i64 0, .int .i64 0, .slice none 0 0, .slice none 0 0, .int .i64 0]).cells 1).toList
theorem zs6_length : zs6.length = 6 := by simp [zs6, Builtin.zeroCells, Value.cells]
theorem cell_row {w : World} {b : Nat} {cur : List Value} {t : TypeId} (hg : w.heap[b]? = some (.cells cur.toArray t (0, 0))) (o j : Nat) (v : Value) (h : cur[o + j]? = some v) : w.cell? (Addr.add ⟨b, o, none⟩ j) = some v := by
  rw [Addr.add_mid]
  simp [World.cell?, hg, h]

set_option maxRecDepth 100000 in
set_option maxHeartbeats 2000000 in
theorem delR_core (b n c k : Nat) (cur xs : List Value) (w : World) (hg : w.heap[b]? = some (.cells cur.toArray 38 (0, 0))) (hcl : cur.length = c * 6) (hk : k < n) (hnc : n ≤ c) (hcm : c ≤ 9223372036854775807)
    (hxl : xs.length = (n - (k + 1)) * 6) (hx : ∀ j v, xs[j]? = some v → cur[(k + 1) * 6 + j]? = some v) (h1 : ∀ v ∈ xs, v.oneCell' = true) :
    Calls Try.prog 56 #[.slice (some ⟨b, 0, none⟩) n c, .int .i64 k, .int .i64 ((k : Int) + 1)] w fun e w' =>
      e = .returned (.slice (some ⟨b, 0, none⟩) (n - 1) c) ∧ w'.heap[b]? = some (.cells (splice (splice cur (k * 6) xs) ((n - 1) * 6) zs6).toArray 38 (0, 0)) ∧ w.grownBy w' (some b) := by
  have q1 : (k : Int) + 1 ≤ (n : Int) := by omega
  have q2 : (0 : Int) ≤ (k : Int) + 1 := by omega
  have q3 : ¬ ((k : Int) = (k : Int) + 1) := by omega
  have q4 : (k : Int) ≤ (k : Int) + 1 := by omega
  have HC := hidT hcl
  have HX := hidT hx
  have HL := hidT hxl
  have HG := hidT hg
  have H1 := hidT h1
  clear hcl hx hxl hg h1
  have hsl1 := fun w => sliceR_to b n c k w hk hnc
  have hsl3 := fun w => sliceR_cut b n c k w hk hnc hcm
  have hcut : (splice cur (k * 6) xs).length = c * 6 := by rw [length_splice _ _ _ (by rw [HC.out, HL.out]; omega), HC.out]
  have HS := hidT hcut
  clear hcut
  have hn1 : k + (n - (k + 1)) = n - 1 := by omega
  have HN1 := hidT hn1
  clear hn1
  by_cases hce : c = k + 1
  · have hnk : n = k + 1 := by omega
    subst hce
    subst hnk
    clear hsl3
    have hsl3 := fun w => sliceR_cut b (k + 1) (k + 1) k w hk hnc hcm
    simp only [Nat.add_sub_cancel] at hsl3 HS
    rw [show k + 1 - k = 1 by omega] at hsl3
    have hsl2 := fun w => sliceR_end b (k + 1) k w rfl
    obtain rfl : xs = [] := List.eq_nil_of_length_eq_zero (by rw [HL.out]; omega)
    go_enter Try.func56, Try.ntmps56
    go_wp2_with fail
    go_region_law (refine step_append_gp rfl (.tmp 22) (.tmp 25) 30 rfl 38 6 Try.underlying30 sizeR b k (k + 1) (some ⟨b, 0, none⟩) 0 0 (by simp [Act.eval, Act.put]) (by simp [Act.eval, Act.put]) cur 38 [] HG.out rfl (by omega) (fun h => absurd h (Nat.not_lt_zero _)) (by rw [HC.out]; simp; omega) (by simp) ?_; intro w1 G1 hb1)
    obtain ⟨w2, hcl, G2, hb2⟩ := run_clear_gp (P := Try.prog) w1 30 38 0 _ 6 Try.underlying30 zeroR rfl (by decide) b (k * 6) 1 1 _ 38 G1.out (by omega) (by have := HS.out; omega) (by omega)
    have HG2 := hidT G2
    have HB2 := hidT hb2
    clear G2 hb2
    go_wp2
    go_ret
    exact ⟨rfl, HG2.out, grow_trans (grow_drew hb1) HB2.out⟩
  · have hsl2 := fun w => sliceR_from b n c k w hk hce
    go_enter Try.func56, Try.ntmps56
    go_wp2_with fail
    go_region_law (refine step_append_gp rfl (.tmp 22) (.tmp 25) 30 rfl 38 6 Try.underlying30 sizeR b k c (some ⟨b, (k + 1) * 6, none⟩) (n - (k + 1)) (c - (k + 1)) (by simp [Act.eval, Act.put]) (by simp [Act.eval, Act.put]) cur 38 xs HG.out HL.out (by omega) (fun _ => ⟨_, rfl, fun j v hj => cell_row HG.out _ _ _ (HX.out j v hj)⟩) (by rw [HC.out, HL.out]; omega) H1.out ?_; intro w1 G1 hb1; rw [HN1.out])
    obtain ⟨w2, hcl, G2, hb2⟩ := run_clear_gp (P := Try.prog) w1 30 38 0 _ 6 Try.underlying30 zeroR rfl (by decide) b ((n - 1) * 6) 1 (c - (n - 1)) _ 38 G1.out (by omega) (by rw [HS.out]; omega) (by omega)
    have HG2 := hidT G2
    have HB2 := hidT hb2
    clear G2 hb2
    go_wp2
    go_ret
    exact ⟨rfl, HG2.out, grow_trans (grow_drew hb1) HB2.out⟩

theorem take_splice {α : Type} (L cs : List α) (o : Nat) (h : o ≤ L.length) : (splice L o cs).take (o + cs.length) = L.take o ++ cs := by
  have e : (L.take o).length = o := by rw [List.length_take]; omega
  rw [splice, ← List.append_assoc, List.take_append_of_le_length (by rw [List.length_append, e]; exact Nat.le_refl _), List.take_of_length_le (by rw [List.length_append, e]; exact Nat.le_refl _)]
theorem take_splice_le {α : Type} (L cs : List α) (o m : Nat) (h : o ≤ L.length) (hm : m ≤ o) : (splice L o cs).take m = L.take m := by
  have e : (L.take o).length = o := by rw [List.length_take]; omega
  rw [splice, List.take_append_of_le_length (by rw [e]; exact hm), List.take_take, Nat.min_eq_left hm]
theorem rcells_take (l : List Rq) (k : Nat) : (rcells l).take (k * 6) = rcells (l.take k) := by
  by_cases hk : k ≤ l.length
  · have e := rcells_append (l.take k) (l.drop k)
    rw [List.take_append_drop] at e
    have hl : (rcells (l.take k)).length = k * 6 := by rw [rcells_length, List.length_take, Nat.min_eq_left hk]
    rw [e, List.take_append_of_le_length (by omega), List.take_of_length_le (by omega)]
  · rw [List.take_of_length_le (by rw [rcells_length]; omega), List.take_of_length_le (by omega)]
theorem rcells_drop (l : List Rq) (k j : Nat) : (rcells (l.drop k))[j]? = (rcells l)[k * 6 + j]? := by
  by_cases hk : k ≤ l.length
  · have e := rcells_append (l.take k) (l.drop k)
    rw [List.take_append_drop] at e
    have hl : (rcells (l.take k)).length = k * 6 := by rw [rcells_length, List.length_take, Nat.min_eq_left hk]
    rw [e, List.getElem?_append_right (by omega), hl]
    congr 1; omega
  · rw [List.drop_eq_nil_of_le (by omega), List.getElem?_eq_none (by simp [rcells]), List.getElem?_eq_none (by rw [rcells_length]; omega)]
theorem delR (l : List Rq) (b c k : Nat) (w : World) (hk : k < l.length) (hN : w.ownsRow 0 38 6 (.slice (some ⟨b, 0, none⟩) l.length c) l.length (rcells l)) :
    Calls Try.prog 56 #[.slice (some ⟨b, 0, none⟩) l.length c, .int .i64 k, .int .i64 ((k : Int) + 1)] w fun e w' =>
      e = .returned (.slice (some ⟨b, 0, none⟩) (l.eraseIdx k).length c) ∧ w'.ownsRow 0 38 6 (.slice (some ⟨b, 0, none⟩) (l.eraseIdx k).length c) (l.eraseIdx k).length (rcells (l.eraseIdx k)) ∧ w.grownBy w' (some b) := by
  rcases hN.2 with ⟨h, _⟩ | ⟨g, cap, cur, hv, hg, hh, hnc, hcm, hcs, ht⟩
  · cases h
  · simp only [Value.slice.injEq, Option.some.injEq, Addr.mk.injEq, and_true, true_and] at hv
    obtain ⟨rfl, rfl⟩ := hv
    have hcm' : c ≤ 9223372036854775807 := by unfold maxLen at hcm; omega
    have hcl : cur.toList.length = c * 6 := by rw [Array.length_toList]; exact hcs
    have hxl : (rcells (l.drop (k + 1))).length = (l.length - (k + 1)) * 6 := by rw [rcells_length, List.length_drop]
    have hel : (l.eraseIdx k).length = l.length - 1 := by rw [List.length_eraseIdx, if_pos hk]
    refine (delR_core b l.length c k cur.toList (rcells (l.drop (k + 1))) w (by rw [Array.toArray_toList]; exact hh) hcl hk hnc hcm' hxl (fun j v hj => ?_) (rcells_one _)).mono ?_
    · rw [rcells_drop, ← ht, List.getElem?_take] at hj
      split at hj
      · exact hj
      · cases hj
    · rintro e w' ⟨rfl, hrow, hB⟩
      refine ⟨by rw [hel], ?_, hB⟩
      have hsl : (splice cur.toList (k * 6) (rcells (l.drop (k + 1)))).length = c * 6 := by rw [length_splice _ _ _ (by rw [hcl, hxl]; omega), hcl]
      refine ⟨rcells_length _, Or.inr ⟨b, c, _, rfl, Nat.zero_le _, hrow, by omega, hcm, ?_, ?_⟩⟩
      · rw [List.size_toArray, length_splice _ _ _ (by rw [hsl, zs6_length]; omega), hsl]
      · rw [List.toList_toArray, hel, take_splice_le _ _ _ _ (by rw [hsl]; omega) (Nat.le_refl _), show (l.length - 1) * 6 = k * 6 + (rcells (l.drop (k + 1))).length by rw [hxl]; omega, take_splice _ _ _ (by omega), List.eraseIdx_eq_take_drop_succ, rcells_append, ← rcells_take, ← ht, List.take_take, Nat.min_eq_left (by omega)]
end Go.Proofs.Ythmeaclekedilac
/- A device: what is hidden goes out of the row of what was written: slices.IndexFunc, slices.DeleteFunc, with the closure of write. -/
namespace Go.Proofs.Ythmeaclekedilac
open Go.RowKit Go.BigFrame
attribute [local go_sem] Later.cell Later.frozen

def hidB (pl nx : Nat) (x : Wn) : Bool := x.pl == pl && x.bit == nx
/-- What the closure reads: the sector, the device, its next bit. -/
structure HidAt (pb pd b pl nx : Nat) (w : World) : Prop where
  c1 : w.cell? ⟨pb, 0, none⟩ = some (.int .i64 pl)
  c2 : w.cell? ⟨pd, 0, none⟩ = some (.pointer (some ⟨b, 0, none⟩))
  c3 : w.cell? ⟨b, 65, none⟩ = some (.int .i64 nx)
theorem HidAt.later {pb pd b pl nx : Nat} {w w' : World} (h : HidAt pb pd b pl nx w) (hb : Below w.heap.size w w') : HidAt pb pd b pl nx w' := ⟨cell_later' hb h.c1, cell_later' hb h.c2, cell_later' hb h.c3⟩
theorem HidAt.frame {F : Nat → Prop} {pb pd b pl nx : Nat} {w w' : World} (h : HidAt pb pd b pl nx w) (hk : Only F w w') (h1 : ¬ F pb) (h2 : ¬ F pd) (h3 : ¬ F b) : HidAt pb pd b pl nx w' :=
  ⟨by rw [hk.cell (p := ⟨pb, 0, none⟩) (lt_of_cell h.c1) h1]; exact h.c1, by rw [hk.cell (p := ⟨pd, 0, none⟩) (lt_of_cell h.c2) h2]; exact h.c2, by rw [hk.cell (p := ⟨b, 65, none⟩) (lt_of_cell h.c3) h3]; exact h.c3⟩

theorem bdrewN {B : Nat} {a w : World} (h : Below B a w) (n : Nat) : Below B a (w.drewN n) := ⟨h.os, h.tape, h.output, h.size, h.block⟩
set_option maxHeartbeats 1000000 in
theorem hidden_any (x : Wn) (pb pd b pl nx : Nat) (w : World) (h : HidAt pb pd b pl nx w) :
    Calls Try.prog 85 #[x.val, .pointer (some ⟨pb, 0, none⟩), .pointer (some ⟨pd, 0, none⟩)] w fun e w' => e = .returned (.bool (hidB pl nx x)) ∧ Below w.heap.size w w' := by
  have c1 := alloc_cell h.c1
  have c2 := alloc_cell h.c2
  have c3 := alloc_cell h.c3
  have l1 := lt_of_cell h.c1
  have l2 := lt_of_cell h.c2
  have l3 := lt_of_cell h.c3
  have d1 := h.c1
  have d2 := h.c2
  have d3 := h.c3
  clear h
  unfold hidB
  by_cases hp : x.pl = pl
  · have e1 : ((x.pl : Int) == (pl : Int)) = true := by rw [beq_iff_eq]; omega
    have e2 : ((x.bit : Int) == (nx : Int)) = (x.bit == nx) := by
      rw [Bool.eq_iff_iff, beq_iff_eq, beq_iff_eq]; omega
    have e3 : (x.pl == pl) = true := by rw [beq_iff_eq]; exact hp
    rw [e3, Bool.true_and]
    have HP := hidT hp
    clear hp e3
    go_enter Try.func85, Try.ntmps85
    go_wp2_with fail
    go_quiet (fail)
    go_wp2
    go_ret
    exact ⟨rfl, bdrewN (below1 _ _) _⟩
  · have e1 : ((x.pl : Int) == (pl : Int)) = false := by rw [beq_eq_false_iff_ne]; omega
    have e3 : (x.pl == pl) = false := by rw [beq_eq_false_iff_ne]; exact hp
    rw [e3, Bool.false_and]
    have HP := hidT hp
    clear hp e3
    go_enter Try.func85, Try.ntmps85
    go_wp2_with fail
    go_quiet (fail)
    go_wp2
    go_ret
    exact ⟨rfl, bdrewN (below1 _ _) _⟩

/-- From an address on lie these writes. -/
def WnsAt (w : World) (a : Option Addr) (l : List Wn) : Prop := l = [] ∨ ∃ g, a = some ⟨g, 0, none⟩ ∧ ∀ i (h : i < l.length), w.cell? ⟨g, i * 3, none⟩ = some (.int .i64 l[i].pl) ∧ w.cell? ⟨g, i * 3 + 1, none⟩ = some (.string l[i].data) ∧ w.cell? ⟨g, i * 3 + 2, none⟩ = some (.int .i64 l[i].bit)
theorem WnsAt.later {w w' : World} {a : Option Addr} {l : List Wn} (h : WnsAt w a l) (hb : Below w.heap.size w w') : WnsAt w' a l := by
  rcases h with h | ⟨g, ha, hc⟩
  · exact Or.inl h
  · exact Or.inr ⟨g, ha, fun i hi => ⟨cell_later' hb (hc i hi).1, cell_later' hb (hc i hi).2.1, cell_later' hb (hc i hi).2.2⟩⟩
theorem wns_of_own {w : World} {a : Option Addr} {c : Nat} {l : List Wn} (h : w.ownsRow 0 111 3 (.slice a l.length c) l.length (wcells l)) : WnsAt w a l := by
  rcases h.2 with ⟨h1, h2⟩ | ⟨g, cap, cur, hv, hg, hh, hnc, hcm, hcs, ht⟩
  · exact Or.inl (List.eq_nil_of_length_eq_zero h2)
  · simp only [Value.slice.injEq, true_and] at hv
    obtain ⟨rfl, rfl⟩ := hv
    refine Or.inr ⟨g, rfl, fun i hi => ?_⟩
    obtain ⟨k0, k1, k2⟩ := wcells_at l i hi
    exact ⟨(h.cellAt (i * 3) (by omega)).trans k0, (h.cellAt (i * 3 + 1) (by omega)).trans k1, (h.cellAt (i * 3 + 2) (by omega)).trans k2⟩
def idxW (p : Wn → Bool) (l : List Wn) : Int := match l.findIdx? p with | some k => (k : Int) | none => -1
theorem idxW_found {p : Wn → Bool} {l : List Wn} {k : Nat} (h : k < l.length) (hp : p l[k] = true) (hb : ∀ j (hj : j < k), p (l[j]'(by omega)) = false) : idxW p l = k := by
  have : l.findIdx? p = some k := by
    rw [List.findIdx?_eq_some_iff_getElem]
    exact ⟨h, hp, fun j hj => by rw [hb j hj]; exact Bool.false_ne_true⟩
  rw [idxW, this]
theorem idxW_none {p : Wn → Bool} {l : List Wn} (h : ∀ j (hj : j < l.length), p l[j] = false) : idxW p l = -1 := by
  have : l.findIdx? p = none := by
    rw [List.findIdx?_eq_none_iff]
    intro x hx
    obtain ⟨j, hj, rfl⟩ := List.getElem_of_mem hx
    exact h j hj
  rw [idxW, this]
theorem idxW_spec (p : Wn → Bool) (l : List Wn) : (idxW p l = -1 ∧ ∀ j (hj : j < l.length), p l[j] = false) ∨ ∃ (k : Nat) (h : k < l.length), idxW p l = k ∧ p l[k] = true ∧ ∀ j (hj : j < k), p (l[j]'(by omega)) = false := by
  cases e : l.findIdx? p with
  | none =>
    left
    refine ⟨by rw [idxW, e], fun j hj => ?_⟩
    rw [List.findIdx?_eq_none_iff] at e
    exact e _ (List.getElem_mem hj)
  | some k =>
    right
    have e' := e
    rw [List.findIdx?_eq_some_iff_getElem] at e
    obtain ⟨h1, h2, h3⟩ := e
    refine ⟨k, h1, by rw [idxW, e'], h2, fun j hj => ?_⟩
    have := h3 j hj
    simpa using this
set_option maxHeartbeats 1000000 in
theorem indexW_any (pb pd b pl nx : Nat) (l : List Wn) (a : Option Addr) (c : Nat) (w : World) (hl : WnsAt w a l) (hlen : l.length ≤ 100000) (hh : HidAt pb pd b pl nx w) :
    Calls Try.prog 88 #[.slice a l.length c, .func (.func 85) #[] #[.pointer (some ⟨pb, 0, none⟩), .pointer (some ⟨pd, 0, none⟩)]] w fun e w' => e = .returned (.int .i64 (idxW (hidB pl nx) l)) ∧ Below w.heap.size w w' := by
  rcases hl with rfl | ⟨g, rfl, hcs⟩
  · clear hh
    go_enter Try.func88, Try.ntmps88
    go_wp2
    go_loop [8] (fun i => i = .int .i64 0) (fun _ => 0)
    case atStart => rfl
    case round =>
      subst hrel
      go_wp2
      go_ret
      exact ⟨rfl, by repeat (first | with_reducible exact Below.refl _ _ | with_reducible refine balloc ?_ _ | with_reducible refine bdrew ?_ | with_reducible refine bset' ?_ (by omega) _ | with_reducible refine bthen ?_ (by assumption))⟩
  have HC := hidT hcs
  have HH := hidT hh
  clear hcs hh
  go_enter Try.func88, Try.ntmps88
  go_wp2
  go_loopw [8] (fun i wr => ∃ k : Nat, k ≤ l.length ∧ i = .int .i64 k ∧ (∀ j (hj : j < l.length), j < k → hidB pl nx l[j] = false) ∧ Below w.heap.size w wr) (fun i _ => l.length - (intOf i).toNat)
  case atStart => exact ⟨0, by omega, rfl, fun j hj h => absurd h (Nat.not_lt_zero _), Below.refl _ _⟩
  case round =>
    obtain ⟨k, hk, rfl, hno, HB⟩ := hrel
    have HN := hidT hno
    clear hno
    by_cases hlt : k < l.length
    · obtain ⟨c0, c1, c2⟩ := HC.out k hlt
      replace c0 := cell_later' HB c0
      replace c1 := cell_later' HB c1
      replace c2 := cell_later' HB c2
      have hq := hidden_any l[k] pb pd b pl nx wr (HH.out.later HB)
      cases hpk : hidB pl nx l[k]
      · rw [hpk] at hq
        have HQ := hidT hq
        clear hq
        go_wp2_with fail
        refine Calls.mono HQ.out ?_
        rintro e w1 ⟨rfl, hb⟩
        go_wp2
        go_roundw
        case rel => exact ⟨k + 1, by omega, by go_num, fun j hj h => by by_cases e : j = k; (subst e; exact hpk); exact HN.out j hj (by omega), bthen HB hb⟩
        case measure => simp [intOf]; omega
      · rw [hpk] at hq
        have HQ := hidT hq
        clear hq
        go_wp2_with fail
        refine Calls.mono HQ.out ?_
        rintro e w1 ⟨rfl, hb⟩
        go_wp2
        go_ret
        exact ⟨ret_int (idxW_found hlt hpk (fun j hj => HN.out j (by omega) hj)).symm, bthen HB hb⟩
    · go_wp2
      go_ret
      exact ⟨ret_int (idxW_none (fun j hj => HN.out j hj (by omega))).symm, HB⟩
end Go.Proofs.Ythmeaclekedilac
/- A device: slices.DeleteFunc of what was written. -/
namespace Go.Proofs.Ythmeaclekedilac
open Go.RowKit Go.BigFrame
attribute [local go_sem] Later.cell Later.frozen

theorem hid_once {l : List Wn} (hn : (l.map Wn.key).Nodup) {pl nx i j : Nat} (hi : i < l.length) (hj : j < l.length) (h1 : hidB pl nx l[i] = true) (h2 : hidB pl nx l[j] = true) : i = j := by
  simp only [hidB, Bool.and_eq_true, beq_iff_eq] at h1 h2
  have e : (l.map Wn.key)[i]'(by simpa using hi) = (l.map Wn.key)[j]'(by simpa using hj) := by
    simp only [List.getElem_map, Wn.key]; omega
  exact (List.getElem_inj hn).1 e
def keepW (pl nx : Nat) (l : List Wn) : List Wn := l.filter fun x => !hidB pl nx x
theorem keep_all {l : List Wn} {pl nx : Nat} (h : ∀ j (hj : j < l.length), hidB pl nx l[j] = false) : keepW pl nx l = l := by
  unfold keepW
  rw [List.filter_eq_self]
  intro x hx
  obtain ⟨j, hj, rfl⟩ := List.getElem_of_mem hx
  simp [h j hj]
theorem keep_erase {l : List Wn} {pl nx k : Nat} (hk : k < l.length) (h1 : hidB pl nx l[k] = true) (h2 : ∀ j (hj : j < l.length), j ≠ k → hidB pl nx l[j] = false) : keepW pl nx l = l.eraseIdx k := by
  have e : l = l.take k ++ l[k] :: l.drop (k + 1) := by rw [List.getElem_cons_drop, List.take_append_drop]
  unfold keepW
  rw [List.eraseIdx_eq_take_drop_succ]
  conv => lhs; rw [e]
  rw [List.filter_append, List.filter_cons, if_neg (by simp [h1])]
  congr 1
  · rw [List.filter_eq_self]
    intro x hx
    obtain ⟨j, hj, rfl⟩ := List.getElem_of_mem hx
    simp only [List.length_take] at hj
    rw [List.getElem_take]
    simp [h2 j (by omega) (by omega)]
  · rw [List.filter_eq_self]
    intro x hx
    obtain ⟨j, hj, rfl⟩ := List.getElem_of_mem hx
    simp only [List.length_drop] at hj
    rw [List.getElem_drop]
    simp [h2 (k + 1 + j) (by omega) (by omega)]
/-- The row in the middle of it: so many have been looked at. -/
def midW (l : List Wn) (k j : Nat) : List Wn := (l.eraseIdx k).take (j - 1) ++ l.drop (j - 1)
theorem midW_first (l : List Wn) (k : Nat) (hk : k < l.length) : midW l k (k + 1) = l := by
  rw [midW, Nat.add_sub_cancel, List.eraseIdx_eq_take_drop_succ, List.take_append_of_le_length (by rw [List.length_take]; omega), List.take_take, Nat.min_self, List.take_append_drop]
theorem midW_length (l : List Wn) (k j : Nat) (hk : k < l.length) (h1 : k + 1 ≤ j) (h2 : j ≤ l.length) : (midW l k j).length = l.length := by
  rw [midW, List.length_append, List.length_take, List.length_drop, List.length_eraseIdx, if_pos hk]; omega
theorem midW_at (l : List Wn) (k j : Nat) (hk : k < l.length) (h1 : k + 1 ≤ j) (h2 : j < l.length) : (midW l k j)[j]? = some l[j] := by
  have e : ((l.eraseIdx k).take (j - 1)).length = j - 1 := by rw [List.length_take, List.length_eraseIdx, if_pos hk]; omega
  rw [midW, List.getElem?_append_right (by omega), e, List.getElem?_drop, show j - 1 + (j - (j - 1)) = j by omega, List.getElem?_eq_getElem h2]
theorem midW_step (l : List Wn) (k j : Nat) (hk : k < l.length) (h1 : k + 1 ≤ j) (h2 : j < l.length) : (midW l k j).set (j - 1) l[j] = midW l k (j + 1) := by
  have e : ((l.eraseIdx k).take (j - 1)).length = j - 1 := by rw [List.length_take, List.length_eraseIdx, if_pos hk]; omega
  have e2 : (l.eraseIdx k).length = l.length - 1 := by rw [List.length_eraseIdx, if_pos hk]
  have e3 : (l.eraseIdx k).take j = (l.eraseIdx k).take (j - 1) ++ [l[j]] := by
    have h := List.take_succ_eq_append_getElem (l := l.eraseIdx k) (i := j - 1) (by omega)
    rw [show j - 1 + 1 = j by omega] at h
    rw [h, List.getElem_eraseIdx_of_ge (by omega) (by omega)]
    simp only [show j - 1 + 1 = j by omega]
  have e4 : l.drop (j - 1) = l[j - 1] :: l.drop j := by
    have h := List.drop_eq_getElem_cons (l := l) (i := j - 1) (by omega)
    rwa [show j - 1 + 1 = j by omega] at h
  rw [midW, midW, Nat.add_sub_cancel, List.set_append_right _ _ (by omega), e, Nat.sub_self, e4, List.set_cons_zero, e3]
  simp
theorem midW_last (l : List Wn) (k : Nat) (hk : k < l.length) : (midW l k l.length).take (l.length - 1) = l.eraseIdx k := by
  have e2 : (l.eraseIdx k).length = l.length - 1 := by rw [List.length_eraseIdx, if_pos hk]
  rw [midW, List.take_append_of_le_length (by rw [List.length_take]; omega), List.take_take, Nat.min_self, List.take_of_length_le (by omega)]
theorem wcells_set (l : List Wn) (x : Wn) : ∀ (i : Nat) (_ : i < l.length) (tl : List Value), (((wcells l ++ tl).set (i * 3) (.int .i64 x.pl)).set (i * 3 + 1) (.string x.data)).set (i * 3 + 2) (.int .i64 x.bit) = wcells (l.set i x) ++ tl := by
  induction l with
  | nil => intro i h; exact absurd h (Nat.not_lt_zero _)
  | cons y l ih =>
    intro i h tl
    cases i with
    | zero => rfl
    | succ i =>
      have := ih i (by simpa using h) tl
      rw [wcells_cons, List.set_cons_succ, wcells_cons, show (i + 1) * 3 = i * 3 + 3 by omega]
      simp only [List.cons_append, List.set_cons_succ]
      rw [this]
theorem zeroW (w : World) : (zeroValue 111).run Try.prog w = .ok (.agg #[.int .i64 0, .string ByteArray.empty, .int .i64 0]) w := Try.zeroValue111 w
theorem sliceW_from (g n c m : Nat) (w : World) (h1 : m < n) (h2 : n ≤ c) : (Instr.slice 99 (.slice (some ⟨g, 0, none⟩) n c) (some (.int .i64 (m : Int))) none none).run Try.prog w = .ok (.slice (some ⟨g, m * 3, none⟩) (n - m) (c - m)) w := by
  have k1 : (m : Int) ≤ (n : Int) := by omega
  have k2 : ¬ c = m := by omega
  have k3 : m ≤ n := by omega
  simp [go_sem, k2, k3]
theorem sliceW_to (g n c m : Nat) (w : World) (h1 : m < n) (h2 : n ≤ c) : (Instr.slice 99 (.slice (some ⟨g, 0, none⟩) n c) none (some (.int .i64 (m : Int))) none).run Try.prog w = .ok (.slice (some ⟨g, 0, none⟩) m c) w := by
  have k2 : m ≤ c := by omega
  simp [go_sem, k2]

def rowOf (a : Option Addr) (k : Nat) : Prop := ∃ p, a = some p ∧ k = p.block
set_option maxRecDepth 100000 in
set_option maxHeartbeats 2000000 in
theorem delW_yes (pb pd b pl nx : Nat) (l : List Wn) (g c k : Nat) (tl : List Value) (w : World) (hg : w.heap[g]? = some (.cells (wcells l ++ tl).toArray 111 (0, 0))) (htl : tl.length = (c - l.length) * 3) (hnc : l.length ≤ c) (_hcm : c ≤ 9223372036854775807) (hlen : l.length ≤ 100000) (hh : HidAt pb pd b pl nx w) (n1 : pb ≠ g) (n2 : pd ≠ g) (n3 : b ≠ g)
    (hk : k < l.length) (_hk1 : hidB pl nx l[k] = true) (hk2 : ∀ j (hj : j < l.length), j ≠ k → hidB pl nx l[j] = false) (hi : idxW (hidB pl nx) l = k) (hw : WnsAt w (some ⟨g, 0, none⟩) l) :
    Calls Try.prog 86 #[.slice (some ⟨g, 0, none⟩) l.length c, .func (.func 85) #[] #[.pointer (some ⟨pb, 0, none⟩), .pointer (some ⟨pd, 0, none⟩)]] w fun e w' =>
      e = .returned (.slice (some ⟨g, 0, none⟩) (l.length - 1) c) ∧ (∃ cur : List Value, w'.heap[g]? = some (.cells cur.toArray 111 (0, 0)) ∧ cur.length = c * 3 ∧ cur.take ((l.length - 1) * 3) = wcells (l.eraseIdx k)) ∧ Only (fun i => i = g) w w' := by
  have HI := hidT hi
  have HG := hidT hg
  have HH := hidT hh
  have HW := hidT hw
  have HT := hidT htl
  have HK2 := hidT hk2
  clear hi hg hh hw htl hk2
  go_enter Try.func86, Try.ntmps86
  go_wp2_with fail
  refine (indexW_any pb pd b pl nx l _ c _ HW.out hlen HH.out).mono ?_
  rw [HI.out]
  rintro e w1 ⟨rfl, hb1⟩
  have hne : ((k : Int) == -1) = false := by rw [beq_eq_false_iff_ne]; omega
  go_wp2_with fail
  have HO1 : Hid (Only (fun i => i = g) w w1) := Only.of_below hb1
  have HG1 : Hid (w1.heap[g]? = some (.cells (wcells l ++ tl).toArray 111 (0, 0))) := by show _ = _; rw [hb1.block g (lt_of_heap HG.out)]; exact HG.out
  clear hb1
  go_loopw [5, 6] (fun i jv wr => ∃ m : Nat, k ≤ m ∧ m + 1 ≤ l.length ∧ jv = .int .i64 ((m : Int) + 1) ∧ i = .int .i64 m ∧ wr.heap[g]? = some (.cells (wcells (midW l k (m + 1)) ++ tl).toArray 111 (0, 0)) ∧ Only (fun i => i = g) w wr) (fun i _ _ => l.length - (intOf i).toNat)
  case atStart => exact ⟨k, Nat.le_refl _, hk, rfl, rfl, by rw [midW_first l k hk]; exact HG1.out, HO1.out⟩
  case round =>
    clear HG1 HO1
    obtain ⟨m, hm1, hm2, rfl, rfl, hgr, HO⟩ := hrel
    have HGR := hidT hgr
    have HOR := hidT HO
    have lg := lt_of_heap hgr
    have hml := midW_length l k (m + 1) hk (by omega) hm2
    have HML := hidT hml
    clear hgr HO hml
    by_cases hlt : m + 1 < l.length
    · have hma := midW_at l k (m + 1) hk (by omega) hlt
      have hms := hidT (midW_step l k (m + 1) hk (by omega) hlt)
      obtain ⟨k0, k1, k2⟩ := wcells_at (midW l k (m + 1)) (m + 1) (by rw [HML.out]; exact hlt)
      have hmx : (midW l k (m + 1))[m + 1]'(by rw [HML.out]; exact hlt) = l[m + 1] := by
        have := List.getElem?_eq_getElem (l := midW l k (m + 1)) (i := m + 1) (by rw [HML.out]; exact hlt)
        rw [this] at hma; exact Option.some.inj hma
      rw [hmx] at k0 k1 k2
      have hwl : (wcells (midW l k (m + 1))).length = l.length * 3 := by rw [wcells_length, HML.out]
      have c0 := (cell_of_heap HGR.out ((m + 1) * 3)).trans ((List.getElem?_append_left (by omega)).trans k0)
      have c1 := (cell_of_heap HGR.out ((m + 1) * 3 + 1)).trans ((List.getElem?_append_left (by omega)).trans k1)
      have c2 := (cell_of_heap HGR.out ((m + 1) * 3 + 2)).trans ((List.getElem?_append_left (by omega)).trans k2)
      have hnh := HK2.out (m + 1) hlt (by omega)
      have hhr := hidT (HH.out.frame HOR.out n1 n2 n3)
      have t1 : (m : Int) + 1 < (l.length : Int) := by omega
      have t2 : ((m : Int) + 1).toNat = m + 1 := by omega
      have HWL := hidT hwl
      clear hma hmx k0 k1 k2 hwl
      generalize hx : l[m + 1] = x at *
      have HX := hidT hx
      clear hx
      have T2 := hidT t2
      clear t2
      go_wp2_with fail
      have hq := hidden_any x pb pd b pl nx _ (hhr.out.later (below1 wr (.cells #[.int .i64 x.pl, .string x.data, .int .i64 x.bit] 111)))
      rw [hnh] at hq
      refine hq.mono ?_
      rintro e w2 ⟨rfl, hb2⟩
      have hbw := hidT (bthen (below1 wr (.cells #[.int .i64 x.pl, .string x.data, .int .i64 x.bit] 111)) hb2)
      have hg2 : w2.heap[g]? = some (.cells (wcells (midW l k (m + 1)) ++ tl).toArray 111 (0, 0)) := by rw [hbw.out.block g lg]; exact HGR.out
      have d0 := (hb2.cell (p := ⟨wr.heap.size, 0, none⟩) (by simp)).trans (show _ = some (.int .i64 x.pl) by simp)
      have d1 := (hb2.cell (p := ⟨wr.heap.size, 1, none⟩) (by simp)).trans (show _ = some (.string x.data) by simp)
      have d2 := (hb2.cell (p := ⟨wr.heap.size, 2, none⟩) (by simp)).trans (show _ = some (.int .i64 x.bit) by simp)
      have f0 := frozen_of_heap hg2 (m * 3)
      have f1 := frozen_of_heap hg2 (m * 3 + 1)
      have f2 := frozen_of_heap hg2 (m * 3 + 2)
      obtain ⟨k0, k1, k2⟩ := wcells_at (midW l k (m + 1)) m (by rw [HML.out]; omega)
      have e0 := (cell_of_heap hg2 (m * 3)).trans ((List.getElem?_append_left (by rw [HWL.out]; omega)).trans k0)
      have e1 := (cell_of_heap hg2 (m * 3 + 1)).trans ((List.getElem?_append_left (by rw [HWL.out]; omega)).trans k1)
      have e2 := (cell_of_heap hg2 (m * 3 + 2)).trans ((List.getElem?_append_left (by rw [HWL.out]; omega)).trans k2)
      generalize hy : (midW l k (m + 1))[m]'(by rw [HML.out]; omega) = y at *
      have HG2 := hidT hg2
      have hm0 : (m : Int) < (l.length : Int) := by omega
      clear hy k0 k1 k2 hg2 hq hb2 hhr hnh c0 c1 c2
      go_wp2
      go_roundw
      case rel =>
        refine ⟨m + 1, by omega, by omega, by go_num, by go_num, ?_, ?_⟩
        · rw [set_same (set_same (set_same HG2.out _ _) _ _) _ _, wcells_set _ x m (by rw [HML.out]; omega) tl]
          have := hms.out
          rw [Nat.add_sub_cancel] at this
          rw [this]
        · exact (((HOR.out.later hbw.out).setCell _ (Or.inl rfl) _).setCell _ (Or.inl rfl) _).setCell _ (Or.inl rfl) _
      case measure => simp [intOf]; omega
    · have hmn : l.length = m + 1 := by omega
      have t1 : ¬ (m : Int) + 1 < (l.length : Int) := by omega
      have hcl := (by rw [List.length_append, wcells_length, HML.out, HT.out]; omega : (wcells (midW l k (m + 1)) ++ tl).length = c * 3)
      obtain ⟨w2, hcr, G2, hb2⟩ := run_clear_gp (P := Try.prog) wr 99 111 0 _ 3 Try.underlying99 zeroW rfl (by decide) g (m * 3) 1 (c - m) _ 111 HGR.out (by omega) (by rw [hcl]; omega) (by omega)
      have hsl1 := fun w => sliceW_from g l.length c m w (by omega) hnc
      have hsl2 := fun w => sliceW_to g l.length c m w (by omega) hnc
      rw [show l.length - m = 1 by omega] at hsl1
      have HG2 := hidT (⟨G2, hb2, hcl⟩ : _ ∧ _ ∧ _)
      have HMN := hidT hmn
      clear G2 hb2 hcl hmn
      go_wp2
      go_ret
      obtain ⟨G2, hb2, hcl⟩ := HG2.out
      have hmn := HMN.out
      refine ⟨by rw [hmn]; rfl, ⟨_, G2, ?_, ?_⟩, HOR.out.grown hb2 (fun i e => Or.inl (by simpa using e.symm))⟩
      · rw [length_splice _ _ _ (by rw [hcl]; simp [Builtin.zeroCells, Value.cells]; omega), hcl]
      · have hm' : l.length - 1 = m := by omega
        rw [hm', take_splice_le _ _ _ _ (by rw [hcl]; omega) (Nat.le_refl _), List.take_append_of_le_length (by rw [wcells_length, HML.out]; omega), wcells_take]
        have := midW_last l k hk
        rw [hmn, Nat.add_sub_cancel] at this
        rw [this]
set_option maxHeartbeats 400000 in
theorem delW_no (pb pd b pl nx : Nat) (l : List Wn) (a : Option Addr) (c : Nat) (w : World) (hlen : l.length ≤ 100000) (hh : HidAt pb pd b pl nx w) (hi : idxW (hidB pl nx) l = -1) (hw : WnsAt w a l) :
    Calls Try.prog 86 #[.slice a l.length c, .func (.func 85) #[] #[.pointer (some ⟨pb, 0, none⟩), .pointer (some ⟨pd, 0, none⟩)]] w fun e w' => e = .returned (.slice a l.length c) ∧ Below w.heap.size w w' := by
  have HI := hidT hi
  have HW := hidT hw
  have HH := hidT hh
  clear hi hw hh
  go_enter Try.func86, Try.ntmps86
  go_wp2_with fail
  refine (indexW_any pb pd b pl nx l _ c _ HW.out hlen HH.out).mono ?_
  rw [HI.out]
  rintro e w1 ⟨rfl, hb1⟩
  go_wp2
  go_ret
  exact ⟨rfl, hb1⟩
theorem delW (pb pd b pl nx : Nat) (l : List Wn) (a : Option Addr) (c : Nat) (w : World) (h : w.ownsRow 0 111 3 (.slice a l.length c) l.length (wcells l)) (hlen : l.length ≤ 100000) (hn : (l.map Wn.key).Nodup) (hh : HidAt pb pd b pl nx w) (n1 : ¬ rowOf a pb) (n2 : ¬ rowOf a pd) (n3 : ¬ rowOf a b) :
    Calls Try.prog 86 #[.slice a l.length c, .func (.func 85) #[] #[.pointer (some ⟨pb, 0, none⟩), .pointer (some ⟨pd, 0, none⟩)]] w fun e w' =>
      e = .returned (.slice a (keepW pl nx l).length c) ∧ w'.ownsRow 0 111 3 (.slice a (keepW pl nx l).length c) (keepW pl nx l).length (wcells (keepW pl nx l)) ∧ Only (rowOf a) w w' := by
  rcases idxW_spec (hidB pl nx) l with ⟨hi, hno⟩ | ⟨k, hk, hi, hk1, hk2⟩
  · rw [keep_all hno]
    refine (delW_no pb pd b pl nx l a c w hlen hh hi (wns_of_own h)).mono ?_
    rintro e w' ⟨rfl, hb⟩
    refine ⟨rfl, own_frame h (fun g hg => hb.block g (h.lt g hg).2), Only.of_below hb⟩
  · have hk3 : ∀ j (hj : j < l.length), j ≠ k → hidB pl nx l[j] = false := fun j hj hne => by
      cases e : hidB pl nx l[j]
      · rfl
      · exact absurd (hid_once hn hj hk e hk1) hne
    rw [keep_erase hk hk1 hk3]
    have hel : (l.eraseIdx k).length = l.length - 1 := by rw [List.length_eraseIdx, if_pos hk]
    rcases h.2 with ⟨_, h0⟩ | ⟨g, cap, cur, hv, hg, hh', hnc, hcm, hcs, ht⟩
    · omega
    · simp only [Value.slice.injEq, true_and] at hv
      obtain ⟨rfl, rfl⟩ := hv
      have hcl : cur.toList.length = c * 3 := by rw [Array.length_toList]; exact hcs
      have ecur : cur.toList = wcells l ++ cur.toList.drop (l.length * 3) := by rw [← ht, List.take_append_drop]
      refine (delW_yes pb pd b pl nx l g c k (cur.toList.drop (l.length * 3)) w (by rw [← ecur, Array.toArray_toList]; exact hh') (by rw [List.length_drop, hcl]; omega) hnc (by unfold maxLen at hcm; omega) hlen hh (fun e => n1 ⟨_, rfl, e⟩) (fun e => n2 ⟨_, rfl, e⟩) (fun e => n3 ⟨_, rfl, e⟩) hk hk1 hk3 hi (wns_of_own h)).mono ?_
      rintro e w' ⟨rfl, ⟨cur', g', l', t'⟩, ho⟩
      refine ⟨by rw [hel], ⟨wcells_length _, Or.inr ⟨g, c, cur'.toArray, rfl, Nat.zero_le _, g', by omega, hcm, by simpa using l', by rw [hel]; simpa using t'⟩⟩, ho.mono (fun i e => ⟨_, rfl, e⟩)⟩
end Go.Proofs.Ythmeaclekedilac
/- A region that draws its order, of which one operation, d, is last and writes what others read: what holds of the world (S) till d comes up is enough to take the others first. -/
namespace Go.Proofs.Ythmeaclekedilac
section
variable {P : Program} {ops : Array Oper} {Q : Exit → Act → World → Prop} {S : World → Prop} {d : Nat}

def till (P : Program) (ops : Array Oper) (Q : Exit → Act → World → Prop) (S : World → Prop) (d : Nat) : Nat → Array Bool → Act → World → Prop
  | 0, ls, a, w => Region.ready .any ops ls = [] ∧ Q .normal a w
  | k + 1, ls, a, w => (Region.ready .any ops ls = [] → Q .normal a w) ∧ ∀ i ∈ Region.ready .any ops ls, wpOp P ops Q i (fun a' w' => (i ≠ d → S w') ∧ till P ops Q S d k (ls.setIfInBounds i true) a' w') a w
theorem any_of_till : ∀ (k : Nat) (ls : Array Bool) (a : Act) (w : World), till P ops Q S d k ls a w → wpAny P .any ops Q k ls a w
  | 0, _, _, _, h => h
  | k + 1, _, _, _, h => ⟨h.1, fun i hi => wpOp_mono (fun a' w' h' => any_of_till k _ a' w' h'.2) (h.2 i hi)⟩
theorem region_till {id : Nat} {a : Act} {w : World} (hm : P.follows .mixedOrders = true) (h : till P ops Q S d ops.size (Array.replicate ops.size false) a w.drew) : (Code.region id ops true).wp P Q a w :=
  wp_region_any hm (any_of_till _ _ _ _ h)
/-- d waits for i. -/
def waitsFor (ops : Array Oper) (d i : Nat) : Bool := match ops[d]? with | some o => o.after.any fun e => Region.binds .any e && e.on == i | none => false
theorem not_ready {i : Nat} {ls : Array Bool} (hw : waitsFor ops d i = true) (hi : i ∈ Region.ready .any ops ls) : d ∉ Region.ready .any ops ls := by
  intro hd
  obtain ⟨_, o, ho, hall⟩ := mem_ready.1 hd
  simp only [waitsFor, ho] at hw
  obtain ⟨e, he, hb⟩ := Array.any_eq_true'.1 hw
  simp only [Bool.and_eq_true, beq_iff_eq] at hb
  have h1 := hall e he hb.1
  have h0 := (mem_ready.1 hi).1
  rw [hb.2] at h1
  rcases Nat.lt_or_ge i ls.size with h' | h'
  · simp [h'] at h0 h1; rw [h0] at h1; cases h1
  · simp [Array.getElem?_eq_none h'] at h1
theorem till_first {i : Nat} {oi : Oper} {v : Value} (hi : ops[i]? = some oi) (hsel : ∀ (j : Nat) (o : Oper) cs b, ops[j]? = some o → o.op ≠ .select cs b) (hw : waitsFor ops d i = true)
    (hQ : ∀ c a w, Q (.panic c) (a.put oi.dst v) w → Q (.panic c) a w) : ∀ (k : Nat) (ls : Array Bool) (a : Act) (w : World),
      (∀ j oj, ops[j]? = some oj → j ≠ i → ls.getD j true = false → (∀ e ∈ oj.after, Region.binds .any e = true → e.on ≠ i) → oi.apart ops oj = true) →
      i ∈ Region.ready .any ops ls → YieldsIf P ops S oi v a → S w → till P ops Q S d k (ls.setIfInBounds i true) (a.put oi.dst v) w → till P ops Q S d (k + 1) ls a w := by
  intro k
  induction k with
  | zero =>
    intro ls a w _ hr hy hS H
    refine ⟨fun h => (by rw [h] at hr; cases hr), fun j hj => ?_⟩
    by_cases e : j = i
    · subst e; exact hy.wpOp hi hS ⟨fun _ => hS, H⟩
    · have := ready_mono hj e
      rw [H.1] at this; cases this
  | succ k ih =>
    intro ls a w hfree hr hy hS H
    refine ⟨fun h => (by rw [h] at hr; cases hr), fun j hj => ?_⟩
    by_cases e : j = i
    · subst e; exact hy.wpOp hi hS ⟨fun _ => hS, H⟩
    have jd : j ≠ d := fun e' => not_ready hw hr (e' ▸ hj)
    have h1 := H.2 j (ready_mono hj e)
    obtain ⟨hun, oj, hoj, hall⟩ := mem_ready.1 hj
    have hno : ∀ x ∈ oj.after, Region.binds .any x = true → x.on ≠ i := fun x hx hb he => by
      have h1 := hall x hx hb
      have h0 := (mem_ready.1 hr).1
      rw [he] at h1
      rcases Nat.lt_or_ge i ls.size with h' | h'
      · simp [h'] at h0 h1; rw [h0] at h1; cases h1
      · simp [Array.getElem?_eq_none h'] at h1
    have h2 := wpOp_putIf hoj (hfree j oj hoj e hun hno) (fun cs b => hsel i oi cs b hi) (fun cs b => hsel j oj cs b hoj) hQ hy h1
    refine wpOp_mono (fun a' w' h3 => ⟨fun _ => h3.2.1 jd, ih (ls.setIfInBounds j true) a' w' (fun m om hm hmi hmu hmn => hfree m om hm hmi ?_ hmn) (ready_mono hr (Ne.symm e)) h3.1 (h3.2.1 jd) ?_⟩) h2
    · by_cases hjm : j = m
      · subst hjm; exact hun
      · rw [getD_set_ne true hjm] at hmu; exact hmu
    · rw [Array.setIfInBounds_comm _ _ e]; exact h3.2.2
theorem till_take {i : Nat} {oi : Oper} {v : Value} {k : Nat} {ls : Array Bool} {a : Act} {w : World} (hi : ops[i]? = some oi) (hs : Region.noSelect ops = true) (hf : Region.free .any ops ls i = true) (hr : (Region.ready .any ops ls).contains i = true) (hw : waitsFor ops d i = true)
    (hQ : ∀ c a w, Q (.panic c) (a.put oi.dst v) w → Q (.panic c) a w) (hy : YieldsIf P ops S oi v a) (hS : S w) (h : till P ops Q S d k (ls.setIfInBounds i true) (a.put oi.dst v) w) : till P ops Q S d (k + 1) ls a w :=
  till_first hi (Region.noSelect_spec hs) hw hQ k ls a w (Region.free_spec hi hf) (by simpa using hr) hy hS h
/-- Only i may come up now. -/
theorem till_one {i : Nat} {oi : Oper} {k : Nat} {ls : Array Bool} {a : Act} {w : World} (hi : ops[i]? = some oi) (hr : Region.ready .any ops ls = [i])
    (h : ∀ K, (∀ a' w', (i ≠ d → S w') → till P ops Q S d k (ls.setIfInBounds i true) a' w' → K a' w') → if Region.wanted oi (yielded ops a.tmps) = true then Oper.wp P oi a w K Q else K (a.put oi.dst undef) w) : till P ops Q S d (k + 1) ls a w := by
  refine ⟨fun h0 => (by rw [hr] at h0; cases h0), fun j hj => ?_⟩
  rw [hr] at hj
  obtain rfl := List.mem_singleton.1 hj
  exact wpOp_step hi (fun K' hK => h K' (fun a w h1 h2 => hK a w ⟨h1, h2⟩))
/-- i or j may come up now. -/
theorem till_two {i j : Nat} {oi oj : Oper} {k : Nat} {ls : Array Bool} {a : Act} {w : World} (hi : ops[i]? = some oi) (hj : ops[j]? = some oj) (hr : Region.ready .any ops ls = [i, j])
    (h1 : ∀ K, (∀ a' w', (i ≠ d → S w') → till P ops Q S d k (ls.setIfInBounds i true) a' w' → K a' w') → if Region.wanted oi (yielded ops a.tmps) = true then Oper.wp P oi a w K Q else K (a.put oi.dst undef) w)
    (h2 : ∀ K, (∀ a' w', (j ≠ d → S w') → till P ops Q S d k (ls.setIfInBounds j true) a' w' → K a' w') → if Region.wanted oj (yielded ops a.tmps) = true then Oper.wp P oj a w K Q else K (a.put oj.dst undef) w) : till P ops Q S d (k + 1) ls a w := by
  refine ⟨fun h0 => (by rw [hr] at h0; cases h0), fun x hx => ?_⟩
  rw [hr] at hx
  rcases List.mem_cons.1 hx with rfl | hx
  · exact wpOp_step hi (fun K' hK => h1 K' (fun a w h1 h2 => hK a w ⟨h1, h2⟩))
  · obtain rfl := List.mem_singleton.1 hx
    exact wpOp_step hj (fun K' hK => h2 K' (fun a w h1 h2 => hK a w ⟨h1, h2⟩))
theorem till_done {ls : Array Bool} {a : Act} {w : World} (hr : Region.ready .any ops ls = []) (h : Q .normal a w) : ∀ k, till P ops Q S d k ls a w
  | 0 => ⟨hr, h⟩
  | _ + 1 => ⟨fun _ => h, by rw [hr]; simp⟩
end
end Go.Proofs.Ythmeaclekedilac
/- A device: write. -/
namespace Go.Proofs.Ythmeaclekedilac
open Go.RowKit Go.BigFrame
attribute [local go_sem] Later.cell Later.frozen

def Dl.write (d : Dl) (p : Nat) (s : ByteArray) : Dl := { d with now := d.now.set p s, wr := keepW p d.next d.wr ++ [⟨p, s, d.next⟩], next := (d.next + 1) % 64 }
theorem Rq.Off.mono {F F' : Nat → Prop} {r : Rq} (h : r.Off F) (hF : ∀ k, F' k → F k) : r.Off F' := ⟨fun he a ha hk => h.1 he a ha (hF _ hk), fun he a ha hk => h.2 he a ha (hF _ hk)⟩
/-- One cell of the device's block is another. -/
theorem DevAt.setB {b : Nat} {d d' : Dl} {a : An} {w : World} (h : DevAt b d a w) (j : Nat) (v : Value) (hc : (d.cells a).set j v = d'.cells a) (e1 : d'.wr = d.wr) (e2 : d'.busy = d.busy) (n32 : d'.now.length = 32) (g32 : d'.good.length = 32) (nxt : d'.next < 64) : DevAt b d' a (w.setCell ⟨b, j, none⟩ v) where
  n32 := n32
  g32 := g32
  blk := by rw [set_same h.blk, hc]
  wrow := by
    rw [e1]
    exact own_frame h.wrow fun g hg => by
      obtain ⟨p, hp, rfl⟩ := ownBlock_slice.1 hg
      exact set_other _ _ (h.sepw p hp)
  brow := by
    rw [e2]
    exact own_frame h.brow fun g hg => by
      obtain ⟨p, hp, rfl⟩ := ownBlock_slice.1 hg
      exact set_other _ _ (h.sepb p hp)
  sepw := h.sepw
  sepb := h.sepb
  sepwb := h.sepwb
  reqs := fun r hr => by
    rw [e2] at hr
    have := h.reqs r hr
    exact ⟨this.1.frame (F := fun k => k = b) (this.2.mono fun k hk => Or.inl hk) ((Only.refl (fun k => k = b) w).setCell ⟨b, j, none⟩ (Or.inl rfl) v), this.2⟩
  wfin := by rw [e1]; exact h.wfin
  nod := by rw [e1]; exact h.nod
  blen := by rw [e2]; exact h.blen
  nxt := nxt
theorem cells_setNow (d : Dl) (a : An) (k : Nat) (s : ByteArray) (h1 : d.now.length = 32) (hk : k < 32) : (d.cells a).set k (.string s) = ({ d with now := d.now.set k s } : Dl).cells a := by
  rw [Dl.cells, List.append_assoc, List.set_append_left _ _ (by rw [strV_length]; omega), Dl.cells, List.append_assoc]
  simp [strV, List.map_set]
theorem cells_set65 (d : Dl) (a : An) (n : Nat) (h1 : d.now.length = 32) (h2 : d.good.length = 32) : (d.cells a).set 65 (.int .i64 n) = ({ d with next := n } : Dl).cells a := by
  rw [Dl.cells, List.set_append_right _ _ (by simp [strV_length, h1, h2])]
  simp [strV_length, h1, h2, Dl.cells]
theorem cells_set64 (d : Dl) (a : An) (l : List Wn) (x : Option Addr) (c : Nat) (h1 : d.now.length = 32) (h2 : d.good.length = 32) : (d.cells a).set 64 (.slice x l.length c) = ({ d with wr := l } : Dl).cells { a with wa := x, wc := c } := by
  rw [Dl.cells, List.set_append_right _ _ (by simp [strV_length, h1, h2])]
  simp [strV_length, h1, h2, Dl.cells]
theorem wp_worldD {P : Program} {Q : Exit → Act → World → Prop} {a : Act} {c : Code} {w : World} (R : World → Prop) (h : R w) (k : ∀ w', R w' → c.wp P Q a w') : c.wp P Q a w := k w h
theorem step_call2 {P : Program} {ops : Array Oper} {o : Oper} {a : Act} {w : World} {K : Act → World → Prop} {Q : Exit → Act → World → Prop} {E : Prop}
    (hg : o.guard = none) (f : FuncId) (x1 x2 : Nat) (t1 t2 : TypeId) (hop : o.op = Op.call { callee := Callee.value (.func f), args := #[.tmp x1, .tmp x2], argTypes := #[t1, t2] }) (eg : ∀ args w, (callFunc f args).run P w = .ok (.enter f args) w)
    (v1 v2 : Value) (e1 : a.tmps[x1]?.getD undef = v1) (e2 : a.tmps[x2]?.getD undef = v2) (r : Value) (S : World → Prop) (hc : Calls P f #[v1, v2] w fun e w' => e = .returned r ∧ S w') (h : ∀ w', S w' → K (a.put o.dst r) w') :
    if Region.wanted o (yielded ops a.tmps) = true then Oper.wp P o a w K Q else E := by
  have hw : Region.wanted o (yielded ops a.tmps) = true := by simp [Region.wanted, hg]
  rw [if_pos hw]
  unfold Oper.wp
  simp [execOp, hop, resolve, invoke, e1, e2, eg, go_sem]
  refine hc.mono ?_
  rintro _ w' ⟨rfl, hs⟩
  exact h w' hs
theorem kept3 {b q : Nat} {d : Dl} {a : An} {w X w2 : World} {p : Nat} (h : DevAt b d a w) (hX : Below w.heap.size w X) (hO : Only (rowOf a.wa) X w2) (k1 : w.cell? ⟨q, 0, none⟩ = some (.pointer (some ⟨b, 0, none⟩))) (k2 : w.cell? ⟨q + 1, 0, none⟩ = some (.int .i64 p)) (n1 : ¬ rowOf a.wa q) (n2 : ¬ rowOf a.wa (q + 1)) (n3 : ¬ rowOf a.wa b) :
    w2.cell? ⟨q, 0, none⟩ = some (.pointer (some ⟨b, 0, none⟩)) ∧ w2.cell? ⟨q + 1, 0, none⟩ = some (.int .i64 p) ∧ w2.cell? ⟨b, 64, none⟩ = some (.slice a.wa d.wr.length a.wc) ∧ w2.cell? ⟨b, 65, none⟩ = some (.int .i64 d.next) ∧ w2.frozen? ⟨b, 64, none⟩ = false ∧ q + 1 < w2.heap.size ∧ b < w2.heap.size := by
  have l1 := lt_of_cell k1
  have l2 := lt_of_cell k2
  have hs := hX.size
  have hs2 := hO.size
  have lb := h.lt
  refine ⟨?_, ?_, ?_, ?_, ?_, by omega, by omega⟩
  · rw [hO.cell (p := ⟨q, 0, none⟩) (show q < _ by omega) n1, hX.cell (p := ⟨q, 0, none⟩) l1]; exact k1
  · rw [hO.cell (p := ⟨q + 1, 0, none⟩) (show q + 1 < _ by omega) n2, hX.cell (p := ⟨q + 1, 0, none⟩) l2]; exact k2
  · rw [hO.cell (p := ⟨b, 64, none⟩) (show b < _ by omega) n3, hX.cell (p := ⟨b, 64, none⟩) lb]; exact h.c64
  · rw [hO.cell (p := ⟨b, 65, none⟩) (show b < _ by omega) n3, hX.cell (p := ⟨b, 65, none⟩) lb]; exact h.c65
  · rw [hO.frozen (p := ⟨b, 64, none⟩) (show b < _ by omega) n3, hX.frozen (p := ⟨b, 64, none⟩) lb]; exact h.fz 64
theorem rowOf_own {a : Option Addr} {n c k : Nat} : (Value.slice a n c).ownBlock = some k ↔ rowOf a k := ownBlock_slice
/-- The row of what was written is another one, in its old place or a new block. -/
theorem DevAt.rewritten {b : Nat} {d : Dl} {a : An} {w w3 : World} (h : DevAt b d a w) (hO : Only (rowOf a.wa) w w3) (l : List Wn) {v : Value} (hown : w3.ownsRow 0 111 3 v l.length (wcells l)) (hv : ∀ g, v.ownBlock = some g → rowOf a.wa g ∨ w.heap.size ≤ g)
    (hf : ∀ x ∈ l, x.pl < 32 ∧ x.bit < 64) (hn : (l.map Wn.key).Nodup) :
    ∃ x c, v = .slice x l.length c ∧ DStep b d a { d with wr := l } { a with wa := x, wc := c } w (w3.setCell ⟨b, 64, none⟩ v) := by
  obtain ⟨x, c, rfl, _⟩ := slice_of_own hown
  have hlt := h.lt
  have nb : ¬ rowOf a.wa b := fun ⟨q, hq, e⟩ => h.sepw q hq e.symm
  have e3 : w3.heap[b]? = some (.cells (d.cells a).toArray 101 (0, 0)) := by
    rw [hO.block b hlt nb]; exact h.blk
  have xb : ∀ p, x = some p → p.block ≠ b := fun p hp e => by
    rcases hv p.block (ownBlock_slice.2 ⟨p, hp, rfl⟩) with ⟨q, hq, e'⟩ | h'
    · exact h.sepw q hq (by omega)
    · omega
  have hon : Only (a.foot b) w (w3.setCell ⟨b, 64, none⟩ (.slice x l.length c)) :=
    (hO.mono (F' := a.foot b) (fun i hi => Or.inr (Or.inl hi))).setCell ⟨b, 64, none⟩ (Or.inl (Or.inl rfl)) _
  have hft : ∀ k, ({ a with wa := x, wc := c } : An).foot b k → a.foot b k ∨ w.heap.size ≤ k := by
    rintro k (rfl | ⟨p, hp, rfl⟩ | ⟨p, hp, rfl⟩)
    · exact Or.inl (Or.inl rfl)
    · rcases hv p.block (ownBlock_slice.2 ⟨p, hp, rfl⟩) with h' | h'
      · exact Or.inl (Or.inr (Or.inl h'))
      · exact Or.inr (by omega)
    · exact Or.inl (Or.inr (Or.inr ⟨p, hp, rfl⟩))
  refine ⟨x, c, rfl, ⟨?_, hon, hft⟩⟩
  exact {
    n32 := h.n32
    g32 := h.g32
    blk := by rw [set_same e3, cells_set64 d a l x c h.n32 h.g32]
    wrow := own_frame hown fun g hg' => by
      obtain ⟨p, hp, rfl⟩ := ownBlock_slice.1 hg'
      exact set_other _ _ (xb p hp)
    brow := own_frame h.brow fun g hg' => by
      obtain ⟨p, hp, rfl⟩ := ownBlock_slice.1 hg'
      have hpl := h.blt p hp
      rw [set_other _ _ (h.sepb p hp), hO.block _ hpl]
      rintro ⟨q, hq, e⟩
      exact h.sepwb q p hq hp e.symm
    sepw := xb
    sepb := h.sepb
    sepwb := fun p q hp hq e => by
      rcases hv p.block (ownBlock_slice.2 ⟨p, hp, rfl⟩) with ⟨p', hp', e'⟩ | h'
      · exact h.sepwb p' q hp' hq (by omega)
      · have := h.blt q hq; omega
    reqs := fun r hr' => ⟨(h.reqs r hr').1.frame (h.reqs r hr').2 hon, (h.reqs r hr').2.step (h.reqs r hr').1 hft⟩
    wfin := hf
    nod := hn
    blen := h.blen
    nxt := h.nxt }
theorem kept64 {b : Nat} {d : Dl} {a : An} {w w3 : World} (h : DevAt b d a w) (hO : Only (rowOf a.wa) w w3) : w3.cell? ⟨b, 64, none⟩ = some (.slice a.wa d.wr.length a.wc) ∧ w3.frozen? ⟨b, 64, none⟩ = false ∧ b < w3.heap.size := by
  have nb : ¬ rowOf a.wa b := fun ⟨q, hq, e⟩ => h.sepw q hq e.symm
  have hs := hO.size
  have hl := h.lt
  exact ⟨by rw [hO.cell (p := ⟨b, 64, none⟩) hl nb]; exact h.c64, by rw [hO.frozen (p := ⟨b, 64, none⟩) hl nb]; exact h.fz 64, by omega⟩
theorem wcells_snoc (l : List Wn) (x : Wn) : wcells (l ++ [x]) = wcells l ++ [.int .i64 x.pl, .string x.data, .int .i64 x.bit] := by rw [wcells_append]; rfl
theorem wroteAt {a : Option Addr} {n c n' c' : Nat} {x : Option Addr} {B W : Nat} (hv : (Value.slice x n' c').ownBlock = (Value.slice a n c).ownBlock ∨ (Value.slice x n' c').ownBlock = some W) {g : Nat} (hg : (Value.slice x n' c').ownBlock = some g) (hB : B ≤ W) : rowOf a g ∨ B ≤ g := by
  rcases hv with h | h
  · rw [h] at hg; exact Or.inl (rowOf_own.1 hg)
  · rw [h] at hg; cases hg; exact Or.inr hB
theorem newRowKept {w w2 : World} {F : Nat → Prop} {n : Nat} (hn : w.heap.size = n) (vs : List Value) (T : TypeId) (hO : Only F (w.alloc (.cells vs.toArray T)) w2) (hF : ¬ F n) (j : Nat) (u : Value) (h : vs[j]? = some u) : w2.cell? (Addr.add ⟨n, 0, none⟩ j) = some u := by
  have := newRowAt hn vs T j u h
  rw [Addr.add_mid] at this ⊢
  rw [hO.cell (p := ⟨n, 0 + j, none⟩) (by simp [hn]) hF]
  exact this
theorem newRowKeptD {w w2 : World} {F : Nat → Prop} {n : Nat} (hn : w.heap.size = n) (vs : List Value) (T : TypeId) (hO : Only F (w.alloc (.cells vs.toArray T)).drew w2) (hF : ¬ F n) (j : Nat) (u : Value) (h : vs[j]? = some u) : w2.cell? (Addr.add ⟨n, 0, none⟩ j) = some u :=
  newRowKept hn vs T ⟨hO.os, hO.tape, hO.output, hO.size, hO.block⟩ hF j u h
def Tri (q b p nx : Nat) (sl : Value) (w : World) : Prop := w.cell? ⟨q, 0, none⟩ = some (.pointer (some ⟨b, 0, none⟩)) ∧ w.cell? ⟨q + 1, 0, none⟩ = some (.int .i64 p) ∧ w.cell? ⟨b, 65, none⟩ = some (.int .i64 nx) ∧ w.cell? ⟨b, 64, none⟩ = some sl ∧ w.frozen? ⟨b, 64, none⟩ = false
theorem Tri.drew {q b p nx : Nat} {sl : Value} {w : World} (h : Tri q b p nx sl w) : Tri q b p nx sl w.drew := h
theorem Tri.only {F : Nat → Prop} {q b p nx : Nat} {sl : Value} {w w' : World} (h : Tri q b p nx sl w) (hO : Only F w w') (n1 : ¬ F q) (n2 : ¬ F (q + 1)) (n3 : ¬ F b) : Tri q b p nx sl w' := by
  obtain ⟨h1, h2, h3, h4, h5⟩ := h
  have l1 := lt_of_cell h1
  have l2 := lt_of_cell h2
  have l3 := lt_of_cell h3
  exact ⟨by rw [hO.cell (p := ⟨q, 0, none⟩) l1 n1]; exact h1, by rw [hO.cell (p := ⟨q + 1, 0, none⟩) l2 n2]; exact h2, by rw [hO.cell (p := ⟨b, 65, none⟩) l3 n3]; exact h3, (hO.cell (p := ⟨b, 64, none⟩) l3 n3).trans h4, by rw [hO.frozen (p := ⟨b, 64, none⟩) l3 n3]; exact h5⟩
theorem Tri.alloc {q b p nx : Nat} {sl : Value} {w : World} (h : Tri q b p nx sl w) (o : Obj) : Tri q b p nx sl (w.alloc o) := h.only (F := fun _ => False) ((Only.refl _ _).alloc o) (fun e => e) (fun e => e) (fun e => e)
theorem keep_fin {l : List Wn} {p n : Nat} {s : ByteArray} (h : ∀ x ∈ l, x.pl < 32 ∧ x.bit < 64) (hp : p < 32) (hn : n < 64) : ∀ x ∈ keepW p n l ++ [⟨p, s, n⟩], x.pl < 32 ∧ x.bit < 64 := by
  intro x hx
  rcases List.mem_append.1 hx with hx | hx
  · exact h x (List.mem_filter.1 hx).1
  · obtain rfl := List.mem_singleton.1 hx
    exact ⟨hp, hn⟩
theorem keep_nod {l : List Wn} {p n : Nat} {s : ByteArray} (h : ∀ x ∈ l, x.pl < 32 ∧ x.bit < 64) (hn : n < 64) (hd : (l.map Wn.key).Nodup) : ((keepW p n l ++ [(⟨p, s, n⟩ : Wn)]).map Wn.key).Nodup := by
  rw [List.map_append, List.nodup_append]
  refine ⟨hd.sublist (List.filter_sublist.map _), by simp, ?_⟩
  intro k hk k' hk'
  simp only [List.map_cons, List.map_nil, List.mem_singleton] at hk'
  subst hk'
  obtain ⟨x, hx, rfl⟩ := List.mem_map.1 hk
  have h1 := List.mem_filter.1 hx
  have h2 := h x h1.1
  simp only [Wn.key]
  intro e
  have : hidB p n x = true := by simp only [hidB, Bool.and_eq_true, beq_iff_eq]; omega
  simp [this] at h1
theorem next_mod (n : Nat) : ((n : Int) + 1).tmod 64 = (((n + 1) % 64 : Nat) : Int) := by rw [Int.tmod_eq_emod_of_nonneg (by omega)]; omega
theorem write_done {b : Nat} {d d1 d2 : Dl} {a a2 : An} {p : Nat} {s : ByteArray} {w wK wM : World} (hd1 : d1 = { d with now := d.now.set p s }) (hd2 : d2 = { d1 with wr := keepW p d1.next d1.wr ++ [⟨p, s, d1.next⟩] }) (hK : DevAt b d1 a wK) (hO : Only (a.foot b) w wK) (h : DStep b d1 a d2 a2 wK wM) : DStep b d a (d.write p s) a2 w (wM.setCell ⟨b, 65, none⟩ (.int .i64 ((d1.next + 1) % 64 : Nat))) := by
  have h1 : DStep b d a d1 a w wK := ⟨hK, hO, fun k hk => Or.inl hk⟩
  have h2 := h1.trans h
  refine h2.trans ⟨?_, (Only.refl (a2.foot b) wM).setCell ⟨b, 65, none⟩ (Or.inl (Or.inl rfl)) _, fun k hk => Or.inl hk⟩
  have e : d.write p s = { d2 with next := (d1.next + 1) % 64 } := by subst hd2; subst hd1; rfl
  rw [e]
  exact h.dev.setB 65 _ (cells_set65 d2 a2 _ h.dev.n32 h.dev.g32) rfl rfl h.dev.n32 h.dev.g32 (Nat.mod_lt _ (by omega))
theorem infoW : (Try.prog.info? 111).map (fun i => (i.zero, i.size, i.bytes)) = some (some (.agg #[.int .i64 0, .string ByteArray.empty, .int .i64 0]), 3, 32) := by kernel_rfl
set_option linter.unusedSimpArgs false in
set_option maxRecDepth 100000 in
set_option maxHeartbeats 2000000 in
theorem write_any (b : Nat) (d : Dl) (a : An) (p : Nat) (s : ByteArray) (w : World) (h : DevAt b d a w) (hp : p < 32) :
    Calls Try.prog 76 #[.pointer (some ⟨b, 0, none⟩), .int .i64 p, .string s] w fun e w' => ∃ a', e = .returned (.tuple #[]) ∧ DStep b d a (d.write p s) a' w w' := by
  have hl := h.lt
  have cN := h.cNow p hp
  have fN := h.fz p
  have p1 : (p : Int) < 32 := by omega
  have p2 : (0 : Int) ≤ (p : Int) := by omega
  have HD := hidT h
  clear h
  go_enter Try.func76, Try.ntmps76
  go_wp2_with fail
  go_region
  go_wp2_with fail
  obtain ⟨d1, hd1⟩ : ∃ d1 : Dl, d1 = { d with now := d.now.set p s } := ⟨_, rfl⟩
  have HD1 := hidT hd1
  clear hd1
  refine wp_worldD (fun wK => DevAt b d1 a wK ∧ wK.cell? ⟨w.heap.size, 0, none⟩ = some (.pointer (some ⟨b, 0, none⟩)) ∧ wK.cell? ⟨w.heap.size + 1, 0, none⟩ = some (.int .i64 p) ∧ Only (a.foot b) w wK) ⟨?_, by simp [go_sem], by simp [go_sem], ?_⟩ ?_
  · rw [HD1.out]
    exact (((HD.out.setB p (.string s) (cells_setNow d a p s HD.out.n32 hp) rfl rfl (by simpa using HD.out.n32) HD.out.g32 HD.out.nxt).alloc _).alloc _).later (Below.refl _ _).drew
  · exact ((((Only.refl (a.foot b) w).setCell ⟨b, p, none⟩ (Or.inl (Or.inl rfl)) (.string s)).alloc _).alloc _).drew
  rintro wK ⟨hK, k1, k2, hO⟩
  have HK := hidT hK
  have HO := hidT hO
  have k3 := hK.c64
  have k4 := hK.c65
  have lb := hK.lt
  have l1 := lt_of_cell k1
  have l2 := lt_of_cell k2
  clear hK hO cN fN p1 p2
  have eg : ∀ args w, Sem.run Try.prog (callFunc 86 args) w = .ok (.enter 86 args) w := by intro args w; go_simp
  have hwl := HK.out.wlen
  have nr : ∀ k, k = w.heap.size ∨ k = w.heap.size + 1 ∨ k = b → ¬ rowOf a.wa k := by
    rintro k hk ⟨q, hq, rfl⟩
    have h1 := HD.out.wlt q hq
    have h2 := HD.out.sepw q hq
    omega
  have NR := hidT nr
  have HHK : Hid (HidAt (w.heap.size + 1) w.heap.size b p d1.next wK) := ⟨k2, k1, k4⟩
  have NRK : Hid (¬ rowOf a.wa wK.heap.size) := by
    rintro ⟨q, hq, e⟩
    have := HK.out.wlt q hq
    omega
  clear nr
  obtain ⟨iW, hi, hz0, hz1, hz2⟩ := pluck infoW
  have HI := hidT (⟨hi, hz0, hz1, hz2⟩ : Try.prog.info? 111 = some iW ∧ _ ∧ _ ∧ _)
  have HKL : Hid ((keepW p d1.next d1.wr).length ≤ 2048) := Nat.le_trans (List.length_filter_le _ _) hwl
  clear hi hz0 hz1 hz2
  have T0 : Tri w.heap.size b p d1.next (.slice a.wa d1.wr.length a.wc) wK := ⟨k1, k2, k4, k3, HK.out.fz 64⟩
  have HS : Hid (Tri w.heap.size b p d1.next (.slice a.wa d1.wr.length a.wc) wK.drew) := T0
  refine region_till (S := Tri w.heap.size b p d1.next (.slice a.wa d1.wr.length a.wc)) (d := 18) (by kernel_rfl) ?_
  refine till_take (i := 0) (v := ?_) rfl (by kernel_rfl) (by kernel_rfl) (by kernel_rfl) (by kernel_rfl) (fun _ _ _ h => h) (Or.inl ⟨by rfl, ?_⟩) HS.out ?_; rotate_left; (focus (intro w0 hSw; obtain ⟨s1, s2, s3, s4, s5⟩ := hSw; go_simp; (try with_reducible rfl))); (try simp only [Act.put, List.getElem_toArray, List.getElem_cons_succ, List.getElem_cons_zero, List.setIfInBounds_toArray, List.set_cons_zero, List.set_cons_succ])
  refine till_take (i := 1) (v := ?_) rfl (by kernel_rfl) (by kernel_rfl) (by kernel_rfl) (by kernel_rfl) (fun _ _ _ h => h) (Or.inl ⟨by rfl, ?_⟩) HS.out ?_; rotate_left; (focus (intro w0 hSw; obtain ⟨s1, s2, s3, s4, s5⟩ := hSw; go_simp; (try with_reducible rfl))); (try simp only [Act.put, List.getElem_toArray, List.getElem_cons_succ, List.getElem_cons_zero, List.setIfInBounds_toArray, List.set_cons_zero, List.set_cons_succ])
  refine till_take (i := 2) (v := ?_) rfl (by kernel_rfl) (by kernel_rfl) (by kernel_rfl) (by kernel_rfl) (fun _ _ _ h => h) (Or.inl ⟨by rfl, ?_⟩) HS.out ?_; rotate_left; (focus (intro w0 hSw; obtain ⟨s1, s2, s3, s4, s5⟩ := hSw; go_simp; (try with_reducible rfl))); (try simp only [Act.put, List.getElem_toArray, List.getElem_cons_succ, List.getElem_cons_zero, List.setIfInBounds_toArray, List.set_cons_zero, List.set_cons_succ])
  refine till_take (i := 3) (v := ?_) rfl (by kernel_rfl) (by kernel_rfl) (by kernel_rfl) (by kernel_rfl) (fun _ _ _ h => h) (Or.inl ⟨by rfl, ?_⟩) HS.out ?_; rotate_left; (focus (intro w0 hSw; obtain ⟨s1, s2, s3, s4, s5⟩ := hSw; go_simp; (try with_reducible rfl))); (try simp only [Act.put, List.getElem_toArray, List.getElem_cons_succ, List.getElem_cons_zero, List.setIfInBounds_toArray, List.set_cons_zero, List.set_cons_succ])
  refine till_take (i := 4) (v := ?_) rfl (by kernel_rfl) (by kernel_rfl) (by kernel_rfl) (by kernel_rfl) (fun _ _ _ h => h) (Or.inl ⟨by rfl, ?_⟩) HS.out ?_; rotate_left; (focus (intro w0 hSw; obtain ⟨s1, s2, s3, s4, s5⟩ := hSw; go_simp; (try with_reducible rfl))); (try simp only [Act.put, List.getElem_toArray, List.getElem_cons_succ, List.getElem_cons_zero, List.setIfInBounds_toArray, List.set_cons_zero, List.set_cons_succ])
  refine till_take (i := 5) (v := ?_) rfl (by kernel_rfl) (by kernel_rfl) (by kernel_rfl) (by kernel_rfl) (fun _ _ _ h => h) (Or.inl ⟨by rfl, ?_⟩) HS.out ?_; rotate_left; (focus (intro w0 hSw; obtain ⟨s1, s2, s3, s4, s5⟩ := hSw; go_simp; (try with_reducible rfl))); (try simp only [Act.put, List.getElem_toArray, List.getElem_cons_succ, List.getElem_cons_zero, List.setIfInBounds_toArray, List.set_cons_zero, List.set_cons_succ])
  refine till_take (i := 7) (v := ?_) rfl (by kernel_rfl) (by kernel_rfl) (by kernel_rfl) (by kernel_rfl) (fun _ _ _ h => h) (Or.inl ⟨by rfl, ?_⟩) HS.out ?_; rotate_left; (focus (intro w0 hSw; obtain ⟨s1, s2, s3, s4, s5⟩ := hSw; go_simp; (try with_reducible rfl))); (try simp only [Act.put, List.getElem_toArray, List.getElem_cons_succ, List.getElem_cons_zero, List.setIfInBounds_toArray, List.set_cons_zero, List.set_cons_succ])
  refine till_take (i := 8) (v := ?_) rfl (by kernel_rfl) (by kernel_rfl) (by kernel_rfl) (by kernel_rfl) (fun _ _ _ h => h) (Or.inl ⟨by rfl, ?_⟩) HS.out ?_; rotate_left; (focus (intro w0 hSw; obtain ⟨s1, s2, s3, s4, s5⟩ := hSw; go_simp; (try with_reducible rfl))); (try simp only [Act.put, List.getElem_toArray, List.getElem_cons_succ, List.getElem_cons_zero, List.setIfInBounds_toArray, List.set_cons_zero, List.set_cons_succ])
  refine till_take (i := 9) (v := ?_) rfl (by kernel_rfl) (by kernel_rfl) (by kernel_rfl) (by kernel_rfl) (fun _ _ _ h => h) (Or.inl ⟨by rfl, ?_⟩) HS.out ?_; rotate_left; (focus (intro w0 hSw; obtain ⟨s1, s2, s3, s4, s5⟩ := hSw; go_simp; (try with_reducible rfl))); (try simp only [Act.put, List.getElem_toArray, List.getElem_cons_succ, List.getElem_cons_zero, List.setIfInBounds_toArray, List.set_cons_zero, List.set_cons_succ])
  refine till_take (i := 10) (v := ?_) rfl (by kernel_rfl) (by kernel_rfl) (by kernel_rfl) (by kernel_rfl) (fun _ _ _ h => h) (Or.inl ⟨by rfl, ?_⟩) HS.out ?_; rotate_left; (focus (intro w0 hSw; obtain ⟨s1, s2, s3, s4, s5⟩ := hSw; go_simp; (try with_reducible rfl))); (try simp only [Act.put, List.getElem_toArray, List.getElem_cons_succ, List.getElem_cons_zero, List.setIfInBounds_toArray, List.set_cons_zero, List.set_cons_succ])
  refine till_take (i := 11) (v := ?_) rfl (by kernel_rfl) (by kernel_rfl) (by kernel_rfl) (by kernel_rfl) (fun _ _ _ h => h) (Or.inl ⟨by rfl, ?_⟩) HS.out ?_; rotate_left; (focus (intro w0 hSw; obtain ⟨s1, s2, s3, s4, s5⟩ := hSw; go_simp; (try with_reducible rfl))); (try simp only [Act.put, List.getElem_toArray, List.getElem_cons_succ, List.getElem_cons_zero, List.setIfInBounds_toArray, List.set_cons_zero, List.set_cons_succ])
  refine till_take (i := 12) (v := ?_) rfl (by kernel_rfl) (by kernel_rfl) (by kernel_rfl) (by kernel_rfl) (fun _ _ _ h => h) (Or.inl ⟨by rfl, ?_⟩) HS.out ?_; rotate_left; (focus (intro w0 hSw; obtain ⟨s1, s2, s3, s4, s5⟩ := hSw; go_simp; (try with_reducible rfl))); (try simp only [Act.put, List.getElem_toArray, List.getElem_cons_succ, List.getElem_cons_zero, List.setIfInBounds_toArray, List.set_cons_zero, List.set_cons_succ])
  refine till_take (i := 13) (v := ?_) rfl (by kernel_rfl) (by kernel_rfl) (by kernel_rfl) (by kernel_rfl) (fun _ _ _ h => h) (Or.inl ⟨by rfl, ?_⟩) HS.out ?_; rotate_left; (focus (intro w0 hSw; obtain ⟨s1, s2, s3, s4, s5⟩ := hSw; go_simp; (try with_reducible rfl))); (try simp only [Act.put, List.getElem_toArray, List.getElem_cons_succ, List.getElem_cons_zero, List.setIfInBounds_toArray, List.set_cons_zero, List.set_cons_succ])
  refine till_two (i := 6) (j := 14) rfl rfl (by kernel_rfl) ?_ ?_
  · intro K hK
    refine step_call2 rfl 86 18 19 99 132 rfl eg (.slice a.wa d1.wr.length a.wc) (.func (.func 85) #[] #[.pointer (some ⟨w.heap.size + 1, 0, none⟩), .pointer (some ⟨w.heap.size, 0, none⟩)]) rfl rfl (.slice a.wa (keepW p d1.next d1.wr).length a.wc) (fun w' => w'.ownsRow 0 111 3 (.slice a.wa (keepW p d1.next d1.wr).length a.wc) (keepW p d1.next d1.wr).length (wcells (keepW p d1.next d1.wr)) ∧ Only (rowOf a.wa) _ w') (delW (w.heap.size + 1) w.heap.size b p d1.next d1.wr a.wa a.wc _ (HK.out.later (by repeat (first | with_reducible exact Below.refl _ _ | with_reducible refine balloc ?_ _ | with_reducible refine bdrew ?_ | with_reducible refine bset' ?_ (by omega) _ | with_reducible refine bthen ?_ (by assumption)))).wrow (by omega) HK.out.nod (HHK.out.later (by repeat (first | with_reducible exact Below.refl _ _ | with_reducible refine balloc ?_ _ | with_reducible refine bdrew ?_ | with_reducible refine bset' ?_ (by omega) _ | with_reducible refine bthen ?_ (by assumption)))) (NR.out _ (by omega)) (NR.out _ (by omega)) (NR.out _ (by omega))) ?_; rintro w2 ⟨hown2, hO2⟩; obtain ⟨q1, q2, q3, q4, q5, q6, q7⟩ := kept3 HK.out (by repeat (first | with_reducible exact Below.refl _ _ | with_reducible refine balloc ?_ _ | with_reducible refine bdrew ?_ | with_reducible refine bset' ?_ (by omega) _ | with_reducible refine bthen ?_ (by assumption))) hO2 k1 k2 (NR.out _ (by omega)) (NR.out _ (by omega)) (NR.out _ (by omega)); have HO2 := hidT (⟨hown2, hO2⟩ : _ ∧ _); have T2 : Tri w.heap.size b p d1.next (.slice a.wa d1.wr.length a.wc) w2 := ⟨q1, q2, q4, q3, q5⟩; clear hown2 hO2; refine hK _ _ (fun _ => T2) ?_; (try simp only [Act.put, List.getElem_toArray, List.getElem_cons_succ, List.getElem_cons_zero, List.setIfInBounds_toArray, List.set_cons_zero, List.set_cons_succ]); clear hK
    refine till_one (i := 14) rfl (by kernel_rfl) ?_; intro K hK; go_simp; refine hK _ _ (fun _ => T2.alloc _) ?_; (try simp only [Act.put, List.getElem_toArray, List.getElem_cons_succ, List.getElem_cons_zero, List.setIfInBounds_toArray, List.set_cons_zero, List.set_cons_succ]); clear hK
    refine till_one (i := 15) rfl (by kernel_rfl) ?_
    intro K hK
    refine step_push rfl (.tmp 20) (.tmp 28) 99 rfl 0 111 iW _ 3 32 Try.underlying99 HI.out.1 HI.out.2.1 HI.out.2.2.1 HI.out.2.2.2 rfl (by decide) (.slice a.wa (keepW p d1.next d1.wr).length a.wc) (keepW p d1.next d1.wr).length (wcells (keepW p d1.next d1.wr)) rfl (HO2.out.1.alloc _) ⟨w2.heap.size, 0, none⟩ 1 1 [.int .i64 p, .string s, .int .i64 d1.next] rfl rfl (fun j u hj => newRowAt rfl _ _ j u hj) (by simp [Value.oneCell']) (by omega) (by have := HKL.out; unfold maxLen; omega) (by have := HKL.out; omega) (Nat.zero_le _) ?_
    intro v3 w3 hown3 hg3 hv3
    have hO3 : Only (rowOf a.wa) wK w3 := (((Only.of_below (by repeat (first | with_reducible exact Below.refl _ _ | with_reducible refine balloc ?_ _ | with_reducible refine bdrew ?_ | with_reducible refine bset' ?_ (by omega) _ | with_reducible refine bthen ?_ (by assumption)))).trans HO2.out.2 (fun _ e => Or.inl e)).alloc _).grown hg3 (fun k hk => Or.inl (rowOf_own.1 hk))
    obtain ⟨x3, c3, rfl, -⟩ := slice_of_own hown3; obtain ⟨r1, r2, r3⟩ := kept64 HK.out hO3; have hv4 : ∀ g, (Value.slice x3 ((keepW p d1.next d1.wr).length + 1) c3).ownBlock = some g → rowOf a.wa g ∨ wK.heap.size ≤ g := fun g hg => wroteAt hv3 hg (by have := HO2.out.2.size; simp at this; simp; omega); have T3 : Tri w.heap.size b p d1.next (.slice a.wa d1.wr.length a.wc) w3 := T0.only hO3 (NR.out _ (by omega)) (NR.out _ (by omega)) (NR.out _ (by omega)); have HP3 := hidT (⟨hown3, hO3, hv4⟩ : _ ∧ _ ∧ _); clear hown3 hO3 hv3 hg3 hv4; refine hK _ _ (fun _ => T3) ?_; (try simp only [Act.put, List.getElem_toArray, List.getElem_cons_succ, List.getElem_cons_zero, List.setIfInBounds_toArray, List.set_cons_zero, List.set_cons_succ]); clear hK; refine till_one (i := 16) rfl (by kernel_rfl) ?_; intro K hK; go_simp; refine hK _ _ (fun _ => T3) ?_; (try simp only [Act.put, List.getElem_toArray, List.getElem_cons_succ, List.getElem_cons_zero, List.setIfInBounds_toArray, List.set_cons_zero, List.set_cons_succ]); clear hK; refine till_one (i := 17) rfl (by kernel_rfl) ?_; intro K hK; go_simp; refine hK _ _ (fun _ => T3) ?_; (try simp only [Act.put, List.getElem_toArray, List.getElem_cons_succ, List.getElem_cons_zero, List.setIfInBounds_toArray, List.set_cons_zero, List.set_cons_succ]); clear hK; refine till_one (i := 18) rfl (by kernel_rfl) ?_; intro K hK; go_simp; refine hK _ _ (fun h => absurd rfl h) ?_; (try simp only [Act.put, List.getElem_toArray, List.getElem_cons_succ, List.getElem_cons_zero, List.setIfInBounds_toArray, List.set_cons_zero, List.set_cons_succ]); clear hK; refine till_done (by kernel_rfl) ?_ _
    obtain ⟨hown3, hO3, hv4⟩ := HP3.out; obtain ⟨x4, c4, e4, hst⟩ := HK.out.rewritten hO3 (keepW p d1.next d1.wr ++ [⟨p, s, d1.next⟩]) (by rw [wcells_snoc, List.length_append]; exact hown3) hv4 (keep_fin HK.out.wfin hp HK.out.nxt) (keep_nod HK.out.wfin HK.out.nxt HK.out.nod); obtain ⟨d2, hd2⟩ : ∃ d2 : Dl, d2 = { d1 with wr := keepW p d1.next d1.wr ++ [⟨p, s, d1.next⟩] } := ⟨_, rfl⟩; rw [← hd2] at hst; have HST := hidT hst; have HN2 : Hid (d2.next = d1.next) := (by rw [hd2]; rfl); have HD2 := hidT hd2; clear hown3 hO3 hv4 hst hd2 r1 r2 r3; go_wp2_with fail; refine wp_worldD (fun wM => DStep b d1 a d2 { a with wa := x4, wc := c4 } wK wM ∧ wM.cell? ⟨w.heap.size, 0, none⟩ = some (.pointer (some ⟨b, 0, none⟩))) ⟨HST.out, (by rw [World.cell?_setCell_other _ _ _ _ (fun e => absurd (congrArg Addr.block e) (by simp; omega))]; exact T3.1)⟩ ?_; rintro wM ⟨hM, m1⟩; have m2 := hM.dev.c65; rw [HN2.out] at m2; have m3 := hM.dev.fz 65; have m4 := hM.dev.lt; have m5 := lt_of_cell m1; have hnx := HK.out.nxt; have hw1 : IntKind.i64.wrap ((d1.next : Int) + 1) = (d1.next : Int) + 1 := (by rw [IntKind.wrap_i64]; omega); have hw2 := next_mod d1.next; have hw3 : IntKind.i64.wrap (((d1.next + 1) % 64 : Nat) : Int) = (((d1.next + 1) % 64 : Nat) : Int) := (by rw [IntKind.wrap_i64]; omega); have HM := hidT (write_done HD1.out HD2.out HK.out HO.out hM); clear hM; generalize (d1.next + 1) % 64 = nn at *
    go_region
    go_end0
    exact ⟨_, rfl, HM.out.drewAt⟩
  · intro K hK
    go_simp
    refine hK _ _ (fun _ => HS.out.alloc _) ?_
    (try simp only [Act.put, List.getElem_toArray, List.getElem_cons_succ, List.getElem_cons_zero, List.setIfInBounds_toArray, List.set_cons_zero, List.set_cons_succ])
    clear hK
    refine till_one (i := 6) rfl (by kernel_rfl) ?_
    intro K hK
    refine step_call2 rfl 86 18 19 99 132 rfl eg (.slice a.wa d1.wr.length a.wc) (.func (.func 85) #[] #[.pointer (some ⟨w.heap.size + 1, 0, none⟩), .pointer (some ⟨w.heap.size, 0, none⟩)]) rfl rfl (.slice a.wa (keepW p d1.next d1.wr).length a.wc) (fun w' => w'.ownsRow 0 111 3 (.slice a.wa (keepW p d1.next d1.wr).length a.wc) (keepW p d1.next d1.wr).length (wcells (keepW p d1.next d1.wr)) ∧ Only (rowOf a.wa) _ w') (delW (w.heap.size + 1) w.heap.size b p d1.next d1.wr a.wa a.wc _ (HK.out.later (by repeat (first | with_reducible exact Below.refl _ _ | with_reducible refine balloc ?_ _ | with_reducible refine bdrew ?_ | with_reducible refine bset' ?_ (by omega) _ | with_reducible refine bthen ?_ (by assumption)))).wrow (by omega) HK.out.nod (HHK.out.later (by repeat (first | with_reducible exact Below.refl _ _ | with_reducible refine balloc ?_ _ | with_reducible refine bdrew ?_ | with_reducible refine bset' ?_ (by omega) _ | with_reducible refine bthen ?_ (by assumption)))) (NR.out _ (by omega)) (NR.out _ (by omega)) (NR.out _ (by omega))) ?_; rintro w2 ⟨hown2, hO2⟩; obtain ⟨q1, q2, q3, q4, q5, q6, q7⟩ := kept3 HK.out (by repeat (first | with_reducible exact Below.refl _ _ | with_reducible refine balloc ?_ _ | with_reducible refine bdrew ?_ | with_reducible refine bset' ?_ (by omega) _ | with_reducible refine bthen ?_ (by assumption))) hO2 k1 k2 (NR.out _ (by omega)) (NR.out _ (by omega)) (NR.out _ (by omega)); have HO2 := hidT (⟨hown2, hO2⟩ : _ ∧ _); have T2 : Tri w.heap.size b p d1.next (.slice a.wa d1.wr.length a.wc) w2 := ⟨q1, q2, q4, q3, q5⟩; clear hown2 hO2; refine hK _ _ (fun _ => T2) ?_; (try simp only [Act.put, List.getElem_toArray, List.getElem_cons_succ, List.getElem_cons_zero, List.setIfInBounds_toArray, List.set_cons_zero, List.set_cons_succ]); clear hK
    refine till_one (i := 15) rfl (by kernel_rfl) ?_
    intro K hK
    refine step_push rfl (.tmp 20) (.tmp 28) 99 rfl 0 111 iW _ 3 32 Try.underlying99 HI.out.1 HI.out.2.1 HI.out.2.2.1 HI.out.2.2.2 rfl (by decide) (.slice a.wa (keepW p d1.next d1.wr).length a.wc) (keepW p d1.next d1.wr).length (wcells (keepW p d1.next d1.wr)) rfl HO2.out.1 ⟨wK.heap.size, 0, none⟩ 1 1 [.int .i64 p, .string s, .int .i64 d1.next] rfl rfl (by first | exact newRowKept rfl _ _ HO2.out.2 NRK.out | exact newRowKeptD rfl _ _ HO2.out.2 NRK.out) (by simp [Value.oneCell']) (by omega) (by have := HKL.out; unfold maxLen; omega) (by have := HKL.out; omega) (Nat.zero_le _) ?_
    intro v3 w3 hown3 hg3 hv3
    have hO3 : Only (rowOf a.wa) wK w3 := ((Only.of_below (by repeat (first | with_reducible exact Below.refl _ _ | with_reducible refine balloc ?_ _ | with_reducible refine bdrew ?_ | with_reducible refine bset' ?_ (by omega) _ | with_reducible refine bthen ?_ (by assumption)))).trans HO2.out.2 (fun _ e => Or.inl e)).grown hg3 (fun k hk => Or.inl (rowOf_own.1 hk))
    obtain ⟨x3, c3, rfl, -⟩ := slice_of_own hown3; obtain ⟨r1, r2, r3⟩ := kept64 HK.out hO3; have hv4 : ∀ g, (Value.slice x3 ((keepW p d1.next d1.wr).length + 1) c3).ownBlock = some g → rowOf a.wa g ∨ wK.heap.size ≤ g := fun g hg => wroteAt hv3 hg (by have := HO2.out.2.size; simp at this; simp; omega); have T3 : Tri w.heap.size b p d1.next (.slice a.wa d1.wr.length a.wc) w3 := T0.only hO3 (NR.out _ (by omega)) (NR.out _ (by omega)) (NR.out _ (by omega)); have HP3 := hidT (⟨hown3, hO3, hv4⟩ : _ ∧ _ ∧ _); clear hown3 hO3 hv3 hg3 hv4; refine hK _ _ (fun _ => T3) ?_; (try simp only [Act.put, List.getElem_toArray, List.getElem_cons_succ, List.getElem_cons_zero, List.setIfInBounds_toArray, List.set_cons_zero, List.set_cons_succ]); clear hK; refine till_one (i := 16) rfl (by kernel_rfl) ?_; intro K hK; go_simp; refine hK _ _ (fun _ => T3) ?_; (try simp only [Act.put, List.getElem_toArray, List.getElem_cons_succ, List.getElem_cons_zero, List.setIfInBounds_toArray, List.set_cons_zero, List.set_cons_succ]); clear hK; refine till_one (i := 17) rfl (by kernel_rfl) ?_; intro K hK; go_simp; refine hK _ _ (fun _ => T3) ?_; (try simp only [Act.put, List.getElem_toArray, List.getElem_cons_succ, List.getElem_cons_zero, List.setIfInBounds_toArray, List.set_cons_zero, List.set_cons_succ]); clear hK; refine till_one (i := 18) rfl (by kernel_rfl) ?_; intro K hK; go_simp; refine hK _ _ (fun h => absurd rfl h) ?_; (try simp only [Act.put, List.getElem_toArray, List.getElem_cons_succ, List.getElem_cons_zero, List.setIfInBounds_toArray, List.set_cons_zero, List.set_cons_succ]); clear hK; refine till_done (by kernel_rfl) ?_ _
    obtain ⟨hown3, hO3, hv4⟩ := HP3.out; obtain ⟨x4, c4, e4, hst⟩ := HK.out.rewritten hO3 (keepW p d1.next d1.wr ++ [⟨p, s, d1.next⟩]) (by rw [wcells_snoc, List.length_append]; exact hown3) hv4 (keep_fin HK.out.wfin hp HK.out.nxt) (keep_nod HK.out.wfin HK.out.nxt HK.out.nod); obtain ⟨d2, hd2⟩ : ∃ d2 : Dl, d2 = { d1 with wr := keepW p d1.next d1.wr ++ [⟨p, s, d1.next⟩] } := ⟨_, rfl⟩; rw [← hd2] at hst; have HST := hidT hst; have HN2 : Hid (d2.next = d1.next) := (by rw [hd2]; rfl); have HD2 := hidT hd2; clear hown3 hO3 hv4 hst hd2 r1 r2 r3; go_wp2_with fail; refine wp_worldD (fun wM => DStep b d1 a d2 { a with wa := x4, wc := c4 } wK wM ∧ wM.cell? ⟨w.heap.size, 0, none⟩ = some (.pointer (some ⟨b, 0, none⟩))) ⟨HST.out, (by rw [World.cell?_setCell_other _ _ _ _ (fun e => absurd (congrArg Addr.block e) (by simp; omega))]; exact T3.1)⟩ ?_; rintro wM ⟨hM, m1⟩; have m2 := hM.dev.c65; rw [HN2.out] at m2; have m3 := hM.dev.fz 65; have m4 := hM.dev.lt; have m5 := lt_of_cell m1; have hnx := HK.out.nxt; have hw1 : IntKind.i64.wrap ((d1.next : Int) + 1) = (d1.next : Int) + 1 := (by rw [IntKind.wrap_i64]; omega); have hw2 := next_mod d1.next; have hw3 : IntKind.i64.wrap (((d1.next + 1) % 64 : Nat) : Int) = (((d1.next + 1) % 64 : Nat) : Int) := (by rw [IntKind.wrap_i64]; omega); have HM := hidT (write_done HD1.out HD2.out HK.out HO.out hM); clear hM; generalize (d1.next + 1) % 64 = nn at *
    go_region
    go_end0
    exact ⟨_, rfl, HM.out.drewAt⟩
end Go.Proofs.Ythmeaclekedilac
/- A device: do: what a request reads, or writes. -/
namespace Go.Proofs.Ythmeaclekedilac
open Go.RowKit Go.BigFrame
attribute [local go_sem] Later.cell Later.frozen

theorem Good.bndD {r : Rq} (h : Good r) : 0 ≤ r.f ∧ r.f ≤ 31 ∧ 1 ≤ r.m ∧ r.m ≤ 4 ∧ r.m ≤ 32 - r.f := by
  have := h.ok
  simp only [okB, decide_eq_true_eq] at this
  omega
theorem strs_of_ownedD {w : World} {base e n : Nat} {v : Value} {xs : List ByteArray} (h : w.ownsRow base e 1 v n (strV xs)) (hn : n = xs.length) : ∃ a c, v = .slice a xs.length c ∧ StrsAt w a xs ∧ (a = none → c = 0) ∧ ∀ ad, a = some ad → base ≤ ad.block := by
  subst hn
  rcases h.2 with ⟨rfl, h0⟩ | ⟨g, cap, cur, rfl, hg, hh, hnc, hcm, hcs, ht⟩
  · obtain rfl := List.eq_nil_of_length_eq_zero h0
    exact ⟨none, 0, rfl, Or.inl rfl, fun _ => rfl, by simp⟩
  · refine ⟨_, cap, rfl, Or.inr ⟨g, 0, rfl, fun i hi => ?_⟩, by simp, fun ad e => ?_⟩
    · have hc := h.cellAt i (by omega)
      rw [Nat.zero_add, hc]
      simp [strV, List.getElem?_eq_getElem hi]
    · simp only [Option.some.injEq] at e; subst e; exact hg
/-- What has been read, so far. -/
def readTo (d : Dl) (f n : Nat) : List ByteArray := (List.range n).map fun j => d.now.getD (f + j) ByteArray.empty
theorem readTo_succ (d : Dl) (f n : Nat) : readTo d f (n + 1) = readTo d f n ++ [d.now.getD (f + n) ByteArray.empty] := by simp [readTo, List.range_succ]
theorem readTo_length (d : Dl) (f n : Nat) : (readTo d f n).length = n := by simp [readTo]
theorem infoS : (Try.prog.info? 9).map (fun i => (i.zero, i.size, i.bytes)) = some (some (.string ByteArray.empty), 1, 16) := by kernel_rfl
theorem has_in (r : Rq) (gr : Good r) (k : Nat) (hk : k < 32) : hasB r.f r.m k = decide (r.f.toNat ≤ k ∧ k < r.f.toNat + r.m.toNat) := by
  have := gr.bndD
  rw [hasB_ok r.f r.m 4 k gr.ok (by omega), inSpan]
  congr 1
  simp only [eq_iff_iff]
  omega
/-- How many sectors of the span lie below k. -/
def below (f m k : Nat) : Nat := min (k - f) m
theorem below_in {f m k : Nat} (h1 : f ≤ k) (h2 : k < f + m) : below f m (k + 1) = below f m k + 1 ∧ f + below f m k = k := by unfold below; omega
theorem below_out {f m k : Nat} (h : ¬ (f ≤ k ∧ k < f + m)) : below f m (k + 1) = below f m k := by unfold below; omega
theorem below_all {f m : Nat} (h : f + m ≤ 32) : below f m 32 = m := by unfold below; omega

set_option maxRecDepth 100000 in
set_option maxHeartbeats 2000000 in
theorem do_read (b : Nat) (d : Dl) (a : An) (r : Rq) (w : World) (h : DevAt b d a w) (gr : Good r) (hw : r.wr = false) :
    Calls Try.prog 57 #[.pointer (some ⟨b, 0, none⟩), r.val] w fun e w' => ∃ xa xc, e = .returned (.slice xa (readTo d r.f.toNat r.m.toNat).length xc) ∧ StrsAt w' xa (readTo d r.f.toNat r.m.toNat) ∧ (xa = none → xc = 0) ∧ (∀ ad, xa = some ad → w.heap.size ≤ ad.block) ∧ Below w.heap.size w w' := by
  obtain ⟨iS, hi, hz0, hz1, hz2⟩ := pluck infoS
  have HI := hidT (⟨hi, hz0, hz1, hz2⟩ : Try.prog.info? 9 = some iS ∧ _ ∧ _ ∧ _)
  have HB0 := hidT gr.bndD
  have HHAS := hidT (has_in r gr)
  have HD := hidT h
  have hl := h.lt
  clear hi hz0 hz1 hz2 h gr
  obtain ⟨wr0, f, m, da, dc, data, ta, tc, tags, born⟩ := r
  simp only at *
  subst hw
  go_enter Try.func57, Try.ntmps57
  go_wp2_with fail
  have hB0 := hidT (below1 w (.cells #[.bool false, .int .i64 f, .int .i64 m, .slice da data.length dc, .slice ta tags.length tc, .int .i64 born] 38))
  have hc0 : Hid (∀ wr, Below (w.heap.size + 1) (w.alloc (.cells #[.bool false, .int .i64 f, .int .i64 m, .slice da data.length dc, .slice ta tags.length tc, .int .i64 born] 38)) wr → wr.cell? ⟨w.heap.size, 0, none⟩ = some (.bool false) ∧ wr.cell? ⟨w.heap.size, 1, none⟩ = some (.int .i64 f) ∧ wr.cell? ⟨w.heap.size, 2, none⟩ = some (.int .i64 m)) := fun wr hb =>
    ⟨(hb.cell (p := ⟨w.heap.size, 0, none⟩) (by simp)).trans (by simp), (hb.cell (p := ⟨w.heap.size, 1, none⟩) (by simp)).trans (by simp), (hb.cell (p := ⟨w.heap.size, 2, none⟩) (by simp)).trans (by simp)⟩
  generalize hW1 : w.alloc (.cells #[.bool false, .int .i64 f, .int .i64 m, .slice da data.length dc, .slice ta tags.length tc, .int .i64 born] 38) = w1 at *
  have hs1 : w1.heap.size = w.heap.size + 1 := by rw [← hW1]; simp
  have HS1 := hidT hs1
  clear hW1 hs1
  go_loopw [5, 9] (fun v i wr => ∃ k : Nat, k ≤ 32 ∧ i = .int .i64 k ∧ wr.ownsRow (w.heap.size + 1) 9 1 v (below f.toNat m.toNat k) (strV (readTo d f.toNat (below f.toNat m.toNat k))) ∧ Below (w.heap.size + 1) w1 wr) (fun _ i _ => 32 - (intOf i).toNat)
  case atStart => exact ⟨0, by omega, rfl, by simpa [below, readTo, strV] using World.ownsRow_nil w1 (w.heap.size + 1) 9 1, Below.refl _ _⟩
  case round =>
    obtain ⟨k, hk, rfl, hown, HB⟩ := hrel
    have HOWN := hidT hown
    obtain ⟨c0, c1, c2⟩ := hc0.out wr HB
    have hsz := HB.size
    rw [HS1.out] at hsz
    clear hown
    by_cases hlt : k < 32
    · have hhs := HHAS.out k hlt
      have hlt' : (k : Int) < 32 := by omega
      by_cases hin : f.toNat ≤ k ∧ k < f.toNat + m.toNat
      · rw [decide_eq_true hin] at hhs
        obtain ⟨e1, e2⟩ := below_in hin.1 hin.2
        have HE := hidT (⟨e1, e2⟩ : _ ∧ _)
        have hbm : below f.toNat m.toNat k ≤ 32 := by unfold below; omega
        clear e1 e2 hin
        go_wp2_with fail
        refine (has_eq _ _ _ _ _ hhs).mono ?_
        rintro e w2 ⟨rfl, hb2⟩
        have HB2 := HB.trans (hb2.mono hsz)
        have hown2 := hidT (own_frame HOWN.out (fun g hg => hb2.block g (HOWN.out.lt g hg).2))
        obtain ⟨c0', c1', c2'⟩ := hc0.out w2 HB2
        have hsz2 := HB2.size
        rw [HS1.out] at hsz2
        have hdev : DevAt b d a w2 := HD.out.later (bthen hB0.out (HB2.mono (by rw [HS1.out]; omega)))
        have cn := hdev.cNow k hlt
        have lbb := hdev.lt
        have HBL := hidT hbm
        clear hdev hb2 hhs hbm c0 c1 c2
        generalize hs : d.now.getD k ByteArray.empty = s at *
        have HSS := hidT hs
        clear hs
        go_wp2_with (at_builtin; refine wpList_append_row rfl _ _ 35 rfl (w.heap.size + 1) 9 iS _ 1 16 Try.underlying35 HI.out.1 HI.out.2.1 HI.out.2.2.1 HI.out.2.2.2 rfl (by decide) _ (below f.toNat m.toNat k) (strV (readTo d f.toNat (below f.toNat m.toNat k))) rfl (hown2.out.alloc _) (some ⟨w2.heap.size, 0, none⟩) 1 1 [.string s] rfl ⟨rfl, by simp [Value.oneCell'], Or.inr ⟨_, rfl, fun j u hj => newRowAt rfl _ _ j u hj⟩⟩ (by have := HBL.out; unfold maxLen; omega) (by have := HBL.out; omega) (by simp; omega) ?_; intro v3 w3 hown3 hb3)
        go_roundw
        case rel =>
          refine ⟨k + 1, by omega, by go_num, ?_, HB2.trans (((Below.refl _ _).alloc (by omega) _).trans hb3)⟩
          rw [HE.out.1, readTo_succ, HE.out.2, HSS.out]
          simpa [strV] using hown3
        case measure => simp [intOf]; omega
      · rw [decide_eq_false hin] at hhs
        have HE := hidT (below_out hin)
        clear hin
        go_wp2_with fail
        refine (has_eq _ _ _ _ _ hhs).mono ?_
        rintro e w2 ⟨rfl, hb2⟩
        have HB2 := HB.trans (hb2.mono hsz)
        have hown2 := hidT (own_frame HOWN.out (fun g hg => hb2.block g (HOWN.out.lt g hg).2))
        clear hb2 hhs c0 c1 c2
        go_wp2
        go_roundw
        case rel => exact ⟨k + 1, by omega, by go_num, by rw [HE.out]; exact hown2.out, HB2⟩
        case measure => simp [intOf]; omega
    · have hk32 : k = 32 := by omega
      subst hk32
      obtain ⟨b1, b2, b3, b4, b5⟩ := HB0.out
      have hall : below f.toNat m.toNat 32 = m.toNat := below_all (by omega)
      rw [hall] at HOWN
      obtain ⟨xa, xc, rfl, hst, hnn, had⟩ := strs_of_ownedD HOWN.out (readTo_length _ _ _).symm
      have HST := hidT (⟨hst, hnn, had⟩ : _ ∧ _ ∧ _)
      clear hst hnn had b1 b2 b3 b4 b5 hall
      go_wp2
      go_ret
      exact ⟨xa, xc, rfl, HST.out.1, HST.out.2.1, fun ad e => Nat.le_of_succ_le (HST.out.2.2 ad e), hB0.out.trans (HB.mono (by omega))⟩
end Go.Proofs.Ythmeaclekedilac
/- A device: do: a request that writes. -/
namespace Go.Proofs.Ythmeaclekedilac
open Go.RowKit Go.BigFrame
attribute [local go_sem] Later.cell Later.frozen

def Dl.writesTo (d : Dl) (r : Rq) (n : Nat) : Dl := (List.range n).foldl (fun d j => d.write (r.f.toNat + j) (r.data.getD j ByteArray.empty)) d
theorem Dl.writesTo_succ (d : Dl) (r : Rq) (n : Nat) : d.writesTo r (n + 1) = (d.writesTo r n).write (r.f.toNat + n) (r.data.getD n ByteArray.empty) := by simp [Dl.writesTo, List.range_succ]
theorem DStep.later {b : Nat} {d d' : Dl} {a a' : An} {w w' w'' : World} (h : DStep b d a d' a' w w') (hb : Below w'.heap.size w' w'') : DStep b d a d' a' w w'' := ⟨h.dev.later hb, h.only.later hb, h.foot⟩
theorem DStep.same {b : Nat} {d : Dl} {a : An} {w w' : World} (h : DevAt b d a w) (hb : Below w.heap.size w w') : DStep b d a d a w w' := ⟨h.later hb, Only.of_below hb, fun _ hk => Or.inl hk⟩
/-- A request in a block of its own. -/
def BoxAt (w : World) (q : Nat) (r : Rq) : Prop := w.cell? ⟨q, 0, none⟩ = some (.bool r.wr) ∧ w.cell? ⟨q, 1, none⟩ = some (.int .i64 r.f) ∧ w.cell? ⟨q, 2, none⟩ = some (.int .i64 r.m) ∧ w.cell? ⟨q, 3, none⟩ = some (.slice r.da r.data.length r.dc) ∧ w.cell? ⟨q, 4, none⟩ = some (.slice r.ta r.tags.length r.tc) ∧ w.cell? ⟨q, 5, none⟩ = some (.int .i64 r.born)
theorem BoxAt.only {F : Nat → Prop} {w w' : World} {q : Nat} {r : Rq} (h : BoxAt w q r) (hO : Only F w w') (hn : ¬ F q) : BoxAt w' q r := by
  obtain ⟨h0, h1, h2, h3, h4, h5⟩ := h
  have hl := lt_of_cell h0
  exact ⟨(hO.cell (p := ⟨q, 0, none⟩) hl hn).trans h0, (hO.cell (p := ⟨q, 1, none⟩) hl hn).trans h1, (hO.cell (p := ⟨q, 2, none⟩) hl hn).trans h2, (hO.cell (p := ⟨q, 3, none⟩) hl hn).trans h3, (hO.cell (p := ⟨q, 4, none⟩) hl hn).trans h4, (hO.cell (p := ⟨q, 5, none⟩) hl hn).trans h5⟩
theorem BoxAt.later {w w' : World} {q : Nat} {r : Rq} (h : BoxAt w q r) (hb : Below w.heap.size w w') : BoxAt w' q r := h.only (F := fun _ => False) (Only.of_below hb) (fun e => e)
theorem box_new (w : World) (T : TypeId) (r : Rq) : BoxAt (w.alloc (.cells #[.bool r.wr, .int .i64 r.f, .int .i64 r.m, .slice r.da r.data.length r.dc, .slice r.ta r.tags.length r.tc, .int .i64 r.born] T)) w.heap.size r := by
  refine ⟨?_, ?_, ?_, ?_, ?_, ?_⟩ <;> simp

set_option maxRecDepth 100000 in
set_option maxHeartbeats 2000000 in
theorem do_write (b : Nat) (d : Dl) (a : An) (r : Rq) (w : World) (h : DevAt b d a w) (gr : Good r) (hw : r.wr = true) (hr : r.At w) (ho : r.Off (a.foot b)) :
    Calls Try.prog 57 #[.pointer (some ⟨b, 0, none⟩), r.val] w fun e w' => ∃ a', e = .returned (.slice none 0 0) ∧ DStep b d a (d.writesTo r r.m.toNat) a' w w' := by
  have HB0 := hidT gr.bndD
  have HHAS := hidT (has_in r gr)
  have hdl : (r.data.length : Int) = r.m := by
    have := gr.shape
    simp only [shapeB, hw, if_true, decide_eq_true_eq] at this
    exact this
  have HDL := hidT hdl
  have HD := hidT h
  have hl := h.lt
  have hB1 := below1 w (.cells #[.bool r.wr, .int .i64 r.f, .int .i64 r.m, .slice r.da r.data.length r.dc, .slice r.ta r.tags.length r.tc, .int .i64 r.born] 38)
  have hX := box_new w 38 r
  have HR := hidT (hr.later hB1)
  have HO := hidT ho
  have HW := hidT hw
  clear h gr hdl hr ho hw
  go_enter Try.func57, Try.ntmps57
  go_wp2_with fail
  generalize hW1 : w.alloc (.cells #[.bool r.wr, .int .i64 r.f, .int .i64 r.m, .slice r.da r.data.length r.dc, .slice r.ta r.tags.length r.tc, .int .i64 r.born] 38) = w1 at *
  have hs1 : w1.heap.size = w.heap.size + 1 := by rw [← hW1]; simp
  have HS1 := hidT hs1
  have HX := hidT hX
  have HB1 := hidT hB1
  clear hW1 hs1 hX hB1
  go_loopw [5, 9] (fun v i wr => ∃ (k : Nat) (a' : An), k ≤ 32 ∧ i = .int .i64 k ∧ v = .slice none 0 0 ∧ DStep b d a (d.writesTo r (below r.f.toNat r.m.toNat k)) a' w1 wr) (fun _ i _ => 32 - (intOf i).toNat)
  case atStart => exact ⟨0, a, by omega, rfl, rfl, by simpa [below, Dl.writesTo] using DStep.same (HD.out.later HB1.out) (Below.refl _ _)⟩
  case round =>
    obtain ⟨k, a', hk, rfl, rfl, hst⟩ := hrel
    have HST := hidT hst
    have nq : ¬ a.foot b w.heap.size := fun e => by have := HD.out.footLt _ e; omega
    have hbx := HX.out.only HST.out.only nq
    have hra := hidT (HR.out.frame HO.out HST.out.only)
    clear hst nq
    by_cases hlt : k < 32
    · have hhs := HHAS.out k hlt
      have hlt' : (k : Int) < 32 := by omega
      obtain ⟨b1, b2, b3, b4, b5⟩ := HB0.out
      by_cases hin : r.f.toNat ≤ k ∧ k < r.f.toNat + r.m.toNat
      · rw [decide_eq_true hin] at hhs
        obtain ⟨e1, e2⟩ := below_in hin.1 hin.2
        have HE := hidT (⟨e1, e2⟩ : _ ∧ _)
        have hwp : wrap64 ((k : Int) - r.f) = ((below r.f.toNat r.m.toNat k : Nat) : Int) := by unfold wrap64; omega
        have hjl : below r.f.toNat r.m.toNat k < r.data.length := by have := HDL.out; omega
        have HWP := hidT hwp
        have HHS := hidT hhs
        obtain ⟨x0, x1, x2, x3, x4, x5⟩ := id hbx
        have lx := lt_of_cell x0
        rw [HW.out] at x0
        clear e1 e2 hin hwp b1 b2 b3 b4 b5 hhs
        go_wp2_with fail
        refine (has_eq _ _ _ _ _ HHS.out).mono ?_
        rintro e w2 ⟨rfl, hb2⟩
        obtain ⟨y0, y1, y2, y3, y4, y5⟩ := hbx.later hb2
        rw [HW.out] at y0
        clear x0 x1 x2 x3 x4 x5
        go_wp2_with fail
        refine (part_in { r with wr := true } r.data r.da r.dc 0 k _ (hra.out.data.later hb2) HHS.out _ HWP.out hjl _ rfl).mono ?_
        rintro e w3 ⟨rfl, hb3⟩
        have hst3 := hidT ((HST.out.later hb2).later hb3)
        go_wp2_with fail
        refine (write_any b _ a' k _ _ hst3.out.dev hlt).mono ?_
        rintro e w4 ⟨a4, rfl, hst4⟩
        have HST4 := hidT (hst3.out.trans hst4)
        clear hst4 hb2 hb3 y0 y1 y2 y3 y4 y5 hra hbx
        go_wp2
        go_roundw
        case rel =>
          refine ⟨k + 1, a4, by omega, by go_num, rfl, ?_⟩
          rw [HE.out.1, Dl.writesTo_succ, HE.out.2, List.getD_eq_getElem?_getD, List.getElem?_eq_getElem hjl, Option.getD_some]
          exact HST4.out
        case measure => simp [intOf]; omega
      · rw [decide_eq_false hin] at hhs
        have HE := hidT (below_out hin)
        have HHS := hidT hhs
        obtain ⟨x0, x1, x2, x3, x4, x5⟩ := id hbx
        clear hin b1 b2 b3 b4 b5 hhs
        go_wp2_with fail
        refine (has_eq _ _ _ _ _ HHS.out).mono ?_
        rintro e w2 ⟨rfl, hb2⟩
        have HST2 := hidT (HST.out.later hb2)
        clear hb2 x0 x1 x2 x3 x4 x5 hra hbx
        go_wp2
        go_roundw
        case rel => exact ⟨k + 1, a', by omega, by go_num, rfl, by rw [HE.out]; exact HST2.out⟩
        case measure => simp [intOf]; omega
    · have hk32 : k = 32 := by omega
      subst hk32
      obtain ⟨b1, b2, b3, b4, b5⟩ := HB0.out
      have hall : below r.f.toNat r.m.toNat 32 = r.m.toNat := below_all (by omega)
      rw [hall] at HST
      clear hall b1 b2 b3 b4 b5 hra hbx
      go_wp2
      go_ret
      exact ⟨a', rfl, (DStep.same HD.out HB1.out).trans HST.out⟩
end Go.Proofs.Ythmeaclekedilac
/- A device: Flush. -/
namespace Go.Proofs.Ythmeaclekedilac
open Go.RowKit Go.BigFrame
attribute [local go_sem] Later.cell Later.frozen

def Dl.flush (d : Dl) : Dl := { d with good := d.now, wr := [], next := 0 }
theorem strV_one (l : List ByteArray) : ∀ v ∈ strV l, v.oneCell' = true := by
  intro v hv
  simp only [strV, List.mem_map] at hv
  obtain ⟨s, _, rfl⟩ := hv
  rfl
theorem cells_good (d : Dl) (a : An) (l : List ByteArray) (h1 : d.now.length = 32) (h2 : d.good.length = 32) (h3 : l.length = 32) : splice (d.cells a) 32 (strV l) = ({ d with good := l } : Dl).cells a := by
  have e1 : (strV d.now).length = 32 := by rw [strV_length, h1]
  have e2 : (strV d.good).length = 32 := by rw [strV_length, h2]
  have e3 : (strV l).length = 32 := by rw [strV_length, h3]
  rw [splice, Dl.cells, Dl.cells, e3, List.append_assoc, List.take_append_of_le_length (by omega), List.take_of_length_le (by omega), List.drop_append, List.drop_eq_nil_of_le (by omega), List.nil_append, e1, show 32 + 32 - 32 = 32 by omega, List.drop_append, List.drop_eq_nil_of_le (by omega), List.nil_append, e2, Nat.sub_self, List.drop_zero, List.append_assoc]
theorem cells_now (d : Dl) (a : An) (l : List ByteArray) (h1 : d.now.length = 32) (h3 : l.length = 32) : splice (d.cells a) 0 (strV l) = ({ d with now := l } : Dl).cells a := by
  have e1 : (strV d.now).length = 32 := by rw [strV_length, h1]
  have e3 : (strV l).length = 32 := by rw [strV_length, h3]
  rw [splice, Dl.cells, Dl.cells, e3, List.take_zero, List.nil_append, List.append_assoc, List.drop_append, List.drop_eq_nil_of_le (by omega), List.nil_append, e1, show 0 + 32 - 32 = 0 by omega, List.drop_zero, List.append_assoc]
/-- The device's block is another, its rows are not (or are nil). -/
theorem DevAt.reblock {b : Nat} {d d' : Dl} {a a' : An} {w w' : World} (h : DevAt b d a w) (hO : Only (fun k => k = b) w w') (hblk : w'.heap[b]? = some (.cells (d'.cells a').toArray 101 (0, 0)))
    (hw : (d'.wr = d.wr ∧ a'.wa = a.wa ∧ a'.wc = a.wc) ∨ (d'.wr = [] ∧ a'.wa = none ∧ a'.wc = 0)) (hb : (d'.busy = d.busy ∧ a'.ba = a.ba ∧ a'.bc = a.bc) ∨ (d'.busy = [] ∧ a'.ba = none ∧ a'.bc = 0)) (n32 : d'.now.length = 32) (g32 : d'.good.length = 32) (nxt : d'.next < 64) : DStep b d a d' a' w w' := by
  have hft : ∀ k, a'.foot b k → a.foot b k := by
    rintro k (e | ⟨p, hp, e⟩ | ⟨p, hp, e⟩)
    · exact Or.inl e
    · rcases hw with ⟨_, h2, _⟩ | ⟨_, h2, _⟩
      · rw [h2] at hp; exact Or.inr (Or.inl ⟨p, hp, e⟩)
      · rw [h2] at hp; cases hp
    · rcases hb with ⟨_, h2, _⟩ | ⟨_, h2, _⟩
      · rw [h2] at hp; exact Or.inr (Or.inr ⟨p, hp, e⟩)
      · rw [h2] at hp; cases hp
  refine ⟨?_, hO.mono (fun k hk => Or.inl hk), fun k hk => Or.inl (hft k hk)⟩
  exact {
    n32 := n32
    g32 := g32
    blk := hblk
    wrow := by
      rcases hw with ⟨h1, h2, h3⟩ | ⟨h1, h2, h3⟩
      · rw [h1, h2, h3]
        exact own_frame h.wrow fun g hg => by
          obtain ⟨p, hp, rfl⟩ := ownBlock_slice.1 hg
          exact hO.block _ (h.wlt p hp) (h.sepw p hp)
      · rw [h1, h2, h3]; exact World.ownsRow_nil _ _ _ _
    brow := by
      rcases hb with ⟨h1, h2, h3⟩ | ⟨h1, h2, h3⟩
      · rw [h1, h2, h3]
        exact own_frame h.brow fun g hg => by
          obtain ⟨p, hp, rfl⟩ := ownBlock_slice.1 hg
          exact hO.block _ (h.blt p hp) (h.sepb p hp)
      · rw [h1, h2, h3]; exact World.ownsRow_nil _ _ _ _
    sepw := fun p hp => by
      rcases hw with ⟨_, h2, _⟩ | ⟨_, h2, _⟩
      · rw [h2] at hp; exact h.sepw p hp
      · rw [h2] at hp; cases hp
    sepb := fun p hp => by
      rcases hb with ⟨_, h2, _⟩ | ⟨_, h2, _⟩
      · rw [h2] at hp; exact h.sepb p hp
      · rw [h2] at hp; cases hp
    sepwb := fun p q hp hq => by
      rcases hw with ⟨_, h2, _⟩ | ⟨_, h2, _⟩
      · rcases hb with ⟨_, k2, _⟩ | ⟨_, k2, _⟩
        · rw [h2] at hp; rw [k2] at hq; exact h.sepwb p q hp hq
        · rw [k2] at hq; cases hq
      · rw [h2] at hp; cases hp
    reqs := fun r hr => by
      rcases hb with ⟨h1, _, _⟩ | ⟨h1, _, _⟩
      · rw [h1] at hr
        have := h.reqs r hr
        exact ⟨this.1.frame (F := fun k => k = b) (this.2.mono fun k hk => Or.inl hk) hO, this.2.mono hft⟩
      · rw [h1] at hr; cases hr
    wfin := by
      rcases hw with ⟨h1, _, _⟩ | ⟨h1, _, _⟩
      · rw [h1]; exact h.wfin
      · rw [h1]; simp
    nod := by
      rcases hw with ⟨h1, _, _⟩ | ⟨h1, _, _⟩
      · rw [h1]; exact h.nod
      · rw [h1]; simp
    blen := by
      rcases hb with ⟨h1, _, _⟩ | ⟨h1, _, _⟩
      · rw [h1]; exact h.blen
      · rw [h1]; simp
    nxt := nxt }
theorem DevAt.rangeNow {b : Nat} {d : Dl} {a : An} {w : World} (h : DevAt b d a w) : w.rangeAt b 0 (strV d.now) := fun j v hv => by
  have hj : j < 32 := by
    have := (List.getElem?_eq_some_iff.1 hv).1
    rw [strV_length, h.n32] at this; exact this
  rw [Nat.zero_add, cell_of_heap h.blk, Dl.cells, List.append_assoc, List.getElem?_append_left (by rw [strV_length, h.n32]; exact hj)]
  exact hv
theorem DevAt.rangeGood {b : Nat} {d : Dl} {a : An} {w : World} (h : DevAt b d a w) : w.rangeAt b 32 (strV d.good) := fun j v hv => by
  have hj : j < 32 := by
    have := (List.getElem?_eq_some_iff.1 hv).1
    rw [strV_length, h.g32] at this; exact this
  rw [cell_of_heap h.blk, Dl.cells, List.append_assoc, List.getElem?_append_right (by rw [strV_length, h.n32]; omega), strV_length, h.n32, show 32 + j - 32 = j by omega, List.getElem?_append_left (by rw [strV_length, h.g32]; exact hj)]
  exact hv
theorem DevAt.there {b : Nat} {d : Dl} {a : An} {w : World} (h : DevAt b d a w) (o n : Nat) (ho : o + n ≤ 67) : w.there b o n := fun j hj => by
  refine ⟨?_, h.fz _⟩
  rw [cell_of_heap h.blk, List.getElem?_eq_getElem (by rw [Dl.cells_length h.n32 h.g32]; omega)]
  rfl
theorem size32 : (Try.prog.info? 28).map (·.size) = some 32 := by kernel_rfl
theorem setCells_onlyB (b : Nat) (vs : List Value) (o : Nat) (w : World) : Only (fun k => k = b) w (w.setCells b o vs) := setCells_only (F := fun k => k = b) b (Or.inl rfl) vs o w (Only.refl _ _)
set_option maxHeartbeats 1000000 in
theorem flush_any (b : Nat) (d : Dl) (a : An) (w : World) (h : DevAt b d a w) :
    Calls Try.prog 19 #[.pointer (some ⟨b, 0, none⟩)] w fun e w' => e = .returned (.tuple #[]) ∧ DStep b d a d.flush { a with wa := none, wc := 0 } w w' := by
  have HD := hidT h
  have hl := h.lt
  have e32 : (strV d.now).length = 32 := by rw [strV_length]; exact h.n32
  have HE := hidT e32
  have blk1 := setCells_heap b 101 (strV d.now) 32 (d.cells a) w h.blk (by rw [e32, Dl.cells_length h.n32 h.g32]; omega)
  rw [cells_good d a d.now h.n32 h.g32 h.n32] at blk1
  have c64 := (cell_of_heap blk1 64).trans (Dl.cell64 h.n32 h.n32)
  have c65 := (cell_of_heap blk1 65).trans (Dl.cell65 h.n32 h.n32)
  have f64 := frozen_of_heap blk1 64
  have f65 := frozen_of_heap blk1 65
  have HB1 := hidT blk1
  clear h e32 blk1
  go_enter Try.func19, Try.ntmps19
  go_wp2_with (first | (refine wpList_load_mid rfl 28 (.tmp 5) rfl b 0 rfl (strV d.now) _ HD.out.rangeNow Try.underlying28 rfl (by rw [HE.out]; exact size32) ?_) | (refine wpList_store_mid rfl 28 (.tmp 8) (.tmp 6) rfl b 32 (strV d.now).toArray rfl rfl (by rw [List.size_toArray, HE.out]; exact HD.out.there 32 32 (by omega)) (by rw [List.size_toArray, HE.out]; exact size32) (all_oneCell_toArray (strV_one _)) ?_; simp only))
  go_end0
  refine ⟨rfl, HD.out.reblock (((setCells_onlyB b (strV d.now) 32 w).setCell ⟨b, 64, none⟩ (Or.inl rfl) _).setCell ⟨b, 65, none⟩ (Or.inl rfl) _) ?_ (Or.inr ⟨rfl, rfl, rfl⟩) (Or.inl ⟨rfl, rfl, rfl⟩) HD.out.n32 HD.out.n32 (by simp [Dl.flush])⟩
  rw [set_same (set_same HB1.out 64 _) 65 _]
  have e1 := cells_set64 ({ d with good := d.now } : Dl) a [] none 0 HD.out.n32 HD.out.n32
  have e2 := cells_set65 ({ d with good := d.now, wr := [] } : Dl) { a with wa := none, wc := 0 } 0 HD.out.n32 HD.out.n32
  simp only [List.length_nil] at e1
  rw [e1]
  exact congrArg (fun l : List Value => some (Obj.cells l.toArray 101 (0, 0))) e2
end Go.Proofs.Ythmeaclekedilac
