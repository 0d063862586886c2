/- Rows known whole: append with room, clear: and that only that row turns. -/
import Derived.Test.YthmeaclekedilacSplice
namespace Go.Proofs.Ythmeaclekedilac
open Go.RowKit

/-- 'append(s, x...)' where there is room, into a row that is known whole. -/
theorem run_append_gp {P : Program} (w : World) (t ty e : TypeId) (k : Nat) (g n cap : Nat) (sp : Option Addr) (m c : Nat) (cur : List Value) (tr : TypeId) (cs : List Value)
    (hu : P.underlying t = some (.slice e)) (hs : (P.info? e).map (·.size) = some k) (hg : w.heap[g]? = some (.cells cur.toArray tr (0, 0))) (hn : cs.length = m * k) (hroom : n + m ≤ cap)
    (hpos : 0 < cs.length → ∃ ad, sp = some ad ∧ ∀ j v, cs[j]? = some v → w.cell? (ad.add j) = some v)
    (hfit : n * k + cs.length ≤ cur.length) (h1 : ∀ v ∈ cs, v.oneCell' = true) :
    ∃ w', (Builtin.append_ #[t, t] ty #[.slice (some ⟨g, 0, none⟩) n cap, .slice sp m c]).run P w = .ok (.slice (some ⟨g, 0, none⟩) (n + m) cap) w' ∧ w'.heap[g]? = some (.cells (splice cur (n * k) cs).toArray tr (0, 0)) ∧ w.grownBy w' (some g) := by
  obtain ⟨i, hq, hi⟩ : ∃ i, P.info? e = some i ∧ i.size = k := by
    cases hq : P.info? e with
    | none => simp [hq] at hs
    | some i => exact ⟨i, rfl, by simpa [hq] using hs⟩
  have hadd : (Addr.add ⟨g, 0, none⟩ (n * k)) = ⟨g, n * k, none⟩ := by
    unfold Addr.add; split
    · rename_i h; rw [h]
    · simp
  by_cases h0 : cs.length = 0
  · obtain rfl : cs = [] := List.eq_nil_of_length_eq_zero h0
    refine ⟨w, ?_, by rw [splice_nil]; exact hg, ⟨rfl, rfl, rfl, Nat.le_refl _, fun _ _ _ => rfl⟩⟩
    have hm : m * k = 0 := by simpa using hn.symm
    have hl : ∀ a, (loadCells a 0).run P w = .ok #[] w := fun a => by simpa using run_loadCells_list (P := P) w a [] (by simp)
    cases sp <;> simp [Builtin.append_, run_underlying hu, Builtin.lenOf, Builtin.firstCells, sizeOf, typeInfo, hq, hi, hm, hl, hroom, storeCells]
  · obtain ⟨ad, rfl, hsrc⟩ := hpos (by omega)
    have hl := run_loadCells_list (P := P) w ad cs hsrc
    have hst := run_storeCells_at P g (n * k) tr cs 0 cur.toArray w hg (by simpa using hfit) h1
    refine ⟨_, ?_, setRow_heap w g _ _ tr _ hg, ⟨rfl, rfl, rfl, by simp, fun k _ hk => setRow_other w g k _ (fun e => hk (by rw [e]))⟩⟩
    simp [Builtin.append_, run_underlying hu, Builtin.lenOf, Builtin.firstCells, sizeOf, typeInfo, hq, hi, ← hn, hl, hroom, hadd, hst, splice]

theorem step_append_gp {P : Program} {ops : Array Oper} {op : Oper} {a : Act} {w : World} {K : Act → World → Prop} {Q : Exit → Act → World → Prop} {E : Prop} (hgd : op.guard = none) (s x : Operand) (t : TypeId)
    (ho : op.op = .call { callee := .builtin .append, args := #[s, x], argTypes := #[t, t] }) (e : TypeId) (k : Nat) (hu : P.underlying t = some (.slice e)) (hs : (P.info? e).map (·.size) = some k)
    (g n cap : Nat) (sp : Option Addr) (m c : Nat) (hd : a.eval s = .slice (some ⟨g, 0, none⟩) n cap) (hsv : a.eval x = .slice sp m c)
    (cur : List Value) (tr : TypeId) (cs : List Value) (hg : w.heap[g]? = some (.cells cur.toArray tr (0, 0))) (hn : cs.length = m * k) (hroom : n + m ≤ cap)
    (hpos : 0 < cs.length → ∃ ad, sp = some ad ∧ ∀ j v, cs[j]? = some v → w.cell? (ad.add j) = some v)
    (hfit : n * k + cs.length ≤ cur.length) (h1 : ∀ v ∈ cs, v.oneCell' = true)
    (h : ∀ w', Hid (w'.heap[g]? = some (.cells (splice cur (n * k) cs).toArray tr (0, 0))) → w.grownBy w' (some g) → K (a.put op.dst (.slice (some ⟨g, 0, none⟩) (n + m) cap)) w') :
    if Region.wanted op (yielded ops a.tmps) = true then Oper.wp P op a w K Q else E := by
  have hw : Region.wanted op (yielded ops a.tmps) = true := by simp [Region.wanted, hgd]
  rw [if_pos hw]
  obtain ⟨w', hrun, hrow, hb⟩ := run_append_gp (P := P) w t op.type e k g n cap sp m c cur tr cs hu hs hg hn hroom hpos hfit h1
  unfold Oper.wp
  simp [execOp, ho, resolve, invoke, builtin, hd, hsv, hrun, Result.andThen]
  exact h w' hrow hb

/-- 'clear(s)' of a part of such a row. -/
theorem run_clear_gp {P : Program} (w : World) (t e ty : TypeId) (z : Value) (k : Nat) (hu : P.underlying t = some (.slice e)) (hv : ∀ w, (zeroValue e).run P w = .ok z w) (hz : z.cells.size = k) (hz1 : ∀ u ∈ z.cells.toList, u.oneCell' = true)
    (g o n c : Nat) (cur : List Value) (tr : TypeId) (hg : w.heap[g]? = some (.cells cur.toArray tr (0, 0))) (hn : 0 < n) (hfit : o + n * k ≤ cur.length) (hk : 0 < k) :
    ∃ w', (Builtin.clear_ #[t] ty #[.slice (some ⟨g, o, none⟩) n c]).run P w = .ok (.tuple #[]) w' ∧ w'.heap[g]? = some (.cells (splice cur o (Builtin.zeroCells z.cells n).toList).toArray tr (0, 0)) ∧ w.grownBy w' (some g) := by
  have hlen : (Builtin.zeroCells z.cells n).toList.length = n * k := by simp [Builtin.zeroCells, hz]
  have h1 : ∀ v ∈ (Builtin.zeroCells z.cells n).toList, v.oneCell' = true := by
    intro v hv
    simp only [Builtin.zeroCells, Array.toList_map, List.mem_map] at hv
    obtain ⟨i, _, rfl⟩ := hv
    have hi : i % z.cells.size < z.cells.size := Nat.mod_lt _ (by omega)
    rw [getElem!_pos z.cells _ hi]
    exact hz1 _ (by simp)
  have hst := run_storeCells_at P g o tr (Builtin.zeroCells z.cells n).toList 0 cur.toArray w hg (by simp only [Nat.add_zero, List.size_toArray]; omega) h1
  refine ⟨_, ?_, setRow_heap w g _ _ tr _ hg, ⟨rfl, rfl, rfl, by simp, fun k _ hk => setRow_other w g k _ (fun e => hk (by rw [e]))⟩⟩
  obtain ⟨m, rfl⟩ : ∃ m, n = m + 1 := ⟨n - 1, by omega⟩
  simp [Builtin.clear_, run_underlying hu, hv, hst, splice]

theorem step_clear_gp {P : Program} {ops : Array Oper} {op : Oper} {a : Act} {w : World} {K : Act → World → Prop} {Q : Exit → Act → World → Prop} {E : Prop} (hgd : op.guard = none) (s : Operand) (t : TypeId)
    (ho : op.op = .call { callee := .builtin .clear, args := #[s], argTypes := #[t] }) (e : TypeId) (z : Value) (k : Nat) (hu : P.underlying t = some (.slice e)) (hv : ∀ w, (zeroValue e).run P w = .ok z w) (hz : z.cells.size = k) (hz1 : ∀ u ∈ z.cells.toList, u.oneCell' = true)
    (g o n c : Nat) (hd : a.eval s = .slice (some ⟨g, o, none⟩) n c) (cur : List Value) (tr : TypeId) (hg : w.heap[g]? = some (.cells cur.toArray tr (0, 0))) (hn : 0 < n) (hfit : o + n * k ≤ cur.length) (hk : 0 < k)
    (h : ∀ w', Hid (w'.heap[g]? = some (.cells (splice cur o (Builtin.zeroCells z.cells n).toList).toArray tr (0, 0))) → w.grownBy w' (some g) → K (a.put op.dst (.tuple #[])) w') :
    if Region.wanted op (yielded ops a.tmps) = true then Oper.wp P op a w K Q else E := by
  have hw : Region.wanted op (yielded ops a.tmps) = true := by simp [Region.wanted, hgd]
  rw [if_pos hw]
  obtain ⟨w', hrun, hrow, hb⟩ := run_clear_gp (P := P) w t e op.type z k hu hv hz hz1 g o n c cur tr hg hn hfit hk
  unfold Oper.wp
  simp [execOp, ho, resolve, invoke, builtin, hd, hrun, Result.andThen]
  exact h w' hrow hb
end Go.Proofs.Ythmeaclekedilac
