/- A region that draws its order, whose operations only read and whose callees make new memory alone: one walk, in the order of the text, serves every order. The class of worlds: those that come behind w with new blocks and draws. -/
import Derived.Test.YthmeaclekedilacProg
import Derived.WalkKit
import Derived.WalkSpells
import Derived.WalkLawsBesides
import Derived.Deep.QuietTactic
import Derived.BigQuiet
import Derived.Lib.AppendZerosOnto
import Derived.Laws.CopyOwn
import Derived.Laws.Append
import Derived.Laws.AppendOwn
import Derived.Deep.MidRow
import Derived.Deep.RegionWith
import Derived.Lib.SliceRun
namespace Go.Proofs.Ythmeaclekedilac
open Go.RowKit

def In64 (n : Int) : Prop := -9223372036854775808 ≤ n ∧ n ≤ 9223372036854775807

/-- A world behind w: below w's size all is as it was. -/
structure Later (w : World) where
  v : World
  below : Below w.heap.size w v

theorem Later.cell {w : World} (p : Later w) (b o : Nat) (h : b < w.heap.size) : p.v.cell? ⟨b, o, none⟩ = w.cell? ⟨b, o, none⟩ := p.below.cell (p := ⟨b, o, none⟩) h
theorem Later.frozen {w : World} (p : Later w) (b o : Nat) (h : b < w.heap.size) : p.v.frozen? ⟨b, o, none⟩ = w.frozen? ⟨b, o, none⟩ := p.below.frozen (p := ⟨b, o, none⟩) h

theorem wp_region_later {P : Program} {id : Nat} {Q : Exit → Act → World → Prop} {a : Act} {W w : World} {l : List Oper} (HB : Below W.heap.size W w) (hm : P.follows .mixedOrders = true) (hB : Region.lexB .any l.toArray = true)
    (h : wpQuiet P l.toArray (fun w' => ∃ p : Later W, w' = p.v) (fun a' => ∀ w', (∃ p : Later W, w' = p.v) → Q .normal a' w') l a) : (Code.region id l.toArray true).wp P Q a w :=
  wp_region_quiet (C := fun w' => ∃ p : Later W, w' = p.v) hm hB ⟨⟨_, HB.drew⟩, rfl⟩ (by simpa using h)

/-- A callee's contract that ends in Below, met in a world of the class. -/
theorem calls_later {P : Program} {f : FuncId} {args : Array Value} {w : World} {p : Later w} {v : Value}
    (h : Calls P f args p.v fun e w' => e = .returned v ∧ Below p.v.heap.size p.v w') : Calls P f args p.v fun e w'' => e = .returned v ∧ ∃ q : Later w, w'' = q.v :=
  h.mono fun _ w'' ⟨he, hb⟩ => ⟨he, ⟨w'', p.below.trans (hb.mono p.below.size)⟩, rfl⟩

/-- Behind a contract: every old cell and mark reads as before. -/
theorem bcell {W w1 : World} (hb : Below W.heap.size W w1) : (∀ b o, b < W.heap.size → w1.cell? ⟨b, o, none⟩ = W.cell? ⟨b, o, none⟩) ∧ (∀ b o, b < W.heap.size → w1.frozen? ⟨b, o, none⟩ = W.frozen? ⟨b, o, none⟩) ∧ W.heap.size ≤ w1.heap.size :=
  ⟨fun b o h => hb.cell (p := ⟨b, o, none⟩) h, fun b o h => hb.frozen (p := ⟨b, o, none⟩) h, hb.size⟩

theorem below1 (w : World) (o : Obj) : Below w.heap.size w (w.alloc o) := (Below.refl _ _).alloc (Nat.le_refl _) o
theorem below2 (w : World) (o o' : Obj) : Below w.heap.size w ((w.alloc o).alloc o') := (below1 w o).alloc (by simp) o'

theorem bthen {W w1 w2 : World} (h : Below W.heap.size W w1) (h2 : Below w1.heap.size w1 w2) : Below W.heap.size W w2 := h.trans (h2.mono h.size)
theorem balloc {W w1 : World} (h : Below W.heap.size W w1) (o : Obj) : Below W.heap.size W (w1.alloc o) := h.alloc h.size o
theorem bdrew {W w1 : World} (h : Below W.heap.size W w1) : Below W.heap.size W w1.drew := h.drew
theorem bset {W w1 : World} (h : Below W.heap.size W w1) {p : Addr} (hp : W.heap.size ≤ p.block) (u : Value) : Below W.heap.size W (w1.setCell p u) := h.setCell hp u

theorem bset' {W w1 : World} (h : Below W.heap.size W w1) {b o : Nat} (hp : W.heap.size ≤ b) (u : Value) : Below W.heap.size W (w1.setCell ⟨b, o, none⟩ u) := h.setCell hp u

theorem ret_bool {a b : Bool} (h : a = b) : Ending.returned (.bool a) = .returned (.bool b) := by rw [h]
theorem ret_int {k : IntKind} {a b : Int} (h : a = b) : Ending.returned (.int k a) = .returned (.int k b) := by rw [h]
theorem ret_val {a b : Value} (h : a = b) : Ending.returned a = .returned b := by rw [h]

end Go.Proofs.Ythmeaclekedilac
/- slices.Grow and slices.Concat (of two lists), at the three kinds of elements that are met: what comes back is new memory with just those cells. -/
namespace Go.Proofs.Ythmeaclekedilac
open Go.RowKit

/-- From an address on lie these cells; a nil list has no capacity. -/
def RowAt (w : World) (size : Nat) (a : Option Addr) (n c : Nat) (xs : List Value) : Prop :=
  xs.length = n * size ∧ (∀ u ∈ xs, u.oneCell' = true) ∧ ((a = none ∧ n = 0 ∧ c = 0) ∨ ∃ ad : Addr, a = some ad ∧ ∀ j u, xs[j]? = some u → w.cell? (ad.add j) = some u)

theorem lt_of_cellA {w : World} {a : Addr} {v : Value} (h : w.cell? a = some v) : a.block < w.heap.size := by
  rcases Nat.lt_or_ge a.block w.heap.size with h' | h'
  · exact h'
  · simp [World.cell?, Array.getElem?_eq_none h'] at h
theorem cellA_later {w w' : World} {a : Addr} {v : Value} (hb : Below w.heap.size w w') (h : w.cell? a = some v) : w'.cell? a = some v := by
  rw [hb.cell (lt_of_cellA h)]; exact h
theorem RowAt.later {w w' : World} {size n c : Nat} {a : Option Addr} {xs : List Value} (h : RowAt w size a n c xs) (hb : Below w.heap.size w w') : RowAt w' size a n c xs := by
  obtain ⟨h1, h2, h3⟩ := h
  refine ⟨h1, h2, ?_⟩
  rcases h3 with h | ⟨ad, ha, hc⟩
  · exact Or.inl h
  · exact Or.inr ⟨ad, ha, fun j u hj => cellA_later hb (hc j u hj)⟩

/-- 'append(s, xs...)' onto a row of the call's own, whatever list is appended. -/
theorem wpList_append_row {P : Program} {ops : Array Oper} {rest : List Oper} {o : Oper} {a : Act} {Q : Exit → Act → World → Prop} {w : World} (hgd : o.guard = none) (s x : Operand) (t : TypeId)
    (ho : o.op = .call { callee := .builtin .append, args := #[s, x], argTypes := #[t, t] })
    (base : Nat) (e : TypeId) (i : TypeInfo) (z : Value) (size bytes : Nat) (ht : P.underlying t = some (.slice e)) (hi : P.info? e = some i) (hz : i.zero = some z)
    (hsize : i.size = size) (hby : i.bytes = bytes) (hzs : z.cells.size = size) (hsz : 0 < size)
    (v : Value) (n : Nat) (xs : List Value) (hs : a.eval s = v) (hown : w.ownsRow base e size v n xs)
    (ad : Option Addr) (m c : Nat) (news : List Value) (hx : a.eval x = .slice ad m c) (hrow : RowAt w size ad m c news)
    (h63 : n + m ≤ maxLen) (hbytes : (n + m) * bytes ≤ 140737488355328) (hbase : base ≤ w.heap.size)
    (h : ∀ v' w', w'.ownsRow base e size v' (n + m) (xs ++ news) → Below base w w' → wpList P ops Q rest (a.put o.dst v') w') : wpList P ops Q (o :: rest) a w := by
  obtain ⟨h1, h2, h3⟩ := hrow
  rcases h3 with ⟨rfl, rfl, rfl⟩ | ⟨ad', rfl, hc⟩
  · obtain rfl : news = [] := List.eq_nil_of_length_eq_zero (by rw [h1]; simp)
    have hr := run_append_owned_none (P := P) w base t o.type e i size ht hi v n xs hown
    refine wpList_plain hgd fun K hK => ?_
    unfold Oper.wp execOp
    simp only [ho, resolve, invoke, builtin, Sem.run_bind, Sem.run_pure, Result.andThen_ok, List.map_toArray, List.map_cons, List.map_nil, hs, hx, hr]
    exact hK _ _ (h v w (by simpa using hown) (Below.refl _ _))
  · refine wpList_append_own w hgd s x t ho base e i z size bytes ht hi hz hsize hby hzs hsz v n xs hs hown ad' m c news hx h1 hc h2 h63 hbytes hbase ?_
    intro v' w' h4 h5 _
    exact h v' w' h4 ((Below.refl _ _).grown h5 hbase fun k hk => (hown.lt k hk).1)

/-- 'append(nil, make([]T, k)...)', k not 0. -/
theorem wpList_append_zeros {P : Program} {ops : Array Oper} {rest : List Oper} {o : Oper} {a : Act} {Q : Exit → Act → World → Prop} {w : World} (hgd : o.guard = none) (s x : Operand) (t tn : TypeId)
    (ho : o.op = .call { callee := .builtin .append, args := #[s, x], argTypes := #[t, tn] })
    (e : TypeId) (i : TypeInfo) (z : Value) (size bytes : Nat) (ht : P.underlying t = some (.slice e)) (htn : P.underlying tn = some (.int .i64)) (hi : P.info? e = some i) (hz : i.zero = some z)
    (hsize : i.size = size) (hby : i.bytes = bytes) (hzs : z.cells.size = size) (hsz : 0 < size)
    (n : Nat) (h0 : 0 < n) (hs : a.eval s = .slice none 0 0) (hx : a.eval x = .int .i64 n) (h63 : n ≤ 4611686018427387904) (hbytes : n * bytes ≤ 140737488355328)
    (h : ∀ cap w', w'.ownsRow w.heap.size e size (.slice (some ⟨w.heap.size, 0, none⟩) 0 cap) 0 [] → Below w.heap.size w w' → n ≤ cap → cap ≤ 9223372036854775807 → wpList P ops Q rest (a.put o.dst (.slice (some ⟨w.heap.size, 0, none⟩) n cap)) w') : wpList P ops Q (o :: rest) a w := by
  have hr := Lib.run_append_nil_zeros (P := P) w t tn o.type e i z .i64 .i64 ht htn hi hz n h0 (by omega) (by omega) (by rw [hby]; omega)
  refine wpList_plain hgd fun K hK => ?_
  unfold Oper.wp execOp
  simp only [ho, resolve, invoke, builtin, Sem.run_bind, Sem.run_pure, Result.andThen_ok, List.map_toArray, List.map_cons, List.map_nil, hs, hx, hr]
  have hge := grownCap_ge w n 0 e
  have hcm : grownCap w n 0 e ≤ maxLen := grownCap_le_maxLen w n 0 e (by unfold maxLen; omega)
  refine hK _ _ (h _ _ ⟨by simp, Or.inr ⟨w.heap.size, _, _, rfl, Nat.le_refl _, heap_alloc_new w.drew _, Nat.zero_le _, hcm, ?_, by simp⟩⟩ ?_ hge (by unfold maxLen at hcm; omega))
  · simp only [Array.size_append, size_zeroCells, hzs, ← Nat.add_mul]
    congr 1
    omega
  · exact ((Below.refl _ _).drew).alloc (Nat.le_refl _) _

theorem pluck {P : Program} {e : TypeId} {z : Value} {size bytes : Nat} (h : (P.info? e).map (fun i => (i.zero, i.size, i.bytes)) = some (some z, size, bytes)) : ∃ i, P.info? e = some i ∧ i.zero = some z ∧ i.size = size ∧ i.bytes = bytes := by
  cases h' : P.info? e with
  | none => rw [h'] at h; cases h
  | some i =>
    rw [h'] at h
    simp only [Option.map_some, Option.some.injEq, Prod.mk.injEq] at h
    exact ⟨i, rfl, h.1, h.2.1, h.2.2⟩




end Go.Proofs.Ythmeaclekedilac
/- Rows known whole, of elements of several cells: copy, append with room, clear. -/
namespace Go.Proofs.Ythmeaclekedilac
open Go.RowKit

theorem splice_nil {α : Type} (L : List α) (o : Nat) : splice L o [] = L := by simp [splice]

theorem run_copy_sp {P : Program} (w : World) (dT sT ty elem : TypeId) (k : Nat) (dp sp : Option Addr) (dLen dCap sLen sCap : Nat) (g off : Nat) (cur : List Value) (t : TypeId) (cs : List Value)
    (hu : P.underlying dT = some (.slice elem)) (hs : (P.info? elem).map (·.size) = some k)
    (hg : w.heap[g]? = some (.cells cur.toArray t (0, 0))) (hn : cs.length = Nat.min sLen dLen * k)
    (hpos : 0 < cs.length → dp = some ⟨g, off, none⟩ ∧ ∃ ad, sp = some ad ∧ ∀ j v, cs[j]? = some v → w.cell? (ad.add j) = some v)
    (hfit : off + cs.length ≤ cur.length) (h1 : ∀ v ∈ cs, v.oneCell' = true) :
    ∃ w', (Builtin.copy_ #[dT, sT] ty #[.slice dp dLen dCap, .slice sp sLen sCap]).run P w = .ok (goInt (Nat.min sLen dLen)) w' ∧ w'.heap[g]? = some (.cells (splice cur off cs).toArray t (0, 0)) ∧ (∀ B, B ≤ g → Below B w w') ∧ ∀ k, k ≠ g → w'.heap[k]? = w.heap[k]? := by
  obtain ⟨i, hq, hi⟩ : ∃ i, P.info? elem = some i ∧ i.size = k := by
    cases hq : P.info? elem with
    | none => simp [hq] at hs
    | some i => exact ⟨i, rfl, by simpa [hq] using hs⟩
  by_cases h0 : cs.length = 0
  · obtain rfl : cs = [] := List.eq_nil_of_length_eq_zero h0
    refine ⟨w, ?_, by rw [splice_nil]; exact hg, fun B _ => Below.refl _ _, fun _ _ => rfl⟩
    have hm : Nat.min sLen dLen * k = 0 := by simpa using hn.symm
    have hl : ∀ a, (loadCells a 0).run P w = .ok #[] w := fun a => by simpa using run_loadCells_list (P := P) w a [] (by simp)
    cases dp <;> cases sp <;> simp [Builtin.copy_, run_underlying hu, Builtin.lenOf, Builtin.firstCells, sizeOf, typeInfo, hq, hi, hm, hl, storeCells]
  · obtain ⟨rfl, ad, rfl, hsrc⟩ := hpos (by omega)
    have hl := run_loadCells_list (P := P) w ad cs hsrc
    have hst := run_storeCells_at P g off t cs 0 cur.toArray w hg (by simpa using hfit) h1
    refine ⟨_, ?_, setRow_heap w g _ _ t _ hg, fun B hB => below_setRow (Below.refl _ _) hB _, fun k hk => setRow_other w g k _ hk⟩
    simp [Builtin.copy_, run_underlying hu, Builtin.lenOf, Builtin.firstCells, sizeOf, typeInfo, hq, hi, ← hn, hl, hst, splice]

theorem wpList_copy_sp {P : Program} {w : World} {ops : Array Oper} {rest : List Oper} {op : Oper} {a : Act} {Q : Exit → Act → World → Prop} (hgd : op.guard = none) (d s : Operand) (dT sT : TypeId)
    (ho : op.op = .call { callee := .builtin .copy, args := #[d, s], argTypes := #[dT, sT] }) (elem : TypeId) (k : Nat) (hu : P.underlying dT = some (.slice elem)) (hs : (P.info? elem).map (·.size) = some k)
    (dp sp : Option Addr) (dLen dCap sLen sCap : Nat) (hd : a.eval d = .slice dp dLen dCap) (hsv : a.eval s = .slice sp sLen sCap)
    (g off : Nat) (cur : List Value) (t : TypeId) (cs : List Value) (hg : w.heap[g]? = some (.cells cur.toArray t (0, 0))) (hn : cs.length = Nat.min sLen dLen * k)
    (hpos : 0 < cs.length → dp = some ⟨g, off, none⟩ ∧ ∃ ad, sp = some ad ∧ ∀ j v, cs[j]? = some v → w.cell? (ad.add j) = some v)
    (hfit : off + cs.length ≤ cur.length) (h1 : ∀ v ∈ cs, v.oneCell' = true) (B : Nat) (hBg : B ≤ g)
    (h : ∀ w' n, Hid (w'.heap[g]? = some (.cells (splice cur off cs).toArray t (0, 0))) → Below B w w' → Hid (∀ k, k ≠ g → w'.heap[k]? = w.heap[k]?) → wpList P ops Q rest (a.put op.dst (goInt n)) w') : wpList P ops Q (op :: rest) a w := by
  refine wpList_plain hgd fun K hK => ?_
  obtain ⟨w', hrun, hrow, hb, hot⟩ := run_copy_sp (P := P) w dT sT op.type elem k dp sp dLen dCap sLen sCap g off cur t cs hu hs hg hn hpos hfit h1
  unfold Oper.wp
  simp [execOp, ho, resolve, invoke, builtin, hd, hsv, hrun, Result.andThen]
  exact hK _ _ (h w' _ hrow (hb B hBg) hot)

theorem step_copy_sp {P : Program} {ops : Array Oper} {op : Oper} {a : Act} {w : World} {K : Act → World → Prop} {Q : Exit → Act → World → Prop} {E : Prop} (hgd : op.guard = none) (d s : Operand) (dT sT : TypeId)
    (ho : op.op = .call { callee := .builtin .copy, args := #[d, s], argTypes := #[dT, sT] }) (elem : TypeId) (k : Nat) (hu : P.underlying dT = some (.slice elem)) (hs : (P.info? elem).map (·.size) = some k)
    (dp sp : Option Addr) (dLen dCap sLen sCap : Nat) (hd : a.eval d = .slice dp dLen dCap) (hsv : a.eval s = .slice sp sLen sCap)
    (g off : Nat) (cur : List Value) (t : TypeId) (cs : List Value) (hg : w.heap[g]? = some (.cells cur.toArray t (0, 0))) (hn : cs.length = Nat.min sLen dLen * k)
    (hpos : 0 < cs.length → dp = some ⟨g, off, none⟩ ∧ ∃ ad, sp = some ad ∧ ∀ j v, cs[j]? = some v → w.cell? (ad.add j) = some v)
    (hfit : off + cs.length ≤ cur.length) (h1 : ∀ v ∈ cs, v.oneCell' = true) (B : Nat) (hBg : B ≤ g)
    (h : ∀ w' n, Hid (w'.heap[g]? = some (.cells (splice cur off cs).toArray t (0, 0))) → Below B w w' → Hid (∀ k, k ≠ g → w'.heap[k]? = w.heap[k]?) → K (a.put op.dst (goInt n)) w') :
    if Region.wanted op (yielded ops a.tmps) = true then Oper.wp P op a w K Q else E := by
  have hw : Region.wanted op (yielded ops a.tmps) = true := by simp [Region.wanted, hgd]
  rw [if_pos hw]
  obtain ⟨w', hrun, hrow, hb, hot⟩ := run_copy_sp (P := P) w dT sT op.type elem k dp sp dLen dCap sLen sCap g off cur t cs hu hs hg hn hpos hfit h1
  unfold Oper.wp
  simp [execOp, ho, resolve, invoke, builtin, hd, hsv, hrun, Result.andThen]
  exact h w' _ hrow (hb B hBg) hot

/-- 'append(s, x...)' where there is room, into a row that is known whole. -/
theorem run_append_sp {P : Program} (w : World) (t ty e : TypeId) (k : Nat) (g n cap : Nat) (sp : Option Addr) (m c : Nat) (cur : List Value) (tr : TypeId) (cs : List Value)
    (hu : P.underlying t = some (.slice e)) (hs : (P.info? e).map (·.size) = some k) (hg : w.heap[g]? = some (.cells cur.toArray tr (0, 0))) (hn : cs.length = m * k) (hroom : n + m ≤ cap)
    (hpos : 0 < cs.length → ∃ ad, sp = some ad ∧ ∀ j v, cs[j]? = some v → w.cell? (ad.add j) = some v)
    (hfit : n * k + cs.length ≤ cur.length) (h1 : ∀ v ∈ cs, v.oneCell' = true) :
    ∃ w', (Builtin.append_ #[t, t] ty #[.slice (some ⟨g, 0, none⟩) n cap, .slice sp m c]).run P w = .ok (.slice (some ⟨g, 0, none⟩) (n + m) cap) w' ∧ w'.heap[g]? = some (.cells (splice cur (n * k) cs).toArray tr (0, 0)) ∧ ∀ B, B ≤ g → Below B w w' := by
  obtain ⟨i, hq, hi⟩ : ∃ i, P.info? e = some i ∧ i.size = k := by
    cases hq : P.info? e with
    | none => simp [hq] at hs
    | some i => exact ⟨i, rfl, by simpa [hq] using hs⟩
  have hadd : (Addr.add ⟨g, 0, none⟩ (n * k)) = ⟨g, n * k, none⟩ := by
    unfold Addr.add; split
    · rename_i h; rw [h]
    · simp
  by_cases h0 : cs.length = 0
  · obtain rfl : cs = [] := List.eq_nil_of_length_eq_zero h0
    refine ⟨w, ?_, by rw [splice_nil]; exact hg, fun B _ => Below.refl _ _⟩
    have hm : m * k = 0 := by simpa using hn.symm
    have hl : ∀ a, (loadCells a 0).run P w = .ok #[] w := fun a => by simpa using run_loadCells_list (P := P) w a [] (by simp)
    cases sp <;> simp [Builtin.append_, run_underlying hu, Builtin.lenOf, Builtin.firstCells, sizeOf, typeInfo, hq, hi, hm, hl, hroom, storeCells]
  · obtain ⟨ad, rfl, hsrc⟩ := hpos (by omega)
    have hl := run_loadCells_list (P := P) w ad cs hsrc
    have hst := run_storeCells_at P g (n * k) tr cs 0 cur.toArray w hg (by simpa using hfit) h1
    refine ⟨_, ?_, setRow_heap w g _ _ tr _ hg, fun B hB => below_setRow (Below.refl _ _) hB _⟩
    simp [Builtin.append_, run_underlying hu, Builtin.lenOf, Builtin.firstCells, sizeOf, typeInfo, hq, hi, ← hn, hl, hroom, hadd, hst, splice]

theorem step_append_sp {P : Program} {ops : Array Oper} {op : Oper} {a : Act} {w : World} {K : Act → World → Prop} {Q : Exit → Act → World → Prop} {E : Prop} (hgd : op.guard = none) (s x : Operand) (t : TypeId)
    (ho : op.op = .call { callee := .builtin .append, args := #[s, x], argTypes := #[t, t] }) (e : TypeId) (k : Nat) (hu : P.underlying t = some (.slice e)) (hs : (P.info? e).map (·.size) = some k)
    (g n cap : Nat) (sp : Option Addr) (m c : Nat) (hd : a.eval s = .slice (some ⟨g, 0, none⟩) n cap) (hsv : a.eval x = .slice sp m c)
    (cur : List Value) (tr : TypeId) (cs : List Value) (hg : w.heap[g]? = some (.cells cur.toArray tr (0, 0))) (hn : cs.length = m * k) (hroom : n + m ≤ cap)
    (hpos : 0 < cs.length → ∃ ad, sp = some ad ∧ ∀ j v, cs[j]? = some v → w.cell? (ad.add j) = some v)
    (hfit : n * k + cs.length ≤ cur.length) (h1 : ∀ v ∈ cs, v.oneCell' = true) (B : Nat) (hBg : B ≤ g)
    (h : ∀ w', Hid (w'.heap[g]? = some (.cells (splice cur (n * k) cs).toArray tr (0, 0))) → Below B w w' → K (a.put op.dst (.slice (some ⟨g, 0, none⟩) (n + m) cap)) w') :
    if Region.wanted op (yielded ops a.tmps) = true then Oper.wp P op a w K Q else E := by
  have hw : Region.wanted op (yielded ops a.tmps) = true := by simp [Region.wanted, hgd]
  rw [if_pos hw]
  obtain ⟨w', hrun, hrow, hb⟩ := run_append_sp (P := P) w t op.type e k g n cap sp m c cur tr cs hu hs hg hn hroom hpos hfit h1
  unfold Oper.wp
  simp [execOp, ho, resolve, invoke, builtin, hd, hsv, hrun, Result.andThen]
  exact h w' hrow (hb B hBg)

/-- 'clear(s)' of a part of such a row. -/
theorem run_clear_sp {P : Program} (w : World) (t e ty : TypeId) (z : Value) (k : Nat) (hu : P.underlying t = some (.slice e)) (hv : ∀ w, (zeroValue e).run P w = .ok z w) (hz : z.cells.size = k) (hz1 : ∀ u ∈ z.cells.toList, u.oneCell' = true)
    (g o n c : Nat) (cur : List Value) (tr : TypeId) (hg : w.heap[g]? = some (.cells cur.toArray tr (0, 0))) (hn : 0 < n) (hfit : o + n * k ≤ cur.length) (hk : 0 < k) :
    ∃ w', (Builtin.clear_ #[t] ty #[.slice (some ⟨g, o, none⟩) n c]).run P w = .ok (.tuple #[]) w' ∧ w'.heap[g]? = some (.cells (splice cur o (Builtin.zeroCells z.cells n).toList).toArray tr (0, 0)) ∧ ∀ B, B ≤ g → Below B w w' := by
  have hlen : (Builtin.zeroCells z.cells n).toList.length = n * k := by simp [Builtin.zeroCells, hz]
  have h1 : ∀ v ∈ (Builtin.zeroCells z.cells n).toList, v.oneCell' = true := by
    intro v hv
    simp only [Builtin.zeroCells, Array.toList_map, List.mem_map] at hv
    obtain ⟨i, _, rfl⟩ := hv
    have hi : i % z.cells.size < z.cells.size := Nat.mod_lt _ (by omega)
    rw [getElem!_pos z.cells _ hi]
    exact hz1 _ (by simp)
  have hst := run_storeCells_at P g o tr (Builtin.zeroCells z.cells n).toList 0 cur.toArray w hg (by simp only [Nat.add_zero, List.size_toArray]; omega) h1
  refine ⟨_, ?_, setRow_heap w g _ _ tr _ hg, fun B hB => below_setRow (Below.refl _ _) hB _⟩
  obtain ⟨m, rfl⟩ : ∃ m, n = m + 1 := ⟨n - 1, by omega⟩
  simp [Builtin.clear_, run_underlying hu, hv, hst, splice]

theorem step_clear_sp {P : Program} {ops : Array Oper} {op : Oper} {a : Act} {w : World} {K : Act → World → Prop} {Q : Exit → Act → World → Prop} {E : Prop} (hgd : op.guard = none) (s : Operand) (t : TypeId)
    (ho : op.op = .call { callee := .builtin .clear, args := #[s], argTypes := #[t] }) (e : TypeId) (z : Value) (k : Nat) (hu : P.underlying t = some (.slice e)) (hv : ∀ w, (zeroValue e).run P w = .ok z w) (hz : z.cells.size = k) (hz1 : ∀ u ∈ z.cells.toList, u.oneCell' = true)
    (g o n c : Nat) (hd : a.eval s = .slice (some ⟨g, o, none⟩) n c) (cur : List Value) (tr : TypeId) (hg : w.heap[g]? = some (.cells cur.toArray tr (0, 0))) (hn : 0 < n) (hfit : o + n * k ≤ cur.length) (hk : 0 < k) (B : Nat) (hBg : B ≤ g)
    (h : ∀ w', Hid (w'.heap[g]? = some (.cells (splice cur o (Builtin.zeroCells z.cells n).toList).toArray tr (0, 0))) → Below B w w' → K (a.put op.dst (.tuple #[])) w') :
    if Region.wanted op (yielded ops a.tmps) = true then Oper.wp P op a w K Q else E := by
  have hw : Region.wanted op (yielded ops a.tmps) = true := by simp [Region.wanted, hgd]
  rw [if_pos hw]
  obtain ⟨w', hrun, hrow, hb⟩ := run_clear_sp (P := P) w t e op.type z k hu hv hz hz1 g o n c cur tr hg hn hfit hk
  unfold Oper.wp
  simp [execOp, ho, resolve, invoke, builtin, hd, hrun, Result.andThen]
  exact h w' hrow (hb B hBg)
theorem wpList_clear_sp {P : Program} {w : World} {ops : Array Oper} {rest : List Oper} {op : Oper} {a : Act} {Q : Exit → Act → World → Prop} (hgd : op.guard = none) (s : Operand) (t : TypeId)
    (ho : op.op = .call { callee := .builtin .clear, args := #[s], argTypes := #[t] }) (e : TypeId) (z : Value) (k : Nat) (hu : P.underlying t = some (.slice e)) (hv : ∀ w, (zeroValue e).run P w = .ok z w) (hz : z.cells.size = k) (hz1 : ∀ u ∈ z.cells.toList, u.oneCell' = true)
    (g o n c : Nat) (hd : a.eval s = .slice (some ⟨g, o, none⟩) n c) (cur : List Value) (tr : TypeId) (hg : w.heap[g]? = some (.cells cur.toArray tr (0, 0))) (hn : 0 < n) (hfit : o + n * k ≤ cur.length) (hk : 0 < k) (B : Nat) (hBg : B ≤ g)
    (h : ∀ w', Hid (w'.heap[g]? = some (.cells (splice cur o (Builtin.zeroCells z.cells n).toList).toArray tr (0, 0))) → Below B w w' → wpList P ops Q rest (a.put op.dst (.tuple #[])) w') : wpList P ops Q (op :: rest) a w := by
  refine wpList_plain hgd fun K hK => ?_
  obtain ⟨w', hrun, hrow, hb⟩ := run_clear_sp (P := P) w t e op.type z k hu hv hz hz1 g o n c cur tr hg hn hfit hk
  unfold Oper.wp
  simp [execOp, ho, resolve, invoke, builtin, hd, hrun, Result.andThen]
  exact hK _ _ (h w' hrow (hb B hBg))
end Go.Proofs.Ythmeaclekedilac
/- Requests in memory: what their cells hold, and that new memory turns none of it. -/
namespace Go.Proofs.Ythmeaclekedilac
open Go.RowKit

/-- From an address on lie these texts. -/
def StrsAt (w : World) (a : Option Addr) (xs : List ByteArray) : Prop :=
  xs = [] ∨ ∃ b o, a = some ⟨b, o, none⟩ ∧ ∀ i, i < xs.length → w.cell? ⟨b, o + i, none⟩ = some (.string (xs.getD i ByteArray.empty))
/-- From an address on lie these whole numbers. -/
def IntsAt (w : World) (a : Option Addr) (xs : List Int) : Prop :=
  xs = [] ∨ ∃ b o, a = some ⟨b, o, none⟩ ∧ ∀ i, i < xs.length → w.cell? ⟨b, o + i, none⟩ = some (.int .i64 (xs.getD i 0))

theorem lt_of_cell {w : World} {b o : Nat} {v : Value} (h : w.cell? ⟨b, o, none⟩ = some v) : b < w.heap.size := by
  rcases Nat.lt_or_ge b w.heap.size with h' | h'
  · exact h'
  · simp [World.cell?, Array.getElem?_eq_none h'] at h

theorem cell_later' {w w' : World} {b o : Nat} {v : Value} (hb : Below w.heap.size w w') (h : w.cell? ⟨b, o, none⟩ = some v) : w'.cell? ⟨b, o, none⟩ = some v := by
  rw [hb.cell (p := ⟨b, o, none⟩) (lt_of_cell h)]; exact h

theorem alloc_cell {w : World} {b o : Nat} {v : Value} (h : w.cell? ⟨b, o, none⟩ = some v) (x : Obj) : (w.alloc x).cell? ⟨b, o, none⟩ = some v := by
  rw [World.cell?_alloc_lt w x _ (lt_of_cell h)]; exact h

theorem StrsAt.later {w w' : World} {a : Option Addr} {xs : List ByteArray} (h : StrsAt w a xs) (hb : Below w.heap.size w w') : StrsAt w' a xs := by
  rcases h with h | ⟨b, o, ha, hc⟩
  · exact Or.inl h
  · exact Or.inr ⟨b, o, ha, fun i hi => cell_later' hb (hc i hi)⟩
theorem IntsAt.later {w w' : World} {a : Option Addr} {xs : List Int} (h : IntsAt w a xs) (hb : Below w.heap.size w w') : IntsAt w' a xs := by
  rcases h with h | ⟨b, o, ha, hc⟩
  · exact Or.inl h
  · exact Or.inr ⟨b, o, ha, fun i hi => cell_later' hb (hc i hi)⟩

/-- A request: its cells, and what its lists hold. -/
structure Rq where
  wr : Bool
  f : Int
  m : Int
  da : Option Addr
  dc : Nat
  data : List ByteArray
  ta : Option Addr
  tc : Nat
  tags : List Int
  born : Int

def Rq.cell (r : Rq) : Nat → Value
  | 0 => .bool r.wr
  | 1 => .int .i64 r.f
  | 2 => .int .i64 r.m
  | 3 => .slice r.da r.data.length r.dc
  | 4 => .slice r.ta r.tags.length r.tc
  | _ => .int .i64 r.born
abbrev Rq.val (r : Rq) : Value := .agg #[.bool r.wr, .int .i64 r.f, .int .i64 r.m, .slice r.da r.data.length r.dc, .slice r.ta r.tags.length r.tc, .int .i64 r.born]

/-- The request's lists lie in this world; its numbers are whole numbers of 64 bits. -/
structure Rq.At (r : Rq) (w : World) : Prop where
  data : StrsAt w r.da r.data
  tags : IntsAt w r.ta r.tags
  dl : r.data.length ≤ 9223372036854775807
  tl : r.tags.length ≤ 9223372036854775807
  f : In64 r.f
  m : In64 r.m
  born : In64 r.born
  dn : r.da = none → r.dc = 0
  tn : r.ta = none → r.tc = 0

theorem Rq.At.later {r : Rq} {w w' : World} (h : r.At w) (hb : Below w.heap.size w w') : r.At w' :=
  ⟨h.data.later hb, h.tags.later hb, h.dl, h.tl, h.f, h.m, h.born, h.dn, h.tn⟩

/-- From an address on lie these requests. -/
def ReqsAt (w : World) (a : Option Addr) (l : List Rq) : Prop :=
  (l = [] ∨ ∃ b o, a = some ⟨b, o, none⟩ ∧ ∀ i (h : i < l.length) j, j < 6 → w.cell? ⟨b, o + i * 6 + j, none⟩ = some (l[i].cell j)) ∧ (∀ r ∈ l, r.At w) ∧ l.length ≤ 9223372036854775807

theorem ReqsAt.later {w w' : World} {a : Option Addr} {l : List Rq} (h : ReqsAt w a l) (hb : Below w.heap.size w w') : ReqsAt w' a l := by
  obtain ⟨h1, h2, h3⟩ := h
  refine ⟨?_, fun r hr => (h2 r hr).later hb, h3⟩
  rcases h1 with h | ⟨b, o, ha, hc⟩
  · exact Or.inl h
  · exact Or.inr ⟨b, o, ha, fun i hi j hj => cell_later' hb (hc i hi j hj)⟩

/-! ### LightReq, LightReqs -/
def lightB (r : Rq) : Bool := decide (r.data.length ≤ 8) && decide (r.tags.length ≤ 8) && r.data.all fun s => decide (s.size ≤ 10)

set_option maxHeartbeats 400000 in
theorem light_long (r : Rq) (w : World) (hr : r.At w) (h : 8 < r.data.length ∨ 8 < r.tags.length) :
    Calls Try.prog 49 #[r.val] w fun e w' => e = .returned (.bool false) ∧ Below w.heap.size w w' := by
  obtain ⟨wr, f, m, da, dc, data, ta, tc, tags, born⟩ := r
  have hl1 := hr.dl
  have hl2 := hr.tl
  simp only at h hl1 hl2
  by_cases h1 : 8 < data.length
  · go_enter Try.func49, Try.ntmps49
    go_wp2
    go_ret
    exact ⟨rfl, by repeat (first | with_reducible exact Below.refl _ _ | with_reducible refine balloc ?_ _ | with_reducible refine bdrew ?_ | with_reducible refine bset' ?_ (by omega) _ | with_reducible refine bthen ?_ (by assumption))⟩
  · have h2 : 8 < tags.length := by omega
    go_enter Try.func49, Try.ntmps49
    go_wp2
    go_ret
    exact ⟨rfl, by repeat (first | with_reducible exact Below.refl _ _ | with_reducible refine balloc ?_ _ | with_reducible refine bdrew ?_ | with_reducible refine bset' ?_ (by omega) _ | with_reducible refine bthen ?_ (by assumption))⟩

theorem all_take {α : Type} {p : α → Bool} {l : List α} {k : Nat} (h : k < l.length) (h1 : (l.take k).all p = true) (h2 : p l[k] = true) : (l.take (k + 1)).all p = true := by
  rw [List.take_succ_eq_append_getElem h, List.all_append, h1]; simp [h2]
theorem all_stop {α : Type} {p : α → Bool} {l : List α} {k : Nat} (h : k < l.length) (hp : p l[k] = false) : l.all p = false := by
  rw [List.all_eq_false]
  exact ⟨l[k], by simp, by rw [hp]; exact Bool.false_ne_true⟩
theorem all_end {α : Type} {p : α → Bool} {l : List α} {k : Nat} (h : l.length ≤ k) (h1 : (l.take k).all p = true) : l.all p = true := by
  rwa [List.take_of_length_le h] at h1

set_option maxHeartbeats 400000 in
theorem light_short (r : Rq) (w : World) (hr : r.At w) (h1 : r.data.length ≤ 8) (h2 : r.tags.length ≤ 8) :
    Calls Try.prog 49 #[r.val] w fun e w' => e = .returned (.bool (r.data.all fun s => decide (s.size ≤ 10))) ∧ Below w.heap.size w w' := by
  obtain ⟨wr, f, m, da, dc, data, ta, tc, tags, born⟩ := r
  obtain ⟨hs, -, -, -, -, -, -⟩ := hr
  simp only at h1 h2 hs
  simp only [Rq.val]
  rcases hs with rfl | ⟨b, o, rfl, hcell⟩
  · go_enter Try.func49, Try.ntmps49
    go_wp2
    go_loop [3] (fun i => i = .int .i64 0) (fun _ => 0)
    case atStart => rfl
    case round =>
      subst hrel
      go_wp2
      go_ret
      exact ⟨rfl, by repeat (first | with_reducible exact Below.refl _ _ | with_reducible refine balloc ?_ _ | with_reducible refine bdrew ?_ | with_reducible refine bset' ?_ (by omega) _ | with_reducible refine bthen ?_ (by assumption))⟩
  · have HA : Hid (∀ i, i < data.length → w.cell? ⟨b, o + i, none⟩ = some (.string (data.getD i ByteArray.empty))) := hcell
    clear hcell
    go_enter Try.func49, Try.ntmps49
    go_wp2
    go_loop [3] (fun i => ∃ k : Nat, k ≤ data.length ∧ i = .int .i64 k ∧ (data.take k).all (fun s => decide (s.size ≤ 10)) = true) (fun i => data.length - (intOf i).toNat)
    case atStart => exact ⟨0, by omega, rfl, by simp⟩
    case round =>
      obtain ⟨k, hk, rfl, hall⟩ := hrel
      have HL : Hid ((data.take k).all (fun s => decide (s.size ≤ 10)) = true) := hall
      clear hall
      by_cases hlt : k < data.length
      · have hck := HA.out k hlt
        have hcl := alloc_cell hck
        go_wp2
        · go_ret
          exact ⟨ret_bool (all_stop hlt (by simp only [decide_eq_false_iff_not]; omega)).symm, by repeat (first | with_reducible exact Below.refl _ _ | with_reducible refine balloc ?_ _ | with_reducible refine bdrew ?_ | with_reducible refine bset' ?_ (by omega) _ | with_reducible refine bthen ?_ (by assumption))⟩
        · go_round
          case rel => exact ⟨k + 1, by omega, by go_num, all_take hlt HL.out (by simp only [decide_eq_true_eq]; omega)⟩
          case measure => simp [intOf]; omega
      · go_wp2
        go_ret
        exact ⟨ret_bool (all_end (by omega) HL.out).symm, by repeat (first | with_reducible exact Below.refl _ _ | with_reducible refine balloc ?_ _ | with_reducible refine bdrew ?_ | with_reducible refine bset' ?_ (by omega) _ | with_reducible refine bthen ?_ (by assumption))⟩

theorem light_any (r : Rq) (w : World) (hr : r.At w) (b : Bool) (hb : lightB r = b) :
    Calls Try.prog 49 #[r.val] w fun e w' => e = .returned (.bool b) ∧ Below w.heap.size w w' := by
  subst hb
  by_cases h : r.data.length ≤ 8 ∧ r.tags.length ≤ 8
  · have e : lightB r = r.data.all fun s => decide (s.size ≤ 10) := by simp [lightB, h.1, h.2]
    rw [e]; exact light_short r w hr h.1 h.2
  · have e : lightB r = false := by
      simp only [lightB, Bool.and_eq_false_iff, decide_eq_false_iff_not]; left; omega
    rw [e]; exact light_long r w hr (by omega)

/-- What request i of a list has in its cells. -/
theorem ReqsAt.cells {w : World} {b o : Nat} {l : List Rq} (h : ReqsAt w (some ⟨b, o, none⟩) l) {i : Nat} (hi : i < l.length) :
    w.cell? ⟨b, o + i * 6, none⟩ = some (.bool l[i].wr) ∧ w.cell? ⟨b, o + i * 6 + 1, none⟩ = some (.int .i64 l[i].f) ∧ w.cell? ⟨b, o + i * 6 + 2, none⟩ = some (.int .i64 l[i].m) ∧
      w.cell? ⟨b, o + i * 6 + 3, none⟩ = some (.slice l[i].da l[i].data.length l[i].dc) ∧ w.cell? ⟨b, o + i * 6 + 4, none⟩ = some (.slice l[i].ta l[i].tags.length l[i].tc) ∧ w.cell? ⟨b, o + i * 6 + 5, none⟩ = some (.int .i64 l[i].born) := by
  rcases h.1 with rfl | ⟨b', o', ha, hc⟩
  · exact absurd hi (Nat.not_lt_zero _)
  · simp only [Option.some.injEq, Addr.mk.injEq, and_true] at ha
    obtain ⟨rfl, rfl⟩ := ha
    exact ⟨hc i hi 0 (by omega), hc i hi 1 (by omega), hc i hi 2 (by omega), hc i hi 3 (by omega), hc i hi 4 (by omega), hc i hi 5 (by omega)⟩
theorem ReqsAt.form {w : World} {a : Option Addr} {l : List Rq} (h : ReqsAt w a l) : l = [] ∨ ∃ b o, a = some ⟨b, o, none⟩ := by
  rcases h.1 with h | ⟨b, o, ha, _⟩
  · exact Or.inl h
  · exact Or.inr ⟨b, o, ha⟩

def lightsB (l : List Rq) : Bool := decide (l.length ≤ 10) && l.all lightB

end Go.Proofs.Ythmeaclekedilac
/- What turns: only the blocks of a set, and new ones. Rows and requests that lie elsewhere stand. -/
namespace Go.Proofs.Ythmeaclekedilac
open Go.RowKit

/-- Of the blocks that were there only those of F may have turned. -/
structure Only (F : Nat → Prop) (w w' : World) : Prop where
  os : w'.os = w.os
  tape : w'.tape = w.tape
  output : w'.output = w.output
  size : w.heap.size ≤ w'.heap.size
  block : ∀ k, k < w.heap.size → ¬ F k → w'.heap[k]? = w.heap[k]?

theorem Only.refl (F : Nat → Prop) (w : World) : Only F w w := ⟨rfl, rfl, rfl, Nat.le_refl _, fun _ _ _ => rfl⟩
theorem Only.trans {F F' : Nat → Prop} {a b c : World} (h : Only F a b) (k : Only F' b c) (hF : ∀ i, F' i → F i ∨ a.heap.size ≤ i) : Only F a c :=
  ⟨k.os.trans h.os, k.tape.trans h.tape, k.output.trans h.output, Nat.le_trans h.size k.size, fun i hi hn =>
    (k.block i (Nat.lt_of_lt_of_le hi h.size) (fun e => (hF i e).elim hn (fun h' => by omega))).trans (h.block i hi hn)⟩
theorem Only.mono {F F' : Nat → Prop} {a b : World} (h : Only F a b) (hF : ∀ i, F i → F' i) : Only F' a b :=
  ⟨h.os, h.tape, h.output, h.size, fun i hi hn => h.block i hi (fun e => hn (hF i e))⟩
theorem Only.of_below {F : Nat → Prop} {a b : World} (h : Below a.heap.size a b) : Only F a b := ⟨h.os, h.tape, h.output, h.size, fun i hi _ => h.block i hi⟩
theorem Only.below {F : Nat → Prop} {a b : World} {B : Nat} (h : Only F a b) (hB : B ≤ a.heap.size) (hF : ∀ i, F i → B ≤ i) : Below B a b :=
  ⟨h.os, h.tape, h.output, h.size, fun i hi => h.block i (by omega) (fun e => by have := hF i e; omega)⟩
theorem Only.grown {F : Nat → Prop} {a b c : World} {row : Option Nat} (h : Only F a b) (hg : b.grownBy c row) (hr : ∀ k, row = some k → F k ∨ a.heap.size ≤ k) : Only F a c :=
  h.trans (F' := fun i => row = some i) ⟨hg.os, hg.tape, hg.output, hg.size, fun k hk hn => hg.block k hk (fun e => hn e.symm)⟩ (fun i e => hr i e)
theorem Only.alloc {F : Nat → Prop} {a b : World} (h : Only F a b) (o : Obj) : Only F a (b.alloc o) :=
  h.trans (F' := fun _ => False) ⟨rfl, rfl, rfl, by simp, fun k hk _ => Below.heap_alloc _ _ _ hk⟩ (fun _ e => e.elim)
theorem Only.drew {F : Nat → Prop} {a b : World} (h : Only F a b) : Only F a b.drew := ⟨h.os, h.tape, h.output, h.size, h.block⟩
theorem Only.setCell {F : Nat → Prop} {a b : World} (h : Only F a b) (p : Addr) (hp : F p.block ∨ a.heap.size ≤ p.block) (u : Value) : Only F a (b.setCell p u) :=
  h.trans (F' := fun i => i = p.block) ⟨rfl, rfl, rfl, by simp [World.setCell], fun k _ hn => Below.heap_setCell _ _ _ _ hn⟩ (fun i e => by subst e; exact hp)
theorem Only.later {F : Nat → Prop} {a b c : World} (h : Only F a b) (k : Below b.heap.size b c) : Only F a c := h.trans (F' := fun _ => False) (Only.of_below k) (fun _ e => e.elim)
theorem Only.cell {F : Nat → Prop} {a b : World} (h : Only F a b) {p : Addr} (hp : p.block < a.heap.size) (hn : ¬ F p.block) : b.cell? p = a.cell? p := World.cell?_of_block (w := a) (h.block p.block hp hn)
theorem Only.frozen {F : Nat → Prop} {a b : World} (h : Only F a b) {p : Addr} (hp : p.block < a.heap.size) (hn : ¬ F p.block) : b.frozen? p = a.frozen? p := World.frozen?_of_block (w := a) (h.block p.block hp hn)

/-! ### blocks known whole -/
theorem set_same {w : World} {b : Nat} {cs : List Value} {T : TypeId} (h : w.heap[b]? = some (.cells cs.toArray T (0, 0))) (j : Nat) (u : Value) : (w.setCell ⟨b, j, none⟩ u).heap[b]? = some (.cells (cs.set j u).toArray T (0, 0)) := by
  simp only [World.setCell, Array.getElem?_modify]
  simp [h]
theorem set_other {w : World} {b k : Nat} (j : Nat) (u : Value) (hk : k ≠ b) : (w.setCell ⟨b, j, none⟩ u).heap[k]? = w.heap[k]? := Below.heap_setCell _ _ _ _ hk
theorem lt_of_heap {w : World} {b : Nat} {o : Obj} (h : w.heap[b]? = some o) : b < w.heap.size := by
  rcases Nat.lt_or_ge b w.heap.size with h' | h'
  · exact h'
  · rw [Array.getElem?_eq_none h'] at h; cases h
theorem cell_of_heap {w : World} {b : Nat} {cs : List Value} {T : TypeId} (h : w.heap[b]? = some (.cells cs.toArray T (0, 0))) (j : Nat) : w.cell? ⟨b, j, none⟩ = cs[j]? := by simp [World.cell?, h]
theorem frozen_of_heap {w : World} {b : Nat} {cs : List Value} {T : TypeId} (h : w.heap[b]? = some (.cells cs.toArray T (0, 0))) (j : Nat) : w.frozen? ⟨b, j, none⟩ = false := by simp [World.frozen?, h]
theorem setCells_heap (b : Nat) (T : TypeId) : ∀ (vs : List Value) (o : Nat) (cs : List Value) (w : World), w.heap[b]? = some (.cells cs.toArray T (0, 0)) → o + vs.length ≤ cs.length → (w.setCells b o vs).heap[b]? = some (.cells (splice cs o vs).toArray T (0, 0))
  | [], o, cs, w, h, _ => by rw [splice_nil]; exact h
  | v :: r, o, cs, w, h, hl => by
    have hl' : o + 1 + r.length ≤ (cs.set o v).length := by simp at hl ⊢; omega
    have := setCells_heap b T r (o + 1) (cs.set o v) _ (set_same h o v) hl'
    rw [World.setCells, this]
    congr 3
    have ho : o < cs.length := by simp at hl; omega
    simp only [splice]
    rw [List.set_eq_take_append_cons_drop, if_pos ho]
    have e : (cs.take o).length = o := by rw [List.length_take]; omega
    simp only [List.length_cons]
    rw [List.take_append, e, List.take_of_length_le (by omega : (cs.take o).length ≤ o + 1), show o + 1 - o = 1 by omega, List.take_succ_cons, List.take_zero, List.drop_append, e, List.drop_eq_nil_of_le (by omega : (cs.take o).length ≤ o + 1 + r.length), show o + 1 + r.length - o = r.length + 1 by omega, List.drop_succ_cons, List.drop_drop]
    simp [Nat.add_comm, Nat.add_left_comm]
theorem setCells_other (b : Nat) : ∀ (vs : List Value) (o : Nat) (w : World) (k : Nat), k ≠ b → (w.setCells b o vs).heap[k]? = w.heap[k]?
  | [], _, _, _, _ => rfl
  | v :: r, o, w, k, h => by rw [World.setCells, setCells_other b r (o + 1) _ k h, set_other _ _ h]
theorem setCells_only {F : Nat → Prop} {a : World} (b : Nat) (hb : F b ∨ a.heap.size ≤ b) : ∀ (vs : List Value) (o : Nat) (w : World), Only F a w → Only F a (w.setCells b o vs)
  | [], _, _, h => h
  | v :: r, o, w, h => by rw [World.setCells]; exact setCells_only b hb r (o + 1) _ (h.setCell _ hb v)

/-! ### rows -/
theorem own_frame {w w' : World} {base e size n : Nat} {v : Value} {xs : List Value} (h : w.ownsRow base e size v n xs) (hk : ∀ g, v.ownBlock = some g → w'.heap[g]? = w.heap[g]?) : w'.ownsRow base e size v n xs := by
  refine ⟨h.1, h.2.elim Or.inl ?_⟩
  rintro ⟨g, cap, cur, rfl, hg, hh, r⟩
  exact Or.inr ⟨g, cap, cur, rfl, hg, by rw [hk g rfl]; exact hh, r⟩
/-- 'append(s, x...)' onto a row of its own: in place, or in a new block. -/
theorem run_push {P : Program} (w : World) (base : Nat) (t ty e : TypeId) (i : TypeInfo) (z : Value) (size bytes : Nat) (ht : P.underlying t = some (.slice e)) (hi : P.info? e = some i) (hz : i.zero = some z)
    (hsize : i.size = size) (hby : i.bytes = bytes) (hzs : z.cells.size = size) (hsz : 0 < size)
    (v : Value) (n : Nat) (xs : List Value) (hown : w.ownsRow base e size v n xs)
    (a : Addr) (m c : Nat) (news : List Value) (hl : news.length = m * size) (hnews : ∀ j u, news[j]? = some u → w.cell? (a.add j) = some u) (h1 : ∀ u ∈ news, u.oneCell' = true) (hm : 0 < m)
    (h63 : n + m ≤ maxLen) (hbytes : (n + m) * bytes ≤ 140737488355328) (hbase : base ≤ w.heap.size) :
    ∃ v' w', (Builtin.append_ #[t, t] ty #[v, .slice (some a) m c]).run P w = .ok v' w' ∧ w'.ownsRow base e size v' (n + m) (xs ++ news) ∧ w.grownBy w' v.ownBlock ∧ (v'.ownBlock = v.ownBlock ∨ v'.ownBlock = some w.heap.size) := by
  obtain ⟨v', w', hrun, r1, r2, r3⟩ := run_append_own (P := P) w base t ty e i z size bytes ht hi hz hsize hby hzs hsz v n xs hown a m c news hl hnews h1 h63 hbytes hbase
  refine ⟨v', w', hrun, r1, r2, ?_⟩
  subst hsize
  subst hby
  have hsmall : n + m ≤ 9223372036854775807 := by simp only [maxLen] at h63; omega
  rcases hown.2 with ⟨rfl, rfl⟩ | ⟨g, cap, cur, rfl, hbg, hg, hnc, hcm, hcs, htake⟩
  · right
    have hr := run_append_nil (P := P) w t ty e i z ht hi hz a m c news hl hnews (by omega) (by omega) (by have hb := hbytes; simp only [Nat.zero_add] at hb; omega)
    rw [hr] at hrun
    simp only [Result.ok.injEq] at hrun
    rw [← hrun.1]; rfl
  · by_cases hroom : n + m ≤ cap
    · left
      have hfit : n * i.size + news.length ≤ cur.size := by rw [hl, hcs, ← Nat.add_mul]; exact Nat.mul_le_mul_right _ hroom
      have hr := run_append_room (P := P) w t ty e i ht hi g n cap cur hg a m c news hl hnews h1 hroom hfit
      rw [hr] at hrun
      simp only [Result.ok.injEq] at hrun
      rw [← hrun.1]; rfl
    · right
      have holds : ∀ j u, xs[j]? = some u → w.cell? ((⟨g, 0, none⟩ : Addr).add j) = some u := hown.cells (g := g) rfl
      have hr := run_append_grow (P := P) w t ty e i z ht hi hz ⟨g, 0, none⟩ n cap xs hown.1 holds a m c news hl hnews (by omega) (by omega) (growslice_fits (by omega) hbytes)
      rw [hr] at hrun
      simp only [Result.ok.injEq] at hrun
      rw [← hrun.1]; rfl
theorem step_push {P : Program} {ops : Array Oper} {o : Oper} {a : Act} {w : World} {K : Act → World → Prop} {Q : Exit → Act → World → Prop} {E : Prop} (hgd : o.guard = none) (s x : Operand) (t : TypeId)
    (hop : o.op = .call { callee := .builtin .append, args := #[s, x], argTypes := #[t, t] }) (base : Nat) (e : TypeId) (i : TypeInfo) (z : Value) (size bytes : Nat) (ht : P.underlying t = some (.slice e)) (hi : P.info? e = some i) (hz : i.zero = some z)
    (hsize : i.size = size) (hby : i.bytes = bytes) (hzs : z.cells.size = size) (hsz : 0 < size)
    (v : Value) (n : Nat) (xs : List Value) (hs : a.eval s = v) (hown : w.ownsRow base e size v n xs)
    (ad : Addr) (m c : Nat) (news : List Value) (hx : a.eval x = .slice (some ad) m c) (hl : news.length = m * size) (hnews : ∀ j u, news[j]? = some u → w.cell? (ad.add j) = some u) (h1 : ∀ u ∈ news, u.oneCell' = true) (hm : 0 < m)
    (h63 : n + m ≤ maxLen) (hbytes : (n + m) * bytes ≤ 140737488355328) (hbase : base ≤ w.heap.size)
    (h : ∀ v' w', w'.ownsRow base e size v' (n + m) (xs ++ news) → w.grownBy w' v.ownBlock → (v'.ownBlock = v.ownBlock ∨ v'.ownBlock = some w.heap.size) → K (a.put o.dst v') w') :
    if Region.wanted o (yielded ops a.tmps) = true then Oper.wp P o a w K Q else E := by
  have hw : Region.wanted o (yielded ops a.tmps) = true := by simp [Region.wanted, hgd]
  rw [if_pos hw]
  obtain ⟨v', w', hrun, r1, r2, r3⟩ := run_push (P := P) w base t o.type e i z size bytes ht hi hz hsize hby hzs hsz v n xs hown ad m c news hl hnews h1 hm h63 hbytes hbase
  unfold Oper.wp
  simp [execOp, hop, resolve, invoke, builtin, hs, hx, hrun, Result.andThen]
  exact h v' w' r1 r2 r3
theorem slice_of_own {w : World} {base e size n : Nat} {v : Value} {xs : List Value} (h : w.ownsRow base e size v n xs) : ∃ a c, v = .slice a n c ∧ (a = none → c = 0) ∧ (∀ ad, a = some ad → ∃ g, ad = ⟨g, 0, none⟩) ∧ c ≤ 9223372036854775807 ∧ n ≤ c := by
  rcases h.2 with ⟨rfl, rfl⟩ | ⟨g, cap, cur, rfl, hg, hh, hnc, hcm, _⟩
  · exact ⟨none, 0, rfl, fun _ => rfl, by simp, by simp, by simp⟩
  · exact ⟨_, cap, rfl, by simp, fun ad e => ⟨g, by simpa using e.symm⟩, by unfold maxLen at hcm; omega, hnc⟩

/-! ### requests that lie elsewhere -/
def Rq.Off (F : Nat → Prop) (r : Rq) : Prop := (r.data ≠ [] → ∀ a, r.da = some a → ¬ F a.block) ∧ (r.tags ≠ [] → ∀ a, r.ta = some a → ¬ F a.block)
theorem strs_frame {F : Nat → Prop} {w w' : World} {a : Option Addr} {xs : List ByteArray} (h : StrsAt w a xs) (hk : Only F w w') (hn : xs ≠ [] → ∀ ad, a = some ad → ¬ F ad.block) : StrsAt w' a xs := by
  rcases h with h | ⟨b, o, ha, hc⟩
  · exact Or.inl h
  · by_cases he : xs = []
    · exact Or.inl he
    · refine Or.inr ⟨b, o, ha, fun i hi => ?_⟩
      rw [hk.cell (p := ⟨b, o + i, none⟩) (lt_of_cell (hc i hi)) (hn he ⟨b, o, none⟩ ha)]
      exact hc i hi
theorem ints_frame {F : Nat → Prop} {w w' : World} {a : Option Addr} {xs : List Int} (h : IntsAt w a xs) (hk : Only F w w') (hn : xs ≠ [] → ∀ ad, a = some ad → ¬ F ad.block) : IntsAt w' a xs := by
  rcases h with h | ⟨b, o, ha, hc⟩
  · exact Or.inl h
  · by_cases he : xs = []
    · exact Or.inl he
    · refine Or.inr ⟨b, o, ha, fun i hi => ?_⟩
      rw [hk.cell (p := ⟨b, o + i, none⟩) (lt_of_cell (hc i hi)) (hn he ⟨b, o, none⟩ ha)]
      exact hc i hi
theorem Rq.At.frame {F : Nat → Prop} {w w' : World} {r : Rq} (h : r.At w) (ho : r.Off F) (hk : Only F w w') : r.At w' :=
  ⟨strs_frame h.data hk ho.1, ints_frame h.tags hk ho.2, h.dl, h.tl, h.f, h.m, h.born, h.dn, h.tn⟩
theorem strs_lt {w : World} {a : Option Addr} {xs : List ByteArray} (h : StrsAt w a xs) (he : xs ≠ []) {ad : Addr} (ha : a = some ad) : ad.block < w.heap.size := by
  rcases h with h | ⟨b, o, ha', hc⟩
  · exact absurd h he
  · rw [ha] at ha'
    simp only [Option.some.injEq] at ha'
    subst ha'
    have : 0 < xs.length := List.length_pos_iff.2 he
    exact lt_of_cell (hc 0 this)
theorem ints_lt {w : World} {a : Option Addr} {xs : List Int} (h : IntsAt w a xs) (he : xs ≠ []) {ad : Addr} (ha : a = some ad) : ad.block < w.heap.size := by
  rcases h with h | ⟨b, o, ha', hc⟩
  · exact absurd h he
  · rw [ha] at ha'
    simp only [Option.some.injEq] at ha'
    subst ha'
    have : 0 < xs.length := List.length_pos_iff.2 he
    exact lt_of_cell (hc 0 this)
theorem Rq.Off.step {F F' : Nat → Prop} {w : World} {r : Rq} (h : r.At w) (ho : r.Off F) (hF : ∀ k, F' k → F k ∨ w.heap.size ≤ k) : r.Off F' :=
  ⟨fun he a ha hk => (hF _ hk).elim (ho.1 he a ha) (fun h' => by have := strs_lt h.data he ha; omega), fun he a ha hk => (hF _ hk).elim (ho.2 he a ha) (fun h' => by have := ints_lt h.tags he ha; omega)⟩
end Go.Proofs.Ythmeaclekedilac
/- slices.Concat of two lists: new memory with the cells of the one, then of the other. -/
namespace Go.Proofs.Ythmeaclekedilac
open Go.RowKit
theorem cellB_later {w w' : World} {b o : Nat} {v : Value} (hb : Below w.heap.size w w') (h : w.cell? ⟨b, o, none⟩ = some v) : w'.cell? ⟨b, o, none⟩ = some v := cellA_later hb h




end Go.Proofs.Ythmeaclekedilac
/- The contracts of package span, and of the spans in the document's answer: what each call returns; it makes new memory alone. -/
namespace Go.Proofs.Ythmeaclekedilac
open Go.RowKit

def hasB (f m a : Int) : Bool := decide (f ≤ a) && decide (0 ≤ wrap64 (a - f)) && decide (wrap64 (a - f) < m)
def inSpan (f m a : Int) : Bool := decide (f ≤ a ∧ a < f + m)
def maxI (f g : Int) : Int := if f < g then g else f
def meetB (f m g n : Int) : Bool := hasB f m (maxI f g) && hasB g n (maxI f g)
/-- A span that may be, of n sectors at most. -/
def okB (f m n : Int) : Bool := decide (0 ≤ f ∧ f < 32 ∧ 1 ≤ m ∧ m ≤ n ∧ m ≤ 32 - f)
def errB (b : Bool) : Value := if b then .nilIface else .iface 47 (.int .i64 1)
def faultB (b : Bool) : Int := if b then 0 else 1

theorem hasB_ok (f m n a : Int) (h : okB f m n = true) (ha : a ≤ 9223372036854775807) : hasB f m a = inSpan f m a := by
  simp only [okB, decide_eq_true_eq] at h
  rw [Bool.eq_iff_iff]
  simp only [hasB, inSpan, Bool.and_eq_true, decide_eq_true_eq]
  by_cases h1 : f ≤ a
  · have : wrap64 (a - f) = a - f := by unfold wrap64; omega
    rw [this]; omega
  · omega

theorem meetB_ok (f m g n : Int) (h : okB f m 32 = true) (k : okB g n 32 = true) : meetB f m g n = decide (f < g + n ∧ g < f + m) := by
  have h' := h; have k' := k
  simp only [okB, decide_eq_true_eq] at h' k'
  have hk : maxI f g ≤ 9223372036854775807 := by unfold maxI; split <;> omega
  unfold meetB
  rw [hasB_ok f m 32 _ h hk, hasB_ok g n 32 _ k hk, Bool.eq_iff_iff]
  simp only [inSpan, Bool.and_eq_true, decide_eq_true_eq]
  unfold maxI; split <;> omega

theorem hasB_yes {f m a : Int} (h1 : f ≤ a) (h2 : 0 ≤ wrap64 (a - f)) : decide (wrap64 (a - f) < m) = hasB f m a := by simp [hasB, h1, h2]
theorem hasB_no1 {f m a : Int} (h2 : wrap64 (a - f) < 0) : false = hasB f m a := by
  have : ¬ 0 ≤ wrap64 (a - f) := by omega
  simp [hasB, this]
theorem hasB_no2 {f m a : Int} (h2 : a < f) : false = hasB f m a := by
  have : ¬ f ≤ a := by omega
  simp [hasB, this]

set_option maxHeartbeats 400000 in
theorem has_any (f m a : Int) (w : World) :
    Calls Try.prog 54 #[.agg #[.int .i64 f, .int .i64 m], .int .i64 a] w fun e w' => e = .returned (.bool (hasB f m a)) ∧ Below w.heap.size w w' := by
  go_enter Try.func54, Try.ntmps54
  go_wp2
  all_goals
    go_ret
    exact ⟨ret_bool (by first | exact hasB_yes ‹_› ‹_› | exact hasB_no1 ‹_› | exact hasB_no2 ‹_›), below1 _ _⟩

set_option maxHeartbeats 400000 in
theorem meet_core (f m g n : Int) (w : World) (b1 b2 : Bool) (k : Int) (hk : maxI f g = k) (h1 : hasB f m k = b1) (h2 : hasB g n k = b2) :
    Calls Try.prog 51 #[.agg #[.int .i64 f, .int .i64 m], .agg #[.int .i64 g, .int .i64 n]] w fun e w' => e = .returned (.bool (b1 && b2)) ∧ Below w.heap.size w w' := by
  by_cases hfg : f < g
  · obtain rfl : g = k := by simpa [maxI, hfg] using hk
    clear hk
    cases b1
    all_goals
      go_enter Try.func51, Try.ntmps51
      go_wp2_with (go_at_call 54; refine (has_any _ _ _ _).mono ?_; rintro e w1 ⟨rfl, hb⟩; (try clear hc hf hz); (first | replace HB := bthen HB hb | replace HB := bthen (bdrew HB) hb | have HB := hb); clear hb; obtain ⟨hc, hf, hz⟩ := bcell HB)
      go_ret
      exact ⟨rfl, by repeat (first | with_reducible exact Below.refl _ _ | with_reducible refine balloc ?_ _ | with_reducible refine bdrew ?_ | with_reducible refine bset' ?_ (by omega) _ | with_reducible refine bthen ?_ (by assumption))⟩
  · obtain rfl : f = k := by simpa [maxI, hfg] using hk
    clear hk
    cases b1
    all_goals
      go_enter Try.func51, Try.ntmps51
      go_wp2_with (go_at_call 54; refine (has_any _ _ _ _).mono ?_; rintro e w1 ⟨rfl, hb⟩; (try clear hc hf hz); (first | replace HB := bthen HB hb | replace HB := bthen (bdrew HB) hb | have HB := hb); clear hb; obtain ⟨hc, hf, hz⟩ := bcell HB)
      go_ret
      exact ⟨rfl, by repeat (first | with_reducible exact Below.refl _ _ | with_reducible refine balloc ?_ _ | with_reducible refine bdrew ?_ | with_reducible refine bset' ?_ (by omega) _ | with_reducible refine bthen ?_ (by assumption))⟩

theorem meet_any (f m g n : Int) (w : World) :
    Calls Try.prog 51 #[.agg #[.int .i64 f, .int .i64 m], .agg #[.int .i64 g, .int .i64 n]] w fun e w' => e = .returned (.bool (meetB f m g n)) ∧ Below w.heap.size w w' :=
  meet_core f m g n w _ _ _ rfl rfl rfl

theorem ok_no {f m n : Int} (h : f < 0 ∨ 31 < f ∨ m < 1 ∨ n < m ∨ 32 - f < m) : okB f m n = false := by
  simp only [okB, decide_eq_false_iff_not]; omega
theorem ok_yes {f m n : Int} (h1 : 0 ≤ f) (h2 : f < 32) (h3 : 1 ≤ m) (h4 : m ≤ n) (h5 : m ≤ 32 - f) : okB f m n = true := by
  simp only [okB, decide_eq_true_eq]; omega

set_option maxHeartbeats 400000 in
theorem check_any (f m n : Int) (w : World) :
    Calls Try.prog 72 #[.agg #[.int .i64 f, .int .i64 m], .int .i64 n] w fun e w' => e = .returned (errB (okB f m n)) ∧ Below w.heap.size w w' := by
  go_enter Try.func72, Try.ntmps72
  go_wp2
  all_goals
    go_ret
    refine ⟨ret_val ?_, below1 _ _⟩
    first | (rw [ok_no (by omega)]; rfl) | (rw [ok_yes (by omega) (by omega) (by omega) (by omega) (by omega)]; rfl)

theorem check_yes (f m n : Int) (w : World) (h : okB f m n = true) :
    Calls Try.prog 72 #[.agg #[.int .i64 f, .int .i64 m], .int .i64 n] w fun e w' => e = .returned .nilIface ∧ Below w.heap.size w w' := by
  have := check_any f m n w; rw [h] at this; exact this
theorem check_no (f m n : Int) (w : World) (h : okB f m n = false) :
    Calls Try.prog 72 #[.agg #[.int .i64 f, .int .i64 m], .int .i64 n] w fun e w' => e = .returned (.iface 47 (.int .i64 1)) ∧ Below w.heap.size w w' := by
  have := check_any f m n w; rw [h] at this; exact this

set_option maxHeartbeats 400000 in
theorem fault_any (f m n : Int) (w : World) :
    Calls Try.prog 55 #[.agg #[.int .i64 f, .int .i64 m], .int .i64 n] w fun e w' => e = .returned (.int .i64 (faultB (okB f m n))) ∧ Below w.heap.size w w' := by
  go_enter Try.func55, Try.ntmps55
  go_wp2
  all_goals
    go_ret
    refine ⟨ret_int ?_, below1 _ _⟩
    first | (rw [ok_no (by omega)]; rfl) | (rw [ok_yes (by omega) (by omega) (by omega) (by omega) (by omega)]; rfl)

theorem meet_eq (f m g n : Int) (w : World) (b : Bool) (h : meetB f m g n = b) :
    Calls Try.prog 51 #[.agg #[.int .i64 f, .int .i64 m], .agg #[.int .i64 g, .int .i64 n]] w fun e w' => e = .returned (.bool b) ∧ Below w.heap.size w w' := by
  subst h; exact meet_any f m g n w
theorem has_eq (f m a : Int) (w : World) (b : Bool) (h : hasB f m a = b) :
    Calls Try.prog 54 #[.agg #[.int .i64 f, .int .i64 m], .int .i64 a] w fun e w' => e = .returned (.bool b) ∧ Below w.heap.size w w' := by
  subst h; exact has_any f m a w
theorem fault_yes (f m n : Int) (w : World) (h : okB f m n = true) :
    Calls Try.prog 55 #[.agg #[.int .i64 f, .int .i64 m], .int .i64 n] w fun e w' => e = .returned (.int .i64 0) ∧ Below w.heap.size w w' := by
  have := fault_any f m n w; rw [h] at this; exact this
theorem fault_no (f m n : Int) (w : World) (h : okB f m n = false) :
    Calls Try.prog 55 #[.agg #[.int .i64 f, .int .i64 m], .int .i64 n] w fun e w' => e = .returned (.int .i64 1) ∧ Below w.heap.size w w' := by
  have := fault_any f m n w; rw [h] at this; exact this
theorem fault_eq (f m n : Int) (w : World) (b : Bool) (h : okB f m n = b) :
    Calls Try.prog 55 #[.agg #[.int .i64 f, .int .i64 m], .int .i64 n] w fun e w' => e = .returned (.int .i64 (faultB b)) ∧ Below w.heap.size w w' := by
  subst h; exact fault_any f m n w

end Go.Proofs.Ythmeaclekedilac
/- The spans of the document's answer: Has, Meet, by their loops; and same: an error told by its number. -/
namespace Go.Proofs.Ythmeaclekedilac
open Go.RowKit

set_option maxHeartbeats 400000 in
theorem same_nil (f : Int) (w : World) :
    Calls Try.prog 13 #[.nilIface, .int .i64 f] w fun e w' => e = .returned (.bool (f == 0)) ∧ Below w.heap.size w w' := by
  go_enter Try.func13, Try.ntmps13
  go_wp2
  go_ret
  exact ⟨rfl, Below.refl _ _⟩

theorem run_assert (n : Int) (w : World) : Sem.run Try.prog (Instr.typeAssert (.iface 47 (.int .i64 n)) 45 47 true) w = .ok (.tuple #[.int .i64 n, .bool true]) w := by kernel_rfl

set_option maxHeartbeats 400000 in
theorem same_err (n f : Int) (w : World) :
    Calls Try.prog 13 #[.iface 47 (.int .i64 n), .int .i64 f] w fun e w' => e = .returned (.bool (decide (0 < f) && (n == f))) ∧ Below w.heap.size w w' := by
  have ra := run_assert n
  by_cases h : 0 < f
  · go_enter Try.func13, Try.ntmps13
    go_wp2
    go_ret
    exact ⟨ret_bool (by simp [h]), Below.refl _ _⟩
  · go_enter Try.func13, Try.ntmps13
    go_wp2
    go_ret
    exact ⟨ret_bool (by rw [decide_eq_false (by omega)]; rfl), Below.refl _ _⟩

def crossB (f m g n : Int) : Bool := decide (f < g + n ∧ g < f + m)
theorem cross_no {f m g n : Int} (h : ¬ (f < g + n ∧ g < f + m)) : crossB f m g n = false := decide_eq_false h
theorem cross_yes {f m g n : Int} (h : f < g + n ∧ g < f + m) : crossB f m g n = true := decide_eq_true h

theorem no_step {f m g n j : Int} (h : ∀ t : Int, 0 ≤ t → t < j → ¬ ((f ≤ t ∧ t < f + m) ∧ (g ≤ t ∧ t < g + n))) (hx : ¬ ((f ≤ j ∧ j < f + m) ∧ (g ≤ j ∧ j < g + n))) :
    ∀ t : Int, 0 ≤ t → t < j + 1 → ¬ ((f ≤ t ∧ t < f + m) ∧ (g ≤ t ∧ t < g + n)) := by
  intro t t0 t1
  by_cases e : t = j
  · subst e; exact hx
  · exact h t t0 (by omega)

end Go.Proofs.Ythmeaclekedilac
/- ReqFault: what is wrong with a request, by B1. -/
namespace Go.Proofs.Ythmeaclekedilac
open Go.RowKit Go.BigFrame
attribute [local go_sem] Later.cell Later.frozen

def shapeBad (r : Rq) : Prop := (r.wr = true ∧ (r.data.length : Int) ≠ r.m) ∨ (r.wr = false ∧ 0 < r.data.length)
def tagsBad (r : Rq) : Prop := r.tags.length < 1 ∨ 4 < r.tags.length
def bornBad (r : Rq) : Prop := r.born < 0 ∨ 1000000000 < r.born
def small4 (r : Rq) : Bool := r.data.all fun s => decide (s.size ≤ 4)
/-- Of a request whose span, shape, tags and birth are all right. -/
structure Fine (r : Rq) : Prop where
  ok : okB r.f r.m 4 = true
  shape : ¬ shapeBad r
  tags : ¬ tagsBad r
  born : ¬ bornBad r

set_option maxHeartbeats 400000 in
theorem rfault_span (r : Rq) (w : World) (h : okB r.f r.m 4 = false) :
    Calls Try.prog 12 #[r.val] w fun e w' => e = .returned (.int .i64 1) ∧ Below w.heap.size w w' := by
  obtain ⟨wr, f, m, da, dc, data, ta, tc, tags, born⟩ := r
  simp only [Rq.val]
  simp only at h
  go_enter Try.func12, Try.ntmps12
  go_wp2_with (go_at_call 55; refine (fault_no _ _ _ _ h).mono ?_; rintro e w1 ⟨rfl, hb⟩; (try clear hc hf hz); (first | replace HB := bthen HB hb | replace HB := bthen (bdrew HB) hb | have HB := hb); clear hb; obtain ⟨hc, hf, hz⟩ := bcell HB)
  go_ret
  exact ⟨rfl, by repeat (first | with_reducible exact Below.refl _ _ | with_reducible refine balloc ?_ _ | with_reducible refine bdrew ?_ | with_reducible refine bset' ?_ (by omega) _ | with_reducible refine bthen ?_ (by assumption))⟩

set_option maxHeartbeats 1000000 in
theorem rfault_shape (r : Rq) (w : World) (hr : r.At w) (h : okB r.f r.m 4 = true) (h2 : shapeBad r) :
    Calls Try.prog 12 #[r.val] w fun e w' => e = .returned (.int .i64 3) ∧ Below w.heap.size w w' := by
  obtain ⟨wr, f, m, da, dc, data, ta, tc, tags, born⟩ := r
  have l1 := hr.dl
  simp only [Rq.val]
  simp only [shapeBad] at h h2 l1
  rcases h2 with ⟨rfl, h2⟩ | ⟨rfl, h2⟩
  · have h3 : ((data.length : Int) != m) = true := by simp only [bne_iff_ne]; exact h2
    go_enter Try.func12, Try.ntmps12
    go_wp2_with (go_at_call 55; refine (fault_yes _ _ _ _ h).mono ?_; rintro e w1 ⟨rfl, hb⟩; (try clear hc hf hz); (first | replace HB := bthen HB hb | replace HB := bthen (bdrew HB) hb | have HB := hb); clear hb; obtain ⟨hc, hf, hz⟩ := bcell HB)
    go_ret
    exact ⟨rfl, by repeat (first | with_reducible exact Below.refl _ _ | with_reducible refine balloc ?_ _ | with_reducible refine bdrew ?_ | with_reducible refine bset' ?_ (by omega) _ | with_reducible refine bthen ?_ (by assumption))⟩
  · go_enter Try.func12, Try.ntmps12
    go_wp2_with (go_at_call 55; refine (fault_yes _ _ _ _ h).mono ?_; rintro e w1 ⟨rfl, hb⟩; (try clear hc hf hz); (first | replace HB := bthen HB hb | replace HB := bthen (bdrew HB) hb | have HB := hb); clear hb; obtain ⟨hc, hf, hz⟩ := bcell HB)
    go_ret
    exact ⟨rfl, by repeat (first | with_reducible exact Below.refl _ _ | with_reducible refine balloc ?_ _ | with_reducible refine bdrew ?_ | with_reducible refine bset' ?_ (by omega) _ | with_reducible refine bthen ?_ (by assumption))⟩

set_option maxHeartbeats 1000000 in
theorem rfault_tags (r : Rq) (w : World) (hr : r.At w) (h : okB r.f r.m 4 = true) (h2 : ¬ shapeBad r) (h3 : tagsBad r) :
    Calls Try.prog 12 #[r.val] w fun e w' => e = .returned (.int .i64 3) ∧ Below w.heap.size w w' := by
  obtain ⟨wr, f, m, da, dc, data, ta, tc, tags, born⟩ := r
  have l1 := hr.dl
  have l2 := hr.tl
  simp only [Rq.val]
  simp only [shapeBad, tagsBad] at h h2 h3 l1 l2
  have h2' : (wr = true ∧ ((data.length : Int) != m) = false) ∨ (wr = false ∧ ¬ (0 : Int) < (data.length : Int)) := by
    cases wr
    · right; refine ⟨rfl, fun h' => h2 (Or.inr ⟨rfl, by omega⟩)⟩
    · left; refine ⟨rfl, ?_⟩; rw [bne_eq_false_iff_eq]; rcases Int.decEq (data.length : Int) m with h' | h'; exact absurd (Or.inl ⟨rfl, h'⟩) h2; exact h'
  clear h2
  rcases h3 with h3 | h3
  all_goals
    rcases h2' with ⟨rfl, h3'⟩ | ⟨rfl, h3'⟩
    all_goals
      go_enter Try.func12, Try.ntmps12
      go_wp2_with (go_at_call 55; refine (fault_yes _ _ _ _ h).mono ?_; rintro e w1 ⟨rfl, hb⟩; (try clear hc hf hz); (first | replace HB := bthen HB hb | replace HB := bthen (bdrew HB) hb | have HB := hb); clear hb; obtain ⟨hc, hf, hz⟩ := bcell HB)
      go_ret
      exact ⟨rfl, by repeat (first | with_reducible exact Below.refl _ _ | with_reducible refine balloc ?_ _ | with_reducible refine bdrew ?_ | with_reducible refine bset' ?_ (by omega) _ | with_reducible refine bthen ?_ (by assumption))⟩

set_option maxHeartbeats 1000000 in
theorem rfault_born (r : Rq) (w : World) (hr : r.At w) (h : okB r.f r.m 4 = true) (h2 : ¬ shapeBad r) (h3 : ¬ tagsBad r) (h4 : bornBad r) :
    Calls Try.prog 12 #[r.val] w fun e w' => e = .returned (.int .i64 1) ∧ Below w.heap.size w w' := by
  obtain ⟨wr, f, m, da, dc, data, ta, tc, tags, born⟩ := r
  have l1 := hr.dl
  have l2 := hr.tl
  simp only [Rq.val]
  simp only [shapeBad, tagsBad, bornBad] at h h2 h3 h4 l1 l2
  have h2' : (wr = true ∧ ((data.length : Int) != m) = false) ∨ (wr = false ∧ ¬ (0 : Int) < (data.length : Int)) := by
    cases wr
    · right; refine ⟨rfl, fun h' => h2 (Or.inr ⟨rfl, by omega⟩)⟩
    · left; refine ⟨rfl, ?_⟩; rw [bne_eq_false_iff_eq]; rcases Int.decEq (data.length : Int) m with h' | h'; exact absurd (Or.inl ⟨rfl, h'⟩) h2; exact h'
  clear h2
  have t1 : ¬ tags.length < 1 := fun h' => h3 (Or.inl h')
  have t2 : ¬ 4 < tags.length := fun h' => h3 (Or.inr h')
  clear h3
  rcases h4 with h4 | h4
  all_goals
    rcases h2' with ⟨rfl, h3'⟩ | ⟨rfl, h3'⟩
    all_goals
      go_enter Try.func12, Try.ntmps12
      go_wp2_with (go_at_call 55; refine (fault_yes _ _ _ _ h).mono ?_; rintro e w1 ⟨rfl, hb⟩; (try clear hc hf hz); (first | replace HB := bthen HB hb | replace HB := bthen (bdrew HB) hb | have HB := hb); clear hb; obtain ⟨hc, hf, hz⟩ := bcell HB)
      go_ret
      exact ⟨rfl, by repeat (first | with_reducible exact Below.refl _ _ | with_reducible refine balloc ?_ _ | with_reducible refine bdrew ?_ | with_reducible refine bset' ?_ (by omega) _ | with_reducible refine bthen ?_ (by assumption))⟩

set_option maxHeartbeats 2000000 in
theorem rfault_data (r : Rq) (w : World) (hr : r.At w) (hfine : Fine r) :
    Calls Try.prog 12 #[r.val] w fun e w' => e = .returned (.int .i64 (faultB (small4 r))) ∧ Below w.heap.size w w' := by
  obtain ⟨h, h2, h3, h4⟩ := hfine
  obtain ⟨wr, f, m, da, dc, data, ta, tc, tags, born⟩ := r
  have l1 := hr.dl
  have l2 := hr.tl
  simp only [Rq.val]
  simp only [shapeBad, tagsBad, bornBad] at h h2 h3 h4 l1 l2
  have h2' : (wr = true ∧ ((data.length : Int) != m) = false) ∨ (wr = false ∧ ¬ (0 : Int) < (data.length : Int)) := by
    cases wr
    · right; refine ⟨rfl, fun h' => h2 (Or.inr ⟨rfl, by omega⟩)⟩
    · left; refine ⟨rfl, ?_⟩; rw [bne_eq_false_iff_eq]; rcases Int.decEq (data.length : Int) m with h' | h'; exact absurd (Or.inl ⟨rfl, h'⟩) h2; exact h'
  clear h2
  have hs := hr.data
  simp only at hs
  have t1 : ¬ tags.length < 1 := fun h' => h3 (Or.inl h')
  have t2 : ¬ 4 < tags.length := fun h' => h3 (Or.inr h')
  have t3 : ¬ born < 0 := fun h' => h4 (Or.inl h')
  have t4 : ¬ 1000000000 < born := fun h' => h4 (Or.inr h')
  clear h3 h4 hr
  simp only [small4]
  rcases h2' with ⟨rfl, h3'⟩ | ⟨rfl, h3'⟩
  · rcases hs with rfl | ⟨b, o, rfl, hcell⟩
    · exfalso
      simp only [okB, decide_eq_true_eq] at h
      simp only [List.length_nil, bne_eq_false_iff_eq] at h3'
      omega
    · have HA : Hid (∀ i, i < data.length → w.cell? ⟨b, o + i, none⟩ = some (.string (data.getD i ByteArray.empty))) := hcell
      clear hcell
      go_enter Try.func12, Try.ntmps12
      go_wp2_with (go_at_call 55; refine (fault_yes _ _ _ _ h).mono ?_; rintro e w1 ⟨rfl, hb⟩; (try clear hc hf hz); (first | replace HB := bthen HB hb | replace HB := bthen (bdrew HB) hb | have HB := hb); clear hb; obtain ⟨hc, hf, hz⟩ := bcell HB)
      go_loopw [4] (fun i wr => ∃ k : Nat, k ≤ data.length ∧ i = .int .i64 k ∧ (data.take k).all (fun s => decide (s.size ≤ 4)) = true ∧ wr = w1) (fun i _ => data.length - (intOf i).toNat)
      case atStart => exact ⟨0, by omega, rfl, by simp, rfl⟩
      case round =>
        clear h l2 t1 t2 t3 t4
        obtain ⟨k, hk, rfl, hall, rfl⟩ := hrel
        have HL : Hid ((data.take k).all (fun s => decide (s.size ≤ 4)) = true) := hall
        clear hall
        by_cases hlt : k < data.length
        · have hck := HA.out k hlt
          have hcl := alloc_cell hck
          have l0 := lt_of_cell hck
          go_wp2
          · go_ret
            exact ⟨ret_int (by rw [all_stop hlt (by simp only [decide_eq_false_iff_not]; omega)]; rfl), by repeat (first | with_reducible exact Below.refl _ _ | with_reducible refine balloc ?_ _ | with_reducible refine bdrew ?_ | with_reducible refine bset' ?_ (by omega) _ | with_reducible refine bthen ?_ (by assumption))⟩
          · go_roundw
            case rel => exact ⟨k + 1, by omega, by go_num, all_take hlt HL.out (by simp only [decide_eq_true_eq]; omega), trivial⟩
            case measure => simp [intOf]; omega
        · go_wp2
          go_ret
          exact ⟨ret_int (by rw [all_end (by omega) HL.out]; rfl), by repeat (first | with_reducible exact Below.refl _ _ | with_reducible refine balloc ?_ _ | with_reducible refine bdrew ?_ | with_reducible refine bset' ?_ (by omega) _ | with_reducible refine bthen ?_ (by assumption))⟩
  · obtain rfl : data = [] := List.eq_nil_of_length_eq_zero (by omega)
    go_enter Try.func12, Try.ntmps12
    go_wp2_with (go_at_call 55; refine (fault_yes _ _ _ _ h).mono ?_; rintro e w1 ⟨rfl, hb⟩; (try clear hc hf hz); (first | replace HB := bthen HB hb | replace HB := bthen (bdrew HB) hb | have HB := hb); clear hb; obtain ⟨hc, hf, hz⟩ := bcell HB)
    go_loop [4] (fun i => i = .int .i64 0) (fun _ => 0)
    case atStart => rfl
    case round =>
      subst hrel
      go_wp2
      go_ret
      exact ⟨rfl, by repeat (first | with_reducible exact Below.refl _ _ | with_reducible refine balloc ?_ _ | with_reducible refine bdrew ?_ | with_reducible refine bset' ?_ (by omega) _ | with_reducible refine bthen ?_ (by assumption))⟩

end Go.Proofs.Ythmeaclekedilac
/- Two lists of texts, of numbers, two requests, two lists of requests: are they the same? -/
namespace Go.Proofs.Ythmeaclekedilac
open Go.RowKit Go.BigFrame
attribute [local go_sem] Later.cell Later.frozen

theorem StrsAt.form {w : World} {a : Option Addr} {l : List ByteArray} (h : StrsAt w a l) : l = [] ∨ ∃ b o, a = some ⟨b, o, none⟩ := by
  rcases h with h | ⟨b, o, ha, _⟩
  · exact Or.inl h
  · exact Or.inr ⟨b, o, ha⟩
theorem IntsAt.form {w : World} {a : Option Addr} {l : List Int} (h : IntsAt w a l) : l = [] ∨ ∃ b o, a = some ⟨b, o, none⟩ := by
  rcases h with h | ⟨b, o, ha, _⟩
  · exact Or.inl h
  · exact Or.inr ⟨b, o, ha⟩
theorem StrsAt.at {w : World} {b o : Nat} {l : List ByteArray} (h : StrsAt w (some ⟨b, o, none⟩) l) {i : Nat} (hi : i < l.length) : w.cell? ⟨b, o + i, none⟩ = some (.string l[i]) := by
  rcases h with rfl | ⟨b', o', ha, hc⟩
  · exact absurd hi (Nat.not_lt_zero _)
  · simp only [Option.some.injEq, Addr.mk.injEq, and_true] at ha
    obtain ⟨rfl, rfl⟩ := ha
    simpa [List.getD, hi] using hc i hi
theorem IntsAt.at {w : World} {b o : Nat} {l : List Int} (h : IntsAt w (some ⟨b, o, none⟩) l) {i : Nat} (hi : i < l.length) : w.cell? ⟨b, o + i, none⟩ = some (.int .i64 l[i]) := by
  rcases h with rfl | ⟨b', o', ha, hc⟩
  · exact absurd hi (Nat.not_lt_zero _)
  · simp only [Option.some.injEq, Addr.mk.injEq, and_true] at ha
    obtain ⟨rfl, rfl⟩ := ha
    simpa [List.getD, hi] using hc i hi

theorem take_eq_step {α : Type} {xs ys : List α} {k : Nat} (h1 : k < xs.length) (h2 : k < ys.length) (h : xs.take k = ys.take k) (he : xs[k] = ys[k]) : xs.take (k + 1) = ys.take (k + 1) := by
  rw [List.take_succ_eq_append_getElem h1, List.take_succ_eq_append_getElem h2, h, he]
theorem ne_at {α : Type} {xs ys : List α} {k : Nat} (h1 : k < xs.length) (h2 : k < ys.length) (he : ¬ xs[k] = ys[k]) : ¬ xs = ys := by
  rintro rfl; exact he rfl
theorem take_eq_end {α : Type} {xs ys : List α} {k : Nat} (h1 : xs.length ≤ k) (h2 : ys.length ≤ k) (h : xs.take k = ys.take k) : xs = ys := by
  rwa [List.take_of_length_le h1, List.take_of_length_le h2] at h

theorem str_ne {s t : ByteArray} (h : ¬ s = t) : (s.toList == t.toList) = false := by
  rw [beq_eq_false_iff_ne]
  intro e
  apply h
  rw [ByteArray.toList_eq, ByteArray.toList_eq] at e
  have e' : s.data = t.data := by rw [← Array.toList_inj]; exact e
  cases s; cases t; simp_all
theorem str_eq {s t : ByteArray} (h : s = t) : (s.toList == t.toList) = true := by rw [h]; simp

def eqS (xs ys : List ByteArray) : Bool := decide (xs = ys)
def eqN (xs ys : List Int) : Bool := decide (xs = ys)

set_option maxHeartbeats 400000 in
theorem texts_short (xs ys : List ByteArray) (a a' : Option Addr) (c c' : Nat) (w : World) (hx : StrsAt w a xs) (hy : StrsAt w a' ys) (hl : xs.length ≤ 9223372036854775807) (he : ((xs.length : Int) != (ys.length : Int)) = false) :
    Calls Try.prog 60 #[.slice a xs.length c, .slice a' ys.length c'] w fun e w' => e = .returned (.bool (eqS xs ys)) ∧ Below w.heap.size w w' := by
  have hlen : xs.length = ys.length := by simp only [bne_eq_false_iff_eq] at he; omega
  have HE : Hid (xs.length = ys.length) := hlen
  rcases hx.form with rfl | ⟨b, o, rfl⟩
  · obtain rfl : ys = [] := List.eq_nil_of_length_eq_zero hlen.symm
    go_enter Try.func60, Try.ntmps60; go_wp2; go_loop [5] (fun i => i = .int .i64 0) (fun _ => 0); (case atStart => rfl); (case round => subst hrel; go_wp2; go_ret; exact ⟨rfl, by repeat (first | with_reducible exact Below.refl _ _ | with_reducible refine balloc ?_ _ | with_reducible refine bdrew ?_ | with_reducible refine bset' ?_ (by omega) _ | with_reducible refine bthen ?_ (by assumption))⟩)
  rcases hy.form with rfl | ⟨b', o', rfl⟩
  · obtain rfl : xs = [] := List.eq_nil_of_length_eq_zero hlen
    go_enter Try.func60, Try.ntmps60; go_wp2; go_loop [5] (fun i => i = .int .i64 0) (fun _ => 0); (case atStart => rfl); (case round => subst hrel; go_wp2; go_ret; exact ⟨rfl, by repeat (first | with_reducible exact Below.refl _ _ | with_reducible refine balloc ?_ _ | with_reducible refine bdrew ?_ | with_reducible refine bset' ?_ (by omega) _ | with_reducible refine bthen ?_ (by assumption))⟩)
  clear hlen
  go_enter Try.func60, Try.ntmps60
  go_wp2
  go_loopw [5] (fun i wr => ∃ k : Nat, k ≤ xs.length ∧ i = .int .i64 k ∧ xs.take k = ys.take k ∧ Below w.heap.size w wr) (fun i _ => xs.length - (intOf i).toNat)
  case atStart => exact ⟨0, by omega, rfl, by simp, Below.refl _ _⟩
  case round =>
    obtain ⟨k, hk, rfl, hall, HB⟩ := hrel
    have HL : Hid (xs.take k = ys.take k) := hall
    clear hall
    by_cases hlt : k < xs.length
    · have hlt' : k < ys.length := by have := HE.out; omega
      have c0 := hx.at hlt
      have c1 := hy.at hlt'
      have l0 := lt_of_cell c0
      have l1 := lt_of_cell c1
      by_cases hq : xs[k] = ys[k]
      · go_wp2_with fail
        refine wp_region_later (by first | exact HB | exact bdrew HB | exact Below.refl _ _) (by kernel_rfl) (by kernel_rfl) ?_
        repeat (go_big_quiet_step (exact rfl))
        refine wpQuiet_nil ?_; intro _ hw'; obtain ⟨p, hw''⟩ := hw'; subst hw''; (try clear hc hf hz); (try clear HB); have HB := p.below; obtain ⟨hc, hf, hz⟩ := bcell HB
        go_wp2
        go_roundw
        case rel => exact ⟨k + 1, by omega, by go_num, take_eq_step hlt hlt' HL.out hq, HB⟩
        case measure => simp [intOf]; omega
      · have hq' : (xs[k].toList == ys[k].toList) = false := str_ne hq
        go_wp2_with fail
        refine wp_region_later (by first | exact HB | exact bdrew HB | exact Below.refl _ _) (by kernel_rfl) (by kernel_rfl) ?_
        repeat (go_big_quiet_step (exact rfl))
        refine wpQuiet_nil ?_; intro _ hw'; obtain ⟨p, hw''⟩ := hw'; subst hw''; (try clear hc hf hz); (try clear HB); have HB := p.below; obtain ⟨hc, hf, hz⟩ := bcell HB
        go_wp2
        go_ret
        exact ⟨ret_bool (decide_eq_false (ne_at hlt hlt' hq)).symm, by repeat (first | with_reducible exact Below.refl _ _ | with_reducible refine balloc ?_ _ | with_reducible refine bdrew ?_ | with_reducible refine bset' ?_ (by omega) _ | with_reducible refine bthen ?_ (by assumption))⟩
    · go_wp2
      go_ret
      exact ⟨ret_bool (decide_eq_true (take_eq_end (by omega) (by have := HE.out; omega) HL.out)).symm, by repeat (first | with_reducible exact Below.refl _ _ | with_reducible refine balloc ?_ _ | with_reducible refine bdrew ?_ | with_reducible refine bset' ?_ (by omega) _ | with_reducible refine bthen ?_ (by assumption))⟩

set_option maxHeartbeats 400000 in
theorem texts_long (xs ys : List ByteArray) (a a' : Option Addr) (c c' : Nat) (w : World) (he : ((xs.length : Int) != (ys.length : Int)) = true) :
    Calls Try.prog 60 #[.slice a xs.length c, .slice a' ys.length c'] w fun e w' => e = .returned (.bool false) ∧ Below w.heap.size w w' := by
  go_enter Try.func60, Try.ntmps60
  go_wp2
  go_ret
  exact ⟨rfl, Below.refl _ _⟩

theorem texts_any (xs ys : List ByteArray) (a a' : Option Addr) (c c' : Nat) (w : World) (hx : StrsAt w a xs) (hy : StrsAt w a' ys) (hl : xs.length ≤ 9223372036854775807) :
    Calls Try.prog 60 #[.slice a xs.length c, .slice a' ys.length c'] w fun e w' => e = .returned (.bool (eqS xs ys)) ∧ Below w.heap.size w w' := by
  cases he : ((xs.length : Int) != (ys.length : Int))
  · exact texts_short xs ys a a' c c' w hx hy hl he
  · have : eqS xs ys = false := decide_eq_false (by rintro rfl; simp at he)
    rw [this]; exact texts_long xs ys a a' c c' w he

set_option maxHeartbeats 400000 in
theorem numbers_short (xs ys : List Int) (a a' : Option Addr) (c c' : Nat) (w : World) (hx : IntsAt w a xs) (hy : IntsAt w a' ys) (hl : xs.length ≤ 9223372036854775807) (he : ((xs.length : Int) != (ys.length : Int)) = false) :
    Calls Try.prog 77 #[.slice a xs.length c, .slice a' ys.length c'] w fun e w' => e = .returned (.bool (eqN xs ys)) ∧ Below w.heap.size w w' := by
  have hlen : xs.length = ys.length := by simp only [bne_eq_false_iff_eq] at he; omega
  have HE : Hid (xs.length = ys.length) := hlen
  rcases hx.form with rfl | ⟨b, o, rfl⟩
  · obtain rfl : ys = [] := List.eq_nil_of_length_eq_zero hlen.symm
    go_enter Try.func77, Try.ntmps77; go_wp2; go_loop [5] (fun i => i = .int .i64 0) (fun _ => 0); (case atStart => rfl); (case round => subst hrel; go_wp2; go_ret; exact ⟨rfl, by repeat (first | with_reducible exact Below.refl _ _ | with_reducible refine balloc ?_ _ | with_reducible refine bdrew ?_ | with_reducible refine bset' ?_ (by omega) _ | with_reducible refine bthen ?_ (by assumption))⟩)
  rcases hy.form with rfl | ⟨b', o', rfl⟩
  · obtain rfl : xs = [] := List.eq_nil_of_length_eq_zero hlen
    go_enter Try.func77, Try.ntmps77; go_wp2; go_loop [5] (fun i => i = .int .i64 0) (fun _ => 0); (case atStart => rfl); (case round => subst hrel; go_wp2; go_ret; exact ⟨rfl, by repeat (first | with_reducible exact Below.refl _ _ | with_reducible refine balloc ?_ _ | with_reducible refine bdrew ?_ | with_reducible refine bset' ?_ (by omega) _ | with_reducible refine bthen ?_ (by assumption))⟩)
  clear hlen
  go_enter Try.func77, Try.ntmps77
  go_wp2
  go_loopw [5] (fun i wr => ∃ k : Nat, k ≤ xs.length ∧ i = .int .i64 k ∧ xs.take k = ys.take k ∧ Below w.heap.size w wr) (fun i _ => xs.length - (intOf i).toNat)
  case atStart => exact ⟨0, by omega, rfl, by simp, Below.refl _ _⟩
  case round =>
    obtain ⟨k, hk, rfl, hall, HB⟩ := hrel
    have HL : Hid (xs.take k = ys.take k) := hall
    clear hall
    by_cases hlt : k < xs.length
    · have hlt' : k < ys.length := by have := HE.out; omega
      have c0 := hx.at hlt
      have c1 := hy.at hlt'
      have l0 := lt_of_cell c0
      have l1 := lt_of_cell c1
      by_cases hq : xs[k] = ys[k]
      · go_wp2_with fail
        refine wp_region_later (by first | exact HB | exact bdrew HB | exact Below.refl _ _) (by kernel_rfl) (by kernel_rfl) ?_
        repeat (go_big_quiet_step (exact rfl))
        refine wpQuiet_nil ?_; intro _ hw'; obtain ⟨p, hw''⟩ := hw'; subst hw''; (try clear hc hf hz); (try clear HB); have HB := p.below; obtain ⟨hc, hf, hz⟩ := bcell HB
        go_wp2
        go_roundw
        case rel => exact ⟨k + 1, by omega, by go_num, take_eq_step hlt hlt' HL.out hq, HB⟩
        case measure => simp [intOf]; omega
      · go_wp2_with fail
        refine wp_region_later (by first | exact HB | exact bdrew HB | exact Below.refl _ _) (by kernel_rfl) (by kernel_rfl) ?_
        repeat (go_big_quiet_step (exact rfl))
        refine wpQuiet_nil ?_; intro _ hw'; obtain ⟨p, hw''⟩ := hw'; subst hw''; (try clear hc hf hz); (try clear HB); have HB := p.below; obtain ⟨hc, hf, hz⟩ := bcell HB
        go_wp2
        go_ret
        exact ⟨ret_bool (decide_eq_false (ne_at hlt hlt' hq)).symm, by repeat (first | with_reducible exact Below.refl _ _ | with_reducible refine balloc ?_ _ | with_reducible refine bdrew ?_ | with_reducible refine bset' ?_ (by omega) _ | with_reducible refine bthen ?_ (by assumption))⟩
    · go_wp2
      go_ret
      exact ⟨ret_bool (decide_eq_true (take_eq_end (by omega) (by have := HE.out; omega) HL.out)).symm, by repeat (first | with_reducible exact Below.refl _ _ | with_reducible refine balloc ?_ _ | with_reducible refine bdrew ?_ | with_reducible refine bset' ?_ (by omega) _ | with_reducible refine bthen ?_ (by assumption))⟩

set_option maxHeartbeats 400000 in
theorem numbers_long (xs ys : List Int) (a a' : Option Addr) (c c' : Nat) (w : World) (he : ((xs.length : Int) != (ys.length : Int)) = true) :
    Calls Try.prog 77 #[.slice a xs.length c, .slice a' ys.length c'] w fun e w' => e = .returned (.bool false) ∧ Below w.heap.size w w' := by
  go_enter Try.func77, Try.ntmps77
  go_wp2
  go_ret
  exact ⟨rfl, Below.refl _ _⟩

theorem numbers_any (xs ys : List Int) (a a' : Option Addr) (c c' : Nat) (w : World) (hx : IntsAt w a xs) (hy : IntsAt w a' ys) (hl : xs.length ≤ 9223372036854775807) :
    Calls Try.prog 77 #[.slice a xs.length c, .slice a' ys.length c'] w fun e w' => e = .returned (.bool (eqN xs ys)) ∧ Below w.heap.size w w' := by
  cases he : ((xs.length : Int) != (ys.length : Int))
  · exact numbers_short xs ys a a' c c' w hx hy hl he
  · have : eqN xs ys = false := decide_eq_false (by rintro rfl; simp at he)
    rw [this]; exact numbers_long xs ys a a' c c' w he


end Go.Proofs.Ythmeaclekedilac
/- Two requests, two lists of requests: are they the same? -/
namespace Go.Proofs.Ythmeaclekedilac
open Go.RowKit Go.BigFrame
attribute [local go_sem] Later.cell Later.frozen

def sameB (r s : Rq) : Bool := (r.wr == s.wr) && ((r.f == s.f) && (r.m == s.m)) && (r.born == s.born) && eqS r.data s.data && eqN r.tags s.tags

set_option maxHeartbeats 1000000 in
theorem sameReq_core (r s : Rq) (w : World) (hr : r.At w) (hs : s.At w) (b1 b2 b6 b3 b4 b5 : Bool) (h1 : (r.wr == s.wr) = b1) (h2 : (r.f == s.f) = b2) (h6 : (r.m == s.m) = b6) (h3 : (r.born == s.born) = b3) (h4 : eqS r.data s.data = b4) (h5 : eqN r.tags s.tags = b5) :
    Calls Try.prog 59 #[r.val, s.val] w fun e w' => e = .returned (.bool (b1 && (b2 && b6) && b3 && b4 && b5)) ∧ Below w.heap.size w w' := by
  obtain ⟨wr, f, m, da, dc, data, ta, tc, tags, born⟩ := r
  obtain ⟨wr', f', m', da', dc', data', ta', tc', tags', born'⟩ := s
  obtain ⟨d1, t1, l1, l2, -, -, -⟩ := hr
  obtain ⟨d2, t2, -, -, -, -, -⟩ := hs
  simp only at h1 h2 h6 h3 h4 h5 d1 t1 d2 t2 l1 l2
  simp only [Rq.val]
  go_enter Try.func59, Try.ntmps59
  go_wp2_with fail
  refine (texts_any _ _ _ _ _ _ _ (d1.later (by repeat (first | with_reducible exact Below.refl _ _ | with_reducible refine balloc ?_ _ | with_reducible refine bdrew ?_ | with_reducible refine bset' ?_ (by omega) _ | with_reducible refine bthen ?_ (by assumption)))) (d2.later (by repeat (first | with_reducible exact Below.refl _ _ | with_reducible refine balloc ?_ _ | with_reducible refine bdrew ?_ | with_reducible refine bset' ?_ (by omega) _ | with_reducible refine bthen ?_ (by assumption)))) l1).mono ?_
  rintro e w1 ⟨rfl, HB⟩
  obtain ⟨hc, hf, hz⟩ := bcell HB
  go_wp2_with fail
  refine (numbers_any _ _ _ _ _ _ _ (t1.later (by repeat (first | with_reducible exact Below.refl _ _ | with_reducible refine balloc ?_ _ | with_reducible refine bdrew ?_ | with_reducible refine bset' ?_ (by omega) _ | with_reducible refine bthen ?_ (by assumption)))) (t2.later (by repeat (first | with_reducible exact Below.refl _ _ | with_reducible refine balloc ?_ _ | with_reducible refine bdrew ?_ | with_reducible refine bset' ?_ (by omega) _ | with_reducible refine bthen ?_ (by assumption)))) l2).mono ?_
  rintro e w1 ⟨rfl, hb⟩
  clear hc hf hz
  replace HB := bthen HB hb
  clear hb
  obtain ⟨hc, hf, hz⟩ := bcell HB
  rw [h5]
  clear h4 h5 d1 d2 t1 t2 l1 l2
  cases b1 <;> cases b2 <;> cases b6 <;> cases b3 <;> cases b4
  all_goals
    go_wp2
    go_ret
    exact ⟨rfl, by repeat (first | with_reducible exact Below.refl _ _ | with_reducible refine balloc ?_ _ | with_reducible refine bdrew ?_ | with_reducible refine bset' ?_ (by omega) _ | with_reducible refine bthen ?_ (by assumption))⟩

theorem sameReq_any (r s : Rq) (w : World) (hr : r.At w) (hs : s.At w) (b : Bool) (hb : sameB r s = b) :
    Calls Try.prog 59 #[r.val, s.val] w fun e w' => e = .returned (.bool b) ∧ Below w.heap.size w w' := by
  subst hb
  exact sameReq_core r s w hr hs _ _ _ _ _ _ rfl rfl rfl rfl rfl rfl

theorem Rq.At.of {w w' : World} {a : Option Addr} {l : List Rq} (h : ReqsAt w a l) {i : Nat} (hi : i < l.length) (hb : Below w.heap.size w w') : l[i].At w' := (h.2.1 _ (List.getElem_mem hi)).later hb

/-- Two lists of requests have the same. -/
def Sames (l l' : List Rq) : Prop := l.length = l'.length ∧ ∀ i (h : i < l.length) (h' : i < l'.length), sameB l[i] l'[i] = true

set_option maxHeartbeats 1000000 in
theorem sames_yes (l l' : List Rq) (a a' : Option Addr) (c c' : Nat) (w : World) (hl : ReqsAt w a l) (hl' : ReqsAt w a' l') (hs : Sames l l') :
    Calls Try.prog 23 #[.slice a l.length c, .slice a' l'.length c'] w fun e w' => e = .returned (.bool true) ∧ Below w.heap.size w w' := by
  obtain ⟨hlen, hsame⟩ := hs
  have hb3 := hl.2.2
  rcases hl.form with rfl | ⟨b, o, rfl⟩
  · obtain rfl : l' = [] := List.eq_nil_of_length_eq_zero hlen.symm
    go_enter Try.func23, Try.ntmps23; go_wp2; go_loop [5] (fun i => i = .int .i64 0) (fun _ => 0); (case atStart => rfl); (case round => subst hrel; go_wp2; go_ret; exact ⟨rfl, by repeat (first | with_reducible exact Below.refl _ _ | with_reducible refine balloc ?_ _ | with_reducible refine bdrew ?_ | with_reducible refine bset' ?_ (by omega) _ | with_reducible refine bthen ?_ (by assumption))⟩)
  rcases hl'.form with rfl | ⟨b', o', rfl⟩
  · obtain rfl : l = [] := List.eq_nil_of_length_eq_zero hlen
    go_enter Try.func23, Try.ntmps23; go_wp2; go_loop [5] (fun i => i = .int .i64 0) (fun _ => 0); (case atStart => rfl); (case round => subst hrel; go_wp2; go_ret; exact ⟨rfl, by repeat (first | with_reducible exact Below.refl _ _ | with_reducible refine balloc ?_ _ | with_reducible refine bdrew ?_ | with_reducible refine bset' ?_ (by omega) _ | with_reducible refine bthen ?_ (by assumption))⟩)
  have he : ((l.length : Int) != (l'.length : Int)) = false := by rw [hlen]; simp
  have HS : Hid (∀ i (h : i < l.length) (h' : i < l'.length), sameB l[i] l'[i] = true) := hsame
  have HE : Hid (l.length = l'.length) := hlen
  clear hsame hlen
  go_enter Try.func23, Try.ntmps23
  go_wp2
  go_loopw [5] (fun i wr => ∃ k : Nat, k ≤ l.length ∧ i = .int .i64 k ∧ Below w.heap.size w wr) (fun i _ => l.length - (intOf i).toNat)
  case atStart => exact ⟨0, by omega, rfl, Below.refl _ _⟩
  case round =>
    obtain ⟨k, hk, rfl, HB⟩ := hrel
    by_cases hlt : k < l.length
    · have hlt' : k < l'.length := by have := HE.out; omega
      obtain ⟨c0, c1, c2, c3, c4, c5⟩ := hl.cells hlt
      obtain ⟨d0, d1, d2, d3, d4, d5⟩ := hl'.cells hlt'
      have l0 := lt_of_cell c0
      have l1 := lt_of_cell d0
      have hcs := HS.out k hlt hlt'
      go_wp2_with fail
      refine wp_region_later (by first | exact HB | exact bdrew HB | exact Below.refl _ _) (by kernel_rfl) (by kernel_rfl) ?_
      repeat (go_big_quiet_step (first | exact rfl | (go_at_call 59; exact calls_later (sameReq_any l[k] l'[k] _ (Rq.At.of hl hlt (Later.below _)) (Rq.At.of hl' hlt' (Later.below _)) _ hcs))))
      refine wpQuiet_nil ?_; intro _ hw'; obtain ⟨p, hw''⟩ := hw'; subst hw''; (try clear hc hf hz); (try clear HB); have HB := p.below; obtain ⟨hc, hf, hz⟩ := bcell HB
      go_wp2
      go_roundw
      case rel => exact ⟨k + 1, by omega, by go_num, HB⟩
      case measure => simp [intOf]; omega
    · go_wp2
      go_ret
      exact ⟨rfl, by repeat (first | with_reducible exact Below.refl _ _ | with_reducible refine balloc ?_ _ | with_reducible refine bdrew ?_ | with_reducible refine bset' ?_ (by omega) _ | with_reducible refine bthen ?_ (by assumption))⟩
end Go.Proofs.Ythmeaclekedilac
/- ReqFault of any request; GoodReqs: each may be, and no two have a sector in common. -/
namespace Go.Proofs.Ythmeaclekedilac
open Go.RowKit Go.BigFrame
attribute [local go_sem] Later.cell Later.frozen

def shapeB (r : Rq) : Bool := if r.wr then decide ((r.data.length : Int) = r.m) else decide (r.data.length = 0)
def faultR (r : Rq) : Int :=
  if okB r.f r.m 4 = false then 1 else if shapeB r = false then 3 else if r.tags.length < 1 ∨ 4 < r.tags.length then 3 else if r.born < 0 ∨ 1000000000 < r.born then 1 else faultB (small4 r)

theorem shape_iff (r : Rq) : shapeBad r ↔ shapeB r = false := by
  unfold shapeBad shapeB
  cases r.wr
  · simp [List.length_pos_iff]
  · simp

theorem rfault_any (r : Rq) (w : World) (hr : r.At w) (n : Int) (hn : faultR r = n) :
    Calls Try.prog 12 #[r.val] w fun e w' => e = .returned (.int .i64 n) ∧ Below w.heap.size w w' := by
  subst hn
  unfold faultR
  by_cases h : okB r.f r.m 4 = false
  · rw [if_pos h]; exact rfault_span r w h
  · rw [if_neg h]
    have h' : okB r.f r.m 4 = true := by simpa using h
    by_cases h2 : shapeB r = false
    · rw [if_pos h2]; exact rfault_shape r w hr h' ((shape_iff r).2 h2)
    · rw [if_neg h2]
      have h2' : ¬ shapeBad r := fun k => h2 ((shape_iff r).1 k)
      by_cases h3 : r.tags.length < 1 ∨ 4 < r.tags.length
      · rw [if_pos h3]; exact rfault_tags r w hr h' h2' h3
      · rw [if_neg h3]
        by_cases h4 : r.born < 0 ∨ 1000000000 < r.born
        · rw [if_pos h4]; exact rfault_born r w hr h' h2' h3 h4
        · rw [if_neg h4]; exact rfault_data r w hr ⟨h', h2', h3, h4⟩

/-- A request that may be. -/
def goodR (r : Rq) : Bool := decide (faultR r = 0)
structure Good (r : Rq) : Prop where
  ok : okB r.f r.m 4 = true
  shape : shapeB r = true
  t1 : 1 ≤ r.tags.length
  t4 : r.tags.length ≤ 4
  b0 : 0 ≤ r.born
  b1 : r.born ≤ 1000000000
  small : small4 r = true
theorem good_iff (r : Rq) : faultR r = 0 ↔ Good r := by
  unfold faultR
  constructor
  · intro h
    split at h
    · cases h
    split at h
    · cases h
    split at h
    · cases h
    split at h
    · cases h
    rename_i h1 h2 h3 h4
    have h5 : small4 r = true := by
      cases e : small4 r
      · rw [e] at h; cases h
      · rfl
    exact ⟨by simpa using h1, by simpa using h2, by omega, by omega, by omega, by omega, h5⟩
  · intro ⟨h1, h2, h3, h4, h5, h6, h7⟩
    rw [if_neg (by simp [h1]), if_neg (by simp [h2]), if_neg (by omega), if_neg (by omega), h7]; rfl
theorem fault_pos (r : Rq) (h : ¬ faultR r = 0) : 0 < faultR r := by
  unfold faultR at *
  split
  · decide
  split
  · decide
  split
  · decide
  split
  · decide
  rename_i h1 h2 h3 h4
  rw [if_neg h1, if_neg h2, if_neg h3, if_neg h4] at h
  cases e : small4 r
  · decide
  · rw [e] at h; exact absurd rfl h
theorem ok4_32 {f m : Int} (h : okB f m 4 = true) : okB f m 32 = true := by
  simp only [okB, decide_eq_true_eq] at *; omega

def goodAt (l : List Rq) (i : Nat) : Bool := match l[i]? with | some r => goodR r | none => true
def pairB (l : List Rq) (i j : Nat) : Bool := match l[i]?, l[j]? with | some r, some s => !meetB r.f r.m s.f s.m | _, _ => true
def rowB (l : List Rq) (i : Nat) : Bool := goodAt l i && (List.range i).all (pairB l i)
def goodsB (l : List Rq) : Bool := (List.range l.length).all (rowB l)

theorem range_step {p : Nat → Bool} {k : Nat} (h : (List.range k).all p = true) (hk : p k = true) : (List.range (k + 1)).all p = true := by
  rw [List.range_succ, List.all_append, h]; simp [hk]
theorem range_stop {p : Nat → Bool} {k n : Nat} (h : k < n) (hk : p k = false) : (List.range n).all p = false := by
  rw [List.all_eq_false]; exact ⟨k, by simpa using h, by rw [hk]; exact Bool.false_ne_true⟩

/-- Each may be, and no two have a sector in common. -/
structure Goods (l : List Rq) : Prop where
  good : ∀ i (h : i < l.length), Good l[i]
  apart : ∀ i j (hi : i < l.length) (hj : j < i), meetB l[i].f l[i].m (l[j]'(by omega)).f (l[j]'(by omega)).m = false
theorem goods_of {l : List Rq} (h : goodsB l = true) : Goods l := by
  simp only [goodsB, List.all_eq_true, List.mem_range, rowB, Bool.and_eq_true] at h
  refine ⟨fun i hi => ?_, fun i j hi hj => ?_⟩
  · have := (h i hi).1
    simp only [goodAt, List.getElem?_eq_getElem hi, goodR, decide_eq_true_eq] at this
    exact (good_iff _).1 this
  · have := (h i hi).2 j hj
    simp only [pairB, List.getElem?_eq_getElem hi, List.getElem?_eq_getElem (show j < l.length by omega)] at this
    simpa using this

end Go.Proofs.Ythmeaclekedilac
/- Take: the others, and it; the others in new memory. -/
namespace Go.Proofs.Ythmeaclekedilac
open Go.RowKit Go.BigFrame

/-- The cells of requests, one behind the other. -/
def rcells (l : List Rq) : List Value := l.flatMap fun r => [r.cell 0, r.cell 1, r.cell 2, r.cell 3, r.cell 4, r.cell 5]
theorem rcells_length (l : List Rq) : (rcells l).length = l.length * 6 := by
  induction l with
  | nil => rfl
  | cons r l ih => rw [rcells, List.flatMap_cons, List.length_append, ← rcells, ih, List.length_cons]; simp; omega
theorem rcells_append (l l' : List Rq) : rcells (l ++ l') = rcells l ++ rcells l' := by simp [rcells]
theorem rcells_at (l : List Rq) : ∀ (i j : Nat) (h : i < l.length), j < 6 → (rcells l)[i * 6 + j]? = some (l[i].cell j) := by
  induction l with
  | nil => intro i j h; exact absurd h (Nat.not_lt_zero _)
  | cons r l ih =>
    intro i j h hj
    rw [rcells, List.flatMap_cons, ← rcells]
    cases i with
    | zero =>
      rw [List.getElem?_append_left (by simp; omega)]
      match j, hj with
      | 0, _ => rfl
      | 1, _ => rfl
      | 2, _ => rfl
      | 3, _ => rfl
      | 4, _ => rfl
      | 5, _ => rfl
    | succ i =>
      rw [List.getElem?_append_right (by simp; omega)]
      have := ih i j (by simpa using h) hj
      simp only [List.length_cons, List.length_nil, List.getElem_cons_succ]
      rw [← this]; congr 1; omega
theorem rcells_one (l : List Rq) : ∀ u ∈ rcells l, u.oneCell' = true := by
  intro u hu
  simp only [rcells, List.mem_flatMap] at hu
  obtain ⟨r, _, hr⟩ := hu
  simp only [List.mem_cons, List.not_mem_nil, or_false] at hr
  rcases hr with rfl | rfl | rfl | rfl | rfl | rfl <;> rfl
theorem rcells_inv {l : List Rq} {k : Nat} {u : Value} (h : (rcells l)[k]? = some u) : ∃ i j, ∃ hi : i < l.length, j < 6 ∧ k = i * 6 + j ∧ u = l[i].cell j := by
  have hk : k < (rcells l).length := by
    rcases Nat.lt_or_ge k (rcells l).length with h' | h'
    · exact h'
    · rw [List.getElem?_eq_none h'] at h; cases h
  rw [rcells_length] at hk
  have hi : k / 6 < l.length := by omega
  have hj : k % 6 < 6 := Nat.mod_lt _ (by omega)
  have e : k = k / 6 * 6 + k % 6 := by omega
  refine ⟨k / 6, k % 6, hi, hj, e, ?_⟩
  rw [e, rcells_at l (k / 6) (k % 6) hi hj] at h
  exact (Option.some.inj h).symm

theorem add_mk' (b o i : Nat) : (Addr.add ⟨b, o, none⟩ i) = ⟨b, o + i, none⟩ := by
  unfold Addr.add; split
  · rename_i h; subst h; rfl
  · rfl

/-- Requests from k on, m of them, as a row. -/
theorem ReqsAt.row {w : World} {b o c : Nat} {l : List Rq} (h : ReqsAt w (some ⟨b, o, none⟩) l) (l1 l2 l3 : List Rq) (e : l = l1 ++ l2 ++ l3) : RowAt w 6 (some ⟨b, o + l1.length * 6, none⟩) l2.length c (rcells l2) := by
  refine ⟨rcells_length l2, rcells_one l2, Or.inr ⟨_, rfl, fun k u hk => ?_⟩⟩
  obtain ⟨i, j, hi, hj, rfl, rfl⟩ := rcells_inv hk
  rcases h.1 with h0 | ⟨b', o', ha, hc⟩
  · rw [h0] at e; simp at e; rw [e.2.1] at hi; exact absurd hi (Nat.not_lt_zero _)
  · simp only [Option.some.injEq, Addr.mk.injEq, and_true] at ha
    obtain ⟨rfl, rfl⟩ := ha
    have hlt : l1.length + i < l.length := by rw [e]; simp; omega
    have := hc (l1.length + i) hlt j hj
    have el : l[l1.length + i] = l2[i] := by
      simp only [e]
      rw [List.getElem_append_left (by simp; omega), List.getElem_append_right (by omega)]
      simp
    rw [el] at this
    rw [add_mk', ← this]
    congr 2
    rw [Nat.add_mul]; omega

/-- What is owned, as requests. -/
theorem reqs_of_owned {w : World} {base e : Nat} {v : Value} {l : List Rq} {n : Nat} (h : w.ownsRow base e 6 v n (rcells l)) (hat : ∀ r ∈ l, r.At w) (hn : n = l.length) (hb : l.length ≤ 9223372036854775807) :
    ∃ a c, v = .slice a l.length c ∧ ReqsAt w a l ∧ l.length ≤ c ∧ c ≤ 9223372036854775807 ∧ (a = none → c = 0) ∧ ∀ ad, a = some ad → base ≤ ad.block ∧ ad.off = 0 ∧ ad.spot = none := by
  subst hn
  rcases h.2 with ⟨rfl, h0⟩ | ⟨g, cap, cur, rfl, hg, hh, hnc, hcm, hcs, ht⟩
  · have hl := List.eq_nil_of_length_eq_zero h0
    subst hl
    exact ⟨none, 0, rfl, ⟨Or.inl rfl, by simp, by simp⟩, by simp, by simp, fun _ => rfl, fun _ h => by cases h⟩
  · have hnd : ∀ ad : Addr, some (⟨g, 0, none⟩ : Addr) = some ad → base ≤ ad.block ∧ ad.off = 0 ∧ ad.spot = none := by
      intro ad h; cases h; exact ⟨hg, rfl, rfl⟩
    have hcm' : cap ≤ 9223372036854775807 := by unfold maxLen at hcm; omega
    refine ⟨some ⟨g, 0, none⟩, cap, rfl, ⟨Or.inr ⟨g, 0, rfl, fun i hi j hj => ?_⟩, hat, hb⟩, hnc, hcm', by simp, hnd⟩
    have hx := rcells_at l i j hi hj
    have hc := h.cellAt (i * 6 + j) (by omega)
    rw [Nat.zero_add, hc, hx]

theorem six1 {w w1 : World} {a0 a1 a2 a3 a4 a5 : Value} {T : TypeId} {Y : Obj} (HB : Below (((w.alloc (.cells #[a0, a1, a2, a3, a4, a5] T)).alloc Y).drew).heap.size (((w.alloc (.cells #[a0, a1, a2, a3, a4, a5] T)).alloc Y).drew) w1) :
    (w1.cell? ⟨w.heap.size, 0, none⟩ = some a0 ∧ w1.cell? ⟨w.heap.size, 1, none⟩ = some a1 ∧ w1.cell? ⟨w.heap.size, 2, none⟩ = some a2 ∧ w1.cell? ⟨w.heap.size, 3, none⟩ = some a3 ∧ w1.cell? ⟨w.heap.size, 4, none⟩ = some a4 ∧ w1.cell? ⟨w.heap.size, 5, none⟩ = some a5) ∧
    (w1.frozen? ⟨w.heap.size, 0, none⟩ = false ∧ w1.frozen? ⟨w.heap.size, 1, none⟩ = false ∧ w1.frozen? ⟨w.heap.size, 2, none⟩ = false ∧ w1.frozen? ⟨w.heap.size, 3, none⟩ = false ∧ w1.frozen? ⟨w.heap.size, 4, none⟩ = false ∧ w1.frozen? ⟨w.heap.size, 5, none⟩ = false) ∧
    w.heap.size < w1.heap.size := by
  have e : (((w.alloc (.cells #[a0, a1, a2, a3, a4, a5] T)).alloc Y).drew).heap.size = w.heap.size + 1 + 1 := by simp
  have hz := HB.size
  rw [e] at hz
  have c := fun o => HB.cell (p := ⟨w.heap.size, o, none⟩) (by rw [e]; show w.heap.size < _; omega)
  have f := fun o => HB.frozen (p := ⟨w.heap.size, o, none⟩) (by rw [e]; show w.heap.size < _; omega)
  refine ⟨⟨?_, ?_, ?_, ?_, ?_, ?_⟩, ⟨?_, ?_, ?_, ?_, ?_, ?_⟩, by omega⟩
  all_goals first | rw [c] | rw [f]
  all_goals simp
theorem ownsRow_le' {w : World} {base base' size n : Nat} {e : TypeId} {v : Value} {xs : List Value} (h : w.ownsRow base e size v n xs) (hb : base' ≤ base) : w.ownsRow base' e size v n xs :=
  ⟨h.1, h.2.elim Or.inl (fun ⟨g, cap, cur, hv, hg, r⟩ => Or.inr ⟨g, cap, cur, hv, Nat.le_trans hb hg, r⟩)⟩
theorem ownsRow_drew {w : World} {base size n : Nat} {e : TypeId} {v : Value} {xs : List Value} (h : w.ownsRow base e size v n xs) : w.drew.ownsRow base e size v n xs := h

theorem slice_from (b o n c i : Nat) (w : World) (hlt : i < n) (hce : ¬ c = i + 1) : (Instr.slice 30 (.slice (some ⟨b, o, none⟩) n c) (some (.int .i64 ((i : Int) + 1))) none none).run Try.prog w = .ok (.slice (some ⟨b, o + (i + 1) * 6, none⟩) (n - (i + 1)) (c - (i + 1))) w := by
  have h1 : (0 : Int) ≤ (i : Int) + 1 := by omega
  have h2 : (i : Int) + 1 ≤ (n : Int) := by omega
  simp [go_sem, h1, h2, hce]
theorem slice_to (b o n c i : Nat) (w : World) (hlt : i < n) (hcap : n ≤ c) : (Instr.slice 30 (.slice (some ⟨b, o, none⟩) n c) none (some (.int .i64 (i : Int))) none).run Try.prog w = .ok (.slice (some ⟨b, o, none⟩) i c) w := by
  have h2 : i ≤ c := by omega
  simp [go_sem, h2]
theorem slice_end (b o n i : Nat) (w : World) (hlt : n = i + 1) : (Instr.slice 30 (.slice (some ⟨b, o, none⟩) n (i + 1)) (some (.int .i64 ((i : Int) + 1))) none none).run Try.prog w = .ok (.slice (some ⟨b, o, none⟩) 0 0) w := by
  subst hlt
  have h1 : (0 : Int) ≤ (i : Int) + 1 := by omega
  simp [go_sem, h1]

end Go.Proofs.Ythmeaclekedilac
/- request.Part: what a sector has of what was read. -/
namespace Go.Proofs.Ythmeaclekedilac
open Go.RowKit Go.BigFrame
attribute [local go_sem] Later.cell Later.frozen

/-- A result: a request, what was read, an error's number. -/
abbrev resV (r : Rq) (xa : Option Addr) (n xc : Nat) (er : Int) : Value := .agg #[.bool r.wr, .int .i64 r.f, .int .i64 r.m, .slice r.da r.data.length r.dc, .slice r.ta r.tags.length r.tc, .int .i64 r.born, .slice xa n xc, .int .i64 er]
set_option maxHeartbeats 400000 in
theorem part_no (r : Rq) (xa : Option Addr) (n xc : Nat) (er p : Int) (w : World) (h : hasB r.f r.m p = false) :
    Calls Try.prog 53 #[resV r xa n xc er, .int .i64 p] w fun e w' => e = .returned (.tuple #[.string ⟨#[]⟩, .bool false]) ∧ Below w.heap.size w w' := by
  obtain ⟨wr, f, m, da, dc, data, ta, tc, tags, born⟩ := r
  simp only at h
  go_enter Try.func53, Try.ntmps53
  go_wp2_with fail
  go_at_call 54; refine (has_eq _ _ _ _ _ h).mono ?_; rintro e w1 ⟨rfl, hb⟩; (try clear hc hf hz); (first | replace HB := bthen HB hb | replace HB := bthen (bdrew HB) hb | have HB := hb); clear hb; obtain ⟨hc, hf, hz⟩ := bcell HB
  go_wp2
  go_ret2
  exact ⟨rfl, by repeat (first | with_reducible exact Below.refl _ _ | with_reducible refine balloc ?_ _ | with_reducible refine bdrew ?_ | with_reducible refine bset' ?_ (by omega) _ | with_reducible refine bthen ?_ (by assumption))⟩
set_option maxHeartbeats 400000 in
theorem part_out (r : Rq) (xa : Option Addr) (n xc : Nat) (er p : Int) (w : World) (h : hasB r.f r.m p = true) (k : Int) (hk : wrap64 (p - r.f) = k) (hn : (n : Int) ≤ k) :
    Calls Try.prog 53 #[resV r xa n xc er, .int .i64 p] w fun e w' => e = .returned (.tuple #[.string ⟨#[]⟩, .bool false]) ∧ Below w.heap.size w w' := by
  obtain ⟨wr, f, m, da, dc, data, ta, tc, tags, born⟩ := r
  simp only at h hk
  go_enter Try.func53, Try.ntmps53
  go_wp2_with fail
  go_at_call 54; refine (has_eq _ _ _ _ _ h).mono ?_; rintro e w1 ⟨rfl, hb⟩; (try clear hc hf hz); (first | replace HB := bthen HB hb | replace HB := bthen (bdrew HB) hb | have HB := hb); clear hb; obtain ⟨hc, hf, hz⟩ := bcell HB
  go_wp2
  go_ret2
  exact ⟨rfl, by repeat (first | with_reducible exact Below.refl _ _ | with_reducible refine balloc ?_ _ | with_reducible refine bdrew ?_ | with_reducible refine bset' ?_ (by omega) _ | with_reducible refine bthen ?_ (by assumption))⟩
set_option maxHeartbeats 400000 in
theorem part_in (r : Rq) (xs : List ByteArray) (xa : Option Addr) (xc : Nat) (er p : Int) (w : World) (hx : StrsAt w xa xs) (h : hasB r.f r.m p = true) (k : Nat) (hk : wrap64 (p - r.f) = k) (hn : k < xs.length) (s : ByteArray) (hs : xs.getD k ByteArray.empty = s) :
    Calls Try.prog 53 #[resV r xa xs.length xc er, .int .i64 p] w fun e w' => e = .returned (.tuple #[.string s, .bool true]) ∧ Below w.heap.size w w' := by
  rcases hx with rfl | ⟨b, o, rfl, hcx⟩
  · exact absurd hn (Nat.not_lt_zero _)
  have c0 := hcx k hn
  have hlb := lt_of_cell c0
  rw [hs] at c0
  clear hcx hs
  obtain ⟨wr, f, m, da, dc, data, ta, tc, tags, born⟩ := r
  simp only at h hk
  have hn1 : ¬ (xs.length : Int) ≤ (k : Int) := by omega
  go_enter Try.func53, Try.ntmps53
  go_wp2_with fail
  go_at_call 54; refine (has_eq _ _ _ _ _ h).mono ?_; rintro e w1 ⟨rfl, hb⟩; (try clear hc hf hz); (first | replace HB := bthen HB hb | replace HB := bthen (bdrew HB) hb | have HB := hb); clear hb; obtain ⟨hc, hf, hz⟩ := bcell HB
  have c1 : w1.cell? ⟨b, o + k, none⟩ = some (.string s) := by rw [hc _ _ (by simp; omega), World.cell?_alloc_lt _ _ _ hlb]; exact c0
  go_wp2
  go_ret2
  exact ⟨rfl, by repeat (first | with_reducible exact Below.refl _ _ | with_reducible refine balloc ?_ _ | with_reducible refine bdrew ?_ | with_reducible refine bset' ?_ (by omega) _ | with_reducible refine bthen ?_ (by assumption))⟩
end Go.Proofs.Ythmeaclekedilac
/- A device in memory: its block, its two rows; what stands when something else turns. -/
namespace Go.Proofs.Ythmeaclekedilac
open Go.RowKit

/-- What a sector was given, and its bit. -/
structure Wn where
  pl : Nat
  data : ByteArray
  bit : Nat
abbrev Wn.val (x : Wn) : Value := .agg #[.int .i64 x.pl, .string x.data, .int .i64 x.bit]
def Wn.key (x : Wn) : Nat := x.pl * 64 + x.bit
def wcells (l : List Wn) : List Value := l.flatMap fun x => [.int .i64 x.pl, .string x.data, .int .i64 x.bit]
theorem wcells_cons (x : Wn) (l : List Wn) : wcells (x :: l) = .int .i64 x.pl :: .string x.data :: .int .i64 x.bit :: wcells l := rfl
theorem wcells_length (l : List Wn) : (wcells l).length = l.length * 3 := by
  induction l with
  | nil => rfl
  | cons r l ih => rw [wcells_cons, List.length_cons, List.length_cons, List.length_cons, ih, List.length_cons]; omega
theorem wcells_append (l l' : List Wn) : wcells (l ++ l') = wcells l ++ wcells l' := by simp [wcells]
theorem wcells_one (l : List Wn) : ∀ u ∈ wcells l, u.oneCell' = true := by
  intro u hu
  simp only [wcells, List.mem_flatMap] at hu
  obtain ⟨r, _, hr⟩ := hu
  simp only [List.mem_cons, List.not_mem_nil, or_false] at hr
  rcases hr with rfl | rfl | rfl <;> rfl
theorem wcells_at (l : List Wn) : ∀ (i : Nat) (h : i < l.length), (wcells l)[i * 3]? = some (.int .i64 l[i].pl) ∧ (wcells l)[i * 3 + 1]? = some (.string l[i].data) ∧ (wcells l)[i * 3 + 2]? = some (.int .i64 l[i].bit) := by
  induction l with
  | nil => intro i h; exact absurd h (Nat.not_lt_zero _)
  | cons r l ih =>
    intro i h
    cases i with
    | zero => exact ⟨rfl, rfl, rfl⟩
    | succ i =>
      have := ih i (by simpa using h)
      rw [wcells_cons, show (i + 1) * 3 = i * 3 + 3 by omega]
      exact this
theorem wcells_take (l : List Wn) (k : Nat) : (wcells l).take (k * 3) = wcells (l.take k) := by
  by_cases hk : k ≤ l.length
  · have e := wcells_append (l.take k) (l.drop k)
    rw [List.take_append_drop] at e
    have hl : (wcells (l.take k)).length = k * 3 := by rw [wcells_length, List.length_take, Nat.min_eq_left hk]
    rw [e, List.take_append_of_le_length (by omega), List.take_of_length_le (by omega)]
  · rw [List.take_of_length_le (by rw [wcells_length]; omega), List.take_of_length_le (by omega)]

/-- What a device has. -/
structure Dl where
  now : List ByteArray
  good : List ByteArray
  wr : List Wn
  next : Nat
  busy : List Rq
/-- Where its rows lie. -/
structure An where
  wa : Option Addr
  wc : Nat
  ba : Option Addr
  bc : Nat
def strV (l : List ByteArray) : List Value := l.map fun s => .string s
def Dl.cells (d : Dl) (a : An) : List Value := strV d.now ++ strV d.good ++ [.slice a.wa d.wr.length a.wc, .int .i64 d.next, .slice a.ba d.busy.length a.bc]
def An.foot (a : An) (b : Nat) (k : Nat) : Prop := k = b ∨ (∃ p, a.wa = some p ∧ k = p.block) ∨ (∃ p, a.ba = some p ∧ k = p.block)

structure DevAt (b : Nat) (d : Dl) (a : An) (w : World) : Prop where
  n32 : d.now.length = 32
  g32 : d.good.length = 32
  blk : w.heap[b]? = some (.cells (d.cells a).toArray 101 (0, 0))
  wrow : w.ownsRow 0 111 3 (.slice a.wa d.wr.length a.wc) d.wr.length (wcells d.wr)
  brow : w.ownsRow 0 38 6 (.slice a.ba d.busy.length a.bc) d.busy.length (rcells d.busy)
  sepw : ∀ p, a.wa = some p → p.block ≠ b
  sepb : ∀ p, a.ba = some p → p.block ≠ b
  sepwb : ∀ p q, a.wa = some p → a.ba = some q → p.block ≠ q.block
  reqs : ∀ r ∈ d.busy, r.At w ∧ r.Off (a.foot b)
  wfin : ∀ x ∈ d.wr, x.pl < 32 ∧ x.bit < 64
  nod : (d.wr.map Wn.key).Nodup
  blen : d.busy.length ≤ 2
  nxt : d.next < 64

structure DStep (b : Nat) (d : Dl) (a : An) (d' : Dl) (a' : An) (w w' : World) : Prop where
  dev : DevAt b d' a' w'
  only : Only (a.foot b) w w'
  foot : ∀ k, a'.foot b k → a.foot b k ∨ w.heap.size ≤ k
theorem DStep.trans {b : Nat} {d d' d'' : Dl} {a a' a'' : An} {w w' w'' : World} (h : DStep b d a d' a' w w') (k : DStep b d' a' d'' a'' w' w'') : DStep b d a d'' a'' w w'' :=
  ⟨k.dev, h.only.trans k.only h.foot, fun i hi => (k.foot i hi).elim (h.foot i) (fun h' => Or.inr (Nat.le_trans h.only.size h'))⟩

theorem strV_length (l : List ByteArray) : (strV l).length = l.length := by simp [strV]
theorem Dl.cells_length {d : Dl} {a : An} (h1 : d.now.length = 32) (h2 : d.good.length = 32) : (d.cells a).length = 67 := by simp [Dl.cells, strV_length, h1, h2]
theorem Dl.cell64 {d : Dl} {a : An} (h1 : d.now.length = 32) (h2 : d.good.length = 32) : (d.cells a)[64]? = some (.slice a.wa d.wr.length a.wc) := by
  rw [Dl.cells, List.getElem?_append_right (by simp [strV_length, h1, h2])]; simp [strV_length, h1, h2]
theorem Dl.cell65 {d : Dl} {a : An} (h1 : d.now.length = 32) (h2 : d.good.length = 32) : (d.cells a)[65]? = some (.int .i64 d.next) := by
  rw [Dl.cells, List.getElem?_append_right (by simp [strV_length, h1, h2])]; simp [strV_length, h1, h2]
theorem Dl.cell66 {d : Dl} {a : An} (h1 : d.now.length = 32) (h2 : d.good.length = 32) : (d.cells a)[66]? = some (.slice a.ba d.busy.length a.bc) := by
  rw [Dl.cells, List.getElem?_append_right (by simp [strV_length, h1, h2])]; simp [strV_length, h1, h2]
theorem Dl.cellNow {d : Dl} {a : An} (h1 : d.now.length = 32) (k : Nat) (hk : k < 32) : (d.cells a)[k]? = some (.string (d.now.getD k ByteArray.empty)) := by
  rw [Dl.cells, List.append_assoc, List.getElem?_append_left (by rw [strV_length]; omega)]
  simp [strV, List.getElem?_eq_getElem (show k < d.now.length by omega)]
theorem nodup_le : ∀ (n : Nat) (l : List Nat), l.Nodup → (∀ x ∈ l, x < n) → l.length ≤ n
  | 0, l, _, h => by
    cases l with
    | nil => simp
    | cons x l => exact absurd (h x (by simp)) (Nat.not_lt_zero _)
  | n + 1, l, hn, h => by
    have h1 := nodup_le n (l.erase n) (hn.erase n) (fun x hx => by
      have := h x (List.mem_of_mem_erase hx)
      have hne := (hn.mem_erase_iff).1 hx
      omega)
    have h2 : l.length - 1 ≤ (l.erase n).length := by rw [List.length_erase]; split <;> omega
    omega
section
variable {b : Nat} {d : Dl} {a : An} {w : World}
theorem DevAt.wlen (h : DevAt b d a w) : d.wr.length ≤ 2048 := by
  have := nodup_le 2048 _ h.nod (fun x hx => by
    obtain ⟨y, hy, rfl⟩ := List.mem_map.1 hx
    have := h.wfin y hy
    unfold Wn.key; omega)
  simpa using this
theorem DevAt.c64 (h : DevAt b d a w) : w.cell? ⟨b, 64, none⟩ = some (.slice a.wa d.wr.length a.wc) := by rw [cell_of_heap h.blk]; exact Dl.cell64 h.n32 h.g32
theorem DevAt.c65 (h : DevAt b d a w) : w.cell? ⟨b, 65, none⟩ = some (.int .i64 d.next) := by rw [cell_of_heap h.blk]; exact Dl.cell65 h.n32 h.g32
theorem DevAt.c66 (h : DevAt b d a w) : w.cell? ⟨b, 66, none⟩ = some (.slice a.ba d.busy.length a.bc) := by rw [cell_of_heap h.blk]; exact Dl.cell66 h.n32 h.g32
theorem DevAt.cNow (h : DevAt b d a w) (k : Nat) (hk : k < 32) : w.cell? ⟨b, k, none⟩ = some (.string (d.now.getD k ByteArray.empty)) := by rw [cell_of_heap h.blk]; exact Dl.cellNow h.n32 k hk
theorem DevAt.fz (h : DevAt b d a w) (j : Nat) : w.frozen? ⟨b, j, none⟩ = false := frozen_of_heap h.blk j
theorem DevAt.lt (h : DevAt b d a w) : b < w.heap.size := lt_of_heap h.blk
theorem DevAt.wlt (h : DevAt b d a w) (p : Addr) (hp : a.wa = some p) : p.block < w.heap.size := (h.wrow.lt p.block (by rw [hp]; rfl)).2
theorem DevAt.blt (h : DevAt b d a w) (p : Addr) (hp : a.ba = some p) : p.block < w.heap.size := (h.brow.lt p.block (by rw [hp]; rfl)).2
theorem DevAt.footLt (h : DevAt b d a w) (k : Nat) (hk : a.foot b k) : k < w.heap.size := by
  rcases hk with rfl | ⟨p, hp, rfl⟩ | ⟨p, hp, rfl⟩
  · exact h.lt
  · exact h.wlt p hp
  · exact h.blt p hp
/-- A device that nothing of its own has turned. -/
theorem DevAt.frame {F : Nat → Prop} {w' : World} (h : DevAt b d a w) (hk : Only F w w') (hF : ∀ k, a.foot b k → ¬ F k) (hr : ∀ r ∈ d.busy, r.Off F) : DevAt b d a w' where
  n32 := h.n32
  g32 := h.g32
  blk := by rw [hk.block b h.lt (hF b (Or.inl rfl))]; exact h.blk
  wrow := own_frame h.wrow fun g hg => by
    have hl := h.wrow.lt g hg
    cases hp : a.wa with
    | none => rw [hp] at hg; cases hg
    | some p =>
      rw [hp] at hg
      simp only [Value.ownBlock, Option.some.injEq] at hg
      subst hg
      exact hk.block _ hl.2 (hF _ (Or.inr (Or.inl ⟨p, hp, rfl⟩)))
  brow := own_frame h.brow fun g hg => by
    have hl := h.brow.lt g hg
    cases hp : a.ba with
    | none => rw [hp] at hg; cases hg
    | some p =>
      rw [hp] at hg
      simp only [Value.ownBlock, Option.some.injEq] at hg
      subst hg
      exact hk.block _ hl.2 (hF _ (Or.inr (Or.inr ⟨p, hp, rfl⟩)))
  sepw := h.sepw
  sepb := h.sepb
  sepwb := h.sepwb
  reqs := fun r hr' => ⟨(h.reqs r hr').1.frame (hr r hr') hk, (h.reqs r hr').2⟩
  wfin := h.wfin
  nod := h.nod
  blen := h.blen
  nxt := h.nxt
theorem DevAt.later {w' : World} (h : DevAt b d a w) (hk : Below w.heap.size w w') : DevAt b d a w' :=
  h.frame (F := fun _ => False) (Only.of_below hk) (fun _ _ e => e) (fun _ _ => ⟨fun _ _ _ e => e, fun _ _ _ e => e⟩)
theorem DevAt.alloc (h : DevAt b d a w) (o : Obj) : DevAt b d a (w.alloc o) := h.later (below1 w o)
theorem DevAt.reqsAt (h : DevAt b d a w) : ReqsAt w a.ba d.busy := by
  have hl : d.busy.length ≤ 9223372036854775807 := by have := h.blen; omega
  obtain ⟨a', c', hv, hR, _⟩ := reqs_of_owned h.brow (fun r hr => (h.reqs r hr).1) rfl (by omega)
  simp only [Value.slice.injEq, true_and] at hv
  rw [hv.1]; exact hR
end
end Go.Proofs.Ythmeaclekedilac
/- A device: New, Peek, Busy. -/
namespace Go.Proofs.Ythmeaclekedilac
open Go.RowKit Go.BigFrame
attribute [local go_sem] Later.cell Later.frozen

def d0 : Dl := ⟨List.replicate 32 ByteArray.empty, List.replicate 32 ByteArray.empty, [], 0, []⟩
def an0 : An := ⟨none, 0, none, 0⟩
theorem d0_at (w : World) (b : Nat) (h : w.heap[b]? = some (.cells (d0.cells an0).toArray 101 (0, 0))) : DevAt b d0 an0 w where
  n32 := rfl
  g32 := rfl
  blk := h
  wrow := World.ownsRow_nil _ _ _ _
  brow := World.ownsRow_nil _ _ _ _
  sepw := fun p hp => by cases hp
  sepb := fun p hp => by cases hp
  sepwb := fun p q hp => by cases hp
  reqs := fun r hr => by cases hr
  wfin := fun r hr => by cases hr
  nod := by simp [d0]
  blen := by simp [d0]
  nxt := by simp [d0]
set_option maxRecDepth 100000 in
set_option maxHeartbeats 400000 in
theorem new_any (w : World) : Calls Try.prog 11 #[] w fun e w' => e = .returned (.pointer (some ⟨w.heap.size, 0, none⟩)) ∧ DevAt w.heap.size d0 an0 w' ∧ Below w.heap.size w w' ∧ w'.heap.size = w.heap.size + 1 := by
  have hz : ∀ w', Sem.run Try.prog (zeroValue 101) w' = .ok (.agg (d0.cells an0).toArray) w' := fun _ => rfl
  go_enter Try.func11, Try.ntmps11
  go_wp2
  go_ret
  refine ⟨rfl, d0_at _ _ ?_, below1 _ _, by simp⟩
  rw [heap_alloc_new]
set_option maxHeartbeats 400000 in
theorem peek_no (b : Nat) (p : Int) (w : World) (h : p < 0 ∨ 32 ≤ p) :
    Calls Try.prog 25 #[.pointer (some ⟨b, 0, none⟩), .int .i64 p] w fun e w' => e = .returned (.string ⟨#[]⟩) ∧ Below w.heap.size w w' := by
  rcases h with h | h
  · go_enter Try.func25, Try.ntmps25
    go_wp2
    go_ret
    exact ⟨rfl, Below.refl _ _⟩
  · have h' : ¬ p < 0 := by omega
    go_enter Try.func25, Try.ntmps25
    go_wp2
    go_ret
    exact ⟨rfl, Below.refl _ _⟩
set_option maxHeartbeats 400000 in
theorem peek_in (b : Nat) (d : Dl) (a : An) (k : Nat) (w : World) (h : DevAt b d a w) (hk : k < 32) (s : ByteArray) (hs : d.now.getD k ByteArray.empty = s) :
    Calls Try.prog 25 #[.pointer (some ⟨b, 0, none⟩), .int .i64 k] w fun e w' => e = .returned (.string s) ∧ Below w.heap.size w w' := by
  have c := h.cNow k hk
  rw [hs] at c
  have h1 : ¬ (k : Int) < 0 := by omega
  have h2 : ¬ (32 : Int) ≤ (k : Int) := by omega
  have h3 : (k : Int) < 32 := by omega
  clear hs h
  go_enter Try.func25, Try.ntmps25
  go_wp2
  go_ret
  exact ⟨rfl, Below.refl _ _⟩
theorem infoR : (Try.prog.info? 38).map (fun i => (i.zero, i.size, i.bytes)) = some (some (.agg #[.bool false, .int .i64 0, .int .i64 0, .slice none 0 0, .slice none 0 0, .int .i64 0]), 6, 80) := by kernel_rfl
theorem rowAll {w : World} {a : Option Addr} {c : Nat} {l : List Rq} (h : ReqsAt w a l) (hn : a = none → c = 0) : RowAt w 6 a l.length c (rcells l) := by
  rcases h.1 with rfl | ⟨b, o, rfl, hc⟩
  · cases a with
    | none => exact ⟨rfl, by simp [rcells], Or.inl ⟨rfl, rfl, hn rfl⟩⟩
    | some ad => exact ⟨rfl, by simp [rcells], Or.inr ⟨ad, rfl, fun j u h => by simp [rcells] at h⟩⟩
  · refine ⟨rcells_length l, rcells_one l, Or.inr ⟨_, rfl, fun k u hk => ?_⟩⟩
    obtain ⟨i, j, hi, hj, rfl, rfl⟩ := rcells_inv hk
    rw [add_mk', ← hc i hi j hj]
    congr 2
    omega
set_option maxRecDepth 100000 in
set_option maxHeartbeats 1000000 in
theorem cloneD (l : List Rq) (a : Option Addr) (c : Nat) (w : World) (hl : ReqsAt w a l) (hn : a = none → c = 0) (h10 : l.length ≤ 100000) :
    Calls Try.prog 61 #[.slice a l.length c] w fun e w' => ∃ a' c', e = .returned (.slice a' l.length c') ∧ ReqsAt w' a' l ∧ (a' = none → c' = 0) ∧ Below w.heap.size w w' := by
  obtain ⟨i, hi, hz0, hz1, hz2⟩ := pluck infoR
  have R := rowAll hl hn
  have q22 : ∀ (w : World) (a : Option Addr) (n c n' c' : Nat), (binOp .eql 30 (.slice a n c) (.slice none n' c')).run Try.prog w = .ok (.bool a.isNone) w := fun w a n c n' c' => Lib.run_eql_slice_nil w _ _ a n c n' c' Try.underlying30
  cases a with
  | none =>
    obtain rfl := hn rfl
    have hl0 : l = [] := by
      rcases hl.form with h | ⟨b, o, h⟩
      · exact h
      · cases h
    subst hl0
    go_enter Try.func61, Try.ntmps61
    go_wp2
    go_ret
    exact ⟨none, 0, rfl, ⟨Or.inl rfl, by simp, by simp⟩, fun _ => rfl, by repeat (first | with_reducible exact Below.refl _ _ | with_reducible refine balloc ?_ _ | with_reducible refine bdrew ?_ | with_reducible refine bset' ?_ (by omega) _ | with_reducible refine bthen ?_ (by assumption))⟩
  | some ad =>
    have HL : Hid (l.length ≤ 100000) := h10
    go_enter Try.func61, Try.ntmps61
    go_wp2_with (at_builtin; refine wpList_append_row rfl _ _ 30 rfl w.heap.size 38 i _ 6 80 Try.underlying30 hi hz0 hz1 hz2 rfl (by decide) _ 0 [] rfl (World.ownsRow_made _ _ _ (Nat.le_refl _) (by unfold maxLen; omega) (by simp)) (some ad) l.length c (rcells l) rfl (R.later (by repeat (first | with_reducible exact Below.refl _ _ | with_reducible refine balloc ?_ _ | with_reducible refine bdrew ?_ | with_reducible refine bset' ?_ (by omega) _ | with_reducible refine bthen ?_ (by assumption)))) (by unfold maxLen; omega) (by omega) (by simp) ?_; intro v1 w2 hown1 hb1)
    rw [Nat.zero_add, List.nil_append] at hown1
    obtain ⟨a', c', rfl, hR, _, _, hnn, _⟩ := reqs_of_owned hown1 (fun r hr => (hl.2.1 r hr).later ((balloc (Below.refl _ _) _).trans hb1)) rfl (by omega)
    go_wp2
    go_ret
    exact ⟨a', c', rfl, hR, hnn, (balloc (Below.refl _ _) _).trans hb1⟩
theorem DevAt.bnil {b : Nat} {d : Dl} {a : An} {w : World} (h : DevAt b d a w) : a.ba = none → a.bc = 0 := by
  obtain ⟨x, c, hv, h1, _⟩ := slice_of_own h.brow
  simp only [Value.slice.injEq, true_and] at hv
  obtain ⟨rfl, rfl⟩ := hv
  exact h1
set_option maxHeartbeats 400000 in
theorem busy_any (b : Nat) (d : Dl) (a : An) (w : World) (h : DevAt b d a w) :
    Calls Try.prog 24 #[.pointer (some ⟨b, 0, none⟩)] w fun e w' => ∃ a' c', e = .returned (.slice a' d.busy.length c') ∧ ReqsAt w' a' d.busy ∧ (a' = none → c' = 0) ∧ Below w.heap.size w w' := by
  have c := h.c66
  have hb := h.blen
  go_enter Try.func24, Try.ntmps24
  go_wp2_with fail
  refine (cloneD d.busy a.ba a.bc _ h.reqsAt h.bnil (by omega)).mono ?_
  rintro e w1 ⟨a', c', rfl, hR, hn, hb1⟩
  go_wp2
  go_ret
  exact ⟨a', c', rfl, hR, hn, hb1⟩
end Go.Proofs.Ythmeaclekedilac
