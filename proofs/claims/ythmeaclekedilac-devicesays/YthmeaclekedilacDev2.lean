/- A device: Start. -/
import Derived.Test.YthmeaclekedilacDev1
import Derived.Deep.RegionLaw
namespace Go.Proofs.Ythmeaclekedilac
open Go.RowKit Go.BigFrame
attribute [local go_sem] Later.cell Later.frozen

theorem hidT {p : Prop} (h : p) : Hid p := h
theorem cells_set66 (d : Dl) (a : An) (l : List Rq) (x : Option Addr) (c : Nat) (h1 : d.now.length = 32) (h2 : d.good.length = 32) : (d.cells a).set 66 (.slice x l.length c) = ({ d with busy := l } : Dl).cells { a with ba := x, bc := c } := by
  rw [Dl.cells, List.set_append_right _ _ (by simp [strV_length, h1, h2])]
  simp [strV_length, h1, h2, Dl.cells]
theorem ownBlock_slice {a : Option Addr} {n c : Nat} {g : Nat} : (Value.slice a n c).ownBlock = some g ↔ ∃ p, a = some p ∧ g = p.block := by
  cases a with
  | none => simp [Value.ownBlock]
  | some p => simp [Value.ownBlock, eq_comm]
theorem DStep.drewAt {b : Nat} {d d' : Dl} {a a' : An} {w w' : World} (h : DStep b d a d' a' w w') : DStep b d a d' a' w w'.drew := ⟨h.dev.later (Below.refl _ _).drew, h.only.drew, h.foot⟩
/-- The row of requests is another one, in its old place or a new block. -/
theorem DevAt.busied {b : Nat} {d : Dl} {a : An} {w w2 w3 : World} (h : DevAt b d a w) (hb : Below w.heap.size w w2) (l : List Rq) (hl2 : l.length ≤ 2) (hr : ∀ r ∈ l, r.At w ∧ r.Off (a.foot b)) {v : Value}
    (hown : w3.ownsRow 0 38 6 v l.length (rcells l)) (hg : w2.grownBy w3 (Value.slice a.ba d.busy.length a.bc).ownBlock) (hv : ∀ g, v.ownBlock = some g → (∃ p, a.ba = some p ∧ g = p.block) ∨ w2.heap.size ≤ g) :
    ∃ x c, v = .slice x l.length c ∧ DStep b d a { d with busy := l } { a with ba := x, bc := c } w (w3.setCell ⟨b, 66, none⟩ v) := by
  obtain ⟨x, c, rfl, _⟩ := slice_of_own hown
  have hs2 := hb.size
  have nb : some b ≠ (Value.slice a.ba d.busy.length a.bc).ownBlock := fun e => by
    obtain ⟨p, hp, e'⟩ := ownBlock_slice.1 e.symm
    exact h.sepb p hp e'.symm
  have hlt := h.lt
  have e3 : w3.heap[b]? = some (.cells (d.cells a).toArray 101 (0, 0)) := by
    rw [hg.block b (by omega) nb, hb.block b hlt]; exact h.blk
  have xb : ∀ p, x = some p → p.block ≠ b := fun p hp e => by
    rcases hv p.block (ownBlock_slice.2 ⟨p, hp, rfl⟩) with ⟨q, hq, e'⟩ | h'
    · exact h.sepb q hq (by omega)
    · omega
  have hon : Only (a.foot b) w (w3.setCell ⟨b, 66, none⟩ (.slice x l.length c)) := by
    refine ((Only.of_below hb).grown hg (fun k hk => Or.inl ?_)).setCell _ (Or.inl (Or.inl rfl)) _
    obtain ⟨p, hp, e⟩ := ownBlock_slice.1 hk
    exact Or.inr (Or.inr ⟨p, hp, e⟩)
  have hft : ∀ k, ({ a with ba := x, bc := c } : An).foot b k → a.foot b k ∨ w.heap.size ≤ k := by
    rintro k (rfl | ⟨p, hp, rfl⟩ | ⟨p, hp, rfl⟩)
    · exact Or.inl (Or.inl rfl)
    · exact Or.inl (Or.inr (Or.inl ⟨p, hp, rfl⟩))
    · rcases hv p.block (ownBlock_slice.2 ⟨p, hp, rfl⟩) with ⟨q, hq, e'⟩ | h'
      · exact Or.inl (Or.inr (Or.inr ⟨q, hq, e'⟩))
      · exact Or.inr (by omega)
  refine ⟨x, c, rfl, ⟨?_, hon, hft⟩⟩
  exact {
    n32 := h.n32
    g32 := h.g32
    blk := by rw [set_same e3, cells_set66 d a l x c h.n32 h.g32]
    wrow := own_frame h.wrow fun g hg' => by
      obtain ⟨p, hp, rfl⟩ := ownBlock_slice.1 hg'
      have hpl := h.wlt p hp
      rw [set_other _ _ (h.sepw p hp), hg.block _ (by omega) (fun e => ?_), hb.block _ hpl]
      obtain ⟨q, hq, e'⟩ := ownBlock_slice.1 e.symm
      exact h.sepwb p q hp hq e'
    brow := own_frame hown fun g hg' => by
      obtain ⟨p, hp, rfl⟩ := ownBlock_slice.1 hg'
      exact set_other _ _ (xb p hp)
    sepw := h.sepw
    sepb := xb
    sepwb := fun p q hp hq e => by
      rcases hv q.block (ownBlock_slice.2 ⟨q, hq, rfl⟩) with ⟨q', hq', e'⟩ | h'
      · exact h.sepwb p q' hp hq' (by omega)
      · have := h.wlt p hp; omega
    reqs := fun r hr' => ⟨(hr r hr').1.frame (hr r hr').2 hon, (hr r hr').2.step (hr r hr').1 hft⟩
    wfin := h.wfin
    nod := h.nod
    blen := hl2
    nxt := h.nxt }

theorem newRowAt {w : World} {n : Nat} (hn : w.heap.size = n) (vs : List Value) (T : TypeId) (j : Nat) (u : Value) (h : vs[j]? = some u) : (w.alloc (.cells vs.toArray T)).cell? (Addr.add ⟨n, 0, none⟩ j) = some u := by
  subst hn
  rw [Addr.add_mid, Nat.zero_add]
  exact (cell_of_heap (heap_alloc_new w (.cells vs.toArray T)) j).trans h
theorem DevAt.kept66 {b : Nat} {d : Dl} {a : An} {w w2 w3 : World} (h : DevAt b d a w) (hb : Below w.heap.size w w2) (hg : w2.grownBy w3 (Value.slice a.ba d.busy.length a.bc).ownBlock) : w3.cell? ⟨b, 66, none⟩ = some (.slice a.ba d.busy.length a.bc) ∧ w3.frozen? ⟨b, 66, none⟩ = false ∧ b < w3.heap.size := by
  have hs2 := hb.size
  have hs3 := hg.size
  have nb : some b ≠ (Value.slice a.ba d.busy.length a.bc).ownBlock := fun e => by
    obtain ⟨p, hp, e'⟩ := ownBlock_slice.1 e.symm
    exact h.sepb p hp e'.symm
  have hlt := h.lt
  have e3 : w3.heap[b]? = some (.cells (d.cells a).toArray 101 (0, 0)) := by
    rw [hg.block b (by omega) nb, hb.block b hlt]; exact h.blk
  exact ⟨by rw [cell_of_heap e3]; exact Dl.cell66 h.n32 h.g32, frozen_of_heap e3 66, lt_of_heap e3⟩

set_option maxHeartbeats 400000 in
theorem start_full (b : Nat) (d : Dl) (a : An) (r : Rq) (w : World) (h : DevAt b d a w) (h2 : d.busy.length = 2) :
    Calls Try.prog 14 #[.pointer (some ⟨b, 0, none⟩), r.val] w fun e w' => e = .returned (.iface 47 (.int .i64 7)) ∧ Below w.heap.size w w' := by
  have c := h.c66
  have hl := h.lt
  have h3 : (2 : Int) ≤ (d.busy.length : Int) := by omega
  clear h
  go_enter Try.func14, Try.ntmps14
  go_wp2
  go_ret
  exact ⟨rfl, by repeat (first | with_reducible exact Below.refl _ _ | with_reducible refine balloc ?_ _ | with_reducible refine bdrew ?_ | with_reducible refine bset' ?_ (by omega) _ | with_reducible refine bthen ?_ (by assumption))⟩
theorem rcells_snoc (l : List Rq) (r : Rq) : rcells (l ++ [r]) = rcells l ++ [.bool r.wr, .int .i64 r.f, .int .i64 r.m, .slice r.da r.data.length r.dc, .slice r.ta r.tags.length r.tc, .int .i64 r.born] := by rw [rcells_append]; rfl
set_option maxRecDepth 100000 in
set_option maxHeartbeats 2000000 in
theorem start_ok (b : Nat) (d : Dl) (a : An) (r : Rq) (w : World) (h : DevAt b d a w) (h2 : d.busy.length < 2) (hr : r.At w) (ho : r.Off (a.foot b)) :
    Calls Try.prog 14 #[.pointer (some ⟨b, 0, none⟩), r.val] w fun e w' => ∃ a', e = .returned .nilIface ∧ DStep b d a { d with busy := d.busy ++ [r] } a' w w' := by
  obtain ⟨i, hi, hz0, hz1, hz2⟩ := pluck infoR
  have HI := hidT (⟨hi, hz0, hz1, hz2⟩ : Try.prog.info? 38 = some i ∧ _ ∧ _ ∧ _)
  have c := h.c66
  have hl := h.lt
  have h3 : ¬ (2 : Int) ≤ (d.busy.length : Int) := by omega
  have HD := hidT h
  have HR := hidT (⟨hr, ho⟩ : r.At w ∧ r.Off (a.foot b))
  clear h hr ho hi hz0 hz1 hz2
  go_enter Try.func14, Try.ntmps14
  go_wp2_with fail
  go_region_law (refine step_push rfl (.tmp 16) (.tmp 18) 30 rfl 0 38 i _ 6 80 Try.underlying30 HI.out.1 HI.out.2.1 HI.out.2.2.1 HI.out.2.2.2 rfl (by decide) (.slice a.ba d.busy.length a.bc) d.busy.length (rcells d.busy) (by simp [Act.eval]) (HD.out.later (by repeat (first | with_reducible exact Below.refl _ _ | with_reducible refine balloc ?_ _ | with_reducible refine bdrew ?_ | with_reducible refine bset' ?_ (by omega) _ | with_reducible refine bthen ?_ (by assumption)))).brow ⟨w.heap.size + 1, 0, none⟩ 1 1 [.bool r.wr, .int .i64 r.f, .int .i64 r.m, .slice r.da r.data.length r.dc, .slice r.ta r.tags.length r.tc, .int .i64 r.born] (by simp [Act.eval]) rfl (fun j u hj => newRowAt (by simp) _ _ j u hj) (by simp [Value.oneCell']) (by omega) (by unfold maxLen; omega) (by omega) (Nat.zero_le _) ?_; intro v' w3 hown hg hv; obtain ⟨x, cx, rfl, -⟩ := slice_of_own hown; obtain ⟨c3, f3, l3⟩ := HD.out.kept66 (by repeat (first | with_reducible exact Below.refl _ _ | with_reducible refine balloc ?_ _ | with_reducible refine bdrew ?_ | with_reducible refine bset' ?_ (by omega) _ | with_reducible refine bthen ?_ (by assumption))) hg; have HG := hidT (⟨hown, hg, hv⟩ : _ ∧ _ ∧ _); clear hown hg hv)
  all_goals
    obtain ⟨hown, hg, hv⟩ := HG.out
    obtain ⟨x', c', e', hst⟩ := HD.out.busied (w2 := _) (by repeat (first | with_reducible exact Below.refl _ _ | with_reducible refine balloc ?_ _ | with_reducible refine bdrew ?_ | with_reducible refine bset' ?_ (by omega) _ | with_reducible refine bthen ?_ (by assumption))) (d.busy ++ [r]) (by simp; omega) (fun q hq => by
      rcases List.mem_append.1 hq with hq | hq
      · exact HD.out.reqs q hq
      · obtain rfl := List.mem_singleton.1 hq
        exact HR.out) (by rw [rcells_snoc, List.length_append]; exact hown) hg (fun g hg' => by
      rcases hv with hv | hv
      · rw [hv] at hg'; exact Or.inl (ownBlock_slice.1 hg')
      · rw [hv] at hg'; exact Or.inr (by simpa using Nat.le_of_eq (Option.some.inj hg')))
    have HST := hidT hst
    clear hown hg hv hst e'
    go_wp2
    go_ret
    exact ⟨_, rfl, HST.out⟩
end Go.Proofs.Ythmeaclekedilac
