/- slices.Insert of one sector, in the midst, where there is no room. -/
import Derived.Test.YtgjkdhedkbkagaaGreatJ17
import Derived.Lib.AppendZeros
namespace Go.Proofs.YtgjkdhedkbkagaaGreat
open Go.RowKit Go.BigFrame
set_option maxRecDepth 100000
attribute [local go_sem] Later.cell Later.frozen

set_option maxRecDepth 100000 in
set_option maxHeartbeats 2000000 in
theorem insB_grow (b n i vb : Nat) (ys xs X : List Value) (tv : TypeId) (w : World) (hi : i < n) (hn : n ≤ 1000)
    (hyl : ys.length = i * 4) (hy : ∀ j v, ys[j]? = some v → w.cell? ⟨b, j, none⟩ = some v) (hlt : b < w.heap.size)
    (hxl : xs.length = (n - i) * 4) (hx : ∀ j v, xs[j]? = some v → w.cell? ⟨b, i * 4 + j, none⟩ = some v) (h1 : ∀ v ∈ xs, v.oneCell' = true) (hv : w.heap[vb]? = some (.cells X.toArray tv (0, 0))) (hvl : vb < w.heap.size) (hXl : X.length = 4) (hX1 : ∀ v ∈ X, v.oneCell' = true) :
    Calls Tryz.prog 120 #[.slice (some ⟨b, 0, none⟩) n n, .int .i64 i, .slice (some ⟨vb, 0, none⟩) 1 1] w fun e w' =>
      ∃ G ROW, e = .returned (.slice (some ⟨w.heap.size, 0, none⟩) (n + 1) G) ∧ n + 1 ≤ G ∧ G ≤ maxLen ∧ ROW.length = G * 4 ∧ ROW.take (i * 4) = ys ∧ w'.heap[w.heap.size]? = some (.cells (splice (splice ROW (i * 4) X) ((i + 1) * 4) xs).toArray 93 (0, 0)) ∧ Below w.heap.size w w' := by
  have q1 : ¬ ((i : Int) = (n : Int)) := by omega
  have q2 : ((n : Int) < (n : Int) + 1) := by omega
  have hwr : IntKind.i64.wrap ((n : Int) + 1) = (n : Int) + 1 := by rw [IntKind.wrap_i64]; omega
  have hwi : IntKind.i64.wrap ((i : Int) + 1) = (i : Int) + 1 := by rw [IntKind.wrap_i64]; omega
  have hws : IntKind.i64.wrap ((n : Int) + 1 - (i : Int)) = (n : Int) + 1 - (i : Int) := by rw [IntKind.wrap_i64]; omega
  obtain ⟨i0, hi0, hz0, hzs, hzb⟩ := pluck infoB
  have hold : (Builtin.firstCells i0.size i (.slice (some ⟨b, 0, none⟩) i n)).run Tryz.prog w.drew = .ok ys.toArray w.drew := by
    rw [hzs]
    exact run_firstCells_some w.drew 4 i ⟨b, 0, none⟩ i n ys (by omega) (fun j v hj => by rw [addB_mk, Nat.zero_add]; exact hy j v hj)
  have hik : i + (n + 1 - i) = n + 1 := by omega
  have hkk : (n : Int) + 1 - (i : Int) = ((n + 1 - i : Nat) : Int) := by omega
  obtain ⟨G, hG⟩ : ∃ G, G = grownCap w (n + 1) n 93 := ⟨_, rfl⟩
  obtain ⟨ROW, hROW⟩ : ∃ ROW : List Value, ROW = (ys.toArray ++ (Builtin.zeroCells (Value.agg #[.int .i64 0, .string ByteArray.empty, .bool false, .int .i64 0]).cells (n + 1 - i)) ++ (Builtin.zeroCells (Value.agg #[.int .i64 0, .string ByteArray.empty, .bool false, .int .i64 0]).cells (G - (n + 1)))).toList := ⟨_, rfl⟩
  have hrz : ∀ ty, (Builtin.append_ #[75, 3] ty #[.slice (some ⟨b, 0, none⟩) i n, .int .i64 ((n : Int) + 1 - (i : Int))]).run Tryz.prog w =
      .ok (.slice (some ⟨w.heap.size, 0, none⟩) (n + 1) G) (w.drew.alloc (.cells ROW.toArray 93)) := fun ty => by
    have h := Lib.run_append_grow_zeros w 75 3 ty 93 i0 _ .i64 .i64 Tryz.underlying75 Tryz.underlying3 hi0 hz0 (some ⟨b, 0, none⟩) i n ys hold (n + 1 - i) (by omega) (by omega) (by omega) (by omega) (by rw [hzb]; omega) (by rw [hzb, hik]; exact growslice_fits (by omega) (by omega))
    rw [hik, ← hG] at h
    rw [hkk, h, hROW, Array.toArray_toList]
  have hge : n + 1 ≤ G := by rw [hG]; exact grownCap_ge w _ _ _
  have hGm : G ≤ maxLen := by rw [hG]; exact grownCap_le_maxLen w (n + 1) n _ (by unfold maxLen; omega)
  have hG63 : G ≤ 9223372036854775807 := by unfold maxLen at hGm; omega
  have hRl : ROW.length = G * 4 := by
    rw [hROW]
    simp only [Array.size_append, Array.length_toList, size_zeroCells, List.size_toArray, hyl]
    simp [Value.cells]
    omega
  have hRt : ROW.take (i * 4) = ys := by rw [hROW, Array.toList_append, Array.toList_append, List.toList_toArray, List.append_assoc, List.take_append_of_le_length (by omega), List.take_of_length_le (by omega)]
  clear hROW hold hG hkk hik
  obtain ⟨W1, hW1⟩ : ∃ W1, W1 = w.drew.alloc (.cells ROW.toArray 93) := ⟨_, rfl⟩
  rw [← hW1] at hrz
  have g1 : W1.heap[w.heap.size]? = some (.cells ROW.toArray 93 (0, 0)) := by rw [hW1]; exact heap_alloc_new w.drew _
  have b1 : Below w.heap.size w W1 := by rw [hW1]; exact ((Below.refl _ _).drew).alloc (Nat.le_refl _) _
  have o1 : ∀ k, k < w.heap.size → W1.heap[k]? = w.heap[k]? := fun k hk => by rw [hW1]; exact Below.heap_alloc w.drew _ k hk
  have z1 : W1.heap.size = w.heap.size + 1 := by rw [hW1]; simp
  have e1 : ROW.length = G * 4 ∧ xs.length = (n - i) * 4 ∧ X.length = 4 := ⟨hRl, hxl, hXl⟩
  clear hW1
  have hM2 : Nat.min 1 (n + 1 - i) = 1 := by simp only [Nat.min_def]; split <;> omega
  have hM : Nat.min (n - i) (n + 1 - (i + 1)) = n - i := by simp only [Nat.min_def]; split <;> omega
  have hv1 : W1.heap[vb]? = some (.cells X.toArray tv (0, 0)) := (o1 vb hvl).trans hv
  obtain ⟨W2, hc1, g2, bb2, o2⟩ := run_copy_sp (P := Tryz.prog) W1 75 75 3 93 4 (some ⟨w.heap.size, i * 4, none⟩) (some ⟨vb, 0, none⟩) (n + 1 - i) (G - i) 1 1 w.heap.size (i * 4) _ 93 X Tryz.underlying75 sizeB g1 (by rw [hM2, hXl]) (fun _ => ⟨rfl, _, rfl, fun j v hj => cell_rowB hv1 _ _ _ (by simpa using hj)⟩) (by rw [hRl, hXl]; omega) hX1
  have s2 : (splice ROW (i * 4) X).length = G * 4 := by rw [length_splice _ _ _ (by rw [hRl, hXl]; omega), hRl]
  have src : ∀ j v, xs[j]? = some v → W2.cell? (Addr.add ⟨b, i * 4, none⟩ j) = some v := fun j v hj => by
    rw [addB_mk]
    have := hx j v hj
    simp only [World.cell?] at this ⊢
    rw [o2 b (by omega), o1 b hlt]
    exact this
  have HE := hidC e1
  have HS := hidC src
  have HG2 := hidC g2
  have H1 := hidC h1
  have HT := hidC hRt
  have HB := hidC (b1.trans (bb2 w.heap.size (Nat.le_refl _)))
  have HL2 := hidC s2
  have HM := hidC hM
  have hs1 := fun w' => sliceB_to b n n i w' hi (Nat.le_refl _)
  have hs2 := fun w' => sliceB_at w.heap.size (n + 1) G i w' (by omega) hge
  have hs3 := fun w' => sliceB_from w.heap.size (n + 1) G i w' (by omega) (by omega)
  have hs4 := fun w' => sliceB_at b n n i w' hi (Nat.le_refl _)
  have hcp1 := hc1
  clear hc1 e1 src g2 h1 hRt b1 bb2 s2 hM o1 o2 z1 hRl hxl hXl hx hy hyl hv hv1 g1 hX1 hM2 hG63
  go_enter Tryz.func120, Tryz.ntmps120
  go_wp2_with (at_builtin; refine Lib.wpList_append_run _ rfl _ _ _ _ rfl _ _ rfl rfl _ _ (hrz _) ?_)
  go_region_law (refine step_copy_sp rfl (.tmp 50) (.tmp 53) 75 75 rfl 93 4 Tryz.underlying75 sizeB (some ⟨w.heap.size, (i + 1) * 4, none⟩) (some ⟨b, i * 4, none⟩) (n + 1 - (i + 1)) (G - (i + 1)) (n - i) (n - i) (by simp [Act.eval, Act.put]) (by simp [Act.eval, Act.put]) w.heap.size ((i + 1) * 4) (splice ROW (i * 4) X) 93 xs HG2.out (by rw [HE.out.2.1, HM.out]) (fun _ => ⟨rfl, _, rfl, HS.out⟩) (by rw [HL2.out, HE.out.2.1]; omega) H1.out w.heap.size (Nat.le_refl _) ?_; intro w3 n3 G3 hb3 K3)
  go_wp2
  go_ret
  exact ⟨G, ROW, rfl, hge, hGm, HE.out.1, HT.out, G3.out, (HB.out.drew).trans hb3⟩

theorem insB (l : List Bf) (a : Option Addr) (c base vb i : Nat) (x : Bf) (tv : TypeId) (w : World) (hi : i ≤ l.length) (h8 : l.length ≤ 1000) (hbase : base ≤ w.heap.size) (hN : NewBufs base w a c l) (hv : w.heap[vb]? = some (.cells (bcs x).toArray tv (0, 0)))
    (hne : ∀ b, a = some ⟨b, 0, none⟩ → vb ≠ b) :
    Calls Tryz.prog 120 #[.slice a l.length c, .int .i64 i, .slice (some ⟨vb, 0, none⟩) 1 1] w fun e w' =>
      ∃ a' c', e = .returned (.slice a' (l.length + 1) c') ∧ NewBufs base w' a' c' (l.take i ++ x :: l.drop i) ∧ Below base w w' := by
  have hvl : vb < w.heap.size := by
    rcases Nat.lt_or_ge vb w.heap.size with h' | h'
    · exact h'
    · rw [Array.getElem?_eq_none h'] at hv; cases hv
  by_cases hin : i = l.length
  · subst hin
    rw [List.take_length, List.drop_length]
    exact insB_end l a c base vb x tv w h8 hbase hN hv
  · have hlt : i < l.length := by omega
    have h0 : l ≠ [] := by rintro rfl; exact absurd hlt (Nat.not_lt_zero _)
    obtain ⟨b, rfl, hbb, hblt, hfz⟩ := hN.place h0
    have hne := hne b rfl
    have hnl : (l.take i ++ x :: l.drop i).length = l.length + 1 := by simp; omega
    have hcells : bcells (l.take i ++ x :: l.drop i) = bcells (l.take i) ++ bcs x ++ bcells (l.drop i) := by
      rw [show l.take i ++ x :: l.drop i = l.take i ++ [x] ++ l.drop i by simp, bcells_append, bcells_append, bcs_bcells]
    have hdl : (bcells (l.drop i)).length = (l.length - i) * 4 := by rw [bcells_length, List.length_drop]
    have hX1 : ∀ v ∈ bcs x, v.oneCell' = true := by rw [← bcs_bcells]; exact bcells_one _
    rcases hN.own.2 with ⟨h, _⟩ | ⟨g, cap, cur, hvv, hg, hh, hnc, hcm, hcs, ht⟩
    · cases h
    · simp only [Value.slice.injEq, Option.some.injEq, Addr.mk.injEq, and_true, true_and] at hvv
      obtain ⟨rfl, rfl⟩ := hvv
      have hcm' : c ≤ 9223372036854775807 := by unfold maxLen at hcm; omega
      have hcl : cur.toList.length = c * 4 := by rw [Array.length_toList]; exact hcs
      have hh' : w.heap[b]? = some (.cells cur.toList.toArray 93 (0, 0)) := by rw [Array.toArray_toList]; exact hh
      have hxs : ∀ j v, (bcells (l.drop i))[j]? = some v → cur.toList[i * 4 + j]? = some v := fun j v hj => by
        rw [bcells_drop, ← ht, List.getElem?_take] at hj
        split at hj
        · exact hj
        · cases hj
      have hys : (bcells (l.take i)) = cur.toList.take (i * 4) := by rw [← bcells_take, ← ht, List.take_take, Nat.min_eq_left (by omega)]
      by_cases hroom : l.length + 1 ≤ c
      · refine (insB_shift b l.length c i vb cur.toList (bcells (l.drop i)) (bcs x) tv base w hg hne hh' hcl hlt hroom hcm' hdl hxs (bcells_one _) hv rfl hX1).mono ?_
        rintro e w' ⟨rfl, hrow, hB⟩
        have hsl : (splice cur.toList ((i + 1) * 4) (bcells (l.drop i))).length = c * 4 := by rw [length_splice _ _ _ (by rw [hcl, hdl]; omega), hcl]
        have hX4 : (bcs x).length = 4 := rfl
        have ho : w'.ownsRow base 93 4 (.slice (some ⟨b, 0, none⟩) (l.take i ++ x :: l.drop i).length c) (l.take i ++ x :: l.drop i).length (bcells (l.take i ++ x :: l.drop i)) := by
          refine ⟨bcells_length _, Or.inr ⟨b, c, _, rfl, hg, hrow, by omega, hcm, ?_, ?_⟩⟩
          · rw [List.size_toArray, length_splice _ _ _ (by rw [hsl, hX4]; omega), hsl]
          · rw [List.toList_toArray, hnl, hcells]
            have e1 : (splice (splice cur.toList ((i + 1) * 4) (bcells (l.drop i))) (i * 4) (bcs x)) = cur.toList.take (i * 4) ++ (bcs x ++ (splice cur.toList ((i + 1) * 4) (bcells (l.drop i))).drop ((i + 1) * 4)) := by
              rw [splice, take_splice_leB _ _ _ _ (by omega) (by omega), hX4, show i * 4 + 4 = (i + 1) * 4 by omega]
            have e2 : (splice cur.toList ((i + 1) * 4) (bcells (l.drop i))).drop ((i + 1) * 4) = bcells (l.drop i) ++ cur.toList.drop ((i + 1) * 4 + (bcells (l.drop i)).length) := by
              rw [splice, List.drop_append_of_le_length (by rw [List.length_take]; omega), List.drop_eq_nil_of_le (by rw [List.length_take]; omega), List.nil_append]
            rw [e1, e2, ← hys, ← List.append_assoc, ← List.append_assoc, List.take_append_of_le_length (by simp only [List.length_append, hX4, hdl, bcells_length, List.length_take]; omega), List.take_of_length_le (by simp only [List.length_append, hX4, hdl, bcells_length, List.length_take]; omega)]
        obtain ⟨a', c', hv', hN'⟩ := new_of_owned ho rfl (by omega)
        simp only [Value.slice.injEq, true_and] at hv'
        obtain ⟨rfl, rfl⟩ := hv'
        exact ⟨_, _, rfl, hN', hB⟩
      · obtain rfl : c = l.length := by omega
        refine (insB_grow b l.length i vb (bcells (l.take i)) (bcells (l.drop i)) (bcs x) tv w hlt h8 (by rw [bcells_length, List.length_take]; omega) (fun j v hj => ?_) hblt hdl (fun j v hj => ?_) (bcells_one _) hv hvl rfl hX1).mono ?_
        · have := cell_rowB hh' 0 j v (by
            rw [hys, List.getElem?_take] at hj
            split at hj
            · simpa using hj
            · cases hj)
          rw [addB_mk, Nat.zero_add] at this
          exact this
        · have := cell_rowB hh' (i * 4) j v (hxs j v hj)
          rw [addB_mk] at this
          exact this
        · rintro e w' ⟨G, ROW, rfl, hge, hGm, hRl, hRt, hrow, hB⟩
          have hX4 : (bcs x).length = 4 := rfl
          have hsl : (splice ROW (i * 4) (bcs x)).length = G * 4 := by rw [length_splice _ _ _ (by rw [hRl, hX4]; omega), hRl]
          have ho : w'.ownsRow base 93 4 (.slice (some ⟨w.heap.size, 0, none⟩) (l.take i ++ x :: l.drop i).length G) (l.take i ++ x :: l.drop i).length (bcells (l.take i ++ x :: l.drop i)) := by
            refine ⟨bcells_length _, Or.inr ⟨w.heap.size, G, _, rfl, hbase, hrow, by omega, hGm, ?_, ?_⟩⟩
            · rw [List.size_toArray, length_splice _ _ _ (by rw [hsl, hdl]; omega), hsl]
            · rw [List.toList_toArray, hnl, hcells, show (l.length + 1) * 4 = (i + 1) * 4 + (bcells (l.drop i)).length by rw [hdl]; omega, take_spliceB _ _ _ (by rw [hsl]; omega), show (i + 1) * 4 = i * 4 + (bcs x).length by rw [hX4]; omega, take_spliceB _ _ _ (by rw [hRl]; omega), hRt]
          obtain ⟨a', c', hv', hN'⟩ := new_of_owned ho rfl (by omega)
          simp only [Value.slice.injEq, true_and] at hv'
          obtain ⟨rfl, rfl⟩ := hv'
          refine ⟨_, _, ?_, hN', hB.mono hbase⟩
          rfl
end Go.Proofs.YtgjkdhedkbkagaaGreat
/- Put: its closure, the roads. -/
namespace Go.Proofs.YtgjkdhedkbkagaaGreat
open Go.RowKit Go.BigFrame
set_option maxRecDepth 100000
attribute [local go_sem] Later.cell Later.frozen

theorem ownsRow_laterB {w w' : World} {base size n : Nat} {e : TypeId} {v : Value} {xs : List Value} (h : w.ownsRow base e size v n xs) (hb : Below w.heap.size w w') : w'.ownsRow base e size v n xs := by
  refine ⟨h.1, h.2.elim Or.inl (fun ⟨g, cap, cur, hv, hg, hh, r⟩ => Or.inr ⟨g, cap, cur, hv, hg, ?_, r⟩)⟩
  have hlt : g < w.heap.size := by
    rcases Nat.lt_or_ge g w.heap.size with h' | h'
    · exact h'
    · rw [Array.getElem?_eq_none h'] at hh; cases hh
  rw [hb.block g hlt]
  exact hh
theorem NewBufs.later {base : Nat} {w w' : World} {a : Option Addr} {c : Nat} {l : List Bf} (h : NewBufs base w a c l) (hb : Below w.heap.size w w') : NewBufs base w' a c l :=
  ⟨h.here.later hb, h.cap, h.capM, h.nil, ownsRow_laterB h.own hb⟩

theorem NewBufs.lt {base : Nat} {w : World} {a : Option Addr} {c : Nat} {l : List Bf} (h : NewBufs base w a c l) (b : Nat) (hb : a = some ⟨b, 0, none⟩) : b < w.heap.size := by
  subst hb
  rcases h.own.2 with ⟨h1, _⟩ | ⟨g, cap, cur, h1, hg, hh, _⟩
  · cases h1
  · simp only [Value.slice.injEq, Option.some.injEq, Addr.mk.injEq, and_true] at h1
    obtain ⟨rfl, _⟩ := h1
    rcases Nat.lt_or_ge b w.heap.size with h' | h'
    · exact h'
    · rw [Array.getElem?_eq_none h'] at hh; cases hh
/-- The call of Insert as Put makes it. -/
theorem insP (l : List Bf) (a : Option Addr) (c base i : Nat) (x : Bf) (w : World) (hi : i ≤ l.length) (h8 : l.length ≤ 1000) (hbase : base ≤ w.heap.size) (hN : NewBufs base w a c l) :
    Calls Tryz.prog 120 #[.slice a l.length c, .int .i64 i, .slice (some ⟨w.heap.size, 0, none⟩) 1 1] (w.alloc (.cells #[.int .i64 x.pl, .string x.data, .bool x.dirty, .int .i64 x.used] 93)) fun e w' =>
      ∃ a' c', e = .returned (.slice a' (l.length + 1) c') ∧ NewBufs base w' a' c' (l.take i ++ x :: l.drop i) ∧ Below base w w' ∧ l.length + 1 ≤ c' := by
  refine (insB l a c base w.heap.size i x 93 _ hi h8 (by simp; omega) (hN.later (below1 _ _)) (heap_alloc_new _ _) (fun b hb => ?_)).mono ?_
  · have := hN.lt b hb; omega
  · rintro e w' ⟨a', c', he, h1, h2⟩
    refine ⟨a', c', he, h1, ((below1 _ _).mono hbase).trans h2, ?_⟩
    have := h1.cap
    rw [show (l.take i ++ x :: l.drop i).length = l.length + 1 by simp; omega] at this
    exact this

/-- The four cells of a sector that lies by itself. -/
def FourB (w : World) (b : Nat) (x : Bf) : Prop := w.cell? ⟨b, 0, none⟩ = some (.int .i64 x.pl) ∧ w.cell? ⟨b, 1, none⟩ = some (.string x.data) ∧ w.cell? ⟨b, 2, none⟩ = some (.bool x.dirty) ∧ w.cell? ⟨b, 3, none⟩ = some (.int .i64 x.used)
theorem FourB.later {w w' : World} {b : Nat} {x : Bf} (h : FourB w b x) (hb : Below w.heap.size w w') : FourB w' b x :=
  ⟨cellB_later' hb h.1, cellB_later' hb h.2.1, cellB_later' hb h.2.2.1, cellB_later' hb h.2.2.2⟩
theorem FourB.below {w w' : World} {b base : Nat} {x : Bf} (h : FourB w b x) (hb : Below base w w') (hlt : b < base) : FourB w' b x :=
  ⟨by rw [hb.cell hlt]; exact h.1, by rw [hb.cell hlt]; exact h.2.1, by rw [hb.cell hlt]; exact h.2.2.1, by rw [hb.cell hlt]; exact h.2.2.2⟩

def gtB (at' : Int) (x : Bf) : Bool := decide (at' < x.pl)
set_option maxHeartbeats 400000 in
theorem put1_any (y x : Bf) (pb : Nat) (w : World) (hp : FourB w pb x) :
    Calls Tryz.prog 119 #[y.val, .pointer (some ⟨pb, 0, none⟩)] w fun e w' => e = .returned (.bool (gtB x.pl y)) ∧ Below w.heap.size w w' := by
  have hp' := allocB_cell hp.1
  clear hp
  go_enter Tryz.func119, Tryz.ntmps119
  go_wp2
  go_ret
  exact ⟨rfl, by repeat (first | with_reducible exact Below.refl _ _ | with_reducible refine balloc ?_ _ | with_reducible refine bdrew ?_ | with_reducible refine bset' ?_ (by omega) _ | with_reducible refine bthen ?_ (by assumption))⟩
theorem gtidx_any (x : Bf) (pb : Nat) (l : List Bf) (a : Option Addr) (c : Nat) (w : World) (hl : BufsAt w a l) (hp : FourB w pb x) (r : Int) (hr : idxB (gtB x.pl) l = r) :
    Calls Tryz.prog 94 #[.slice a l.length c, .func (.func 119) #[] #[.pointer (some ⟨pb, 0, none⟩)]] w fun e w' => e = .returned (.int .i64 r) ∧ Below w.heap.size w w' := by
  subst hr
  exact indexB_any 119 (by intro args w; go_simp) (.pointer (some ⟨pb, 0, none⟩)) (gtB x.pl) l a c w hl (fun y w' hb => put1_any y x pb w' (hp.later hb))

/-- Where it goes. -/
def gtAt (at' : Int) (l : List Bf) : Nat := match l.findIdx? (gtB at') with | some k => k | none => l.length
def insL (l : List Bf) (x : Bf) : List Bf := l.take (gtAt x.pl l) ++ x :: l.drop (gtAt x.pl l)
theorem gtAt_le (at' : Int) (l : List Bf) : gtAt at' l ≤ l.length := by
  unfold gtAt
  cases e : l.findIdx? (gtB at') with
  | none => exact Nat.le_refl _
  | some k =>
    rw [List.findIdx?_eq_some_iff_getElem] at e
    exact Nat.le_of_lt e.1
theorem gt_idx (at' : Int) (l : List Bf) : (idxB (gtB at') l = -1 ∧ gtAt at' l = l.length) ∨ idxB (gtB at') l = (gtAt at' l : Int) := by
  unfold idxB gtAt
  cases e : l.findIdx? (gtB at') with
  | none => exact Or.inl ⟨rfl, rfl⟩
  | some k => exact Or.inr rfl

theorem gt_idx2 (at' : Int) (l : List Bf) : (idxB (gtB at') l = -1 ∧ gtAt at' l = l.length) ∨ (idxB (gtB at') l = (gtAt at' l : Int) ∧ gtAt at' l = gtAt at' l) := (gt_idx at' l).imp id (fun h => ⟨h, rfl⟩)
set_option maxRecDepth 100000 in
set_option maxHeartbeats 2000000 in
theorem put_room (gh : Nat) (hc : Array Value) (l : List Bf) (a : Option Addr) (c : Nat) (x : Bf) (w : World) (hl : BufsAt w a l) (hn : a = none → c = 0) (h8 : l.length < 8) (hi : idxB (plB x.pl) l = -1) :
    Calls Tryz.prog 101 #[.slice a l.length c, x.val, .func (.func gh) #[] hc] w fun e w' => ∃ a' c', e = .returned (.tuple #[.slice a' (l.length + 1) c', .nilIface]) ∧ BufsAt w' a' (insL l x) ∧ l.length + 1 ≤ c' ∧ Below w.heap.size w w' := by
  have HI := hidC hi
  clear hi
  have b0 := below1 w (.cells #[.int .i64 x.pl, .string x.data, .bool x.dirty, .int .i64 x.used] 93)
  go_enter Tryz.func101, Tryz.ntmps101
  go_wp2_with fail
  refine (cloneB_any l a c _ (hl.later b0) hn (by omega)).mono ?_
  rintro e w1 ⟨a1, c1, rfl, hN, hb1⟩
  have F1 : FourB w1 w.heap.size x := FourB.later ⟨by simp, by simp, by simp, by simp⟩ hb1
  have HB1 : Below w.heap.size w w1 := bthen b0 hb1
  have z1 : w.heap.size + 1 ≤ w1.heap.size := by have := hb1.size; simpa using this
  have hN1 : NewBufs (w.heap.size + 1) w1 a1 c1 l := by simpa using hN
  clear hN hb1 b0
  obtain ⟨p0, p1, p2, p3⟩ := id F1
  go_wp2_with fail
  refine (place_eq l a1 c1 x.pl _ hN1.here _ HI.out).mono ?_
  rintro e w2 ⟨rfl, hb2⟩
  have F2 := F1.later hb2
  have HB2 := bthen HB1 hb2
  have z2 : w.heap.size + 1 ≤ w2.heap.size := Nat.le_trans z1 hb2.size
  have hN2 := hN1.later hb2
  clear hb2 HB1 F1 p0 p1 p2 p3 hN1 z1
  obtain ⟨p0, p1, p2, p3⟩ := id F2
  have h8' : ¬ (8 : Int) ≤ (l.length : Int) := by omega
  rcases gt_idx2 x.pl l with ⟨hg, hgl⟩ | ⟨hg, hgl⟩
  all_goals
    have HG := hidC hg
    have HGL := hidC hgl
    clear hg hgl
    go_wp2_with fail
    refine (gtidx_any x w.heap.size l a1 c1 _ hN2.here F2 _ HG.out).mono ?_
    rintro e w3 ⟨rfl, hb3⟩
    have F3 := F2.later hb3
    have HB3 := bthen HB2 hb3
    have z3 : w.heap.size + 1 ≤ w3.heap.size := Nat.le_trans z2 hb3.size
    have hN3 := hN2.later hb3
    clear hb3 HB2 F2 p0 p1 p2 p3 hN2 z2
    obtain ⟨p0, p1, p2, p3⟩ := id F3
    go_wp2_with fail
    refine (insP l a1 c1 (w.heap.size + 1) _ x w3 (by first | exact Nat.le_refl _ | exact gtAt_le _ _) (by omega) z3 hN3).mono ?_
    rintro e w4 ⟨a4, c4, rfl, hN4, hb4, cp⟩
    have HB4 : Below w.heap.size w w4 := HB3.trans (hb4.mono (by omega))
    have R := hN4.here
    (try rw [← HGL.out] at R)
    go_wp2
    go_ret2
    refine ⟨a4, c4, rfl, R, cp, HB4⟩

/-- A whole sector is written. -/
theorem BufsAt.set4 {w : World} {b : Nat} {l : List Bf} (h : BufsAt w (some ⟨b, 0, none⟩) l) {k : Nat} (hk : k < l.length) (x : Bf) :
    BufsAt ((((w.setCell ⟨b, k * 4, none⟩ (.int .i64 x.pl)).setCell ⟨b, k * 4 + 1, none⟩ (.string x.data)).setCell ⟨b, k * 4 + 2, none⟩ (.bool x.dirty)).setCell ⟨b, k * 4 + 3, none⟩ (.int .i64 x.used)) (some ⟨b, 0, none⟩) (l.set k x) := by
  have h1 := h.set hk 0 (by omega) { l[k] with pl := x.pl } (.int .i64 x.pl) rfl (fun i hi hne => by rcases (show i = 1 ∨ i = 2 ∨ i = 3 by omega) with rfl | rfl | rfl <;> rfl)
  have h2 := h1.set (k := k) (by simpa using hk) 1 (by omega) { l[k] with pl := x.pl, data := x.data } (.string x.data) rfl (fun i hi hne => by rw [List.getElem_set_self]; rcases (show i = 0 ∨ i = 2 ∨ i = 3 by omega) with rfl | rfl | rfl <;> rfl)
  rw [List.set_set] at h2
  have h3 := h2.set (k := k) (by simpa using hk) 2 (by omega) { x with used := l[k].used } (.bool x.dirty) rfl (fun i hi hne => by rw [List.getElem_set_self]; rcases (show i = 0 ∨ i = 1 ∨ i = 3 by omega) with rfl | rfl | rfl <;> rfl)
  rw [List.set_set] at h3
  have h4 := h3.set (k := k) (by simpa using hk) 3 (by omega) x (.int .i64 x.used) rfl (fun i hi hne => by rw [List.getElem_set_self]; rcases (show i = 0 ∨ i = 1 ∨ i = 2 by omega) with rfl | rfl | rfl <;> rfl)
  rw [List.set_set] at h4
  simpa using h4

set_option maxRecDepth 100000 in
set_option maxHeartbeats 2000000 in
theorem put_have (gh : Nat) (hc : Array Value) (l : List Bf) (a : Option Addr) (c : Nat) (x : Bf) (w : World) (hl : BufsAt w a l) (hn : a = none → c = 0) (h8 : l.length ≤ 8) (k : Nat) (hk : k < l.length) (hi : idxB (plB x.pl) l = k) :
    Calls Tryz.prog 101 #[.slice a l.length c, x.val, .func (.func gh) #[] hc] w fun e w' => ∃ a' c', e = .returned (.tuple #[.slice a' l.length c', .nilIface]) ∧ BufsAt w' a' (l.set k x) ∧ l.length ≤ c' ∧ Below w.heap.size w w' := by
  have HI := hidC hi
  clear hi
  have h0 : l ≠ [] := by rintro rfl; exact absurd hk (Nat.not_lt_zero _)
  have H0 := hidC h0
  clear h0
  have b0 := below1 w (.cells #[.int .i64 x.pl, .string x.data, .bool x.dirty, .int .i64 x.used] 93)
  go_enter Tryz.func101, Tryz.ntmps101
  go_wp2_with fail
  refine (cloneB_any l a c _ (hl.later b0) hn (by omega)).mono ?_
  rintro e w1 ⟨a1, c1, rfl, hN, hb1⟩
  have F1 : FourB w1 w.heap.size x := FourB.later ⟨by simp, by simp, by simp, by simp⟩ hb1
  have HB1 : Below w.heap.size w w1 := bthen b0 hb1
  have hN1 : NewBufs (w.heap.size + 1) w1 a1 c1 l := by simpa using hN
  clear hN hb1 b0
  obtain ⟨b1, rfl, hbb, hlt, hfz⟩ := hN1.place H0.out
  obtain ⟨p0, p1, p2, p3⟩ := id F1
  go_wp2_with fail
  refine (place_eq l _ c1 x.pl _ hN1.here _ HI.out).mono ?_
  rintro e w2 ⟨rfl, hb2⟩
  have F2 := F1.later hb2
  have HB2 := bthen HB1 hb2
  have hN2 := hN1.later hb2
  have hl2 : b1 < w2.heap.size := hN2.lt b1 rfl
  have ff : ∀ o, w2.frozen? ⟨b1, o, none⟩ = false := fun o => by rw [hb2.frozen (p := ⟨b1, o, none⟩) hlt]; exact hfz o
  clear hb2 HB1 F1 p0 p1 p2 p3 hN1 hlt hfz
  obtain ⟨p0, p1, p2, p3⟩ := id F2
  have R := hN2.here
  have cp := hN2.cap
  obtain ⟨c0, c1', c2, c3⟩ := R.cells hk
  have f0 := ff (k * 4)
  have f1 := ff (k * 4 + 1)
  have f2 := ff (k * 4 + 2)
  have f3 := ff (k * 4 + 3)
  rw [Nat.zero_add] at c0 c1' c2 c3
  clear ff hN2 F2
  have HR := hidC R
  clear R
  have nb : b1 ≠ w.heap.size := by omega
  go_wp2
  go_ret2
  refine ⟨_, c1, rfl, HR.out.set4 hk x, cp, by repeat (first | with_reducible exact Below.refl _ _ | with_reducible refine balloc ?_ _ | with_reducible refine bdrew ?_ | with_reducible refine bset' ?_ (by omega) _ | with_reducible refine bthen ?_ (by assumption))⟩
end Go.Proofs.YtgjkdhedkbkagaaGreat
/- Put where there is no room. -/
namespace Go.Proofs.YtgjkdhedkbkagaaGreat
open Go.RowKit Go.BigFrame
set_option maxRecDepth 100000
attribute [local go_sem] Later.cell Later.frozen

set_option maxRecDepth 100000 in
set_option maxHeartbeats 2000000 in
theorem put_full (gh : Nat) (egh : ∀ args w, (callFunc gh args).run Tryz.prog w = .ok (.enter gh args) w) (hc : Array Value) (H : Int → Bool) (l : List Bf) (a : Option Addr) (c : Nat) (x : Bf) (w : World) (hl : BufsAt w a l) (hn : a = none → c = 0) (h8 : l.length = 8) (hi : idxB (plB x.pl) l = -1)
    (hh : ∀ n w', Below w.heap.size w w' → Calls Tryz.prog gh (#[.int .i64 n] ++ hc) w' fun e w'' => e = .returned (.bool (H n)) ∧ Below w'.heap.size w' w'') (hr : leastU (fitB false H) l l.length = -1) :
    Calls Tryz.prog 101 #[.slice a l.length c, x.val, .func (.func gh) #[] hc] w fun e w' => e = .returned (.tuple #[.slice none 0 0, .iface 89 (.int .i64 7)]) ∧ Below w.heap.size w w' := by
  have HI := hidC hi
  have HH := hidC hh
  have HR := hidC hr
  have H8 := hidC h8
  have h8' : (8 : Int) ≤ (l.length : Int) := by omega
  clear hi hh hr h8
  have b0 := below1 w (.cells #[.int .i64 x.pl, .string x.data, .bool x.dirty, .int .i64 x.used] 93)
  go_enter Tryz.func101, Tryz.ntmps101
  go_wp2_with fail
  refine (cloneB_any l a c _ (hl.later b0) hn (by have := H8.out; omega)).mono ?_
  rintro e w1 ⟨a1, c1, rfl, hN, hb1⟩
  have F1 : FourB w1 w.heap.size x := FourB.later ⟨by simp, by simp, by simp, by simp⟩ hb1
  have HB1 : Below w.heap.size w w1 := bthen b0 hb1
  have hN1 : NewBufs (w.heap.size + 1) w1 a1 c1 l := by simpa using hN
  clear hN hb1 b0
  obtain ⟨p0, p1, p2, p3⟩ := id F1
  go_wp2_with fail
  refine (place_eq l a1 c1 x.pl _ hN1.here _ HI.out).mono ?_
  rintro e w2 ⟨rfl, hb2⟩
  have HB2 := bthen HB1 hb2
  have hN2 := hN1.later hb2
  clear hb2 HB1 F1 p0 p1 p2 p3 hN1
  go_wp2_with fail
  refine (leastUsed_any false gh egh hc H l a1 c1 _ hN2.here (fun n w' hb => HH.out n w' (bthen HB2 hb)) _ HR.out).mono ?_
  rintro e w3 ⟨rfl, hb3⟩
  have HB3 := bthen HB2 hb3
  clear hb3 HB2 hN2
  go_wp2
  go_ret2
  exact ⟨rfl, HB3⟩

set_option maxRecDepth 100000 in
set_option maxHeartbeats 2000000 in
theorem put_drop (gh : Nat) (egh : ∀ args w, (callFunc gh args).run Tryz.prog w = .ok (.enter gh args) w) (hc : Array Value) (H : Int → Bool) (l : List Bf) (a : Option Addr) (c : Nat) (x : Bf) (w : World) (hl : BufsAt w a l) (hn : a = none → c = 0) (h8 : l.length = 8) (hi : idxB (plB x.pl) l = -1)
    (hh : ∀ n w', Below w.heap.size w w' → Calls Tryz.prog gh (#[.int .i64 n] ++ hc) w' fun e w'' => e = .returned (.bool (H n)) ∧ Below w'.heap.size w' w'') (k : Nat) (hk : k < l.length) (hr : leastU (fitB false H) l l.length = k) :
    Calls Tryz.prog 101 #[.slice a l.length c, x.val, .func (.func gh) #[] hc] w fun e w' => ∃ a' c', e = .returned (.tuple #[.slice a' l.length c', .nilIface]) ∧ BufsAt w' a' (insL (l.eraseIdx k) x) ∧ l.length ≤ c' ∧ Below w.heap.size w w' := by
  have HI := hidC hi
  have HH := hidC hh
  have HR := hidC hr
  have H8 := hidC h8
  have h8' : (8 : Int) ≤ (l.length : Int) := by omega
  have h0 : l ≠ [] := by rintro rfl; exact absurd hk (Nat.not_lt_zero _)
  have H0 := hidC h0
  have hel : (l.eraseIdx k).length = l.length - 1 := by rw [List.length_eraseIdx, if_pos hk]
  have HEL := hidC hel
  have hwr : IntKind.i64.wrap ((k : Int) + 1) = (k : Int) + 1 := by rw [IntKind.wrap_i64]; omega
  clear hi hh hr h8 h0 hel
  obtain ⟨L, hL⟩ : ∃ L, L = l.eraseIdx k := ⟨_, rfl⟩
  have HL := hidC hL
  have hLn : l.length = L.length + 1 := by rw [hL, HEL.out]; omega
  have HLN := hidC hLn
  rw [← hL]
  clear hL hLn
  have b0 := below1 w (.cells #[.int .i64 x.pl, .string x.data, .bool x.dirty, .int .i64 x.used] 93)
  go_enter Tryz.func101, Tryz.ntmps101
  go_wp2_with fail
  refine (cloneB_any l a c _ (hl.later b0) hn (by have := H8.out; omega)).mono ?_
  rintro e w1 ⟨a1, c1, rfl, hN, hb1⟩
  have F1 : FourB w1 w.heap.size x := FourB.later ⟨by simp, by simp, by simp, by simp⟩ hb1
  have HB1 : Below w.heap.size w w1 := bthen b0 hb1
  have z1 : w.heap.size + 1 ≤ w1.heap.size := by have := hb1.size; simpa using this
  have hN1 : NewBufs (w.heap.size + 1) w1 a1 c1 l := by simpa using hN
  clear hN hb1 b0
  obtain ⟨b1, rfl, hbb, hlt, hfz⟩ := hN1.place H0.out
  obtain ⟨p0, p1, p2, p3⟩ := id F1
  go_wp2_with fail
  refine (place_eq l _ c1 x.pl _ hN1.here _ HI.out).mono ?_
  rintro e w2 ⟨rfl, hb2⟩
  have F2 := F1.later hb2
  have HB2 := bthen HB1 hb2
  have z2 : w.heap.size + 1 ≤ w2.heap.size := Nat.le_trans z1 hb2.size
  have hN2 := hN1.later hb2
  clear hb2 HB1 F1 p0 p1 p2 p3 hN1 z1 hlt hfz
  go_wp2_with fail
  refine (leastUsed_any false gh egh hc H l _ c1 _ hN2.here (fun n w' hb => HH.out n w' (bthen HB2 hb)) _ HR.out).mono ?_
  rintro e w3 ⟨rfl, hb3⟩
  have F3 := F2.later hb3
  have HB3 := bthen HB2 hb3
  have z3 : w.heap.size + 1 ≤ w3.heap.size := Nat.le_trans z2 hb3.size
  have hN3 := hN2.later hb3
  clear hb3 HB2 F2 hN2 z2
  go_wp2_with fail
  refine (delB l b1 c1 k (w.heap.size + 1) _ hk hN3).mono ?_
  rintro e w4 ⟨rfl, hN4, hb4⟩
  have F4 := F3.below hb4 (by omega)
  have HB4 : Below w.heap.size w w4 := HB3.trans (hb4.mono (by omega))
  have z4 : w.heap.size + 1 ≤ w4.heap.size := Nat.le_trans z3 hb4.size
  rw [← HL.out] at hN4
  rw [show l.length - 1 = L.length by have := HLN.out; omega]
  clear hb4 HB3 F3 hN3 z3
  rcases gt_idx2 x.pl L with ⟨hg, hgl⟩ | ⟨hg, hgl⟩
  all_goals
    have HG := hidC hg
    have HGL := hidC hgl
    clear hg hgl
    obtain ⟨p0, p1, p2, p3⟩ := id F4
    go_wp2_with fail
    refine (gtidx_any x w.heap.size L _ c1 _ hN4.here F4 _ HG.out).mono ?_
    rintro e w5 ⟨rfl, hb5⟩
    have F5 := F4.later hb5
    have HB5 := bthen HB4 hb5
    have z5 : w.heap.size + 1 ≤ w5.heap.size := Nat.le_trans z4 hb5.size
    have hN5 := hN4.later hb5
    clear hb5 HB4 F4 p0 p1 p2 p3 hN4 z4
    obtain ⟨p0, p1, p2, p3⟩ := id F5
    go_wp2_with fail
    refine (insP L _ c1 (w.heap.size + 1) _ x w5 (by first | exact Nat.le_refl _ | exact gtAt_le _ _) (by have := H8.out; have := HLN.out; omega) z5 hN5).mono ?_
    rintro e w6 ⟨a6, c6, rfl, hN6, hb6, cp⟩
    have HB6 : Below w.heap.size w w6 := HB5.trans (hb6.mono (by omega))
    have R := hN6.here
    (try rw [← HGL.out] at R)
    go_wp2
    go_ret2
    refine ⟨a6, c6, ?_, R, by rw [HLN.out]; exact cp, HB6⟩
    rw [HLN.out]
    rfl
end Go.Proofs.YtgjkdhedkbkagaaGreat
/- GoodBufs; what is held. -/
namespace Go.Proofs.YtgjkdhedkbkagaaGreat
open Go.RowKit Go.BigFrame
set_option maxRecDepth 100000
attribute [local go_sem] Later.cell Later.frozen

def okAtB (l : List Bf) (i : Nat) : Bool := match l[i]? with | some x => decide (0 ≤ x.pl) && (decide (x.pl ≤ 31) && decide (x.data.size ≤ 10)) | none => true
def riseAt (l : List Bf) : Nat → Bool
  | 0 => true
  | i + 1 => match l[i]?, l[i + 1]? with | some x, some y => decide (x.pl < y.pl) | _, _ => true
def rowG (l : List Bf) (i : Nat) : Bool := okAtB l i && riseAt l i
def goodBB (l : List Bf) : Bool := decide (l.length ≤ 8) && (List.range l.length).all (rowG l)

theorem rangeB_step {p : Nat → Bool} {k : Nat} (h : (List.range k).all p = true) (hk : p k = true) : (List.range (k + 1)).all p = true := by
  rw [List.range_succ, List.all_append, h]; simp [hk]
theorem rangeB_stop {p : Nat → Bool} {k n : Nat} (h : k < n) (hk : p k = false) : (List.range n).all p = false := by
  rw [List.all_eq_false]; exact ⟨k, by simpa using h, by rw [hk]; exact Bool.false_ne_true⟩

/-- They rise, are of sectors that there are, and not too many. -/
structure GoodB (l : List Bf) : Prop where
  len : l.length ≤ 8
  ok : ∀ i (h : i < l.length), 0 ≤ l[i].pl ∧ l[i].pl ≤ 31 ∧ l[i].data.size ≤ 10
  rise : ∀ i (h : i + 1 < l.length), l[i].pl < l[i + 1].pl
theorem goodB_of {l : List Bf} (h : goodBB l = true) : GoodB l := by
  simp only [goodBB, Bool.and_eq_true, decide_eq_true_eq, List.all_eq_true, List.mem_range, rowG] at h
  obtain ⟨h1, h2⟩ := h
  refine ⟨h1, fun i hi => ?_, fun i hi => ?_⟩
  · have := (h2 i hi).1
    simp only [okAtB, List.getElem?_eq_getElem hi, Bool.and_eq_true, decide_eq_true_eq] at this
    exact ⟨this.1, this.2.1, this.2.2⟩
  · have := (h2 (i + 1) hi).2
    simp only [riseAt, List.getElem?_eq_getElem hi, List.getElem?_eq_getElem (show i < l.length by omega), decide_eq_true_eq] at this
    exact this
theorem GoodB.lt {l : List Bf} (h : GoodB l) : ∀ (d i : Nat) (hj : i + d + 1 < l.length), l[i].pl < l[i + d + 1].pl := by
  intro d
  induction d with
  | zero => intro i hj; exact h.rise i hj
  | succ d ih =>
    intro i hj
    have a := ih i (by omega)
    have b := h.rise (i + d + 1) (by omega)
    have e : i + (d + 1) + 1 = i + d + 1 + 1 := by omega
    simp only [e]
    omega
theorem GoodB.lt' {l : List Bf} (h : GoodB l) (i j : Nat) (hij : i < j) (hj : j < l.length) : (l[i]'(by omega)).pl < l[j].pl := by
  have := h.lt (j - i - 1) i (by omega)
  have e : i + (j - i - 1) + 1 = j := by omega
  simp only [e] at this
  exact this
theorem GoodB.once {l : List Bf} (h : GoodB l) : OnceB l := by
  intro i j hi hj e
  rcases Nat.lt_trichotomy i j with h' | h' | h'
  · have := h.lt' i j h' hj; omega
  · exact h'
  · have := h.lt' j i h' hi; omega

end Go.Proofs.YtgjkdhedkbkagaaGreat
/- What is held: the closure over an array; the document's facts on Pick and Get. -/
namespace Go.Proofs.YtgjkdhedkbkagaaGreat
open Go.RowKit Go.BigFrame
set_option maxRecDepth 100000
attribute [local go_sem] Later.cell Later.frozen

def HeldAt (w : World) (pb : Nat) (B : Nat → Bool) : Prop := ∀ i, i < 32 → w.cell? ⟨pb, i, none⟩ = some (.bool (B i))
theorem HeldAt.later {w w' : World} {pb : Nat} {B : Nat → Bool} (h : HeldAt w pb B) (hb : Below w.heap.size w w') : HeldAt w' pb B := fun i hi => cellB_later' hb (h i hi)
def holdB (B : Nat → Bool) (n : Int) : Bool := decide (0 ≤ n) && (decide (n < 32) && B n.toNat)

theorem neqSelf (x : Bf) (w : World) : (binOp .neq 93 x.val x.val).run Tryz.prog w = .ok (.bool false) w := by
  have u3 := Tryz.underlying3
  have hS : Tryz.prog.underlying 93 = some (.struct (Tryz.prog.fieldsOf 93)) := by kernel_rfl
  have hp : Tryz.prog.stoodInHeld 93 = false := by kernel_rfl
  rw [run_neq_struct, show (10000 : Nat) = 9999 + 1 from rfl, run_equalIn_agg w 9999 93 _ _ hS hp]
  simp only [Program.fieldsOf, Tryz.underlying93]
  go_simp


/-- A sector that isn't there (below 0) is at no place. -/
theorem GoodB.neg {l : List Bf} (h : GoodB l) : idxB (plB (-1)) l = -1 := by
  apply idx_none
  intro j hj
  have := (h.ok j hj).1
  simp only [plB, beq_eq_false_iff_ne]; omega
theorem GoodB.at {l : List Bf} (h : GoodB l) (j : Nat) (hj : j < l.length) : idxB (plB l[j].pl) l = j := by
  apply idx_found hj (by simp [plB])
  intro i hi
  have := h.lt' i j hi hj
  simp only [plB, beq_eq_false_iff_ne]; omega
end Go.Proofs.YtgjkdhedkbkagaaGreat
/- Put, all roads in one; what is at hand then. -/
namespace Go.Proofs.YtgjkdhedkbkagaaGreat
open Go.RowKit Go.BigFrame
set_option maxRecDepth 100000
attribute [local go_sem] Later.cell Later.frozen

/-- What is at hand behind a Put that is done. -/
def PutsM (l : List Bf) (x : Bf) (H : Int → Bool) (m : List Bf) : Prop :=
  (∃ k : Nat, ∃ _ : k < l.length, idxB (plB x.pl) l = k ∧ m = l.set k x) ∨
  (idxB (plB x.pl) l = -1 ∧ l.length < 8 ∧ m = insL l x) ∨
  (idxB (plB x.pl) l = -1 ∧ l.length = 8 ∧ ∃ k : Nat, ∃ _ : k < l.length, leastU (fitB false H) l l.length = k ∧ m = insL (l.eraseIdx k) x)
def PutOut (l : List Bf) (x : Bf) (H : Int → Bool) (w' : World) (e : Ending) : Prop :=
  (∃ (m : List Bf) (a' : Option Addr) (c' : Nat), PutsM l x H m ∧ e = .returned (.tuple #[.slice a' m.length c', .nilIface]) ∧ BufsAt w' a' m ∧ m.length ≤ c') ∨
  (idxB (plB x.pl) l = -1 ∧ l.length = 8 ∧ leastU (fitB false H) l l.length = -1 ∧ e = .returned (.tuple #[.slice none 0 0, .iface 89 (.int .i64 7)]))

theorem insL_length (l : List Bf) (x : Bf) : (insL l x).length = l.length + 1 := by
  have := gtAt_le x.pl l
  simp [insL]; omega

theorem put_any (gh : Nat) (egh : ∀ args w, (callFunc gh args).run Tryz.prog w = .ok (.enter gh args) w) (hc : Array Value) (H : Int → Bool) (l : List Bf) (a : Option Addr) (c : Nat) (x : Bf) (w : World) (hl : BufsAt w a l) (hn : a = none → c = 0) (h8 : l.length ≤ 8)
    (hh : ∀ n w', Below w.heap.size w w' → Calls Tryz.prog gh (#[.int .i64 n] ++ hc) w' fun e w'' => e = .returned (.bool (H n)) ∧ Below w'.heap.size w' w'') :
    Calls Tryz.prog 101 #[.slice a l.length c, x.val, .func (.func gh) #[] hc] w fun e w' => PutOut l x H w' e ∧ Below w.heap.size w w' := by
  rcases idx_spec (plB x.pl) l with ⟨hi, _⟩ | ⟨k, hk, hi, _⟩
  · by_cases hlt : l.length < 8
    · refine (put_room gh hc l a c x w hl hn hlt hi).mono ?_
      rintro e w' ⟨a', c', rfl, h1, h2, h3⟩
      exact ⟨Or.inl ⟨insL l x, a', c', Or.inr (Or.inl ⟨hi, hlt, rfl⟩), by rw [insL_length], h1, by rw [insL_length]; exact h2⟩, h3⟩
    · have h8' : l.length = 8 := by omega
      rcases leastU_spec (fitB false H) l l.length (Nat.le_refl _) with ⟨hr, _⟩ | ⟨k, hk, _, hr, _⟩
      · refine (put_full gh egh hc H l a c x w hl hn h8' hi hh hr).mono ?_
        rintro e w' ⟨rfl, h3⟩
        exact ⟨Or.inr ⟨hi, h8', hr, rfl⟩, h3⟩
      · refine (put_drop gh egh hc H l a c x w hl hn h8' hi hh k hk hr).mono ?_
        rintro e w' ⟨a', c', rfl, h1, h2, h3⟩
        have hL : (insL (l.eraseIdx k) x).length = l.length := by rw [insL_length, List.length_eraseIdx, if_pos hk]; omega
        exact ⟨Or.inl ⟨insL (l.eraseIdx k) x, a', c', Or.inr (Or.inr ⟨hi, h8', k, hk, hr, rfl⟩), by rw [hL], h1, by rw [hL]; exact h2⟩, h3⟩
  · refine (put_have gh hc l a c x w hl hn h8 k hk hi).mono ?_
    rintro e w' ⟨a', c', rfl, h1, h2, h3⟩
    exact ⟨Or.inl ⟨l.set k x, a', c', Or.inl ⟨k, hk, hi, rfl⟩, by rw [List.length_set], h1, by rw [List.length_set]; exact h2⟩, h3⟩

theorem mem_insL {l : List Bf} {x y : Bf} : y ∈ insL l x ↔ y = x ∨ y ∈ l := by
  rw [insL, List.mem_append, List.mem_cons]
  constructor
  · rintro (h | h | h)
    · exact Or.inr (List.mem_of_mem_take h)
    · exact Or.inl h
    · exact Or.inr (List.mem_of_mem_drop h)
  · rintro (h | h)
    · exact Or.inr (Or.inl h)
    · rw [← List.take_append_drop (gtAt x.pl l) l, List.mem_append] at h
      exact h.imp id Or.inr
theorem idx_mem {l : List Bf} {y : Bf} (h : y ∈ l) : ∃ k : Nat, ∃ _ : k < l.length, idxB (plB y.pl) l = k := by
  rcases idx_spec (plB y.pl) l with ⟨_, h1⟩ | ⟨k, hk, e, _⟩
  · obtain ⟨j, hj, rfl⟩ := List.getElem_of_mem h
    have := h1 j hj
    simp [plB] at this
  · exact ⟨k, hk, e⟩
theorem idx_pl {l : List Bf} {at' : Int} {k : Nat} (hk : k < l.length) (h : idxB (plB at') l = k) : l[k].pl = at' := by
  rcases idx_spec (plB at') l with ⟨e, _⟩ | ⟨k', hk', e, h2, _⟩
  · rw [h] at e; omega
  · have : k' = k := by omega
    subst this
    simpa [plB] using h2

/-- Who is not at hand any more was used least lately of those that may go. -/
theorem PutsM.lately {l : List Bf} {x : Bf} {H : Int → Bool} {m : List Bf} (h : PutsM l x H m) (hH : ∀ n, H n = false) (i : Nat) (hi : i < l.length) :
    (∃ k : Nat, ∃ _ : k < m.length, idxB (plB l[i].pl) m = k) ∨ (idxB (plB l[i].pl) m = -1 ∧ ∀ n (hn : n < l.length), l[n].dirty = false → decide (l[n].used < l[i].used) = false) := by
  rcases h with ⟨k, hk, hix, rfl⟩ | ⟨_, _, rfl⟩ | ⟨_, _, k, hk, hr, rfl⟩
  · left
    by_cases e : i = k
    · subst e
      have hm : x ∈ l.set i x := List.mem_set hk x
      have := idx_mem hm
      rw [← idx_pl hk hix] at this
      exact this
    · have hi' : i < (l.set k x).length := by rw [List.length_set]; exact hi
      have hm := List.getElem_mem hi'
      rw [List.getElem_set_ne (fun h => e h.symm)] at hm
      exact idx_mem hm
  · exact Or.inl (idx_mem (mem_insL.2 (Or.inr (List.getElem_mem hi))))
  · by_cases e : i = k
    · subst e
      rcases idx_spec (plB l[i].pl) (insL (l.eraseIdx i) x) with ⟨e1, _⟩ | ⟨k, hk, e1, _⟩
      · right
        refine ⟨e1, fun n hn hd => ?_⟩
        rcases leastU_spec (fitB false H) l l.length (Nat.le_refl _) with ⟨e2, _⟩ | ⟨k', hk', _, e2, _, hmin, _⟩
        · rw [hr] at e2; omega
        · have : k' = i := by rw [hr] at e2; omega
          subst this
          have := hmin n hn hn (by simp [fitB, hd, hH])
          exact decide_eq_false (by omega)
      · exact Or.inl ⟨k, hk, e1⟩
    · left
      apply idx_mem
      rw [mem_insL]
      right
      rw [List.mem_eraseIdx_iff_getElem]
      exact ⟨i, hi, e, rfl⟩
end Go.Proofs.YtgjkdhedkbkagaaGreat
