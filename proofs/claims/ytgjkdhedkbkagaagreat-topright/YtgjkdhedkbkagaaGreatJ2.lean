/- What turns: only the blocks of a set, and new ones. Rows and requests that lie elsewhere stand. -/
import Derived.Test.YtgjkdhedkbkagaaGreatJ1
import Derived.Deep.MidRow
namespace Go.Proofs.YtgjkdhedkbkagaaGreat
open Go.RowKit
set_option maxRecDepth 100000

/-- Of the blocks that were there only those of F may have turned. -/
structure Only (F : Nat → Prop) (w w' : World) : Prop where
  os : w'.os = w.os
  tape : w'.tape = w.tape
  output : w'.output = w.output
  size : w.heap.size ≤ w'.heap.size
  block : ∀ k, k < w.heap.size → ¬ F k → w'.heap[k]? = w.heap[k]?

theorem Only.refl (F : Nat → Prop) (w : World) : Only F w w := ⟨rfl, rfl, rfl, Nat.le_refl _, fun _ _ _ => rfl⟩
theorem Only.trans {F F' : Nat → Prop} {a b c : World} (h : Only F a b) (k : Only F' b c) (hF : ∀ i, F' i → F i ∨ a.heap.size ≤ i) : Only F a c :=
  ⟨k.os.trans h.os, k.tape.trans h.tape, k.output.trans h.output, Nat.le_trans h.size k.size, fun i hi hn =>
    (k.block i (Nat.lt_of_lt_of_le hi h.size) (fun e => (hF i e).elim hn (fun h' => by omega))).trans (h.block i hi hn)⟩
theorem Only.mono {F F' : Nat → Prop} {a b : World} (h : Only F a b) (hF : ∀ i, F i → F' i) : Only F' a b :=
  ⟨h.os, h.tape, h.output, h.size, fun i hi hn => h.block i hi (fun e => hn (hF i e))⟩
theorem Only.of_below {F : Nat → Prop} {a b : World} (h : Below a.heap.size a b) : Only F a b := ⟨h.os, h.tape, h.output, h.size, fun i hi _ => h.block i hi⟩
theorem Only.below {F : Nat → Prop} {a b : World} {B : Nat} (h : Only F a b) (hB : B ≤ a.heap.size) (hF : ∀ i, F i → B ≤ i) : Below B a b :=
  ⟨h.os, h.tape, h.output, h.size, fun i hi => h.block i (by omega) (fun e => by have := hF i e; omega)⟩
theorem Only.grown {F : Nat → Prop} {a b c : World} {row : Option Nat} (h : Only F a b) (hg : b.grownBy c row) (hr : ∀ k, row = some k → F k ∨ a.heap.size ≤ k) : Only F a c :=
  h.trans (F' := fun i => row = some i) ⟨hg.os, hg.tape, hg.output, hg.size, fun k hk hn => hg.block k hk (fun e => hn e.symm)⟩ (fun i e => hr i e)
theorem Only.alloc {F : Nat → Prop} {a b : World} (h : Only F a b) (o : Obj) : Only F a (b.alloc o) :=
  h.trans (F' := fun _ => False) ⟨rfl, rfl, rfl, by simp, fun k hk _ => Below.heap_alloc _ _ _ hk⟩ (fun _ e => e.elim)
theorem Only.drew {F : Nat → Prop} {a b : World} (h : Only F a b) : Only F a b.drew := ⟨h.os, h.tape, h.output, h.size, h.block⟩
theorem Only.setCell {F : Nat → Prop} {a b : World} (h : Only F a b) (p : Addr) (hp : F p.block ∨ a.heap.size ≤ p.block) (u : Value) : Only F a (b.setCell p u) :=
  h.trans (F' := fun i => i = p.block) ⟨rfl, rfl, rfl, by simp [World.setCell], fun k _ hn => Below.heap_setCell _ _ _ _ hn⟩ (fun i e => by subst e; exact hp)
theorem Only.later {F : Nat → Prop} {a b c : World} (h : Only F a b) (k : Below b.heap.size b c) : Only F a c := h.trans (F' := fun _ => False) (Only.of_below k) (fun _ e => e.elim)
theorem Only.cell {F : Nat → Prop} {a b : World} (h : Only F a b) {p : Addr} (hp : p.block < a.heap.size) (hn : ¬ F p.block) : b.cell? p = a.cell? p := World.cell?_of_block (w := a) (h.block p.block hp hn)
theorem Only.frozen {F : Nat → Prop} {a b : World} (h : Only F a b) {p : Addr} (hp : p.block < a.heap.size) (hn : ¬ F p.block) : b.frozen? p = a.frozen? p := World.frozen?_of_block (w := a) (h.block p.block hp hn)

/-! ### blocks known whole -/
theorem set_same {w : World} {b : Nat} {cs : List Value} {T : TypeId} (h : w.heap[b]? = some (.cells cs.toArray T (0, 0))) (j : Nat) (u : Value) : (w.setCell ⟨b, j, none⟩ u).heap[b]? = some (.cells (cs.set j u).toArray T (0, 0)) := by
  simp only [World.setCell, Array.getElem?_modify]
  simp [h]
theorem set_other {w : World} {b k : Nat} (j : Nat) (u : Value) (hk : k ≠ b) : (w.setCell ⟨b, j, none⟩ u).heap[k]? = w.heap[k]? := Below.heap_setCell _ _ _ _ hk
theorem lt_of_heap {w : World} {b : Nat} {o : Obj} (h : w.heap[b]? = some o) : b < w.heap.size := by
  rcases Nat.lt_or_ge b w.heap.size with h' | h'
  · exact h'
  · rw [Array.getElem?_eq_none h'] at h; cases h
theorem cell_of_heap {w : World} {b : Nat} {cs : List Value} {T : TypeId} (h : w.heap[b]? = some (.cells cs.toArray T (0, 0))) (j : Nat) : w.cell? ⟨b, j, none⟩ = cs[j]? := by simp [World.cell?, h]
theorem frozen_of_heap {w : World} {b : Nat} {cs : List Value} {T : TypeId} (h : w.heap[b]? = some (.cells cs.toArray T (0, 0))) (j : Nat) : w.frozen? ⟨b, j, none⟩ = false := by simp [World.frozen?, h]
theorem setCells_heap (b : Nat) (T : TypeId) : ∀ (vs : List Value) (o : Nat) (cs : List Value) (w : World), w.heap[b]? = some (.cells cs.toArray T (0, 0)) → o + vs.length ≤ cs.length → (w.setCells b o vs).heap[b]? = some (.cells (splice cs o vs).toArray T (0, 0))
  | [], o, cs, w, h, _ => by rw [splice_nil]; exact h
  | v :: r, o, cs, w, h, hl => by
    have hl' : o + 1 + r.length ≤ (cs.set o v).length := by simp at hl ⊢; omega
    have := setCells_heap b T r (o + 1) (cs.set o v) _ (set_same h o v) hl'
    rw [World.setCells, this]
    congr 3
    have ho : o < cs.length := by simp at hl; omega
    simp only [splice]
    rw [List.set_eq_take_append_cons_drop, if_pos ho]
    have e : (cs.take o).length = o := by rw [List.length_take]; omega
    simp only [List.length_cons]
    rw [List.take_append, e, List.take_of_length_le (by omega : (cs.take o).length ≤ o + 1), show o + 1 - o = 1 by omega, List.take_succ_cons, List.take_zero, List.drop_append, e, List.drop_eq_nil_of_le (by omega : (cs.take o).length ≤ o + 1 + r.length), show o + 1 + r.length - o = r.length + 1 by omega, List.drop_succ_cons, List.drop_drop]
    simp [Nat.add_comm, Nat.add_left_comm]
theorem setCells_other (b : Nat) : ∀ (vs : List Value) (o : Nat) (w : World) (k : Nat), k ≠ b → (w.setCells b o vs).heap[k]? = w.heap[k]?
  | [], _, _, _, _ => rfl
  | v :: r, o, w, k, h => by rw [World.setCells, setCells_other b r (o + 1) _ k h, set_other _ _ h]
theorem setCells_only {F : Nat → Prop} {a : World} (b : Nat) (hb : F b ∨ a.heap.size ≤ b) : ∀ (vs : List Value) (o : Nat) (w : World), Only F a w → Only F a (w.setCells b o vs)
  | [], _, _, h => h
  | v :: r, o, w, h => by rw [World.setCells]; exact setCells_only b hb r (o + 1) _ (h.setCell _ hb v)

/-! ### rows -/
theorem own_frame {w w' : World} {base e size n : Nat} {v : Value} {xs : List Value} (h : w.ownsRow base e size v n xs) (hk : ∀ g, v.ownBlock = some g → w'.heap[g]? = w.heap[g]?) : w'.ownsRow base e size v n xs := by
  refine ⟨h.1, h.2.elim Or.inl ?_⟩
  rintro ⟨g, cap, cur, rfl, hg, hh, r⟩
  exact Or.inr ⟨g, cap, cur, rfl, hg, by rw [hk g rfl]; exact hh, r⟩
/-- 'append(s, x...)' onto a row of its own: in place, or in a new block. -/
theorem run_push {P : Program} (w : World) (base : Nat) (t ty e : TypeId) (i : TypeInfo) (z : Value) (size bytes : Nat) (ht : P.underlying t = some (.slice e)) (hi : P.info? e = some i) (hz : i.zero = some z)
    (hsize : i.size = size) (hby : i.bytes = bytes) (hzs : z.cells.size = size) (hsz : 0 < size)
    (v : Value) (n : Nat) (xs : List Value) (hown : w.ownsRow base e size v n xs)
    (a : Addr) (m c : Nat) (news : List Value) (hl : news.length = m * size) (hnews : ∀ j u, news[j]? = some u → w.cell? (a.add j) = some u) (h1 : ∀ u ∈ news, u.oneCell' = true) (hm : 0 < m)
    (h63 : n + m ≤ maxLen) (hbytes : (n + m) * bytes ≤ 140737488355328) (hbase : base ≤ w.heap.size) :
    ∃ v' w', (Builtin.append_ #[t, t] ty #[v, .slice (some a) m c]).run P w = .ok v' w' ∧ w'.ownsRow base e size v' (n + m) (xs ++ news) ∧ w.grownBy w' v.ownBlock ∧ (v'.ownBlock = v.ownBlock ∨ v'.ownBlock = some w.heap.size) := by
  obtain ⟨v', w', hrun, r1, r2, r3⟩ := run_append_own (P := P) w base t ty e i z size bytes ht hi hz hsize hby hzs hsz v n xs hown a m c news hl hnews h1 h63 hbytes hbase
  refine ⟨v', w', hrun, r1, r2, ?_⟩
  subst hsize
  subst hby
  have hsmall : n + m ≤ 9223372036854775807 := by simp only [maxLen] at h63; omega
  rcases hown.2 with ⟨rfl, rfl⟩ | ⟨g, cap, cur, rfl, hbg, hg, hnc, hcm, hcs, htake⟩
  · right
    have hr := run_append_nil (P := P) w t ty e i z ht hi hz a m c news hl hnews (by omega) (by omega) (by have hb := hbytes; simp only [Nat.zero_add] at hb; omega)
    rw [hr] at hrun
    simp only [Result.ok.injEq] at hrun
    rw [← hrun.1]; rfl
  · by_cases hroom : n + m ≤ cap
    · left
      have hfit : n * i.size + news.length ≤ cur.size := by rw [hl, hcs, ← Nat.add_mul]; exact Nat.mul_le_mul_right _ hroom
      have hr := run_append_room (P := P) w t ty e i ht hi g n cap cur hg a m c news hl hnews h1 hroom hfit
      rw [hr] at hrun
      simp only [Result.ok.injEq] at hrun
      rw [← hrun.1]; rfl
    · right
      have holds : ∀ j u, xs[j]? = some u → w.cell? ((⟨g, 0, none⟩ : Addr).add j) = some u := hown.cells (g := g) rfl
      have hr := run_append_grow (P := P) w t ty e i z ht hi hz ⟨g, 0, none⟩ n cap xs hown.1 holds a m c news hl hnews (by omega) (by omega) (growslice_fits (by omega) hbytes)
      rw [hr] at hrun
      simp only [Result.ok.injEq] at hrun
      rw [← hrun.1]; rfl
theorem step_push {P : Program} {ops : Array Oper} {o : Oper} {a : Act} {w : World} {K : Act → World → Prop} {Q : Exit → Act → World → Prop} {E : Prop} (hgd : o.guard = none) (s x : Operand) (t : TypeId)
    (hop : o.op = .call { callee := .builtin .append, args := #[s, x], argTypes := #[t, t] }) (base : Nat) (e : TypeId) (i : TypeInfo) (z : Value) (size bytes : Nat) (ht : P.underlying t = some (.slice e)) (hi : P.info? e = some i) (hz : i.zero = some z)
    (hsize : i.size = size) (hby : i.bytes = bytes) (hzs : z.cells.size = size) (hsz : 0 < size)
    (v : Value) (n : Nat) (xs : List Value) (hs : a.eval s = v) (hown : w.ownsRow base e size v n xs)
    (ad : Addr) (m c : Nat) (news : List Value) (hx : a.eval x = .slice (some ad) m c) (hl : news.length = m * size) (hnews : ∀ j u, news[j]? = some u → w.cell? (ad.add j) = some u) (h1 : ∀ u ∈ news, u.oneCell' = true) (hm : 0 < m)
    (h63 : n + m ≤ maxLen) (hbytes : (n + m) * bytes ≤ 140737488355328) (hbase : base ≤ w.heap.size)
    (h : ∀ v' w', w'.ownsRow base e size v' (n + m) (xs ++ news) → w.grownBy w' v.ownBlock → (v'.ownBlock = v.ownBlock ∨ v'.ownBlock = some w.heap.size) → K (a.put o.dst v') w') :
    if Region.wanted o (yielded ops a.tmps) = true then Oper.wp P o a w K Q else E := by
  have hw : Region.wanted o (yielded ops a.tmps) = true := by simp [Region.wanted, hgd]
  rw [if_pos hw]
  obtain ⟨v', w', hrun, r1, r2, r3⟩ := run_push (P := P) w base t o.type e i z size bytes ht hi hz hsize hby hzs hsz v n xs hown ad m c news hl hnews h1 hm h63 hbytes hbase
  unfold Oper.wp
  simp [execOp, hop, resolve, invoke, builtin, hs, hx, hrun, Result.andThen]
  exact h v' w' r1 r2 r3
theorem slice_of_own {w : World} {base e size n : Nat} {v : Value} {xs : List Value} (h : w.ownsRow base e size v n xs) : ∃ a c, v = .slice a n c ∧ (a = none → c = 0) ∧ (∀ ad, a = some ad → ∃ g, ad = ⟨g, 0, none⟩) ∧ c ≤ 9223372036854775807 ∧ n ≤ c := by
  rcases h.2 with ⟨rfl, rfl⟩ | ⟨g, cap, cur, rfl, hg, hh, hnc, hcm, _⟩
  · exact ⟨none, 0, rfl, fun _ => rfl, by simp, by simp, by simp⟩
  · exact ⟨_, cap, rfl, by simp, fun ad e => ⟨g, by simpa using e.symm⟩, by unfold maxLen at hcm; omega, hnc⟩

/-! ### requests that lie elsewhere -/
def Rq.Off (F : Nat → Prop) (r : Rq) : Prop := (r.data ≠ [] → ∀ a, r.da = some a → ¬ F a.block) ∧ (r.tags ≠ [] → ∀ a, r.ta = some a → ¬ F a.block)
theorem strs_frame {F : Nat → Prop} {w w' : World} {a : Option Addr} {xs : List ByteArray} (h : StrsAt w a xs) (hk : Only F w w') (hn : xs ≠ [] → ∀ ad, a = some ad → ¬ F ad.block) : StrsAt w' a xs := by
  rcases h with h | ⟨b, o, ha, hc⟩
  · exact Or.inl h
  · by_cases he : xs = []
    · exact Or.inl he
    · refine Or.inr ⟨b, o, ha, fun i hi => ?_⟩
      rw [hk.cell (p := ⟨b, o + i, none⟩) (lt_of_cell (hc i hi)) (hn he ⟨b, o, none⟩ ha)]
      exact hc i hi
theorem ints_frame {F : Nat → Prop} {w w' : World} {a : Option Addr} {xs : List Int} (h : IntsAt w a xs) (hk : Only F w w') (hn : xs ≠ [] → ∀ ad, a = some ad → ¬ F ad.block) : IntsAt w' a xs := by
  rcases h with h | ⟨b, o, ha, hc⟩
  · exact Or.inl h
  · by_cases he : xs = []
    · exact Or.inl he
    · refine Or.inr ⟨b, o, ha, fun i hi => ?_⟩
      rw [hk.cell (p := ⟨b, o + i, none⟩) (lt_of_cell (hc i hi)) (hn he ⟨b, o, none⟩ ha)]
      exact hc i hi
theorem Rq.At.frame {F : Nat → Prop} {w w' : World} {r : Rq} (h : r.At w) (ho : r.Off F) (hk : Only F w w') : r.At w' :=
  ⟨strs_frame h.data hk ho.1, ints_frame h.tags hk ho.2, h.dl, h.tl, h.f, h.m, h.born, h.dn, h.tn⟩
theorem strs_lt {w : World} {a : Option Addr} {xs : List ByteArray} (h : StrsAt w a xs) (he : xs ≠ []) {ad : Addr} (ha : a = some ad) : ad.block < w.heap.size := by
  rcases h with h | ⟨b, o, ha', hc⟩
  · exact absurd h he
  · rw [ha] at ha'
    simp only [Option.some.injEq] at ha'
    subst ha'
    have : 0 < xs.length := List.length_pos_iff.2 he
    exact lt_of_cell (hc 0 this)
theorem ints_lt {w : World} {a : Option Addr} {xs : List Int} (h : IntsAt w a xs) (he : xs ≠ []) {ad : Addr} (ha : a = some ad) : ad.block < w.heap.size := by
  rcases h with h | ⟨b, o, ha', hc⟩
  · exact absurd h he
  · rw [ha] at ha'
    simp only [Option.some.injEq] at ha'
    subst ha'
    have : 0 < xs.length := List.length_pos_iff.2 he
    exact lt_of_cell (hc 0 this)
theorem Rq.Off.step {F F' : Nat → Prop} {w : World} {r : Rq} (h : r.At w) (ho : r.Off F) (hF : ∀ k, F' k → F k ∨ w.heap.size ≤ k) : r.Off F' :=
  ⟨fun he a ha hk => (hF _ hk).elim (ho.1 he a ha) (fun h' => by have := strs_lt h.data he ha; omega), fun he a ha hk => (hF _ hk).elim (ho.2 he a ha) (fun h' => by have := ints_lt h.tags he ha; omega)⟩
end Go.Proofs.YtgjkdhedkbkagaaGreat
/- slices.Concat of two lists: new memory with the cells of the one, then of the other. -/
namespace Go.Proofs.YtgjkdhedkbkagaaGreat
open Go.RowKit
set_option maxRecDepth 100000
theorem cellB_later {w w' : World} {b o : Nat} {v : Value} (hb : Below w.heap.size w w') (h : w.cell? ⟨b, o, none⟩ = some v) : w'.cell? ⟨b, o, none⟩ = some v := cellA_later hb h

set_option maxHeartbeats 1000000 in
theorem concatR_any (g o : Nat) (a1 a2 : Option Addr) (n1 n2 c1 c2 : Nat) (xs1 xs2 : List Value) (w : World) (h0 : w.cell? ⟨g, o, none⟩ = some (.slice a1 n1 c1)) (h1 : w.cell? ⟨g, o + 1, none⟩ = some (.slice a2 n2 c2))
    (r1 : RowAt w 6 a1 n1 c1 xs1) (r2 : RowAt w 6 a2 n2 c2 xs2) (b1 : n1 ≤ 100000) (b2 : n2 ≤ 100000) :
    Calls Tryz.prog 68 #[.slice (some ⟨g, o, none⟩) 2 2] w fun e w' => ∃ v, e = .returned v ∧ w'.ownsRow w.heap.size 44 6 v (n1 + n2) (xs1 ++ xs2) ∧ Below w.heap.size w w' := by
  obtain ⟨i, hi, hz0, hz1, hz2⟩ := pluck infoR
  have hl0 := lt_of_cellA h0
  go_enter Tryz.func68, Tryz.ntmps68
  go_wp2
  go_loopw [3, 11] (fun sz ix wr => w = wr ∧ ((ix = .int .i64 0 ∧ sz = .int .i64 0) ∨ (ix = .int .i64 1 ∧ sz = .int .i64 (n1 : Int)) ∨ (ix = .int .i64 2 ∧ sz = .int .i64 ((n1 : Int) + (n2 : Int))))) (fun _ ix _ => (2 - intOf ix).toNat)
  case atStart => exact ⟨rfl, Or.inl ⟨rfl, rfl⟩⟩
  case round =>
    obtain ⟨rfl, ⟨rfl, rfl⟩ | ⟨rfl, rfl⟩ | ⟨rfl, rfl⟩⟩ := hrel
    · go_wp2
      go_roundw
      case rel => simp
      case measure => simp [intOf]
    · go_wp2
      go_roundw
      case rel => simp
      case measure => simp [intOf]
    · go_wp2_with fail
      rw [show ((n1 : Int) + (n2 : Int)) = ((n1 + n2 : Nat) : Int) by omega]
      refine (growR_any (n1 + n2) _ (by omega)).mono ?_
      rintro e w1 ⟨v, rfl, hown, HB⟩
      go_wp2_with fail
      go_loopw [6, 27] (fun nv ix w2 => Below w.heap.size w w2 ∧ ((ix = .int .i64 0 ∧ w2.ownsRow w.heap.size 44 6 nv 0 []) ∨ (ix = .int .i64 1 ∧ w2.ownsRow w.heap.size 44 6 nv n1 xs1) ∨ (ix = .int .i64 2 ∧ w2.ownsRow w.heap.size 44 6 nv (n1 + n2) (xs1 ++ xs2)))) (fun _ ix _ => (2 - intOf ix).toNat)
      case atStart => exact ⟨HB, Or.inl ⟨rfl, hown⟩⟩
      case round =>
        clear HB hown
        obtain ⟨HB, ⟨rfl, hown⟩ | ⟨rfl, hown⟩ | ⟨rfl, hown⟩⟩ := hrel
        · have k0 := cellB_later HB h0
          have q1 := r1.later HB
          go_wp2_with (at_builtin; refine wpList_append_row rfl _ _ 35 rfl w.heap.size 44 i (.agg #[.bool false, .int .i64 0, .int .i64 0, .slice none 0 0, .slice none 0 0, .int .i64 0]) 6 80 Tryz.underlying35 hi hz0 hz1 hz2 rfl (by decide) _ _ _ rfl hown a1 n1 c1 xs1 rfl q1 (by unfold maxLen; omega) (by omega) HB.size ?_; intro v' w3 hown' HB')
          go_roundw
          case rel => exact ⟨HB.trans HB', Or.inr (Or.inl ⟨rfl, by simpa using hown'⟩)⟩
          case measure => simp [intOf]
        · have k0 := cellB_later HB h1
          have q1 := r2.later HB
          go_wp2_with (at_builtin; refine wpList_append_row rfl _ _ 35 rfl w.heap.size 44 i (.agg #[.bool false, .int .i64 0, .int .i64 0, .slice none 0 0, .slice none 0 0, .int .i64 0]) 6 80 Tryz.underlying35 hi hz0 hz1 hz2 rfl (by decide) _ _ _ rfl hown a2 n2 c2 xs2 rfl q1 (by unfold maxLen; omega) (by omega) HB.size ?_; intro v' w3 hown' HB')
          go_roundw
          case rel => exact ⟨HB.trans HB', Or.inr (Or.inr ⟨rfl, hown'⟩)⟩
          case measure => simp [intOf]
        · go_wp2
          go_ret
          exact ⟨_, rfl, hown, HB⟩

set_option maxHeartbeats 1000000 in
theorem concatS_any (g o : Nat) (a1 a2 : Option Addr) (n1 n2 c1 c2 : Nat) (xs1 xs2 : List Value) (w : World) (h0 : w.cell? ⟨g, o, none⟩ = some (.slice a1 n1 c1)) (h1 : w.cell? ⟨g, o + 1, none⟩ = some (.slice a2 n2 c2))
    (r1 : RowAt w 1 a1 n1 c1 xs1) (r2 : RowAt w 1 a2 n2 c2 xs2) (b1 : n1 ≤ 100000) (b2 : n2 ≤ 100000) :
    Calls Tryz.prog 116 #[.slice (some ⟨g, o, none⟩) 2 2] w fun e w' => ∃ v, e = .returned v ∧ w'.ownsRow w.heap.size 9 1 v (n1 + n2) (xs1 ++ xs2) ∧ Below w.heap.size w w' := by
  obtain ⟨i, hi, hz0, hz1, hz2⟩ := pluck infoS
  have hl0 := lt_of_cellA h0
  go_enter Tryz.func116, Tryz.ntmps116
  go_wp2
  go_loopw [3, 11] (fun sz ix wr => w = wr ∧ ((ix = .int .i64 0 ∧ sz = .int .i64 0) ∨ (ix = .int .i64 1 ∧ sz = .int .i64 (n1 : Int)) ∨ (ix = .int .i64 2 ∧ sz = .int .i64 ((n1 : Int) + (n2 : Int))))) (fun _ ix _ => (2 - intOf ix).toNat)
  case atStart => exact ⟨rfl, Or.inl ⟨rfl, rfl⟩⟩
  case round =>
    obtain ⟨rfl, ⟨rfl, rfl⟩ | ⟨rfl, rfl⟩ | ⟨rfl, rfl⟩⟩ := hrel
    · go_wp2
      go_roundw
      case rel => simp
      case measure => simp [intOf]
    · go_wp2
      go_roundw
      case rel => simp
      case measure => simp [intOf]
    · go_wp2_with fail
      rw [show ((n1 : Int) + (n2 : Int)) = ((n1 + n2 : Nat) : Int) by omega]
      refine (growS_any (n1 + n2) _ (by omega)).mono ?_
      rintro e w1 ⟨v, rfl, hown, HB⟩
      go_wp2_with fail
      go_loopw [6, 27] (fun nv ix w2 => Below w.heap.size w w2 ∧ ((ix = .int .i64 0 ∧ w2.ownsRow w.heap.size 9 1 nv 0 []) ∨ (ix = .int .i64 1 ∧ w2.ownsRow w.heap.size 9 1 nv n1 xs1) ∨ (ix = .int .i64 2 ∧ w2.ownsRow w.heap.size 9 1 nv (n1 + n2) (xs1 ++ xs2)))) (fun _ ix _ => (2 - intOf ix).toNat)
      case atStart => exact ⟨HB, Or.inl ⟨rfl, hown⟩⟩
      case round =>
        clear HB hown
        obtain ⟨HB, ⟨rfl, hown⟩ | ⟨rfl, hown⟩ | ⟨rfl, hown⟩⟩ := hrel
        · have k0 := cellB_later HB h0
          have q1 := r1.later HB
          go_wp2_with (at_builtin; refine wpList_append_row rfl _ _ 41 rfl w.heap.size 9 i (.string ByteArray.empty) 1 16 Tryz.underlying41 hi hz0 hz1 hz2 rfl (by decide) _ _ _ rfl hown a1 n1 c1 xs1 rfl q1 (by unfold maxLen; omega) (by omega) HB.size ?_; intro v' w3 hown' HB')
          go_roundw
          case rel => exact ⟨HB.trans HB', Or.inr (Or.inl ⟨rfl, by simpa using hown'⟩)⟩
          case measure => simp [intOf]
        · have k0 := cellB_later HB h1
          have q1 := r2.later HB
          go_wp2_with (at_builtin; refine wpList_append_row rfl _ _ 41 rfl w.heap.size 9 i (.string ByteArray.empty) 1 16 Tryz.underlying41 hi hz0 hz1 hz2 rfl (by decide) _ _ _ rfl hown a2 n2 c2 xs2 rfl q1 (by unfold maxLen; omega) (by omega) HB.size ?_; intro v' w3 hown' HB')
          go_roundw
          case rel => exact ⟨HB.trans HB', Or.inr (Or.inr ⟨rfl, hown'⟩)⟩
          case measure => simp [intOf]
        · go_wp2
          go_ret
          exact ⟨_, rfl, hown, HB⟩

set_option maxHeartbeats 1000000 in
theorem concatI_any (g o : Nat) (a1 a2 : Option Addr) (n1 n2 c1 c2 : Nat) (xs1 xs2 : List Value) (w : World) (h0 : w.cell? ⟨g, o, none⟩ = some (.slice a1 n1 c1)) (h1 : w.cell? ⟨g, o + 1, none⟩ = some (.slice a2 n2 c2))
    (r1 : RowAt w 1 a1 n1 c1 xs1) (r2 : RowAt w 1 a2 n2 c2 xs2) (b1 : n1 ≤ 100000) (b2 : n2 ≤ 100000) :
    Calls Tryz.prog 117 #[.slice (some ⟨g, o, none⟩) 2 2] w fun e w' => ∃ v, e = .returned v ∧ w'.ownsRow w.heap.size 3 1 v (n1 + n2) (xs1 ++ xs2) ∧ Below w.heap.size w w' := by
  obtain ⟨i, hi, hz0, hz1, hz2⟩ := pluck infoI
  have hl0 := lt_of_cellA h0
  go_enter Tryz.func117, Tryz.ntmps117
  go_wp2
  go_loopw [3, 11] (fun sz ix wr => w = wr ∧ ((ix = .int .i64 0 ∧ sz = .int .i64 0) ∨ (ix = .int .i64 1 ∧ sz = .int .i64 (n1 : Int)) ∨ (ix = .int .i64 2 ∧ sz = .int .i64 ((n1 : Int) + (n2 : Int))))) (fun _ ix _ => (2 - intOf ix).toNat)
  case atStart => exact ⟨rfl, Or.inl ⟨rfl, rfl⟩⟩
  case round =>
    obtain ⟨rfl, ⟨rfl, rfl⟩ | ⟨rfl, rfl⟩ | ⟨rfl, rfl⟩⟩ := hrel
    · go_wp2
      go_roundw
      case rel => simp
      case measure => simp [intOf]
    · go_wp2
      go_roundw
      case rel => simp
      case measure => simp [intOf]
    · go_wp2_with fail
      rw [show ((n1 : Int) + (n2 : Int)) = ((n1 + n2 : Nat) : Int) by omega]
      refine (growI_any (n1 + n2) _ (by omega)).mono ?_
      rintro e w1 ⟨v, rfl, hown, HB⟩
      go_wp2_with fail
      go_loopw [6, 27] (fun nv ix w2 => Below w.heap.size w w2 ∧ ((ix = .int .i64 0 ∧ w2.ownsRow w.heap.size 3 1 nv 0 []) ∨ (ix = .int .i64 1 ∧ w2.ownsRow w.heap.size 3 1 nv n1 xs1) ∨ (ix = .int .i64 2 ∧ w2.ownsRow w.heap.size 3 1 nv (n1 + n2) (xs1 ++ xs2)))) (fun _ ix _ => (2 - intOf ix).toNat)
      case atStart => exact ⟨HB, Or.inl ⟨rfl, hown⟩⟩
      case round =>
        clear HB hown
        obtain ⟨HB, ⟨rfl, hown⟩ | ⟨rfl, hown⟩ | ⟨rfl, hown⟩⟩ := hrel
        · have k0 := cellB_later HB h0
          have q1 := r1.later HB
          go_wp2_with (at_builtin; refine wpList_append_row rfl _ _ 42 rfl w.heap.size 3 i (.int .i64 0) 1 8 Tryz.underlying42 hi hz0 hz1 hz2 rfl (by decide) _ _ _ rfl hown a1 n1 c1 xs1 rfl q1 (by unfold maxLen; omega) (by omega) HB.size ?_; intro v' w3 hown' HB')
          go_roundw
          case rel => exact ⟨HB.trans HB', Or.inr (Or.inl ⟨rfl, by simpa using hown'⟩)⟩
          case measure => simp [intOf]
        · have k0 := cellB_later HB h1
          have q1 := r2.later HB
          go_wp2_with (at_builtin; refine wpList_append_row rfl _ _ 42 rfl w.heap.size 3 i (.int .i64 0) 1 8 Tryz.underlying42 hi hz0 hz1 hz2 rfl (by decide) _ _ _ rfl hown a2 n2 c2 xs2 rfl q1 (by unfold maxLen; omega) (by omega) HB.size ?_; intro v' w3 hown' HB')
          go_roundw
          case rel => exact ⟨HB.trans HB', Or.inr (Or.inr ⟨rfl, hown'⟩)⟩
          case measure => simp [intOf]
        · go_wp2
          go_ret
          exact ⟨_, rfl, hown, HB⟩

end Go.Proofs.YtgjkdhedkbkagaaGreat
/- The contracts of package span, and of the spans in the document's answer: what each call returns; it makes new memory alone. -/
namespace Go.Proofs.YtgjkdhedkbkagaaGreat
open Go.RowKit
set_option maxRecDepth 100000

def hasB (f m a : Int) : Bool := decide (f ≤ a) && decide (0 ≤ wrap64 (a - f)) && decide (wrap64 (a - f) < m)
def inSpan (f m a : Int) : Bool := decide (f ≤ a ∧ a < f + m)
def maxI (f g : Int) : Int := if f < g then g else f
def meetB (f m g n : Int) : Bool := hasB f m (maxI f g) && hasB g n (maxI f g)
/-- A span that may be, of n sectors at most. -/
def okB (f m n : Int) : Bool := decide (0 ≤ f ∧ f < 32 ∧ 1 ≤ m ∧ m ≤ n ∧ m ≤ 32 - f)
def errB (b : Bool) : Value := if b then .nilIface else .iface 89 (.int .i64 1)
def faultB (b : Bool) : Int := if b then 0 else 1

theorem hasB_ok (f m n a : Int) (h : okB f m n = true) (ha : a ≤ 9223372036854775807) : hasB f m a = inSpan f m a := by
  simp only [okB, decide_eq_true_eq] at h
  rw [Bool.eq_iff_iff]
  simp only [hasB, inSpan, Bool.and_eq_true, decide_eq_true_eq]
  by_cases h1 : f ≤ a
  · have : wrap64 (a - f) = a - f := by unfold wrap64; omega
    rw [this]; omega
  · omega

theorem meetB_ok (f m g n : Int) (h : okB f m 32 = true) (k : okB g n 32 = true) : meetB f m g n = decide (f < g + n ∧ g < f + m) := by
  have h' := h; have k' := k
  simp only [okB, decide_eq_true_eq] at h' k'
  have hk : maxI f g ≤ 9223372036854775807 := by unfold maxI; split <;> omega
  unfold meetB
  rw [hasB_ok f m 32 _ h hk, hasB_ok g n 32 _ k hk, Bool.eq_iff_iff]
  simp only [inSpan, Bool.and_eq_true, decide_eq_true_eq]
  unfold maxI; split <;> omega

theorem hasB_yes {f m a : Int} (h1 : f ≤ a) (h2 : 0 ≤ wrap64 (a - f)) : decide (wrap64 (a - f) < m) = hasB f m a := by simp [hasB, h1, h2]
theorem hasB_no1 {f m a : Int} (h2 : wrap64 (a - f) < 0) : false = hasB f m a := by
  have : ¬ 0 ≤ wrap64 (a - f) := by omega
  simp [hasB, this]
theorem hasB_no2 {f m a : Int} (h2 : a < f) : false = hasB f m a := by
  have : ¬ f ≤ a := by omega
  simp [hasB, this]

set_option maxHeartbeats 400000 in
theorem has_any (f m a : Int) (w : World) :
    Calls Tryz.prog 45 #[.agg #[.int .i64 f, .int .i64 m], .int .i64 a] w fun e w' => e = .returned (.bool (hasB f m a)) ∧ Below w.heap.size w w' := by
  go_enter Tryz.func45, Tryz.ntmps45
  go_wp2
  all_goals
    go_ret
    exact ⟨ret_bool (by first | exact hasB_yes ‹_› ‹_› | exact hasB_no1 ‹_› | exact hasB_no2 ‹_›), below1 _ _⟩

set_option maxHeartbeats 400000 in
theorem next_any (f m g n : Int) (w : World) :
    Calls Tryz.prog 114 #[.agg #[.int .i64 f, .int .i64 m], .agg #[.int .i64 g, .int .i64 n]] w fun e w' => e = .returned (.bool (wrap64 (f + m) == g)) ∧ Below w.heap.size w w' := by
  go_enter Tryz.func114, Tryz.ntmps114
  go_wp2
  go_ret
  exact ⟨rfl, below2 _ _ _⟩

set_option maxHeartbeats 400000 in
theorem meet_core (f m g n : Int) (w : World) (b1 b2 : Bool) (k : Int) (hk : maxI f g = k) (h1 : hasB f m k = b1) (h2 : hasB g n k = b2) :
    Calls Tryz.prog 22 #[.agg #[.int .i64 f, .int .i64 m], .agg #[.int .i64 g, .int .i64 n]] w fun e w' => e = .returned (.bool (b1 && b2)) ∧ Below w.heap.size w w' := by
  by_cases hfg : f < g
  · obtain rfl : g = k := by simpa [maxI, hfg] using hk
    clear hk
    cases b1
    all_goals
      go_enter Tryz.func22, Tryz.ntmps22
      go_wp2_with (go_at_call 45; refine (has_any _ _ _ _).mono ?_; rintro e w1 ⟨rfl, hb⟩; (try clear hc hf hz); (first | replace HB := bthen HB hb | replace HB := bthen (bdrew HB) hb | have HB := hb); clear hb; obtain ⟨hc, hf, hz⟩ := bcell HB)
      go_ret
      exact ⟨rfl, by repeat (first | with_reducible exact Below.refl _ _ | with_reducible refine balloc ?_ _ | with_reducible refine bdrew ?_ | with_reducible refine bset' ?_ (by omega) _ | with_reducible refine bthen ?_ (by assumption))⟩
  · obtain rfl : f = k := by simpa [maxI, hfg] using hk
    clear hk
    cases b1
    all_goals
      go_enter Tryz.func22, Tryz.ntmps22
      go_wp2_with (go_at_call 45; refine (has_any _ _ _ _).mono ?_; rintro e w1 ⟨rfl, hb⟩; (try clear hc hf hz); (first | replace HB := bthen HB hb | replace HB := bthen (bdrew HB) hb | have HB := hb); clear hb; obtain ⟨hc, hf, hz⟩ := bcell HB)
      go_ret
      exact ⟨rfl, by repeat (first | with_reducible exact Below.refl _ _ | with_reducible refine balloc ?_ _ | with_reducible refine bdrew ?_ | with_reducible refine bset' ?_ (by omega) _ | with_reducible refine bthen ?_ (by assumption))⟩

theorem meet_any (f m g n : Int) (w : World) :
    Calls Tryz.prog 22 #[.agg #[.int .i64 f, .int .i64 m], .agg #[.int .i64 g, .int .i64 n]] w fun e w' => e = .returned (.bool (meetB f m g n)) ∧ Below w.heap.size w w' :=
  meet_core f m g n w _ _ _ rfl rfl rfl

theorem ok_no {f m n : Int} (h : f < 0 ∨ 31 < f ∨ m < 1 ∨ n < m ∨ 32 - f < m) : okB f m n = false := by
  simp only [okB, decide_eq_false_iff_not]; omega
theorem ok_yes {f m n : Int} (h1 : 0 ≤ f) (h2 : f < 32) (h3 : 1 ≤ m) (h4 : m ≤ n) (h5 : m ≤ 32 - f) : okB f m n = true := by
  simp only [okB, decide_eq_true_eq]; omega

set_option maxHeartbeats 400000 in
theorem check_any (f m n : Int) (w : World) :
    Calls Tryz.prog 110 #[.agg #[.int .i64 f, .int .i64 m], .int .i64 n] w fun e w' => e = .returned (errB (okB f m n)) ∧ Below w.heap.size w w' := by
  go_enter Tryz.func110, Tryz.ntmps110
  go_wp2
  all_goals
    go_ret
    refine ⟨ret_val ?_, below1 _ _⟩
    first | (rw [ok_no (by omega)]; rfl) | (rw [ok_yes (by omega) (by omega) (by omega) (by omega) (by omega)]; rfl)

theorem check_yes (f m n : Int) (w : World) (h : okB f m n = true) :
    Calls Tryz.prog 110 #[.agg #[.int .i64 f, .int .i64 m], .int .i64 n] w fun e w' => e = .returned .nilIface ∧ Below w.heap.size w w' := by
  have := check_any f m n w; rw [h] at this; exact this
theorem check_no (f m n : Int) (w : World) (h : okB f m n = false) :
    Calls Tryz.prog 110 #[.agg #[.int .i64 f, .int .i64 m], .int .i64 n] w fun e w' => e = .returned (.iface 89 (.int .i64 1)) ∧ Below w.heap.size w w' := by
  have := check_any f m n w; rw [h] at this; exact this

theorem meet_eq (f m g n : Int) (w : World) (b : Bool) (h : meetB f m g n = b) :
    Calls Tryz.prog 22 #[.agg #[.int .i64 f, .int .i64 m], .agg #[.int .i64 g, .int .i64 n]] w fun e w' => e = .returned (.bool b) ∧ Below w.heap.size w w' := by
  subst h; exact meet_any f m g n w
theorem next_eq (f m g n : Int) (w : World) (b : Bool) (h : (wrap64 (f + m) == g) = b) :
    Calls Tryz.prog 114 #[.agg #[.int .i64 f, .int .i64 m], .agg #[.int .i64 g, .int .i64 n]] w fun e w' => e = .returned (.bool b) ∧ Below w.heap.size w w' := by
  subst h; exact next_any f m g n w
theorem has_eq (f m a : Int) (w : World) (b : Bool) (h : hasB f m a = b) :
    Calls Tryz.prog 45 #[.agg #[.int .i64 f, .int .i64 m], .int .i64 a] w fun e w' => e = .returned (.bool b) ∧ Below w.heap.size w w' := by
  subst h; exact has_any f m a w
end Go.Proofs.YtgjkdhedkbkagaaGreat
/- The spans of the document's answer: Has, Meet, by their loops; and same: an error told by its number. -/
namespace Go.Proofs.YtgjkdhedkbkagaaGreat
open Go.RowKit
set_option maxRecDepth 100000

def crossB (f m g n : Int) : Bool := decide (f < g + n ∧ g < f + m)
theorem cross_no {f m g n : Int} (h : ¬ (f < g + n ∧ g < f + m)) : crossB f m g n = false := decide_eq_false h
theorem cross_yes {f m g n : Int} (h : f < g + n ∧ g < f + m) : crossB f m g n = true := decide_eq_true h

theorem no_step {f m g n j : Int} (h : ∀ t : Int, 0 ≤ t → t < j → ¬ ((f ≤ t ∧ t < f + m) ∧ (g ≤ t ∧ t < g + n))) (hx : ¬ ((f ≤ j ∧ j < f + m) ∧ (g ≤ j ∧ j < g + n))) :
    ∀ t : Int, 0 ≤ t → t < j + 1 → ¬ ((f ≤ t ∧ t < f + m) ∧ (g ≤ t ∧ t < g + n)) := by
  intro t t0 t1
  by_cases e : t = j
  · subst e; exact hx
  · exact h t t0 (by omega)

end Go.Proofs.YtgjkdhedkbkagaaGreat
/- ReqFault: what is wrong with a request, by B1. -/
namespace Go.Proofs.YtgjkdhedkbkagaaGreat
open Go.RowKit Go.BigFrame
set_option maxRecDepth 100000
attribute [local go_sem] Later.cell Later.frozen

def shapeBad (r : Rq) : Prop := (r.wr = true ∧ (r.data.length : Int) ≠ r.m) ∨ (r.wr = false ∧ 0 < r.data.length)
def tagsBad (r : Rq) : Prop := r.tags.length < 1 ∨ 4 < r.tags.length
def bornBad (r : Rq) : Prop := r.born < 0 ∨ 1000000000 < r.born
def small4 (r : Rq) : Bool := r.data.all fun s => decide (s.size ≤ 4)
/-- Of a request whose span, shape, tags and birth are all right. -/
structure Fine (r : Rq) : Prop where
  ok : okB r.f r.m 4 = true
  shape : ¬ shapeBad r
  tags : ¬ tagsBad r
  born : ¬ bornBad r

end Go.Proofs.YtgjkdhedkbkagaaGreat
