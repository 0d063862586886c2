/- A device: write. -/
import Derived.Test.YtgjkdhedkbkagaaGreatJ7
import Derived.Deep.RegionHeld3
import Derived.Test.YtgjkdhedkbkagaaGreatJ4
namespace Go.Proofs.YtgjkdhedkbkagaaGreat
open Go.RowKit Go.BigFrame
set_option maxRecDepth 100000
attribute [local go_sem] Later.cell Later.frozen

def Dl.write (d : Dl) (p : Nat) (s : ByteArray) : Dl := { d with now := d.now.set p s, wr := keepW p d.next d.wr ++ [⟨p, s, d.next⟩], next := (d.next + 1) % 64 }
theorem Rq.Off.mono {F F' : Nat → Prop} {r : Rq} (h : r.Off F) (hF : ∀ k, F' k → F k) : r.Off F' := ⟨fun he a ha hk => h.1 he a ha (hF _ hk), fun he a ha hk => h.2 he a ha (hF _ hk)⟩
/-- One cell of the device's block is another. -/
theorem DevAt.setB {b : Nat} {d d' : Dl} {a : An} {w : World} (h : DevAt b d a w) (j : Nat) (v : Value) (hc : (d.cells a).set j v = d'.cells a) (e1 : d'.wr = d.wr) (e2 : d'.busy = d.busy) (n32 : d'.now.length = 32) (g32 : d'.good.length = 32) (nxt : d'.next < 64) : DevAt b d' a (w.setCell ⟨b, j, none⟩ v) where
  n32 := n32
  g32 := g32
  blk := by rw [set_same h.blk, hc]
  wrow := by
    rw [e1]
    exact own_frame h.wrow fun g hg => by
      obtain ⟨p, hp, rfl⟩ := ownBlock_slice.1 hg
      exact set_other _ _ (h.sepw p hp)
  brow := by
    rw [e2]
    exact own_frame h.brow fun g hg => by
      obtain ⟨p, hp, rfl⟩ := ownBlock_slice.1 hg
      exact set_other _ _ (h.sepb p hp)
  sepw := h.sepw
  sepb := h.sepb
  sepwb := h.sepwb
  reqs := fun r hr => by
    rw [e2] at hr
    have := h.reqs r hr
    exact ⟨this.1.frame (F := fun k => k = b) (this.2.mono fun k hk => Or.inl hk) ((Only.refl (fun k => k = b) w).setCell ⟨b, j, none⟩ (Or.inl rfl) v), this.2⟩
  wfin := by rw [e1]; exact h.wfin
  nod := by rw [e1]; exact h.nod
  blen := by rw [e2]; exact h.blen
  nxt := nxt
theorem cells_setNow (d : Dl) (a : An) (k : Nat) (s : ByteArray) (h1 : d.now.length = 32) (hk : k < 32) : (d.cells a).set k (.string s) = ({ d with now := d.now.set k s } : Dl).cells a := by
  rw [Dl.cells, List.append_assoc, List.set_append_left _ _ (by rw [strV_length]; omega), Dl.cells, List.append_assoc]
  simp [strV, List.map_set]
theorem cells_set65 (d : Dl) (a : An) (n : Nat) (h1 : d.now.length = 32) (h2 : d.good.length = 32) : (d.cells a).set 65 (.int .i64 n) = ({ d with next := n } : Dl).cells a := by
  rw [Dl.cells, List.set_append_right _ _ (by simp [strV_length, h1, h2])]
  simp [strV_length, h1, h2, Dl.cells]
theorem cells_set64 (d : Dl) (a : An) (l : List Wn) (x : Option Addr) (c : Nat) (h1 : d.now.length = 32) (h2 : d.good.length = 32) : (d.cells a).set 64 (.slice x l.length c) = ({ d with wr := l } : Dl).cells { a with wa := x, wc := c } := by
  rw [Dl.cells, List.set_append_right _ _ (by simp [strV_length, h1, h2])]
  simp [strV_length, h1, h2, Dl.cells]
theorem wp_worldD {P : Program} {Q : Exit → Act → World → Prop} {a : Act} {c : Code} {w : World} (R : World → Prop) (h : R w) (k : ∀ w', R w' → c.wp P Q a w') : c.wp P Q a w := k w h
theorem step_call2 {P : Program} {ops : Array Oper} {o : Oper} {a : Act} {w : World} {K : Act → World → Prop} {Q : Exit → Act → World → Prop} {E : Prop}
    (hg : o.guard = none) (f : FuncId) (x1 x2 : Nat) (t1 t2 : TypeId) (hop : o.op = Op.call { callee := Callee.value (.func f), args := #[.tmp x1, .tmp x2], argTypes := #[t1, t2] }) (eg : ∀ args w, (callFunc f args).run P w = .ok (.enter f args) w)
    (v1 v2 : Value) (e1 : a.tmps[x1]?.getD undef = v1) (e2 : a.tmps[x2]?.getD undef = v2) (r : Value) (S : World → Prop) (hc : Calls P f #[v1, v2] w fun e w' => e = .returned r ∧ S w') (h : ∀ w', S w' → K (a.put o.dst r) w') :
    if Region.wanted o (yielded ops a.tmps) = true then Oper.wp P o a w K Q else E := by
  have hw : Region.wanted o (yielded ops a.tmps) = true := by simp [Region.wanted, hg]
  rw [if_pos hw]
  unfold Oper.wp
  simp [execOp, hop, resolve, invoke, e1, e2, eg, go_sem]
  refine hc.mono ?_
  rintro _ w' ⟨rfl, hs⟩
  exact h w' hs
theorem kept3 {b q : Nat} {d : Dl} {a : An} {w X w2 : World} {p : Nat} (h : DevAt b d a w) (hX : Below w.heap.size w X) (hO : Only (rowOf a.wa) X w2) (k1 : w.cell? ⟨q, 0, none⟩ = some (.pointer (some ⟨b, 0, none⟩))) (k2 : w.cell? ⟨q + 1, 0, none⟩ = some (.int .i64 p)) (n1 : ¬ rowOf a.wa q) (n2 : ¬ rowOf a.wa (q + 1)) (n3 : ¬ rowOf a.wa b) :
    w2.cell? ⟨q, 0, none⟩ = some (.pointer (some ⟨b, 0, none⟩)) ∧ w2.cell? ⟨q + 1, 0, none⟩ = some (.int .i64 p) ∧ w2.cell? ⟨b, 64, none⟩ = some (.slice a.wa d.wr.length a.wc) ∧ w2.cell? ⟨b, 65, none⟩ = some (.int .i64 d.next) ∧ w2.frozen? ⟨b, 64, none⟩ = false ∧ q + 1 < w2.heap.size ∧ b < w2.heap.size := by
  have l1 := lt_of_cell k1
  have l2 := lt_of_cell k2
  have hs := hX.size
  have hs2 := hO.size
  have lb := h.lt
  refine ⟨?_, ?_, ?_, ?_, ?_, by omega, by omega⟩
  · rw [hO.cell (p := ⟨q, 0, none⟩) (show q < _ by omega) n1, hX.cell (p := ⟨q, 0, none⟩) l1]; exact k1
  · rw [hO.cell (p := ⟨q + 1, 0, none⟩) (show q + 1 < _ by omega) n2, hX.cell (p := ⟨q + 1, 0, none⟩) l2]; exact k2
  · rw [hO.cell (p := ⟨b, 64, none⟩) (show b < _ by omega) n3, hX.cell (p := ⟨b, 64, none⟩) lb]; exact h.c64
  · rw [hO.cell (p := ⟨b, 65, none⟩) (show b < _ by omega) n3, hX.cell (p := ⟨b, 65, none⟩) lb]; exact h.c65
  · rw [hO.frozen (p := ⟨b, 64, none⟩) (show b < _ by omega) n3, hX.frozen (p := ⟨b, 64, none⟩) lb]; exact h.fz 64
theorem rowOf_own {a : Option Addr} {n c k : Nat} : (Value.slice a n c).ownBlock = some k ↔ rowOf a k := ownBlock_slice
/-- The row of what was written is another one, in its old place or a new block. -/
theorem DevAt.rewritten {b : Nat} {d : Dl} {a : An} {w w3 : World} (h : DevAt b d a w) (hO : Only (rowOf a.wa) w w3) (l : List Wn) {v : Value} (hown : w3.ownsRow 0 88 3 v l.length (wcells l)) (hv : ∀ g, v.ownBlock = some g → rowOf a.wa g ∨ w.heap.size ≤ g)
    (hf : ∀ x ∈ l, x.pl < 32 ∧ x.bit < 64) (hn : (l.map Wn.key).Nodup) :
    ∃ x c, v = .slice x l.length c ∧ DStep b d a { d with wr := l } { a with wa := x, wc := c } w (w3.setCell ⟨b, 64, none⟩ v) := by
  obtain ⟨x, c, rfl, _⟩ := slice_of_own hown
  have hlt := h.lt
  have nb : ¬ rowOf a.wa b := fun ⟨q, hq, e⟩ => h.sepw q hq e.symm
  have e3 : w3.heap[b]? = some (.cells (d.cells a).toArray 82 (0, 0)) := by
    rw [hO.block b hlt nb]; exact h.blk
  have xb : ∀ p, x = some p → p.block ≠ b := fun p hp e => by
    rcases hv p.block (ownBlock_slice.2 ⟨p, hp, rfl⟩) with ⟨q, hq, e'⟩ | h'
    · exact h.sepw q hq (by omega)
    · omega
  have hon : Only (a.foot b) w (w3.setCell ⟨b, 64, none⟩ (.slice x l.length c)) :=
    (hO.mono (F' := a.foot b) (fun i hi => Or.inr (Or.inl hi))).setCell ⟨b, 64, none⟩ (Or.inl (Or.inl rfl)) _
  have hft : ∀ k, ({ a with wa := x, wc := c } : An).foot b k → a.foot b k ∨ w.heap.size ≤ k := by
    rintro k (rfl | ⟨p, hp, rfl⟩ | ⟨p, hp, rfl⟩)
    · exact Or.inl (Or.inl rfl)
    · rcases hv p.block (ownBlock_slice.2 ⟨p, hp, rfl⟩) with h' | h'
      · exact Or.inl (Or.inr (Or.inl h'))
      · exact Or.inr (by omega)
    · exact Or.inl (Or.inr (Or.inr ⟨p, hp, rfl⟩))
  refine ⟨x, c, rfl, ⟨?_, hon, hft⟩⟩
  exact {
    n32 := h.n32
    g32 := h.g32
    blk := by rw [set_same e3, cells_set64 d a l x c h.n32 h.g32]
    wrow := own_frame hown fun g hg' => by
      obtain ⟨p, hp, rfl⟩ := ownBlock_slice.1 hg'
      exact set_other _ _ (xb p hp)
    brow := own_frame h.brow fun g hg' => by
      obtain ⟨p, hp, rfl⟩ := ownBlock_slice.1 hg'
      have hpl := h.blt p hp
      rw [set_other _ _ (h.sepb p hp), hO.block _ hpl]
      rintro ⟨q, hq, e⟩
      exact h.sepwb q p hq hp e.symm
    sepw := xb
    sepb := h.sepb
    sepwb := fun p q hp hq e => by
      rcases hv p.block (ownBlock_slice.2 ⟨p, hp, rfl⟩) with ⟨p', hp', e'⟩ | h'
      · exact h.sepwb p' q hp' hq (by omega)
      · have := h.blt q hq; omega
    reqs := fun r hr' => ⟨(h.reqs r hr').1.frame (h.reqs r hr').2 hon, (h.reqs r hr').2.step (h.reqs r hr').1 hft⟩
    wfin := hf
    nod := hn
    blen := h.blen
    nxt := h.nxt }
theorem kept64 {b : Nat} {d : Dl} {a : An} {w w3 : World} (h : DevAt b d a w) (hO : Only (rowOf a.wa) w w3) : w3.cell? ⟨b, 64, none⟩ = some (.slice a.wa d.wr.length a.wc) ∧ w3.frozen? ⟨b, 64, none⟩ = false ∧ b < w3.heap.size := by
  have nb : ¬ rowOf a.wa b := fun ⟨q, hq, e⟩ => h.sepw q hq e.symm
  have hs := hO.size
  have hl := h.lt
  exact ⟨by rw [hO.cell (p := ⟨b, 64, none⟩) hl nb]; exact h.c64, by rw [hO.frozen (p := ⟨b, 64, none⟩) hl nb]; exact h.fz 64, by omega⟩
theorem wcells_snoc (l : List Wn) (x : Wn) : wcells (l ++ [x]) = wcells l ++ [.int .i64 x.pl, .string x.data, .int .i64 x.bit] := by rw [wcells_append]; rfl
theorem wroteAt {a : Option Addr} {n c n' c' : Nat} {x : Option Addr} {B W : Nat} (hv : (Value.slice x n' c').ownBlock = (Value.slice a n c).ownBlock ∨ (Value.slice x n' c').ownBlock = some W) {g : Nat} (hg : (Value.slice x n' c').ownBlock = some g) (hB : B ≤ W) : rowOf a g ∨ B ≤ g := by
  rcases hv with h | h
  · rw [h] at hg; exact Or.inl (rowOf_own.1 hg)
  · rw [h] at hg; cases hg; exact Or.inr hB
theorem newRowKept {w w2 : World} {F : Nat → Prop} {n : Nat} (hn : w.heap.size = n) (vs : List Value) (T : TypeId) (hO : Only F (w.alloc (.cells vs.toArray T)) w2) (hF : ¬ F n) (j : Nat) (u : Value) (h : vs[j]? = some u) : w2.cell? (Addr.add ⟨n, 0, none⟩ j) = some u := by
  have := newRowAt hn vs T j u h
  rw [Addr.add_mid] at this ⊢
  rw [hO.cell (p := ⟨n, 0 + j, none⟩) (by simp [hn]) hF]
  exact this
theorem newRowKeptD {w w2 : World} {F : Nat → Prop} {n : Nat} (hn : w.heap.size = n) (vs : List Value) (T : TypeId) (hO : Only F (w.alloc (.cells vs.toArray T)).drew w2) (hF : ¬ F n) (j : Nat) (u : Value) (h : vs[j]? = some u) : w2.cell? (Addr.add ⟨n, 0, none⟩ j) = some u :=
  newRowKept hn vs T ⟨hO.os, hO.tape, hO.output, hO.size, hO.block⟩ hF j u h
def Tri (q b p nx : Nat) (sl : Value) (w : World) : Prop := w.cell? ⟨q, 0, none⟩ = some (.pointer (some ⟨b, 0, none⟩)) ∧ w.cell? ⟨q + 1, 0, none⟩ = some (.int .i64 p) ∧ w.cell? ⟨b, 65, none⟩ = some (.int .i64 nx) ∧ w.cell? ⟨b, 64, none⟩ = some sl ∧ w.frozen? ⟨b, 64, none⟩ = false
theorem Tri.drew {q b p nx : Nat} {sl : Value} {w : World} (h : Tri q b p nx sl w) : Tri q b p nx sl w.drew := h
theorem Tri.only {F : Nat → Prop} {q b p nx : Nat} {sl : Value} {w w' : World} (h : Tri q b p nx sl w) (hO : Only F w w') (n1 : ¬ F q) (n2 : ¬ F (q + 1)) (n3 : ¬ F b) : Tri q b p nx sl w' := by
  obtain ⟨h1, h2, h3, h4, h5⟩ := h
  have l1 := lt_of_cell h1
  have l2 := lt_of_cell h2
  have l3 := lt_of_cell h3
  exact ⟨by rw [hO.cell (p := ⟨q, 0, none⟩) l1 n1]; exact h1, by rw [hO.cell (p := ⟨q + 1, 0, none⟩) l2 n2]; exact h2, by rw [hO.cell (p := ⟨b, 65, none⟩) l3 n3]; exact h3, (hO.cell (p := ⟨b, 64, none⟩) l3 n3).trans h4, by rw [hO.frozen (p := ⟨b, 64, none⟩) l3 n3]; exact h5⟩
theorem Tri.alloc {q b p nx : Nat} {sl : Value} {w : World} (h : Tri q b p nx sl w) (o : Obj) : Tri q b p nx sl (w.alloc o) := h.only (F := fun _ => False) ((Only.refl _ _).alloc o) (fun e => e) (fun e => e) (fun e => e)
theorem keep_fin {l : List Wn} {p n : Nat} {s : ByteArray} (h : ∀ x ∈ l, x.pl < 32 ∧ x.bit < 64) (hp : p < 32) (hn : n < 64) : ∀ x ∈ keepW p n l ++ [⟨p, s, n⟩], x.pl < 32 ∧ x.bit < 64 := by
  intro x hx
  rcases List.mem_append.1 hx with hx | hx
  · exact h x (List.mem_filter.1 hx).1
  · obtain rfl := List.mem_singleton.1 hx
    exact ⟨hp, hn⟩
theorem keep_nod {l : List Wn} {p n : Nat} {s : ByteArray} (h : ∀ x ∈ l, x.pl < 32 ∧ x.bit < 64) (hn : n < 64) (hd : (l.map Wn.key).Nodup) : ((keepW p n l ++ [(⟨p, s, n⟩ : Wn)]).map Wn.key).Nodup := by
  rw [List.map_append, List.nodup_append]
  refine ⟨hd.sublist (List.filter_sublist.map _), by simp, ?_⟩
  intro k hk k' hk'
  simp only [List.map_cons, List.map_nil, List.mem_singleton] at hk'
  subst hk'
  obtain ⟨x, hx, rfl⟩ := List.mem_map.1 hk
  have h1 := List.mem_filter.1 hx
  have h2 := h x h1.1
  simp only [Wn.key]
  intro e
  have : hidB p n x = true := by simp only [hidB, Bool.and_eq_true, beq_iff_eq]; omega
  simp [this] at h1
theorem next_mod (n : Nat) : ((n : Int) + 1).tmod 64 = (((n + 1) % 64 : Nat) : Int) := by rw [Int.tmod_eq_emod_of_nonneg (by omega)]; omega
theorem write_done {b : Nat} {d d1 d2 : Dl} {a a2 : An} {p : Nat} {s : ByteArray} {w wK wM : World} (hd1 : d1 = { d with now := d.now.set p s }) (hd2 : d2 = { d1 with wr := keepW p d1.next d1.wr ++ [⟨p, s, d1.next⟩] }) (hK : DevAt b d1 a wK) (hO : Only (a.foot b) w wK) (h : DStep b d1 a d2 a2 wK wM) : DStep b d a (d.write p s) a2 w (wM.setCell ⟨b, 65, none⟩ (.int .i64 ((d1.next + 1) % 64 : Nat))) := by
  have h1 : DStep b d a d1 a w wK := ⟨hK, hO, fun k hk => Or.inl hk⟩
  have h2 := h1.trans h
  refine h2.trans ⟨?_, (Only.refl (a2.foot b) wM).setCell ⟨b, 65, none⟩ (Or.inl (Or.inl rfl)) _, fun k hk => Or.inl hk⟩
  have e : d.write p s = { d2 with next := (d1.next + 1) % 64 } := by subst hd2; subst hd1; rfl
  rw [e]
  exact h.dev.setB 65 _ (cells_set65 d2 a2 _ h.dev.n32 h.dev.g32) rfl rfl h.dev.n32 h.dev.g32 (Nat.mod_lt _ (by omega))
theorem infoW : (Tryz.prog.info? 88).map (fun i => (i.zero, i.size, i.bytes)) = some (some (.agg #[.int .i64 0, .string ByteArray.empty, .int .i64 0]), 3, 32) := by kernel_rfl
set_option linter.unusedSimpArgs false in
set_option maxRecDepth 100000 in
set_option maxHeartbeats 2000000 in
theorem write_any (b : Nat) (d : Dl) (a : An) (p : Nat) (s : ByteArray) (w : World) (h : DevAt b d a w) (hp : p < 32) :
    Calls Tryz.prog 127 #[.pointer (some ⟨b, 0, none⟩), .int .i64 p, .string s] w fun e w' => ∃ a', e = .returned (.tuple #[]) ∧ DStep b d a (d.write p s) a' w w' := by
  have hl := h.lt
  have cN := h.cNow p hp
  have fN := h.fz p
  have p1 : (p : Int) < 32 := by omega
  have p2 : (0 : Int) ≤ (p : Int) := by omega
  have HD := hidT h
  clear h
  go_enter Tryz.func127, Tryz.ntmps127
  go_wp2_with fail
  go_region
  go_wp2_with fail
  obtain ⟨d1, hd1⟩ : ∃ d1 : Dl, d1 = { d with now := d.now.set p s } := ⟨_, rfl⟩
  have HD1 := hidT hd1
  clear hd1
  refine wp_worldD (fun wK => DevAt b d1 a wK ∧ wK.cell? ⟨w.heap.size, 0, none⟩ = some (.pointer (some ⟨b, 0, none⟩)) ∧ wK.cell? ⟨w.heap.size + 1, 0, none⟩ = some (.int .i64 p) ∧ Only (a.foot b) w wK) ⟨?_, by simp [go_sem], by simp [go_sem], ?_⟩ ?_
  · rw [HD1.out]
    exact (((HD.out.setB p (.string s) (cells_setNow d a p s HD.out.n32 hp) rfl rfl (by simpa using HD.out.n32) HD.out.g32 HD.out.nxt).alloc _).alloc _).later (Below.refl _ _).drew
  · exact ((((Only.refl (a.foot b) w).setCell ⟨b, p, none⟩ (Or.inl (Or.inl rfl)) (.string s)).alloc _).alloc _).drew
  rintro wK ⟨hK, k1, k2, hO⟩
  have HK := hidT hK
  have HO := hidT hO
  have k3 := hK.c64
  have k4 := hK.c65
  have lb := hK.lt
  have l1 := lt_of_cell k1
  have l2 := lt_of_cell k2
  clear hK hO cN fN p1 p2
  have eg : ∀ args w, Sem.run Tryz.prog (callFunc 134 args) w = .ok (.enter 134 args) w := by intro args w; go_simp
  have hwl := HK.out.wlen
  have nr : ∀ k, k = w.heap.size ∨ k = w.heap.size + 1 ∨ k = b → ¬ rowOf a.wa k := by
    rintro k hk ⟨q, hq, rfl⟩
    have h1 := HD.out.wlt q hq
    have h2 := HD.out.sepw q hq
    omega
  have NR := hidT nr
  have HHK : Hid (HidAt (w.heap.size + 1) w.heap.size b p d1.next wK) := ⟨k2, k1, k4⟩
  have NRK : Hid (¬ rowOf a.wa wK.heap.size) := by
    rintro ⟨q, hq, e⟩
    have := HK.out.wlt q hq
    omega
  clear nr
  obtain ⟨iW, hi, hz0, hz1, hz2⟩ := pluck infoW
  have HI := hidT (⟨hi, hz0, hz1, hz2⟩ : Tryz.prog.info? 88 = some iW ∧ _ ∧ _ ∧ _)
  have HKL : Hid ((keepW p d1.next d1.wr).length ≤ 2048) := Nat.le_trans (List.length_filter_le _ _) hwl
  clear hi hz0 hz1 hz2
  have T0 : Tri w.heap.size b p d1.next (.slice a.wa d1.wr.length a.wc) wK := ⟨k1, k2, k4, k3, HK.out.fz 64⟩
  have HS : Hid (Tri w.heap.size b p d1.next (.slice a.wa d1.wr.length a.wc) wK.drew) := T0
  refine region_till (S := Tri w.heap.size b p d1.next (.slice a.wa d1.wr.length a.wc)) (d := 18) (by kernel_rfl) ?_
  refine till_take (i := 0) (v := ?_) rfl (by kernel_rfl) (by kernel_rfl) (by kernel_rfl) (by kernel_rfl) (fun _ _ _ h => h) (Or.inl ⟨by rfl, ?_⟩) HS.out ?_; rotate_left; (focus (intro w0 hSw; obtain ⟨s1, s2, s3, s4, s5⟩ := hSw; go_simp; (try with_reducible rfl))); (try simp only [Act.put, List.getElem_toArray, List.getElem_cons_succ, List.getElem_cons_zero, List.setIfInBounds_toArray, List.set_cons_zero, List.set_cons_succ])
  refine till_take (i := 1) (v := ?_) rfl (by kernel_rfl) (by kernel_rfl) (by kernel_rfl) (by kernel_rfl) (fun _ _ _ h => h) (Or.inl ⟨by rfl, ?_⟩) HS.out ?_; rotate_left; (focus (intro w0 hSw; obtain ⟨s1, s2, s3, s4, s5⟩ := hSw; go_simp; (try with_reducible rfl))); (try simp only [Act.put, List.getElem_toArray, List.getElem_cons_succ, List.getElem_cons_zero, List.setIfInBounds_toArray, List.set_cons_zero, List.set_cons_succ])
  refine till_take (i := 2) (v := ?_) rfl (by kernel_rfl) (by kernel_rfl) (by kernel_rfl) (by kernel_rfl) (fun _ _ _ h => h) (Or.inl ⟨by rfl, ?_⟩) HS.out ?_; rotate_left; (focus (intro w0 hSw; obtain ⟨s1, s2, s3, s4, s5⟩ := hSw; go_simp; (try with_reducible rfl))); (try simp only [Act.put, List.getElem_toArray, List.getElem_cons_succ, List.getElem_cons_zero, List.setIfInBounds_toArray, List.set_cons_zero, List.set_cons_succ])
  refine till_take (i := 3) (v := ?_) rfl (by kernel_rfl) (by kernel_rfl) (by kernel_rfl) (by kernel_rfl) (fun _ _ _ h => h) (Or.inl ⟨by rfl, ?_⟩) HS.out ?_; rotate_left; (focus (intro w0 hSw; obtain ⟨s1, s2, s3, s4, s5⟩ := hSw; go_simp; (try with_reducible rfl))); (try simp only [Act.put, List.getElem_toArray, List.getElem_cons_succ, List.getElem_cons_zero, List.setIfInBounds_toArray, List.set_cons_zero, List.set_cons_succ])
  refine till_take (i := 4) (v := ?_) rfl (by kernel_rfl) (by kernel_rfl) (by kernel_rfl) (by kernel_rfl) (fun _ _ _ h => h) (Or.inl ⟨by rfl, ?_⟩) HS.out ?_; rotate_left; (focus (intro w0 hSw; obtain ⟨s1, s2, s3, s4, s5⟩ := hSw; go_simp; (try with_reducible rfl))); (try simp only [Act.put, List.getElem_toArray, List.getElem_cons_succ, List.getElem_cons_zero, List.setIfInBounds_toArray, List.set_cons_zero, List.set_cons_succ])
  refine till_take (i := 5) (v := ?_) rfl (by kernel_rfl) (by kernel_rfl) (by kernel_rfl) (by kernel_rfl) (fun _ _ _ h => h) (Or.inl ⟨by rfl, ?_⟩) HS.out ?_; rotate_left; (focus (intro w0 hSw; obtain ⟨s1, s2, s3, s4, s5⟩ := hSw; go_simp; (try with_reducible rfl))); (try simp only [Act.put, List.getElem_toArray, List.getElem_cons_succ, List.getElem_cons_zero, List.setIfInBounds_toArray, List.set_cons_zero, List.set_cons_succ])
  refine till_take (i := 7) (v := ?_) rfl (by kernel_rfl) (by kernel_rfl) (by kernel_rfl) (by kernel_rfl) (fun _ _ _ h => h) (Or.inl ⟨by rfl, ?_⟩) HS.out ?_; rotate_left; (focus (intro w0 hSw; obtain ⟨s1, s2, s3, s4, s5⟩ := hSw; go_simp; (try with_reducible rfl))); (try simp only [Act.put, List.getElem_toArray, List.getElem_cons_succ, List.getElem_cons_zero, List.setIfInBounds_toArray, List.set_cons_zero, List.set_cons_succ])
  refine till_take (i := 8) (v := ?_) rfl (by kernel_rfl) (by kernel_rfl) (by kernel_rfl) (by kernel_rfl) (fun _ _ _ h => h) (Or.inl ⟨by rfl, ?_⟩) HS.out ?_; rotate_left; (focus (intro w0 hSw; obtain ⟨s1, s2, s3, s4, s5⟩ := hSw; go_simp; (try with_reducible rfl))); (try simp only [Act.put, List.getElem_toArray, List.getElem_cons_succ, List.getElem_cons_zero, List.setIfInBounds_toArray, List.set_cons_zero, List.set_cons_succ])
  refine till_take (i := 9) (v := ?_) rfl (by kernel_rfl) (by kernel_rfl) (by kernel_rfl) (by kernel_rfl) (fun _ _ _ h => h) (Or.inl ⟨by rfl, ?_⟩) HS.out ?_; rotate_left; (focus (intro w0 hSw; obtain ⟨s1, s2, s3, s4, s5⟩ := hSw; go_simp; (try with_reducible rfl))); (try simp only [Act.put, List.getElem_toArray, List.getElem_cons_succ, List.getElem_cons_zero, List.setIfInBounds_toArray, List.set_cons_zero, List.set_cons_succ])
  refine till_take (i := 10) (v := ?_) rfl (by kernel_rfl) (by kernel_rfl) (by kernel_rfl) (by kernel_rfl) (fun _ _ _ h => h) (Or.inl ⟨by rfl, ?_⟩) HS.out ?_; rotate_left; (focus (intro w0 hSw; obtain ⟨s1, s2, s3, s4, s5⟩ := hSw; go_simp; (try with_reducible rfl))); (try simp only [Act.put, List.getElem_toArray, List.getElem_cons_succ, List.getElem_cons_zero, List.setIfInBounds_toArray, List.set_cons_zero, List.set_cons_succ])
  refine till_take (i := 11) (v := ?_) rfl (by kernel_rfl) (by kernel_rfl) (by kernel_rfl) (by kernel_rfl) (fun _ _ _ h => h) (Or.inl ⟨by rfl, ?_⟩) HS.out ?_; rotate_left; (focus (intro w0 hSw; obtain ⟨s1, s2, s3, s4, s5⟩ := hSw; go_simp; (try with_reducible rfl))); (try simp only [Act.put, List.getElem_toArray, List.getElem_cons_succ, List.getElem_cons_zero, List.setIfInBounds_toArray, List.set_cons_zero, List.set_cons_succ])
  refine till_take (i := 12) (v := ?_) rfl (by kernel_rfl) (by kernel_rfl) (by kernel_rfl) (by kernel_rfl) (fun _ _ _ h => h) (Or.inl ⟨by rfl, ?_⟩) HS.out ?_; rotate_left; (focus (intro w0 hSw; obtain ⟨s1, s2, s3, s4, s5⟩ := hSw; go_simp; (try with_reducible rfl))); (try simp only [Act.put, List.getElem_toArray, List.getElem_cons_succ, List.getElem_cons_zero, List.setIfInBounds_toArray, List.set_cons_zero, List.set_cons_succ])
  refine till_take (i := 13) (v := ?_) rfl (by kernel_rfl) (by kernel_rfl) (by kernel_rfl) (by kernel_rfl) (fun _ _ _ h => h) (Or.inl ⟨by rfl, ?_⟩) HS.out ?_; rotate_left; (focus (intro w0 hSw; obtain ⟨s1, s2, s3, s4, s5⟩ := hSw; go_simp; (try with_reducible rfl))); (try simp only [Act.put, List.getElem_toArray, List.getElem_cons_succ, List.getElem_cons_zero, List.setIfInBounds_toArray, List.set_cons_zero, List.set_cons_succ])
  refine till_two (i := 6) (j := 14) rfl rfl (by kernel_rfl) ?_ ?_
  · intro K hK
    refine step_call2 rfl 134 18 19 80 173 rfl eg (.slice a.wa d1.wr.length a.wc) (.func (.func 133) #[] #[.pointer (some ⟨w.heap.size + 1, 0, none⟩), .pointer (some ⟨w.heap.size, 0, none⟩)]) rfl rfl (.slice a.wa (keepW p d1.next d1.wr).length a.wc) (fun w' => w'.ownsRow 0 88 3 (.slice a.wa (keepW p d1.next d1.wr).length a.wc) (keepW p d1.next d1.wr).length (wcells (keepW p d1.next d1.wr)) ∧ Only (rowOf a.wa) _ w') (delW (w.heap.size + 1) w.heap.size b p d1.next d1.wr a.wa a.wc _ (HK.out.later (by repeat (first | with_reducible exact Below.refl _ _ | with_reducible refine balloc ?_ _ | with_reducible refine bdrew ?_ | with_reducible refine bset' ?_ (by omega) _ | with_reducible refine bthen ?_ (by assumption)))).wrow (by omega) HK.out.nod (HHK.out.later (by repeat (first | with_reducible exact Below.refl _ _ | with_reducible refine balloc ?_ _ | with_reducible refine bdrew ?_ | with_reducible refine bset' ?_ (by omega) _ | with_reducible refine bthen ?_ (by assumption)))) (NR.out _ (by omega)) (NR.out _ (by omega)) (NR.out _ (by omega))) ?_; rintro w2 ⟨hown2, hO2⟩; obtain ⟨q1, q2, q3, q4, q5, q6, q7⟩ := kept3 HK.out (by repeat (first | with_reducible exact Below.refl _ _ | with_reducible refine balloc ?_ _ | with_reducible refine bdrew ?_ | with_reducible refine bset' ?_ (by omega) _ | with_reducible refine bthen ?_ (by assumption))) hO2 k1 k2 (NR.out _ (by omega)) (NR.out _ (by omega)) (NR.out _ (by omega)); have HO2 := hidT (⟨hown2, hO2⟩ : _ ∧ _); have T2 : Tri w.heap.size b p d1.next (.slice a.wa d1.wr.length a.wc) w2 := ⟨q1, q2, q4, q3, q5⟩; clear hown2 hO2; refine hK _ _ (fun _ => T2) ?_; (try simp only [Act.put, List.getElem_toArray, List.getElem_cons_succ, List.getElem_cons_zero, List.setIfInBounds_toArray, List.set_cons_zero, List.set_cons_succ]); clear hK
    refine till_one (i := 14) rfl (by kernel_rfl) ?_; intro K hK; go_simp; refine hK _ _ (fun _ => T2.alloc _) ?_; (try simp only [Act.put, List.getElem_toArray, List.getElem_cons_succ, List.getElem_cons_zero, List.setIfInBounds_toArray, List.set_cons_zero, List.set_cons_succ]); clear hK
    refine till_one (i := 15) rfl (by kernel_rfl) ?_
    intro K hK
    refine step_push rfl (.tmp 20) (.tmp 28) 80 rfl 0 88 iW _ 3 32 Tryz.underlying80 HI.out.1 HI.out.2.1 HI.out.2.2.1 HI.out.2.2.2 rfl (by decide) (.slice a.wa (keepW p d1.next d1.wr).length a.wc) (keepW p d1.next d1.wr).length (wcells (keepW p d1.next d1.wr)) rfl (HO2.out.1.alloc _) ⟨w2.heap.size, 0, none⟩ 1 1 [.int .i64 p, .string s, .int .i64 d1.next] rfl rfl (fun j u hj => newRowAt rfl _ _ j u hj) (by simp [Value.oneCell']) (by omega) (by have := HKL.out; unfold maxLen; omega) (by have := HKL.out; omega) (Nat.zero_le _) ?_
    intro v3 w3 hown3 hg3 hv3
    have hO3 : Only (rowOf a.wa) wK w3 := (((Only.of_below (by repeat (first | with_reducible exact Below.refl _ _ | with_reducible refine balloc ?_ _ | with_reducible refine bdrew ?_ | with_reducible refine bset' ?_ (by omega) _ | with_reducible refine bthen ?_ (by assumption)))).trans HO2.out.2 (fun _ e => Or.inl e)).alloc _).grown hg3 (fun k hk => Or.inl (rowOf_own.1 hk))
    obtain ⟨x3, c3, rfl, -⟩ := slice_of_own hown3; obtain ⟨r1, r2, r3⟩ := kept64 HK.out hO3; have hv4 : ∀ g, (Value.slice x3 ((keepW p d1.next d1.wr).length + 1) c3).ownBlock = some g → rowOf a.wa g ∨ wK.heap.size ≤ g := fun g hg => wroteAt hv3 hg (by have := HO2.out.2.size; simp at this; simp; omega); have T3 : Tri w.heap.size b p d1.next (.slice a.wa d1.wr.length a.wc) w3 := T0.only hO3 (NR.out _ (by omega)) (NR.out _ (by omega)) (NR.out _ (by omega)); have HP3 := hidT (⟨hown3, hO3, hv4⟩ : _ ∧ _ ∧ _); clear hown3 hO3 hv3 hg3 hv4; refine hK _ _ (fun _ => T3) ?_; (try simp only [Act.put, List.getElem_toArray, List.getElem_cons_succ, List.getElem_cons_zero, List.setIfInBounds_toArray, List.set_cons_zero, List.set_cons_succ]); clear hK; refine till_one (i := 16) rfl (by kernel_rfl) ?_; intro K hK; go_simp; refine hK _ _ (fun _ => T3) ?_; (try simp only [Act.put, List.getElem_toArray, List.getElem_cons_succ, List.getElem_cons_zero, List.setIfInBounds_toArray, List.set_cons_zero, List.set_cons_succ]); clear hK; refine till_one (i := 17) rfl (by kernel_rfl) ?_; intro K hK; go_simp; refine hK _ _ (fun _ => T3) ?_; (try simp only [Act.put, List.getElem_toArray, List.getElem_cons_succ, List.getElem_cons_zero, List.setIfInBounds_toArray, List.set_cons_zero, List.set_cons_succ]); clear hK; refine till_one (i := 18) rfl (by kernel_rfl) ?_; intro K hK; go_simp; refine hK _ _ (fun h => absurd rfl h) ?_; (try simp only [Act.put, List.getElem_toArray, List.getElem_cons_succ, List.getElem_cons_zero, List.setIfInBounds_toArray, List.set_cons_zero, List.set_cons_succ]); clear hK; refine till_done (by kernel_rfl) ?_ _
    obtain ⟨hown3, hO3, hv4⟩ := HP3.out; obtain ⟨x4, c4, e4, hst⟩ := HK.out.rewritten hO3 (keepW p d1.next d1.wr ++ [⟨p, s, d1.next⟩]) (by rw [wcells_snoc, List.length_append]; exact hown3) hv4 (keep_fin HK.out.wfin hp HK.out.nxt) (keep_nod HK.out.wfin HK.out.nxt HK.out.nod); obtain ⟨d2, hd2⟩ : ∃ d2 : Dl, d2 = { d1 with wr := keepW p d1.next d1.wr ++ [⟨p, s, d1.next⟩] } := ⟨_, rfl⟩; rw [← hd2] at hst; have HST := hidT hst; have HN2 : Hid (d2.next = d1.next) := (by rw [hd2]; rfl); have HD2 := hidT hd2; clear hown3 hO3 hv4 hst hd2 r1 r2 r3; go_wp2_with fail; refine wp_worldD (fun wM => DStep b d1 a d2 { a with wa := x4, wc := c4 } wK wM ∧ wM.cell? ⟨w.heap.size, 0, none⟩ = some (.pointer (some ⟨b, 0, none⟩))) ⟨HST.out, (by rw [World.cell?_setCell_other _ _ _ _ (fun e => absurd (congrArg Addr.block e) (by simp; omega))]; exact T3.1)⟩ ?_; rintro wM ⟨hM, m1⟩; have m2 := hM.dev.c65; rw [HN2.out] at m2; have m3 := hM.dev.fz 65; have m4 := hM.dev.lt; have m5 := lt_of_cell m1; have hnx := HK.out.nxt; have hw1 : IntKind.i64.wrap ((d1.next : Int) + 1) = (d1.next : Int) + 1 := (by rw [IntKind.wrap_i64]; omega); have hw2 := next_mod d1.next; have hw3 : IntKind.i64.wrap (((d1.next + 1) % 64 : Nat) : Int) = (((d1.next + 1) % 64 : Nat) : Int) := (by rw [IntKind.wrap_i64]; omega); have HM := hidT (write_done HD1.out HD2.out HK.out HO.out hM); clear hM; generalize (d1.next + 1) % 64 = nn at *
    go_region
    go_end0
    exact ⟨_, rfl, HM.out.drewAt⟩
  · intro K hK
    go_simp
    refine hK _ _ (fun _ => HS.out.alloc _) ?_
    (try simp only [Act.put, List.getElem_toArray, List.getElem_cons_succ, List.getElem_cons_zero, List.setIfInBounds_toArray, List.set_cons_zero, List.set_cons_succ])
    clear hK
    refine till_one (i := 6) rfl (by kernel_rfl) ?_
    intro K hK
    refine step_call2 rfl 134 18 19 80 173 rfl eg (.slice a.wa d1.wr.length a.wc) (.func (.func 133) #[] #[.pointer (some ⟨w.heap.size + 1, 0, none⟩), .pointer (some ⟨w.heap.size, 0, none⟩)]) rfl rfl (.slice a.wa (keepW p d1.next d1.wr).length a.wc) (fun w' => w'.ownsRow 0 88 3 (.slice a.wa (keepW p d1.next d1.wr).length a.wc) (keepW p d1.next d1.wr).length (wcells (keepW p d1.next d1.wr)) ∧ Only (rowOf a.wa) _ w') (delW (w.heap.size + 1) w.heap.size b p d1.next d1.wr a.wa a.wc _ (HK.out.later (by repeat (first | with_reducible exact Below.refl _ _ | with_reducible refine balloc ?_ _ | with_reducible refine bdrew ?_ | with_reducible refine bset' ?_ (by omega) _ | with_reducible refine bthen ?_ (by assumption)))).wrow (by omega) HK.out.nod (HHK.out.later (by repeat (first | with_reducible exact Below.refl _ _ | with_reducible refine balloc ?_ _ | with_reducible refine bdrew ?_ | with_reducible refine bset' ?_ (by omega) _ | with_reducible refine bthen ?_ (by assumption)))) (NR.out _ (by omega)) (NR.out _ (by omega)) (NR.out _ (by omega))) ?_; rintro w2 ⟨hown2, hO2⟩; obtain ⟨q1, q2, q3, q4, q5, q6, q7⟩ := kept3 HK.out (by repeat (first | with_reducible exact Below.refl _ _ | with_reducible refine balloc ?_ _ | with_reducible refine bdrew ?_ | with_reducible refine bset' ?_ (by omega) _ | with_reducible refine bthen ?_ (by assumption))) hO2 k1 k2 (NR.out _ (by omega)) (NR.out _ (by omega)) (NR.out _ (by omega)); have HO2 := hidT (⟨hown2, hO2⟩ : _ ∧ _); have T2 : Tri w.heap.size b p d1.next (.slice a.wa d1.wr.length a.wc) w2 := ⟨q1, q2, q4, q3, q5⟩; clear hown2 hO2; refine hK _ _ (fun _ => T2) ?_; (try simp only [Act.put, List.getElem_toArray, List.getElem_cons_succ, List.getElem_cons_zero, List.setIfInBounds_toArray, List.set_cons_zero, List.set_cons_succ]); clear hK
    refine till_one (i := 15) rfl (by kernel_rfl) ?_
    intro K hK
    refine step_push rfl (.tmp 20) (.tmp 28) 80 rfl 0 88 iW _ 3 32 Tryz.underlying80 HI.out.1 HI.out.2.1 HI.out.2.2.1 HI.out.2.2.2 rfl (by decide) (.slice a.wa (keepW p d1.next d1.wr).length a.wc) (keepW p d1.next d1.wr).length (wcells (keepW p d1.next d1.wr)) rfl HO2.out.1 ⟨wK.heap.size, 0, none⟩ 1 1 [.int .i64 p, .string s, .int .i64 d1.next] rfl rfl (by first | exact newRowKept rfl _ _ HO2.out.2 NRK.out | exact newRowKeptD rfl _ _ HO2.out.2 NRK.out) (by simp [Value.oneCell']) (by omega) (by have := HKL.out; unfold maxLen; omega) (by have := HKL.out; omega) (Nat.zero_le _) ?_
    intro v3 w3 hown3 hg3 hv3
    have hO3 : Only (rowOf a.wa) wK w3 := ((Only.of_below (by repeat (first | with_reducible exact Below.refl _ _ | with_reducible refine balloc ?_ _ | with_reducible refine bdrew ?_ | with_reducible refine bset' ?_ (by omega) _ | with_reducible refine bthen ?_ (by assumption)))).trans HO2.out.2 (fun _ e => Or.inl e)).grown hg3 (fun k hk => Or.inl (rowOf_own.1 hk))
    obtain ⟨x3, c3, rfl, -⟩ := slice_of_own hown3; obtain ⟨r1, r2, r3⟩ := kept64 HK.out hO3; have hv4 : ∀ g, (Value.slice x3 ((keepW p d1.next d1.wr).length + 1) c3).ownBlock = some g → rowOf a.wa g ∨ wK.heap.size ≤ g := fun g hg => wroteAt hv3 hg (by have := HO2.out.2.size; simp at this; simp; omega); have T3 : Tri w.heap.size b p d1.next (.slice a.wa d1.wr.length a.wc) w3 := T0.only hO3 (NR.out _ (by omega)) (NR.out _ (by omega)) (NR.out _ (by omega)); have HP3 := hidT (⟨hown3, hO3, hv4⟩ : _ ∧ _ ∧ _); clear hown3 hO3 hv3 hg3 hv4; refine hK _ _ (fun _ => T3) ?_; (try simp only [Act.put, List.getElem_toArray, List.getElem_cons_succ, List.getElem_cons_zero, List.setIfInBounds_toArray, List.set_cons_zero, List.set_cons_succ]); clear hK; refine till_one (i := 16) rfl (by kernel_rfl) ?_; intro K hK; go_simp; refine hK _ _ (fun _ => T3) ?_; (try simp only [Act.put, List.getElem_toArray, List.getElem_cons_succ, List.getElem_cons_zero, List.setIfInBounds_toArray, List.set_cons_zero, List.set_cons_succ]); clear hK; refine till_one (i := 17) rfl (by kernel_rfl) ?_; intro K hK; go_simp; refine hK _ _ (fun _ => T3) ?_; (try simp only [Act.put, List.getElem_toArray, List.getElem_cons_succ, List.getElem_cons_zero, List.setIfInBounds_toArray, List.set_cons_zero, List.set_cons_succ]); clear hK; refine till_one (i := 18) rfl (by kernel_rfl) ?_; intro K hK; go_simp; refine hK _ _ (fun h => absurd rfl h) ?_; (try simp only [Act.put, List.getElem_toArray, List.getElem_cons_succ, List.getElem_cons_zero, List.setIfInBounds_toArray, List.set_cons_zero, List.set_cons_succ]); clear hK; refine till_done (by kernel_rfl) ?_ _
    obtain ⟨hown3, hO3, hv4⟩ := HP3.out; obtain ⟨x4, c4, e4, hst⟩ := HK.out.rewritten hO3 (keepW p d1.next d1.wr ++ [⟨p, s, d1.next⟩]) (by rw [wcells_snoc, List.length_append]; exact hown3) hv4 (keep_fin HK.out.wfin hp HK.out.nxt) (keep_nod HK.out.wfin HK.out.nxt HK.out.nod); obtain ⟨d2, hd2⟩ : ∃ d2 : Dl, d2 = { d1 with wr := keepW p d1.next d1.wr ++ [⟨p, s, d1.next⟩] } := ⟨_, rfl⟩; rw [← hd2] at hst; have HST := hidT hst; have HN2 : Hid (d2.next = d1.next) := (by rw [hd2]; rfl); have HD2 := hidT hd2; clear hown3 hO3 hv4 hst hd2 r1 r2 r3; go_wp2_with fail; refine wp_worldD (fun wM => DStep b d1 a d2 { a with wa := x4, wc := c4 } wK wM ∧ wM.cell? ⟨w.heap.size, 0, none⟩ = some (.pointer (some ⟨b, 0, none⟩))) ⟨HST.out, (by rw [World.cell?_setCell_other _ _ _ _ (fun e => absurd (congrArg Addr.block e) (by simp; omega))]; exact T3.1)⟩ ?_; rintro wM ⟨hM, m1⟩; have m2 := hM.dev.c65; rw [HN2.out] at m2; have m3 := hM.dev.fz 65; have m4 := hM.dev.lt; have m5 := lt_of_cell m1; have hnx := HK.out.nxt; have hw1 : IntKind.i64.wrap ((d1.next : Int) + 1) = (d1.next : Int) + 1 := (by rw [IntKind.wrap_i64]; omega); have hw2 := next_mod d1.next; have hw3 : IntKind.i64.wrap (((d1.next + 1) % 64 : Nat) : Int) = (((d1.next + 1) % 64 : Nat) : Int) := (by rw [IntKind.wrap_i64]; omega); have HM := hidT (write_done HD1.out HD2.out HK.out HO.out hM); clear hM; generalize (d1.next + 1) % 64 = nn at *
    go_region
    go_end0
    exact ⟨_, rfl, HM.out.drewAt⟩
end Go.Proofs.YtgjkdhedkbkagaaGreat
/- A device: do: what a request reads, or writes. -/
namespace Go.Proofs.YtgjkdhedkbkagaaGreat
open Go.RowKit Go.BigFrame
set_option maxRecDepth 100000
attribute [local go_sem] Later.cell Later.frozen

theorem Good.bndD {r : Rq} (h : Good r) : 0 ≤ r.f ∧ r.f ≤ 31 ∧ 1 ≤ r.m ∧ r.m ≤ 4 ∧ r.m ≤ 32 - r.f := by
  have := h.ok
  simp only [okB, decide_eq_true_eq] at this
  omega
theorem strs_of_ownedD {w : World} {base e n : Nat} {v : Value} {xs : List ByteArray} (h : w.ownsRow base e 1 v n (strV xs)) (hn : n = xs.length) : ∃ a c, v = .slice a xs.length c ∧ StrsAt w a xs ∧ (a = none → c = 0) ∧ ∀ ad, a = some ad → base ≤ ad.block := by
  subst hn
  rcases h.2 with ⟨rfl, h0⟩ | ⟨g, cap, cur, rfl, hg, hh, hnc, hcm, hcs, ht⟩
  · obtain rfl := List.eq_nil_of_length_eq_zero h0
    exact ⟨none, 0, rfl, Or.inl rfl, fun _ => rfl, by simp⟩
  · refine ⟨_, cap, rfl, Or.inr ⟨g, 0, rfl, fun i hi => ?_⟩, by simp, fun ad e => ?_⟩
    · have hc := h.cellAt i (by omega)
      rw [Nat.zero_add, hc]
      simp [strV, List.getElem?_eq_getElem hi]
    · simp only [Option.some.injEq] at e; subst e; exact hg
/-- What has been read, so far. -/
def readTo (d : Dl) (f n : Nat) : List ByteArray := (List.range n).map fun j => d.now.getD (f + j) ByteArray.empty
theorem readTo_succ (d : Dl) (f n : Nat) : readTo d f (n + 1) = readTo d f n ++ [d.now.getD (f + n) ByteArray.empty] := by simp [readTo, List.range_succ]
theorem readTo_length (d : Dl) (f n : Nat) : (readTo d f n).length = n := by simp [readTo]
theorem has_in (r : Rq) (gr : Good r) (k : Nat) (hk : k < 32) : hasB r.f r.m k = decide (r.f.toNat ≤ k ∧ k < r.f.toNat + r.m.toNat) := by
  have := gr.bndD
  rw [hasB_ok r.f r.m 4 k gr.ok (by omega), inSpan]
  congr 1
  simp only [eq_iff_iff]
  omega
/-- How many sectors of the span lie below k. -/
def below (f m k : Nat) : Nat := min (k - f) m
theorem below_in {f m k : Nat} (h1 : f ≤ k) (h2 : k < f + m) : below f m (k + 1) = below f m k + 1 ∧ f + below f m k = k := by unfold below; omega
theorem below_out {f m k : Nat} (h : ¬ (f ≤ k ∧ k < f + m)) : below f m (k + 1) = below f m k := by unfold below; omega
theorem below_all {f m : Nat} (h : f + m ≤ 32) : below f m 32 = m := by unfold below; omega

set_option maxRecDepth 100000 in
set_option maxHeartbeats 2000000 in
theorem do_read (b : Nat) (d : Dl) (a : An) (r : Rq) (w : World) (h : DevAt b d a w) (gr : Good r) (hw : r.wr = false) :
    Calls Tryz.prog 108 #[.pointer (some ⟨b, 0, none⟩), r.val] w fun e w' => ∃ xa xc, e = .returned (.slice xa (readTo d r.f.toNat r.m.toNat).length xc) ∧ StrsAt w' xa (readTo d r.f.toNat r.m.toNat) ∧ (xa = none → xc = 0) ∧ (∀ ad, xa = some ad → w.heap.size ≤ ad.block) ∧ Below w.heap.size w w' := by
  obtain ⟨iS, hi, hz0, hz1, hz2⟩ := pluck infoS
  have HI := hidT (⟨hi, hz0, hz1, hz2⟩ : Tryz.prog.info? 9 = some iS ∧ _ ∧ _ ∧ _)
  have HB0 := hidT gr.bndD
  have HHAS := hidT (has_in r gr)
  have HD := hidT h
  have hl := h.lt
  clear hi hz0 hz1 hz2 h gr
  obtain ⟨wr0, f, m, da, dc, data, ta, tc, tags, born⟩ := r
  simp only at *
  subst hw
  go_enter Tryz.func108, Tryz.ntmps108
  go_wp2_with fail
  have hB0 := hidT (below1 w (.cells #[.bool false, .int .i64 f, .int .i64 m, .slice da data.length dc, .slice ta tags.length tc, .int .i64 born] 44))
  have hc0 : Hid (∀ wr, Below (w.heap.size + 1) (w.alloc (.cells #[.bool false, .int .i64 f, .int .i64 m, .slice da data.length dc, .slice ta tags.length tc, .int .i64 born] 44)) wr → wr.cell? ⟨w.heap.size, 0, none⟩ = some (.bool false) ∧ wr.cell? ⟨w.heap.size, 1, none⟩ = some (.int .i64 f) ∧ wr.cell? ⟨w.heap.size, 2, none⟩ = some (.int .i64 m)) := fun wr hb =>
    ⟨(hb.cell (p := ⟨w.heap.size, 0, none⟩) (by simp)).trans (by simp), (hb.cell (p := ⟨w.heap.size, 1, none⟩) (by simp)).trans (by simp), (hb.cell (p := ⟨w.heap.size, 2, none⟩) (by simp)).trans (by simp)⟩
  generalize hW1 : w.alloc (.cells #[.bool false, .int .i64 f, .int .i64 m, .slice da data.length dc, .slice ta tags.length tc, .int .i64 born] 44) = w1 at *
  have hs1 : w1.heap.size = w.heap.size + 1 := by rw [← hW1]; simp
  have HS1 := hidT hs1
  clear hW1 hs1
  go_loopw [5, 9] (fun v i wr => ∃ k : Nat, k ≤ 32 ∧ i = .int .i64 k ∧ wr.ownsRow (w.heap.size + 1) 9 1 v (below f.toNat m.toNat k) (strV (readTo d f.toNat (below f.toNat m.toNat k))) ∧ Below (w.heap.size + 1) w1 wr) (fun _ i _ => 32 - (intOf i).toNat)
  case atStart => exact ⟨0, by omega, rfl, by simpa [below, readTo, strV] using World.ownsRow_nil w1 (w.heap.size + 1) 9 1, Below.refl _ _⟩
  case round =>
    obtain ⟨k, hk, rfl, hown, HB⟩ := hrel
    have HOWN := hidT hown
    obtain ⟨c0, c1, c2⟩ := hc0.out wr HB
    have hsz := HB.size
    rw [HS1.out] at hsz
    clear hown
    by_cases hlt : k < 32
    · have hhs := HHAS.out k hlt
      have hlt' : (k : Int) < 32 := by omega
      by_cases hin : f.toNat ≤ k ∧ k < f.toNat + m.toNat
      · rw [decide_eq_true hin] at hhs
        obtain ⟨e1, e2⟩ := below_in hin.1 hin.2
        have HE := hidT (⟨e1, e2⟩ : _ ∧ _)
        have hbm : below f.toNat m.toNat k ≤ 32 := by unfold below; omega
        clear e1 e2 hin
        go_wp2_with fail
        refine (has_eq _ _ _ _ _ hhs).mono ?_
        rintro e w2 ⟨rfl, hb2⟩
        have HB2 := HB.trans (hb2.mono hsz)
        have hown2 := hidT (own_frame HOWN.out (fun g hg => hb2.block g (HOWN.out.lt g hg).2))
        obtain ⟨c0', c1', c2'⟩ := hc0.out w2 HB2
        have hsz2 := HB2.size
        rw [HS1.out] at hsz2
        have hdev : DevAt b d a w2 := HD.out.later (bthen hB0.out (HB2.mono (by rw [HS1.out]; omega)))
        have cn := hdev.cNow k hlt
        have lbb := hdev.lt
        have HBL := hidT hbm
        clear hdev hb2 hhs hbm c0 c1 c2
        generalize hs : d.now.getD k ByteArray.empty = s at *
        have HSS := hidT hs
        clear hs
        go_wp2_with (at_builtin; refine wpList_append_row rfl _ _ 41 rfl (w.heap.size + 1) 9 iS _ 1 16 Tryz.underlying41 HI.out.1 HI.out.2.1 HI.out.2.2.1 HI.out.2.2.2 rfl (by decide) _ (below f.toNat m.toNat k) (strV (readTo d f.toNat (below f.toNat m.toNat k))) rfl (hown2.out.alloc _) (some ⟨w2.heap.size, 0, none⟩) 1 1 [.string s] rfl ⟨rfl, by simp [Value.oneCell'], Or.inr ⟨_, rfl, fun j u hj => newRowAt rfl _ _ j u hj⟩⟩ (by have := HBL.out; unfold maxLen; omega) (by have := HBL.out; omega) (by simp; omega) ?_; intro v3 w3 hown3 hb3)
        go_roundw
        case rel =>
          refine ⟨k + 1, by omega, by go_num, ?_, HB2.trans (((Below.refl _ _).alloc (by omega) _).trans hb3)⟩
          rw [HE.out.1, readTo_succ, HE.out.2, HSS.out]
          simpa [strV] using hown3
        case measure => simp [intOf]; omega
      · rw [decide_eq_false hin] at hhs
        have HE := hidT (below_out hin)
        clear hin
        go_wp2_with fail
        refine (has_eq _ _ _ _ _ hhs).mono ?_
        rintro e w2 ⟨rfl, hb2⟩
        have HB2 := HB.trans (hb2.mono hsz)
        have hown2 := hidT (own_frame HOWN.out (fun g hg => hb2.block g (HOWN.out.lt g hg).2))
        clear hb2 hhs c0 c1 c2
        go_wp2
        go_roundw
        case rel => exact ⟨k + 1, by omega, by go_num, by rw [HE.out]; exact hown2.out, HB2⟩
        case measure => simp [intOf]; omega
    · have hk32 : k = 32 := by omega
      subst hk32
      obtain ⟨b1, b2, b3, b4, b5⟩ := HB0.out
      have hall : below f.toNat m.toNat 32 = m.toNat := below_all (by omega)
      rw [hall] at HOWN
      obtain ⟨xa, xc, rfl, hst, hnn, had⟩ := strs_of_ownedD HOWN.out (readTo_length _ _ _).symm
      have HST := hidT (⟨hst, hnn, had⟩ : _ ∧ _ ∧ _)
      clear hst hnn had b1 b2 b3 b4 b5 hall
      go_wp2
      go_ret
      exact ⟨xa, xc, rfl, HST.out.1, HST.out.2.1, fun ad e => Nat.le_of_succ_le (HST.out.2.2 ad e), hB0.out.trans (HB.mono (by omega))⟩
end Go.Proofs.YtgjkdhedkbkagaaGreat
