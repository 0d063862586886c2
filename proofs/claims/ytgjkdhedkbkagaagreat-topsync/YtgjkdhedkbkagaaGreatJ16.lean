/- leastUsed, Pick, Clean. -/
import Derived.Test.YtgjkdhedkbkagaaGreatJ15
import Derived.Test.YtgjkdhedkbkagaaGreatJ1
import Derived.Deep.RegionLaw
import Derived.Lib.Overlaps
import Derived.Lib.AppendZeros
namespace Go.Proofs.YtgjkdhedkbkagaaGreat
open Go.RowKit Go.BigFrame
set_option maxRecDepth 100000
attribute [local go_sem] Later.cell Later.frozen

theorem run_eql_func_nil {P : Program} (w : World) (t : TypeId) (ps rs : Array TypeId) (vd : Bool) (f : Fn) (x c : Array Value) (h : P.underlying t = some (.func ps rs vd)) :
    (binOp .eql t (.func f x c) .nilFunc).run P w = .ok (.bool false) w := by
  have h1 : ∀ d, (Op.equalIn (d + 1) t (.func f x c) .nilFunc).run P w = .ok false w := fun d => by simp [Op.equalIn, run_underlying h]
  simp only [binOp]
  simp [Op.equal, Op.maxDepth, h1 9999]

def fitB (d : Bool) (H : Int → Bool) (x : Bf) : Bool := (x.dirty == d) && !H x.pl

set_option maxRecDepth 100000 in
set_option maxHeartbeats 1000000 in
theorem fitU_any (x : Bf) (d : Bool) (gh : Nat) (egh : ∀ args w, (callFunc gh args).run Tryz.prog w = .ok (.enter gh args) w) (hc : Array Value) (H : Int → Bool) (b1 o1 b2 o2 : Nat) (w : World)
    (h1 : w.cell? ⟨b1, o1, none⟩ = some (.bool d)) (h2 : w.cell? ⟨b2, o2, none⟩ = some (.func (.func gh) #[] hc))
    (hh : ∀ w', Below w.heap.size w w' → Calls Tryz.prog gh (#[.int .i64 x.pl] ++ hc) w' fun e w'' => e = .returned (.bool (H x.pl)) ∧ Below w'.heap.size w' w'') :
    Calls Tryz.prog 89 #[x.val, .pointer (some ⟨b1, o1, none⟩), .pointer (some ⟨b2, o2, none⟩)] w fun e w' => e = .returned (.bool (fitB d H x)) ∧ Below w.heap.size w w' := by
  have q51 : ∀ (w : World) (f : Fn) (x c : Array Value), (binOp .eql 62 (.func f x c) .nilFunc).run Tryz.prog w = .ok (.bool false) w := fun w f x c => run_eql_func_nil w _ _ _ _ f x c Tryz.underlying62
  have h1' := allocB_cell h1
  have h2' := allocB_cell h2
  unfold fitB
  cases hd : (x.dirty == d)
  · clear hh
    go_enter Tryz.func89, Tryz.ntmps89
    go_wp2
    go_ret
    exact ⟨rfl, by repeat (first | with_reducible exact Below.refl _ _ | with_reducible refine balloc ?_ _ | with_reducible refine bdrew ?_ | with_reducible refine bset' ?_ (by omega) _ | with_reducible refine bthen ?_ (by assumption))⟩
  · have hq := hh (w.alloc (.cells #[.int .i64 x.pl, .string x.data, .bool x.dirty, .int .i64 x.used] 93)) (below1 _ _)
    clear hh
    cases hH : H x.pl
    all_goals
      rw [hH] at hq
      have HQ := hidC hq
      clear hq
      go_enter Tryz.func89, Tryz.ntmps89
      go_wp2_with fail
      refine Calls.mono HQ.out ?_
      rintro e w1 ⟨rfl, hb⟩
      go_wp2
      go_ret
      exact ⟨rfl, by repeat (first | with_reducible exact Below.refl _ _ | with_reducible refine balloc ?_ _ | with_reducible refine bdrew ?_ | with_reducible refine bset' ?_ (by omega) _ | with_reducible refine bthen ?_ (by assumption))⟩

set_option maxHeartbeats 1000000 in
theorem leastUsed_any (d : Bool) (gh : Nat) (egh : ∀ args w, (callFunc gh args).run Tryz.prog w = .ok (.enter gh args) w) (hc : Array Value) (H : Int → Bool) (l : List Bf) (a : Option Addr) (c : Nat) (w : World) (hl : BufsAt w a l)
    (hh : ∀ n w', Below w.heap.size w w' → Calls Tryz.prog gh (#[.int .i64 n] ++ hc) w' fun e w'' => e = .returned (.bool (H n)) ∧ Below w'.heap.size w' w'') (r : Int) (hr : leastU (fitB d H) l l.length = r) :
    Calls Tryz.prog 67 #[.slice a l.length c, .bool d, .func (.func gh) #[] hc] w fun e w' => e = .returned (.int .i64 r) ∧ Below w.heap.size w w' := by
  subst hr
  have HH := hidC hh
  clear hh
  go_enter Tryz.func67, Tryz.ntmps67
  go_wp2_with fail
  refine (leastB_any (.pointer (some ⟨w.heap.size, 0, none⟩)) (.pointer (some ⟨w.heap.size + 1, 0, none⟩)) (fitB d H) l a c _ (hl.later (below2 _ _ _)) (fun x w' hb => fitU_any x d gh egh hc H w.heap.size 0 (w.heap.size + 1) 0 w' (cellB_later' hb (by simp)) (cellB_later' hb (by simp)) (fun w'' hb' => HH.out x.pl w'' (bthen (bthen (below2 _ _ _) hb) hb')))).mono ?_
  rintro e w1 ⟨rfl, HB⟩
  go_wp2
  go_ret
  exact ⟨rfl, by repeat (first | with_reducible exact Below.refl _ _ | with_reducible refine balloc ?_ _ | with_reducible refine bdrew ?_ | with_reducible refine bset' ?_ (by omega) _ | with_reducible refine bthen ?_ (by assumption))⟩

set_option maxHeartbeats 1000000 in
theorem pick_no (gh : Nat) (egh : ∀ args w, (callFunc gh args).run Tryz.prog w = .ok (.enter gh args) w) (hc : Array Value) (H : Int → Bool) (l : List Bf) (a : Option Addr) (c : Nat) (w : World) (hl : BufsAt w a l)
    (hh : ∀ n w', Below w.heap.size w w' → Calls Tryz.prog gh (#[.int .i64 n] ++ hc) w' fun e w'' => e = .returned (.bool (H n)) ∧ Below w'.heap.size w' w'') (hr : leastU (fitB true H) l l.length = -1) :
    Calls Tryz.prog 50 #[.slice a l.length c, .func (.func gh) #[] hc] w fun e w' => e = .returned (.int .i64 (-1)) ∧ Below w.heap.size w w' := by
  have HH := hidC hh
  have HR := hidC hr
  clear hh hr
  go_enter Tryz.func50, Tryz.ntmps50
  go_wp2_with fail
  refine (leastUsed_any true gh egh hc H l a c _ hl HH.out _ HR.out).mono ?_
  rintro e w1 ⟨rfl, HB⟩
  go_wp2
  go_ret
  exact ⟨rfl, by repeat (first | with_reducible exact Below.refl _ _ | with_reducible refine balloc ?_ _ | with_reducible refine bdrew ?_ | with_reducible refine bset' ?_ (by omega) _ | with_reducible refine bthen ?_ (by assumption))⟩
set_option maxHeartbeats 1000000 in
theorem pick_yes (gh : Nat) (egh : ∀ args w, (callFunc gh args).run Tryz.prog w = .ok (.enter gh args) w) (hc : Array Value) (H : Int → Bool) (l : List Bf) (a : Option Addr) (c : Nat) (w : World) (hl : BufsAt w a l)
    (hh : ∀ n w', Below w.heap.size w w' → Calls Tryz.prog gh (#[.int .i64 n] ++ hc) w' fun e w'' => e = .returned (.bool (H n)) ∧ Below w'.heap.size w' w'') (k : Nat) (hk : k < l.length) (hr : leastU (fitB true H) l l.length = k) :
    Calls Tryz.prog 50 #[.slice a l.length c, .func (.func gh) #[] hc] w fun e w' => e = .returned (.int .i64 l[k].pl) ∧ Below w.heap.size w w' := by
  have h0 : l ≠ [] := by rintro rfl; exact absurd hk (Nat.not_lt_zero _)
  obtain ⟨b, o, rfl⟩ := hl.form.resolve_left h0
  have hb3 := hl.2
  have HH := hidC hh
  have HR := hidC hr
  clear hh hr h0
  go_enter Tryz.func50, Tryz.ntmps50
  go_wp2_with fail
  refine (leastUsed_any true gh egh hc H l _ c _ hl HH.out _ HR.out).mono ?_
  rintro e w1 ⟨rfl, HB⟩
  obtain ⟨c0, c1, c2, c3⟩ := (hl.later HB).cells hk
  go_wp2
  go_ret
  exact ⟨rfl, by repeat (first | with_reducible exact Below.refl _ _ | with_reducible refine balloc ?_ _ | with_reducible refine bdrew ?_ | with_reducible refine bset' ?_ (by omega) _ | with_reducible refine bthen ?_ (by assumption))⟩

/-! ### Clean -/
theorem strB_ne {s t : ByteArray} (h : ¬ s = t) : (s.toList == t.toList) = false := by
  rw [beq_eq_false_iff_ne]
  intro e
  apply h
  rw [ByteArray.toList_eq, ByteArray.toList_eq] at e
  have e' : s.data = t.data := by rw [← Array.toList_inj]; exact e
  cases s; cases t; simp_all
theorem strB_eq {s t : ByteArray} (h : s = t) : (s.toList == t.toList) = true := by rw [h]; simp

/-- A cell is written: one field of one sector. -/
theorem BufsAt.set {w : World} {b o : Nat} {l : List Bf} (h : BufsAt w (some ⟨b, o, none⟩) l) {k : Nat} (hk : k < l.length) (j : Nat) (hj : j < 4) (x : Bf) (u : Value) (hu : x.cell j = u) (hx : ∀ i, i < 4 → i ≠ j → x.cell i = l[k].cell i) :
    BufsAt (w.setCell ⟨b, o + k * 4 + j, none⟩ u) (some ⟨b, o, none⟩) (l.set k x) := by
  rcases h.1 with rfl | ⟨b', o', ha, hc⟩
  · exact absurd hk (Nat.not_lt_zero _)
  · simp only [Option.some.injEq, Addr.mk.injEq, and_true] at ha
    obtain ⟨rfl, rfl⟩ := ha
    refine ⟨Or.inr ⟨b, o, rfl, fun i hi m hm => ?_⟩, by rw [List.length_set]; exact h.2⟩
    have hi' : i < l.length := by simpa using hi
    by_cases e : i = k
    · subst e
      rw [List.getElem_set_self]
      by_cases e' : m = j
      · subst e'
        rw [hu]
        exact World.cell?_setCell_same _ _ _ (hc i hi' m hm)
      · rw [hx m hm e', World.cell?_setCell_other _ _ _ _ (fun e => by injection e with _ e2 _; omega)]
        exact hc i hi' m hm
    · rw [List.getElem_set_ne (fun h => e h.symm), World.cell?_setCell_other _ _ _ _ (fun e3 => by injection e3 with _ e2 _; omega)]
      exact hc i hi' m hm

/-- What Clean leaves: the sector, if it has just that, isn't dirty. -/
def cleanL (l : List Bf) (at' : Int) (data : ByteArray) : List Bf := l.map fun x => if x.pl = at' ∧ x.data = data then { x with dirty := false } else x
/-- No sector twice. -/
def OnceB (l : List Bf) : Prop := ∀ i j (hi : i < l.length) (hj : j < l.length), l[i].pl = l[j].pl → i = j
theorem clean_no {l : List Bf} {at' : Int} {data : ByteArray} (h : idxB (plB at') l = -1) : cleanL l at' data = l := by
  rcases idx_spec (plB at') l with ⟨_, h1⟩ | ⟨k, hk, e, _⟩
  · apply List.ext_getElem (by simp [cleanL])
    intro i hi h2
    simp only [cleanL, List.getElem_map]
    have := h1 i h2
    simp only [plB, beq_eq_false_iff_ne] at this
    rw [if_neg (fun h => this h.1)]
  · rw [h] at e; omega
theorem clean_other {l : List Bf} {at' : Int} {data : ByteArray} {k : Nat} (hk : k < l.length) (ho : OnceB l) (h : idxB (plB at') l = k) (hd : ¬ l[k].data = data) : cleanL l at' data = l := by
  have hp : l[k].pl = at' := by
    rcases idx_spec (plB at') l with ⟨e, _⟩ | ⟨k', hk', e, h2, _⟩
    · rw [h] at e; omega
    · have : k' = k := by omega
      subst this
      simpa [plB] using h2
  apply List.ext_getElem (by simp [cleanL])
  intro i hi h2
  simp only [cleanL, List.getElem_map]
  by_cases c : l[i].pl = at' ∧ l[i].data = data
  · have := ho i k h2 hk (c.1.trans hp.symm)
    subst this
    exact absurd c.2 hd
  · rw [if_neg c]
theorem clean_yes {l : List Bf} {at' : Int} {data : ByteArray} {k : Nat} (hk : k < l.length) (ho : OnceB l) (h : idxB (plB at') l = k) (hd : l[k].data = data) : cleanL l at' data = l.set k { l[k] with dirty := false } := by
  have hp : l[k].pl = at' := by
    rcases idx_spec (plB at') l with ⟨e, _⟩ | ⟨k', hk', e, h2, _⟩
    · rw [h] at e; omega
    · have : k' = k := by omega
      subst this
      simpa [plB] using h2
  apply List.ext_getElem (by simp [cleanL])
  intro i hi h2
  rw [List.length_set] at h2
  simp only [cleanL, List.getElem_map]
  by_cases e : i = k
  · subst e
    rw [List.getElem_set_self, if_pos ⟨hp, hd⟩]
  · rw [List.getElem_set_ne (fun h => e h.symm), if_neg (fun c => e (ho i k h2 hk (c.1.trans hp.symm)))]

end Go.Proofs.YtgjkdhedkbkagaaGreat
/- slices.Delete of one sector, in place. -/
namespace Go.Proofs.YtgjkdhedkbkagaaGreat
open Go.RowKit Go.BigFrame
set_option maxRecDepth 100000
attribute [local go_sem] Later.cell Later.frozen

theorem zeroB (w : World) : (zeroValue 93).run Tryz.prog w = .ok (.agg #[.int .i64 0, .string ByteArray.empty, .bool false, .int .i64 0]) w := Tryz.zeroValue93 w
theorem sizeB : (Tryz.prog.info? 93).map (·.size) = some 4 := by kernel_rfl

theorem sliceB_from (b n c i : Nat) (w : World) (hlt : i < n) (hce : ¬ c = i + 1) : (Instr.slice 75 (.slice (some ⟨b, 0, none⟩) n c) (some (.int .i64 ((i : Int) + 1))) none none).run Tryz.prog w = .ok (.slice (some ⟨b, (i + 1) * 4, none⟩) (n - (i + 1)) (c - (i + 1))) w := by
  have h1 : (0 : Int) ≤ (i : Int) + 1 := by omega
  have h2 : (i : Int) + 1 ≤ (n : Int) := by omega
  simp [go_sem, h1, h2, hce]
theorem sliceB_to (b n c i : Nat) (w : World) (hlt : i < n) (hcap : n ≤ c) : (Instr.slice 75 (.slice (some ⟨b, 0, none⟩) n c) none (some (.int .i64 (i : Int))) none).run Tryz.prog w = .ok (.slice (some ⟨b, 0, none⟩) i c) w := by
  have h2 : i ≤ c := by omega
  simp [go_sem, h2]
theorem sliceB_end (b n i : Nat) (w : World) (hlt : n = i + 1) : (Instr.slice 75 (.slice (some ⟨b, 0, none⟩) n (i + 1)) (some (.int .i64 ((i : Int) + 1))) none none).run Tryz.prog w = .ok (.slice (some ⟨b, 0, none⟩) 0 0) w := by
  subst hlt
  have h1 : (0 : Int) ≤ (i : Int) + 1 := by omega
  simp [go_sem, h1]
theorem sliceB_cut (b n c i : Nat) (w : World) (hlt : i < n) (hcap : n ≤ c) (hm : c ≤ 9223372036854775807) : (Instr.slice 75 (.slice (some ⟨b, 0, none⟩) (n - 1) c) (some (.int .i64 ((n - 1 : Nat) : Int))) (some (.int .i64 (n : Int))) none).run Tryz.prog w = .ok (.slice (some ⟨b, (n - 1) * 4, none⟩) 1 (c - (n - 1))) w := by
  have h1 : ((n - 1 : Nat) : Int) ≤ (n : Int) := by omega
  have h2 : ¬ c = n - 1 := by omega
  have h3 : n - (n - 1) = 1 := by omega
  simp [go_sem, h1, h2, h3, hcap]

def zs4 : List Value := (Builtin.zeroCells (Value.agg #[.int .i64 0, .string ByteArray.empty, .bool false, .int .i64 0]).cells 1).toList
theorem zs4_length : zs4.length = 4 := by simp [zs4, Builtin.zeroCells, Value.cells]
theorem cell_rowB {w : World} {b : Nat} {cur : List Value} {t : TypeId} (hg : w.heap[b]? = some (.cells cur.toArray t (0, 0))) (o j : Nat) (v : Value) (h : cur[o + j]? = some v) : w.cell? (Addr.add ⟨b, o, none⟩ j) = some v := by
  rw [addB_mk]
  simp [World.cell?, hg, h]

set_option maxRecDepth 100000 in
set_option maxHeartbeats 2000000 in
theorem delB_core (b n c k : Nat) (cur xs : List Value) (base : Nat) (w : World) (hbb : base ≤ b) (hg : w.heap[b]? = some (.cells cur.toArray 93 (0, 0))) (hcl : cur.length = c * 4) (hk : k < n) (hnc : n ≤ c) (hcm : c ≤ 9223372036854775807)
    (hxl : xs.length = (n - (k + 1)) * 4) (hx : ∀ j v, xs[j]? = some v → cur[(k + 1) * 4 + j]? = some v) (h1 : ∀ v ∈ xs, v.oneCell' = true) :
    Calls Tryz.prog 118 #[.slice (some ⟨b, 0, none⟩) n c, .int .i64 k, .int .i64 ((k : Int) + 1)] w fun e w' =>
      e = .returned (.slice (some ⟨b, 0, none⟩) (n - 1) c) ∧ w'.heap[b]? = some (.cells (splice (splice cur (k * 4) xs) ((n - 1) * 4) zs4).toArray 93 (0, 0)) ∧ Below base w w' := by
  have q1 : (k : Int) + 1 ≤ (n : Int) := by omega
  have q2 : (0 : Int) ≤ (k : Int) + 1 := by omega
  have q3 : ¬ ((k : Int) = (k : Int) + 1) := by omega
  have q4 : (k : Int) ≤ (k : Int) + 1 := by omega
  have HC := hidC hcl
  have HX := hidC hx
  have HL := hidC hxl
  have HG := hidC hg
  have H1 := hidC h1
  clear hcl hx hxl hg h1
  have hsl1 := fun w => sliceB_to b n c k w hk hnc
  have hsl3 := fun w => sliceB_cut b n c k w hk hnc hcm
  have hcut : (splice cur (k * 4) xs).length = c * 4 := by rw [length_splice _ _ _ (by rw [HC.out, HL.out]; omega), HC.out]
  have HS := hidC hcut
  clear hcut
  have hn1 : k + (n - (k + 1)) = n - 1 := by omega
  have HN1 := hidC hn1
  clear hn1
  by_cases hce : c = k + 1
  · have hnk : n = k + 1 := by omega
    subst hce
    subst hnk
    clear hsl3
    have hsl3 := fun w => sliceB_cut b (k + 1) (k + 1) k w hk hnc hcm
    simp only [Nat.add_sub_cancel] at hsl3 HS
    rw [show k + 1 - k = 1 by omega] at hsl3
    have hsl2 := fun w => sliceB_end b (k + 1) k w rfl
    obtain rfl : xs = [] := List.eq_nil_of_length_eq_zero (by rw [HL.out]; omega)
    go_enter Tryz.func118, Tryz.ntmps118
    go_wp2_with fail
    go_region_law (refine step_append_sp rfl (.tmp 22) (.tmp 25) 75 rfl 93 4 Tryz.underlying75 sizeB b k (k + 1) (some ⟨b, 0, none⟩) 0 0 (by simp [Act.eval, Act.put]) (by simp [Act.eval, Act.put]) cur 93 [] HG.out rfl (by omega) (fun h => absurd h (Nat.not_lt_zero _)) (by rw [HC.out]; simp; omega) (by simp) base hbb ?_; intro w1 G1 hb1)
    obtain ⟨w2, hcl, G2, hb2⟩ := run_clear_sp (P := Tryz.prog) w1 75 93 0 _ 4 Tryz.underlying75 zeroB rfl (by decide) b (k * 4) 1 1 _ 93 G1.out (by omega) (by have := HS.out; omega) (by omega)
    have HG2 := hidC G2
    have HB2 := hidC (hb2 base hbb)
    clear G2 hb2
    go_wp2
    go_ret
    exact ⟨rfl, HG2.out, ((Below.refl _ _).drew.trans hb1).trans HB2.out⟩
  · have hsl2 := fun w => sliceB_from b n c k w hk hce
    go_enter Tryz.func118, Tryz.ntmps118
    go_wp2_with fail
    go_region_law (refine step_append_sp rfl (.tmp 22) (.tmp 25) 75 rfl 93 4 Tryz.underlying75 sizeB b k c (some ⟨b, (k + 1) * 4, none⟩) (n - (k + 1)) (c - (k + 1)) (by simp [Act.eval, Act.put]) (by simp [Act.eval, Act.put]) cur 93 xs HG.out HL.out (by omega) (fun _ => ⟨_, rfl, fun j v hj => cell_rowB HG.out _ _ _ (HX.out j v hj)⟩) (by rw [HC.out, HL.out]; omega) H1.out base hbb ?_; intro w1 G1 hb1; rw [HN1.out])
    obtain ⟨w2, hcl, G2, hb2⟩ := run_clear_sp (P := Tryz.prog) w1 75 93 0 _ 4 Tryz.underlying75 zeroB rfl (by decide) b ((n - 1) * 4) 1 (c - (n - 1)) _ 93 G1.out (by omega) (by rw [HS.out]; omega) (by omega)
    have HG2 := hidC G2
    have HB2 := hidC (hb2 base hbb)
    clear G2 hb2
    go_wp2
    go_ret
    exact ⟨rfl, HG2.out, ((Below.refl _ _).drew.trans hb1).trans HB2.out⟩

theorem take_spliceB {α : Type} (L cs : List α) (o : Nat) (h : o ≤ L.length) : (splice L o cs).take (o + cs.length) = L.take o ++ cs := by
  have e : (L.take o).length = o := by rw [List.length_take]; omega
  rw [splice, ← List.append_assoc, List.take_append_of_le_length (by rw [List.length_append, e]; exact Nat.le_refl _), List.take_of_length_le (by rw [List.length_append, e]; exact Nat.le_refl _)]
theorem take_splice_leB {α : Type} (L cs : List α) (o m : Nat) (h : o ≤ L.length) (hm : m ≤ o) : (splice L o cs).take m = L.take m := by
  have e : (L.take o).length = o := by rw [List.length_take]; omega
  rw [splice, List.take_append_of_le_length (by rw [e]; exact hm), List.take_take, Nat.min_eq_left hm]
theorem bcells_take (l : List Bf) (k : Nat) : (bcells l).take (k * 4) = bcells (l.take k) := by
  by_cases hk : k ≤ l.length
  · have e := bcells_append (l.take k) (l.drop k)
    rw [List.take_append_drop] at e
    have hl : (bcells (l.take k)).length = k * 4 := by rw [bcells_length, List.length_take, Nat.min_eq_left hk]
    rw [e, List.take_append_of_le_length (by omega), List.take_of_length_le (by omega)]
  · rw [List.take_of_length_le (by rw [bcells_length]; omega), List.take_of_length_le (by omega)]
theorem bcells_drop (l : List Bf) (k j : Nat) : (bcells (l.drop k))[j]? = (bcells l)[k * 4 + j]? := by
  by_cases hk : k ≤ l.length
  · have e := bcells_append (l.take k) (l.drop k)
    rw [List.take_append_drop] at e
    have hl : (bcells (l.take k)).length = k * 4 := by rw [bcells_length, List.length_take, Nat.min_eq_left hk]
    rw [e, List.getElem?_append_right (by omega), hl]
    congr 1; omega
  · rw [List.drop_eq_nil_of_le (by omega), List.getElem?_eq_none (by simp [bcells]), List.getElem?_eq_none (by rw [bcells_length]; omega)]

theorem delB (l : List Bf) (b c k base : Nat) (w : World) (hk : k < l.length) (hN : NewBufs base w (some ⟨b, 0, none⟩) c l) :
    Calls Tryz.prog 118 #[.slice (some ⟨b, 0, none⟩) l.length c, .int .i64 k, .int .i64 ((k : Int) + 1)] w fun e w' =>
      e = .returned (.slice (some ⟨b, 0, none⟩) (l.length - 1) c) ∧ NewBufs base w' (some ⟨b, 0, none⟩) c (l.eraseIdx k) ∧ Below base w w' := by
  have hb := hN.here.2
  rcases hN.own.2 with ⟨h, _⟩ | ⟨g, cap, cur, hv, hg, hh, hnc, hcm, hcs, ht⟩
  · cases h
  · simp only [Value.slice.injEq, Option.some.injEq, Addr.mk.injEq, and_true, true_and] at hv
    obtain ⟨rfl, rfl⟩ := hv
    have hcm' : c ≤ 9223372036854775807 := by unfold maxLen at hcm; omega
    have hcl : cur.toList.length = c * 4 := by rw [Array.length_toList]; exact hcs
    have hxl : (bcells (l.drop (k + 1))).length = (l.length - (k + 1)) * 4 := by rw [bcells_length, List.length_drop]
    refine (delB_core b l.length c k cur.toList (bcells (l.drop (k + 1))) base w hg (by rw [Array.toArray_toList]; exact hh) hcl hk hnc hcm' hxl (fun j v hj => ?_) (bcells_one _)).mono ?_
    · rw [bcells_drop, ← ht, List.getElem?_take] at hj
      split at hj
      · exact hj
      · cases hj
    · rintro e w' ⟨rfl, hrow, hB⟩
      refine ⟨rfl, ?_, hB⟩
      have hel : (l.eraseIdx k).length = l.length - 1 := by rw [List.length_eraseIdx, if_pos hk]
      have hsl : (splice cur.toList (k * 4) (bcells (l.drop (k + 1)))).length = c * 4 := by rw [length_splice _ _ _ (by rw [hcl, hxl]; omega), hcl]
      have ho : w'.ownsRow base 93 4 (.slice (some ⟨b, 0, none⟩) (l.eraseIdx k).length c) (l.eraseIdx k).length (bcells (l.eraseIdx k)) := by
        refine ⟨bcells_length _, Or.inr ⟨b, c, _, rfl, hg, hrow, by omega, hcm, ?_, ?_⟩⟩
        · rw [List.size_toArray, length_splice _ _ _ (by rw [hsl, zs4_length]; omega), hsl]
        · rw [List.toList_toArray, hel, take_splice_leB _ _ _ _ (by rw [hsl]; omega) (Nat.le_refl _), show (l.length - 1) * 4 = k * 4 + (bcells (l.drop (k + 1))).length by rw [hxl]; omega, take_spliceB _ _ _ (by omega), List.eraseIdx_eq_take_drop_succ, bcells_append, ← bcells_take, ← ht, List.take_take, Nat.min_eq_left (by omega)]
      obtain ⟨a', c', hv, hN'⟩ := new_of_owned ho rfl (by omega)
      simp only [Value.slice.injEq, true_and] at hv
      obtain ⟨rfl, rfl⟩ := hv
      exact hN'
end Go.Proofs.YtgjkdhedkbkagaaGreat
/- slices.Insert of one sector. -/
namespace Go.Proofs.YtgjkdhedkbkagaaGreat
open Go.RowKit Go.BigFrame
set_option maxRecDepth 100000
attribute [local go_sem] Later.cell Later.frozen

def bcs (x : Bf) : List Value := [x.cell 0, x.cell 1, x.cell 2, x.cell 3]
theorem bcs_bcells (x : Bf) : bcells [x] = bcs x := rfl

set_option maxRecDepth 100000 in
set_option maxHeartbeats 2000000 in
/-- At the end. -/
theorem insB_end (l : List Bf) (a : Option Addr) (c base vb : Nat) (x : Bf) (tv : TypeId) (w : World) (h8 : l.length ≤ 1000) (hbase : base ≤ w.heap.size) (hN : NewBufs base w a c l) (hv : w.heap[vb]? = some (.cells (bcs x).toArray tv (0, 0))) :
    Calls Tryz.prog 120 #[.slice a l.length c, .int .i64 l.length, .slice (some ⟨vb, 0, none⟩) 1 1] w fun e w' =>
      ∃ a' c', e = .returned (.slice a' (l.length + 1) c') ∧ NewBufs base w' a' c' (l ++ [x]) ∧ Below base w w' := by
  obtain ⟨i, hi, hz0, hz1, hz2⟩ := pluck infoB
  have R : RowAt w 4 (some ⟨vb, 0, none⟩) 1 1 (bcells [x]) := ⟨rfl, bcells_one _, Or.inr ⟨_, rfl, fun j u hj => by rw [bcs_bcells] at hj; exact cell_rowB hv 0 j u (by simpa using hj)⟩⟩
  have HL : Hid (l.length ≤ 1000) := h8
  have HO := hidC hN.own
  have HNil := hidC hN.nil
  have cp := hN.cap
  clear hN hv
  cases a with
  | none =>
    obtain rfl := HNil.out rfl
    have h0 : l.length = 0 := by omega
    obtain rfl := List.eq_nil_of_length_eq_zero h0
    go_enter Tryz.func120, Tryz.ntmps120
    go_wp2_with (at_builtin; refine wpList_append_row rfl _ _ 75 rfl base 93 i _ 4 40 Tryz.underlying75 hi hz0 hz1 hz2 rfl (by decide) _ 0 [] rfl HO.out (some ⟨vb, 0, none⟩) 1 1 (bcells [x]) rfl R (by unfold maxLen; omega) (by omega) hbase ?_; intro v1 w2 hown1 hb1)
    all_goals
      rw [Nat.zero_add, List.nil_append] at hown1
      obtain ⟨a', c', rfl, hN'⟩ := new_of_owned (l := [x]) hown1 rfl (by simp; try omega)
      have HN := hidC hN'
      clear hN'
      go_wp2
      go_ret
      exact ⟨a', c', rfl, HN.out, hb1⟩
  | some ad =>
    go_enter Tryz.func120, Tryz.ntmps120
    go_wp2_with (at_builtin; refine wpList_append_row rfl _ _ 75 rfl base 93 i _ 4 40 Tryz.underlying75 hi hz0 hz1 hz2 rfl (by decide) _ l.length (bcells l) rfl HO.out (some ⟨vb, 0, none⟩) 1 1 (bcells [x]) rfl R (by unfold maxLen; omega) (by omega) hbase ?_; intro v1 w2 hown1 hb1)
    all_goals
      rw [← bcells_append] at hown1
      obtain ⟨a', c', rfl, hN'⟩ := new_of_owned (l := l ++ [x]) hown1 (by simp) (by simp; try omega)
      have e : (l ++ [x]).length = l.length + 1 := by simp
      have HN := hidC hN'
      clear hN'
      rw [e]
      clear e
      go_wp2
      go_ret
      exact ⟨a', c', rfl, HN.out, hb1⟩
end Go.Proofs.YtgjkdhedkbkagaaGreat
/- slices.Insert of one sector, in the midst: in place. -/
namespace Go.Proofs.YtgjkdhedkbkagaaGreat
open Go.RowKit Go.BigFrame
set_option maxRecDepth 100000
attribute [local go_sem] Later.cell Later.frozen

theorem overB (vb b o lb cb : Nat) (w : World) (X cur : List Value) (tv tr : TypeId) (hne : vb ≠ b) (hv : w.heap[vb]? = some (.cells X.toArray tv (0, 0))) (hg : w.heap[b]? = some (.cells cur.toArray tr (0, 0))) (h0 : cur.length ≠ 0) :
    (callFunc 131 #[.slice (some ⟨vb, 0, none⟩) 1 1, .slice (some ⟨b, o, none⟩) lb cb]).run Tryz.prog w = .ok (.value (.bool false)) w := by
  rw [run_callFunc_extern Tryz.func131 (by kernel_rfl) (by kernel_rfl) (by kernel_rfl) (e := Extern.SlicesOverlaps.overlaps #[75, 75] #[4]) (by kernel_rfl),
    Lib.run_overlaps_apart w 75 4 93 Tryz.underlying75 4 Tryz.sizeOf93 ⟨vb, 0, none⟩ ⟨b, o, none⟩ 1 1 lb cb hne tv tr X.length cur.length (by simp [World.shape?, hv]) (by simp [World.shape?, hg]) h0 (by simp [World.frozen?, hv]) (by simp [World.frozen?, hv])]
  rfl

theorem sliceB_more (b n c : Nat) (w : World) (hroom : n + 1 ≤ c) : (Instr.slice 75 (.slice (some ⟨b, 0, none⟩) n c) none (some (.int .i64 ((n : Int) + 1))) none).run Tryz.prog w = .ok (.slice (some ⟨b, 0, none⟩) (n + 1) c) w := by
  have h1 : (0 : Int) ≤ (n : Int) + 1 := by omega
  have h2 : (n : Int) + 1 ≤ (c : Int) := by omega
  have h3 : ((n : Int) + 1).toNat = n + 1 := by omega
  simp [go_sem, h1, h2, h3]
theorem sliceB_at (b n c i : Nat) (w : World) (hlt : i < n) (hcap : n ≤ c) : (Instr.slice 75 (.slice (some ⟨b, 0, none⟩) n c) (some (.int .i64 (i : Int))) none none).run Tryz.prog w = .ok (.slice (some ⟨b, i * 4, none⟩) (n - i) (c - i)) w := by
  have h1 : i ≤ n := by omega
  have h2 : ¬ c = i := by omega
  simp [go_sem, h1, h2]

set_option maxRecDepth 100000 in
set_option maxHeartbeats 2000000 in
theorem insB_shift (b n c i vb : Nat) (cur xs X : List Value) (tv : TypeId) (base : Nat) (w : World) (hbb : base ≤ b) (hne : vb ≠ b) (hg : w.heap[b]? = some (.cells cur.toArray 93 (0, 0))) (hcl : cur.length = c * 4) (hi : i < n) (hroom : n + 1 ≤ c) (hcm : c ≤ 9223372036854775807)
    (hxl : xs.length = (n - i) * 4) (hx : ∀ j v, xs[j]? = some v → cur[i * 4 + j]? = some v) (h1 : ∀ v ∈ xs, v.oneCell' = true) (hv : w.heap[vb]? = some (.cells X.toArray tv (0, 0))) (hXl : X.length = 4) (hX1 : ∀ v ∈ X, v.oneCell' = true) :
    Calls Tryz.prog 120 #[.slice (some ⟨b, 0, none⟩) n c, .int .i64 i, .slice (some ⟨vb, 0, none⟩) 1 1] w fun e w' =>
      e = .returned (.slice (some ⟨b, 0, none⟩) (n + 1) c) ∧ w'.heap[b]? = some (.cells (splice (splice cur ((i + 1) * 4) xs) (i * 4) X).toArray 93 (0, 0)) ∧ Below base w w' := by
  have q1 : ¬ ((i : Int) = (n : Int)) := by omega
  have q2 : ¬ ((c : Int) < (n : Int) + 1) := by omega
  have hwr : IntKind.i64.wrap ((n : Int) + 1) = (n : Int) + 1 := by rw [IntKind.wrap_i64]; omega
  have hwi : IntKind.i64.wrap ((i : Int) + 1) = (i : Int) + 1 := by rw [IntKind.wrap_i64]; omega
  have hov := fun o lb cb => overB vb b o lb cb w X cur tv 93 hne hv hg (by omega)
  have hs1 := fun w => sliceB_more b n c w hroom
  have hs2 := fun w => sliceB_from b (n + 1) c i w (by omega) (by omega)
  have hs3 := fun w => sliceB_at b (n + 1) c i w (by omega) hroom
  have hs4 := fun w => sliceB_at b n c i w hi (by omega)
  have e1 : cur.length = c * 4 ∧ xs.length = (n - i) * 4 ∧ X.length = 4 := ⟨hcl, hxl, hXl⟩
  have HE := hidC e1
  have HX := hidC hx
  have HG := hidC hg
  have H1 := hidC h1
  have HV := hidC hv
  have HX1 := hidC hX1
  have HM : Hid (Nat.min (n + 1 - i) (n + 1 - (i + 1)) = n - i) := (by show Nat.min (n + 1 - i) (n + 1 - (i + 1)) = n - i; simp only [Nat.min_def]; split <;> omega)
  have HM2 : Hid (Nat.min 1 (n + 1 - i) = 1) := (by show Nat.min 1 (n + 1 - i) = 1; simp only [Nat.min_def]; split <;> omega)
  clear e1 hcl hx hxl hg h1 hv hXl hX1
  go_enter Tryz.func120, Tryz.ntmps120
  go_wp2_with fail
  go_region_law (refine step_copy_sp rfl (.tmp 73) (.tmp 76) 75 75 rfl 93 4 Tryz.underlying75 sizeB (some ⟨b, (i + 1) * 4, none⟩) (some ⟨b, i * 4, none⟩) (n + 1 - (i + 1)) (c - (i + 1)) (n + 1 - i) (c - i) (by simp [Act.eval, Act.put]) (by simp [Act.eval, Act.put]) b ((i + 1) * 4) cur 93 xs HG.out (by rw [HE.out.2.1, HM.out]) (fun _ => ⟨rfl, _, rfl, fun j v hj => cell_rowB HG.out _ _ _ (HX.out j v hj)⟩) (by rw [HE.out.1, HE.out.2.1]; omega) H1.out base hbb ?_; intro w1 n1 G1 hb1 K1)
  have HV1 : Hid (w1.heap[vb]? = some (.cells X.toArray tv (0, 0))) := (K1.out vb hne).trans HV.out
  have HS : Hid ((splice cur ((i + 1) * 4) xs).length = c * 4) := (by show _ = _; rw [length_splice _ _ _ (by rw [HE.out.1, HE.out.2.1]; omega), HE.out.1])
  obtain ⟨w2, hcp, G2, hb2, K2⟩ := run_copy_sp (P := Tryz.prog) w1 75 75 3 93 4 (some ⟨b, i * 4, none⟩) (some ⟨vb, 0, none⟩) (n + 1 - i) (c - i) 1 1 b (i * 4) _ 93 X Tryz.underlying75 sizeB G1.out (by rw [HE.out.2.2, HM2.out]) (fun _ => ⟨rfl, _, rfl, fun j v hj => cell_rowB HV1.out _ _ _ (by simpa using hj)⟩) (by rw [HS.out, HE.out.2.2]; omega) HX1.out
  have HG2 := hidC G2
  have HB2 := hidC (hb2 base hbb)
  clear G2 hb2 K2
  go_wp2
  go_ret
  exact ⟨rfl, HG2.out, ((Below.refl _ _).drew.trans hb1).trans HB2.out⟩
end Go.Proofs.YtgjkdhedkbkagaaGreat
/- slices.Insert of one sector, in the midst, where there is no room. -/
namespace Go.Proofs.YtgjkdhedkbkagaaGreat
open Go.RowKit Go.BigFrame
set_option maxRecDepth 100000
attribute [local go_sem] Later.cell Later.frozen

set_option maxRecDepth 100000 in
set_option maxHeartbeats 2000000 in
theorem insB_grow (b n i vb : Nat) (ys xs X : List Value) (tv : TypeId) (w : World) (hi : i < n) (hn : n ≤ 1000)
    (hyl : ys.length = i * 4) (hy : ∀ j v, ys[j]? = some v → w.cell? ⟨b, j, none⟩ = some v) (hlt : b < w.heap.size)
    (hxl : xs.length = (n - i) * 4) (hx : ∀ j v, xs[j]? = some v → w.cell? ⟨b, i * 4 + j, none⟩ = some v) (h1 : ∀ v ∈ xs, v.oneCell' = true) (hv : w.heap[vb]? = some (.cells X.toArray tv (0, 0))) (hvl : vb < w.heap.size) (hXl : X.length = 4) (hX1 : ∀ v ∈ X, v.oneCell' = true) :
    Calls Tryz.prog 120 #[.slice (some ⟨b, 0, none⟩) n n, .int .i64 i, .slice (some ⟨vb, 0, none⟩) 1 1] w fun e w' =>
      ∃ G ROW, e = .returned (.slice (some ⟨w.heap.size, 0, none⟩) (n + 1) G) ∧ n + 1 ≤ G ∧ G ≤ maxLen ∧ ROW.length = G * 4 ∧ ROW.take (i * 4) = ys ∧ w'.heap[w.heap.size]? = some (.cells (splice (splice ROW (i * 4) X) ((i + 1) * 4) xs).toArray 93 (0, 0)) ∧ Below w.heap.size w w' := by
  have q1 : ¬ ((i : Int) = (n : Int)) := by omega
  have q2 : ((n : Int) < (n : Int) + 1) := by omega
  have hwr : IntKind.i64.wrap ((n : Int) + 1) = (n : Int) + 1 := by rw [IntKind.wrap_i64]; omega
  have hwi : IntKind.i64.wrap ((i : Int) + 1) = (i : Int) + 1 := by rw [IntKind.wrap_i64]; omega
  have hws : IntKind.i64.wrap ((n : Int) + 1 - (i : Int)) = (n : Int) + 1 - (i : Int) := by rw [IntKind.wrap_i64]; omega
  obtain ⟨i0, hi0, hz0, hzs, hzb⟩ := pluck infoB
  have hold : (Builtin.firstCells i0.size i (.slice (some ⟨b, 0, none⟩) i n)).run Tryz.prog w.drew = .ok ys.toArray w.drew := by
    rw [hzs]
    exact run_firstCells_some w.drew 4 i ⟨b, 0, none⟩ i n ys (by omega) (fun j v hj => by rw [addB_mk, Nat.zero_add]; exact hy j v hj)
  have hik : i + (n + 1 - i) = n + 1 := by omega
  have hkk : (n : Int) + 1 - (i : Int) = ((n + 1 - i : Nat) : Int) := by omega
  obtain ⟨G, hG⟩ : ∃ G, G = grownCap w (n + 1) n 93 := ⟨_, rfl⟩
  obtain ⟨ROW, hROW⟩ : ∃ ROW : List Value, ROW = (ys.toArray ++ (Builtin.zeroCells (Value.agg #[.int .i64 0, .string ByteArray.empty, .bool false, .int .i64 0]).cells (n + 1 - i)) ++ (Builtin.zeroCells (Value.agg #[.int .i64 0, .string ByteArray.empty, .bool false, .int .i64 0]).cells (G - (n + 1)))).toList := ⟨_, rfl⟩
  have hrz : ∀ ty, (Builtin.append_ #[75, 3] ty #[.slice (some ⟨b, 0, none⟩) i n, .int .i64 ((n : Int) + 1 - (i : Int))]).run Tryz.prog w =
      .ok (.slice (some ⟨w.heap.size, 0, none⟩) (n + 1) G) (w.drew.alloc (.cells ROW.toArray 93)) := fun ty => by
    have h := Lib.run_append_grow_zeros w 75 3 ty 93 i0 _ .i64 .i64 Tryz.underlying75 Tryz.underlying3 hi0 hz0 (some ⟨b, 0, none⟩) i n ys hold (n + 1 - i) (by omega) (by omega) (by omega) (by omega) (by rw [hzb]; omega) (by rw [hzb, hik]; exact growslice_fits (by omega) (by omega))
    rw [hik, ← hG] at h
    rw [hkk, h, hROW, Array.toArray_toList]
  have hge : n + 1 ≤ G := by rw [hG]; exact grownCap_ge w _ _ _
  have hGm : G ≤ maxLen := by rw [hG]; exact grownCap_le_maxLen w (n + 1) n _ (by unfold maxLen; omega)
  have hG63 : G ≤ 9223372036854775807 := by unfold maxLen at hGm; omega
  have hRl : ROW.length = G * 4 := by
    rw [hROW]
    simp only [Array.size_append, Array.length_toList, size_zeroCells, List.size_toArray, hyl]
    simp [Value.cells]
    omega
  have hRt : ROW.take (i * 4) = ys := by rw [hROW, Array.toList_append, Array.toList_append, List.toList_toArray, List.append_assoc, List.take_append_of_le_length (by omega), List.take_of_length_le (by omega)]
  clear hROW hold hG hkk hik
  obtain ⟨W1, hW1⟩ : ∃ W1, W1 = w.drew.alloc (.cells ROW.toArray 93) := ⟨_, rfl⟩
  rw [← hW1] at hrz
  have g1 : W1.heap[w.heap.size]? = some (.cells ROW.toArray 93 (0, 0)) := by rw [hW1]; exact heap_alloc_new w.drew _
  have b1 : Below w.heap.size w W1 := by rw [hW1]; exact ((Below.refl _ _).drew).alloc (Nat.le_refl _) _
  have o1 : ∀ k, k < w.heap.size → W1.heap[k]? = w.heap[k]? := fun k hk => by rw [hW1]; exact Below.heap_alloc w.drew _ k hk
  have z1 : W1.heap.size = w.heap.size + 1 := by rw [hW1]; simp
  have e1 : ROW.length = G * 4 ∧ xs.length = (n - i) * 4 ∧ X.length = 4 := ⟨hRl, hxl, hXl⟩
  clear hW1
  have hM2 : Nat.min 1 (n + 1 - i) = 1 := by simp only [Nat.min_def]; split <;> omega
  have hM : Nat.min (n - i) (n + 1 - (i + 1)) = n - i := by simp only [Nat.min_def]; split <;> omega
  have hv1 : W1.heap[vb]? = some (.cells X.toArray tv (0, 0)) := (o1 vb hvl).trans hv
  obtain ⟨W2, hc1, g2, bb2, o2⟩ := run_copy_sp (P := Tryz.prog) W1 75 75 3 93 4 (some ⟨w.heap.size, i * 4, none⟩) (some ⟨vb, 0, none⟩) (n + 1 - i) (G - i) 1 1 w.heap.size (i * 4) _ 93 X Tryz.underlying75 sizeB g1 (by rw [hM2, hXl]) (fun _ => ⟨rfl, _, rfl, fun j v hj => cell_rowB hv1 _ _ _ (by simpa using hj)⟩) (by rw [hRl, hXl]; omega) hX1
  have s2 : (splice ROW (i * 4) X).length = G * 4 := by rw [length_splice _ _ _ (by rw [hRl, hXl]; omega), hRl]
  have src : ∀ j v, xs[j]? = some v → W2.cell? (Addr.add ⟨b, i * 4, none⟩ j) = some v := fun j v hj => by
    rw [addB_mk]
    have := hx j v hj
    simp only [World.cell?] at this ⊢
    rw [o2 b (by omega), o1 b hlt]
    exact this
  have HE := hidC e1
  have HS := hidC src
  have HG2 := hidC g2
  have H1 := hidC h1
  have HT := hidC hRt
  have HB := hidC (b1.trans (bb2 w.heap.size (Nat.le_refl _)))
  have HL2 := hidC s2
  have HM := hidC hM
  have hs1 := fun w' => sliceB_to b n n i w' hi (Nat.le_refl _)
  have hs2 := fun w' => sliceB_at w.heap.size (n + 1) G i w' (by omega) hge
  have hs3 := fun w' => sliceB_from w.heap.size (n + 1) G i w' (by omega) (by omega)
  have hs4 := fun w' => sliceB_at b n n i w' hi (Nat.le_refl _)
  have hcp1 := hc1
  clear hc1 e1 src g2 h1 hRt b1 bb2 s2 hM o1 o2 z1 hRl hxl hXl hx hy hyl hv hv1 g1 hX1 hM2 hG63
  go_enter Tryz.func120, Tryz.ntmps120
  go_wp2_with (at_builtin; refine Lib.wpList_append_run _ rfl _ _ _ _ rfl _ _ rfl rfl _ _ (hrz _) ?_)
  go_region_law (refine step_copy_sp rfl (.tmp 50) (.tmp 53) 75 75 rfl 93 4 Tryz.underlying75 sizeB (some ⟨w.heap.size, (i + 1) * 4, none⟩) (some ⟨b, i * 4, none⟩) (n + 1 - (i + 1)) (G - (i + 1)) (n - i) (n - i) (by simp [Act.eval, Act.put]) (by simp [Act.eval, Act.put]) w.heap.size ((i + 1) * 4) (splice ROW (i * 4) X) 93 xs HG2.out (by rw [HE.out.2.1, HM.out]) (fun _ => ⟨rfl, _, rfl, HS.out⟩) (by rw [HL2.out, HE.out.2.1]; omega) H1.out w.heap.size (Nat.le_refl _) ?_; intro w3 n3 G3 hb3 K3)
  go_wp2
  go_ret
  exact ⟨G, ROW, rfl, hge, hGm, HE.out.1, HT.out, G3.out, (HB.out.drew).trans hb3⟩

theorem insB (l : List Bf) (a : Option Addr) (c base vb i : Nat) (x : Bf) (tv : TypeId) (w : World) (hi : i ≤ l.length) (h8 : l.length ≤ 1000) (hbase : base ≤ w.heap.size) (hN : NewBufs base w a c l) (hv : w.heap[vb]? = some (.cells (bcs x).toArray tv (0, 0)))
    (hne : ∀ b, a = some ⟨b, 0, none⟩ → vb ≠ b) :
    Calls Tryz.prog 120 #[.slice a l.length c, .int .i64 i, .slice (some ⟨vb, 0, none⟩) 1 1] w fun e w' =>
      ∃ a' c', e = .returned (.slice a' (l.length + 1) c') ∧ NewBufs base w' a' c' (l.take i ++ x :: l.drop i) ∧ Below base w w' := by
  have hvl : vb < w.heap.size := by
    rcases Nat.lt_or_ge vb w.heap.size with h' | h'
    · exact h'
    · rw [Array.getElem?_eq_none h'] at hv; cases hv
  by_cases hin : i = l.length
  · subst hin
    rw [List.take_length, List.drop_length]
    exact insB_end l a c base vb x tv w h8 hbase hN hv
  · have hlt : i < l.length := by omega
    have h0 : l ≠ [] := by rintro rfl; exact absurd hlt (Nat.not_lt_zero _)
    obtain ⟨b, rfl, hbb, hblt, hfz⟩ := hN.place h0
    have hne := hne b rfl
    have hnl : (l.take i ++ x :: l.drop i).length = l.length + 1 := by simp; omega
    have hcells : bcells (l.take i ++ x :: l.drop i) = bcells (l.take i) ++ bcs x ++ bcells (l.drop i) := by
      rw [show l.take i ++ x :: l.drop i = l.take i ++ [x] ++ l.drop i by simp, bcells_append, bcells_append, bcs_bcells]
    have hdl : (bcells (l.drop i)).length = (l.length - i) * 4 := by rw [bcells_length, List.length_drop]
    have hX1 : ∀ v ∈ bcs x, v.oneCell' = true := by rw [← bcs_bcells]; exact bcells_one _
    rcases hN.own.2 with ⟨h, _⟩ | ⟨g, cap, cur, hvv, hg, hh, hnc, hcm, hcs, ht⟩
    · cases h
    · simp only [Value.slice.injEq, Option.some.injEq, Addr.mk.injEq, and_true, true_and] at hvv
      obtain ⟨rfl, rfl⟩ := hvv
      have hcm' : c ≤ 9223372036854775807 := by unfold maxLen at hcm; omega
      have hcl : cur.toList.length = c * 4 := by rw [Array.length_toList]; exact hcs
      have hh' : w.heap[b]? = some (.cells cur.toList.toArray 93 (0, 0)) := by rw [Array.toArray_toList]; exact hh
      have hxs : ∀ j v, (bcells (l.drop i))[j]? = some v → cur.toList[i * 4 + j]? = some v := fun j v hj => by
        rw [bcells_drop, ← ht, List.getElem?_take] at hj
        split at hj
        · exact hj
        · cases hj
      have hys : (bcells (l.take i)) = cur.toList.take (i * 4) := by rw [← bcells_take, ← ht, List.take_take, Nat.min_eq_left (by omega)]
      by_cases hroom : l.length + 1 ≤ c
      · refine (insB_shift b l.length c i vb cur.toList (bcells (l.drop i)) (bcs x) tv base w hg hne hh' hcl hlt hroom hcm' hdl hxs (bcells_one _) hv rfl hX1).mono ?_
        rintro e w' ⟨rfl, hrow, hB⟩
        have hsl : (splice cur.toList ((i + 1) * 4) (bcells (l.drop i))).length = c * 4 := by rw [length_splice _ _ _ (by rw [hcl, hdl]; omega), hcl]
        have hX4 : (bcs x).length = 4 := rfl
        have ho : w'.ownsRow base 93 4 (.slice (some ⟨b, 0, none⟩) (l.take i ++ x :: l.drop i).length c) (l.take i ++ x :: l.drop i).length (bcells (l.take i ++ x :: l.drop i)) := by
          refine ⟨bcells_length _, Or.inr ⟨b, c, _, rfl, hg, hrow, by omega, hcm, ?_, ?_⟩⟩
          · rw [List.size_toArray, length_splice _ _ _ (by rw [hsl, hX4]; omega), hsl]
          · rw [List.toList_toArray, hnl, hcells]
            have e1 : (splice (splice cur.toList ((i + 1) * 4) (bcells (l.drop i))) (i * 4) (bcs x)) = cur.toList.take (i * 4) ++ (bcs x ++ (splice cur.toList ((i + 1) * 4) (bcells (l.drop i))).drop ((i + 1) * 4)) := by
              rw [splice, take_splice_leB _ _ _ _ (by omega) (by omega), hX4, show i * 4 + 4 = (i + 1) * 4 by omega]
            have e2 : (splice cur.toList ((i + 1) * 4) (bcells (l.drop i))).drop ((i + 1) * 4) = bcells (l.drop i) ++ cur.toList.drop ((i + 1) * 4 + (bcells (l.drop i)).length) := by
              rw [splice, List.drop_append_of_le_length (by rw [List.length_take]; omega), List.drop_eq_nil_of_le (by rw [List.length_take]; omega), List.nil_append]
            rw [e1, e2, ← hys, ← List.append_assoc, ← List.append_assoc, List.take_append_of_le_length (by simp only [List.length_append, hX4, hdl, bcells_length, List.length_take]; omega), List.take_of_length_le (by simp only [List.length_append, hX4, hdl, bcells_length, List.length_take]; omega)]
        obtain ⟨a', c', hv', hN'⟩ := new_of_owned ho rfl (by omega)
        simp only [Value.slice.injEq, true_and] at hv'
        obtain ⟨rfl, rfl⟩ := hv'
        exact ⟨_, _, rfl, hN', hB⟩
      · obtain rfl : c = l.length := by omega
        refine (insB_grow b l.length i vb (bcells (l.take i)) (bcells (l.drop i)) (bcs x) tv w hlt h8 (by rw [bcells_length, List.length_take]; omega) (fun j v hj => ?_) hblt hdl (fun j v hj => ?_) (bcells_one _) hv hvl rfl hX1).mono ?_
        · have := cell_rowB hh' 0 j v (by
            rw [hys, List.getElem?_take] at hj
            split at hj
            · simpa using hj
            · cases hj)
          rw [addB_mk, Nat.zero_add] at this
          exact this
        · have := cell_rowB hh' (i * 4) j v (hxs j v hj)
          rw [addB_mk] at this
          exact this
        · rintro e w' ⟨G, ROW, rfl, hge, hGm, hRl, hRt, hrow, hB⟩
          have hX4 : (bcs x).length = 4 := rfl
          have hsl : (splice ROW (i * 4) (bcs x)).length = G * 4 := by rw [length_splice _ _ _ (by rw [hRl, hX4]; omega), hRl]
          have ho : w'.ownsRow base 93 4 (.slice (some ⟨w.heap.size, 0, none⟩) (l.take i ++ x :: l.drop i).length G) (l.take i ++ x :: l.drop i).length (bcells (l.take i ++ x :: l.drop i)) := by
            refine ⟨bcells_length _, Or.inr ⟨w.heap.size, G, _, rfl, hbase, hrow, by omega, hGm, ?_, ?_⟩⟩
            · rw [List.size_toArray, length_splice _ _ _ (by rw [hsl, hdl]; omega), hsl]
            · rw [List.toList_toArray, hnl, hcells, show (l.length + 1) * 4 = (i + 1) * 4 + (bcells (l.drop i)).length by rw [hdl]; omega, take_spliceB _ _ _ (by rw [hsl]; omega), show (i + 1) * 4 = i * 4 + (bcs x).length by rw [hX4]; omega, take_spliceB _ _ _ (by rw [hRl]; omega), hRt]
          obtain ⟨a', c', hv', hN'⟩ := new_of_owned ho rfl (by omega)
          simp only [Value.slice.injEq, true_and] at hv'
          obtain ⟨rfl, rfl⟩ := hv'
          refine ⟨_, _, ?_, hN', hB.mono hbase⟩
          rfl
end Go.Proofs.YtgjkdhedkbkagaaGreat
