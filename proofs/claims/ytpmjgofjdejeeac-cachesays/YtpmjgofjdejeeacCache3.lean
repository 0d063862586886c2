/- leastUsed, Pick, Clean. -/
import Derived.Test.YtpmjgofjdejeeacCache2
namespace Go.Proofs.Ytpmjgofjdejeeac
open Go.RowKit Go.BigFrame
attribute [local go_sem] Later.cell Later.frozen

theorem run_eql_func_nil {P : Program} (w : World) (t : TypeId) (ps rs : Array TypeId) (vd : Bool) (f : Fn) (x c : Array Value) (h : P.underlying t = some (.func ps rs vd)) :
    (binOp .eql t (.func f x c) .nilFunc).run P w = .ok (.bool false) w := by
  have h1 : ∀ d, (Op.equalIn (d + 1) t (.func f x c) .nilFunc).run P w = .ok false w := fun d => by simp [Op.equalIn, run_underlying h]
  simp only [binOp]
  simp [Op.equal, Op.maxDepth, h1 9999]

def fitB (d : Bool) (H : Int → Bool) (x : Bf) : Bool := (x.dirty == d) && !H x.pl

set_option maxRecDepth 100000 in
set_option maxHeartbeats 1000000 in
theorem fitU_any (x : Bf) (d : Bool) (gh : Nat) (egh : ∀ args w, (callFunc gh args).run Try.prog w = .ok (.enter gh args) w) (hc : Array Value) (H : Int → Bool) (b1 o1 b2 o2 : Nat) (w : World)
    (h1 : w.cell? ⟨b1, o1, none⟩ = some (.bool d)) (h2 : w.cell? ⟨b2, o2, none⟩ = some (.func (.func gh) #[] hc))
    (hh : ∀ w', Below w.heap.size w w' → Calls Try.prog gh (#[.int .i64 x.pl] ++ hc) w' fun e w'' => e = .returned (.bool (H x.pl)) ∧ Below w'.heap.size w' w'') :
    Calls Try.prog 79 #[x.val, .pointer (some ⟨b1, o1, none⟩), .pointer (some ⟨b2, o2, none⟩)] w fun e w' => e = .returned (.bool (fitB d H x)) ∧ Below w.heap.size w w' := by
  have q51 : ∀ (w : World) (f : Fn) (x c : Array Value), (binOp .eql 75 (.func f x c) .nilFunc).run Try.prog w = .ok (.bool false) w := fun w f x c => run_eql_func_nil w _ _ _ _ f x c Try.underlying75
  have h1' := allocB_cell h1
  have h2' := allocB_cell h2
  unfold fitB
  cases hd : (x.dirty == d)
  · clear hh
    go_enter Try.func79, Try.ntmps79
    go_wp2
    go_ret
    exact ⟨rfl, by repeat (first | with_reducible exact Below.refl _ _ | with_reducible refine balloc ?_ _ | with_reducible refine bdrew ?_ | with_reducible refine bset' ?_ (by omega) _ | with_reducible refine bthen ?_ (by assumption))⟩
  · have hq := hh (w.alloc (.cells #[.int .i64 x.pl, .string x.data, .bool x.dirty, .int .i64 x.used] 72)) (below1 _ _)
    clear hh
    cases hH : H x.pl
    all_goals
      rw [hH] at hq
      have HQ := hidB hq
      clear hq
      go_enter Try.func79, Try.ntmps79
      go_wp2_with fail
      refine Calls.mono HQ.out ?_
      rintro e w1 ⟨rfl, hb⟩
      go_wp2
      go_ret
      exact ⟨rfl, by repeat (first | with_reducible exact Below.refl _ _ | with_reducible refine balloc ?_ _ | with_reducible refine bdrew ?_ | with_reducible refine bset' ?_ (by omega) _ | with_reducible refine bthen ?_ (by assumption))⟩

set_option maxHeartbeats 1000000 in
theorem leastUsed_any (d : Bool) (gh : Nat) (egh : ∀ args w, (callFunc gh args).run Try.prog w = .ok (.enter gh args) w) (hc : Array Value) (H : Int → Bool) (l : List Bf) (a : Option Addr) (c : Nat) (w : World) (hl : BufsAt w a l)
    (hh : ∀ n w', Below w.heap.size w w' → Calls Try.prog gh (#[.int .i64 n] ++ hc) w' fun e w'' => e = .returned (.bool (H n)) ∧ Below w'.heap.size w' w'') (r : Int) (hr : leastU (fitB d H) l l.length = r) :
    Calls Try.prog 66 #[.slice a l.length c, .bool d, .func (.func gh) #[] hc] w fun e w' => e = .returned (.int .i64 r) ∧ Below w.heap.size w w' := by
  subst hr
  have HH := hidB hh
  clear hh
  go_enter Try.func66, Try.ntmps66
  go_wp2_with fail
  refine (leastB_any (.pointer (some ⟨w.heap.size, 0, none⟩)) (.pointer (some ⟨w.heap.size + 1, 0, none⟩)) (fitB d H) l a c _ (hl.later (below2 _ _ _)) (fun x w' hb => fitU_any x d gh egh hc H w.heap.size 0 (w.heap.size + 1) 0 w' (cellB_later' hb (by simp)) (cellB_later' hb (by simp)) (fun w'' hb' => HH.out x.pl w'' (bthen (bthen (below2 _ _ _) hb) hb')))).mono ?_
  rintro e w1 ⟨rfl, HB⟩
  go_wp2
  go_ret
  exact ⟨rfl, by repeat (first | with_reducible exact Below.refl _ _ | with_reducible refine balloc ?_ _ | with_reducible refine bdrew ?_ | with_reducible refine bset' ?_ (by omega) _ | with_reducible refine bthen ?_ (by assumption))⟩

set_option maxHeartbeats 1000000 in
theorem pick_no (gh : Nat) (egh : ∀ args w, (callFunc gh args).run Try.prog w = .ok (.enter gh args) w) (hc : Array Value) (H : Int → Bool) (l : List Bf) (a : Option Addr) (c : Nat) (w : World) (hl : BufsAt w a l)
    (hh : ∀ n w', Below w.heap.size w w' → Calls Try.prog gh (#[.int .i64 n] ++ hc) w' fun e w'' => e = .returned (.bool (H n)) ∧ Below w'.heap.size w' w'') (hr : leastU (fitB true H) l l.length = -1) :
    Calls Try.prog 46 #[.slice a l.length c, .func (.func gh) #[] hc] w fun e w' => e = .returned (.int .i64 (-1)) ∧ Below w.heap.size w w' := by
  have HH := hidB hh
  have HR := hidB hr
  clear hh hr
  go_enter Try.func46, Try.ntmps46
  go_wp2_with fail
  refine (leastUsed_any true gh egh hc H l a c _ hl HH.out _ HR.out).mono ?_
  rintro e w1 ⟨rfl, HB⟩
  go_wp2
  go_ret
  exact ⟨rfl, by repeat (first | with_reducible exact Below.refl _ _ | with_reducible refine balloc ?_ _ | with_reducible refine bdrew ?_ | with_reducible refine bset' ?_ (by omega) _ | with_reducible refine bthen ?_ (by assumption))⟩
set_option maxHeartbeats 1000000 in
theorem pick_yes (gh : Nat) (egh : ∀ args w, (callFunc gh args).run Try.prog w = .ok (.enter gh args) w) (hc : Array Value) (H : Int → Bool) (l : List Bf) (a : Option Addr) (c : Nat) (w : World) (hl : BufsAt w a l)
    (hh : ∀ n w', Below w.heap.size w w' → Calls Try.prog gh (#[.int .i64 n] ++ hc) w' fun e w'' => e = .returned (.bool (H n)) ∧ Below w'.heap.size w' w'') (k : Nat) (hk : k < l.length) (hr : leastU (fitB true H) l l.length = k) :
    Calls Try.prog 46 #[.slice a l.length c, .func (.func gh) #[] hc] w fun e w' => e = .returned (.int .i64 l[k].pl) ∧ Below w.heap.size w w' := by
  have h0 : l ≠ [] := by rintro rfl; exact absurd hk (Nat.not_lt_zero _)
  obtain ⟨b, o, rfl⟩ := hl.form.resolve_left h0
  have hb3 := hl.2
  have HH := hidB hh
  have HR := hidB hr
  clear hh hr h0
  go_enter Try.func46, Try.ntmps46
  go_wp2_with fail
  refine (leastUsed_any true gh egh hc H l _ c _ hl HH.out _ HR.out).mono ?_
  rintro e w1 ⟨rfl, HB⟩
  obtain ⟨c0, c1, c2, c3⟩ := (hl.later HB).cells hk
  go_wp2
  go_ret
  exact ⟨rfl, by repeat (first | with_reducible exact Below.refl _ _ | with_reducible refine balloc ?_ _ | with_reducible refine bdrew ?_ | with_reducible refine bset' ?_ (by omega) _ | with_reducible refine bthen ?_ (by assumption))⟩

/-! ### Clean -/
theorem strB_ne {s t : ByteArray} (h : ¬ s = t) : (s.toList == t.toList) = false := by
  rw [beq_eq_false_iff_ne]
  intro e
  apply h
  rw [ByteArray.toList_eq, ByteArray.toList_eq] at e
  have e' : s.data = t.data := by rw [← Array.toList_inj]; exact e
  cases s; cases t; simp_all
theorem strB_eq {s t : ByteArray} (h : s = t) : (s.toList == t.toList) = true := by rw [h]; simp

/-- A cell is written: one field of one sector. -/
theorem BufsAt.set {w : World} {b o : Nat} {l : List Bf} (h : BufsAt w (some ⟨b, o, none⟩) l) {k : Nat} (hk : k < l.length) (j : Nat) (hj : j < 4) (x : Bf) (u : Value) (hu : x.cell j = u) (hx : ∀ i, i < 4 → i ≠ j → x.cell i = l[k].cell i) :
    BufsAt (w.setCell ⟨b, o + k * 4 + j, none⟩ u) (some ⟨b, o, none⟩) (l.set k x) := by
  rcases h.1 with rfl | ⟨b', o', ha, hc⟩
  · exact absurd hk (Nat.not_lt_zero _)
  · simp only [Option.some.injEq, Addr.mk.injEq, and_true] at ha
    obtain ⟨rfl, rfl⟩ := ha
    refine ⟨Or.inr ⟨b, o, rfl, fun i hi m hm => ?_⟩, by rw [List.length_set]; exact h.2⟩
    have hi' : i < l.length := by simpa using hi
    by_cases e : i = k
    · subst e
      rw [List.getElem_set_self]
      by_cases e' : m = j
      · subst e'
        rw [hu]
        exact World.cell?_setCell_same _ _ _ (hc i hi' m hm)
      · rw [hx m hm e', World.cell?_setCell_other _ _ _ _ (fun e => by injection e with _ e2 _; omega)]
        exact hc i hi' m hm
    · rw [List.getElem_set_ne (fun h => e h.symm), World.cell?_setCell_other _ _ _ _ (fun e3 => by injection e3 with _ e2 _; omega)]
      exact hc i hi' m hm

/-- What Clean leaves: the sector, if it has just that, isn't dirty. -/
def cleanL (l : List Bf) (at' : Int) (data : ByteArray) : List Bf := l.map fun x => if x.pl = at' ∧ x.data = data then { x with dirty := false } else x
/-- No sector twice. -/
def OnceB (l : List Bf) : Prop := ∀ i j (hi : i < l.length) (hj : j < l.length), l[i].pl = l[j].pl → i = j
theorem clean_no {l : List Bf} {at' : Int} {data : ByteArray} (h : idxB (plB at') l = -1) : cleanL l at' data = l := by
  rcases idx_spec (plB at') l with ⟨_, h1⟩ | ⟨k, hk, e, _⟩
  · apply List.ext_getElem (by simp [cleanL])
    intro i hi h2
    simp only [cleanL, List.getElem_map]
    have := h1 i h2
    simp only [plB, beq_eq_false_iff_ne] at this
    rw [if_neg (fun h => this h.1)]
  · rw [h] at e; omega
theorem clean_other {l : List Bf} {at' : Int} {data : ByteArray} {k : Nat} (hk : k < l.length) (ho : OnceB l) (h : idxB (plB at') l = k) (hd : ¬ l[k].data = data) : cleanL l at' data = l := by
  have hp : l[k].pl = at' := by
    rcases idx_spec (plB at') l with ⟨e, _⟩ | ⟨k', hk', e, h2, _⟩
    · rw [h] at e; omega
    · have : k' = k := by omega
      subst this
      simpa [plB] using h2
  apply List.ext_getElem (by simp [cleanL])
  intro i hi h2
  simp only [cleanL, List.getElem_map]
  by_cases c : l[i].pl = at' ∧ l[i].data = data
  · have := ho i k h2 hk (c.1.trans hp.symm)
    subst this
    exact absurd c.2 hd
  · rw [if_neg c]
theorem clean_yes {l : List Bf} {at' : Int} {data : ByteArray} {k : Nat} (hk : k < l.length) (ho : OnceB l) (h : idxB (plB at') l = k) (hd : l[k].data = data) : cleanL l at' data = l.set k { l[k] with dirty := false } := by
  have hp : l[k].pl = at' := by
    rcases idx_spec (plB at') l with ⟨e, _⟩ | ⟨k', hk', e, h2, _⟩
    · rw [h] at e; omega
    · have : k' = k := by omega
      subst this
      simpa [plB] using h2
  apply List.ext_getElem (by simp [cleanL])
  intro i hi h2
  rw [List.length_set] at h2
  simp only [cleanL, List.getElem_map]
  by_cases e : i = k
  · subst e
    rw [List.getElem_set_self, if_pos ⟨hp, hd⟩]
  · rw [List.getElem_set_ne (fun h => e h.symm), if_neg (fun c => e (ho i k h2 hk (c.1.trans hp.symm)))]

set_option maxHeartbeats 2000000 in
theorem cleanG (l : List Bf) (a : Option Addr) (c : Nat) (at' : Int) (data : ByteArray) (w : World) (hl : BufsAt w a l) (hn : a = none → c = 0) (h10 : l.length ≤ 1000) (ho : OnceB l) :
    Calls Try.prog 44 #[.slice a l.length c, .int .i64 at', .string data] w fun e w' => ∃ a' c', e = .returned (.slice a' l.length c') ∧ BufsAt w' a' (cleanL l at' data) ∧ l.length ≤ c' ∧ Below w.heap.size w w' := by
  have HO := hidB ho
  clear ho
  rcases idx_spec (plB at') l with ⟨h, _⟩ | ⟨k, hk, h, _, _⟩
  · have HC := hidB (clean_no (data := data) h)
    go_enter Try.func44, Try.ntmps44
    go_wp2_with fail
    refine (cloneB_any l a c _ hl hn (by omega)).mono ?_
    rintro e w1 ⟨a', c', rfl, hN, hb1⟩
    go_wp2_with fail
    refine (place_eq l a' c' at' _ hN.here _ h).mono ?_
    rintro e w2 ⟨rfl, hb2⟩
    have R := hN.here.later hb2
    have cp := hN.cap
    clear hN h
    go_wp2
    go_ret
    exact ⟨a', c', rfl, by rw [HC.out]; exact R, cp, bthen hb1 hb2⟩
  · have h0 : l ≠ [] := by rintro rfl; exact absurd hk (Nat.not_lt_zero _)
    have H0 := hidB h0
    clear h0
    by_cases hd : l[k].data = data
    · have HC := hidB (clean_yes hk HO.out h hd)
      have hs := strB_eq hd
      go_enter Try.func44, Try.ntmps44
      go_wp2_with fail
      refine (cloneB_any l a c _ hl hn (by omega)).mono ?_
      rintro e w1 ⟨a', c', rfl, hN, hb1⟩
      obtain ⟨b, rfl, hbb, hlt, hfz⟩ := hN.place H0.out
      go_wp2_with fail
      refine (place_eq l _ c' at' _ hN.here _ h).mono ?_
      rintro e w2 ⟨rfl, hb2⟩
      have R := hN.here.later hb2
      have cp := hN.cap
      have hf2 : w2.frozen? ⟨b, 0 + k * 4 + 2, none⟩ = false := by rw [hb2.frozen (p := ⟨b, 0 + k * 4 + 2, none⟩) hlt]; exact hfz _
      obtain ⟨c0, c1, c2, c3⟩ := R.cells hk
      rw [Nat.zero_add] at c0 c1 c2 c3 hf2
      clear hN h hfz hd
      have HB2 := bthen hb1 hb2
      go_wp2
      go_ret
      refine ⟨_, c', rfl, ?_, cp, by repeat (first | with_reducible exact Below.refl _ _ | with_reducible refine balloc ?_ _ | with_reducible refine bdrew ?_ | with_reducible refine bset' ?_ (by omega) _ | with_reducible refine bthen ?_ (by assumption))⟩
      rw [HC.out]
      have := R.set hk 2 (by omega) { l[k] with dirty := false } (.bool false) rfl (fun i hi hne => by match i, hi, hne with | 0, _, _ => rfl | 1, _, _ => rfl | 3, _, _ => rfl)
      rw [Nat.zero_add] at this
      exact this
    · have HC := hidB (clean_other hk HO.out h hd)
      have hs := strB_ne hd
      go_enter Try.func44, Try.ntmps44
      go_wp2_with fail
      refine (cloneB_any l a c _ hl hn (by omega)).mono ?_
      rintro e w1 ⟨a', c', rfl, hN, hb1⟩
      obtain ⟨b, rfl, hbb, hlt, hfz⟩ := hN.place H0.out
      go_wp2_with fail
      refine (place_eq l _ c' at' _ hN.here _ h).mono ?_
      rintro e w2 ⟨rfl, hb2⟩
      have R := hN.here.later hb2
      have cp := hN.cap
      obtain ⟨c0, c1, c2, c3⟩ := R.cells hk
      rw [Nat.zero_add] at c0 c1 c2 c3
      clear hN h hfz hd
      go_wp2
      go_ret
      exact ⟨_, c', rfl, by rw [HC.out]; exact R, cp, bthen hb1 hb2⟩
end Go.Proofs.Ytpmjgofjdejeeac
