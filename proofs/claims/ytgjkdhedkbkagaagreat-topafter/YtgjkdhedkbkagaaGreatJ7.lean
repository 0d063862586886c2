/- A device: what is hidden goes out of the row of what was written: slices.IndexFunc, slices.DeleteFunc, with the closure of write. -/
import Derived.Test.YtgjkdhedkbkagaaGreatJ6
import Derived.Deep.QuietTactic
import Derived.BigQuiet
import Derived.Deep.RegionHeld
import Derived.OrdersHeld
namespace Go.Proofs.YtgjkdhedkbkagaaGreat
open Go.RowKit Go.BigFrame
set_option maxRecDepth 100000
attribute [local go_sem] Later.cell Later.frozen

def hidB (pl nx : Nat) (x : Wn) : Bool := x.pl == pl && x.bit == nx
/-- What the closure reads: the sector, the device, its next bit. -/
structure HidAt (pb pd b pl nx : Nat) (w : World) : Prop where
  c1 : w.cell? ⟨pb, 0, none⟩ = some (.int .i64 pl)
  c2 : w.cell? ⟨pd, 0, none⟩ = some (.pointer (some ⟨b, 0, none⟩))
  c3 : w.cell? ⟨b, 65, none⟩ = some (.int .i64 nx)
theorem HidAt.later {pb pd b pl nx : Nat} {w w' : World} (h : HidAt pb pd b pl nx w) (hb : Below w.heap.size w w') : HidAt pb pd b pl nx w' := ⟨cell_later' hb h.c1, cell_later' hb h.c2, cell_later' hb h.c3⟩
theorem HidAt.frame {F : Nat → Prop} {pb pd b pl nx : Nat} {w w' : World} (h : HidAt pb pd b pl nx w) (hk : Only F w w') (h1 : ¬ F pb) (h2 : ¬ F pd) (h3 : ¬ F b) : HidAt pb pd b pl nx w' :=
  ⟨by rw [hk.cell (p := ⟨pb, 0, none⟩) (lt_of_cell h.c1) h1]; exact h.c1, by rw [hk.cell (p := ⟨pd, 0, none⟩) (lt_of_cell h.c2) h2]; exact h.c2, by rw [hk.cell (p := ⟨b, 65, none⟩) (lt_of_cell h.c3) h3]; exact h.c3⟩

theorem bdrewN {B : Nat} {a w : World} (h : Below B a w) (n : Nat) : Below B a (w.drewN n) := ⟨h.os, h.tape, h.output, h.size, h.block⟩
set_option maxHeartbeats 1000000 in
theorem hidden_any (x : Wn) (pb pd b pl nx : Nat) (w : World) (h : HidAt pb pd b pl nx w) :
    Calls Tryz.prog 133 #[x.val, .pointer (some ⟨pb, 0, none⟩), .pointer (some ⟨pd, 0, none⟩)] w fun e w' => e = .returned (.bool (hidB pl nx x)) ∧ Below w.heap.size w w' := by
  have c1 := alloc_cell h.c1
  have c2 := alloc_cell h.c2
  have c3 := alloc_cell h.c3
  have l1 := lt_of_cell h.c1
  have l2 := lt_of_cell h.c2
  have l3 := lt_of_cell h.c3
  have d1 := h.c1
  have d2 := h.c2
  have d3 := h.c3
  clear h
  unfold hidB
  by_cases hp : x.pl = pl
  · have e1 : ((x.pl : Int) == (pl : Int)) = true := by rw [beq_iff_eq]; omega
    have e2 : ((x.bit : Int) == (nx : Int)) = (x.bit == nx) := by
      rw [Bool.eq_iff_iff, beq_iff_eq, beq_iff_eq]; omega
    have e3 : (x.pl == pl) = true := by rw [beq_iff_eq]; exact hp
    rw [e3, Bool.true_and]
    have HP := hidT hp
    clear hp e3
    go_enter Tryz.func133, Tryz.ntmps133
    go_wp2_with fail
    go_quiet (fail)
    go_wp2
    go_ret
    exact ⟨rfl, bdrewN (below1 _ _) _⟩
  · have e1 : ((x.pl : Int) == (pl : Int)) = false := by rw [beq_eq_false_iff_ne]; omega
    have e3 : (x.pl == pl) = false := by rw [beq_eq_false_iff_ne]; exact hp
    rw [e3, Bool.false_and]
    have HP := hidT hp
    clear hp e3
    go_enter Tryz.func133, Tryz.ntmps133
    go_wp2_with fail
    go_quiet (fail)
    go_wp2
    go_ret
    exact ⟨rfl, bdrewN (below1 _ _) _⟩

/-- From an address on lie these writes. -/
def WnsAt (w : World) (a : Option Addr) (l : List Wn) : Prop := l = [] ∨ ∃ g, a = some ⟨g, 0, none⟩ ∧ ∀ i (h : i < l.length), w.cell? ⟨g, i * 3, none⟩ = some (.int .i64 l[i].pl) ∧ w.cell? ⟨g, i * 3 + 1, none⟩ = some (.string l[i].data) ∧ w.cell? ⟨g, i * 3 + 2, none⟩ = some (.int .i64 l[i].bit)
theorem WnsAt.later {w w' : World} {a : Option Addr} {l : List Wn} (h : WnsAt w a l) (hb : Below w.heap.size w w') : WnsAt w' a l := by
  rcases h with h | ⟨g, ha, hc⟩
  · exact Or.inl h
  · exact Or.inr ⟨g, ha, fun i hi => ⟨cell_later' hb (hc i hi).1, cell_later' hb (hc i hi).2.1, cell_later' hb (hc i hi).2.2⟩⟩
theorem wns_of_own {w : World} {a : Option Addr} {c : Nat} {l : List Wn} (h : w.ownsRow 0 88 3 (.slice a l.length c) l.length (wcells l)) : WnsAt w a l := by
  rcases h.2 with ⟨h1, h2⟩ | ⟨g, cap, cur, hv, hg, hh, hnc, hcm, hcs, ht⟩
  · exact Or.inl (List.eq_nil_of_length_eq_zero h2)
  · simp only [Value.slice.injEq, true_and] at hv
    obtain ⟨rfl, rfl⟩ := hv
    refine Or.inr ⟨g, rfl, fun i hi => ?_⟩
    obtain ⟨k0, k1, k2⟩ := wcells_at l i hi
    exact ⟨(h.cellAt (i * 3) (by omega)).trans k0, (h.cellAt (i * 3 + 1) (by omega)).trans k1, (h.cellAt (i * 3 + 2) (by omega)).trans k2⟩
def idxW (p : Wn → Bool) (l : List Wn) : Int := match l.findIdx? p with | some k => (k : Int) | none => -1
theorem idxW_found {p : Wn → Bool} {l : List Wn} {k : Nat} (h : k < l.length) (hp : p l[k] = true) (hb : ∀ j (hj : j < k), p (l[j]'(by omega)) = false) : idxW p l = k := by
  have : l.findIdx? p = some k := by
    rw [List.findIdx?_eq_some_iff_getElem]
    exact ⟨h, hp, fun j hj => by rw [hb j hj]; exact Bool.false_ne_true⟩
  rw [idxW, this]
theorem idxW_none {p : Wn → Bool} {l : List Wn} (h : ∀ j (hj : j < l.length), p l[j] = false) : idxW p l = -1 := by
  have : l.findIdx? p = none := by
    rw [List.findIdx?_eq_none_iff]
    intro x hx
    obtain ⟨j, hj, rfl⟩ := List.getElem_of_mem hx
    exact h j hj
  rw [idxW, this]
theorem idxW_spec (p : Wn → Bool) (l : List Wn) : (idxW p l = -1 ∧ ∀ j (hj : j < l.length), p l[j] = false) ∨ ∃ (k : Nat) (h : k < l.length), idxW p l = k ∧ p l[k] = true ∧ ∀ j (hj : j < k), p (l[j]'(by omega)) = false := by
  cases e : l.findIdx? p with
  | none =>
    left
    refine ⟨by rw [idxW, e], fun j hj => ?_⟩
    rw [List.findIdx?_eq_none_iff] at e
    exact e _ (List.getElem_mem hj)
  | some k =>
    right
    have e' := e
    rw [List.findIdx?_eq_some_iff_getElem] at e
    obtain ⟨h1, h2, h3⟩ := e
    refine ⟨k, h1, by rw [idxW, e'], h2, fun j hj => ?_⟩
    have := h3 j hj
    simpa using this
set_option maxHeartbeats 1000000 in
theorem indexW_any (pb pd b pl nx : Nat) (l : List Wn) (a : Option Addr) (c : Nat) (w : World) (hl : WnsAt w a l) (hlen : l.length ≤ 100000) (hh : HidAt pb pd b pl nx w) :
    Calls Tryz.prog 136 #[.slice a l.length c, .func (.func 133) #[] #[.pointer (some ⟨pb, 0, none⟩), .pointer (some ⟨pd, 0, none⟩)]] w fun e w' => e = .returned (.int .i64 (idxW (hidB pl nx) l)) ∧ Below w.heap.size w w' := by
  rcases hl with rfl | ⟨g, rfl, hcs⟩
  · clear hh
    go_enter Tryz.func136, Tryz.ntmps136
    go_wp2
    go_loop [8] (fun i => i = .int .i64 0) (fun _ => 0)
    case atStart => rfl
    case round =>
      subst hrel
      go_wp2
      go_ret
      exact ⟨rfl, by repeat (first | with_reducible exact Below.refl _ _ | with_reducible refine balloc ?_ _ | with_reducible refine bdrew ?_ | with_reducible refine bset' ?_ (by omega) _ | with_reducible refine bthen ?_ (by assumption))⟩
  have HC := hidT hcs
  have HH := hidT hh
  clear hcs hh
  go_enter Tryz.func136, Tryz.ntmps136
  go_wp2
  go_loopw [8] (fun i wr => ∃ k : Nat, k ≤ l.length ∧ i = .int .i64 k ∧ (∀ j (hj : j < l.length), j < k → hidB pl nx l[j] = false) ∧ Below w.heap.size w wr) (fun i _ => l.length - (intOf i).toNat)
  case atStart => exact ⟨0, by omega, rfl, fun j hj h => absurd h (Nat.not_lt_zero _), Below.refl _ _⟩
  case round =>
    obtain ⟨k, hk, rfl, hno, HB⟩ := hrel
    have HN := hidT hno
    clear hno
    by_cases hlt : k < l.length
    · obtain ⟨c0, c1, c2⟩ := HC.out k hlt
      replace c0 := cell_later' HB c0
      replace c1 := cell_later' HB c1
      replace c2 := cell_later' HB c2
      have hq := hidden_any l[k] pb pd b pl nx wr (HH.out.later HB)
      cases hpk : hidB pl nx l[k]
      · rw [hpk] at hq
        have HQ := hidT hq
        clear hq
        go_wp2_with fail
        refine Calls.mono HQ.out ?_
        rintro e w1 ⟨rfl, hb⟩
        go_wp2
        go_roundw
        case rel => exact ⟨k + 1, by omega, by go_num, fun j hj h => by by_cases e : j = k; (subst e; exact hpk); exact HN.out j hj (by omega), bthen HB hb⟩
        case measure => simp [intOf]; omega
      · rw [hpk] at hq
        have HQ := hidT hq
        clear hq
        go_wp2_with fail
        refine Calls.mono HQ.out ?_
        rintro e w1 ⟨rfl, hb⟩
        go_wp2
        go_ret
        exact ⟨ret_int (idxW_found hlt hpk (fun j hj => HN.out j (by omega) hj)).symm, bthen HB hb⟩
    · go_wp2
      go_ret
      exact ⟨ret_int (idxW_none (fun j hj => HN.out j hj (by omega))).symm, HB⟩
end Go.Proofs.YtgjkdhedkbkagaaGreat
/- A device: slices.DeleteFunc of what was written. -/
namespace Go.Proofs.YtgjkdhedkbkagaaGreat
open Go.RowKit Go.BigFrame
set_option maxRecDepth 100000
attribute [local go_sem] Later.cell Later.frozen

theorem hid_once {l : List Wn} (hn : (l.map Wn.key).Nodup) {pl nx i j : Nat} (hi : i < l.length) (hj : j < l.length) (h1 : hidB pl nx l[i] = true) (h2 : hidB pl nx l[j] = true) : i = j := by
  simp only [hidB, Bool.and_eq_true, beq_iff_eq] at h1 h2
  have e : (l.map Wn.key)[i]'(by simpa using hi) = (l.map Wn.key)[j]'(by simpa using hj) := by
    simp only [List.getElem_map, Wn.key]; omega
  exact (List.getElem_inj hn).1 e
def keepW (pl nx : Nat) (l : List Wn) : List Wn := l.filter fun x => !hidB pl nx x
theorem keep_all {l : List Wn} {pl nx : Nat} (h : ∀ j (hj : j < l.length), hidB pl nx l[j] = false) : keepW pl nx l = l := by
  unfold keepW
  rw [List.filter_eq_self]
  intro x hx
  obtain ⟨j, hj, rfl⟩ := List.getElem_of_mem hx
  simp [h j hj]
theorem keep_erase {l : List Wn} {pl nx k : Nat} (hk : k < l.length) (h1 : hidB pl nx l[k] = true) (h2 : ∀ j (hj : j < l.length), j ≠ k → hidB pl nx l[j] = false) : keepW pl nx l = l.eraseIdx k := by
  have e : l = l.take k ++ l[k] :: l.drop (k + 1) := by rw [List.getElem_cons_drop, List.take_append_drop]
  unfold keepW
  rw [List.eraseIdx_eq_take_drop_succ]
  conv => lhs; rw [e]
  rw [List.filter_append, List.filter_cons, if_neg (by simp [h1])]
  congr 1
  · rw [List.filter_eq_self]
    intro x hx
    obtain ⟨j, hj, rfl⟩ := List.getElem_of_mem hx
    simp only [List.length_take] at hj
    rw [List.getElem_take]
    simp [h2 j (by omega) (by omega)]
  · rw [List.filter_eq_self]
    intro x hx
    obtain ⟨j, hj, rfl⟩ := List.getElem_of_mem hx
    simp only [List.length_drop] at hj
    rw [List.getElem_drop]
    simp [h2 (k + 1 + j) (by omega) (by omega)]
/-- The row in the middle of it: so many have been looked at. -/
def midW (l : List Wn) (k j : Nat) : List Wn := (l.eraseIdx k).take (j - 1) ++ l.drop (j - 1)
theorem midW_first (l : List Wn) (k : Nat) (hk : k < l.length) : midW l k (k + 1) = l := by
  rw [midW, Nat.add_sub_cancel, List.eraseIdx_eq_take_drop_succ, List.take_append_of_le_length (by rw [List.length_take]; omega), List.take_take, Nat.min_self, List.take_append_drop]
theorem midW_length (l : List Wn) (k j : Nat) (hk : k < l.length) (h1 : k + 1 ≤ j) (h2 : j ≤ l.length) : (midW l k j).length = l.length := by
  rw [midW, List.length_append, List.length_take, List.length_drop, List.length_eraseIdx, if_pos hk]; omega
theorem midW_at (l : List Wn) (k j : Nat) (hk : k < l.length) (h1 : k + 1 ≤ j) (h2 : j < l.length) : (midW l k j)[j]? = some l[j] := by
  have e : ((l.eraseIdx k).take (j - 1)).length = j - 1 := by rw [List.length_take, List.length_eraseIdx, if_pos hk]; omega
  rw [midW, List.getElem?_append_right (by omega), e, List.getElem?_drop, show j - 1 + (j - (j - 1)) = j by omega, List.getElem?_eq_getElem h2]
theorem midW_step (l : List Wn) (k j : Nat) (hk : k < l.length) (h1 : k + 1 ≤ j) (h2 : j < l.length) : (midW l k j).set (j - 1) l[j] = midW l k (j + 1) := by
  have e : ((l.eraseIdx k).take (j - 1)).length = j - 1 := by rw [List.length_take, List.length_eraseIdx, if_pos hk]; omega
  have e2 : (l.eraseIdx k).length = l.length - 1 := by rw [List.length_eraseIdx, if_pos hk]
  have e3 : (l.eraseIdx k).take j = (l.eraseIdx k).take (j - 1) ++ [l[j]] := by
    have h := List.take_succ_eq_append_getElem (l := l.eraseIdx k) (i := j - 1) (by omega)
    rw [show j - 1 + 1 = j by omega] at h
    rw [h, List.getElem_eraseIdx_of_ge (by omega) (by omega)]
    simp only [show j - 1 + 1 = j by omega]
  have e4 : l.drop (j - 1) = l[j - 1] :: l.drop j := by
    have h := List.drop_eq_getElem_cons (l := l) (i := j - 1) (by omega)
    rwa [show j - 1 + 1 = j by omega] at h
  rw [midW, midW, Nat.add_sub_cancel, List.set_append_right _ _ (by omega), e, Nat.sub_self, e4, List.set_cons_zero, e3]
  simp
theorem midW_last (l : List Wn) (k : Nat) (hk : k < l.length) : (midW l k l.length).take (l.length - 1) = l.eraseIdx k := by
  have e2 : (l.eraseIdx k).length = l.length - 1 := by rw [List.length_eraseIdx, if_pos hk]
  rw [midW, List.take_append_of_le_length (by rw [List.length_take]; omega), List.take_take, Nat.min_self, List.take_of_length_le (by omega)]
theorem wcells_set (l : List Wn) (x : Wn) : ∀ (i : Nat) (_ : i < l.length) (tl : List Value), (((wcells l ++ tl).set (i * 3) (.int .i64 x.pl)).set (i * 3 + 1) (.string x.data)).set (i * 3 + 2) (.int .i64 x.bit) = wcells (l.set i x) ++ tl := by
  induction l with
  | nil => intro i h; exact absurd h (Nat.not_lt_zero _)
  | cons y l ih =>
    intro i h tl
    cases i with
    | zero => rfl
    | succ i =>
      have := ih i (by simpa using h) tl
      rw [wcells_cons, List.set_cons_succ, wcells_cons, show (i + 1) * 3 = i * 3 + 3 by omega]
      simp only [List.cons_append, List.set_cons_succ]
      rw [this]
theorem zeroW (w : World) : (zeroValue 88).run Tryz.prog w = .ok (.agg #[.int .i64 0, .string ByteArray.empty, .int .i64 0]) w := Tryz.zeroValue88 w
theorem sliceW_from (g n c m : Nat) (w : World) (h1 : m < n) (h2 : n ≤ c) : (Instr.slice 80 (.slice (some ⟨g, 0, none⟩) n c) (some (.int .i64 (m : Int))) none none).run Tryz.prog w = .ok (.slice (some ⟨g, m * 3, none⟩) (n - m) (c - m)) w := by
  have k1 : (m : Int) ≤ (n : Int) := by omega
  have k2 : ¬ c = m := by omega
  have k3 : m ≤ n := by omega
  simp [go_sem, k2, k3]
theorem sliceW_to (g n c m : Nat) (w : World) (h1 : m < n) (h2 : n ≤ c) : (Instr.slice 80 (.slice (some ⟨g, 0, none⟩) n c) none (some (.int .i64 (m : Int))) none).run Tryz.prog w = .ok (.slice (some ⟨g, 0, none⟩) m c) w := by
  have k2 : m ≤ c := by omega
  simp [go_sem, k2]

def rowOf (a : Option Addr) (k : Nat) : Prop := ∃ p, a = some p ∧ k = p.block
set_option maxRecDepth 100000 in
set_option maxHeartbeats 2000000 in
theorem delW_yes (pb pd b pl nx : Nat) (l : List Wn) (g c k : Nat) (tl : List Value) (w : World) (hg : w.heap[g]? = some (.cells (wcells l ++ tl).toArray 88 (0, 0))) (htl : tl.length = (c - l.length) * 3) (hnc : l.length ≤ c) (_hcm : c ≤ 9223372036854775807) (hlen : l.length ≤ 100000) (hh : HidAt pb pd b pl nx w) (n1 : pb ≠ g) (n2 : pd ≠ g) (n3 : b ≠ g)
    (hk : k < l.length) (_hk1 : hidB pl nx l[k] = true) (hk2 : ∀ j (hj : j < l.length), j ≠ k → hidB pl nx l[j] = false) (hi : idxW (hidB pl nx) l = k) (hw : WnsAt w (some ⟨g, 0, none⟩) l) :
    Calls Tryz.prog 134 #[.slice (some ⟨g, 0, none⟩) l.length c, .func (.func 133) #[] #[.pointer (some ⟨pb, 0, none⟩), .pointer (some ⟨pd, 0, none⟩)]] w fun e w' =>
      e = .returned (.slice (some ⟨g, 0, none⟩) (l.length - 1) c) ∧ (∃ cur : List Value, w'.heap[g]? = some (.cells cur.toArray 88 (0, 0)) ∧ cur.length = c * 3 ∧ cur.take ((l.length - 1) * 3) = wcells (l.eraseIdx k)) ∧ Only (fun i => i = g) w w' := by
  have HI := hidT hi
  have HG := hidT hg
  have HH := hidT hh
  have HW := hidT hw
  have HT := hidT htl
  have HK2 := hidT hk2
  clear hi hg hh hw htl hk2
  go_enter Tryz.func134, Tryz.ntmps134
  go_wp2_with fail
  refine (indexW_any pb pd b pl nx l _ c _ HW.out hlen HH.out).mono ?_
  rw [HI.out]
  rintro e w1 ⟨rfl, hb1⟩
  have hne : ((k : Int) == -1) = false := by rw [beq_eq_false_iff_ne]; omega
  go_wp2_with fail
  have HO1 : Hid (Only (fun i => i = g) w w1) := Only.of_below hb1
  have HG1 : Hid (w1.heap[g]? = some (.cells (wcells l ++ tl).toArray 88 (0, 0))) := by show _ = _; rw [hb1.block g (lt_of_heap HG.out)]; exact HG.out
  clear hb1
  go_loopw [5, 6] (fun i jv wr => ∃ m : Nat, k ≤ m ∧ m + 1 ≤ l.length ∧ jv = .int .i64 ((m : Int) + 1) ∧ i = .int .i64 m ∧ wr.heap[g]? = some (.cells (wcells (midW l k (m + 1)) ++ tl).toArray 88 (0, 0)) ∧ Only (fun i => i = g) w wr) (fun i _ _ => l.length - (intOf i).toNat)
  case atStart => exact ⟨k, Nat.le_refl _, hk, rfl, rfl, by rw [midW_first l k hk]; exact HG1.out, HO1.out⟩
  case round =>
    clear HG1 HO1
    obtain ⟨m, hm1, hm2, rfl, rfl, hgr, HO⟩ := hrel
    have HGR := hidT hgr
    have HOR := hidT HO
    have lg := lt_of_heap hgr
    have hml := midW_length l k (m + 1) hk (by omega) hm2
    have HML := hidT hml
    clear hgr HO hml
    by_cases hlt : m + 1 < l.length
    · have hma := midW_at l k (m + 1) hk (by omega) hlt
      have hms := hidT (midW_step l k (m + 1) hk (by omega) hlt)
      obtain ⟨k0, k1, k2⟩ := wcells_at (midW l k (m + 1)) (m + 1) (by rw [HML.out]; exact hlt)
      have hmx : (midW l k (m + 1))[m + 1]'(by rw [HML.out]; exact hlt) = l[m + 1] := by
        have := List.getElem?_eq_getElem (l := midW l k (m + 1)) (i := m + 1) (by rw [HML.out]; exact hlt)
        rw [this] at hma; exact Option.some.inj hma
      rw [hmx] at k0 k1 k2
      have hwl : (wcells (midW l k (m + 1))).length = l.length * 3 := by rw [wcells_length, HML.out]
      have c0 := (cell_of_heap HGR.out ((m + 1) * 3)).trans ((List.getElem?_append_left (by omega)).trans k0)
      have c1 := (cell_of_heap HGR.out ((m + 1) * 3 + 1)).trans ((List.getElem?_append_left (by omega)).trans k1)
      have c2 := (cell_of_heap HGR.out ((m + 1) * 3 + 2)).trans ((List.getElem?_append_left (by omega)).trans k2)
      have hnh := HK2.out (m + 1) hlt (by omega)
      have hhr := hidT (HH.out.frame HOR.out n1 n2 n3)
      have t1 : (m : Int) + 1 < (l.length : Int) := by omega
      have t2 : ((m : Int) + 1).toNat = m + 1 := by omega
      have HWL := hidT hwl
      clear hma hmx k0 k1 k2 hwl
      generalize hx : l[m + 1] = x at *
      have HX := hidT hx
      clear hx
      have T2 := hidT t2
      clear t2
      go_wp2_with fail
      have hq := hidden_any x pb pd b pl nx _ (hhr.out.later (below1 wr (.cells #[.int .i64 x.pl, .string x.data, .int .i64 x.bit] 88)))
      rw [hnh] at hq
      refine hq.mono ?_
      rintro e w2 ⟨rfl, hb2⟩
      have hbw := hidT (bthen (below1 wr (.cells #[.int .i64 x.pl, .string x.data, .int .i64 x.bit] 88)) hb2)
      have hg2 : w2.heap[g]? = some (.cells (wcells (midW l k (m + 1)) ++ tl).toArray 88 (0, 0)) := by rw [hbw.out.block g lg]; exact HGR.out
      have d0 := (hb2.cell (p := ⟨wr.heap.size, 0, none⟩) (by simp)).trans (show _ = some (.int .i64 x.pl) by simp)
      have d1 := (hb2.cell (p := ⟨wr.heap.size, 1, none⟩) (by simp)).trans (show _ = some (.string x.data) by simp)
      have d2 := (hb2.cell (p := ⟨wr.heap.size, 2, none⟩) (by simp)).trans (show _ = some (.int .i64 x.bit) by simp)
      have f0 := frozen_of_heap hg2 (m * 3)
      have f1 := frozen_of_heap hg2 (m * 3 + 1)
      have f2 := frozen_of_heap hg2 (m * 3 + 2)
      obtain ⟨k0, k1, k2⟩ := wcells_at (midW l k (m + 1)) m (by rw [HML.out]; omega)
      have e0 := (cell_of_heap hg2 (m * 3)).trans ((List.getElem?_append_left (by rw [HWL.out]; omega)).trans k0)
      have e1 := (cell_of_heap hg2 (m * 3 + 1)).trans ((List.getElem?_append_left (by rw [HWL.out]; omega)).trans k1)
      have e2 := (cell_of_heap hg2 (m * 3 + 2)).trans ((List.getElem?_append_left (by rw [HWL.out]; omega)).trans k2)
      generalize hy : (midW l k (m + 1))[m]'(by rw [HML.out]; omega) = y at *
      have HG2 := hidT hg2
      have hm0 : (m : Int) < (l.length : Int) := by omega
      clear hy k0 k1 k2 hg2 hq hb2 hhr hnh c0 c1 c2
      go_wp2
      go_roundw
      case rel =>
        refine ⟨m + 1, by omega, by omega, by go_num, by go_num, ?_, ?_⟩
        · rw [set_same (set_same (set_same HG2.out _ _) _ _) _ _, wcells_set _ x m (by rw [HML.out]; omega) tl]
          have := hms.out
          rw [Nat.add_sub_cancel] at this
          rw [this]
        · exact (((HOR.out.later hbw.out).setCell _ (Or.inl rfl) _).setCell _ (Or.inl rfl) _).setCell _ (Or.inl rfl) _
      case measure => simp [intOf]; omega
    · have hmn : l.length = m + 1 := by omega
      have t1 : ¬ (m : Int) + 1 < (l.length : Int) := by omega
      have hcl := (by rw [List.length_append, wcells_length, HML.out, HT.out]; omega : (wcells (midW l k (m + 1)) ++ tl).length = c * 3)
      obtain ⟨w2, hcr, G2, hb2⟩ := run_clear_gp (P := Tryz.prog) wr 80 88 0 _ 3 Tryz.underlying80 zeroW rfl (by decide) g (m * 3) 1 (c - m) _ 88 HGR.out (by omega) (by rw [hcl]; omega) (by omega)
      have hsl1 := fun w => sliceW_from g l.length c m w (by omega) hnc
      have hsl2 := fun w => sliceW_to g l.length c m w (by omega) hnc
      rw [show l.length - m = 1 by omega] at hsl1
      have HG2 := hidT (⟨G2, hb2, hcl⟩ : _ ∧ _ ∧ _)
      have HMN := hidT hmn
      clear G2 hb2 hcl hmn
      go_wp2
      go_ret
      obtain ⟨G2, hb2, hcl⟩ := HG2.out
      have hmn := HMN.out
      refine ⟨by rw [hmn]; rfl, ⟨_, G2, ?_, ?_⟩, HOR.out.grown hb2 (fun i e => Or.inl (by simpa using e.symm))⟩
      · rw [length_splice _ _ _ (by rw [hcl]; simp [Builtin.zeroCells, Value.cells]; omega), hcl]
      · have hm' : l.length - 1 = m := by omega
        rw [hm', take_splice_le _ _ _ _ (by rw [hcl]; omega) (Nat.le_refl _), List.take_append_of_le_length (by rw [wcells_length, HML.out]; omega), wcells_take]
        have := midW_last l k hk
        rw [hmn, Nat.add_sub_cancel] at this
        rw [this]
set_option maxHeartbeats 400000 in
theorem delW_no (pb pd b pl nx : Nat) (l : List Wn) (a : Option Addr) (c : Nat) (w : World) (hlen : l.length ≤ 100000) (hh : HidAt pb pd b pl nx w) (hi : idxW (hidB pl nx) l = -1) (hw : WnsAt w a l) :
    Calls Tryz.prog 134 #[.slice a l.length c, .func (.func 133) #[] #[.pointer (some ⟨pb, 0, none⟩), .pointer (some ⟨pd, 0, none⟩)]] w fun e w' => e = .returned (.slice a l.length c) ∧ Below w.heap.size w w' := by
  have HI := hidT hi
  have HW := hidT hw
  have HH := hidT hh
  clear hi hw hh
  go_enter Tryz.func134, Tryz.ntmps134
  go_wp2_with fail
  refine (indexW_any pb pd b pl nx l _ c _ HW.out hlen HH.out).mono ?_
  rw [HI.out]
  rintro e w1 ⟨rfl, hb1⟩
  go_wp2
  go_ret
  exact ⟨rfl, hb1⟩
theorem delW (pb pd b pl nx : Nat) (l : List Wn) (a : Option Addr) (c : Nat) (w : World) (h : w.ownsRow 0 88 3 (.slice a l.length c) l.length (wcells l)) (hlen : l.length ≤ 100000) (hn : (l.map Wn.key).Nodup) (hh : HidAt pb pd b pl nx w) (n1 : ¬ rowOf a pb) (n2 : ¬ rowOf a pd) (n3 : ¬ rowOf a b) :
    Calls Tryz.prog 134 #[.slice a l.length c, .func (.func 133) #[] #[.pointer (some ⟨pb, 0, none⟩), .pointer (some ⟨pd, 0, none⟩)]] w fun e w' =>
      e = .returned (.slice a (keepW pl nx l).length c) ∧ w'.ownsRow 0 88 3 (.slice a (keepW pl nx l).length c) (keepW pl nx l).length (wcells (keepW pl nx l)) ∧ Only (rowOf a) w w' := by
  rcases idxW_spec (hidB pl nx) l with ⟨hi, hno⟩ | ⟨k, hk, hi, hk1, hk2⟩
  · rw [keep_all hno]
    refine (delW_no pb pd b pl nx l a c w hlen hh hi (wns_of_own h)).mono ?_
    rintro e w' ⟨rfl, hb⟩
    refine ⟨rfl, own_frame h (fun g hg => hb.block g (h.lt g hg).2), Only.of_below hb⟩
  · have hk3 : ∀ j (hj : j < l.length), j ≠ k → hidB pl nx l[j] = false := fun j hj hne => by
      cases e : hidB pl nx l[j]
      · rfl
      · exact absurd (hid_once hn hj hk e hk1) hne
    rw [keep_erase hk hk1 hk3]
    have hel : (l.eraseIdx k).length = l.length - 1 := by rw [List.length_eraseIdx, if_pos hk]
    rcases h.2 with ⟨_, h0⟩ | ⟨g, cap, cur, hv, hg, hh', hnc, hcm, hcs, ht⟩
    · omega
    · simp only [Value.slice.injEq, true_and] at hv
      obtain ⟨rfl, rfl⟩ := hv
      have hcl : cur.toList.length = c * 3 := by rw [Array.length_toList]; exact hcs
      have ecur : cur.toList = wcells l ++ cur.toList.drop (l.length * 3) := by rw [← ht, List.take_append_drop]
      refine (delW_yes pb pd b pl nx l g c k (cur.toList.drop (l.length * 3)) w (by rw [← ecur, Array.toArray_toList]; exact hh') (by rw [List.length_drop, hcl]; omega) hnc (by unfold maxLen at hcm; omega) hlen hh (fun e => n1 ⟨_, rfl, e⟩) (fun e => n2 ⟨_, rfl, e⟩) (fun e => n3 ⟨_, rfl, e⟩) hk hk1 hk3 hi (wns_of_own h)).mono ?_
      rintro e w' ⟨rfl, ⟨cur', g', l', t'⟩, ho⟩
      refine ⟨by rw [hel], ⟨wcells_length _, Or.inr ⟨g, c, cur'.toArray, rfl, Nat.zero_le _, g', by omega, hcm, by simpa using l', by rw [hel]; simpa using t'⟩⟩, ho.mono (fun i e => ⟨_, rfl, e⟩)⟩
end Go.Proofs.YtgjkdhedkbkagaaGreat
/- A region that draws its order, of which one operation, d, is last and writes what others read: what holds of the world (S) till d comes up is enough to take the others first. -/
namespace Go.Proofs.YtgjkdhedkbkagaaGreat
set_option maxRecDepth 100000
section
variable {P : Program} {ops : Array Oper} {Q : Exit → Act → World → Prop} {S : World → Prop} {d : Nat}

def till (P : Program) (ops : Array Oper) (Q : Exit → Act → World → Prop) (S : World → Prop) (d : Nat) : Nat → Array Bool → Act → World → Prop
  | 0, ls, a, w => Region.ready .any ops ls = [] ∧ Q .normal a w
  | k + 1, ls, a, w => (Region.ready .any ops ls = [] → Q .normal a w) ∧ ∀ i ∈ Region.ready .any ops ls, wpOp P ops Q i (fun a' w' => (i ≠ d → S w') ∧ till P ops Q S d k (ls.setIfInBounds i true) a' w') a w
theorem any_of_till : ∀ (k : Nat) (ls : Array Bool) (a : Act) (w : World), till P ops Q S d k ls a w → wpAny P .any ops Q k ls a w
  | 0, _, _, _, h => h
  | k + 1, _, _, _, h => ⟨h.1, fun i hi => wpOp_mono (fun a' w' h' => any_of_till k _ a' w' h'.2) (h.2 i hi)⟩
theorem region_till {id : Nat} {a : Act} {w : World} (hm : P.follows .mixedOrders = true) (h : till P ops Q S d ops.size (Array.replicate ops.size false) a w.drew) : (Code.region id ops true).wp P Q a w :=
  wp_region_any hm (any_of_till _ _ _ _ h)
/-- d waits for i. -/
def waitsFor (ops : Array Oper) (d i : Nat) : Bool := match ops[d]? with | some o => o.after.any fun e => Region.binds .any e && e.on == i | none => false
theorem not_ready {i : Nat} {ls : Array Bool} (hw : waitsFor ops d i = true) (hi : i ∈ Region.ready .any ops ls) : d ∉ Region.ready .any ops ls := by
  intro hd
  obtain ⟨_, o, ho, hall⟩ := mem_ready.1 hd
  simp only [waitsFor, ho] at hw
  obtain ⟨e, he, hb⟩ := Array.any_eq_true'.1 hw
  simp only [Bool.and_eq_true, beq_iff_eq] at hb
  have h1 := hall e he hb.1
  have h0 := (mem_ready.1 hi).1
  rw [hb.2] at h1
  rcases Nat.lt_or_ge i ls.size with h' | h'
  · simp [h'] at h0 h1; rw [h0] at h1; cases h1
  · simp [Array.getElem?_eq_none h'] at h1
theorem till_first {i : Nat} {oi : Oper} {v : Value} (hi : ops[i]? = some oi) (hsel : ∀ (j : Nat) (o : Oper) cs b, ops[j]? = some o → o.op ≠ .select cs b) (hw : waitsFor ops d i = true)
    (hQ : ∀ c a w, Q (.panic c) (a.put oi.dst v) w → Q (.panic c) a w) : ∀ (k : Nat) (ls : Array Bool) (a : Act) (w : World),
      (∀ j oj, ops[j]? = some oj → j ≠ i → ls.getD j true = false → (∀ e ∈ oj.after, Region.binds .any e = true → e.on ≠ i) → oi.apart ops oj = true) →
      i ∈ Region.ready .any ops ls → YieldsIf P ops S oi v a → S w → till P ops Q S d k (ls.setIfInBounds i true) (a.put oi.dst v) w → till P ops Q S d (k + 1) ls a w := by
  intro k
  induction k with
  | zero =>
    intro ls a w _ hr hy hS H
    refine ⟨fun h => (by rw [h] at hr; cases hr), fun j hj => ?_⟩
    by_cases e : j = i
    · subst e; exact hy.wpOp hi hS ⟨fun _ => hS, H⟩
    · have := ready_mono hj e
      rw [H.1] at this; cases this
  | succ k ih =>
    intro ls a w hfree hr hy hS H
    refine ⟨fun h => (by rw [h] at hr; cases hr), fun j hj => ?_⟩
    by_cases e : j = i
    · subst e; exact hy.wpOp hi hS ⟨fun _ => hS, H⟩
    have jd : j ≠ d := fun e' => not_ready hw hr (e' ▸ hj)
    have h1 := H.2 j (ready_mono hj e)
    obtain ⟨hun, oj, hoj, hall⟩ := mem_ready.1 hj
    have hno : ∀ x ∈ oj.after, Region.binds .any x = true → x.on ≠ i := fun x hx hb he => by
      have h1 := hall x hx hb
      have h0 := (mem_ready.1 hr).1
      rw [he] at h1
      rcases Nat.lt_or_ge i ls.size with h' | h'
      · simp [h'] at h0 h1; rw [h0] at h1; cases h1
      · simp [Array.getElem?_eq_none h'] at h1
    have h2 := wpOp_putIf hoj (hfree j oj hoj e hun hno) (fun cs b => hsel i oi cs b hi) (fun cs b => hsel j oj cs b hoj) hQ hy h1
    refine wpOp_mono (fun a' w' h3 => ⟨fun _ => h3.2.1 jd, ih (ls.setIfInBounds j true) a' w' (fun m om hm hmi hmu hmn => hfree m om hm hmi ?_ hmn) (ready_mono hr (Ne.symm e)) h3.1 (h3.2.1 jd) ?_⟩) h2
    · by_cases hjm : j = m
      · subst hjm; exact hun
      · rw [getD_set_ne true hjm] at hmu; exact hmu
    · rw [Array.setIfInBounds_comm _ _ e]; exact h3.2.2
theorem till_take {i : Nat} {oi : Oper} {v : Value} {k : Nat} {ls : Array Bool} {a : Act} {w : World} (hi : ops[i]? = some oi) (hs : Region.noSelect ops = true) (hf : Region.free .any ops ls i = true) (hr : (Region.ready .any ops ls).contains i = true) (hw : waitsFor ops d i = true)
    (hQ : ∀ c a w, Q (.panic c) (a.put oi.dst v) w → Q (.panic c) a w) (hy : YieldsIf P ops S oi v a) (hS : S w) (h : till P ops Q S d k (ls.setIfInBounds i true) (a.put oi.dst v) w) : till P ops Q S d (k + 1) ls a w :=
  till_first hi (Region.noSelect_spec hs) hw hQ k ls a w (Region.free_spec hi hf) (by simpa using hr) hy hS h
/-- Only i may come up now. -/
theorem till_one {i : Nat} {oi : Oper} {k : Nat} {ls : Array Bool} {a : Act} {w : World} (hi : ops[i]? = some oi) (hr : Region.ready .any ops ls = [i])
    (h : ∀ K, (∀ a' w', (i ≠ d → S w') → till P ops Q S d k (ls.setIfInBounds i true) a' w' → K a' w') → if Region.wanted oi (yielded ops a.tmps) = true then Oper.wp P oi a w K Q else K (a.put oi.dst undef) w) : till P ops Q S d (k + 1) ls a w := by
  refine ⟨fun h0 => (by rw [hr] at h0; cases h0), fun j hj => ?_⟩
  rw [hr] at hj
  obtain rfl := List.mem_singleton.1 hj
  exact wpOp_step hi (fun K' hK => h K' (fun a w h1 h2 => hK a w ⟨h1, h2⟩))
/-- i or j may come up now. -/
theorem till_two {i j : Nat} {oi oj : Oper} {k : Nat} {ls : Array Bool} {a : Act} {w : World} (hi : ops[i]? = some oi) (hj : ops[j]? = some oj) (hr : Region.ready .any ops ls = [i, j])
    (h1 : ∀ K, (∀ a' w', (i ≠ d → S w') → till P ops Q S d k (ls.setIfInBounds i true) a' w' → K a' w') → if Region.wanted oi (yielded ops a.tmps) = true then Oper.wp P oi a w K Q else K (a.put oi.dst undef) w)
    (h2 : ∀ K, (∀ a' w', (j ≠ d → S w') → till P ops Q S d k (ls.setIfInBounds j true) a' w' → K a' w') → if Region.wanted oj (yielded ops a.tmps) = true then Oper.wp P oj a w K Q else K (a.put oj.dst undef) w) : till P ops Q S d (k + 1) ls a w := by
  refine ⟨fun h0 => (by rw [hr] at h0; cases h0), fun x hx => ?_⟩
  rw [hr] at hx
  rcases List.mem_cons.1 hx with rfl | hx
  · exact wpOp_step hi (fun K' hK => h1 K' (fun a w h1 h2 => hK a w ⟨h1, h2⟩))
  · obtain rfl := List.mem_singleton.1 hx
    exact wpOp_step hj (fun K' hK => h2 K' (fun a w h1 h2 => hK a w ⟨h1, h2⟩))
theorem till_done {ls : Array Bool} {a : Act} {w : World} (hr : Region.ready .any ops ls = []) (h : Q .normal a w) : ∀ k, till P ops Q S d k ls a w
  | 0 => ⟨hr, h⟩
  | _ + 1 => ⟨fun _ => h, by rw [hr]; simp⟩
end
end Go.Proofs.YtgjkdhedkbkagaaGreat
