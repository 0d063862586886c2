/- A stack of all: readers and writers, whatever they find. -/
import Derived.Test.YtgjkdhedkbkagaaGreatJ30
namespace Go.Proofs.YtgjkdhedkbkagaaGreat
open Go.RowKit Go.BigFrame Go.Maps
set_option maxRecDepth 100000

theorem serveRead_any (s : Nat) (p : Sk) (A : Sa) (w : World) (h : StkAt s p A w) (hI : Inv p) (hT : p.tags ≤ 4000000000000000000) (hU : p.uses ≤ 4000000000000000000) (i : Nat) (hi : i < 3) (hk : ¬ (p.client i).kind = 0) (q : Sk) (hq : p.nf.serveRead i = q) :
    Calls Tryz.prog 74 #[.pointer (some ⟨s, 0, none⟩), .pointer (some ⟨s, 2 + i * 6, none⟩)] w fun e w' => e = .returned (.tuple #[]) ∧ SOk s p A w w' q := by
  rcases getB_idx p.hand (p.client i).pl with ⟨hg, _⟩ | ⟨k, hk', hg, hix, _⟩
  · exact serveRead_no s p A w h hI hT i hi hk hg q hq
  · exact serveRead_yes s p A w h hI hU i hi k hk' hg hix hI.hand.once q hq
theorem serveWrite_any (s : Nat) (p : Sk) (A : Sa) (w : World) (h : StkAt s p A w) (hI : Inv p) (hU : p.uses ≤ 4000000000000000000) (i : Nat) (hi : i < 3) (q : Sk) (hq : p.nf.serveWrite i = q) :
    Calls Tryz.prog 75 #[.pointer (some ⟨s, 0, none⟩), .pointer (some ⟨s, 2 + i * 6, none⟩)] w fun e w' => e = .returned (.tuple #[]) ∧ SOk s p A w w' q := by
  cases hd : p.dead
  · by_cases hc : 6 ≤ dirtyB p.hand ∧ isDirtyB p.hand (p.client i).pl = false
    · exact serveWrite_hard s p A w h i hi hd hc.1 hI.hand.len hc.2 q hq
    · exact serveWrite_put s p A w h hI.cl3 i hi hd hI.hand.len hI.q6 ⟨hI.us, hU⟩ hc q hq
  · exact serveWrite_dead s p A w h hI.cl3 i hi hd q hq
end Go.Proofs.YtgjkdhedkbkagaaGreat
/- A stack of all: is a sector that a Sync waits for clean? -/
namespace Go.Proofs.YtgjkdhedkbkagaaGreat
open Go.RowKit Go.BigFrame Go.Maps
set_option maxRecDepth 100000
attribute [local go_sem] Later.cell Later.frozen

set_option maxHeartbeats 400000 in
/-- The closure asks what is at hand: only the cell 20 of the stack, and the row of sectors. -/
theorem seenClean (s : Nat) (l : List Bf) (a : Option Addr) (c : Nat) (n : Int) (w : World) (c20 : w.cell? ⟨s, 20, none⟩ = some (.slice a l.length c)) (hB : BufsAt w a l) (t : Bool) (ht : isDirtyB l n = t) :
    Calls Tryz.prog 100 #[.pointer (some ⟨s, 0, none⟩), .int .i64 n] w fun e w' => e = .returned (.bool t) ∧ Below w.heap.size w w' := by
  have HM := hidT hB
  clear hB
  subst ht
  unfold isDirtyB
  rcases getB_idx l n with ⟨e, hi⟩ | ⟨k, hk, e, hi, -⟩
  · rw [e]
    have HI := hidT hi
    clear hi e
    go_enter Tryz.func100, Tryz.ntmps100
    go_wp2_with fail
    refine (get_no l a c n _ (HM.out.later (by repeat (first | with_reducible exact Below.refl _ _ | with_reducible refine balloc ?_ _ | with_reducible refine bdrew ?_ | with_reducible refine bset' ?_ (by omega) _ | with_reducible refine bthen ?_ (by assumption)))) HI.out).mono ?_
    rintro e w1 ⟨rfl, hb1⟩
    go_wp2
    go_ret
    exact ⟨rfl, by repeat (first | with_reducible exact Below.refl _ _ | with_reducible refine balloc ?_ _ | with_reducible refine bdrew ?_ | with_reducible refine bset' ?_ (by omega) _ | with_reducible refine bthen ?_ (by assumption))⟩
  · rw [e]
    have HI := hidT hi
    clear hi e
    go_enter Tryz.func100, Tryz.ntmps100
    go_wp2_with fail
    refine (get_yes l a c n _ (HM.out.later (by repeat (first | with_reducible exact Below.refl _ _ | with_reducible refine balloc ?_ _ | with_reducible refine bdrew ?_ | with_reducible refine bset' ?_ (by omega) _ | with_reducible refine bthen ?_ (by assumption)))) k hk HI.out).mono ?_
    rintro e w1 ⟨rfl, hb1⟩
    go_wp2
    go_ret
    exact ⟨rfl, by repeat (first | with_reducible exact Below.refl _ _ | with_reducible refine balloc ?_ _ | with_reducible refine bdrew ?_ | with_reducible refine bset' ?_ (by omega) _ | with_reducible refine bthen ?_ (by assumption))⟩
set_option maxHeartbeats 400000 in
theorem sync1_any (sb s : Nat) (l : List Bf) (a : Option Addr) (c : Nat) (n : Int) (w : World) (h0 : w.cell? ⟨sb, 0, none⟩ = some (.pointer (some ⟨s, 0, none⟩))) (c20 : w.cell? ⟨s, 20, none⟩ = some (.slice a l.length c)) (hB : BufsAt w a l) (t : Bool) (ht : (!isDirtyB l n) = t) :
    Calls Tryz.prog 103 #[.int .i64 n, .pointer (some ⟨sb, 0, none⟩)] w fun e w' => e = .returned (.bool t) ∧ Below w.heap.size w w' := by
  subst ht
  have HB := hidT hB
  clear hB
  obtain ⟨d, hd⟩ : ∃ d, isDirtyB l n = d := ⟨_, rfl⟩
  rw [hd]
  have HD := hidT hd
  clear hd
  go_enter Tryz.func103, Tryz.ntmps103
  go_wp2_with fail
  refine (seenClean s l a c n w c20 HB.out d HD.out).mono ?_
  rintro e w1 ⟨rfl, hb1⟩
  go_wp2
  go_ret
  exact ⟨rfl, hb1⟩
end Go.Proofs.YtgjkdhedkbkagaaGreat
/- slices.IndexFunc over whole numbers, with any closure that makes memory only. -/
namespace Go.Proofs.YtgjkdhedkbkagaaGreat
open Go.RowKit Go.BigFrame
set_option maxRecDepth 100000
attribute [local go_sem] Later.cell Later.frozen

/-- The first one that fits; -1: none. -/
def idxI (p : Int → Bool) (l : List Int) : Int := match l.findIdx? p with | some k => (k : Int) | none => -1
theorem idxI_found {p : Int → Bool} {l : List Int} {k : Nat} (h : k < l.length) (hp : p l[k] = true) (hb : ∀ j (hj : j < k), p (l[j]'(by omega)) = false) : idxI p l = k := by
  have : l.findIdx? p = some k := by
    rw [List.findIdx?_eq_some_iff_getElem]
    exact ⟨h, hp, fun j hj => by rw [hb j hj]; exact Bool.false_ne_true⟩
  rw [idxI, this]
theorem idxI_none {p : Int → Bool} {l : List Int} (h : ∀ j (hj : j < l.length), p l[j] = false) : idxI p l = -1 := by
  have : l.findIdx? p = none := by
    rw [List.findIdx?_eq_none_iff]
    intro x hx
    obtain ⟨j, hj, rfl⟩ := List.getElem_of_mem hx
    exact h j hj
  rw [idxI, this]
set_option maxHeartbeats 1000000 in
theorem indexI_any (g : Nat) (eg : ∀ args w, (callFunc g args).run Tryz.prog w = .ok (.enter g args) w) (cp : Value) (p : Int → Bool) (l : List Int) (b c : Nat) (w : World) (hl : ∀ i (h : i < l.length), w.cell? ⟨b, i, none⟩ = some (.int .i64 l[i])) (hb3 : l.length ≤ 9223372036854775807)
    (hp : ∀ (x : Int) w', Below w.heap.size w w' → Calls Tryz.prog g #[.int .i64 x, cp] w' fun e w'' => e = .returned (.bool (p x)) ∧ Below w'.heap.size w' w'') :
    Calls Tryz.prog 121 #[.slice (some ⟨b, 0, none⟩) l.length c, .func (.func g) #[] #[cp]] w fun e w' => e = .returned (.int .i64 (idxI p l)) ∧ Below w.heap.size w w' := by
  have HP := hidR hp
  have HL := hidR hl
  clear hp hl
  go_enter Tryz.func121, Tryz.ntmps121
  go_wp2
  go_loopw [8] (fun i wr => ∃ k : Nat, k ≤ l.length ∧ i = .int .i64 k ∧ (∀ j (hj : j < l.length), j < k → p l[j] = false) ∧ Below w.heap.size w wr) (fun i _ => l.length - (intOf i).toNat)
  case atStart => exact ⟨0, by omega, rfl, fun j hj h => absurd h (Nat.not_lt_zero _), Below.refl _ _⟩
  case round =>
    obtain ⟨k, hk, rfl, hno, HB⟩ := hrel
    have HN := hidR hno
    clear hno
    by_cases hlt : k < l.length
    · have c0 := cellB_later' HB (HL.out k hlt)
      have hq := HP.out l[k] wr HB
      cases hpk : p l[k]
      · rw [hpk] at hq
        have HQ := hidR hq
        clear hq
        go_wp2_with fail
        refine Calls.mono HQ.out ?_
        rintro e w1 ⟨rfl, hb⟩
        go_wp2
        go_roundw
        case rel => exact ⟨k + 1, by omega, by go_num, fun j hj h => by by_cases e : j = k; (subst e; exact hpk); exact HN.out j hj (by omega), bthen HB hb⟩
        case measure => simp [intOf]; omega
      · rw [hpk] at hq
        have HQ := hidR hq
        clear hq
        go_wp2_with fail
        refine Calls.mono HQ.out ?_
        rintro e w1 ⟨rfl, hb⟩
        go_wp2
        go_ret
        exact ⟨ret_int (idxI_found hlt hpk (fun j hj => HN.out j (by omega) hj)).symm, bthen HB hb⟩
    · go_wp2
      go_ret
      exact ⟨ret_int (idxI_none (fun j hj => HN.out j hj (by omega))).symm, HB⟩
end Go.Proofs.YtgjkdhedkbkagaaGreat
/- slices.DeleteFunc over whole numbers, with any closure that does not look at the row. -/
namespace Go.Proofs.YtgjkdhedkbkagaaGreat
open Go.RowKit Go.BigFrame
set_option maxRecDepth 100000
attribute [local go_sem] Later.cell Later.frozen

def keepI (P : Int → Bool) (l : List Int) : List Int := l.filter fun x => !P x
theorem keepI_take {P : Int → Bool} {l : List Int} {j : Nat} (h : j < l.length) : keepI P (l.take (j + 1)) = keepI P (l.take j) ++ (if P l[j] = true then [] else [l[j]]) := by
  unfold keepI
  rw [List.take_succ_eq_append_getElem h, List.filter_append]
  cases hp : P l[j]
  · rw [List.filter_cons_of_pos (by rw [hp]; rfl)]; rfl
  · rw [List.filter_cons_of_neg (by rw [hp]; exact Bool.false_ne_true)]; rfl
theorem keepI_none {P : Int → Bool} {l : List Int} (h : ∀ j (hj : j < l.length), P l[j] = false) : keepI P l = l := by
  unfold keepI
  rw [List.filter_eq_self]
  intro x hx
  obtain ⟨j, hj, rfl⟩ := List.getElem_of_mem hx
  rw [h j hj]; rfl
/-- In the middle of it: i were kept of the first j. -/
structure MidI (P : Int → Bool) (l cs : List Int) (i j : Nat) : Prop where
  len : cs.length = l.length
  lt : i < j
  le : j ≤ l.length
  kept : cs.take i = keepI P (l.take j)
  rest : cs.drop j = l.drop j
theorem MidI.ilen {P : Int → Bool} {l cs : List Int} {i j : Nat} (h : MidI P l cs i j) : (keepI P (l.take j)).length = i := by
  rw [← h.kept, List.length_take, h.len]
  have := h.lt; have := h.le; omega
theorem MidI.first {P : Int → Bool} {l : List Int} {k : Nat} (hk : k < l.length) (h1 : P l[k] = true) (h2 : ∀ j (hj : j < k), P (l[j]'(by omega)) = false) : MidI P l l k (k + 1) := by
  refine ⟨rfl, by omega, by omega, ?_, rfl⟩
  rw [keepI_take hk, if_pos h1, List.append_nil, keepI_none]
  intro j hj
  rw [List.length_take] at hj
  rw [List.getElem_take]
  exact h2 j (by omega)
theorem MidI.at {P : Int → Bool} {l cs : List Int} {i j : Nat} (h : MidI P l cs i j) (hj : j < l.length) : cs[j]'(by rw [h.len]; exact hj) = l[j] := by
  have e1 := List.getElem?_drop (xs := cs) (i := j) (j := 0)
  have e2 := List.getElem?_drop (xs := l) (i := j) (j := 0)
  rw [h.rest] at e1
  rw [e1, Nat.add_zero, List.getElem?_eq_getElem hj, List.getElem?_eq_getElem (by rw [h.len]; exact hj)] at e2
  exact Option.some.inj e2
theorem MidI.out {P : Int → Bool} {l cs : List Int} {i j : Nat} (h : MidI P l cs i j) (hj : j < l.length) (hp : P l[j] = true) : MidI P l cs i (j + 1) := by
  refine ⟨h.len, by have := h.lt; omega, hj, ?_, ?_⟩
  · rw [keepI_take hj, if_pos hp, List.append_nil]; exact h.kept
  · rw [← List.drop_drop, ← List.drop_drop, h.rest]
theorem MidI.put {P : Int → Bool} {l cs : List Int} {i j : Nat} (h : MidI P l cs i j) (hj : j < l.length) (hp : P l[j] = false) : MidI P l (cs.set i l[j]) (i + 1) (j + 1) := by
  have hi : i < cs.length := by rw [h.len]; have := h.lt; omega
  refine ⟨by rw [List.length_set]; exact h.len, by have := h.lt; omega, hj, ?_, ?_⟩
  · rw [keepI_take hj, if_neg (by rw [hp]; exact Bool.false_ne_true), ← h.kept, List.take_succ_eq_append_getElem (by rw [List.length_set]; exact hi), List.getElem_set_self, List.take_set_of_le (Nat.le_refl _)]
  · rw [List.drop_set_of_lt (by have := h.lt; omega), ← List.drop_drop, ← List.drop_drop, h.rest]
theorem MidI.last {P : Int → Bool} {l cs : List Int} {i : Nat} (h : MidI P l cs i l.length) : cs.take i = keepI P l ∧ (keepI P l).length = i := by
  have h1 := h.kept
  have h2 := h.ilen
  rw [List.take_length] at h1 h2
  exact ⟨h1, h2⟩
end Go.Proofs.YtgjkdhedkbkagaaGreat
/- slices.DeleteFunc over whole numbers: the walk. -/
namespace Go.Proofs.YtgjkdhedkbkagaaGreat
open Go.RowKit Go.BigFrame
set_option maxRecDepth 100000
attribute [local go_sem] Later.cell Later.frozen

theorem zeroII (w : World) : (zeroValue 3).run Tryz.prog w = .ok (.int .i64 0) w := Tryz.zeroValue3 w
theorem sliceI_from (g n c m : Nat) (w : World) (h1 : m < n) (h2 : n ≤ c) : (Instr.slice 42 (.slice (some ⟨g, 0, none⟩) n c) (some (.int .i64 (m : Int))) none none).run Tryz.prog w = .ok (.slice (some ⟨g, m, none⟩) (n - m) (c - m)) w := by
  have k1 : (m : Int) ≤ (n : Int) := by omega
  have k2 : ¬ c = m := by omega
  have k3 : m ≤ n := by omega
  simp [go_sem, k2, k3]
theorem sliceI_to (g n c m : Nat) (w : World) (h1 : m < n) (h2 : n ≤ c) : (Instr.slice 42 (.slice (some ⟨g, 0, none⟩) n c) none (some (.int .i64 (m : Int))) none).run Tryz.prog w = .ok (.slice (some ⟨g, 0, none⟩) m c) w := by
  have k2 : m ≤ c := by omega
  simp [go_sem, k2]
theorem intV_at {cs : List Int} {tl : List Value} {j : Nat} (hj : j < cs.length) : (intV cs ++ tl)[j]? = some (.int .i64 cs[j]) := by
  unfold intV
  rw [List.getElem?_append_left (by rw [List.length_map]; exact hj), List.getElem?_map, List.getElem?_eq_getElem hj]; rfl
theorem intV_set {cs : List Int} {tl : List Value} {i : Nat} (x : Int) (hi : i < cs.length) : (intV cs ++ tl).set i (.int .i64 x) = intV (cs.set i x) ++ tl := by
  unfold intV
  rw [List.set_append_left _ _ (by rw [List.length_map]; exact hi), List.map_set]
set_option maxRecDepth 100000 in
set_option maxHeartbeats 2000000 in
theorem delI_yes (f : Nat) (eg : ∀ args w, (callFunc f args).run Tryz.prog w = .ok (.enter f args) w) (cp : Value) (P : Int → Bool) (l : List Int) (g c k : Nat) (tl : List Value) (w : World) (hg : w.heap[g]? = some (.cells (intV l ++ tl).toArray 3 (0, 0))) (htl : tl.length = c - l.length) (hnc : l.length ≤ c) (hlen : l.length ≤ 9223372036854775807)
    (hp : ∀ (x : Int) w', Only (fun i => i = g) w w' → Calls Tryz.prog f #[.int .i64 x, cp] w' fun e w'' => e = .returned (.bool (P x)) ∧ Below w'.heap.size w' w'')
    (hk : k < l.length) (hk1 : P l[k] = true) (hk2 : ∀ j (hj : j < k), P (l[j]'(by omega)) = false) :
    Calls Tryz.prog 102 #[.slice (some ⟨g, 0, none⟩) l.length c, .func (.func f) #[] #[cp]] w fun e w' =>
      e = .returned (.slice (some ⟨g, 0, none⟩) (keepI P l).length c) ∧ (∃ cur : List Value, w'.heap[g]? = some (.cells cur.toArray 3 (0, 0)) ∧ cur.length = c ∧ cur.take (keepI P l).length = intV (keepI P l)) ∧ Only (fun i => i = g) w w' := by
  have HG := hidT hg
  have HT := hidT htl
  have HP := hidT hp
  have HM0 := hidT (MidI.first hk hk1 hk2)
  have HI := hidT (idxI_found hk hk1 hk2)
  clear hg hp htl hk1 hk2
  go_enter Tryz.func102, Tryz.ntmps102
  go_wp2_with fail
  refine (indexI_any f eg cp P l g c _ (fun i hi => (cell_of_heap HG.out i).trans (intV_at hi)) (by omega) (fun x w' hb => HP.out x w' (Only.of_below hb))).mono ?_
  rw [HI.out]
  rintro e w1 ⟨rfl, hb1⟩
  have hne : ((k : Int) == -1) = false := by rw [beq_eq_false_iff_ne]; omega
  go_wp2_with fail
  have HO1 : Hid (Only (fun i => i = g) w w1) := Only.of_below hb1
  have HG1 : Hid (w1.heap[g]? = some (.cells (intV l ++ tl).toArray 3 (0, 0))) := by show _ = _; rw [hb1.block g (lt_of_heap HG.out)]; exact HG.out
  clear hb1
  go_loopw [5, 6] (fun iv jv wr => ∃ (i j : Nat) (cs : List Int), MidI P l cs i j ∧ jv = .int .i64 (j : Int) ∧ iv = .int .i64 i ∧ wr.heap[g]? = some (.cells (intV cs ++ tl).toArray 3 (0, 0)) ∧ Only (fun i => i = g) w wr) (fun _ jv _ => l.length - (intOf jv).toNat)
  case atStart => exact ⟨k, k + 1, l, HM0.out, by go_num, rfl, HG1.out, HO1.out⟩
  case round =>
    clear HG1 HO1 HM0
    obtain ⟨i, j, cs, hm, rfl, rfl, hgr, HO⟩ := hrel
    have HGR := hidT hgr
    have HOR := hidT HO
    have HM := hidT hm
    have lg := lt_of_heap hgr
    have hij := hm.lt
    have hjl := hm.le
    have HLE := hidT hm.len
    clear hgr HO hm
    by_cases hlt : j < l.length
    · have hjc : j < cs.length := by rw [HLE.out]; exact hlt
      have hic : i < cs.length := by omega
      have hx := HM.out.at hlt
      have c0 := (cell_of_heap HGR.out j).trans (intV_at hjc)
      have e0 := (cell_of_heap HGR.out i).trans (intV_at hic)
      rw [hx] at c0
      have hq := HP.out l[j] wr HOR.out
      have HIC := hidT hic
      clear hx hjc
      cases hpk : P l[j]
      · have HN := hidT (HM.out.put hlt hpk)
        rw [hpk] at hq
        have HQ := hidT hq
        clear hq
        generalize l[j] = x at *
        go_wp2_with fail
        refine HQ.out.mono ?_
        rintro e w2 ⟨rfl, hb2⟩
        have hg2 : w2.heap[g]? = some (.cells (intV cs ++ tl).toArray 3 (0, 0)) := by rw [hb2.block g lg]; exact HGR.out
        have e2 := (cell_of_heap hg2 i).trans (intV_at hic)
        have f2 := frozen_of_heap hg2 i
        have HG2 := hidT hg2
        have HB2 := hidT hb2
        have l2 := lt_of_heap hg2
        clear hg2 hb2 c0 e0
        go_wp2
        go_roundw
        case rel =>
          refine ⟨i + 1, j + 1, _, HN.out, by go_num, by go_num, ?_, (HOR.out.later HB2.out).setCell _ (Or.inl rfl) _⟩
          rw [set_same HG2.out, intV_set _ HIC.out]
        case measure => simp [intOf]; omega
      · have HN := hidT (HM.out.out hlt hpk)
        rw [hpk] at hq
        have HQ := hidT hq
        clear hq
        generalize l[j] = x at *
        go_wp2_with fail
        refine HQ.out.mono ?_
        rintro e w2 ⟨rfl, hb2⟩
        have hg2 : w2.heap[g]? = some (.cells (intV cs ++ tl).toArray 3 (0, 0)) := by rw [hb2.block g lg]; exact HGR.out
        have HG2 := hidT hg2
        have HB2 := hidT hb2
        clear hg2 hb2 c0 e0
        go_wp2
        go_roundw
        case rel => exact ⟨i, j + 1, cs, HN.out, by go_num, rfl, HG2.out, HOR.out.later HB2.out⟩
        case measure => simp [intOf]; omega
    · obtain rfl : j = l.length := by omega
      have t1 : ¬ (l.length : Int) < (l.length : Int) := by omega
      have hcl : (intV cs ++ tl).length = c := by rw [List.length_append, intV, List.length_map, HLE.out, HT.out]; omega
      obtain ⟨w2, hcr, G2, hb2⟩ := run_clear_gp (P := Tryz.prog) wr 42 3 0 _ 1 Tryz.underlying42 zeroII rfl (by decide) g i (l.length - i) (c - i) _ 3 HGR.out (by omega) (by rw [hcl]; omega) (by omega)
      have hsl1 := fun w => sliceI_from g l.length c i w hij hnc
      have hsl2 := fun w => sliceI_to g l.length c i w hij hnc
      have HG2 := hidT (⟨G2, hb2, hcl⟩ : _ ∧ _ ∧ _)
      clear G2 hb2 hcl
      obtain ⟨hl1, hl2⟩ := HM.out.last
      have HL1 := hidT hl1
      have HL2 := hidT hl2
      clear hl1 hl2
      go_wp2
      go_ret
      obtain ⟨G2, hb2, hcl⟩ := HG2.out
      refine ⟨by rw [HL2.out]; rfl, ⟨_, G2, ?_, ?_⟩, HOR.out.grown hb2 (fun i e => Or.inl (by simpa using e.symm))⟩
      · rw [length_splice _ _ _ (by rw [hcl]; simp [Builtin.zeroCells, Value.cells]; omega), hcl]
      · rw [HL2.out, take_splice_le _ _ _ _ (by rw [hcl]; omega) (Nat.le_refl _), List.take_append_of_le_length (by rw [intV, List.length_map, HLE.out]; omega), intV, ← List.map_take, HL1.out]
        rfl
end Go.Proofs.YtgjkdhedkbkagaaGreat
/- slices.DeleteFunc over whole numbers, told of an owned row. -/
namespace Go.Proofs.YtgjkdhedkbkagaaGreat
open Go.RowKit Go.BigFrame
set_option maxRecDepth 100000
attribute [local go_sem] Later.cell Later.frozen

theorem idxI_spec (p : Int → Bool) (l : List Int) : (idxI p l = -1 ∧ ∀ j (hj : j < l.length), p l[j] = false) ∨ ∃ (k : Nat) (h : k < l.length), idxI p l = k ∧ p l[k] = true ∧ ∀ j (hj : j < k), p (l[j]'(by omega)) = false := by
  cases e : l.findIdx? p with
  | none =>
    left
    refine ⟨by rw [idxI, e], fun j hj => ?_⟩
    rw [List.findIdx?_eq_none_iff] at e
    exact e _ (List.getElem_mem hj)
  | some k =>
    right
    have h := e
    rw [List.findIdx?_eq_some_iff_getElem] at h
    obtain ⟨h1, h2, h3⟩ := h
    exact ⟨k, h1, by rw [idxI, e], h2, fun j hj => by have := h3 j hj; simpa using this⟩
set_option maxHeartbeats 400000 in
theorem delI_no (f : Nat) (eg : ∀ args w, (callFunc f args).run Tryz.prog w = .ok (.enter f args) w) (cp : Value) (P : Int → Bool) (l : List Int) (g c : Nat) (w : World) (hl : ∀ i (h : i < l.length), w.cell? ⟨g, i, none⟩ = some (.int .i64 l[i])) (hlen : l.length ≤ 9223372036854775807)
    (hp : ∀ (x : Int) w', Below w.heap.size w w' → Calls Tryz.prog f #[.int .i64 x, cp] w' fun e w'' => e = .returned (.bool (P x)) ∧ Below w'.heap.size w' w'') (hi : idxI P l = -1) :
    Calls Tryz.prog 102 #[.slice (some ⟨g, 0, none⟩) l.length c, .func (.func f) #[] #[cp]] w fun e w' => e = .returned (.slice (some ⟨g, 0, none⟩) l.length c) ∧ Below w.heap.size w w' := by
  have HI := hidT hi
  have HL := hidT hl
  have HP := hidT hp
  clear hi hl hp
  go_enter Tryz.func102, Tryz.ntmps102
  go_wp2_with fail
  refine (indexI_any f eg cp P l g c _ HL.out (by omega) HP.out).mono ?_
  rw [HI.out]
  rintro e w1 ⟨rfl, hb1⟩
  go_wp2
  go_ret
  exact ⟨rfl, hb1⟩
end Go.Proofs.YtgjkdhedkbkagaaGreat
/- slices.DeleteFunc over whole numbers, whatever goes. -/
namespace Go.Proofs.YtgjkdhedkbkagaaGreat
open Go.RowKit Go.BigFrame
set_option maxRecDepth 100000
attribute [local go_sem] Later.cell Later.frozen

set_option maxHeartbeats 400000 in
theorem indexI_nil (fv : Value) (a : Option Addr) (c : Nat) (w : World) :
    Calls Tryz.prog 121 #[.slice a 0 c, fv] w fun e w' => e = .returned (.int .i64 (-1)) ∧ Below w.heap.size w w' := by
  go_enter Tryz.func121, Tryz.ntmps121; go_wp2; go_loop [8] (fun i => i = .int .i64 0) (fun _ => 0); (case atStart => rfl); (case round => subst hrel; go_wp2; go_ret; exact ⟨rfl, by repeat (first | with_reducible exact Below.refl _ _ | with_reducible refine balloc ?_ _ | with_reducible refine bdrew ?_ | with_reducible refine bset' ?_ (by omega) _ | with_reducible refine bthen ?_ (by assumption))⟩)
set_option maxHeartbeats 400000 in
theorem delI_nil (fv : Value) (a : Option Addr) (c : Nat) (w : World) :
    Calls Tryz.prog 102 #[.slice a 0 c, fv] w fun e w' => e = .returned (.slice a 0 c) ∧ Below w.heap.size w w' := by
  go_enter Tryz.func102, Tryz.ntmps102
  go_wp2_with fail
  refine (indexI_nil fv a c _).mono ?_
  rintro e w1 ⟨rfl, hb1⟩
  go_wp2
  go_ret
  exact ⟨rfl, hb1⟩
theorem intV_len (l : List Int) : (intV l).length = l.length := by rw [intV, List.length_map]
theorem delI (f : Nat) (eg : ∀ args w, (callFunc f args).run Tryz.prog w = .ok (.enter f args) w) (cp : Value) (P : Int → Bool) (l : List Int) (a : Option Addr) (c : Nat) (w : World) (h : w.ownsRow 0 3 1 (.slice a l.length c) l.length (intV l)) (hlen : l.length ≤ 9223372036854775807)
    (hp : ∀ (x : Int) w', Only (rowOf a) w w' → Calls Tryz.prog f #[.int .i64 x, cp] w' fun e w'' => e = .returned (.bool (P x)) ∧ Below w'.heap.size w' w'') :
    Calls Tryz.prog 102 #[.slice a l.length c, .func (.func f) #[] #[cp]] w fun e w' => e = .returned (.slice a (keepI P l).length c) ∧ w'.ownsRow 0 3 1 (.slice a (keepI P l).length c) (keepI P l).length (intV (keepI P l)) ∧ Only (rowOf a) w w' := by
  cases l with
  | nil =>
    refine (delI_nil _ a c w).mono ?_
    rintro e w' ⟨rfl, hb⟩
    exact ⟨rfl, own_frame h (fun g hg => hb.block g (h.lt g hg).2), Only.of_below hb⟩
  | cons y l0 =>
    generalize hl : y :: l0 = l at *
    have h0 : 0 < l.length := by rw [← hl]; simp
    clear hl
    rcases h.2 with ⟨_, h0'⟩ | ⟨g, cap, cur, hv, hg, hh', hnc, hcm, hcs, ht⟩
    · omega
    · simp only [Value.slice.injEq, true_and] at hv
      obtain ⟨rfl, rfl⟩ := hv
      have hcl : cur.toList.length = c := by rw [Array.length_toList]; simpa using hcs
      have ht' : cur.toList.take l.length = intV l := by simpa using ht
      have ecur : cur.toList = intV l ++ cur.toList.drop l.length := by rw [← ht', List.take_append_drop]
      have hg' : w.heap[g]? = some (.cells (intV l ++ cur.toList.drop l.length).toArray 3 (0, 0)) := by rw [← ecur, Array.toArray_toList]; exact hh'
      have hrow : ∀ i, i = g → rowOf (some ⟨g, 0, none⟩) i := fun i e => ⟨_, rfl, e⟩
      rcases idxI_spec P l with ⟨hi, hno⟩ | ⟨k, hk, hi, hk1, hk2⟩
      · rw [keepI_none hno]
        refine (delI_no f eg cp P l g c w (fun i hi => (cell_of_heap hg' i).trans (intV_at hi)) hlen (fun x w' hb => hp x w' (Only.of_below hb)) hi).mono ?_
        rintro e w' ⟨rfl, hb⟩
        exact ⟨rfl, own_frame h (fun g hg => hb.block g (h.lt g hg).2), Only.of_below hb⟩
      · refine (delI_yes f eg cp P l g c k (cur.toList.drop l.length) w hg' (by rw [List.length_drop, hcl]) hnc hlen (fun x w' ho => hp x w' (ho.mono hrow)) hk hk1 hk2).mono ?_
        rintro e w' ⟨rfl, ⟨cur', g', l', t'⟩, ho⟩
        have hkl : (keepI P l).length ≤ l.length := List.length_filter_le _ _
        refine ⟨rfl, ⟨by rw [intV_len]; omega, Or.inr ⟨g, c, cur'.toArray, rfl, Nat.zero_le _, g', by omega, hcm, by simpa using l', by simpa using t'⟩⟩, ho.mono hrow⟩
end Go.Proofs.YtgjkdhedkbkagaaGreat
/- A stack of all: a client's list is another, in its own row. -/
namespace Go.Proofs.YtgjkdhedkbkagaaGreat
open Go.RowKit Go.BigFrame Go.Maps
set_option maxRecDepth 100000
attribute [local go_sem] Later.cell Later.frozen

theorem keepI_dirty (h : List Bf) (l : List Int) : keepI (fun x => !isDirtyB h x) l = l.filter (isDirtyB h) := by
  unfold keepI
  congr 1
  funext x
  simp
def Sk.setLeft (p : Sk) (i : Nat) (L : List Int) : Sk := { p with cl := p.cl.set i { p.client i with left := L } }
section
variable {s : Nat} {p : Sk} {A : Sa} {w w' : World}
theorem rowOf_foot {i : Nat} (hi : i < 3) {k : Nat} (h : rowOf (A.la i) k) : A.foot s k := by
  obtain ⟨q, hq, e⟩ := h
  exact Or.inr (Or.inr ⟨i, hi, q, hq, e⟩)
theorem StkMem.setLeft (h : StkMem s p A w) (hl : p.cl.length = 3) {i : Nat} (hi : i < 3) (L : List Int) (hO : Only (rowOf (A.la i)) w w') (hR : w'.ownsRow 0 3 1 (.slice (A.la i) L.length (A.lc i)) L.length (intV L)) : StkMem s (p.setLeft i L) A w' where
  drv := h.drv.frame hO (fun k e ⟨q, hq, ek⟩ => (h.vl i hi q hq).2.2 (ek ▸ e)) (fun ⟨q, hq, ek⟩ => (h.vl i hi q hq).2.1 ek.symm) (fun r hr => by
    have := h.roff r (List.mem_append_right _ hr)
    exact ⟨fun he ad ha e => this.1 he ad ha (rowOf_foot hi e), fun he ad ha e => this.2 he ad ha (rowOf_foot hi e)⟩)
  map := h.map
  im := h.im
  nb := h.nb
  hand := bufs_frame h.hand hO (fun hne q hq e => h.hoff hne q hq (rowOf_foot hi e))
  hnil := h.hnil
  hcap := h.hcap
  queue := reqsS_frame h.queue hO (fun hne q hq e => h.qoff hne q hq (rowOf_foot hi e)) (fun r hr => by
    have := h.roff r (List.mem_append_left _ hr)
    exact ⟨fun he ad ha e => this.1 he ad ha (rowOf_foot hi e), fun he ad ha e => this.2 he ad ha (rowOf_foot hi e)⟩)
  qnil := h.qnil
  qcap := h.qcap
  left := fun j hj => by
    unfold Sk.setLeft
    rw [client_set hl hi]
    by_cases hji : j = i
    · rw [if_pos hji, hji]; exact hR
    · rw [if_neg hji]
      refine own_frame (h.left j hj) fun g hg => ?_
      obtain ⟨q, hq, rfl⟩ := ownBlock_slice.1 hg
      exact hO.block _ (h.lrow hj hq) (fun ⟨q', hq', e⟩ => h.ll j i hj hi hji q q' hq hq' e)
  sv := h.sv
  vl := h.vl
  ll := h.ll
  hoffX := h.hoffX
  qoffX := h.qoffX
  roffX := h.roffX
  xlt := Nat.le_trans h.xlt hO.size
/-- A client's list is another, in its own row. -/
theorem StkAt.setLeft (h : StkAt s p A w) (hl : p.cl.length = 3) {i : Nat} (hi : i < 3) (L : List Int) (hO : Only (rowOf (A.la i)) w w') (hR : w'.ownsRow 0 3 1 (.slice (A.la i) L.length (A.lc i)) L.length (intV L)) : SStep s p A (p.setLeft i L) A w (w'.setCell ⟨s, 2 + i * 6 + 3, none⟩ (.slice (A.la i) L.length (A.lc i))) := by
  have hs : ¬ rowOf (A.la i) s := fun ⟨q, hq, e⟩ => (h.mem.vl i hi q hq).1 e.symm
  have hb : w'.heap[s]? = some (.cells (p.cells A).toArray 79 (0, 0)) := by rw [hO.block s h.lt hs]; exact h.blk
  have hst := (h.mem.setLeft hl hi L hO hR).puts (A := A) (p := p) (w' := w'.setCell ⟨s, 2 + i * 6 + 3, none⟩ (.slice (A.la i) L.length (A.lc i))) (Only.of_set _) (by
    rw [set_same hb]
    congr 2
    match i, hi with
    | 0, hi => simp [Sk.cells, Sk.head, Sk.tail, clCells, Sk.setLeft, client_set hl hi]
    | 1, hi => simp [Sk.cells, Sk.head, Sk.tail, clCells, Sk.setLeft, client_set hl hi]
    | 2, hi => simp [Sk.cells, Sk.head, Sk.tail, clCells, Sk.setLeft, client_set hl hi]) (fun _ hk => hk) ⟨rfl, rfl, rfl, rfl⟩
  exact ⟨hst.at', (hO.mono (fun k e => rowOf_foot hi e)).trans hst.only (fun k hk => Or.inl hk), fun k hk => Or.inl hk, rfl, rfl, rfl, rfl⟩
end
end Go.Proofs.YtgjkdhedkbkagaaGreat
/- A stack of all: one who waits for a Sync. -/
namespace Go.Proofs.YtgjkdhedkbkagaaGreat
open Go.RowKit Go.BigFrame Go.Maps
set_option maxRecDepth 100000
attribute [local go_sem] Later.cell Later.frozen

theorem only_cell' {F : Nat → Prop} {w w' : World} {g j : Nat} {v : Value} (h : Only F w w') (hn : ¬ F g) (hc : w.cell? ⟨g, j, none⟩ = some v) : w'.cell? ⟨g, j, none⟩ = some v := (h.cell (p := ⟨g, j, none⟩) (lt_of_cell hc) hn).trans hc
set_option maxRecDepth 100000 in
set_option maxHeartbeats 1000000 in
theorem serveSync_dead (s : Nat) (p : Sk) (A : Sa) (w : World) (h : StkAt s p A w) (hl3 : p.cl.length = 3) (i : Nat) (hi : i < 3) (hd : p.dead = true) (q : Sk) (hq : p.nf.serveSync i = q) :
    Calls Tryz.prog 76 #[.pointer (some ⟨s, 0, none⟩), .pointer (some ⟨s, 2 + i * 6, none⟩)] w fun e w' => e = .returned (.tuple #[]) ∧ SOk s p A w w' q := by
  have e1 : p.nf.serveSync i = p.nf.answer i ByteArray.empty 9 := by
    unfold Sk.serveSync
    rw [if_pos (show p.nf.dead = true from hd)]
  rw [e1] at hq
  have c29 := h.cell 29 _ rfl
  rw [hd] at c29
  have hl := h.lt
  have HST := hidT h
  have HQ := hidT hq
  clear h e1 hq
  go_enter Tryz.func76, Tryz.ntmps76
  go_wp2_with fail
  refine (answer_any s p A _ (HST.out.later (by repeat (first | with_reducible exact Below.refl _ _ | with_reducible refine balloc ?_ _ | with_reducible refine bdrew ?_ | with_reducible refine bset' ?_ (by omega) _ | with_reducible refine bthen ?_ (by assumption)))) hl3 i hi ByteArray.empty 9).mono ?_
  rintro e w7 ⟨rfl, hs7⟩
  have HS7 : Hid (SStep s p A (p.answer i ByteArray.empty 9) (A.drop i) w w7) := (SStep.same' HST.out (by repeat (first | with_reducible exact Below.refl _ _ | with_reducible refine balloc ?_ _ | with_reducible refine bdrew ?_ | with_reducible refine bset' ?_ (by omega) _ | with_reducible refine bthen ?_ (by assumption)))).trans hs7
  clear hs7
  go_wp2
  refine bodyPost_ret (v := .tuple #[]) (by simp [results, Tryz.results76, go_sem]) rfl ?_
  exact ⟨rfl, _, _, HS7.out, by rw [← HQ.out]; rfl⟩
set_option linter.unusedSimpArgs false in
set_option maxRecDepth 100000 in
set_option maxHeartbeats 2000000 in
theorem serveSync_live (s : Nat) (p : Sk) (A : Sa) (w : World) (h : StkAt s p A w) (hl3 : p.cl.length = 3) (i : Nat) (hi : i < 3) (hd : p.dead = false) (q : Sk) (hq : p.nf.serveSync i = q) :
    Calls Tryz.prog 76 #[.pointer (some ⟨s, 0, none⟩), .pointer (some ⟨s, 2 + i * 6, none⟩)] w fun e w' => e = .returned (.tuple #[]) ∧ SOk s p A w w' q := by
  have e1 : p.nf.serveSync i = if (p.client i).left.filter (isDirtyB p.hand) = [] then ({ p.nf with dev := p.nf.dev.flush } : Sk).answer i ByteArray.empty 0 else { p.nf with cl := p.cl.set i { p.client i with left := (p.client i).left.filter (isDirtyB p.hand) } } := by
    unfold Sk.serveSync
    rw [if_neg (by rw [show p.nf.dead = false from hd]; exact Bool.false_ne_true)]
    rfl
  rw [e1] at hq
  have c29 := h.cell 29 _ rfl
  rw [hd] at c29
  have hl := h.lt
  obtain ⟨-, -, -, d3, -⟩ := h.client i hi
  obtain ⟨L, hL⟩ : ∃ L, (p.client i).left.filter (isDirtyB p.hand) = L := ⟨_, rfl⟩
  rw [hL] at hq
  have HL := hidT hL
  have HST := hidT h
  have HQ := hidT hq
  have HLEN : Hid ((p.client i).left.length ≤ 9223372036854775807) := by
    show (p.client i).left.length ≤ 9223372036854775807
    rcases (h.mem.left i hi).2 with ⟨_, h0⟩ | ⟨g, cap, cur, hv, _, _, hnc, hcm, _⟩
    · omega
    · unfold maxLen at hcm; omega
  clear h e1 hq hL
  obtain ⟨n, hn⟩ : ∃ n, (p.client i).left.length = n := ⟨_, rfl⟩
  have HN := hidT hn
  rw [hn] at d3
  clear hn
  go_enter Tryz.func76, Tryz.ntmps76
  go_wp2_with fail
  have hw0 : Below w.heap.size w (w.alloc (.cells #[.pointer (some ⟨s, 0, none⟩)] 25)) := by repeat (first | with_reducible exact Below.refl _ _ | with_reducible refine balloc ?_ _ | with_reducible refine bdrew ?_ | with_reducible refine bset' ?_ (by omega) _ | with_reducible refine bthen ?_ (by assumption))
  have hbx : (w.alloc (.cells #[.pointer (some ⟨s, 0, none⟩)] 25)).cell? ⟨w.heap.size, 0, none⟩ = some (.pointer (some ⟨s, 0, none⟩)) := by simp
  generalize hW : w.alloc (.cells #[.pointer (some ⟨s, 0, none⟩)] 25) = w0 at *
  clear hW
  have HS0 := hidT (SStep.same' HST.out hw0)
  have HRO : Hid (¬ rowOf (A.la i) w.heap.size) := fun ⟨q', hq', e⟩ => by have := HST.out.mem.lrow hi hq'; omega
  have HRS : Hid (¬ rowOf (A.la i) s) := fun ⟨q', hq', e⟩ => (HST.out.mem.vl i hi q' hq').1 e.symm
  have hdel := delI 103 (by intro args w; go_simp) (.pointer (some ⟨w.heap.size, 0, none⟩)) (fun x => !isDirtyB p.hand x) (p.client i).left (A.la i) (A.lc i) w0 (HS0.out.at'.mem.left i hi) HLEN.out (fun x w' hO => sync1_any w.heap.size s p.hand A.ha A.hc x w' (only_cell' hO HRO.out hbx) (only_cell' hO HRS.out (HS0.out.at'.cell 20 _ rfl)) (bufs_frame HS0.out.at'.mem.hand hO (fun hne q' hq' e => HST.out.mem.hoff hne q' hq' (rowOf_foot hi e))) _ rfl)
  rw [keepI_dirty, HL.out, HN.out] at hdel
  refine hdel.mono ?_
  clear hdel
  rintro e w1 ⟨rfl, hown, hO⟩
  have HX := hidT (HS0.out.trans (HS0.out.at'.setLeft hl3 hi L hO hown))
  have g3 := only_cell' hO HRS.out (by have := (HS0.out.at'.client i hi).2.2.2.1; rw [HN.out] at this; exact this)
  have gf : w1.frozen? ⟨s, 2 + i * 6 + 3, none⟩ = false := frozen_of_heap ((hO.block s HS0.out.at'.lt HRS.out).trans HS0.out.at'.blk) _
  have gx := only_cell' hO HRO.out hbx
  have g0 := only_cell' hO HRS.out (HS0.out.at'.cell 0 _ rfl)
  have l1 := lt_of_cell g3
  have lx := lt_of_cell gx
  have nsx : s ≠ w.heap.size := by omega
  clear hown hO hw0 hbx HS0 c29 d3
  by_cases hLe : L = []
  · subst hLe
    rw [if_pos rfl] at HQ
    go_wp2_with fail
    refine (flush_any A.b p.dev A.an _ HX.out.at'.mem.drv.dev).mono ?_
    rintro e w2 ⟨rfl, hs2⟩
    have HX2 := hidT (HX.out.trans (StkAt.step p.ag HX.out.at'.mem.nb HX.out.at' (HX.out.at'.mem.drv.step hs2) HX.out.at'.mem.map HX.out.at'.mem.im (fun r hr => Rq.Off.step (HX.out.at'.mem.drv.dev.reqs r hr).1 (HX.out.at'.mem.roffX r (List.mem_append_right _ hr)) (off_to (HX.out.at'.mem.drv.step hs2)))))
    clear hs2 g3 gf gx g0 l1 lx
    go_wp2_with fail
    have hans := answer_any s _ _ _ HX2.out.at' (show ((p.setLeft i []).cl).length = 3 by unfold Sk.setLeft; rw [List.length_set]; exact hl3) i hi ByteArray.empty 0
    rw [show errOf 0 = .nilIface from rfl] at hans
    refine hans.mono ?_
    clear hans
    rintro e w7 ⟨rfl, hs7⟩
    have HS7 := hidT (HX2.out.trans hs7)
    clear hs7
    go_wp2
    go_end0
    refine ⟨rfl, _, _, HS7.out, ?_⟩
    rw [← HQ.out]
    show ({ p.nf with dev := p.nf.dev.flush, cl := ((p.cl.set i { p.client i with left := [] }).set i ⟨0, 0, ByteArray.empty, [], ByteArray.empty, 0⟩) } : Sk) = { p.nf with dev := p.nf.dev.flush, cl := (p.cl.set i ⟨0, 0, ByteArray.empty, [], ByteArray.empty, 0⟩) }
    rw [List.set_set]
  · rw [if_neg hLe] at HQ
    have h0 : 0 < L.length := List.length_pos_iff.2 hLe
    have h0' : (0 : Int) < (L.length : Int) := by omega
    clear hLe
    go_wp2
    refine bodyPost_ret (v := .tuple #[]) (by simp [results, Tryz.results76, go_sem]) rfl ?_
    exact ⟨rfl, _, _, HX.out, by rw [← HQ.out]; rfl⟩
theorem serveSync_any (s : Nat) (p : Sk) (A : Sa) (w : World) (h : StkAt s p A w) (hl3 : p.cl.length = 3) (i : Nat) (hi : i < 3) (q : Sk) (hq : p.nf.serveSync i = q) :
    Calls Tryz.prog 76 #[.pointer (some ⟨s, 0, none⟩), .pointer (some ⟨s, 2 + i * 6, none⟩)] w fun e w' => e = .returned (.tuple #[]) ∧ SOk s p A w w' q := by
  cases hd : p.dead
  · exact serveSync_live s p A w h hl3 i hi hd q hq
  · exact serveSync_dead s p A w h hl3 i hi hd q hq
end Go.Proofs.YtgjkdhedkbkagaaGreat
