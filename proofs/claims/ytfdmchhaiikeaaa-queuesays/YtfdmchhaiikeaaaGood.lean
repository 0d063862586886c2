/- ReqFault of any request; GoodReqs: each may be, and no two have a sector in common. -/
import Derived.Test.YtfdmchhaiikeaaaFault
import Derived.Test.YtfdmchhaiikeaaaSame2
namespace Go.Proofs.Ytfdmchhaiikeaaa
open Go.RowKit Go.BigFrame
attribute [local go_sem] Later.cell Later.frozen

def shapeB (r : Rq) : Bool := if r.wr then decide ((r.data.length : Int) = r.m) else decide (r.data.length = 0)
def faultR (r : Rq) : Int :=
  if okB r.f r.m 4 = false then 1 else if shapeB r = false then 3 else if r.tags.length < 1 ∨ 4 < r.tags.length then 3 else if r.born < 0 ∨ 1000000000 < r.born then 1 else faultB (small4 r)

theorem shape_iff (r : Rq) : shapeBad r ↔ shapeB r = false := by
  unfold shapeBad shapeB
  cases r.wr
  · simp [List.length_pos_iff]
  · simp

theorem rfault_any (r : Rq) (w : World) (hr : r.At w) (n : Int) (hn : faultR r = n) :
    Calls Try.prog 31 #[r.val] w fun e w' => e = .returned (.int .i64 n) ∧ Below w.heap.size w w' := by
  subst hn
  unfold faultR
  by_cases h : okB r.f r.m 4 = false
  · rw [if_pos h]; exact rfault_span r w h
  · rw [if_neg h]
    have h' : okB r.f r.m 4 = true := by simpa using h
    by_cases h2 : shapeB r = false
    · rw [if_pos h2]; exact rfault_shape r w hr h' ((shape_iff r).2 h2)
    · rw [if_neg h2]
      have h2' : ¬ shapeBad r := fun k => h2 ((shape_iff r).1 k)
      by_cases h3 : r.tags.length < 1 ∨ 4 < r.tags.length
      · rw [if_pos h3]; exact rfault_tags r w hr h' h2' h3
      · rw [if_neg h3]
        by_cases h4 : r.born < 0 ∨ 1000000000 < r.born
        · rw [if_pos h4]; exact rfault_born r w hr h' h2' h3 h4
        · rw [if_neg h4]; exact rfault_data r w hr ⟨h', h2', h3, h4⟩

/-- A request that may be. -/
def goodR (r : Rq) : Bool := decide (faultR r = 0)
structure Good (r : Rq) : Prop where
  ok : okB r.f r.m 4 = true
  shape : shapeB r = true
  t1 : 1 ≤ r.tags.length
  t4 : r.tags.length ≤ 4
  b0 : 0 ≤ r.born
  b1 : r.born ≤ 1000000000
  small : small4 r = true
theorem good_iff (r : Rq) : faultR r = 0 ↔ Good r := by
  unfold faultR
  constructor
  · intro h
    split at h
    · cases h
    split at h
    · cases h
    split at h
    · cases h
    split at h
    · cases h
    rename_i h1 h2 h3 h4
    have h5 : small4 r = true := by
      cases e : small4 r
      · rw [e] at h; cases h
      · rfl
    exact ⟨by simpa using h1, by simpa using h2, by omega, by omega, by omega, by omega, h5⟩
  · intro ⟨h1, h2, h3, h4, h5, h6, h7⟩
    rw [if_neg (by simp [h1]), if_neg (by simp [h2]), if_neg (by omega), if_neg (by omega), h7]; rfl
theorem fault_pos (r : Rq) (h : ¬ faultR r = 0) : 0 < faultR r := by
  unfold faultR at *
  split
  · decide
  split
  · decide
  split
  · decide
  split
  · decide
  rename_i h1 h2 h3 h4
  rw [if_neg h1, if_neg h2, if_neg h3, if_neg h4] at h
  cases e : small4 r
  · decide
  · rw [e] at h; exact absurd rfl h
theorem ok4_32 {f m : Int} (h : okB f m 4 = true) : okB f m 32 = true := by
  simp only [okB, decide_eq_true_eq] at *; omega

def goodAt (l : List Rq) (i : Nat) : Bool := match l[i]? with | some r => goodR r | none => true
def pairB (l : List Rq) (i j : Nat) : Bool := match l[i]?, l[j]? with | some r, some s => !meetB r.f r.m s.f s.m | _, _ => true
def rowB (l : List Rq) (i : Nat) : Bool := goodAt l i && (List.range i).all (pairB l i)
def goodsB (l : List Rq) : Bool := (List.range l.length).all (rowB l)

theorem range_step {p : Nat → Bool} {k : Nat} (h : (List.range k).all p = true) (hk : p k = true) : (List.range (k + 1)).all p = true := by
  rw [List.range_succ, List.all_append, h]; simp [hk]
theorem range_stop {p : Nat → Bool} {k n : Nat} (h : k < n) (hk : p k = false) : (List.range n).all p = false := by
  rw [List.all_eq_false]; exact ⟨k, by simpa using h, by rw [hk]; exact Bool.false_ne_true⟩

/-- Each may be, and no two have a sector in common. -/
structure Goods (l : List Rq) : Prop where
  good : ∀ i (h : i < l.length), Good l[i]
  apart : ∀ i j (hi : i < l.length) (hj : j < i), meetB l[i].f l[i].m (l[j]'(by omega)).f (l[j]'(by omega)).m = false
theorem goods_of {l : List Rq} (h : goodsB l = true) : Goods l := by
  simp only [goodsB, List.all_eq_true, List.mem_range, rowB, Bool.and_eq_true] at h
  refine ⟨fun i hi => ?_, fun i j hi hj => ?_⟩
  · have := (h i hi).1
    simp only [goodAt, List.getElem?_eq_getElem hi, goodR, decide_eq_true_eq] at this
    exact (good_iff _).1 this
  · have := (h i hi).2 j hj
    simp only [pairB, List.getElem?_eq_getElem hi, List.getElem?_eq_getElem (show j < l.length by omega)] at this
    simpa using this

set_option maxHeartbeats 2000000 in
theorem goods_any (l : List Rq) (a : Option Addr) (c : Nat) (w : World) (hl : ReqsAt w a l) :
    Calls Try.prog 18 #[.slice a l.length c] w fun e w' => e = .returned (.bool (goodsB l)) ∧ Below w.heap.size w w' := by
  have hb3 := hl.2.2
  rcases hl.form with rfl | ⟨b, o, rfl⟩
  · go_enter Try.func18, Try.ntmps18; go_wp2; go_loop [3] (fun i => i = .int .i64 0) (fun _ => 0); (case atStart => rfl); (case round => subst hrel; go_wp2; go_ret; exact ⟨rfl, by repeat (first | with_reducible exact Below.refl _ _ | with_reducible refine balloc ?_ _ | with_reducible refine bdrew ?_ | with_reducible refine bset' ?_ (by omega) _ | with_reducible refine bthen ?_ (by assumption))⟩)
  go_enter Try.func18, Try.ntmps18
  go_wp2
  go_loopw [3] (fun i wr => ∃ k : Nat, k ≤ l.length ∧ i = .int .i64 k ∧ (List.range k).all (rowB l) = true ∧ Below w.heap.size w wr) (fun i _ => l.length - (intOf i).toNat)
  case atStart => exact ⟨0, by omega, rfl, rfl, Below.refl _ _⟩
  case round =>
    obtain ⟨k, hk, rfl, hall, HB⟩ := hrel
    have HL : Hid ((List.range k).all (rowB l) = true) := hall
    clear hall
    by_cases hlt : k < l.length
    · obtain ⟨c0, c1, c2, c3, c4, c5⟩ := hl.cells hlt
      have l0 := lt_of_cell c0
      have hr : l[k].At wr := Rq.At.of hl hlt HB
      obtain ⟨hc, hf, hz⟩ := bcell HB
      by_cases hg : faultR l[k] = 0
      · have hgood := (good_iff _).1 hg
        have HG : Hid (goodAt l k = true) := by simp [Hid, goodAt, hlt, goodR, hg]
        have hok := ok4_32 hgood.ok
        clear hgood
        go_wp2_with (go_at_call 31; refine (rfault_any _ _ hr _ hg).mono ?_; rintro e w1 ⟨rfl, hb⟩; (try clear hc hf hz); (first | replace HB := bthen HB hb | replace HB := bthen (bdrew HB) hb | have HB := hb); clear hb; obtain ⟨hc, hf, hz⟩ := bcell HB)
        clear hc hf hz hr
        go_loopw [4] (fun i wi => ∃ j : Nat, j ≤ k ∧ i = .int .i64 j ∧ (List.range j).all (pairB l k) = true ∧ Below w.heap.size w wi) (fun i _ => k - (intOf i).toNat)
        case atStart => exact ⟨0, by omega, rfl, rfl, HB⟩
        case round =>
          clear HB
          obtain ⟨j, hj, rfl, hall, HB⟩ := hrel
          have HJ : Hid ((List.range j).all (pairB l k) = true) := hall
          clear hall
          by_cases hjk : j < k
          · have hjl : j < l.length := by omega
            obtain ⟨d0, d1, d2, d3, d4, d5⟩ := hl.cells hjl
            have hok2 : okB l[j].f l[j].m 32 = true := by
              have h1 := HL.out
              simp only [List.all_eq_true, List.mem_range, rowB, Bool.and_eq_true] at h1
              have h2 := (h1 j hjk).1
              simp only [goodAt, List.getElem?_eq_getElem hjl, goodR, decide_eq_true_eq] at h2
              exact ok4_32 ((good_iff _).1 h2).ok
            cases hm : meetB l[k].f l[k].m l[j].f l[j].m
            · go_wp2_with fail
              refine wp_region_later (by first | exact HB | exact bdrew HB | exact Below.refl _ _) (by kernel_rfl) (by kernel_rfl) ?_
              repeat (go_big_quiet_step (first | exact rfl | (go_at_call 12; exact calls_later (rmeet_any _ _ _ _ _ hok hok2 _ hm))))
              refine wpQuiet_nil ?_; intro _ hw'; obtain ⟨p, hw''⟩ := hw'; subst hw''; (try clear hc hf hz); (try clear HB); have HB := p.below; obtain ⟨hc, hf, hz⟩ := bcell HB
              go_wp2
              go_roundw
              case rel => exact ⟨j + 1, by omega, by go_num, range_step HJ.out (by simp [pairB, hlt, hjl, hm]), HB⟩
              case measure => simp [intOf]; omega
            · go_wp2_with fail
              refine wp_region_later (by first | exact HB | exact bdrew HB | exact Below.refl _ _) (by kernel_rfl) (by kernel_rfl) ?_
              repeat (go_big_quiet_step (first | exact rfl | (go_at_call 12; exact calls_later (rmeet_any _ _ _ _ _ hok hok2 _ hm))))
              refine wpQuiet_nil ?_; intro _ hw'; obtain ⟨p, hw''⟩ := hw'; subst hw''; (try clear hc hf hz); (try clear HB); have HB := p.below; obtain ⟨hc, hf, hz⟩ := bcell HB
              go_wp2
              go_ret
              exact ⟨ret_bool (range_stop hlt (by rw [rowB, range_stop hjk (by simp [pairB, hlt, hjl, hm]), Bool.and_false])).symm, by repeat (first | with_reducible exact Below.refl _ _ | with_reducible refine balloc ?_ _ | with_reducible refine bdrew ?_ | with_reducible refine bset' ?_ (by omega) _ | with_reducible refine bthen ?_ (by assumption))⟩
          · go_wp2
            go_roundw
            case rel => exact ⟨k + 1, by omega, by go_num, range_step HL.out (by rw [show j = k by omega] at HJ; rw [rowB, HJ.out, HG.out]; rfl), HB⟩
            case measure => simp [intOf]; omega
      · have hpos := fault_pos _ hg
        have HG : Hid (goodAt l k = false) := by simp [Hid, goodAt, hlt, goodR, hg]
        go_wp2_with (go_at_call 31; refine (rfault_any _ _ hr _ rfl).mono ?_; rintro e w1 ⟨rfl, hb⟩; (try clear hc hf hz); (first | replace HB := bthen HB hb | replace HB := bthen (bdrew HB) hb | have HB := hb); clear hb; obtain ⟨hc, hf, hz⟩ := bcell HB)
        go_ret
        exact ⟨ret_bool (range_stop hlt (by rw [rowB, HG.out, Bool.false_and])).symm, by repeat (first | with_reducible exact Below.refl _ _ | with_reducible refine balloc ?_ _ | with_reducible refine bdrew ?_ | with_reducible refine bset' ?_ (by omega) _ | with_reducible refine bthen ?_ (by assumption))⟩
    · go_wp2
      go_ret
      exact ⟨ret_bool (by rw [show k = l.length by omega] at HL; exact HL.out.symm), by repeat (first | with_reducible exact Below.refl _ _ | with_reducible refine balloc ?_ _ | with_reducible refine bdrew ?_ | with_reducible refine bset' ?_ (by omega) _ | with_reducible refine bthen ?_ (by assumption))⟩
end Go.Proofs.Ytfdmchhaiikeaaa
