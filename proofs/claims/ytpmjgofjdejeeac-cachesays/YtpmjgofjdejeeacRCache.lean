/- The document's answer on sectors at hand: GetBuf, DirtyBufs, least, PickBuf, SameBufs; cache.Dirty. -/
import Derived.Test.YtpmjgofjdejeeacCache5
namespace Go.Proofs.Ytpmjgofjdejeeac
open Go.RowKit Go.BigFrame
attribute [local go_sem] Later.cell Later.frozen

set_option maxHeartbeats 1000000 in
theorem rget_no (l : List Bf) (a : Option Addr) (c : Nat) (at' : Int) (w : World) (hl : BufsAt w a l) (h : idxB (plB at') l = -1) :
    Calls Try.prog 36 #[.slice a l.length c, .int .i64 at'] w fun e w' => e = .returned (.tuple #[noBuf, .bool false]) ∧ Below w.heap.size w w' := by
  have hb3 := hl.2
  have hno : ∀ j (hj : j < l.length), (l[j].pl == at') = false := by
    rcases idx_spec (plB at') l with ⟨_, h1⟩ | ⟨k, hk, e, _⟩
    · exact h1
    · rw [h] at e; omega
  have HN := hidB hno
  clear hno h
  go_enter Try.func36, Try.ntmps36
  go_wp2
  go_loopw [6] (fun i wr => ∃ k : Nat, k ≤ l.length ∧ i = .int .i64 k ∧ Below (w.alloc (.cells #[.int .i64 0, .string ⟨#[]⟩, .bool false, .int .i64 0] 72)).heap.size (w.alloc (.cells #[.int .i64 0, .string ⟨#[]⟩, .bool false, .int .i64 0] 72)) wr) (fun i _ => l.length - (intOf i).toNat)
  case atStart => exact ⟨0, by omega, rfl, Below.refl _ _⟩
  case round =>
    obtain ⟨k, hk, rfl, HB⟩ := hrel
    obtain ⟨⟨m0, m1, m2, m3⟩, ⟨f0, f1, f2, f3⟩, hz⟩ := quadNew HB
    have HB1 : Below w.heap.size w wr := bthen (below1 _ _) HB
    by_cases hlt : k < l.length
    · have h0 : l ≠ [] := by rintro rfl; exact absurd hlt (Nat.not_lt_zero _)
      obtain ⟨b, o, rfl⟩ := hl.form.resolve_left h0
      obtain ⟨c0, c1, c2, c3⟩ := (hl.later HB1).cells hlt
      have hk' := HN.out k hlt
      clear HN h0
      go_wp2
      go_roundw
      case rel => exact ⟨k + 1, by omega, by go_num, HB⟩
      case measure => simp [intOf]; omega
    · clear HB
      go_wp2
      refine bodyPost_ret (v := .tuple #[noBuf, .bool false]) ?_ rfl ⟨rfl, by repeat (first | with_reducible exact Below.refl _ _ | with_reducible refine balloc ?_ _ | with_reducible refine bdrew ?_ | with_reducible refine bset' ?_ (by omega) _ | with_reducible refine bthen ?_ (by assumption))⟩
      simp [results, Try.results36, go_sem, m0, m1, m2, m3]
set_option maxHeartbeats 1000000 in
theorem rget_yes (l : List Bf) (a : Option Addr) (c : Nat) (at' : Int) (w : World) (hl : BufsAt w a l) (j : Nat) (hj : j < l.length) (h : idxB (plB at') l = j) :
    Calls Try.prog 36 #[.slice a l.length c, .int .i64 at'] w fun e w' => e = .returned (.tuple #[l[j].val, .bool true]) ∧ Below w.heap.size w w' := by
  have hb3 := hl.2
  have hno : (l[j].pl == at') = true ∧ ∀ i (hi : i < j), ((l[i]'(by omega)).pl == at') = false := by
    rcases idx_spec (plB at') l with ⟨e, _⟩ | ⟨k, hk, e, h1, h2⟩
    · rw [h] at e; omega
    · have : k = j := by rw [h] at e; omega
      subst this; exact ⟨h1, h2⟩
  obtain ⟨hyes, hno⟩ := hno
  have hno' : ∀ i (hi : i < l.length), i < j → (l[i].pl == at') = false := fun i _ hij => hno i hij
  have HN := hidB hno'
  have HY := hidB hyes
  clear hno hno' hyes h
  have h0 : l ≠ [] := by rintro rfl; exact absurd hj (Nat.not_lt_zero _)
  obtain ⟨b, o, rfl⟩ := hl.form.resolve_left h0
  have lb := ltB_of_cell (hl.cells hj).1
  clear h0
  go_enter Try.func36, Try.ntmps36
  go_wp2
  go_loopw [6] (fun i wr => ∃ k : Nat, k ≤ j ∧ i = .int .i64 k ∧ Below (w.alloc (.cells #[.int .i64 0, .string ⟨#[]⟩, .bool false, .int .i64 0] 72)).heap.size (w.alloc (.cells #[.int .i64 0, .string ⟨#[]⟩, .bool false, .int .i64 0] 72)) wr) (fun i _ => l.length - (intOf i).toNat)
  case atStart => exact ⟨0, by omega, rfl, Below.refl _ _⟩
  case round =>
    obtain ⟨k, hk, rfl, HB⟩ := hrel
    obtain ⟨⟨m0, m1, m2, m3⟩, ⟨f0, f1, f2, f3⟩, hz⟩ := quadNew HB
    have HB1 : Below w.heap.size w wr := bthen (below1 _ _) HB
    have hlt : k < l.length := by omega
    obtain ⟨c0, c1, c2, c3⟩ := (hl.later HB1).cells hlt
    have l0 := ltB_of_cell c0
    have n1 : b ≠ w.heap.size := by omega
    by_cases hkj : k = j
    · subst hkj
      have hk' := HY.out
      clear HN HY HB
      go_wp2
      refine bodyPost_ret (v := .tuple #[l[k].val, .bool true]) ?_ rfl ⟨rfl, by repeat (first | with_reducible exact Below.refl _ _ | with_reducible refine balloc ?_ _ | with_reducible refine bdrew ?_ | with_reducible refine bset' ?_ (by omega) _ | with_reducible refine bthen ?_ (by assumption))⟩
      simp [results, Try.results36, go_sem, m0, m1, m2, m3]
    · have hk' := HN.out k hlt (by omega)
      clear HN HY
      go_wp2
      go_roundw
      case rel => exact ⟨k + 1, by omega, by go_num, HB⟩
      case measure => simp [intOf]; omega

/-- How many of the first k are dirty. -/
def dirtyN (l : List Bf) : Nat → Nat
  | 0 => 0
  | k + 1 => match l[k]? with | some x => (if x.dirty then dirtyN l k + 1 else dirtyN l k) | none => dirtyN l k
theorem dirtyN_yes {l : List Bf} {k : Nat} (h : k < l.length) (hd : l[k].dirty = true) : dirtyN l (k + 1) = dirtyN l k + 1 := by
  rw [dirtyN, List.getElem?_eq_getElem h]; simp [hd]
theorem dirtyN_no {l : List Bf} {k : Nat} (h : k < l.length) (hd : l[k].dirty = false) : dirtyN l (k + 1) = dirtyN l k := by
  rw [dirtyN, List.getElem?_eq_getElem h]; simp [hd]
theorem dirtyN_le (l : List Bf) (k : Nat) : dirtyN l k ≤ k := by
  induction k with
  | zero => exact Nat.le_refl _
  | succ k ih =>
    rw [dirtyN]
    split
    · split <;> omega
    · omega
set_option maxHeartbeats 1000000 in
theorem rdirty (l : List Bf) (a : Option Addr) (c : Nat) (w : World) (hl : BufsAt w a l) (n : Nat) (hn : dirtyN l l.length = n) :
    Calls Try.prog 41 #[.slice a l.length c] w fun e w' => e = .returned (.int .i64 n) ∧ Below w.heap.size w w' := by
  subst hn
  have hb3 := hl.2
  go_enter Try.func41, Try.ntmps41
  go_wp2
  go_loopw [3, 4] (fun n i wr => ∃ k : Nat, k ≤ l.length ∧ i = .int .i64 k ∧ n = .int .i64 (dirtyN l k) ∧ Below w.heap.size w wr) (fun n i _ => l.length - (intOf i).toNat)
  case atStart => exact ⟨0, by omega, rfl, rfl, by repeat (first | with_reducible exact Below.refl _ _ | with_reducible refine balloc ?_ _ | with_reducible refine bdrew ?_ | with_reducible refine bset' ?_ (by omega) _ | with_reducible refine bthen ?_ (by assumption))⟩
  case round =>
    obtain ⟨k, hk, rfl, rfl, HB⟩ := hrel
    have hd := dirtyN_le l k
    by_cases hlt : k < l.length
    · have h0 : l ≠ [] := by rintro rfl; exact absurd hlt (Nat.not_lt_zero _)
      obtain ⟨b, o, rfl⟩ := hl.form.resolve_left h0
      obtain ⟨c0, c1, c2, c3⟩ := (hl.later HB).cells hlt
      clear h0
      cases hdd : l[k].dirty
      · have HD := hidB (dirtyN_no hlt hdd)
        rw [hdd] at c2
        clear hdd
        go_wp2
        go_roundw
        case rel => exact ⟨k + 1, by omega, by go_num, by rw [HD.out], by repeat (first | with_reducible exact Below.refl _ _ | with_reducible refine balloc ?_ _ | with_reducible refine bdrew ?_ | with_reducible refine bset' ?_ (by omega) _ | with_reducible refine bthen ?_ (by assumption))⟩
        case measure => simp [intOf]; omega
      · have HD := hidB (dirtyN_yes hlt hdd)
        rw [hdd] at c2
        clear hdd
        go_wp2
        go_roundw
        case rel => exact ⟨k + 1, by omega, by go_num, by rw [HD.out]; go_num, by repeat (first | with_reducible exact Below.refl _ _ | with_reducible refine balloc ?_ _ | with_reducible refine bdrew ?_ | with_reducible refine bset' ?_ (by omega) _ | with_reducible refine bthen ?_ (by assumption))⟩
        case measure => simp [intOf]; omega
    · obtain rfl : k = l.length := by omega
      go_wp2
      go_ret
      exact ⟨rfl, by repeat (first | with_reducible exact Below.refl _ _ | with_reducible refine balloc ?_ _ | with_reducible refine bdrew ?_ | with_reducible refine bset' ?_ (by omega) _ | with_reducible refine bthen ?_ (by assumption))⟩
set_option maxHeartbeats 1000000 in
theorem dirty_any (l : List Bf) (a : Option Addr) (c : Nat) (w : World) (hl : BufsAt w a l) (n : Nat) (hn : dirtyN l l.length = n) :
    Calls Try.prog 40 #[.slice a l.length c] w fun e w' => e = .returned (.int .i64 n) ∧ Below w.heap.size w w' := by
  subst hn
  have hb3 := hl.2
  go_enter Try.func40, Try.ntmps40
  go_wp2
  go_loopw [3, 8] (fun n i wr => ∃ k : Nat, k ≤ l.length ∧ i = .int .i64 k ∧ n = .int .i64 (dirtyN l k) ∧ Below w.heap.size w wr) (fun n i _ => l.length - (intOf i).toNat)
  case atStart => exact ⟨0, by omega, rfl, rfl, by repeat (first | with_reducible exact Below.refl _ _ | with_reducible refine balloc ?_ _ | with_reducible refine bdrew ?_ | with_reducible refine bset' ?_ (by omega) _ | with_reducible refine bthen ?_ (by assumption))⟩
  case round =>
    obtain ⟨k, hk, rfl, rfl, HB⟩ := hrel
    have hd := dirtyN_le l k
    by_cases hlt : k < l.length
    · have h0 : l ≠ [] := by rintro rfl; exact absurd hlt (Nat.not_lt_zero _)
      obtain ⟨b, o, rfl⟩ := hl.form.resolve_left h0
      obtain ⟨c0, c1, c2, c3⟩ := (hl.later HB).cells hlt
      clear h0
      cases hdd : l[k].dirty
      · have HD := hidB (dirtyN_no hlt hdd)
        rw [hdd] at c2
        clear hdd
        go_wp2
        go_roundw
        case rel => exact ⟨k + 1, by omega, by go_num, by rw [HD.out], by repeat (first | with_reducible exact Below.refl _ _ | with_reducible refine balloc ?_ _ | with_reducible refine bdrew ?_ | with_reducible refine bset' ?_ (by omega) _ | with_reducible refine bthen ?_ (by assumption))⟩
        case measure => simp [intOf]; omega
      · have HD := hidB (dirtyN_yes hlt hdd)
        rw [hdd] at c2
        clear hdd
        go_wp2
        go_roundw
        case rel => exact ⟨k + 1, by omega, by go_num, by rw [HD.out]; go_num, by repeat (first | with_reducible exact Below.refl _ _ | with_reducible refine balloc ?_ _ | with_reducible refine bdrew ?_ | with_reducible refine bset' ?_ (by omega) _ | with_reducible refine bthen ?_ (by assumption))⟩
        case measure => simp [intOf]; omega
    · obtain rfl : k = l.length := by omega
      go_wp2
      go_ret
      exact ⟨rfl, by repeat (first | with_reducible exact Below.refl _ _ | with_reducible refine balloc ?_ _ | with_reducible refine bdrew ?_ | with_reducible refine bset' ?_ (by omega) _ | with_reducible refine bthen ?_ (by assumption))⟩

set_option maxHeartbeats 1000000 in
/-- Equal lists. -/
theorem sameb (l : List Bf) (a a' : Option Addr) (c c' : Nat) (w : World) (hl : BufsAt w a l) (hl' : BufsAt w a' l) :
    Calls Try.prog 37 #[.slice a l.length c, .slice a' l.length c'] w fun e w' => e = .returned (.bool true) ∧ Below w.heap.size w w' := by
  have hb3 := hl.2
  go_enter Try.func37, Try.ntmps37
  go_wp2
  go_loopw [5] (fun i wr => ∃ k : Nat, k ≤ l.length ∧ i = .int .i64 k ∧ Below w.heap.size w wr) (fun i _ => l.length - (intOf i).toNat)
  case atStart => exact ⟨0, by omega, rfl, by repeat (first | with_reducible exact Below.refl _ _ | with_reducible refine balloc ?_ _ | with_reducible refine bdrew ?_ | with_reducible refine bset' ?_ (by omega) _ | with_reducible refine bthen ?_ (by assumption))⟩
  case round =>
    obtain ⟨k, hk, rfl, HB⟩ := hrel
    by_cases hlt : k < l.length
    · have h0 : l ≠ [] := by rintro rfl; exact absurd hlt (Nat.not_lt_zero _)
      obtain ⟨b, o, rfl⟩ := hl.form.resolve_left h0
      obtain ⟨b', o', rfl⟩ := hl'.form.resolve_left h0
      obtain ⟨c0, c1, c2, c3⟩ := (hl.later HB).cells hlt
      obtain ⟨d0, d1, d2, d3⟩ := (hl'.later HB).cells hlt
      have l0 := ltB_of_cell c0
      have l1 := ltB_of_cell d0
      have hgd : Try.prog.eqGuardType Try.prog.depth 72 = false := by kernel_rfl
      have hq : ∀ w, (binOp .neq 72 (.agg #[.int .i64 l[k].pl, .string l[k].data, .bool l[k].dirty, .int .i64 l[k].used]) (.agg #[.int .i64 l[k].pl, .string l[k].data, .bool l[k].dirty, .int .i64 l[k].used])).run Try.prog w = .ok (.bool false) w := fun w => neqSelf l[k] w
      have HW := hidB HB
      clear h0 HB
      go_wp2_with fail
      refine wp_region_later (by first | exact HB | exact bdrew HB | exact Below.refl _ _) (by kernel_rfl) (by kernel_rfl) ?_
      repeat (go_big_quiet_step (first | exact rfl | fail))
      refine wpQuiet_nil ?_; intro _ hw'; obtain ⟨p, hw''⟩ := hw'; subst hw''; (try clear hc hf hz); (try clear HB); have HB := p.below; obtain ⟨hc, hf, hz⟩ := bcell HB
      go_wp2
      go_roundw
      case rel => exact ⟨k + 1, by omega, by go_num, bthen HW.out HB⟩
      case measure => simp [intOf]; omega
    · go_wp2
      go_ret
      exact ⟨rfl, by repeat (first | with_reducible exact Below.refl _ _ | with_reducible refine balloc ?_ _ | with_reducible refine bdrew ?_ | with_reducible refine bset' ?_ (by omega) _ | with_reducible refine bthen ?_ (by assumption))⟩
end Go.Proofs.Ytpmjgofjdejeeac
