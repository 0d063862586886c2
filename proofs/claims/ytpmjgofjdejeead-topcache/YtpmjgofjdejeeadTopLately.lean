/- TopLately: the walk. -/
import Derived.Test.YtpmjgofjdejeeadCache13
import Derived.Test.YtpmjgofjdejeeadCache6
namespace Go.Proofs.Ytpmjgofjdejeead
open Go.RowKit Go.BigFrame
attribute [local go_sem] Later.cell Later.frozen

theorem oneAtL {w : World} {b : Nat} (x : Bf) (h0 : w.cell? ⟨b, 0, none⟩ = some (.int .i64 x.pl)) (h1 : w.cell? ⟨b, 1, none⟩ = some (.string x.data)) (h2 : w.cell? ⟨b, 2, none⟩ = some (.bool x.dirty)) (h3 : w.cell? ⟨b, 3, none⟩ = some (.int .i64 x.used)) : BufsAt w (some ⟨b, 0, none⟩) [x] := by
  refine ⟨Or.inr ⟨b, 0, rfl, ?_⟩, by simp⟩
  intro i hi j hj
  obtain rfl : i = 0 := by simp at hi; omega
  match j, hj with
  | 0, _ => simpa [Bf.cell] using h0
  | 1, _ => simpa [Bf.cell] using h1
  | 2, _ => simpa [Bf.cell] using h2
  | 3, _ => simpa [Bf.cell] using h3
theorem onceOneL (x : Bf) : OnceB [x] := by
  intro i j hi hj _
  simp at hi hj; omega
def bfL : Bf := ⟨3, ByteArray.empty, false, 0⟩
def bfL9 : Bf := ⟨3, ByteArray.empty, false, 9⟩
theorem useL0 : useL [bfL] 3 9 = [bfL9] := by simp [useL, bfL, bfL9]

set_option maxHeartbeats 400000 in
theorem none_any (n : Int) (w : World) : Calls Try.prog 17 (#[.int .i64 n] ++ #[]) w fun e w' => e = .returned (.bool false) ∧ Below w.heap.size w w' := by
  show Calls Try.prog 17 #[.int .i64 n] w _
  by_cases h0 : n < -9
  · have h1 : decide (9 < n) = false := decide_eq_false (by omega)
    go_enter Try.func17, Try.ntmps17
    go_wp2
    go_ret
    exact ⟨by simp, by repeat (first | with_reducible exact Below.refl _ _ | with_reducible refine balloc ?_ _ | with_reducible refine bdrew ?_ | with_reducible refine bset' ?_ (by omega) _ | with_reducible refine bthen ?_ (by assumption))⟩
  · go_enter Try.func17, Try.ntmps17
    go_wp2
    go_ret
    exact ⟨rfl, by repeat (first | with_reducible exact Below.refl _ _ | with_reducible refine balloc ?_ _ | with_reducible refine bdrew ?_ | with_reducible refine bset' ?_ (by omega) _ | with_reducible refine bthen ?_ (by assumption))⟩

set_option maxRecDepth 100000 in
set_option maxHeartbeats 4000000 in
theorem tl_walk (l : List Bf) (a : Option Addr) (c : Nat) (x : Bf) (w : World) (hl : BufsAt w a l) (hn : a = none → c = 0) (hd : x.data.size ≤ 9223372036854775807) :
    Calls Try.prog 5 #[.slice a l.length c, x.val] w fun e w' => e = .returned (.bool true) ∧ Below w.heap.size w w' := by
  have hlen := hl.2
  go_enter Try.func5, Try.ntmps5
  go_wp2_with fail
  refine (useG [bfL] (some ⟨w.heap.size + 1, 0, none⟩) 1 3 9 _ (oneAtL bfL (by simp [bfL]) (by simp [bfL]; rfl) (by simp [bfL]) (by simp [bfL])) (by simp) (by simp) (onceOneL _)).mono ?_
  rintro e w1 ⟨a1, c1, rfl, hm1, hcap1, hb1⟩
  rw [useL0] at hm1
  obtain ⟨b1, o1, rfl⟩ := hm1.form.resolve_left (by simp)
  obtain ⟨-, -, -, k3⟩ := hm1.cells (i := 0) (by simp)
  simp only [Nat.zero_mul, Nat.add_zero, List.getElem_cons_zero, bfL9] at k3
  have HB1 : Below w.heap.size w w1 := by repeat (first | with_reducible exact Below.refl _ _ | with_reducible refine balloc ?_ _ | with_reducible refine bdrew ?_ | with_reducible refine bset' ?_ (by omega) _ | with_reducible refine bthen ?_ (by assumption))
  have F1 : FourB w1 w.heap.size x := FourB.later (FourB.later ⟨by simp, by simp, by simp, by simp⟩ (below1 _ _)) hb1
  have hl1 := hl.later HB1
  clear hm1 hb1 hcap1
  obtain ⟨p0, p1, p2, p3⟩ := id F1
  cases hg : goodBB l
  · go_wp2_with fail
    refine (goodb_any l a c _ hl1 _ hg).mono ?_
    rintro e w2 ⟨rfl, hb2⟩
    go_wp2
    go_ret
    exact ⟨rfl, bthen HB1 hb2⟩
  have G := goodB_of hg
  go_wp2_with fail
  refine (goodb_any l a c _ hl1 _ hg).mono ?_
  rintro e w2 ⟨rfl, hb2⟩
  have F2 := F1.later hb2
  have HB2 := bthen HB1 hb2
  have hl2 := hl1.later hb2
  clear F1 HB1 hl1 hb2 p0 p1 p2 p3 k3 hg
  obtain ⟨p0, p1, p2, p3⟩ := id F2
  by_cases q1 : x.pl < 0
  · go_wp2
    go_ret
    exact ⟨rfl, HB2⟩
  by_cases q2 : 32 ≤ x.pl
  · go_wp2
    go_ret
    exact ⟨rfl, HB2⟩
  by_cases q3 : 10 < x.data.size
  · go_wp2
    go_ret
    exact ⟨rfl, HB2⟩
  have HG := hidB G
  clear G
  go_wp2_with fail
  refine (put_any 17 (by intro args w; go_simp) #[] (fun _ => false) l a c x _ hl2 hn HG.out.len (fun n w' _ => none_any n w')).mono ?_
  rintro e w3 ⟨hout, hb3⟩
  have HB3 := bthen HB2 hb3
  have hl3 := hl2.later hb3
  clear HB2 hl2 hb3 F2 p0 p1 p2 p3
  rcases hout with ⟨m, a3, c3, hP, rfl, hm3, -⟩ | ⟨-, -, -, rfl⟩
  · have HP := hidB (fun i hi => hP.lately (fun _ => rfl) i hi)
    clear hP
    go_wp2_with fail
    go_loopw [8] (fun i wr => ∃ k : Nat, k ≤ l.length ∧ i = .int .i64 k ∧ Below w3.heap.size w3 wr) (fun i _ => l.length - (intOf i).toNat)
    case atStart => exact ⟨0, by omega, rfl, Below.refl _ _⟩
    case round =>
      obtain ⟨k, hk, rfl, HB⟩ := hrel
      by_cases hlt : k < l.length
      · have h0 : l ≠ [] := by rintro rfl; exact absurd hlt (Nat.not_lt_zero _)
        obtain ⟨b, o, rfl⟩ := hl3.form.resolve_left h0
        have hl4 := hl3.later HB
        have hm4 := hm3.later HB
        obtain ⟨c0, c1, c2, c3⟩ := hl4.cells hlt
        clear h0 hl3 hm3 hn
        rcases HP.out k hlt with ⟨j, hj, hij⟩ | ⟨hij, hno⟩
        · go_wp2_with fail
          refine (get_yes m a3 _ l[k].pl _ hm4 j hj hij).mono ?_
          rintro e w5 ⟨rfl, hb5⟩
          go_wp2
          go_roundw
          case rel => exact ⟨k + 1, by omega, by go_num, by repeat (first | with_reducible exact Below.refl _ _ | with_reducible refine balloc ?_ _ | with_reducible refine bdrew ?_ | with_reducible refine bset' ?_ (by omega) _ | with_reducible refine bthen ?_ (by assumption))⟩
          case measure => simp [intOf]; omega
        · have HN := hidB hno
          clear hno
          go_wp2_with fail
          refine (get_no m a3 _ l[k].pl _ hm4 hij).mono ?_
          rintro e w5 ⟨rfl, hb5⟩
          have HB5 := bthen HB hb5
          have hl5 := hl4.later hb5
          clear hb5 hm4 hl4 c0 c1 c2 c3 HB hij
          go_wp2_with fail
          go_loopw [11] (fun i wr => ∃ n : Nat, n ≤ l.length ∧ i = .int .i64 n ∧ Below w5.heap.size w5 wr) (fun i _ => l.length - (intOf i).toNat)
          case atStart => exact ⟨0, by omega, rfl, by repeat (first | with_reducible exact Below.refl _ _ | with_reducible refine balloc ?_ _ | with_reducible refine bdrew ?_ | with_reducible refine bset' ?_ (by omega) _ | with_reducible refine bthen ?_ (by assumption))⟩
          case round =>
            obtain ⟨n, hn, rfl, HB⟩ := hrel
            by_cases hlt' : n < l.length
            · have hl6 := hl5.later HB
              obtain ⟨c0, c1, c2, c3⟩ := hl6.cells hlt'
              obtain ⟨d0, d1, d2, d3⟩ := hl6.cells hlt
              have l0 := ltB_of_cell c0
              have HW := hidB HB
              have hu := HN.out n hlt'
              clear HB hl6 HN
              cases hdd : l[n].dirty
              · have hu := hu hdd
                rw [hdd] at c2
                clear hdd
                go_wp2_with fail
                refine wp_region_later (by first | exact HB | exact bdrew HB | exact Below.refl _ _) (by kernel_rfl) (by kernel_rfl) ?_
                repeat (go_big_quiet_step (first | exact rfl | fail))
                refine wpQuiet_nil ?_; intro _ hw'; obtain ⟨p, hw''⟩ := hw'; subst hw''; (try clear hc hf hz); (try clear HB); have HB := p.below; obtain ⟨hc, hf, hz⟩ := bcell HB
                go_wp2
                go_roundw
                case rel => exact ⟨n + 1, by omega, by go_num, bthen HW.out HB⟩
                case measure => simp [intOf]; omega
              · rw [hdd] at c2
                clear hdd hu
                go_wp2_with fail
                refine wp_region_later (by first | exact HB | exact bdrew HB | exact Below.refl _ _) (by kernel_rfl) (by kernel_rfl) ?_
                repeat (go_big_quiet_step (first | exact rfl | fail))
                refine wpQuiet_nil ?_; intro _ hw'; obtain ⟨p, hw''⟩ := hw'; subst hw''; (try clear hc hf hz); (try clear HB); have HB := p.below; obtain ⟨hc, hf, hz⟩ := bcell HB
                go_wp2
                go_roundw
                case rel => exact ⟨n + 1, by omega, by go_num, bthen HW.out HB⟩
                case measure => simp [intOf]; omega
            · go_wp2
              go_roundw
              case rel => exact ⟨k + 1, by omega, by go_num, bthen HB5 HB⟩
              case measure => simp [intOf]; omega
      · go_wp2
        go_ret
        exact ⟨rfl, bthen HB3 HB⟩
  · go_wp2
    go_ret
    exact ⟨rfl, HB3⟩
end Go.Proofs.Ytpmjgofjdejeead
