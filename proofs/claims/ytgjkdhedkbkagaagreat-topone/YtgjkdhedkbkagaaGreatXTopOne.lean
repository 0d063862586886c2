/- TopOne: of a sector never two requests wait, or are at the disk. The walk. -/
import Derived.Test.YtgjkdhedkbkagaaGreatJ39
namespace Go.Proofs.YtgjkdhedkbkagaaGreat
open Go.RowKit Go.BigFrame Go.Maps
set_option maxRecDepth 100000
attribute [local go_sem] Later.cell Later.frozen

/-- The spans of requests in a row. -/
def SpansAt (w : World) (a : Option Addr) (l : List Rq) : Prop := l = [] ∨ ∃ g, a = some ⟨g, 0, none⟩ ∧ ∀ i (h : i < l.length), w.cell? ⟨g, i * 6 + 1, none⟩ = some (.int .i64 l[i].f) ∧ w.cell? ⟨g, i * 6 + 1 + 1, none⟩ = some (.int .i64 l[i].m)
theorem SpansAt.later {w w' : World} {a : Option Addr} {l : List Rq} (h : SpansAt w a l) (hb : Below w.heap.size w w') : SpansAt w' a l := by
  rcases h with h | ⟨g, ha, hc⟩
  · exact Or.inl h
  · exact Or.inr ⟨g, ha, fun i hi => ⟨cellB_later' hb (hc i hi).1, cellB_later' hb (hc i hi).2⟩⟩
theorem spans_of_owned {w : World} {base e : Nat} {v : Value} {l : List Rq} {n : Nat} (h : w.ownsRow base e 6 v n (rcells l)) (hn : n = l.length) : ∃ a c, v = .slice a l.length c ∧ SpansAt w a l := by
  subst hn
  rcases h.2 with ⟨rfl, h0⟩ | ⟨g, cap, cur, rfl, hg, hh, hnc, hcm, hcs, ht⟩
  · exact ⟨none, 0, by rw [h0], Or.inl (List.eq_nil_of_length_eq_zero h0)⟩
  · refine ⟨some ⟨g, 0, none⟩, cap, rfl, Or.inr ⟨g, rfl, fun i hi => ⟨?_, ?_⟩⟩⟩
    · have hx := rcells_at l i 1 hi (by omega)
      have hc := h.cellAt (i * 6 + 1) (by omega)
      rw [hc, hx]; rfl
    · have hx := rcells_at l i 2 hi (by omega)
      have hc := h.cellAt (i * 6 + 2) (by omega)
      rw [show i * 6 + 1 + 1 = i * 6 + 2 by omega, hc, hx]; rfl
theorem apart_meet {q : Sk} (hI : Inv q) {l : List Rq} (hl : l.map Rq.nf = q.queue ++ q.dev.busy) : ∀ i j (hi : i < l.length) (hj : j < i), meetB l[i].f l[i].m (l[j]'(by omega)).f (l[j]'(by omega)).m = false := by
  intro i j hi hj
  have hp : l.Pairwise apartQ := by have := hI.apart; rw [← hl, List.pairwise_map] at this; exact this
  have hg : ∀ r ∈ l, Good r := fun r hr => (good_nf r).1 (hI.good r.nf (by rw [← hl]; exact List.mem_map.2 ⟨r, hr, rfl⟩))
  have ha := List.pairwise_iff_getElem.1 hp j i (by omega) hi hj
  exact (meets_apart (r := l[j]) (hg _ (List.getElem_mem hi)) (hg _ (List.getElem_mem (by omega)))).2 ha.symm
set_option linter.unusedSimpArgs false in
set_option maxRecDepth 100000 in
set_option maxHeartbeats 8000000 in
theorem topOne_walk (l : List Sp) (la : Option Addr) (lc : Nat) (w : World) (hl : StepsAt w la l) :
    Calls Tryz.prog 4 #[.slice la l.length lc] w fun e w' => e = .returned (.bool true) ∧ Below w.heap.size w w' := by
  obtain ⟨iR, hiR, hz0, hz1, hz2⟩ := pluck infoR
  have HIR := hidT (⟨hiR, hz0, hz1, hz2⟩ : Tryz.prog.info? 44 = some iR ∧ _ ∧ _ ∧ _)
  have HL := hidT hl
  clear hl hiR hz0 hz1 hz2
  go_enter Tryz.func4, Tryz.ntmps4
  go_wp2_with fail
  refine (works_any _).mono ?_
  rintro e w0 ⟨rfl, hb0⟩
  have HB0 := hidT hb0
  clear hb0
  go_wp2_with fail
  cases hb : lightsS l 120
  · refine (lightsS_any l la lc 120 _ (HL.out.later HB0.out) (by omega) false hb).mono ?_
    rintro e w1 ⟨rfl, hb1⟩
    go_wp2
    go_ret
    exact ⟨rfl, bthen HB0.out hb1⟩
  refine (lightsS_any l la lc 120 _ (HL.out.later HB0.out) (by omega) true hb).mono ?_
  rintro e w1 ⟨rfl, hb1⟩
  have h120 := lightsS_len hb
  have HB1 := hidT (bthen HB0.out hb1)
  clear hb1 hb HB0
  go_wp2_with fail
  refine (new_any _).mono ?_
  rintro e w2 ⟨rfl, hd, hb2, -⟩
  have HD := hidT hd
  have HB2 := hidT (bthen HB1.out hb2)
  have HG : Hid (w.heap.size ≤ w1.heap.size) := HB1.out.size
  clear hd hb2
  generalize w1.heap.size = b at *
  go_wp2_with fail
  refine (snew_any w b w2 HD.out HG.out HB2.out).mono ?_
  rintro e w3 ⟨s, rfl, ho⟩
  have HO3 := hidT ho
  clear ho HD HB2 HB1
  go_wp2
  go_loopw [5] (fun i wr => ∃ k : Nat, k ≤ l.length ∧ i = .int .i64 k ∧ Own w s b (sk0.steps (l.take k)) wr) (fun i _ => l.length - (intOf i).toNat)
  case atStart => exact ⟨0, by omega, rfl, HO3.out⟩
  case round =>
    obtain ⟨k, hk, rfl, ho⟩ := hrel
    have HO := hidT ho
    have HBr := ho.bel
    clear ho
    by_cases hlt : k < l.length
    case neg =>
      go_wp2
      go_ret
      exact ⟨rfl, HBr⟩
    have hlt' : (k : Int) < (l.length : Int) := by omega
    rcases HL.out.form with rfl | ⟨bl, ol, rfl⟩
    · exact absurd hlt (Nat.not_lt_zero _)
    obtain ⟨c0, c1, c2, c3⟩ := (HL.out.later HBr).cells hlt
    have HT := hidT (steps_take hlt sk0)
    have HF := hidT (sk0_fit.steps (l.take k))
    have HF2 := hidT (sk0_fit.steps (l.take (k + 1)))
    have HLK : Hid ((l.take k).length ≤ 120) := by show (l.take k).length ≤ 120; rw [List.length_take]; omega
    generalize hx : l[k] = x at *
    clear hx
    go_wp2_with fail
    refine (own_step w wr s b _ _ HO.out HF.out (by have := HLK.out; omega) x ((sk0.steps (l.take k)).doStep x).1 (sk0.steps (l.take (k + 1))) (Prod.ext rfl HT.out.symm)).mono ?_
    generalize errOf ((sk0.steps (l.take k)).doStep x).1 = ev
    rintro e w4 ⟨rfl, ho4⟩
    obtain ⟨q, hq⟩ : ∃ q, sk0.steps (l.take (k + 1)) = q := ⟨_, rfl⟩
    have HO4 := hidT ho4
    rw [hq] at HO4 HF2
    have HQ := hidT hq
    have q6 := HF2.out.inv.q6
    have b2 := HF2.out.inv.b2
    have HI := hidT HF2.out.inv
    have Q6 : Hid (q.queue.length ≤ 1000) := by show q.queue.length ≤ 1000; omega
    clear ho4 hq c0 c1 c2 c3 HO HF HF2
    go_wp2_with fail
    refine (own_queue w w4 s b q HO4.out Q6.out).mono ?_
    rintro e w5 ⟨a5, c5, l5, rfl, hR5, hl5, hn5, hb5⟩
    have HO5 := hidT (HO4.out.later hb5)
    have HN5 : Hid (l5.length = q.queue.length) := by have h1 := congrArg List.length hl5; rw [List.length_map] at h1; exact h1
    have HR5 : Hid (RowAt w5 6 a5 q.queue.length c5 (rcells l5)) := by have := hR5.rowAll' hn5; rw [HN5.out] at this; exact this
    have HL5 := hidT hl5
    clear hb5 hR5 hl5 hn5
    obtain ⟨hiR, hz0, hz1, hz2⟩ := HIR.out
    go_wp2_with (at_builtin; refine wpList_append_row rfl _ _ 35 rfl w5.heap.size 44 iR _ 6 80 Tryz.underlying35 hiR hz0 hz1 hz2 rfl (by decide) (.slice none 0 0) 0 [] rfl (World.ownsRow_nil _ _ _ _) a5 q.queue.length c5 (rcells l5) rfl HR5.out (by unfold maxLen; omega) (by omega) (Nat.le_refl _) ?_; intro v1 w6 hown1 hb6)
    rw [Nat.zero_add, List.nil_append] at hown1
    obtain ⟨va, vc, rfl⟩ := own_slice hown1
    have HOW1 := hidT hown1
    have HO6 := hidT (HO5.out.later hb6)
    have HB6 := hidT hb6
    clear hown1 hb6
    refine (own_busy w w6 s b q HO6.out).mono ?_
    rintro e w7 ⟨a7, c7, l7, rfl, hR7, hl7, hn7, hb7⟩
    have HN7 : Hid (l7.length = q.dev.busy.length) := by have h1 := congrArg List.length hl7; rw [List.length_map] at h1; exact h1
    have HR7 : Hid (RowAt w7 6 a7 q.dev.busy.length c7 (rcells l7)) := by have := hR7.rowAll' hn7; rw [HN7.out] at this; exact this
    have HOW7 := hidT (ownA_later HOW1.out hb7)
    have HB7 := hidT (bthen HB6.out hb7)
    have HMEET := hidT (apart_meet HI.out (l := l5 ++ l7) (by rw [List.map_append, HL5.out, hl7]))
    clear hR7 hl7 hn7 hb7
    go_wp2_with (at_builtin; refine wpList_append_row rfl _ _ 35 rfl w5.heap.size 44 iR _ 6 80 Tryz.underlying35 hiR hz0 hz1 hz2 rfl (by decide) (.slice va q.queue.length vc) q.queue.length (rcells l5) rfl HOW7.out a7 q.dev.busy.length c7 (rcells l7) rfl HR7.out (by unfold maxLen; omega) (by omega) HB7.out.size ?_; intro v2 w8 hown2 hb8)
    rw [← rcells_append] at hown2
    obtain ⟨xa, xc, rfl, hsp⟩ := spans_of_owned (l := l5 ++ l7) hown2 (by rw [List.length_append, HN5.out, HN7.out])
    have HO8 := hidT (HO5.out.later (HB7.out.trans hb8))
    have HSP := hidT hsp
    have HLE : Hid ((l5 ++ l7).length ≤ 8) := by show (l5 ++ l7).length ≤ 8; rw [List.length_append, HN5.out, HN7.out]; omega
    clear hown2 hb8 hsp HOW7 HB7 HR7 HOW1 HB6 HR5 HN5 HN7 HL5
    generalize l5 ++ l7 = L at *
    have hL8 := HLE.out
    go_wp2
    go_loopw [7] (fun i w' => ∃ m : Nat, m ≤ L.length ∧ i = .int .i64 m ∧ Below w8.heap.size w8 w') (fun i _ => L.length - (intOf i).toNat)
    case atStart => exact ⟨0, by omega, rfl, Below.refl _ _⟩
    case round =>
      obtain ⟨m, hm, rfl, hbm⟩ := hrel
      have HBM := hidT hbm
      clear hbm
      by_cases hmlt : m < L.length
      case neg =>
        have HOM := hidT (HO8.out.later HBM.out)
        have hmlt' : ¬ (m : Int) < (L.length : Int) := by omega
        go_wp2
        go_roundw
        case rel => exact ⟨k + 1, by omega, by go_num, by rw [HQ.out]; exact HOM.out⟩
        case measure => simp [intOf]; omega
      have hmlt' : (m : Int) < (L.length : Int) := by omega
      rcases HSP.out with rfl | ⟨g, rfl, hc⟩
      · exact absurd hmlt (Nat.not_lt_zero _)
      have HC := hidT hc
      clear hc
      go_wp2
      go_loopw [8] (fun i w' => ∃ j : Nat, j ≤ m ∧ i = .int .i64 j ∧ Below w8.heap.size w8 w') (fun i _ => m - (intOf i).toNat)
      case atStart => exact ⟨0, by omega, rfl, HBM.out⟩
      case round =>
        obtain ⟨j, hj, rfl, hbj⟩ := hrel
        have HBJ := hidT hbj
        by_cases hjlt : j < m
        case neg =>
          have hjlt' : ¬ (j : Int) < (m : Int) := by omega
          clear hbj
          go_wp2
          go_roundw
          case rel => exact ⟨m + 1, by omega, by go_num, HBJ.out⟩
          case measure => simp [intOf]; omega
        have hjlt' : (j : Int) < (m : Int) := by omega
        have hjl : j < L.length := by omega
        have hjl' : (j : Int) < (L.length : Int) := by omega
        have d1 := cellB_later' hbj (HC.out m hmlt).1
        have d2 := cellB_later' hbj (HC.out m hmlt).2
        have e1 := cellB_later' hbj (HC.out j hjl).1
        have e2 := cellB_later' hbj (HC.out j hjl).2
        have HME := hidT (HMEET.out m j hmlt hjlt)
        clear hbj
        generalize L[m] = x1 at *
        generalize L[j] = x2 at *
        go_wp2_with fail
        go_region_held3 (fun w' => w'.cell? ⟨g, m * 6 + 1, none⟩ = some (.int .i64 x1.f) ∧ w'.cell? ⟨g, m * 6 + 1 + 1, none⟩ = some (.int .i64 x1.m) ∧ w'.cell? ⟨g, j * 6 + 1, none⟩ = some (.int .i64 x2.f) ∧ w'.cell? ⟨g, j * 6 + 1 + 1, none⟩ = some (.int .i64 x2.m)) (exact ⟨cellB_later' (w := wr) (by repeat (first | with_reducible exact Below.refl _ _ | with_reducible refine balloc ?_ _ | with_reducible refine bdrew ?_ | with_reducible refine bset' ?_ (by omega) _ | with_reducible refine bthen ?_ (by assumption))) d1, cellB_later' (w := wr) (by repeat (first | with_reducible exact Below.refl _ _ | with_reducible refine balloc ?_ _ | with_reducible refine bdrew ?_ | with_reducible refine bset' ?_ (by omega) _ | with_reducible refine bthen ?_ (by assumption))) d2, cellB_later' (w := wr) (by repeat (first | with_reducible exact Below.refl _ _ | with_reducible refine balloc ?_ _ | with_reducible refine bdrew ?_ | with_reducible refine bset' ?_ (by omega) _ | with_reducible refine bthen ?_ (by assumption))) e1, cellB_later' (w := wr) (by repeat (first | with_reducible exact Below.refl _ _ | with_reducible refine balloc ?_ _ | with_reducible refine bdrew ?_ | with_reducible refine bset' ?_ (by omega) _ | with_reducible refine bthen ?_ (by assumption))) e2⟩) (first | (go_at_call 22; refine (meet_eq x1.f x1.m x2.f x2.m _ false HME.out).mono ?_; rintro e wM ⟨rfl, hbM⟩))
        all_goals
          have HBK : Hid (Below w8.heap.size w8 wM) := bthen HBJ.out (by repeat (first | with_reducible exact Below.refl _ _ | with_reducible refine balloc ?_ _ | with_reducible refine bdrew ?_ | with_reducible refine bset' ?_ (by omega) _ | with_reducible refine bthen ?_ (by assumption)))
          clear hbM
          go_wp2
          go_roundw
          case rel => exact ⟨j + 1, by omega, by go_num, HBK.out⟩
          case measure => simp [intOf]; omega
end Go.Proofs.YtgjkdhedkbkagaaGreat
