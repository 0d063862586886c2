/- The text of a request: the document's answer. -/
import Derived.Test.YtpmjgofjdejeeaaDoorDec2
import Derived.Test.YtpmjgofjdejeeaaDoorReq
namespace Go.Proofs.YtpmjgofjdejeeaaDoor
open Go.RowKit Go.BigFrame
attribute [local go_sem] Later.cell Later.frozen

def decL (n : Int) : List UInt8 := (decB n).data.toList
theorem decB_eq (n : Int) : decB n = ⟨(decL n).toArray⟩ := by simp [decL]
theorem decL_len (n : Int) (h : In64 n) : (decL n).length ≤ 60 := by
  have := decB_len n h.1 h.2
  unfold decL
  rw [Array.length_toList]
  exact this
theorem dec_l (n : Int) (w : World) (h : In64 n) :
    Calls Tryd.prog 16 #[.int .i64 n] w fun e w' => e = .returned (.string ⟨(decL n).toArray⟩) ∧ Below w.heap.size w w' := by
  rw [← decB_eq]; exact dec_any n w h.1 h.2
def letL (r : Rq) : List UInt8 := [if r.wr = true then 119 else 114]
def headT (r : Rq) : List UInt8 := letL r ++ decL r.f ++ [43] ++ decL r.m ++ [35]
def tagT (l : List Int) : Nat → List UInt8
  | 0 => []
  | k + 1 => tagT l k ++ (if k = 0 then [] else [44]) ++ decL (l.getD k 0)
def Tags64 (r : Rq) : Prop := ∀ i, i < r.tags.length → In64 (r.tags.getD i 0)
theorem headT_len (r : Rq) (hf : In64 r.f) (hm : In64 r.m) : (headT r).length ≤ 123 := by
  have h1 := decL_len r.f hf
  have h2 := decL_len r.m hm
  simp [headT, letL]; omega
theorem tagT_len (r : Rq) (h : Tags64 r) (k : Nat) (hk : k ≤ r.tags.length) : (tagT r.tags k).length ≤ 61 * k := by
  induction k with
  | zero => simp [tagT]
  | succ k ih =>
    have h1 := decL_len _ (h k (by omega))
    have h2 := ih (by omega)
    have h3 : (if k = 0 then ([] : List UInt8) else [44]).length ≤ 1 := by split <;> simp
    simp only [tagT, List.length_append]; omega
def textT (r : Rq) : List UInt8 := headT r ++ tagT r.tags r.tags.length
theorem tag_cell {w : World} {a : Option Addr} {xs : List Int} (h : IntsAt w a xs) (k : Nat) (hk : k < xs.length) : ∃ b o, a = some ⟨b, o, none⟩ ∧ w.cell? ⟨b, o + k, none⟩ = some (.int .i64 (xs.getD k 0)) ∧ b < w.heap.size := by
  rcases h with rfl | ⟨b, o, rfl, hc⟩
  · exact absurd hk (Nat.not_lt_zero _)
  · exact ⟨b, o, rfl, hc k hk, lt_of_cell (hc k hk)⟩

set_option maxHeartbeats 1000000 in
theorem reqtext_any (r : Rq) (w : World) (hr : r.At w) (ht : Tags64 r) (hl : r.tags.length ≤ 8) :
    Calls Tryd.prog 17 #[r.val] w fun e w' => e = .returned (.string ⟨(textT r).toArray⟩) ∧ Below w.heap.size w w' := by
  have l1 := decL_len r.f hr.f
  have l2 := decL_len r.m hr.m
  have lh := headT_len r hr.f hr.m
  have s1 := strB (letL r) (decL r.f) (by simp [letL]; omega)
  have s2 := strB (letL r ++ decL r.f) [43] (by simp [letL]; omega)
  have s3 := strB (letL r ++ decL r.f ++ [43]) (decL r.m) (by simp [letL]; omega)
  have s4 := strB (letL r ++ decL r.f ++ [43] ++ decL r.m) [35] (by simp [letL]; omega)
  have HF : Hid _ := hr.f
  have HM : Hid _ := hr.m
  have HT : Hid (headT r = letL r ++ decL r.f ++ [43] ++ decL r.m ++ [35]) := rfl
  have hlw : letL r = if r.wr = true then [119] else [114] := by unfold letL; split <;> rfl
  have LW : Hid _ := hlw
  obtain ⟨wr, f, m, da, dc, data, ta, tc, tags, born⟩ := r
  simp only at *
  have hdl := hr.tl
  have HR : Hid _ := hr
  have htg := hr.tags
  have HTG : Hid _ := htg
  clear hr hlw htg
  generalize letL ⟨wr, f, m, da, dc, data, ta, tc, tags, born⟩ = c0 at *
  generalize c0 ++ decL f ++ [43] ++ decL m ++ [35] = c5 at *
  generalize c0 ++ decL f ++ [43] ++ decL m = c4 at *
  generalize c0 ++ decL f ++ [43] = c3 at *
  generalize c0 ++ decL f = c2 at *
  cases wr
  all_goals
    simp at LW
    obtain rfl := LW.out
    go_enter Tryd.func17, Tryd.ntmps17
    go_wp2_with fail
    refine wp_region_later (by first | exact HB | exact bdrew HB | exact Below.refl _ _) (by kernel_rfl) (by kernel_rfl) ?_
    repeat (go_big_quiet_step (first | exact rfl | (go_at_call 16; exact calls_later (dec_l _ _ (by first | exact HF.out | exact HM.out)))))
    refine wpQuiet_nil ?_; intro _ hw'; obtain ⟨p, hw''⟩ := hw'; subst hw''; (try clear hc hf hz); (try clear HB); have HB := p.below; obtain ⟨hc, hf, hz⟩ := bcell HB
    have hB0 : Below w.heap.size w p.v := by repeat (first | with_reducible exact Below.refl _ _ | with_reducible refine balloc ?_ _ | with_reducible refine bdrew ?_ | with_reducible refine bset' ?_ (by omega) _ | with_reducible refine bthen ?_ (by assumption))
    have c4 : p.v.cell? ⟨w.heap.size, 4, none⟩ = some (.slice ta tags.length tc) := by rw [hc _ _ (by simp)]; simp
    have z4 : w.heap.size < p.v.heap.size := lt_of_cell c4
    generalize p.v = w1 at *
    clear hc hf hz HB s1 s2 s3 s4 LW p l1 l2 HF HM
    go_wp2_with fail
    go_loopw [3, 4] (fun s i wr => ∃ k : Nat, k ≤ tags.length ∧ i = .int .i64 k ∧ s = .string ⟨(c5 ++ tagT tags k).toArray⟩ ∧ Below w1.heap.size w1 wr) (fun _ i _ => tags.length - (intOf i).toNat)
    case atStart => exact ⟨0, by omega, rfl, by simp [tagT], Below.refl _ _⟩
    case round =>
      obtain ⟨k, hk, rfl, rfl, HB⟩ := hrel
      have C4 := (HB.cell (p := ⟨w.heap.size, 4, none⟩) z4).trans c4
      clear c4
      by_cases hlt : k < tags.length
      · obtain ⟨b, o, rfl, ct, lb⟩ := tag_cell HTG.out k hlt
        have h64 := ht k hlt
        have hsz := hB0.size
        have CT : wr.cell? ⟨b, o + k, none⟩ = some (.int .i64 (tags.getD k 0)) := by
          rw [HB.cell (p := ⟨b, o + k, none⟩) (Nat.lt_of_lt_of_le lb hsz), hB0.cell (p := ⟨b, o + k, none⟩) lb]; exact ct
        have lt := tagT_len _ ht k hk
        have ld := decL_len _ h64
        rw [HT.out] at lh
        have HK : Hid (tagT tags (k + 1) = tagT tags k ++ (if k = 0 then [] else [44]) ++ decL (tags.getD k 0)) := rfl
        simp only at lt h64
        generalize tags.getD k 0 = tg at *
        generalize htk : tagT tags k = tk at *
        have HTK : Hid _ := htk
        have H64 : Hid (In64 tg) := h64
        clear ct htk h64
        by_cases hk0 : k = 0
        · subst hk0
          have CT0 : wr.cell? ⟨b, o, none⟩ = some (.int .i64 tg) := by simpa using CT
          clear CT
          have s1 := strB (c5 ++ tk) (decL tg) (by simp; omega)
          have HE : Hid (c5 ++ tagT tags (0 + 1) = c5 ++ tk ++ decL tg) := by show _ = _; rw [HK.out]; simp
          generalize c5 ++ tk ++ decL tg = c6 at *
          generalize c5 ++ tk = c7 at *
          clear lh lt ld
          go_wp2_with (go_at_call 16; refine (dec_l _ _ H64.out).mono ?_; rintro e w2 ⟨rfl, hb2⟩)
          go_roundw
          case rel => exact ⟨0 + 1, by omega, by go_num, by rw [HE.out], bthen HB hb2⟩
          case measure => simp [intOf]; omega
        · have hk1 : (0 : Int) < (k : Int) := by omega
          have s1 := strB (c5 ++ tk) [44] (by simp; omega)
          have s2 := strB (c5 ++ tk ++ [44]) (decL tg) (by simp; omega)
          have HE : Hid (c5 ++ tagT tags (k + 1) = c5 ++ tk ++ [44] ++ decL tg) := by show _ = _; rw [HK.out, if_neg hk0]; simp
          generalize c5 ++ tk ++ [44] ++ decL tg = c6 at *
          generalize c5 ++ tk ++ [44] = c8 at *
          generalize c5 ++ tk = c7 at *
          clear lh lt ld
          go_wp2_with (go_at_call 16; refine (dec_l _ _ H64.out).mono ?_; rintro e w2 ⟨rfl, hb2⟩)
          go_roundw
          case rel => exact ⟨k + 1, by omega, by go_num, by rw [HE.out], bthen HB hb2⟩
          case measure => simp [intOf]; omega
      · have hkl : k = tags.length := by omega
        subst hkl
        go_wp2
        go_ret
        refine ⟨?_, hB0.trans (HB.mono hB0.size)⟩
        show Ending.returned (.string ⟨(c5 ++ tagT tags tags.length).toArray⟩) = _
        rw [textT, HT.out]
end Go.Proofs.YtpmjgofjdejeeaaDoor
