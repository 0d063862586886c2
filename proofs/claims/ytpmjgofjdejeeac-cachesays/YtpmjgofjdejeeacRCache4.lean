/- The document's answer on sectors at hand: CleanBuf. -/
import Derived.Test.YtpmjgofjdejeeacRCache3
namespace Go.Proofs.Ytpmjgofjdejeeac
open Go.RowKit Go.BigFrame
attribute [local go_sem] Later.cell Later.frozen

set_option maxRecDepth 100000 in
set_option maxHeartbeats 2000000 in
theorem rclean (l : List Bf) (a : Option Addr) (c : Nat) (at' : Int) (data : ByteArray) (w : World) (hl : BufsAt w a l) (hn : a = none → c = 0) (h10 : l.length ≤ 1000) :
    Calls Try.prog 45 #[.slice a l.length c, .int .i64 at', .string data] w fun e w' => ∃ a' c', e = .returned (.slice a' l.length c') ∧ BufsAt w' a' (cleanL l at' data) ∧ Below w.heap.size w w' := by
  obtain ⟨i, hi, hz0, hz1, hz2⟩ := pluck infoB
  have R := hl.rowAll hn
  have HL : Hid (l.length ≤ 1000) := h10
  go_enter Try.func45, Try.ntmps45
  go_wp2_with (at_builtin; refine wpList_append_row rfl _ _ 70 rfl w.heap.size 72 i _ 4 40 Try.underlying70 hi hz0 hz1 hz2 rfl (by decide) _ 0 [] rfl (World.ownsRow_nil _ _ _ _) a l.length c (bcells l) rfl (R.later (by repeat (first | with_reducible exact Below.refl _ _ | with_reducible refine balloc ?_ _ | with_reducible refine bdrew ?_ | with_reducible refine bset' ?_ (by omega) _ | with_reducible refine bthen ?_ (by assumption)))) (by unfold maxLen; omega) (by omega) (by simp) ?_; intro v1 w2 hown1 hb1)
  rw [Nat.zero_add, List.nil_append] at hown1
  obtain ⟨a1, c1, rfl, hN⟩ := new_of_owned hown1 rfl (by have := HL.out; omega)
  have cp := hN.cap
  have cm := hN.capM
  have HN := hidB hN
  clear hown1 hN R
  go_loopw [8] (fun i wr => ∃ k : Nat, k ≤ l.length ∧ i = .int .i64 k ∧ BufsAt wr a1 (updK (cleanF at' data) l k) ∧ (∀ b, a1 = some ⟨b, 0, none⟩ → b < wr.heap.size ∧ ∀ o, wr.frozen? ⟨b, o, none⟩ = false) ∧ Below w.heap.size w wr) (fun i _ => l.length - (intOf i).toNat)
  case atStart =>
    refine ⟨0, by omega, rfl, by rw [updK_0]; exact HN.out.here, fun b hb => ?_, hb1⟩
    have hlt := HN.out.lt b hb
    refine ⟨hlt, fun o => ?_⟩
    subst hb
    rcases HN.out.own.2 with ⟨h1, _⟩ | ⟨g, cap, cur, h1, hg, hh, _⟩
    · cases h1
    · simp only [Value.slice.injEq, Option.some.injEq, Addr.mk.injEq, and_true] at h1
      obtain ⟨rfl, _⟩ := h1
      simp [World.frozen?, hh]
  case round =>
    obtain ⟨k, hk, rfl, hU, hfz, HB⟩ := hrel
    by_cases hlt : k < l.length
    · have h0 : l ≠ [] := by rintro rfl; exact absurd hlt (Nat.not_lt_zero _)
      obtain ⟨b, rfl, -, -, -⟩ := HN.out.place h0
      obtain ⟨hbl, hf⟩ := hfz b rfl
      have hge := HN.out.own.2
      have hbw : w.heap.size ≤ b := by
        rcases hge with ⟨h1, _⟩ | ⟨g, cap, cur, h1, hg, _⟩
        · cases h1
        · simp only [Value.slice.injEq, Option.some.injEq, Addr.mk.injEq, and_true] at h1
          obtain ⟨rfl, _⟩ := h1
          exact hg
      have hlt' : k < (updK (cleanF at' data) l k).length := by rw [updK_length]; exact hlt
      obtain ⟨c0, c1', c2, c3⟩ := hU.cells hlt'
      rw [updK_at _ _ _ hlt, Nat.zero_add] at c0 c1' c2 c3
      have f3 := hf (k * 4 + 3)
      have HU := hidB hU
      have HF := hidB hf
      clear hU hfz hf h0 hge HN
      have f2 := HF.out (k * 4 + 2)
      have hbw1 := hbw
      by_cases hp : l[k].pl = at' ∧ l[k].data = data
      · have e : cleanF at' data l[k] = { l[k] with dirty := false } := by rw [cleanF, if_pos hp]
        have HS := hidB (updK_succ (cleanF at' data) l k hlt)
        have HE := hidB e
        have HA := hidB (updK_at (cleanF at' data) l k hlt hlt')
        have s1 : (l[k].pl == at') = true := by rw [hp.1]; simp
        have s2 := strB_eq hp.2
        clear hp e f3
        go_wp2
        go_roundw
        case rel =>
          refine ⟨k + 1, by omega, by go_num, ?_, fun b' hb' => ?_, by repeat (first | with_reducible exact Below.refl _ _ | with_reducible refine balloc ?_ _ | with_reducible refine bdrew ?_ | with_reducible refine bset' ?_ (by omega) _ | with_reducible refine bthen ?_ (by assumption))⟩
          · rw [← HS.out, HE.out]
            have := HU.out.set hlt' 2 (by omega) { l[k] with dirty := false } (.bool false) rfl (fun i hi hne => by rw [HA.out]; rcases (show i = 0 ∨ i = 1 ∨ i = 3 by omega) with rfl | rfl | rfl <;> rfl)
            rw [Nat.zero_add] at this
            exact this
          · simp only [Option.some.injEq, Addr.mk.injEq, and_true] at hb'
            subst hb'
            exact ⟨by simpa using hbl, fun o => by simpa using HF.out o⟩
        case measure => simp [intOf]; omega
      · have e : cleanF at' data l[k] = l[k] := by rw [cleanF, if_neg hp]
        have HS := hidB (updK_same (cleanF at' data) l k hlt e)
        by_cases h1 : l[k].pl = at'
        · have s1 : (l[k].pl == at') = true := by rw [h1]; simp
          have s2 := strB_ne (fun h => hp ⟨h1, h⟩)
          clear hp e h1 f3
          go_wp2
          go_roundw
          case rel =>
            refine ⟨k + 1, by omega, by go_num, by rw [HS.out]; exact HU.out, fun b' hb' => ?_, by repeat (first | with_reducible exact Below.refl _ _ | with_reducible refine balloc ?_ _ | with_reducible refine bdrew ?_ | with_reducible refine bset' ?_ (by omega) _ | with_reducible refine bthen ?_ (by assumption))⟩
            simp only [Option.some.injEq, Addr.mk.injEq, and_true] at hb'
            subst hb'
            exact ⟨hbl, HF.out⟩
          case measure => simp [intOf]; omega
        · have s1 : (l[k].pl == at') = false := by rw [beq_eq_false_iff_ne]; exact h1
          clear hp e h1 f3
          go_wp2
          go_roundw
          case rel =>
            refine ⟨k + 1, by omega, by go_num, by rw [HS.out]; exact HU.out, fun b' hb' => ?_, by repeat (first | with_reducible exact Below.refl _ _ | with_reducible refine balloc ?_ _ | with_reducible refine bdrew ?_ | with_reducible refine bset' ?_ (by omega) _ | with_reducible refine bthen ?_ (by assumption))⟩
            simp only [Option.some.injEq, Addr.mk.injEq, and_true] at hb'
            subst hb'
            exact ⟨hbl, HF.out⟩
          case measure => simp [intOf]; omega
    · obtain rfl : k = l.length := by omega
      rw [updK_all, cleanF_map] at hU
      have HU := hidB hU
      clear hU hfz HN
      go_wp2
      go_ret
      exact ⟨a1, c1, rfl, HU.out, HB⟩
end Go.Proofs.Ytpmjgofjdejeeac
