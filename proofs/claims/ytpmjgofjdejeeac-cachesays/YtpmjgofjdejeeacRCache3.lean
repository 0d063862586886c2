/- The document's answer on sectors at hand: PickBuf, UseBuf, CleanBuf. -/
import Derived.Test.YtpmjgofjdejeeacRCache2
import Derived.Test.YtpmjgofjdejeeacCache11
import Derived.Test.YtpmjgofjdejeeacCache6
import Derived.Deep.MidRow
namespace Go.Proofs.Ytpmjgofjdejeeac
open Go.RowKit Go.BigFrame
attribute [local go_sem] Later.cell Later.frozen

theorem rangeNew (w : World) (hs : Array Value) (T : TypeId) : (w.alloc (.cells hs T)).rangeAt w.heap.size 0 hs.toList := by
  intro j v hj
  have h := heap_alloc_new w (.cells hs T)
  simp only [World.cell?, h, Nat.zero_add]
  simpa using hj

set_option maxRecDepth 100000 in
set_option maxHeartbeats 1000000 in
theorem rpick_no (l : List Bf) (a : Option Addr) (c : Nat) (hs : Array Value) (hz : hs.size = 32) (B : Nat → Bool) (w : World) (hl : BufsAt w a l) (G : GoodB l) (hB : ∀ i, i < 32 → hs[i]? = some (.bool (B i))) (hr : leastU (fitB true (holdB B)) l l.length = -1) :
    Calls Try.prog 47 #[.slice a l.length c, .agg hs] w fun e w' => e = .returned (.int .i64 (-1)) ∧ Below w.heap.size w w' := by
  have HR := hidB hr
  have HB0 := hidB hB
  clear hr hB
  have hsz : Hid ((Try.prog.info? 73).map (·.size) = some hs.toList.length) := (by rw [Hid, Array.length_toList, hz]; kernel_rfl)
  have HRG := hidB (rangeNew w hs 73)
  have b0 := below1 w (.cells hs 73)
  clear hz
  go_enter Try.func47, Try.ntmps47
  go_wp2_with (refine wpList_load_mid rfl 73 (.tmp 3) rfl w.heap.size 0 rfl hs.toList _ HRG.out Try.underlying73 rfl hsz.out ?_)
  refine (rleast l a c true hs B _ (hl.later b0) G HB0.out _ HR.out).mono ?_
  rintro e w1 ⟨rfl, HB⟩
  go_wp2
  go_ret
  exact ⟨rfl, by repeat (first | with_reducible exact Below.refl _ _ | with_reducible refine balloc ?_ _ | with_reducible refine bdrew ?_ | with_reducible refine bset' ?_ (by omega) _ | with_reducible refine bthen ?_ (by assumption))⟩
set_option maxRecDepth 100000 in
set_option maxHeartbeats 1000000 in
theorem rpick_yes (l : List Bf) (a : Option Addr) (c : Nat) (hs : Array Value) (hz : hs.size = 32) (B : Nat → Bool) (w : World) (hl : BufsAt w a l) (G : GoodB l) (hB : ∀ i, i < 32 → hs[i]? = some (.bool (B i))) (k : Nat) (hk : k < l.length) (hr : leastU (fitB true (holdB B)) l l.length = k) :
    Calls Try.prog 47 #[.slice a l.length c, .agg hs] w fun e w' => e = .returned (.int .i64 l[k].pl) ∧ Below w.heap.size w w' := by
  have h0 : l ≠ [] := by rintro rfl; exact absurd hk (Nat.not_lt_zero _)
  obtain ⟨b, o, rfl⟩ := hl.form.resolve_left h0
  have hb3 := hl.2
  have HR := hidB hr
  have HB0 := hidB hB
  clear hr hB h0
  have hsz : Hid ((Try.prog.info? 73).map (·.size) = some hs.toList.length) := (by rw [Hid, Array.length_toList, hz]; kernel_rfl)
  have HRG := hidB (rangeNew w hs 73)
  have b0 := below1 w (.cells hs 73)
  clear hz
  go_enter Try.func47, Try.ntmps47
  go_wp2_with (refine wpList_load_mid rfl 73 (.tmp 3) rfl w.heap.size 0 rfl hs.toList _ HRG.out Try.underlying73 rfl hsz.out ?_)
  refine (rleast l _ c true hs B _ (hl.later b0) G HB0.out _ HR.out).mono ?_
  rintro e w1 ⟨rfl, HB⟩
  obtain ⟨c0, c1, c2, c3⟩ := ((hl.later b0).later HB).cells hk
  go_wp2
  go_ret
  exact ⟨rfl, by repeat (first | with_reducible exact Below.refl _ _ | with_reducible refine balloc ?_ _ | with_reducible refine bdrew ?_ | with_reducible refine bset' ?_ (by omega) _ | with_reducible refine bthen ?_ (by assumption))⟩

/-- The first k are changed. -/
def updK (f : Bf → Bf) (l : List Bf) (k : Nat) : List Bf := (l.take k).map f ++ l.drop k
theorem updK_0 (f : Bf → Bf) (l : List Bf) : updK f l 0 = l := by simp [updK]
theorem updK_all (f : Bf → Bf) (l : List Bf) : updK f l l.length = l.map f := by simp [updK]
theorem updK_length (f : Bf → Bf) (l : List Bf) (k : Nat) : (updK f l k).length = l.length := by
  simp only [updK, List.length_append, List.length_map, List.length_take, List.length_drop]; omega
theorem updK_at (f : Bf → Bf) (l : List Bf) (k : Nat) (hk : k < l.length) (h : k < (updK f l k).length) : (updK f l k)[k] = l[k] := by
  simp only [updK]
  rw [List.getElem_append_right (by rw [List.length_map, List.length_take]; omega)]
  simp [List.length_take, Nat.min_eq_left (Nat.le_of_lt hk)]
theorem updK_succ (f : Bf → Bf) (l : List Bf) (k : Nat) (hk : k < l.length) : (updK f l k).set k (f l[k]) = updK f l (k + 1) := by
  have e : ((l.take k).map f).length = k := by rw [List.length_map, List.length_take]; omega
  rw [updK, List.set_append_right _ _ (by omega), e, Nat.sub_self, updK, List.take_succ_eq_append_getElem hk, List.map_append, List.append_assoc]
  congr 1
  rw [List.drop_eq_getElem_cons hk]
  rfl
theorem updK_same (f : Bf → Bf) (l : List Bf) (k : Nat) (hk : k < l.length) (h : f l[k] = l[k]) : updK f l (k + 1) = updK f l k := by
  rw [← updK_succ f l k hk, h]
  have h' : k < (updK f l k).length := by rw [updK_length]; exact hk
  conv => lhs; rw [← updK_at f l k hk h']
  exact List.set_getElem_self h'

def useF (at' now : Int) (x : Bf) : Bf := if x.pl = at' then { x with used := now } else x
theorem useF_map (l : List Bf) (at' now : Int) : l.map (useF at' now) = useL l at' now := rfl
def cleanF (at' : Int) (data : ByteArray) (x : Bf) : Bf := if x.pl = at' ∧ x.data = data then { x with dirty := false } else x
theorem cleanF_map (l : List Bf) (at' : Int) (data : ByteArray) : l.map (cleanF at' data) = cleanL l at' data := rfl

set_option maxRecDepth 100000 in
set_option maxHeartbeats 2000000 in
theorem ruse (l : List Bf) (a : Option Addr) (c : Nat) (at' now : Int) (w : World) (hl : BufsAt w a l) (hn : a = none → c = 0) (h10 : l.length ≤ 1000) :
    Calls Try.prog 39 #[.slice a l.length c, .int .i64 at', .int .i64 now] w fun e w' => ∃ a' c', e = .returned (.slice a' l.length c') ∧ BufsAt w' a' (useL l at' now) ∧ Below w.heap.size w w' := by
  obtain ⟨i, hi, hz0, hz1, hz2⟩ := pluck infoB
  have R := hl.rowAll hn
  have HL : Hid (l.length ≤ 1000) := h10
  go_enter Try.func39, Try.ntmps39
  go_wp2_with (at_builtin; refine wpList_append_row rfl _ _ 70 rfl w.heap.size 72 i _ 4 40 Try.underlying70 hi hz0 hz1 hz2 rfl (by decide) _ 0 [] rfl (World.ownsRow_nil _ _ _ _) a l.length c (bcells l) rfl (R.later (by repeat (first | with_reducible exact Below.refl _ _ | with_reducible refine balloc ?_ _ | with_reducible refine bdrew ?_ | with_reducible refine bset' ?_ (by omega) _ | with_reducible refine bthen ?_ (by assumption)))) (by unfold maxLen; omega) (by omega) (by simp) ?_; intro v1 w2 hown1 hb1)
  rw [Nat.zero_add, List.nil_append] at hown1
  obtain ⟨a1, c1, rfl, hN⟩ := new_of_owned hown1 rfl (by have := HL.out; omega)
  have cp := hN.cap
  have cm := hN.capM
  have HN := hidB hN
  clear hown1 hN R
  go_loopw [8] (fun i wr => ∃ k : Nat, k ≤ l.length ∧ i = .int .i64 k ∧ BufsAt wr a1 (updK (useF at' now) l k) ∧ (∀ b, a1 = some ⟨b, 0, none⟩ → b < wr.heap.size ∧ ∀ o, wr.frozen? ⟨b, o, none⟩ = false) ∧ Below w.heap.size w wr) (fun i _ => l.length - (intOf i).toNat)
  case atStart =>
    refine ⟨0, by omega, rfl, by rw [updK_0]; exact HN.out.here, fun b hb => ?_, hb1⟩
    have hlt := HN.out.lt b hb
    refine ⟨hlt, fun o => ?_⟩
    subst hb
    rcases HN.out.own.2 with ⟨h1, _⟩ | ⟨g, cap, cur, h1, hg, hh, _⟩
    · cases h1
    · simp only [Value.slice.injEq, Option.some.injEq, Addr.mk.injEq, and_true] at h1
      obtain ⟨rfl, _⟩ := h1
      simp [World.frozen?, hh]
  case round =>
    obtain ⟨k, hk, rfl, hU, hfz, HB⟩ := hrel
    by_cases hlt : k < l.length
    · have h0 : l ≠ [] := by rintro rfl; exact absurd hlt (Nat.not_lt_zero _)
      obtain ⟨b, rfl, -, -, -⟩ := HN.out.place h0
      obtain ⟨hbl, hf⟩ := hfz b rfl
      have hge := HN.out.own.2
      have hbw : w.heap.size ≤ b := by
        rcases hge with ⟨h1, _⟩ | ⟨g, cap, cur, h1, hg, _⟩
        · cases h1
        · simp only [Value.slice.injEq, Option.some.injEq, Addr.mk.injEq, and_true] at h1
          obtain ⟨rfl, _⟩ := h1
          exact hg
      have hlt' : k < (updK (useF at' now) l k).length := by rw [updK_length]; exact hlt
      obtain ⟨c0, c1', c2, c3⟩ := hU.cells hlt'
      rw [updK_at _ _ _ hlt, Nat.zero_add] at c0 c1' c2 c3
      have f3 := hf (k * 4 + 3)
      have HU := hidB hU
      have HF := hidB hf
      clear hU hfz hf h0 hge HN
      by_cases hp : l[k].pl = at'
      · have e : useF at' now l[k] = { l[k] with used := now } := by rw [useF, if_pos hp]
        have HS := hidB (updK_succ (useF at' now) l k hlt)
        have HE := hidB e
        have HA := hidB (updK_at (useF at' now) l k hlt hlt')
        have s1 : (l[k].pl == at') = true := by rw [hp]; simp
        clear hp e
        go_wp2
        go_roundw
        case rel =>
          refine ⟨k + 1, by omega, by go_num, ?_, fun b' hb' => ?_, by repeat (first | with_reducible exact Below.refl _ _ | with_reducible refine balloc ?_ _ | with_reducible refine bdrew ?_ | with_reducible refine bset' ?_ (by omega) _ | with_reducible refine bthen ?_ (by assumption))⟩
          · rw [← HS.out, HE.out]
            have := HU.out.set hlt' 3 (by omega) { l[k] with used := now } (.int .i64 now) rfl (fun i hi hne => by rw [HA.out]; rcases (show i = 0 ∨ i = 1 ∨ i = 2 by omega) with rfl | rfl | rfl <;> rfl)
            rw [Nat.zero_add] at this
            exact this
          · simp only [Option.some.injEq, Addr.mk.injEq, and_true] at hb'
            subst hb'
            exact ⟨by simpa using hbl, fun o => by simpa using HF.out o⟩
        case measure => simp [intOf]; omega
      · have e : useF at' now l[k] = l[k] := by rw [useF, if_neg hp]
        have HS := hidB (updK_same (useF at' now) l k hlt e)
        have s1 : (l[k].pl == at') = false := by rw [beq_eq_false_iff_ne]; exact hp
        clear hp e
        go_wp2
        go_roundw
        case rel =>
          refine ⟨k + 1, by omega, by go_num, by rw [HS.out]; exact HU.out, fun b' hb' => ?_, by repeat (first | with_reducible exact Below.refl _ _ | with_reducible refine balloc ?_ _ | with_reducible refine bdrew ?_ | with_reducible refine bset' ?_ (by omega) _ | with_reducible refine bthen ?_ (by assumption))⟩
          simp only [Option.some.injEq, Addr.mk.injEq, and_true] at hb'
          subst hb'
          exact ⟨hbl, HF.out⟩
        case measure => simp [intOf]; omega
    · obtain rfl : k = l.length := by omega
      rw [updK_all, useF_map] at hU
      have HU := hidB hU
      clear hU hfz HN
      go_wp2
      go_ret
      exact ⟨a1, c1, rfl, HU.out, HB⟩
end Go.Proofs.Ytpmjgofjdejeeac
