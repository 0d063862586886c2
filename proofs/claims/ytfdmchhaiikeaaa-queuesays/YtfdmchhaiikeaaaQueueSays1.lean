/- QueueSays: what stands below it: queues; two answers to Add are the same. -/
import Derived.Test.YtfdmchhaiikeaaaRAdd2
import Derived.Test.YtfdmchhaiikeaaaLeast3
import Derived.Test.YtfdmchhaiikeaaaLeast2
namespace Go.Proofs.Ytfdmchhaiikeaaa
open Go.RowKit Go.BigFrame
attribute [local go_sem] Later.cell Later.frozen

theorem and1023 (n : Int) : bits .and .i64 n 1023 = n % 1024 := by
  have hm : (BitVec.ofInt 64 1023).toNat = 2 ^ 10 - 1 := by decide
  have hk : (BitVec.ofInt 64 n &&& BitVec.ofInt 64 1023).toNat = (n % ((2 ^ 64 : Nat) : Int)).toNat % 2 ^ 10 := by
    rw [BitVec.toNat_and, BitVec.toNat_ofInt, hm, Nat.and_two_pow_sub_one_eq_mod]
  show IntKind.i64.wrap ((BitVec.ofInt 64 n &&& BitVec.ofInt 64 1023).toNat : Nat) = n % 1024
  rw [hk, IntKind.wrap_i64]
  omega
theorem idx1023 (n : Int) (m : Nat) (h : 0 < m) : ∃ k : Nat, k < m ∧ (bits .and .i64 n 1023).tmod (m : Int) = (k : Int) := by
  rw [and1023, Int.tmod_eq_emod_of_nonneg (by omega)]
  have h1 := Int.emod_nonneg (n % 1024) (show (m : Int) ≠ 0 by omega)
  have h2 := Int.emod_lt_of_pos (n % 1024) (show (0 : Int) < m by omega)
  exact ⟨((n % 1024) % (m : Int)).toNat, by omega, by omega⟩

/-- A closed request that reads one sector. -/
def rqOne (f : Int) (t : Int) (b : Nat) : Rq := ⟨false, f, 1, none, 0, [], some ⟨b, 0, none⟩, 1, [t], 0⟩
theorem goodOne (f t : Int) (b : Nat) (h0 : 0 ≤ f) (h1 : f < 32) : Good (rqOne f t b) := by
  refine ⟨by simp [rqOne, okB]; omega, by simp [rqOne, shapeB], by simp [rqOne], by simp [rqOne], by simp [rqOne], by simp [rqOne], by simp [rqOne, small4]⟩
theorem atOne (f t : Int) (b : Nat) (w : World) (h : w.cell? ⟨b, 0, none⟩ = some (.int .i64 t)) (h0 : 0 ≤ f) (h1 : f < 32) : (rqOne f t b).At w := by
  refine ⟨Or.inl rfl, Or.inr ⟨b, 0, rfl, ?_⟩, by simp [rqOne], by simp [rqOne], by simp [rqOne, In64]; omega, by simp [rqOne, In64], by simp [rqOne, In64], by simp [rqOne], by simp [rqOne]⟩
  intro i hi
  obtain rfl : i = 0 := by simp [rqOne] at hi; omega
  simpa [rqOne] using h
theorem addNil (f t : Int) (b : Nat) (w : World) (h : w.cell? ⟨b, 0, none⟩ = some (.int .i64 t)) (h0 : 0 ≤ f) (h1 : f < 32) :
    Calls Try.prog 19 #[.slice none 0 0, (rqOne f t b).val] w fun e w' => ∃ a' c', e = .returned (.tuple #[.slice a' 1 c', .nilIface]) ∧ Below w.heap.size w w' := by
  refine (add_core [] none 0 (rqOne f t b) w ⟨Or.inl rfl, by simp, by simp⟩ (fun _ => rfl) (atOne f t b w h h0 h1) (by simp) (goodOne f t b h0 h1) (fun i h => absurd h (Nat.not_lt_zero _)) rfl).mono ?_
  rintro e w' ⟨ho, hb⟩
  rcases ho with ⟨L, a', c', hA, rfl, _, _, _⟩ | ⟨_, h6, _⟩
  · rcases hA with ⟨k, hk, _⟩ | ⟨_, _, rfl⟩
    · exact absurd hk (Nat.not_lt_zero _)
    · exact ⟨a', c', rfl, hb⟩
  · simp at h6

set_option maxHeartbeats 1000000 in
theorem queues_any (w : World) : Calls Try.prog 15 #[] w fun e w' => e = .returned (.bool true) ∧ Below w.heap.size w w' := by
  go_enter Try.func15, Try.ntmps15
  go_wp2_with fail
  refine (addNil 3 1 w.heap.size _ (by simp) (by omega) (by omega)).mono ?_
  rintro e w1 ⟨a1, c1, rfl, hb1⟩
  go_wp2_with fail
  refine (same_nil 0 _).mono ?_
  rintro e w2 ⟨rfl, hb2⟩
  go_wp2
  go_ret
  exact ⟨rfl, by repeat (first | with_reducible exact Below.refl _ _ | with_reducible refine balloc ?_ _ | with_reducible refine bdrew ?_ | with_reducible refine bset' ?_ (by omega) _ | with_reducible refine bthen ?_ (by assumption))⟩

theorem sameB_refl (r : Rq) : sameB r r = true := by simp [sameB, eqS, eqN]
theorem both_same {o r q q' : Rq} (h : BothE o r q) (h' : BothE o r q') : sameB q q' = true := by
  rcases h with ⟨t, h⟩ | ⟨t, _, h⟩
  · rcases h' with ⟨_, h'⟩ | ⟨t', _, _⟩
    · exact h.same h'
    · rw [t] at t'; cases t'
  · rcases h' with ⟨t', _⟩ | ⟨_, _, h'⟩
    · rw [t] at t'; cases t'
    · exact h.same h'
theorem sames_refl (l : List Rq) : Sames l l := ⟨rfl, fun _ _ _ => sameB_refl _⟩
/-- What waits then is told by what waited and what was added. -/
theorem added_same {l L L' : List Rq} {r : Rq} (h : Added l r L) (h' : Added l r L') : Sames L L' := by
  rcases h with ⟨k, hk, q, hno, ht, hq, rfl⟩ | ⟨hno, _, rfl⟩
  · rcases h' with ⟨k', hk', q', hno', ht', hq', rfl⟩ | ⟨hno', _, _⟩
    · have e : k = k' := by
        rcases Nat.lt_trichotomy k k' with c | c | c
        · rw [hno' k hk c] at ht; cases ht
        · exact c
        · rw [hno k' hk' c] at ht'; cases ht'
      subst e
      refine ⟨by simp, fun i hi hi' => ?_⟩
      by_cases e : k = i
      · subst e; rw [List.getElem_set_self, List.getElem_set_self]; exact both_same hq hq'
      · rw [List.getElem_set_ne e, List.getElem_set_ne e]; exact sameB_refl _
    · rw [hno' k hk] at ht; cases ht
  · rcases h' with ⟨k', hk', q', _, ht', _, _⟩ | ⟨_, _, rfl⟩
    · rw [hno k' hk'] at ht'; cases ht'
    · exact ⟨rfl, fun i hi hi' => sameB_refl _⟩
/-- One of the two answers can't be full where the other one has room. -/
theorem added_full {l L : List Rq} {r : Rq} (h : Added l r L) (hno : ∀ j (hj : j < l.length), togE l[j] r = false) (h6 : 6 ≤ l.length) : False := by
  rcases h with ⟨k, hk, _, _, ht, _⟩ | ⟨_, h, _⟩
  · rw [hno k hk] at ht; cases ht
  · omega
end Go.Proofs.Ytfdmchhaiikeaaa
