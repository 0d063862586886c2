/- request.Part: what a sector has of what was read. -/
import Derived.Test.YthmeaclekedilacSpan
import Derived.Test.YthmeaclekedilacReq
namespace Go.Proofs.Ythmeaclekedilac
open Go.RowKit Go.BigFrame
attribute [local go_sem] Later.cell Later.frozen

/-- A result: a request, what was read, an error's number. -/
abbrev resV (r : Rq) (xa : Option Addr) (n xc : Nat) (er : Int) : Value := .agg #[.bool r.wr, .int .i64 r.f, .int .i64 r.m, .slice r.da r.data.length r.dc, .slice r.ta r.tags.length r.tc, .int .i64 r.born, .slice xa n xc, .int .i64 er]
set_option maxHeartbeats 400000 in
theorem part_no (r : Rq) (xa : Option Addr) (n xc : Nat) (er p : Int) (w : World) (h : hasB r.f r.m p = false) :
    Calls Try.prog 53 #[resV r xa n xc er, .int .i64 p] w fun e w' => e = .returned (.tuple #[.string ⟨#[]⟩, .bool false]) ∧ Below w.heap.size w w' := by
  obtain ⟨wr, f, m, da, dc, data, ta, tc, tags, born⟩ := r
  simp only at h
  go_enter Try.func53, Try.ntmps53
  go_wp2_with fail
  go_at_call 54; refine (has_eq _ _ _ _ _ h).mono ?_; rintro e w1 ⟨rfl, hb⟩; (try clear hc hf hz); (first | replace HB := bthen HB hb | replace HB := bthen (bdrew HB) hb | have HB := hb); clear hb; obtain ⟨hc, hf, hz⟩ := bcell HB
  go_wp2
  go_ret2
  exact ⟨rfl, by repeat (first | with_reducible exact Below.refl _ _ | with_reducible refine balloc ?_ _ | with_reducible refine bdrew ?_ | with_reducible refine bset' ?_ (by omega) _ | with_reducible refine bthen ?_ (by assumption))⟩
set_option maxHeartbeats 400000 in
theorem part_out (r : Rq) (xa : Option Addr) (n xc : Nat) (er p : Int) (w : World) (h : hasB r.f r.m p = true) (k : Int) (hk : wrap64 (p - r.f) = k) (hn : (n : Int) ≤ k) :
    Calls Try.prog 53 #[resV r xa n xc er, .int .i64 p] w fun e w' => e = .returned (.tuple #[.string ⟨#[]⟩, .bool false]) ∧ Below w.heap.size w w' := by
  obtain ⟨wr, f, m, da, dc, data, ta, tc, tags, born⟩ := r
  simp only at h hk
  go_enter Try.func53, Try.ntmps53
  go_wp2_with fail
  go_at_call 54; refine (has_eq _ _ _ _ _ h).mono ?_; rintro e w1 ⟨rfl, hb⟩; (try clear hc hf hz); (first | replace HB := bthen HB hb | replace HB := bthen (bdrew HB) hb | have HB := hb); clear hb; obtain ⟨hc, hf, hz⟩ := bcell HB
  go_wp2
  go_ret2
  exact ⟨rfl, by repeat (first | with_reducible exact Below.refl _ _ | with_reducible refine balloc ?_ _ | with_reducible refine bdrew ?_ | with_reducible refine bset' ?_ (by omega) _ | with_reducible refine bthen ?_ (by assumption))⟩
set_option maxHeartbeats 400000 in
theorem part_in (r : Rq) (xs : List ByteArray) (xa : Option Addr) (xc : Nat) (er p : Int) (w : World) (hx : StrsAt w xa xs) (h : hasB r.f r.m p = true) (k : Nat) (hk : wrap64 (p - r.f) = k) (hn : k < xs.length) (s : ByteArray) (hs : xs.getD k ByteArray.empty = s) :
    Calls Try.prog 53 #[resV r xa xs.length xc er, .int .i64 p] w fun e w' => e = .returned (.tuple #[.string s, .bool true]) ∧ Below w.heap.size w w' := by
  rcases hx with rfl | ⟨b, o, rfl, hcx⟩
  · exact absurd hn (Nat.not_lt_zero _)
  have c0 := hcx k hn
  have hlb := lt_of_cell c0
  rw [hs] at c0
  clear hcx hs
  obtain ⟨wr, f, m, da, dc, data, ta, tc, tags, born⟩ := r
  simp only at h hk
  have hn1 : ¬ (xs.length : Int) ≤ (k : Int) := by omega
  go_enter Try.func53, Try.ntmps53
  go_wp2_with fail
  go_at_call 54; refine (has_eq _ _ _ _ _ h).mono ?_; rintro e w1 ⟨rfl, hb⟩; (try clear hc hf hz); (first | replace HB := bthen HB hb | replace HB := bthen (bdrew HB) hb | have HB := hb); clear hb; obtain ⟨hc, hf, hz⟩ := bcell HB
  have c1 : w1.cell? ⟨b, o + k, none⟩ = some (.string s) := by rw [hc _ _ (by simp; omega), World.cell?_alloc_lt _ _ _ hlb]; exact c0
  go_wp2
  go_ret2
  exact ⟨rfl, by repeat (first | with_reducible exact Below.refl _ _ | with_reducible refine balloc ?_ _ | with_reducible refine bdrew ?_ | with_reducible refine bset' ?_ (by omega) _ | with_reducible refine bthen ?_ (by assumption))⟩
end Go.Proofs.Ythmeaclekedilac
