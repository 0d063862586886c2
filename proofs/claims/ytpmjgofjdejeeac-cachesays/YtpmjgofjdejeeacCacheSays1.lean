/- CacheSays: PutBuf's roads in one, the closed fact 'caches', the closures. -/
import Derived.Test.YtpmjgofjdejeeacRPut2
import Derived.Test.YtpmjgofjdejeeacRPut3
import Derived.Test.YtpmjgofjdejeeacRPut4
namespace Go.Proofs.Ytpmjgofjdejeeac
open Go.RowKit Go.BigFrame
attribute [local go_sem] Later.cell Later.frozen

def FullB (l : List Bf) (x : Bf) (H : Int → Bool) : Prop := idxB (plB x.pl) l = -1 ∧ l.length = 8 ∧ leastU (fitB false H) l l.length = -1
theorem PutsM.notFull {l : List Bf} {x : Bf} {H : Int → Bool} {m : List Bf} (h : PutsM l x H m) : ¬ FullB l x H := by
  rintro ⟨f1, f2, f3⟩
  rcases h with ⟨k, hk, hix, _⟩ | ⟨_, h8, _⟩ | ⟨_, _, k, hk, hr, _⟩
  · rw [hix] at f1; omega
  · omega
  · rw [hr] at f3; omega
def RPutOut (l : List Bf) (x : Bf) (H : Int → Bool) (w' : World) (e : Ending) : Prop :=
  (∃ (m : List Bf) (a' : Option Addr) (c' : Nat), (∀ m', PutsM l x H m' → m = m') ∧ ¬ FullB l x H ∧ e = .returned (.tuple #[.slice a' m.length c', .int .i64 0]) ∧ BufsAt w' a' m) ∨
  (FullB l x H ∧ e = .returned (.tuple #[.slice none 0 0, .int .i64 7]))
theorem rput_any (l : List Bf) (a : Option Addr) (c : Nat) (x : Bf) (hs : Array Value) (hz : hs.size = 32) (B : Nat → Bool) (w : World) (hl : BufsAt w a l) (G : GoodB l) (hB : ∀ i, i < 32 → hs[i]? = some (.bool (B i))) :
    Calls Try.prog 43 #[.slice a l.length c, x.val, .agg hs] w fun e w' => RPutOut l x (holdB B) w' e ∧ Below w.heap.size w w' := by
  rcases idx_spec (plB x.pl) l with ⟨hi, _⟩ | ⟨k, hk, hi, _⟩
  · by_cases h8 : l.length < 8
    · refine (rput_room l a c x hs w hl G h8 hi).mono ?_
      rintro e w' ⟨M, a', c', he, hM, hR, hb⟩
      exact ⟨Or.inl ⟨M, a', c', fun m' hm => hR.eq G hm (Or.inr ⟨by omega, rfl⟩), (fun h => by have := h.2.1; omega), he, hM⟩, hb⟩
    · have h8' : l.length = 8 := by have := G.len; omega
      rcases leastU_spec (fitB false (holdB B)) l l.length (Nat.le_refl _) with ⟨hr, _⟩ | ⟨k, hk, _, hr, _⟩
      · refine (rput_full l a c x hs hz B w hl G hB h8' hi hr).mono ?_
        rintro e w' ⟨he, hb⟩
        exact ⟨Or.inr ⟨⟨hi, h8', hr⟩, he⟩, hb⟩
      · refine (rput_drop l a c x hs hz B w hl G hB h8' hi k hk hr).mono ?_
        rintro e w' ⟨M, a', c', he, hM, hR, hb⟩
        exact ⟨Or.inl ⟨M, a', c', fun m' hm => hR.eq G hm (Or.inl ⟨hi, h8', hr.symm⟩), (fun h => by have := h.2.2; omega), he, hM⟩, hb⟩
  · refine (rput_have l a c x hs w hl G k hk hi).mono ?_
    rintro e w' ⟨M, a', c', he, hM, hR, hb⟩
    exact ⟨Or.inl ⟨M, a', c', fun m' hm => hR.eq G hm (Or.inr ⟨fun h => by have := h.1; omega, rfl⟩), (fun h => by have := h.1; omega), he, hM⟩, hb⟩

set_option maxHeartbeats 400000 in
theorem sameC0 (w : World) : Calls Try.prog 13 #[.nilIface, .int .i64 0] w fun e w' => e = .returned (.bool true) ∧ Below w.heap.size w w' := by
  go_enter Try.func13, Try.ntmps13
  go_wp2
  go_ret
  exact ⟨rfl, by repeat (first | with_reducible exact Below.refl _ _ | with_reducible refine balloc ?_ _ | with_reducible refine bdrew ?_ | with_reducible refine bset' ?_ (by omega) _ | with_reducible refine bthen ?_ (by assumption))⟩
theorem run_assertC (n : Int) (w : World) : Sem.run Try.prog (Instr.typeAssert (.iface 47 (.int .i64 n)) 45 47 true) w = .ok (.tuple #[.int .i64 n, .bool true]) w := by kernel_rfl
set_option maxHeartbeats 400000 in
theorem sameC7 (w : World) : Calls Try.prog 13 #[.iface 47 (.int .i64 7), .int .i64 7] w fun e w' => e = .returned (.bool true) ∧ Below w.heap.size w w' := by
  have ra := run_assertC 7
  go_enter Try.func13, Try.ntmps13
  go_wp2
  go_ret
  exact ⟨rfl, by repeat (first | with_reducible exact Below.refl _ _ | with_reducible refine balloc ?_ _ | with_reducible refine bdrew ?_ | with_reducible refine bset' ?_ (by omega) _ | with_reducible refine bthen ?_ (by assumption))⟩
set_option maxHeartbeats 400000 in
theorem caches1 (n : Int) (w : World) : Calls Try.prog 63 (#[.int .i64 n] ++ #[]) w fun e w' => e = .returned (.bool false) ∧ Below w.heap.size w w' := by
  show Calls Try.prog 63 #[.int .i64 n] w _
  go_enter Try.func63, Try.ntmps63
  go_wp2
  go_ret
  exact ⟨rfl, by repeat (first | with_reducible exact Below.refl _ _ | with_reducible refine balloc ?_ _ | with_reducible refine bdrew ?_ | with_reducible refine bset' ?_ (by omega) _ | with_reducible refine bthen ?_ (by assumption))⟩
def bfC : Bf := ⟨3, ⟨#[120]⟩, true, 0⟩
theorem putC {w' : World} {e : Ending} (h : PutOut [] bfC (fun _ => false) w' e) : ∃ (a' : Option Addr) (c' : Nat), e = .returned (.tuple #[.slice a' 1 c', .nilIface]) ∧ BufsAt w' a' [bfC] := by
  rcases h with ⟨m, a', c', hm, he, hb, _⟩ | ⟨_, h8, _⟩
  · rcases hm with ⟨k, hk, _⟩ | ⟨_, _, rfl⟩ | ⟨_, h8, _⟩
    · exact absurd hk (Nat.not_lt_zero _)
    · exact ⟨a', c', he, hb⟩
    · cases h8
  · cases h8
set_option maxRecDepth 100000 in
set_option maxHeartbeats 1000000 in
theorem caches_any (w : World) : Calls Try.prog 32 #[] w fun e w' => e = .returned (.bool true) ∧ Below w.heap.size w w' := by
  go_enter Try.func32, Try.ntmps32
  go_wp2_with fail
  refine (put_any 63 (by intro args w; go_simp) #[] (fun _ => false) [] none 0 bfC _ ⟨Or.inl rfl, by simp⟩ (fun _ => rfl) (by simp) (fun n w' _ => caches1 n w')).mono ?_
  rintro e w1 ⟨hout, hb1⟩
  obtain ⟨a1, c1, rfl, hm1⟩ := putC hout
  clear hout
  go_wp2_with fail
  refine (get_yes [bfC] a1 c1 3 _ hm1 0 (by simp) (idx_found (by simp) (by simp [plB, bfC]) (fun j hj => absurd hj (Nat.not_lt_zero _)))).mono ?_
  rintro e w2 ⟨rfl, hb2⟩
  simp only [List.getElem_cons_zero, bfC]
  have HB2 := bthen hb1 hb2
  have hm2 := hm1.later hb2
  clear hb1 hb2 hm1
  go_wp2_with fail
  refine (sameC0 _).mono ?_
  rintro e w3 ⟨rfl, hb3⟩
  obtain ⟨⟨y0, y1, y2, y3⟩, -, -⟩ := quadNew hb3
  have bb := bthen (below1 w2 _) hb3
  have HB3 := bthen HB2 bb
  have hm3 := hm2.later bb
  clear hb3 bb HB2 hm2
  go_wp2_with fail
  refine (dirty_any [bfC] a1 c1 _ hm3 1 (by simp [dirtyN, bfC])).mono ?_
  rintro e w4 ⟨rfl, hb4⟩
  go_wp2
  go_ret
  exact ⟨rfl, bthen HB3 hb4⟩
end Go.Proofs.Ytpmjgofjdejeeac
