/- Names: the walk. -/
import Derived.Test.YtpmjgofjdejeeaaDoorLater
import Derived.Lib.SliceRun
namespace Go.Proofs.YtpmjgofjdejeeaaDoor
open Go.RowKit Go.BigFrame
attribute [local go_sem] Later.cell Later.frozen

theorem ltN {w : World} {b o : Nat} {v : Value} (h : w.cell? ⟨b, o, none⟩ = some v) : b < w.heap.size := by
  rcases Nat.lt_or_ge b w.heap.size with h' | h'
  · exact h'
  · simp [World.cell?, Array.getElem?_eq_none h'] at h
theorem cellNewN (W : World) (arr : Array Value) (T : TypeId) (n i : Nat) (v : Value) (hn : W.heap.size = n) (h : arr[i]? = some v) : (W.alloc (.cells arr T)).cell? ⟨n, i, none⟩ = some v := by
  subst hn
  have h' := heap_alloc_new W (.cells arr T)
  simp only [World.cell?, h']
  exact h
theorem cellOldN {W : World} {b i : Nat} {v : Value} (h : W.cell? ⟨b, i, none⟩ = some v) (o : Obj) : (W.alloc o).cell? ⟨b, i, none⟩ = some v := by
  rw [World.cell?_alloc_lt W o _ (ltN h)]; exact h
set_option maxHeartbeats 400000 in
theorem small9 (w : World) : Calls Tryd.prog 41 #[.int .i64 9] w fun e w' => e = .returned (.string ⟨#[57]⟩) ∧ Below w.heap.size w w' := by
  go_enter Tryd.func41, Tryd.ntmps41
  go_wp2
  go_ret
  exact ⟨rfl, by repeat (first | with_reducible exact Below.refl _ _ | with_reducible refine balloc ?_ _ | with_reducible refine bdrew ?_ | with_reducible refine bset' ?_ (by omega) _ | with_reducible refine bthen ?_ (by assumption))⟩
set_option maxHeartbeats 400000 in
theorem format9 (w : World) : Calls Tryd.prog 39 #[.int .i64 9, .int .i64 10] w fun e w' => e = .returned (.string ⟨#[57]⟩) ∧ Below w.heap.size w w' := by
  go_enter Tryd.func39, Tryd.ntmps39
  go_wp2_with fail
  refine (small9 _).mono ?_
  rintro e w1 ⟨rfl, HB⟩
  go_wp2
  go_ret
  exact ⟨rfl, by repeat (first | with_reducible exact Below.refl _ _ | with_reducible refine balloc ?_ _ | with_reducible refine bdrew ?_ | with_reducible refine bset' ?_ (by omega) _ | with_reducible refine bthen ?_ (by assumption))⟩
set_option maxHeartbeats 400000 in
theorem itoaI9 (w : World) : Calls Tryd.prog 34 #[.int .i64 9] w fun e w' => e = .returned (.string ⟨#[57]⟩) ∧ Below w.heap.size w w' := by
  go_enter Tryd.func34, Tryd.ntmps34
  go_wp2_with fail
  refine (format9 _).mono ?_
  rintro e w1 ⟨rfl, HB⟩
  go_wp2
  go_ret
  exact ⟨rfl, by repeat (first | with_reducible exact Below.refl _ _ | with_reducible refine balloc ?_ _ | with_reducible refine bdrew ?_ | with_reducible refine bset' ?_ (by omega) _ | with_reducible refine bthen ?_ (by assumption))⟩
set_option maxHeartbeats 400000 in
theorem itoa9 (w : World) : Calls Tryd.prog 19 #[.int .i64 9] w fun e w' => e = .returned (.string ⟨#[57]⟩) ∧ Below w.heap.size w w' := by
  go_enter Tryd.func19, Tryd.ntmps19
  go_wp2_with fail
  refine (itoaI9 _).mono ?_
  rintro e w1 ⟨rfl, HB⟩
  go_wp2
  go_ret
  exact ⟨rfl, by repeat (first | with_reducible exact Below.refl _ _ | with_reducible refine balloc ?_ _ | with_reducible refine bdrew ?_ | with_reducible refine bset' ?_ (by omega) _ | with_reducible refine bthen ?_ (by assumption))⟩
set_option maxHeartbeats 400000 in
theorem error9 (w : World) : Calls Tryd.prog 7 #[.int .i64 9] w fun e w' => e = .returned (.string ⟨#[119, 101, 105, 103, 104, 98, 114, 105, 100, 103, 101, 58, 32, 101, 114, 114, 111, 114, 32, 57]⟩) ∧ Below w.heap.size w w' := by
  go_enter Tryd.func7, Tryd.ntmps7
  go_wp2_with fail
  refine (itoa9 _).mono ?_
  rintro e w1 ⟨rfl, HB⟩
  go_wp2
  go_ret
  exact ⟨rfl, by repeat (first | with_reducible exact Below.refl _ _ | with_reducible refine balloc ?_ _ | with_reducible refine bdrew ?_ | with_reducible refine bset' ?_ (by omega) _ | with_reducible refine bthen ?_ (by assumption))⟩
theorem run_assertN (n : Int) (w : World) : Sem.run Tryd.prog (Instr.typeAssert (.iface 23 (.int .i64 n)) 27 23 true) w = .ok (.tuple #[.int .i64 n, .bool true]) w := by kernel_rfl
set_option maxHeartbeats 400000 in
theorem sameN (n : Int) (w : World) (h : 0 < n) : Calls Tryd.prog 5 #[.iface 23 (.int .i64 n), .int .i64 n] w fun e w' => e = .returned (.bool true) ∧ Below w.heap.size w w' := by
  have ra := run_assertN n
  have h1 : ¬ n = 0 := by omega
  go_enter Tryd.func5, Tryd.ntmps5
  go_wp2
  go_ret
  exact ⟨rfl, by repeat (first | with_reducible exact Below.refl _ _ | with_reducible refine balloc ?_ _ | with_reducible refine bdrew ?_ | with_reducible refine bset' ?_ (by omega) _ | with_reducible refine bthen ?_ (by assumption))⟩
set_option maxHeartbeats 1000000 in
theorem numsN (n : Nat) (f : Nat → Int) (b b' c c' : Nat) (w : World) (hn : n ≤ 1000) (h : ∀ i, i < n → w.cell? ⟨b, i, none⟩ = some (.int .i64 (f i))) (h' : ∀ i, i < n → w.cell? ⟨b', i, none⟩ = some (.int .i64 (f i))) :
    Calls Tryd.prog 6 #[.slice (some ⟨b, 0, none⟩) n c, .slice (some ⟨b', 0, none⟩) n c'] w fun e w' => e = .returned (.bool true) ∧ Below w.heap.size w w' := by
  have H1 : Hid (∀ i, i < n → w.cell? ⟨b, i, none⟩ = some (.int .i64 (f i))) := h
  have H2 : Hid (∀ i, i < n → w.cell? ⟨b', i, none⟩ = some (.int .i64 (f i))) := h'
  clear h h'
  go_enter Tryd.func6, Tryd.ntmps6
  go_wp2
  go_loopw [5] (fun i wr => ∃ k : Nat, k ≤ n ∧ i = .int .i64 k ∧ Below w.heap.size w wr) (fun i _ => n - (intOf i).toNat)
  case atStart => exact ⟨0, by omega, rfl, Below.refl _ _⟩
  case round =>
    obtain ⟨k, hk, rfl, HB⟩ := hrel
    by_cases hlt : k < n
    · have c0 := H1.out k hlt
      have d0 := H2.out k hlt
      have l0 := ltN c0
      have l1 := ltN d0
      replace c0 : wr.cell? ⟨b, k, none⟩ = some (.int .i64 (f k)) := (by rw [HB.cell (p := ⟨b, k, none⟩) l0]; exact c0)
      replace d0 : wr.cell? ⟨b', k, none⟩ = some (.int .i64 (f k)) := (by rw [HB.cell (p := ⟨b', k, none⟩) l1]; exact d0)
      have l2 := ltN c0
      have l3 := ltN d0
      clear l0 l1 H1 H2
      have HW : Hid (Below w.heap.size w wr) := HB
      clear HB
      go_wp2_with fail
      refine wp_region_later (by first | exact HB | exact bdrew HB | exact Below.refl _ _) (by kernel_rfl) (by kernel_rfl) ?_
      repeat (go_big_quiet_step (first | exact rfl | fail))
      refine wpQuiet_nil ?_; intro _ hw'; obtain ⟨p, hw''⟩ := hw'; subst hw''; (try clear hc hf hz); (try clear HB); have HB := p.below; obtain ⟨hc, hf, hz⟩ := bcell HB
      go_wp2
      go_roundw
      case rel => exact ⟨k + 1, by omega, by go_num, bthen HW.out HB⟩
      case measure => simp [intOf]; omega
    · go_wp2
      go_ret
      exact ⟨rfl, by repeat (first | with_reducible exact Below.refl _ _ | with_reducible refine balloc ?_ _ | with_reducible refine bdrew ?_ | with_reducible refine bset' ?_ (by omega) _ | with_reducible refine bthen ?_ (by assumption))⟩
def numF (i : Nat) : Int := [32, 4, 4, 6, 2, 8, 3, 6, 4, 8, 3, 2, 3, 3, 1000000000, 90, 40, 1, 2, 3].getD i 0
set_option maxRecDepth 100000 in
set_option maxHeartbeats 2000000 in
theorem names_walk (w : World) : Calls Tryd.prog 3 #[] w fun e w' => e = .returned (.bool true) ∧ Below w.heap.size w w' := by
  go_enter Tryd.func3, Tryd.ntmps3
  go_wp2_with fail
  have hE : ∀ i, i < 9 → (((w.alloc (.cells #[Value.int .i64 32, Value.int .i64 4, Value.int .i64 4, Value.int .i64 6, Value.int .i64 2, Value.int .i64 8, Value.int .i64 3, Value.int .i64 6, Value.int .i64 4, Value.int .i64 8, Value.int .i64 3, Value.int .i64 2, Value.int .i64 3, Value.int .i64 3, Value.int .i64 1000000000, Value.int .i64 90, Value.int .i64 40, Value.int .i64 1, Value.int .i64 2, Value.int .i64 3] 3)).alloc (.cells #[Value.int .i64 32, Value.int .i64 4, Value.int .i64 4, Value.int .i64 6, Value.int .i64 2, Value.int .i64 8, Value.int .i64 3, Value.int .i64 6, Value.int .i64 4, Value.int .i64 8, Value.int .i64 3, Value.int .i64 2, Value.int .i64 3, Value.int .i64 3, Value.int .i64 1000000000, Value.int .i64 90, Value.int .i64 40, Value.int .i64 1, Value.int .i64 2, Value.int .i64 3] 3)).alloc (.cells #[Value.iface 23 (.int .i64 1), Value.iface 23 (.int .i64 2), Value.iface 23 (.int .i64 3), Value.iface 23 (.int .i64 4), Value.iface 23 (.int .i64 5), Value.iface 23 (.int .i64 6), Value.iface 23 (.int .i64 7), Value.iface 23 (.int .i64 8), Value.iface 23 (.int .i64 9)] 27)).cell? ⟨w.heap.size + 1 + 1, i, none⟩ = some (.iface 23 (.int .i64 ((i : Int) + 1))) := by
    intro i hi
    match i, hi with
    | 0, _ => exact cellNewN _ _ _ _ _ _ (by simp) rfl
    | 1, _ => exact cellNewN _ _ _ _ _ _ (by simp) rfl
    | 2, _ => exact cellNewN _ _ _ _ _ _ (by simp) rfl
    | 3, _ => exact cellNewN _ _ _ _ _ _ (by simp) rfl
    | 4, _ => exact cellNewN _ _ _ _ _ _ (by simp) rfl
    | 5, _ => exact cellNewN _ _ _ _ _ _ (by simp) rfl
    | 6, _ => exact cellNewN _ _ _ _ _ _ (by simp) rfl
    | 7, _ => exact cellNewN _ _ _ _ _ _ (by simp) rfl
    | 8, _ => exact cellNewN _ _ _ _ _ _ (by simp) rfl
  have hL : ∀ i, i < 20 → (((w.alloc (.cells #[Value.int .i64 32, Value.int .i64 4, Value.int .i64 4, Value.int .i64 6, Value.int .i64 2, Value.int .i64 8, Value.int .i64 3, Value.int .i64 6, Value.int .i64 4, Value.int .i64 8, Value.int .i64 3, Value.int .i64 2, Value.int .i64 3, Value.int .i64 3, Value.int .i64 1000000000, Value.int .i64 90, Value.int .i64 40, Value.int .i64 1, Value.int .i64 2, Value.int .i64 3] 3)).alloc (.cells #[Value.int .i64 32, Value.int .i64 4, Value.int .i64 4, Value.int .i64 6, Value.int .i64 2, Value.int .i64 8, Value.int .i64 3, Value.int .i64 6, Value.int .i64 4, Value.int .i64 8, Value.int .i64 3, Value.int .i64 2, Value.int .i64 3, Value.int .i64 3, Value.int .i64 1000000000, Value.int .i64 90, Value.int .i64 40, Value.int .i64 1, Value.int .i64 2, Value.int .i64 3] 3)).alloc (.cells #[Value.iface 23 (.int .i64 1), Value.iface 23 (.int .i64 2), Value.iface 23 (.int .i64 3), Value.iface 23 (.int .i64 4), Value.iface 23 (.int .i64 5), Value.iface 23 (.int .i64 6), Value.iface 23 (.int .i64 7), Value.iface 23 (.int .i64 8), Value.iface 23 (.int .i64 9)] 27)).cell? ⟨w.heap.size, i, none⟩ = some (.int .i64 (numF i)) := by
    intro i hi
    match i, hi with
    | 0, _ => exact cellOldN (cellOldN (cellNewN _ _ _ _ _ _ rfl rfl) _) _
    | 1, _ => exact cellOldN (cellOldN (cellNewN _ _ _ _ _ _ rfl rfl) _) _
    | 2, _ => exact cellOldN (cellOldN (cellNewN _ _ _ _ _ _ rfl rfl) _) _
    | 3, _ => exact cellOldN (cellOldN (cellNewN _ _ _ _ _ _ rfl rfl) _) _
    | 4, _ => exact cellOldN (cellOldN (cellNewN _ _ _ _ _ _ rfl rfl) _) _
    | 5, _ => exact cellOldN (cellOldN (cellNewN _ _ _ _ _ _ rfl rfl) _) _
    | 6, _ => exact cellOldN (cellOldN (cellNewN _ _ _ _ _ _ rfl rfl) _) _
    | 7, _ => exact cellOldN (cellOldN (cellNewN _ _ _ _ _ _ rfl rfl) _) _
    | 8, _ => exact cellOldN (cellOldN (cellNewN _ _ _ _ _ _ rfl rfl) _) _
    | 9, _ => exact cellOldN (cellOldN (cellNewN _ _ _ _ _ _ rfl rfl) _) _
    | 10, _ => exact cellOldN (cellOldN (cellNewN _ _ _ _ _ _ rfl rfl) _) _
    | 11, _ => exact cellOldN (cellOldN (cellNewN _ _ _ _ _ _ rfl rfl) _) _
    | 12, _ => exact cellOldN (cellOldN (cellNewN _ _ _ _ _ _ rfl rfl) _) _
    | 13, _ => exact cellOldN (cellOldN (cellNewN _ _ _ _ _ _ rfl rfl) _) _
    | 14, _ => exact cellOldN (cellOldN (cellNewN _ _ _ _ _ _ rfl rfl) _) _
    | 15, _ => exact cellOldN (cellOldN (cellNewN _ _ _ _ _ _ rfl rfl) _) _
    | 16, _ => exact cellOldN (cellOldN (cellNewN _ _ _ _ _ _ rfl rfl) _) _
    | 17, _ => exact cellOldN (cellOldN (cellNewN _ _ _ _ _ _ rfl rfl) _) _
    | 18, _ => exact cellOldN (cellOldN (cellNewN _ _ _ _ _ _ rfl rfl) _) _
    | 19, _ => exact cellOldN (cellOldN (cellNewN _ _ _ _ _ _ rfl rfl) _) _
    | n + 20, hi => exact absurd hi (by omega)
  have hM : ∀ i, i < 20 → (((w.alloc (.cells #[Value.int .i64 32, Value.int .i64 4, Value.int .i64 4, Value.int .i64 6, Value.int .i64 2, Value.int .i64 8, Value.int .i64 3, Value.int .i64 6, Value.int .i64 4, Value.int .i64 8, Value.int .i64 3, Value.int .i64 2, Value.int .i64 3, Value.int .i64 3, Value.int .i64 1000000000, Value.int .i64 90, Value.int .i64 40, Value.int .i64 1, Value.int .i64 2, Value.int .i64 3] 3)).alloc (.cells #[Value.int .i64 32, Value.int .i64 4, Value.int .i64 4, Value.int .i64 6, Value.int .i64 2, Value.int .i64 8, Value.int .i64 3, Value.int .i64 6, Value.int .i64 4, Value.int .i64 8, Value.int .i64 3, Value.int .i64 2, Value.int .i64 3, Value.int .i64 3, Value.int .i64 1000000000, Value.int .i64 90, Value.int .i64 40, Value.int .i64 1, Value.int .i64 2, Value.int .i64 3] 3)).alloc (.cells #[Value.iface 23 (.int .i64 1), Value.iface 23 (.int .i64 2), Value.iface 23 (.int .i64 3), Value.iface 23 (.int .i64 4), Value.iface 23 (.int .i64 5), Value.iface 23 (.int .i64 6), Value.iface 23 (.int .i64 7), Value.iface 23 (.int .i64 8), Value.iface 23 (.int .i64 9)] 27)).cell? ⟨w.heap.size + 1, i, none⟩ = some (.int .i64 (numF i)) := by
    intro i hi
    match i, hi with
    | 0, _ => exact cellOldN (cellNewN _ _ _ _ _ _ (by simp) rfl) _
    | 1, _ => exact cellOldN (cellNewN _ _ _ _ _ _ (by simp) rfl) _
    | 2, _ => exact cellOldN (cellNewN _ _ _ _ _ _ (by simp) rfl) _
    | 3, _ => exact cellOldN (cellNewN _ _ _ _ _ _ (by simp) rfl) _
    | 4, _ => exact cellOldN (cellNewN _ _ _ _ _ _ (by simp) rfl) _
    | 5, _ => exact cellOldN (cellNewN _ _ _ _ _ _ (by simp) rfl) _
    | 6, _ => exact cellOldN (cellNewN _ _ _ _ _ _ (by simp) rfl) _
    | 7, _ => exact cellOldN (cellNewN _ _ _ _ _ _ (by simp) rfl) _
    | 8, _ => exact cellOldN (cellNewN _ _ _ _ _ _ (by simp) rfl) _
    | 9, _ => exact cellOldN (cellNewN _ _ _ _ _ _ (by simp) rfl) _
    | 10, _ => exact cellOldN (cellNewN _ _ _ _ _ _ (by simp) rfl) _
    | 11, _ => exact cellOldN (cellNewN _ _ _ _ _ _ (by simp) rfl) _
    | 12, _ => exact cellOldN (cellNewN _ _ _ _ _ _ (by simp) rfl) _
    | 13, _ => exact cellOldN (cellNewN _ _ _ _ _ _ (by simp) rfl) _
    | 14, _ => exact cellOldN (cellNewN _ _ _ _ _ _ (by simp) rfl) _
    | 15, _ => exact cellOldN (cellNewN _ _ _ _ _ _ (by simp) rfl) _
    | 16, _ => exact cellOldN (cellNewN _ _ _ _ _ _ (by simp) rfl) _
    | 17, _ => exact cellOldN (cellNewN _ _ _ _ _ _ (by simp) rfl) _
    | 18, _ => exact cellOldN (cellNewN _ _ _ _ _ _ (by simp) rfl) _
    | 19, _ => exact cellOldN (cellNewN _ _ _ _ _ _ (by simp) rfl) _
    | n + 20, hi => exact absurd hi (by omega)
  have b0 : Below w.heap.size w (((w.alloc (.cells #[Value.int .i64 32, Value.int .i64 4, Value.int .i64 4, Value.int .i64 6, Value.int .i64 2, Value.int .i64 8, Value.int .i64 3, Value.int .i64 6, Value.int .i64 4, Value.int .i64 8, Value.int .i64 3, Value.int .i64 2, Value.int .i64 3, Value.int .i64 3, Value.int .i64 1000000000, Value.int .i64 90, Value.int .i64 40, Value.int .i64 1, Value.int .i64 2, Value.int .i64 3] 3)).alloc (.cells #[Value.int .i64 32, Value.int .i64 4, Value.int .i64 4, Value.int .i64 6, Value.int .i64 2, Value.int .i64 8, Value.int .i64 3, Value.int .i64 6, Value.int .i64 4, Value.int .i64 8, Value.int .i64 3, Value.int .i64 2, Value.int .i64 3, Value.int .i64 3, Value.int .i64 1000000000, Value.int .i64 90, Value.int .i64 40, Value.int .i64 1, Value.int .i64 2, Value.int .i64 3] 3)).alloc (.cells #[Value.iface 23 (.int .i64 1), Value.iface 23 (.int .i64 2), Value.iface 23 (.int .i64 3), Value.iface 23 (.int .i64 4), Value.iface 23 (.int .i64 5), Value.iface 23 (.int .i64 6), Value.iface 23 (.int .i64 7), Value.iface 23 (.int .i64 8), Value.iface 23 (.int .i64 9)] 27)) := by repeat (first | with_reducible exact Below.refl _ _ | with_reducible refine balloc ?_ _ | with_reducible refine bdrew ?_ | with_reducible refine bset' ?_ (by omega) _ | with_reducible refine bthen ?_ (by assumption))
  generalize (((w.alloc (.cells #[Value.int .i64 32, Value.int .i64 4, Value.int .i64 4, Value.int .i64 6, Value.int .i64 2, Value.int .i64 8, Value.int .i64 3, Value.int .i64 6, Value.int .i64 4, Value.int .i64 8, Value.int .i64 3, Value.int .i64 2, Value.int .i64 3, Value.int .i64 3, Value.int .i64 1000000000, Value.int .i64 90, Value.int .i64 40, Value.int .i64 1, Value.int .i64 2, Value.int .i64 3] 3)).alloc (.cells #[Value.int .i64 32, Value.int .i64 4, Value.int .i64 4, Value.int .i64 6, Value.int .i64 2, Value.int .i64 8, Value.int .i64 3, Value.int .i64 6, Value.int .i64 4, Value.int .i64 8, Value.int .i64 3, Value.int .i64 2, Value.int .i64 3, Value.int .i64 3, Value.int .i64 1000000000, Value.int .i64 90, Value.int .i64 40, Value.int .i64 1, Value.int .i64 2, Value.int .i64 3] 3)).alloc (.cells #[Value.iface 23 (.int .i64 1), Value.iface 23 (.int .i64 2), Value.iface 23 (.int .i64 3), Value.iface 23 (.int .i64 4), Value.iface 23 (.int .i64 5), Value.iface 23 (.int .i64 6), Value.iface 23 (.int .i64 7), Value.iface 23 (.int .i64 8), Value.iface 23 (.int .i64 9)] 27)) = W0 at hE hL hM b0 ⊢
  have HE : Hid _ := hE
  have HL : Hid _ := hL
  have HM : Hid _ := hM
  have HB0 : Hid _ := b0
  clear hE hL hM b0
  go_loopw [4] (fun i wr => ∃ k : Nat, k ≤ 9 ∧ i = .int .i64 k ∧ Below W0.heap.size W0 wr) (fun i _ => 9 - (intOf i).toNat)
  case atStart => exact ⟨0, by omega, rfl, Below.refl _ _⟩
  case round =>
    obtain ⟨k, hk, rfl, HB⟩ := hrel
    by_cases hlt : k < 9
    · have c0 := HE.out k hlt
      have l0 := ltN c0
      replace c0 : wr.cell? ⟨w.heap.size + 1 + 1, k, none⟩ = some (.iface 23 (.int .i64 ((k : Int) + 1))) := (by rw [HB.cell (p := ⟨w.heap.size + 1 + 1, k, none⟩) l0]; exact c0)
      clear l0
      have hwr : IntKind.i64.wrap ((k : Int) + 1) = (k : Int) + 1 := by rw [IntKind.wrap_i64]; omega
      go_wp2_with fail
      refine (sameN ((k : Int) + 1) _ (by omega)).mono ?_
      rintro e w5 ⟨rfl, hb5⟩
      go_wp2
      go_roundw
      case rel => exact ⟨k + 1, by omega, by go_num, bthen HB hb5⟩
      case measure => simp [intOf]; omega
    · go_wp2_with fail
      refine (numsN 20 numF (w.heap.size) (w.heap.size + 1) 20 20 _ (by omega) (fun i hi => by rw [HB.cell (p := ⟨w.heap.size, i, none⟩) (ltN (HL.out i hi))]; exact HL.out i hi) (fun i hi => by rw [HB.cell (p := ⟨w.heap.size + 1, i, none⟩) (ltN (HM.out i hi))]; exact HM.out i hi)).mono ?_
      rintro e w6 ⟨rfl, hb6⟩
      go_wp2_with fail
      refine (error9 _).mono ?_
      rintro e w7 ⟨rfl, hb7⟩
      have HBF : Below w.heap.size w w7 := HB0.out.trans ((bthen (bthen HB hb6) hb7).mono HB0.out.size)
      clear hb7 hb6 HB
      go_wp2
      go_ret
      exact ⟨rfl, HBF⟩
end Go.Proofs.YtpmjgofjdejeeaaDoor
