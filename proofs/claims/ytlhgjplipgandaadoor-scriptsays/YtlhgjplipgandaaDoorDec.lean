/- The document's answer: a number's digits. -/
import Derived.Test.YtlhgjplipgandaaDoorLater
import Derived.Laws.IdiomStrings
import Derived.Deep.RegionHeld3
import Derived.Deep.RegionLaw
import Derived.Test.YtlhgjplipgandaaDoorAppend
namespace Go.Proofs.YtlhgjplipgandaaDoor
open Go.RowKit Go.BigFrame
attribute [local go_sem] Later.cell Later.frozen

def bt (n : Nat) : UInt8 := UInt8.ofNat n
/-- A number's digits, without a sign, with a bound. -/
def digF : Nat → Nat → List UInt8
  | 0, n => [bt (48 + n)]
  | f + 1, n => if n < 10 then [bt (48 + n)] else digF f (n / 10) ++ [bt (48 + n % 10)]
theorem digF_eq (f g n : Nat) (hf : n ≤ f) (hg : n ≤ g) : digF f n = digF g n := by
  induction f generalizing g n with
  | zero =>
    obtain rfl : n = 0 := by omega
    cases g <;> simp [digF]
  | succ f ih =>
    cases g with
    | zero => obtain rfl : n = 0 := by omega
              simp [digF]
    | succ g =>
      simp only [digF]
      split
      · rfl
      · rw [ih g (n / 10) (by omega) (by omega)]
/-- A number's digits, without a sign. -/
def digs (n : Nat) : List UInt8 := digF n n
theorem digs_eq (n : Nat) : digs n = if n < 10 then [bt (48 + n)] else digs (n / 10) ++ [bt (48 + n % 10)] := by
  unfold digs
  cases n with
  | zero => rfl
  | succ n =>
    simp only [digF]
    split
    · rfl
    · rw [digF_eq n ((n + 1) / 10) ((n + 1) / 10) (by omega) (by omega)]
/-- A number's digits. -/
def decB (n : Int) : ByteArray := ⟨(if n < -9 then 45 :: (digs (n.natAbs / 10) ++ digs (n.natAbs % 10)) else if n < 0 then 45 :: digs n.natAbs else digs n.natAbs).toArray⟩
theorem digs_len (k n : Nat) (h : n < 10 ^ (k + 1)) : (digs n).length ≤ k + 1 := by
  induction k generalizing n with
  | zero => rw [digs_eq]; simp at h; simp [h]
  | succ k ih =>
    rw [digs_eq]
    split
    · simp
    · have : n / 10 < 10 ^ (k + 1) := by rw [Nat.div_lt_iff_lt_mul (by omega)]; rw [Nat.pow_succ] at h; exact h
      have := ih _ this
      simp; omega
theorem conv1 (W : World) (g n : Nat) (z : Int) (hz : z = (n : Int)) (hn : n < 256) (h : W.cell? ⟨g, 0, none⟩ = some (.int .u8 z)) :
    Sem.run Tryd.prog (convert 60 9 (.slice (some ⟨g, 0, none⟩) 1 1)) W = .ok (.string ⟨#[bt n]⟩) W := by
  subst hz
  refine run_convert_bytes_back W 60 9 5 ⟨g, 0, none⟩ 1 [bt n] Tryd.underlying60 Tryd.underlying5 Tryd.underlying9 ?_
  intro j hj
  match j, hj with
  | 0, _ => simpa [bt, Addr.add, Nat.mod_eq_of_lt hn] using h
set_option maxHeartbeats 400000 in
theorem dec_small (n : Nat) (w : World) (hn : n < 10) :
    Calls Tryd.prog 17 #[.int .i64 n] w fun e w' => e = .returned (.string ⟨(digs n).toArray⟩) ∧ Below w.heap.size w w' := by
  have h1 : ¬ ((n : Int) < -9) := by omega
  have h2 : ¬ ((n : Int) < 0) := by omega
  have h3 : ((n : Int) < 10) := by omega
  have hcv := conv1 (w.alloc (.cells #[.int .u8 (48 + (n : Int))] 5)) w.heap.size (48 + n) (48 + (n : Int)) (by omega) (by omega) (World.cell?_alloc_mark w _ _ _ 0)
  go_enter Tryd.func17, Tryd.ntmps17
  go_wp2
  go_ret
  rw [digs_eq, if_pos hn]
  exact ⟨rfl, by repeat (first | with_reducible exact Below.refl _ _ | with_reducible refine balloc ?_ _ | with_reducible refine bdrew ?_ | with_reducible refine bset' ?_ (by omega) _ | with_reducible refine bthen ?_ (by assumption))⟩
theorem step_conv {P : Program} {ops : Array Oper} {o : Oper} {a : Act} {w : World} {K : Act → World → Prop} {Q : Exit → Act → World → Prop} {E : Prop}
    (hg : o.guard = none) (x : Operand) (src dst : TypeId) (hop : o.op = Op.convert src dst x) (v r : Value) (hx : a.eval x = v) (hr : Sem.run P (convert src dst v) w = .ok r w) (h : K (a.put o.dst r) w) :
    if Region.wanted o (yielded ops a.tmps) = true then Oper.wp P o a w K Q else E := by
  have hw : Region.wanted o (yielded ops a.tmps) = true := by simp [Region.wanted, hg]
  rw [if_pos hw]
  unfold Oper.wp
  simp [execOp, hop, hx, hr, Result.andThen]
  exact h
theorem step_call1 {P : Program} {ops : Array Oper} {o : Oper} {a : Act} {w : World} {K : Act → World → Prop} {Q : Exit → Act → World → Prop} {E : Prop}
    (hg : o.guard = none) (f : FuncId) (k : Nat) (t : TypeId) (hop : o.op = Op.call { callee := Callee.value (.func f), args := #[.tmp k], argTypes := #[t] }) (eg : ∀ args w, (callFunc f args).run P w = .ok (.enter f args) w)
    (v r : Value) (hx : a.tmps[k]?.getD undef = v) (S : World → Prop) (hc : Calls P f #[v] w fun e w' => e = .returned r ∧ S w') (h : ∀ w', S w' → K (a.put o.dst r) w') :
    if Region.wanted o (yielded ops a.tmps) = true then Oper.wp P o a w K Q else E := by
  have hw : Region.wanted o (yielded ops a.tmps) = true := by simp [Region.wanted, hg]
  rw [if_pos hw]
  unfold Oper.wp
  simp [execOp, hop, resolve, invoke, hx, eg, go_sem]
  refine hc.mono ?_
  rintro _ w' ⟨rfl, hs⟩
  exact h w' hs
theorem keep1 {w w1 : World} {v : Value} {T : TypeId} (h : Below (w.alloc (.cells #[v] T)).heap.size (w.alloc (.cells #[v] T)) w1) : w1.cell? ⟨w.heap.size, 0, none⟩ = some v := by
  rw [h.cell (p := ⟨w.heap.size, 0, none⟩) (by simp)]; exact World.cell?_alloc_mark w _ _ _ 0
theorem keep2 {w w1 : World} {v : Value} {T : TypeId} (h : Below (w.alloc (.cells #[v] T)).drew.heap.size (w.alloc (.cells #[v] T)).drew w1) : w1.cell? ⟨w.heap.size, 0, none⟩ = some v := by
  rw [h.cell (p := ⟨w.heap.size, 0, none⟩) (by simp)]; exact World.cell?_alloc_mark w _ _ _ 0
def DecAt (z : Int) (l : List UInt8) : Prop := ∀ z' w, z' = z → Calls Tryd.prog 17 #[.int .i64 z'] w fun e w' => e = .returned (.string ⟨l.toArray⟩) ∧ Below w.heap.size w w'
set_option maxHeartbeats 1600000 in
set_option maxRecDepth 10000 in
theorem dec_big (n : Nat) (w : World) (hn : ¬ n < 10) (hm : n < 9223372036854775808) (IH : DecAt (n / 10 : Nat) (digs (n / 10))) :
    Calls Tryd.prog 17 #[.int .i64 n] w fun e w' => e = .returned (.string ⟨(digs n).toArray⟩) ∧ Below w.heap.size w w' := by
  have h1 : ¬ ((n : Int) < -9) := by omega
  have h2 : ¬ ((n : Int) < 0) := by omega
  have h3 : ¬ ((n : Int) < 10) := by omega
  have htd : (n : Int).tdiv 10 = ((n / 10 : Nat) : Int) := by rw [Int.tdiv_eq_ediv_of_nonneg (by omega)]; omega
  have htm : (n : Int).tmod 10 = ((n % 10 : Nat) : Int) := by rw [Int.tmod_eq_emod_of_nonneg (by omega)]; omega
  obtain ⟨q, hq⟩ : ∃ q : Nat, n / 10 = q := ⟨_, rfl⟩
  obtain ⟨r, hr⟩ : ∃ r : Nat, n % 10 = r := ⟨_, rfl⟩
  have hd : digs n = digs q ++ [bt (48 + r)] := by rw [digs_eq, if_neg hn, hq, hr]
  rw [hd]
  rw [hq] at htd IH
  rw [hr] at htm
  have hr9 : r < 10 := by omega
  have hdl : (digs q).length ≤ 30 := by
    have := digs_len 18 q (by omega); omega
  have hqm : (q : Int) < 922337203685477581 := by omega
  clear hd hq hr
  have hw1 : IntKind.i64.wrap (q : Int) = q := by rw [IntKind.wrap_i64]; omega
  have hw2 : IntKind.i64.wrap (48 + (r : Int)) = 48 + r := by rw [IntKind.wrap_i64]; omega
  have hw3 : IntKind.u8.wrap (48 + (r : Int)) = 48 + r := by rw [IntKind.wrap_u8]; omega
  have hcv : ∀ (W : World) (g : Nat), W.cell? ⟨g, 0, none⟩ = some (.int .u8 (48 + (r : Int))) → Sem.run Tryd.prog (convert 60 9 (.slice (some ⟨g, 0, none⟩) 1 1)) W = .ok (.string ⟨#[bt (48 + r)]⟩) W := fun W g h => conv1 W g (48 + r) _ (by omega) (by omega) h
  have hadd : ∀ W, Sem.run Tryd.prog (Op.stringOp .add ⟨(digs q).toArray⟩ ⟨#[bt (48 + r)]⟩) W = .ok (.string ⟨(digs q ++ [bt (48 + r)]).toArray⟩) W := by
    intro W
    rw [run_string_add_sum]
    · congr 2
    · simp [ByteArray.size]; omega
  have hsz : ({ data := (digs q ++ [bt (48 + r)]).toArray } : ByteArray).size ≤ 31 := by simp [ByteArray.size]; omega
  generalize hL : ({ data := (digs q).toArray } : ByteArray) = sL at hadd
  generalize hR : ({ data := #[bt (48 + r)] } : ByteArray) = sR at hadd hcv
  generalize hO : ({ data := (digs q ++ [bt (48 + r)]).toArray } : ByteArray) = sO at hadd hsz ⊢
  have IH' : ∀ z' w, z' = (q : Int) → Calls Tryd.prog 17 #[.int .i64 z'] w fun e w' => e = .returned (.string sL) ∧ Below w.heap.size w w' := by rw [← hL]; exact IH
  have IHH : Hid _ := IH'
  clear IH IH' hL hR hO
  have HC : Hid _ := hcv
  clear hcv
  go_enter Tryd.func17, Tryd.ntmps17
  go_wp2_with fail
  clear h1 h2 h3 hn hm
  have cA0 := HC.out (w.alloc (.cells #[.int .u8 (48 + (r : Int))] 5)) w.heap.size (World.cell?_alloc_mark w _ _ _ 0)
  have cA1 := HC.out (w.alloc (.cells #[.int .u8 (48 + (r : Int))] 5)).drew w.heap.size (World.cell?_alloc_mark w _ _ _ 0)
  have cA2 := HC.out (w.drew.alloc (.cells #[.int .u8 (48 + (r : Int))] 5)) w.heap.size (World.cell?_alloc_mark w.drew _ _ _ 0)
  have cA3 := HC.out (w.drew.alloc (.cells #[.int .u8 (48 + (r : Int))] 5)).drew w.heap.size (World.cell?_alloc_mark w.drew _ _ _ 0)
  have eg16 : ∀ args w, Sem.run Tryd.prog (callFunc 17 args) w = .ok (.enter 17 args) w := by intro args w; go_simp
  go_region_law (first | (refine step_call1 rfl 17 29 3 rfl eg16 (.int .i64 q) (.string sL) rfl (fun w1 => Below _ _ w1) (IHH.out _ _ rfl) ?_; intro w1 hb1; replace hb1 : Below _ _ w1 := hb1; clear cA0 cA1 cA2 cA3; have cB0 := HC.out (w1.alloc (.cells #[.int .u8 (48 + (r : Int))] 5)) w1.heap.size (World.cell?_alloc_mark w1 _ _ _ 0); have cB1 := HC.out (w1.alloc (.cells #[.int .u8 (48 + (r : Int))] 5)).drew w1.heap.size (World.cell?_alloc_mark w1 _ _ _ 0); have cB2 := HC.out (w1.drew.alloc (.cells #[.int .u8 (48 + (r : Int))] 5)) w1.heap.size (World.cell?_alloc_mark w1.drew _ _ _ 0); have cB3 := HC.out (w1.drew.alloc (.cells #[.int .u8 (48 + (r : Int))] 5)).drew w1.heap.size (World.cell?_alloc_mark w1.drew _ _ _ 0); (first | (have hk := keep1 hb1; have ck0 := HC.out w1 w.heap.size hk; have ck1 := HC.out w1.drew w.heap.size hk) | (have hk := keep1 (w := w.drew) hb1; have ck0 := HC.out w1 w.heap.size hk; have ck1 := HC.out w1.drew w.heap.size hk) | (have hk := keep2 hb1; have ck0 := HC.out w1 w.heap.size hk; have ck1 := HC.out w1.drew w.heap.size hk) | (have hk := keep2 (w := w.drew) hb1; have ck0 := HC.out w1 w.heap.size hk; have ck1 := HC.out w1.drew w.heap.size hk) | skip)))
  all_goals (go_wp2; go_ret; exact ⟨rfl, by repeat (first | with_reducible exact Below.refl _ _ | with_reducible refine balloc ?_ _ | with_reducible refine bdrew ?_ | with_reducible refine bset' ?_ (by omega) _ | with_reducible refine bthen ?_ (by assumption))⟩)
theorem dec_nat (n : Nat) (hm : n < 9223372036854775808) : DecAt (n : Int) (digs n) := by
  induction n using Nat.strongRecOn with
  | _ n ih =>
    rintro _ w rfl
    by_cases hn : n < 10
    · exact dec_small n w hn
    · exact dec_big n w hn hm (ih (n / 10) (by omega) (by omega))
end Go.Proofs.YtlhgjplipgandaaDoor
