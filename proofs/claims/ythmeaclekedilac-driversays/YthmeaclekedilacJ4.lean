/- The document's device: without, Start, Flush. -/
import Derived.Test.YthmeaclekedilacJ3
import Derived.Deep.RegionHeld3
import Derived.Maps.Own
import Derived.Maps.OwnOps
import Derived.Maps.OwnSet
namespace Go.Proofs.Ythmeaclekedilac
open Go.RowKit Go.BigFrame
attribute [local go_sem] Later.cell Later.frozen

/-- 'append(s, xs...)' onto a row of the call's own, as one step of a region that draws. -/
theorem step_rowD {P : Program} {ops : Array Oper} {o : Oper} {a : Act} {w : World} {K : Act → World → Prop} {Q : Exit → Act → World → Prop} {E : Prop}
    (hg : o.guard = none) (s x : Operand) (t : TypeId) (hop : o.op = Op.call { callee := Callee.builtin Builtin.append, args := #[s, x], argTypes := #[t, t] })
    (base : Nat) (e : TypeId) (i : TypeInfo) (z : Value) (size bytes : Nat) (ht : P.underlying t = some (.slice e)) (hi : P.info? e = some i) (hz : i.zero = some z)
    (hsize : i.size = size) (hby : i.bytes = bytes) (hzs : z.cells.size = size) (hsz : 0 < size)
    (v : Value) (n : Nat) (xs : List Value) (hs : a.eval s = v) (hown : w.ownsRow base e size v n xs)
    (ad : Option Addr) (m c : Nat) (news : List Value) (hx : a.eval x = .slice ad m c) (hrow : RowAt w size ad m c news)
    (h63 : n + m ≤ maxLen) (hbytes : (n + m) * bytes ≤ 140737488355328) (hbase : base ≤ w.heap.size)
    (h : ∀ v' w', w'.ownsRow base e size v' (n + m) (xs ++ news) → Below base w w' → K (a.put o.dst v') w') :
    if Region.wanted o (yielded ops a.tmps) = true then Oper.wp P o a w K Q else E := by
  have hw : Region.wanted o (yielded ops a.tmps) = true := by simp [Region.wanted, hg]
  rw [if_pos hw]
  obtain ⟨h1, h2, h3⟩ := hrow
  rcases h3 with ⟨rfl, rfl, rfl⟩ | ⟨ad', rfl, hc⟩
  · obtain rfl : news = [] := List.eq_nil_of_length_eq_zero (by rw [h1]; simp)
    have hr := run_append_owned_none (P := P) w base t o.type e i size ht hi v n xs hown
    unfold Oper.wp
    simp [execOp, hop, resolve, invoke, builtin, hs, hx, hr, Result.andThen]
    exact h v w (by simpa using hown) (Below.refl _ _)
  · obtain ⟨v', w', hrun, r1, r2, _⟩ := run_append_own (P := P) w base t o.type e i z size bytes ht hi hz hsize hby hzs hsz v n xs hown ad' m c news h1 hc h2 h63 hbytes hbase
    unfold Oper.wp
    simp [execOp, hop, resolve, invoke, builtin, hs, hx, hrun, Result.andThen]
    exact h v' w' r1 ((Below.refl _ _).grown r2 hbase fun k hk => (hown.lt k hk).1)
theorem ownD_later {w w' : World} {B e size n : Nat} {v : Value} {xs : List Value} (h : w.ownsRow B e size v n xs) (hb : Below w.heap.size w w') : w'.ownsRow B e size v n xs := own_frame h (fun g hg => hb.block g (h.lt g hg).2)

/-- A list of requests in new memory. -/
structure NewL (base : Nat) (w : World) (a : Option Addr) (c : Nat) (l : List Rq) : Prop where
  here : ReqsAt w a l
  nil : a = none → c = 0
  cap : l.length ≤ c
  new : ∀ p, a = some p → base ≤ p.block
theorem newL_of_owned {w : World} {base : Nat} {v : Value} {l : List Rq} {n : Nat} (h : w.ownsRow base 38 6 v n (rcells l)) (hat : ∀ r ∈ l, r.At w) (hn : n = l.length) (hb : l.length ≤ 9223372036854775807) : ∃ a c, v = .slice a l.length c ∧ NewL base w a c l := by
  obtain ⟨a, c, hv, h1, h2, _, h3, h4⟩ := reqs_of_owned h hat hn hb
  exact ⟨a, c, hv, h1, h3, h2, fun p hp => (h4 p hp).1⟩
theorem NewL.later {base : Nat} {w w' : World} {a : Option Addr} {c : Nat} {l : List Rq} (h : NewL base w a c l) (hb : Below w.heap.size w w') : NewL base w' a c l := ⟨h.here.later hb, h.nil, h.cap, h.new⟩
theorem erase_split (l : List Rq) (k : Nat) : l.eraseIdx k = l.take k ++ l.drop (k + 1) := List.eraseIdx_eq_take_drop_succ l k

set_option maxRecDepth 100000 in
set_option maxHeartbeats 2000000 in
theorem rwithout_any (l : List Rq) (b o c k : Nat) (w : World) (hl : ReqsAt w (some ⟨b, o, none⟩) l) (h10 : l.length ≤ 100000) (hcap : l.length ≤ c) (hk : k < l.length) :
    Calls Try.prog 58 #[.slice (some ⟨b, o, none⟩) l.length c, .int .i64 k] w fun e w' => ∃ a' c', e = .returned (.slice a' (l.eraseIdx k).length c') ∧ NewL w.heap.size w' a' c' (l.eraseIdx k) ∧ Below w.heap.size w w' := by
  have esp : l = l.take k ++ [l[k]] ++ l.drop (k + 1) := by rw [List.append_assoc, List.singleton_append, List.getElem_cons_drop, List.take_append_drop]
  have elt : (l.take k).length = k := by rw [List.length_take]; omega
  have eld : (l.drop (k + 1)).length = l.length - (k + 1) := by rw [List.length_drop]
  obtain ⟨M, hM⟩ : ∃ M, M = l.eraseIdx k := ⟨_, rfl⟩
  have hMl : M.length = k + (l.length - (k + 1)) := by rw [hM, erase_split, List.length_append, elt, eld]
  have hMa : ∀ x ∈ M, x.At w := fun x hx => hl.2.1 x (List.mem_of_mem_eraseIdx (by rw [hM] at hx; exact hx))
  have hMc : rcells (l.take k) ++ rcells (l.drop (k + 1)) = rcells M := by rw [hM, erase_split, rcells_append]
  have HM := hidT (⟨hMl, hMa, hMc⟩ : _ ∧ _ ∧ _)
  rw [← hM]
  clear hM hMl hMa hMc
  have R1 : RowAt w 6 (some ⟨b, o, none⟩) k c (rcells (l.take k)) := by
    have := hl.row (c := c) [] (l.take k) ([l[k]] ++ l.drop (k + 1)) (by simp)
    rw [elt] at this
    simpa using this
  have hwr : IntKind.i64.wrap ((k : Int) + 1) = (k : Int) + 1 := by rw [IntKind.wrap_i64]; omega
  have hsl1 := fun w => slice_to b o l.length c k w hk hcap
  obtain ⟨iR, hR1, hR2, hR3, hR4⟩ := pluck infoR
  by_cases hce : c = k + 1
  · subst hce
    have hni : l.length = k + 1 := by omega
    have e3 : l.drop (k + 1) = [] := List.eq_nil_of_length_eq_zero (by omega)
    have R2 : RowAt w 6 (some ⟨b, o, none⟩) 0 0 (rcells (l.drop (k + 1))) := by
      rw [e3]; exact ⟨rfl, by simp [rcells], Or.inr ⟨_, rfl, fun j u h => by simp [rcells] at h⟩⟩
    have hsl2 := fun w => slice_end b o l.length k w hni
    have hn0 := HM.out.1
    rw [show l.length - (k + 1) = 0 by omega] at hn0
    have HN := hidT hn0
    clear esp elt eld e3 hni hn0
    go_enter Try.func58, Try.ntmps58
    go_wp2_with fail
    go_region_held3 (fun _ => True) (trivial) (first | (refine step_rowD (by rfl) (.const (.slice none 0 0)) (.tmp 7) 30 (by rfl) w.heap.size 38 iR _ 6 80 Try.underlying30 hR1 hR2 hR3 hR4 rfl (by decide) (.slice none 0 0) 0 [] (by rfl) (World.ownsRow_nil _ _ _ _) (some ⟨b, o, none⟩) k (k + 1) (rcells (l.take k)) (by simp [Act.eval]) (R1.later (by repeat (first | with_reducible exact Below.refl _ _ | with_reducible refine balloc ?_ _ | with_reducible refine bdrew ?_ | with_reducible refine bset' ?_ (by omega) _ | with_reducible refine bthen ?_ (by assumption)))) (by unfold maxLen; omega) (by omega) (by simp) ?_; intro v1 wI hown1 hb1; rw [Nat.zero_add, List.nil_append] at hown1; have hB1 : Below w.heap.size w wI := Below.trans (by repeat (first | with_reducible exact Below.refl _ _ | with_reducible refine balloc ?_ _ | with_reducible refine bdrew ?_ | with_reducible refine bset' ?_ (by omega) _ | with_reducible refine bthen ?_ (by assumption))) hb1) | (refine step_rowD (by rfl) (.tmp 8) (.tmp 12) 30 (by rfl) w.heap.size 38 iR _ 6 80 Try.underlying30 hR1 hR2 hR3 hR4 rfl (by decide) v1 k (rcells (l.take k)) (by simp [Act.eval]) (by first | exact hown1 | exact ownsRow_drew hown1) (some ⟨b, o, none⟩) 0 0 (rcells (l.drop (k + 1))) (by simp [Act.eval]) (R2.later (by repeat (first | with_reducible exact Below.refl _ _ | with_reducible refine balloc ?_ _ | with_reducible refine bdrew ?_ | with_reducible refine bset' ?_ (by omega) _ | with_reducible refine bthen ?_ (by assumption)))) (by unfold maxLen; omega) (by omega) (by have := hB1.size; (try simp); omega) ?_; intro v2 wJ hown2 hb2; have hB2 : Below w.heap.size w wJ := (by first | exact hB1.trans hb2 | exact hB1.drew.trans hb2)))
    rw [HM.out.2.2] at hown2
    obtain ⟨aJ, cJ, rfl, hN⟩ := newL_of_owned hown2 (fun x hx => (HM.out.2.1 x hx).later hB2) HN.out.symm (by rw [HN.out]; omega)
    have HB2 := hidT hB2
    clear hown1 hown2 hb1 hb2 hB1 hB2 R1 R2
    go_wp2
    go_ret
    exact ⟨aJ, cJ, rfl, hN, HB2.out⟩
  · have R2 : RowAt w 6 (some ⟨b, o + (k + 1) * 6, none⟩) (l.length - (k + 1)) (c - (k + 1)) (rcells (l.drop (k + 1))) := by
      have := hl.row (c := c - (k + 1)) (l.take k ++ [l[k]]) (l.drop (k + 1)) [] (by simp)
      rw [List.length_append, List.length_singleton, elt, eld] at this
      exact this
    have hsl2 := fun w => slice_from b o l.length c k w hk hce
    clear esp elt eld
    go_enter Try.func58, Try.ntmps58
    go_wp2_with fail
    go_region_held3 (fun _ => True) (trivial) (first | (refine step_rowD (by rfl) (.const (.slice none 0 0)) (.tmp 7) 30 (by rfl) w.heap.size 38 iR _ 6 80 Try.underlying30 hR1 hR2 hR3 hR4 rfl (by decide) (.slice none 0 0) 0 [] (by rfl) (World.ownsRow_nil _ _ _ _) (some ⟨b, o, none⟩) k c (rcells (l.take k)) (by simp [Act.eval]) (R1.later (by repeat (first | with_reducible exact Below.refl _ _ | with_reducible refine balloc ?_ _ | with_reducible refine bdrew ?_ | with_reducible refine bset' ?_ (by omega) _ | with_reducible refine bthen ?_ (by assumption)))) (by unfold maxLen; omega) (by omega) (by simp) ?_; intro v1 wI hown1 hb1; rw [Nat.zero_add, List.nil_append] at hown1; have hB1 : Below w.heap.size w wI := Below.trans (by repeat (first | with_reducible exact Below.refl _ _ | with_reducible refine balloc ?_ _ | with_reducible refine bdrew ?_ | with_reducible refine bset' ?_ (by omega) _ | with_reducible refine bthen ?_ (by assumption))) hb1) | (refine step_rowD (by rfl) (.tmp 8) (.tmp 12) 30 (by rfl) w.heap.size 38 iR _ 6 80 Try.underlying30 hR1 hR2 hR3 hR4 rfl (by decide) v1 k (rcells (l.take k)) (by simp [Act.eval]) (by first | exact hown1 | exact ownsRow_drew hown1) (some ⟨b, o + (k + 1) * 6, none⟩) (l.length - (k + 1)) (c - (k + 1)) (rcells (l.drop (k + 1))) (by simp [Act.eval]) (R2.later (by repeat (first | with_reducible exact Below.refl _ _ | with_reducible refine balloc ?_ _ | with_reducible refine bdrew ?_ | with_reducible refine bset' ?_ (by omega) _ | with_reducible refine bthen ?_ (by assumption)))) (by unfold maxLen; omega) (by omega) (by have := hB1.size; (try simp); omega) ?_; intro v2 wJ hown2 hb2; have hB2 : Below w.heap.size w wJ := (by first | exact hB1.trans hb2 | exact hB1.drew.trans hb2)))
    rw [HM.out.2.2] at hown2
    obtain ⟨aJ, cJ, rfl, hN⟩ := newL_of_owned hown2 (fun x hx => (HM.out.2.1 x hx).later hB2) HM.out.1.symm (by rw [HM.out.1]; omega)
    have HB2 := hidT hB2
    clear hown1 hown2 hb1 hb2 hB1 hB2 R1 R2
    go_wp2
    go_ret
    exact ⟨aJ, cJ, rfl, hN, HB2.out⟩
end Go.Proofs.Ythmeaclekedilac
/- The document's device: Start. -/
namespace Go.Proofs.Ythmeaclekedilac
open Go.RowKit Go.BigFrame
attribute [local go_sem] Later.cell Later.frozen

set_option maxHeartbeats 400000 in
theorem rstart_full (b : Nat) (d : Rd) (a : Ra) (r : Rq) (w : World) (h : RdAt b d a w) (h2 : d.busy.length = 2) :
    Calls Try.prog 15 #[.pointer (some ⟨b, 0, none⟩), r.val] w fun e w' => e = .returned (.int .i64 7) ∧ Below w.heap.size w w' := by
  have c := h.c65
  have hl := h.lt
  have h3 : ((d.busy.length : Int) == 2) = true := by rw [h2]; rfl
  clear h
  go_enter Try.func15, Try.ntmps15
  go_wp2
  go_ret
  exact ⟨rfl, by repeat (first | with_reducible exact Below.refl _ _ | with_reducible refine balloc ?_ _ | with_reducible refine bdrew ?_ | with_reducible refine bset' ?_ (by omega) _ | with_reducible refine bthen ?_ (by assumption))⟩
/-- What a region of the device's reads, till it stores. -/
def DBox (w' : World) (b j q : Nat) (v : Value) (r : Rq) : Prop := w'.cell? ⟨b, j, none⟩ = some v ∧ w'.frozen? ⟨b, j, none⟩ = false ∧ b < w'.heap.size ∧ q < w'.heap.size ∧ BoxAt w' q r
theorem DBox.later {w w' : World} {b j q : Nat} {v : Value} {r : Rq} (h : DBox w b j q v r) (hb : Below w.heap.size w w') : DBox w' b j q v r :=
  ⟨cellA_later hb h.1, by rw [hb.frozen (p := ⟨b, j, none⟩) h.2.2.1]; exact h.2.1, Nat.lt_of_lt_of_le h.2.2.1 hb.size, Nat.lt_of_lt_of_le h.2.2.2.1 hb.size, h.2.2.2.2.later hb⟩
theorem row_boxD {w : World} {q c : Nat} (r : Rq) (h : BoxAt w q r) : RowAt w 6 (some ⟨q, 0, none⟩) 1 c (rcells [r]) := by
  refine ⟨rfl, rcells_one _, Or.inr ⟨_, rfl, fun k u hk => ?_⟩⟩
  obtain ⟨i, j, hi, hj, rfl, rfl⟩ := rcells_inv hk
  have : i = 0 := by simp at hi; exact hi
  subst this
  rw [add_mk']
  obtain ⟨h0, h1, h2, h3, h4, h5⟩ := h
  match j, hj with
  | 0, _ => exact h0
  | 1, _ => exact h1
  | 2, _ => exact h2
  | 3, _ => exact h3
  | 4, _ => exact h4
  | 5, _ => exact h5
theorem rowAllD {w : World} {b : Nat} {d : Rd} {a : Ra} (h : RdAt b d a w) : RowAt w 6 a.la d.busy.length a.lc (rcells d.busy) := rowAll h.lrow h.lnil
set_option linter.unusedSimpArgs false in
set_option maxRecDepth 100000 in
set_option maxHeartbeats 4000000 in
theorem rstart_ok (b : Nat) (d : Rd) (a : Ra) (r : Rq) (w : World) (h : RdAt b d a w) (h2 : d.busy.length < 2) (hr : r.At w) (ho : r.Off (a.foot b)) :
    Calls Try.prog 15 #[.pointer (some ⟨b, 0, none⟩), r.val] w fun e w' => ∃ a', e = .returned (.int .i64 0) ∧ a'.wa = a.wa ∧ RStep b d a { d with busy := d.busy ++ [r] } a' w w' := by
  obtain ⟨iR, hR1, hR2, hR3, hR4⟩ := pluck infoR
  have HI := hidT (⟨hR1, hR2, hR3, hR4⟩ : Try.prog.info? 38 = some iR ∧ _ ∧ _ ∧ _)
  have c := h.c65
  have hl := h.lt
  have h3 : ((d.busy.length : Int) == 2) = false := by rw [beq_eq_false_iff_ne]; omega
  have HD := hidT h
  have HR := hidT (⟨hr, ho⟩ : r.At w ∧ r.Off (a.foot b))
  have hb0 := below1 w (.cells #[.bool r.wr, .int .i64 r.f, .int .i64 r.m, .slice r.da r.data.length r.dc, .slice r.ta r.tags.length r.tc, .int .i64 r.born] 38)
  have hS0 : DBox (w.alloc (.cells #[.bool r.wr, .int .i64 r.f, .int .i64 r.m, .slice r.da r.data.length r.dc, .slice r.ta r.tags.length r.tc, .int .i64 r.born] 38)).drew b 65 w.heap.size (.slice a.la d.busy.length a.lc) r := by
    refine DBox.later (w := w.alloc (.cells #[.bool r.wr, .int .i64 r.f, .int .i64 r.m, .slice r.da r.data.length r.dc, .slice r.ta r.tags.length r.tc, .int .i64 r.born] 38)) ⟨(h.later hb0).c65, (h.later hb0).fz 65, (h.later hb0).lt, by simp, box_new _ _ _⟩ (Below.refl _ _).drew
  have HS := hidT hS0
  have HB0 := hidT hb0
  clear h hr ho hR1 hR2 hR3 hR4 hS0 hb0
  go_enter Try.func15, Try.ntmps15
  go_wp2_with fail
  refine region_till (S := fun wz => DBox wz b 65 w.heap.size (.slice a.la d.busy.length a.lc) r) (d := 11) (by kernel_rfl) ?_
  refine till_take (i := 0) (v := ?_) rfl (by kernel_rfl) (by kernel_rfl) (by kernel_rfl) (by kernel_rfl) (fun _ _ _ h => h) (Or.inl ⟨by rfl, ?_⟩) HS.out ?_; rotate_left; (focus (intro w0 hSw; obtain ⟨q0, q1, q2, q3, s0, s1, s2, s3, s4, s5⟩ := hSw; go_simp; (try with_reducible rfl))); (try simp only [Act.put, List.getElem_toArray, List.getElem_cons_succ, List.getElem_cons_zero, List.setIfInBounds_toArray, List.set_cons_zero, List.set_cons_succ])
  refine till_take (i := 1) (v := ?_) rfl (by kernel_rfl) (by kernel_rfl) (by kernel_rfl) (by kernel_rfl) (fun _ _ _ h => h) (Or.inl ⟨by rfl, ?_⟩) HS.out ?_; rotate_left; (focus (intro w0 hSw; obtain ⟨q0, q1, q2, q3, s0, s1, s2, s3, s4, s5⟩ := hSw; go_simp; (try with_reducible rfl))); (try simp only [Act.put, List.getElem_toArray, List.getElem_cons_succ, List.getElem_cons_zero, List.setIfInBounds_toArray, List.set_cons_zero, List.set_cons_succ])
  refine till_take (i := 2) (v := ?_) rfl (by kernel_rfl) (by kernel_rfl) (by kernel_rfl) (by kernel_rfl) (fun _ _ _ h => h) (Or.inl ⟨by rfl, ?_⟩) HS.out ?_; rotate_left; (focus (intro w0 hSw; obtain ⟨q0, q1, q2, q3, s0, s1, s2, s3, s4, s5⟩ := hSw; go_simp; (try with_reducible rfl))); (try simp only [Act.put, List.getElem_toArray, List.getElem_cons_succ, List.getElem_cons_zero, List.setIfInBounds_toArray, List.set_cons_zero, List.set_cons_succ])
  refine till_take (i := 3) (v := ?_) rfl (by kernel_rfl) (by kernel_rfl) (by kernel_rfl) (by kernel_rfl) (fun _ _ _ h => h) (Or.inl ⟨by rfl, ?_⟩) HS.out ?_; rotate_left; (focus (intro w0 hSw; obtain ⟨q0, q1, q2, q3, s0, s1, s2, s3, s4, s5⟩ := hSw; go_simp; (try with_reducible rfl))); (try simp only [Act.put, List.getElem_toArray, List.getElem_cons_succ, List.getElem_cons_zero, List.setIfInBounds_toArray, List.set_cons_zero, List.set_cons_succ])
  refine till_take (i := 4) (v := ?_) rfl (by kernel_rfl) (by kernel_rfl) (by kernel_rfl) (by kernel_rfl) (fun _ _ _ h => h) (Or.inl ⟨by rfl, ?_⟩) HS.out ?_; rotate_left; (focus (intro w0 hSw; obtain ⟨q0, q1, q2, q3, s0, s1, s2, s3, s4, s5⟩ := hSw; go_simp; (try with_reducible rfl))); (try simp only [Act.put, List.getElem_toArray, List.getElem_cons_succ, List.getElem_cons_zero, List.setIfInBounds_toArray, List.set_cons_zero, List.set_cons_succ])
  refine till_take (i := 6) (v := ?_) rfl (by kernel_rfl) (by kernel_rfl) (by kernel_rfl) (by kernel_rfl) (fun _ _ _ h => h) (Or.inl ⟨by rfl, ?_⟩) HS.out ?_; rotate_left; (focus (intro w0 hSw; obtain ⟨q0, q1, q2, q3, s0, s1, s2, s3, s4, s5⟩ := hSw; go_simp; (try with_reducible rfl))); (try simp only [Act.put, List.getElem_toArray, List.getElem_cons_succ, List.getElem_cons_zero, List.setIfInBounds_toArray, List.set_cons_zero, List.set_cons_succ])
  refine till_two (i := 5) (j := 7) rfl rfl (by kernel_rfl) ?_ ?_
  · intro K hK
    refine step_rowD (by rfl) (.const (.slice none 0 0)) (.tmp 15) 30 (by rfl) (w.heap.size + 1) 38 iR _ 6 80 Try.underlying30 HI.out.1 HI.out.2.1 HI.out.2.2.1 HI.out.2.2.2 rfl (by decide) (.slice none 0 0) 0 [] (by rfl) (World.ownsRow_nil _ _ _ _) a.la d.busy.length a.lc (rcells d.busy) (by rfl) ((rowAllD HD.out).later (by repeat (first | with_reducible exact Below.refl _ _ | with_reducible refine balloc ?_ _ | with_reducible refine bdrew ?_ | with_reducible refine bset' ?_ (by omega) _ | with_reducible refine bthen ?_ (by assumption)))) (by unfold maxLen; omega) (by omega) (by simp) ?_
    intro v1 w1 hown1 hb1
    rw [Nat.zero_add, List.nil_append] at hown1
    have hB1 : Below (w.heap.size + 1) (w.alloc (.cells #[.bool r.wr, .int .i64 r.f, .int .i64 r.m, .slice r.da r.data.length r.dc, .slice r.ta r.tags.length r.tc, .int .i64 r.born] 38)).drew w1 := by simpa using hb1
    have HS1 := hidT (HS.out.later (w' := w1) (by simpa using hb1))
    have HO1 := hidT hown1
    have HB1 := hidT hB1
    clear hown1 hb1 hB1
    refine hK _ _ (fun _ => HS1.out) ?_
    (try simp only [Act.put, List.getElem_toArray, List.getElem_cons_succ, List.getElem_cons_zero, List.setIfInBounds_toArray, List.set_cons_zero, List.set_cons_succ])
    clear hK
    refine till_one (i := 7) rfl (by kernel_rfl) ?_; intro K hK; go_simp; refine hK _ _ (fun _ => HS1.out.later (below1 _ _)) ?_; (try simp only [Act.put, List.getElem_toArray, List.getElem_cons_succ, List.getElem_cons_zero, List.setIfInBounds_toArray, List.set_cons_zero, List.set_cons_succ]); clear hK
    refine till_one (i := 8) rfl (by kernel_rfl) ?_
    intro K hK
    refine step_rowD (by rfl) (.tmp 16) (.tmp 18) 30 (by rfl) (w.heap.size + 1) 38 iR _ 6 80 Try.underlying30 HI.out.1 HI.out.2.1 HI.out.2.2.1 HI.out.2.2.2 rfl (by decide) v1 d.busy.length (rcells d.busy) (by rfl) (HO1.out.alloc _) (some ⟨w1.heap.size, 0, none⟩) 1 1 (rcells [r]) (by rfl) (row_boxD r (box_new w1 _ r)) (by unfold maxLen; omega) (by omega) (by have := HB1.out.size; simp at this ⊢; omega) ?_
    intro v2 w2 hown2 hb2
    have hB2 : Below (w.heap.size + 1) (w.alloc (.cells #[.bool r.wr, .int .i64 r.f, .int .i64 r.m, .slice r.da r.data.length r.dc, .slice r.ta r.tags.length r.tc, .int .i64 r.born] 38)).drew w2 := (HB1.out.alloc (by have := HB1.out.size; simp at this ⊢; omega) _).trans hb2
    have HS2 := hidT (HS.out.later (w' := w2) (by simpa using hB2))
    have hBw : Below w.heap.size w w2 := (HB0.out.drew).trans (hB2.mono (by omega)); rw [← rcells_append] at hown2; obtain ⟨aJ, cJ, rfl, hN⟩ := newL_of_owned (l := d.busy ++ [r]) hown2 (fun x hx => by rcases List.mem_append.1 hx with hx' | hx'; exact (HD.out.lrow.2.1 x hx').later hBw; (rw [List.mem_singleton.1 hx']; exact HR.out.1.later hBw)) (by simp) (by simp; omega); have HST := hidT (HD.out.busied hBw (d.busy ++ [r]) (by simp; omega) aJ cJ hN.here hN.nil hN.cap (fun _ p hp => by have := hN.new p hp; omega) (fun x hx => by rcases List.mem_append.1 hx with hx' | hx'; exact ⟨HD.out.lrow.2.1 x hx', HD.out.reqs x hx'⟩; (rw [List.mem_singleton.1 hx']; exact HR.out))); clear hown2 hb2 hB2 hBw hN; refine hK _ _ (fun _ => HS2.out) ?_; (try simp only [Act.put, List.getElem_toArray, List.getElem_cons_succ, List.getElem_cons_zero, List.setIfInBounds_toArray, List.set_cons_zero, List.set_cons_succ]); clear hK; refine till_one (i := 9) rfl (by kernel_rfl) ?_; intro K hK; go_simp; refine hK _ _ (fun _ => HS2.out) ?_; (try simp only [Act.put, List.getElem_toArray, List.getElem_cons_succ, List.getElem_cons_zero, List.setIfInBounds_toArray, List.set_cons_zero, List.set_cons_succ]); clear hK; refine till_one (i := 10) rfl (by kernel_rfl) ?_; intro K hK; go_simp; refine hK _ _ (fun _ => HS2.out) ?_; (try simp only [Act.put, List.getElem_toArray, List.getElem_cons_succ, List.getElem_cons_zero, List.setIfInBounds_toArray, List.set_cons_zero, List.set_cons_succ]); clear hK; obtain ⟨x0, x1, x2, x3, -⟩ := id HS2.out; refine till_one (i := 11) rfl (by kernel_rfl) ?_; intro K hK; go_simp; refine hK _ _ (fun h => absurd rfl h) ?_; (try simp only [Act.put, List.getElem_toArray, List.getElem_cons_succ, List.getElem_cons_zero, List.setIfInBounds_toArray, List.set_cons_zero, List.set_cons_succ]); clear hK; refine till_done (by kernel_rfl) ?_ _; go_wp2; go_ret; exact ⟨{ a with la := aJ, lc := cJ }, rfl, rfl, by have := HST.out; rw [List.length_append, List.length_singleton] at this; exact this⟩
  · intro K hK
    go_simp
    refine hK _ _ (fun _ => HS.out.later (below1 _ _)) ?_
    (try simp only [Act.put, List.getElem_toArray, List.getElem_cons_succ, List.getElem_cons_zero, List.setIfInBounds_toArray, List.set_cons_zero, List.set_cons_succ])
    clear hK
    refine till_one (i := 5) rfl (by kernel_rfl) ?_
    intro K hK
    refine step_rowD (by rfl) (.const (.slice none 0 0)) (.tmp 15) 30 (by rfl) (w.heap.size + 2) 38 iR _ 6 80 Try.underlying30 HI.out.1 HI.out.2.1 HI.out.2.2.1 HI.out.2.2.2 rfl (by decide) (.slice none 0 0) 0 [] (by rfl) (World.ownsRow_nil _ _ _ _) a.la d.busy.length a.lc (rcells d.busy) (by rfl) ((rowAllD HD.out).later (by repeat (first | with_reducible exact Below.refl _ _ | with_reducible refine balloc ?_ _ | with_reducible refine bdrew ?_ | with_reducible refine bset' ?_ (by omega) _ | with_reducible refine bthen ?_ (by assumption)))) (by unfold maxLen; omega) (by omega) (by simp) ?_
    intro v1 w1 hown1 hb1
    rw [Nat.zero_add, List.nil_append] at hown1
    have hX1 : BoxAt w1 (w.heap.size + 1) r := by
      have := ((box_new (w.alloc (.cells #[.bool r.wr, .int .i64 r.f, .int .i64 r.m, .slice r.da r.data.length r.dc, .slice r.ta r.tags.length r.tc, .int .i64 r.born] 38)) 38 r).later (Below.refl _ _).drew).later (w' := w1) (by simpa using hb1)
      simpa using this
    have HX1 := hidT hX1
    have hB1 : Below (w.heap.size + 1) (w.alloc (.cells #[.bool r.wr, .int .i64 r.f, .int .i64 r.m, .slice r.da r.data.length r.dc, .slice r.ta r.tags.length r.tc, .int .i64 r.born] 38)).drew w1 := Below.trans ((Below.refl _ _).alloc (by simp) _) (hb1.mono (by omega))
    have HS1 := hidT (HS.out.later (w' := w1) (by simpa using hB1))
    have HO1 := hidT hown1
    have HB1 := hidT hB1
    have HBX := hidT hb1
    clear hown1 hb1 hB1 hX1
    refine hK _ _ (fun _ => HS1.out) ?_
    (try simp only [Act.put, List.getElem_toArray, List.getElem_cons_succ, List.getElem_cons_zero, List.setIfInBounds_toArray, List.set_cons_zero, List.set_cons_succ])
    clear hK
    refine till_one (i := 8) rfl (by kernel_rfl) ?_
    intro K hK
    refine step_rowD (by rfl) (.tmp 16) (.tmp 18) 30 (by rfl) (w.heap.size + 1) 38 iR _ 6 80 Try.underlying30 HI.out.1 HI.out.2.1 HI.out.2.2.1 HI.out.2.2.2 rfl (by decide) v1 d.busy.length (rcells d.busy) (by rfl) (ownsRow_le' HO1.out (by omega)) (some ⟨w.heap.size + 1, 0, none⟩) 1 1 (rcells [r]) (by rfl) (row_boxD r HX1.out) (by unfold maxLen; omega) (by omega) (by have := HB1.out.size; simp at this ⊢; omega) ?_
    intro v2 w2 hown2 hb2
    have hB2 : Below (w.heap.size + 1) (w.alloc (.cells #[.bool r.wr, .int .i64 r.f, .int .i64 r.m, .slice r.da r.data.length r.dc, .slice r.ta r.tags.length r.tc, .int .i64 r.born] 38)).drew w2 := HB1.out.trans hb2
    have HS2 := hidT (HS.out.later (w' := w2) (by simpa using hB2))
    have hBw : Below w.heap.size w w2 := (HB0.out.drew).trans (hB2.mono (by omega)); rw [← rcells_append] at hown2; obtain ⟨aJ, cJ, rfl, hN⟩ := newL_of_owned (l := d.busy ++ [r]) hown2 (fun x hx => by rcases List.mem_append.1 hx with hx' | hx'; exact (HD.out.lrow.2.1 x hx').later hBw; (rw [List.mem_singleton.1 hx']; exact HR.out.1.later hBw)) (by simp) (by simp; omega); have HST := hidT (HD.out.busied hBw (d.busy ++ [r]) (by simp; omega) aJ cJ hN.here hN.nil hN.cap (fun _ p hp => by have := hN.new p hp; omega) (fun x hx => by rcases List.mem_append.1 hx with hx' | hx'; exact ⟨HD.out.lrow.2.1 x hx', HD.out.reqs x hx'⟩; (rw [List.mem_singleton.1 hx']; exact HR.out))); clear hown2 hb2 hB2 hBw hN; refine hK _ _ (fun _ => HS2.out) ?_; (try simp only [Act.put, List.getElem_toArray, List.getElem_cons_succ, List.getElem_cons_zero, List.setIfInBounds_toArray, List.set_cons_zero, List.set_cons_succ]); clear hK; refine till_one (i := 9) rfl (by kernel_rfl) ?_; intro K hK; go_simp; refine hK _ _ (fun _ => HS2.out) ?_; (try simp only [Act.put, List.getElem_toArray, List.getElem_cons_succ, List.getElem_cons_zero, List.setIfInBounds_toArray, List.set_cons_zero, List.set_cons_succ]); clear hK; refine till_one (i := 10) rfl (by kernel_rfl) ?_; intro K hK; go_simp; refine hK _ _ (fun _ => HS2.out) ?_; (try simp only [Act.put, List.getElem_toArray, List.getElem_cons_succ, List.getElem_cons_zero, List.setIfInBounds_toArray, List.set_cons_zero, List.set_cons_succ]); clear hK; obtain ⟨x0, x1, x2, x3, -⟩ := id HS2.out; refine till_one (i := 11) rfl (by kernel_rfl) ?_; intro K hK; go_simp; refine hK _ _ (fun h => absurd rfl h) ?_; (try simp only [Act.put, List.getElem_toArray, List.getElem_cons_succ, List.getElem_cons_zero, List.setIfInBounds_toArray, List.set_cons_zero, List.set_cons_succ]); clear hK; refine till_done (by kernel_rfl) ?_ _; go_wp2; go_ret; exact ⟨{ a with la := aJ, lc := cJ }, rfl, rfl, by have := HST.out; rw [List.length_append, List.length_singleton] at this; exact this⟩
end Go.Proofs.Ythmeaclekedilac
/- The document's device: Flush, Crash. -/
namespace Go.Proofs.Ythmeaclekedilac
open Go.RowKit Go.BigFrame
attribute [local go_sem] Later.cell Later.frozen

theorem rcells_kept (d : Rd) (a : Ra) (l : List ByteArray) (h1 : d.kept.length = 32) (h3 : l.length = 32) : splice (d.cells a) 0 (strV l) = ({ d with kept := l } : Rd).cells a := by
  have e1 : (strV d.kept).length = 32 := by rw [strV_length, h1]
  have e3 : (strV l).length = 32 := by rw [strV_length, h3]
  rw [splice, Rd.cells, Rd.cells, e3, List.take_zero, List.nil_append, List.append_assoc, List.drop_append, List.drop_eq_nil_of_le (by omega), List.nil_append, e1, show 0 + 32 - 32 = 0 by omega, List.drop_zero, List.append_assoc]
theorem rcells_now (d : Rd) (a : Ra) (l : List ByteArray) (h1 : d.kept.length = 32) (h2 : d.now.length = 32) (h3 : l.length = 32) : splice (d.cells a) 32 (strV l) = ({ d with now := l } : Rd).cells a := by
  have e1 : (strV d.kept).length = 32 := by rw [strV_length, h1]
  have e2 : (strV d.now).length = 32 := by rw [strV_length, h2]
  have e3 : (strV l).length = 32 := by rw [strV_length, h3]
  rw [splice, Rd.cells, Rd.cells, e3, List.append_assoc, List.take_append_of_le_length (by omega), List.take_of_length_le (by omega), List.drop_append, List.drop_eq_nil_of_le (by omega), List.nil_append, e1, show 32 + 32 - 32 = 32 by omega, List.drop_append, List.drop_eq_nil_of_le (by omega), List.nil_append, e2, Nat.sub_self, List.drop_zero, List.append_assoc]
theorem RdAt.rangeKept {b : Nat} {d : Rd} {a : Ra} {w : World} (h : RdAt b d a w) : w.rangeAt b 0 (strV d.kept) := fun j v hv => by
  have hj : j < 32 := by
    have := (List.getElem?_eq_some_iff.1 hv).1
    rw [strV_length, h.k32] at this; exact this
  rw [Nat.zero_add, cell_of_heap h.blk, Rd.cells, List.append_assoc, List.getElem?_append_left (by rw [strV_length, h.k32]; exact hj)]
  exact hv
theorem RdAt.rangeNow {b : Nat} {d : Rd} {a : Ra} {w : World} (h : RdAt b d a w) : w.rangeAt b 32 (strV d.now) := fun j v hv => by
  have hj : j < 32 := by
    have := (List.getElem?_eq_some_iff.1 hv).1
    rw [strV_length, h.n32] at this; exact this
  rw [cell_of_heap h.blk, Rd.cells, List.append_assoc, List.getElem?_append_right (by rw [strV_length, h.k32]; omega), strV_length, h.k32, show 32 + j - 32 = j by omega, List.getElem?_append_left (by rw [strV_length, h.n32]; exact hj)]
  exact hv
theorem RdAt.there {b : Nat} {d : Rd} {a : Ra} {w : World} (h : RdAt b d a w) (o n : Nat) (ho : o + n ≤ 66) : w.there b o n := fun j hj => by
  refine ⟨?_, h.fz _⟩
  rw [cell_of_heap h.blk, List.getElem?_eq_getElem (by rw [Rd.cells_length h.k32 h.n32]; omega)]
  rfl
/-- Kept is another. -/
theorem RdAt.setKept {b : Nat} {d : Rd} {a : Ra} {w : World} (h : RdAt b d a w) (l : List ByteArray) (hl : l.length = 32) : RStep b d a { d with kept := l } a w (w.setCells b 0 (strV l)) := by
  have e : (strV l).length = 32 := by rw [strV_length, hl]
  have blk := setCells_heap b 32 (strV l) 0 _ _ h.blk (by rw [e, Rd.cells_length h.k32 h.n32]; omega)
  rw [rcells_kept d a l h.k32 hl] at blk
  exact h.reblock (setCells_onlyB b _ 0 _) blk rfl rfl hl h.n32
theorem RdAt.setNows {b : Nat} {d : Rd} {a : Ra} {w : World} (h : RdAt b d a w) (l : List ByteArray) (hl : l.length = 32) : RStep b d a { d with now := l } a w (w.setCells b 32 (strV l)) := by
  have e : (strV l).length = 32 := by rw [strV_length, hl]
  have blk := setCells_heap b 32 (strV l) 32 _ _ h.blk (by rw [e, Rd.cells_length h.k32 h.n32]; omega)
  rw [rcells_now d a l h.k32 h.n32 hl] at blk
  exact h.reblock (setCells_onlyB b _ 32 _) blk rfl rfl h.k32 hl
theorem RdAt.setKept1 {b : Nat} {d : Rd} {a : Ra} {w : World} (h : RdAt b d a w) {p : Nat} (hp : p < 32) (s : ByteArray) : RStep b d a { d with kept := d.kept.set p s } a w (w.setCell ⟨b, p, none⟩ (.string s)) :=
  h.reblock ((Only.refl (fun k => k = b) w).setCell ⟨b, p, none⟩ (Or.inl rfl) _) (by rw [set_same h.blk, rcells_setKept d a p s h.k32 hp]) rfl rfl (by simpa using h.k32) h.n32
theorem RdAt.setNow1 {b : Nat} {d : Rd} {a : Ra} {w : World} (h : RdAt b d a w) {p : Nat} (hp : p < 32) (s : ByteArray) : RStep b d a { d with now := d.now.set p s } a w (w.setCell ⟨b, 32 + p, none⟩ (.string s)) :=
  h.reblock ((Only.refl (fun k => k = b) w).setCell ⟨b, 32 + p, none⟩ (Or.inl rfl) _) (by rw [set_same h.blk, rcells_setNow d a p s h.k32 h.n32 hp]) rfl rfl h.k32 (by simpa using h.n32)
theorem RdAt.noWaits {b : Nat} {d : Rd} {a : Ra} {w : World} (h : RdAt b d a w) : RStep b d a { d with waits := [] } { a with wa := none, wc := 0 } w (w.setCell ⟨b, 64, none⟩ (.slice none 0 0)) := by
  obtain ⟨x, c, hv, hs⟩ := h.rewaits (Below.refl _ _) [] (by simp) (World.ownsRow_nil w 0 108 2) (Only.refl _ _) (fun g hg => by cases hg)
  simp only [Value.slice.injEq] at hv
  obtain ⟨rfl, _, rfl⟩ := hv
  exact hs
theorem RdAt.noBusy {b : Nat} {d : Rd} {a : Ra} {w : World} (h : RdAt b d a w) : RStep b d a { d with busy := [] } { a with la := none, lc := 0 } w (w.setCell ⟨b, 65, none⟩ (.slice none 0 0)) :=
  h.busied (Below.refl _ _) [] (by simp) none 0 ⟨Or.inl rfl, by simp, by simp⟩ (fun _ => rfl) (by simp) (fun h => absurd rfl h) (by simp)
set_option maxHeartbeats 1000000 in
theorem rflush_any (b : Nat) (d : Rd) (a : Ra) (w : World) (h : RdAt b d a w) :
    Calls Try.prog 20 #[.pointer (some ⟨b, 0, none⟩)] w fun e w' => e = .returned (.tuple #[]) ∧ RStep b d a d.flush { a with wa := none, wc := 0 } w w' := by
  have HD := hidT h
  have hl := h.lt
  have HE : Hid ((strV d.now).length = 32) := by show _ = _; rw [strV_length]; exact h.n32
  have S1 := h.setKept d.now h.n32
  have S2 := S1.trans S1.dev.noWaits
  have c64 := S1.dev.c64
  have f64 := S1.dev.fz 64
  have HS2 := hidT S2
  clear h S1 S2
  go_enter Try.func20, Try.ntmps20
  go_wp2_with (first | (refine wpList_load_mid rfl 28 (.tmp 5) rfl b 32 rfl (strV d.now) _ HD.out.rangeNow Try.underlying28 rfl (by rw [HE.out]; exact size32) ?_) | (refine wpList_store_mid rfl 28 (.tmp 8) (.tmp 6) rfl b 0 (strV d.now).toArray rfl rfl (by rw [List.size_toArray, HE.out]; exact HD.out.there 0 32 (by omega)) (by rw [List.size_toArray, HE.out]; exact size32) (all_oneCell_toArray (strV_one _)) ?_; simp only))
  go_end0
  exact ⟨rfl, HS2.out⟩
end Go.Proofs.Ythmeaclekedilac
/- The document's device: Crash. -/
namespace Go.Proofs.Ythmeaclekedilac
open Go.RowKit Go.BigFrame
attribute [local go_sem] Later.cell Later.frozen

theorem applyP_take (kp : Int) (l : List Pu) (k : Nat) (h : k < l.length) (G : List ByteArray) : applyP kp 0 (l.take (k + 1)) G = if bitOn kp (k % 64) = true then (applyP kp 0 (l.take k) G).set l[k].pl l[k].data else applyP kp 0 (l.take k) G := by
  rw [List.take_succ_eq_append_getElem h, applyP_snoc, List.length_take, Nat.min_eq_left (by omega), Nat.zero_add]
theorem RdAt.putAt {b : Nat} {d : Rd} {a : Ra} {w : World} (h : RdAt b d a w) {k : Nat} (hk : k < d.waits.length) : ∃ g, a.wa = some ⟨g, 0, none⟩ ∧ w.cell? ⟨g, k * 2, none⟩ = some (.int .i64 d.waits[k].pl) ∧ w.cell? ⟨g, k * 2 + 1, none⟩ = some (.string d.waits[k].data) := by
  rcases h.wrow.2 with ⟨e, h0⟩ | ⟨g, cap, cur, e, hg, hh, _⟩
  · omega
  · simp only [Value.slice.injEq] at e
    obtain ⟨e, _, _⟩ := e
    have hl := pcells_length d.waits
    have hw := h.wrow
    rw [e] at hw
    have h1 := hw.cellAt (k * 2) (by omega)
    have h2 := hw.cellAt (k * 2 + 1) (by omega)
    obtain ⟨p1, p2⟩ := pcells_at d.waits k hk
    exact ⟨g, e, h1.trans p1, h2.trans p2⟩
set_option linter.unusedSimpArgs false in
set_option maxRecDepth 100000 in
set_option maxHeartbeats 4000000 in
theorem rcrash_any (b : Nat) (d : Rd) (a : Ra) (kp : Int) (_hkp : 0 ≤ kp ∧ kp ≤ 18446744073709551615) (w : World) (h : RdAt b d a w) (hw0 : d.waits.length ≤ 1000000) :
    Calls Try.prog 22 #[.pointer (some ⟨b, 0, none⟩), .int .u64 kp] w fun e w' => e = .returned (.tuple #[]) ∧ RStep b d a (d.crash kp) ⟨none, 0, none, 0⟩ w w' := by
  have HD := hidT h
  clear h
  go_enter Try.func22, Try.ntmps22
  go_wp2_with fail
  go_loopw [4] (fun i wr => ∃ k : Nat, k ≤ d.waits.length ∧ i = .int .i64 k ∧ RStep b d a { d with kept := applyP kp 0 (d.waits.take k) d.kept } a w wr) (fun i _ => d.waits.length - (intOf i).toNat)
  case atStart => exact ⟨0, by omega, rfl, RStep.same HD.out (Below.refl _ _)⟩
  case round =>
    obtain ⟨k, hk, rfl, hs⟩ := hrel
    have HSt := hidT hs
    have c64 := hs.dev.c64
    have lbr := hs.dev.lt
    simp only at c64
    clear hs
    by_cases hlt : k < d.waits.length
    · have hlt' : (k : Int) < (d.waits.length : Int) := by omega
      obtain ⟨g, hg, p1, p2⟩ := HSt.out.dev.putAt hlt
      have hf := HD.out.wfin _ (List.getElem_mem hlt)
      have htk := applyP_take kp d.waits k hlt d.kept
      simp only at p1 p2 hg
      generalize d.waits[k] = x at *
      have HTK := hidT htk
      obtain ⟨r, hr⟩ : ∃ r : Nat, r = k % 64 := ⟨_, rfl⟩
      have hrm : (k : Int).tmod 64 = (r : Int) := by rw [Int.tmod_eq_emod_of_nonneg (by omega)]; omega
      have hr64 : r < 64 := by omega
      have hcv : IntKind.u64.wrap (k : Int) = (k : Int) := by rw [IntKind.wrap_u64]; omega
      rw [← hr] at HTK
      rw [hg] at c64
      clear htk hr
      have p1' : (x.pl : Int) < 32 := by omega
      cases hbt : bitOn kp r
      · have hb' : (bits BinOp.and IntKind.u64 (kp / 2 ^ r) 1 == 1) = false := hbt
        have HBT := hidT hbt
        clear hbt
        go_wp2
        go_roundw
        case rel =>
          refine ⟨k + 1, by omega, by go_num, ?_⟩
          rw [HTK.out, HBT.out, if_neg (by simp)]
          exact HSt.out
        case measure => simp [intOf]; omega
      · have hb' : (bits BinOp.and IntKind.u64 (kp / 2 ^ r) 1 == 1) = true := hbt
        have HBT := hidT hbt
        have cK := HSt.out.dev.cKept x.pl hf
        have fK := HSt.out.dev.fz x.pl
        have lg := lt_of_cell p1
        have HS : Hid ((fun wz : World => wz.cell? ⟨b, 64, none⟩ = some (.slice (some ⟨g, 0, none⟩) d.waits.length a.wc) ∧ wz.cell? ⟨g, k * 2, none⟩ = some (.int .i64 x.pl) ∧ wz.cell? ⟨g, k * 2 + 1, none⟩ = some (.string x.data) ∧ b < wz.heap.size ∧ wz.frozen? ⟨b, x.pl, none⟩ = false ∧ ∃ u, wz.cell? ⟨b, x.pl, none⟩ = some u) wr.drew) := ⟨c64, p1, p2, lbr, fK, _, cK⟩
        have hk0 : (0 : Int) ≤ (k : Int) := by omega
        have hx0 : (0 : Int) ≤ (x.pl : Int) := by omega
        clear hbt
        go_wp2_with fail
        refine region_till (S := fun wz : World => wz.cell? ⟨b, 64, none⟩ = some (.slice (some ⟨g, 0, none⟩) d.waits.length a.wc) ∧ wz.cell? ⟨g, k * 2, none⟩ = some (.int .i64 x.pl) ∧ wz.cell? ⟨g, k * 2 + 1, none⟩ = some (.string x.data) ∧ b < wz.heap.size ∧ wz.frozen? ⟨b, x.pl, none⟩ = false ∧ ∃ u, wz.cell? ⟨b, x.pl, none⟩ = some u) (d := 20) (by kernel_rfl) ?_
        refine till_take (i := 0) (v := ?_) rfl (by kernel_rfl) (by kernel_rfl) (by kernel_rfl) (by kernel_rfl) (fun _ _ _ h => h) (Or.inl ⟨by rfl, ?_⟩) HS.out ?_; rotate_left; (focus (intro w0 hSw; obtain ⟨s0, s1, s2, s3, s4, s5⟩ := hSw; go_simp; (try with_reducible rfl))); (try simp only [Act.put, List.getElem_toArray, List.getElem_cons_succ, List.getElem_cons_zero, List.setIfInBounds_toArray, List.set_cons_zero, List.set_cons_succ])
        refine till_take (i := 1) (v := ?_) rfl (by kernel_rfl) (by kernel_rfl) (by kernel_rfl) (by kernel_rfl) (fun _ _ _ h => h) (Or.inl ⟨by rfl, ?_⟩) HS.out ?_; rotate_left; (focus (intro w0 hSw; obtain ⟨s0, s1, s2, s3, s4, s5⟩ := hSw; go_simp; (try with_reducible rfl))); (try simp only [Act.put, List.getElem_toArray, List.getElem_cons_succ, List.getElem_cons_zero, List.setIfInBounds_toArray, List.set_cons_zero, List.set_cons_succ])
        refine till_take (i := 2) (v := ?_) rfl (by kernel_rfl) (by kernel_rfl) (by kernel_rfl) (by kernel_rfl) (fun _ _ _ h => h) (Or.inl ⟨by rfl, ?_⟩) HS.out ?_; rotate_left; (focus (intro w0 hSw; obtain ⟨s0, s1, s2, s3, s4, s5⟩ := hSw; go_simp; (try with_reducible rfl))); (try simp only [Act.put, List.getElem_toArray, List.getElem_cons_succ, List.getElem_cons_zero, List.setIfInBounds_toArray, List.set_cons_zero, List.set_cons_succ])
        refine till_take (i := 3) (v := ?_) rfl (by kernel_rfl) (by kernel_rfl) (by kernel_rfl) (by kernel_rfl) (fun _ _ _ h => h) (Or.inl ⟨by rfl, ?_⟩) HS.out ?_; rotate_left; (focus (intro w0 hSw; obtain ⟨s0, s1, s2, s3, s4, s5⟩ := hSw; go_simp; (try with_reducible rfl))); (try simp only [Act.put, List.getElem_toArray, List.getElem_cons_succ, List.getElem_cons_zero, List.setIfInBounds_toArray, List.set_cons_zero, List.set_cons_succ])
        refine till_take (i := 4) (v := ?_) rfl (by kernel_rfl) (by kernel_rfl) (by kernel_rfl) (by kernel_rfl) (fun _ _ _ h => h) (Or.inl ⟨by rfl, ?_⟩) HS.out ?_; rotate_left; (focus (intro w0 hSw; obtain ⟨s0, s1, s2, s3, s4, s5⟩ := hSw; go_simp; (try with_reducible rfl))); (try simp only [Act.put, List.getElem_toArray, List.getElem_cons_succ, List.getElem_cons_zero, List.setIfInBounds_toArray, List.set_cons_zero, List.set_cons_succ])
        refine till_take (i := 5) (v := ?_) rfl (by kernel_rfl) (by kernel_rfl) (by kernel_rfl) (by kernel_rfl) (fun _ _ _ h => h) (Or.inl ⟨by rfl, ?_⟩) HS.out ?_; rotate_left; (focus (intro w0 hSw; obtain ⟨s0, s1, s2, s3, s4, s5⟩ := hSw; go_simp; (try with_reducible rfl))); (try simp only [Act.put, List.getElem_toArray, List.getElem_cons_succ, List.getElem_cons_zero, List.setIfInBounds_toArray, List.set_cons_zero, List.set_cons_succ])
        refine till_take (i := 6) (v := ?_) rfl (by kernel_rfl) (by kernel_rfl) (by kernel_rfl) (by kernel_rfl) (fun _ _ _ h => h) (Or.inl ⟨by rfl, ?_⟩) HS.out ?_; rotate_left; (focus (intro w0 hSw; obtain ⟨s0, s1, s2, s3, s4, s5⟩ := hSw; go_simp; (try with_reducible rfl))); (try simp only [Act.put, List.getElem_toArray, List.getElem_cons_succ, List.getElem_cons_zero, List.setIfInBounds_toArray, List.set_cons_zero, List.set_cons_succ])
        refine till_take (i := 7) (v := ?_) rfl (by kernel_rfl) (by kernel_rfl) (by kernel_rfl) (by kernel_rfl) (fun _ _ _ h => h) (Or.inl ⟨by rfl, ?_⟩) HS.out ?_; rotate_left; (focus (intro w0 hSw; obtain ⟨s0, s1, s2, s3, s4, s5⟩ := hSw; go_simp; (try with_reducible rfl))); (try simp only [Act.put, List.getElem_toArray, List.getElem_cons_succ, List.getElem_cons_zero, List.setIfInBounds_toArray, List.set_cons_zero, List.set_cons_succ])
        refine till_take (i := 8) (v := ?_) rfl (by kernel_rfl) (by kernel_rfl) (by kernel_rfl) (by kernel_rfl) (fun _ _ _ h => h) (Or.inl ⟨by rfl, ?_⟩) HS.out ?_; rotate_left; (focus (intro w0 hSw; obtain ⟨s0, s1, s2, s3, s4, s5⟩ := hSw; go_simp; (try with_reducible rfl))); (try simp only [Act.put, List.getElem_toArray, List.getElem_cons_succ, List.getElem_cons_zero, List.setIfInBounds_toArray, List.set_cons_zero, List.set_cons_succ])
        refine till_take (i := 9) (v := ?_) rfl (by kernel_rfl) (by kernel_rfl) (by kernel_rfl) (by kernel_rfl) (fun _ _ _ h => h) (Or.inl ⟨by rfl, ?_⟩) HS.out ?_; rotate_left; (focus (intro w0 hSw; obtain ⟨s0, s1, s2, s3, s4, s5⟩ := hSw; go_simp; (try with_reducible rfl))); (try simp only [Act.put, List.getElem_toArray, List.getElem_cons_succ, List.getElem_cons_zero, List.setIfInBounds_toArray, List.set_cons_zero, List.set_cons_succ])
        refine till_take (i := 10) (v := ?_) rfl (by kernel_rfl) (by kernel_rfl) (by kernel_rfl) (by kernel_rfl) (fun _ _ _ h => h) (Or.inl ⟨by rfl, ?_⟩) HS.out ?_; rotate_left; (focus (intro w0 hSw; obtain ⟨s0, s1, s2, s3, s4, s5⟩ := hSw; go_simp; (try with_reducible rfl))); (try simp only [Act.put, List.getElem_toArray, List.getElem_cons_succ, List.getElem_cons_zero, List.setIfInBounds_toArray, List.set_cons_zero, List.set_cons_succ])
        refine till_take (i := 11) (v := ?_) rfl (by kernel_rfl) (by kernel_rfl) (by kernel_rfl) (by kernel_rfl) (fun _ _ _ h => h) (Or.inl ⟨by rfl, ?_⟩) HS.out ?_; rotate_left; (focus (intro w0 hSw; obtain ⟨s0, s1, s2, s3, s4, s5⟩ := hSw; go_simp; (try with_reducible rfl))); (try simp only [Act.put, List.getElem_toArray, List.getElem_cons_succ, List.getElem_cons_zero, List.setIfInBounds_toArray, List.set_cons_zero, List.set_cons_succ])
        refine till_take (i := 12) (v := ?_) rfl (by kernel_rfl) (by kernel_rfl) (by kernel_rfl) (by kernel_rfl) (fun _ _ _ h => h) (Or.inl ⟨by rfl, ?_⟩) HS.out ?_; rotate_left; (focus (intro w0 hSw; obtain ⟨s0, s1, s2, s3, s4, s5⟩ := hSw; go_simp; (try with_reducible rfl))); (try simp only [Act.put, List.getElem_toArray, List.getElem_cons_succ, List.getElem_cons_zero, List.setIfInBounds_toArray, List.set_cons_zero, List.set_cons_succ])
        refine till_take (i := 13) (v := ?_) rfl (by kernel_rfl) (by kernel_rfl) (by kernel_rfl) (by kernel_rfl) (fun _ _ _ h => h) (Or.inl ⟨by rfl, ?_⟩) HS.out ?_; rotate_left; (focus (intro w0 hSw; obtain ⟨s0, s1, s2, s3, s4, s5⟩ := hSw; go_simp; (try with_reducible rfl))); (try simp only [Act.put, List.getElem_toArray, List.getElem_cons_succ, List.getElem_cons_zero, List.setIfInBounds_toArray, List.set_cons_zero, List.set_cons_succ])
        refine till_take (i := 14) (v := ?_) rfl (by kernel_rfl) (by kernel_rfl) (by kernel_rfl) (by kernel_rfl) (fun _ _ _ h => h) (Or.inl ⟨by rfl, ?_⟩) HS.out ?_; rotate_left; (focus (intro w0 hSw; obtain ⟨s0, s1, s2, s3, s4, s5⟩ := hSw; go_simp; (try with_reducible rfl))); (try simp only [Act.put, List.getElem_toArray, List.getElem_cons_succ, List.getElem_cons_zero, List.setIfInBounds_toArray, List.set_cons_zero, List.set_cons_succ])
        refine till_take (i := 15) (v := ?_) rfl (by kernel_rfl) (by kernel_rfl) (by kernel_rfl) (by kernel_rfl) (fun _ _ _ h => h) (Or.inl ⟨by rfl, ?_⟩) HS.out ?_; rotate_left; (focus (intro w0 hSw; obtain ⟨s0, s1, s2, s3, s4, s5⟩ := hSw; go_simp; (try with_reducible rfl))); (try simp only [Act.put, List.getElem_toArray, List.getElem_cons_succ, List.getElem_cons_zero, List.setIfInBounds_toArray, List.set_cons_zero, List.set_cons_succ])
        refine till_take (i := 16) (v := ?_) rfl (by kernel_rfl) (by kernel_rfl) (by kernel_rfl) (by kernel_rfl) (fun _ _ _ h => h) (Or.inl ⟨by rfl, ?_⟩) HS.out ?_; rotate_left; (focus (intro w0 hSw; obtain ⟨s0, s1, s2, s3, s4, s5⟩ := hSw; go_simp; (try with_reducible rfl))); (try simp only [Act.put, List.getElem_toArray, List.getElem_cons_succ, List.getElem_cons_zero, List.setIfInBounds_toArray, List.set_cons_zero, List.set_cons_succ])
        refine till_one (i := 17) rfl (by kernel_rfl) ?_; intro K hK; go_simp; refine hK _ _ (fun _ => HS.out) ?_; (try simp only [Act.put, List.getElem_toArray, List.getElem_cons_succ, List.getElem_cons_zero, List.setIfInBounds_toArray, List.set_cons_zero, List.set_cons_succ]); clear hK
        refine till_one (i := 18) rfl (by kernel_rfl) ?_; intro K hK; go_simp; refine hK _ _ (fun _ => HS.out) ?_; (try simp only [Act.put, List.getElem_toArray, List.getElem_cons_succ, List.getElem_cons_zero, List.setIfInBounds_toArray, List.set_cons_zero, List.set_cons_succ]); clear hK
        refine till_one (i := 19) rfl (by kernel_rfl) ?_; intro K hK; go_simp; refine hK _ _ (fun _ => HS.out) ?_; (try simp only [Act.put, List.getElem_toArray, List.getElem_cons_succ, List.getElem_cons_zero, List.setIfInBounds_toArray, List.set_cons_zero, List.set_cons_succ]); clear hK
        refine till_one (i := 20) rfl (by kernel_rfl) ?_
        intro K hK
        go_simp
        refine hK _ _ (fun h => absurd rfl h) ?_
        (try simp only [Act.put, List.getElem_toArray, List.getElem_cons_succ, List.getElem_cons_zero, List.setIfInBounds_toArray, List.set_cons_zero, List.set_cons_succ])
        clear hK
        refine till_done (by kernel_rfl) ?_ _
        go_wp2
        go_roundw
        case rel =>
          refine ⟨k + 1, by omega, by go_num, ?_⟩
          rw [HTK.out, if_pos HBT.out]
          exact (HSt.out.trans (HSt.out.dev.setKept1 hf x.data)).drewAt
        case measure => simp [intOf]; omega
    · have hkl : k = d.waits.length := by omega
      subst hkl
      rw [List.take_length] at HSt
      have hK32 := HSt.out.dev.k32
      have S5 := HSt.out.dev.setNows _ hK32
      have S6 := S5.dev.noWaits
      have S7 := S6.dev.noBusy
      have HE : Hid ((strV (applyP kp 0 d.waits d.kept)).length = 32) := by show _ = _; rw [strV_length]; exact hK32
      have f64 := S5.dev.fz 64
      have x64 := S5.dev.c64
      have f65 := S6.dev.fz 65
      have x65 := S6.dev.c65
      have HS7 := hidT (((HSt.out.trans S5).trans S6).trans S7)
      simp only at f64 x64 f65 x65
      clear S5 S6 S7 hK32
      go_wp2_with (first | (refine wpList_load_mid rfl 28 (.tmp 44) rfl b 0 rfl (strV (applyP kp 0 d.waits d.kept)) _ HSt.out.dev.rangeKept Try.underlying28 rfl (by rw [HE.out]; exact size32) ?_) | (refine wpList_store_mid rfl 28 (.tmp 47) (.tmp 45) rfl b 32 (strV (applyP kp 0 d.waits d.kept)).toArray rfl rfl (by rw [List.size_toArray, HE.out]; exact HSt.out.dev.there 32 32 (by omega)) (by rw [List.size_toArray, HE.out]; exact size32) (all_oneCell_toArray (strV_one _)) ?_; simp only))
      go_end0
      exact ⟨rfl, HS7.out⟩
end Go.Proofs.Ythmeaclekedilac
/- A driver of a device: New, Room, Start, firstTag. -/
namespace Go.Proofs.Ythmeaclekedilac
open Go.RowKit Go.BigFrame Go.Maps
attribute [local go_sem] Later.cell Later.frozen

theorem keyI : Keyed Try.prog 3 := int_keyed Try.underlying3
theorem zeroI (w : World) : (zeroValue 3).run Try.prog w = .ok (.int .i64 0) w := by kernel_rfl
/-- The driver v of the device b, with the map bm. -/
structure VAt (v b bm : Nat) (d : Dl) (a : An) (n : Nat) (D : DataW Unit) (w : World) : Prop where
  dev : DevAt b d a w
  blk : w.heap[v]? = some (.cells [.pointer (some ⟨b, 0, none⟩), .map (some bm)].toArray 115 (0, 0))
  map : w.ownsMap Try.prog 3 (plainElem Try.prog 3) bm n D
  foot : ∀ k, a.foot b k → k ≠ v ∧ k ≠ bm
/-- What a step of the driver may turn. -/
def vfoot (b bm : Nat) (a : An) (k : Nat) : Prop := k = bm ∨ a.foot b k
structure VStep (v b bm : Nat) (d : Dl) (a : An) (n : Nat) (D : DataW Unit) (d' : Dl) (a' : An) (n' : Nat) (D' : DataW Unit) (w w' : World) : Prop where
  at' : VAt v b bm d' a' n' D' w'
  only : Only (vfoot b bm a) w w'
  foot : ∀ k, vfoot b bm a' k → vfoot b bm a k ∨ w.heap.size ≤ k
theorem owns_block {w w' : World} {bm n : Nat} {D : DataW Unit} (h : w.ownsMap Try.prog 3 (plainElem Try.prog 3) bm n D) (e : w'.heap[bm]? = w.heap[bm]?) : w'.ownsMap Try.prog 3 (plainElem Try.prog 3) bm n D := by
  obtain ⟨es, clock, hb, F, hs, hD⟩ := h
  exact ⟨es, clock, e.trans hb, F, hs, hD⟩
theorem VAt.mlt {v b bm : Nat} {d : Dl} {a : An} {n : Nat} {D : DataW Unit} {w : World} (h : VAt v b bm d a n D w) : bm < w.heap.size := h.map.lt
theorem VAt.ne {v b bm : Nat} {d : Dl} {a : An} {n : Nat} {D : DataW Unit} {w : World} (h : VAt v b bm d a n D w) : v ≠ bm := by
  rintro rfl
  obtain ⟨es, clock, hb, _⟩ := h.map
  rw [h.blk] at hb
  cases hb
/-- A step of its device. -/
theorem VAt.step {v b bm : Nat} {d d' : Dl} {a a' : An} {n : Nat} {D : DataW Unit} {w w' : World} (h : VAt v b bm d a n D w) (hs : DStep b d a d' a' w w') : VStep v b bm d a n D d' a' n D w w' where
  at' := ⟨hs.dev, by rw [hs.only.block v (lt_of_heap h.blk) (fun e => (h.foot v e).1 rfl)]; exact h.blk, owns_block h.map (hs.only.block bm h.mlt (fun e => (h.foot bm e).2 rfl)), fun k hk => (hs.foot k hk).elim (h.foot k) (fun h' => by have := lt_of_heap h.blk; have := h.mlt; omega)⟩
  only := hs.only.mono (fun _ e => Or.inr e)
  foot := fun k hk => hk.elim (fun e => Or.inl (Or.inl e)) (fun e => (hs.foot k e).elim (fun h' => Or.inl (Or.inr h')) Or.inr)
theorem VStep.trans {v b bm : Nat} {d d' d2 : Dl} {a a' a2 : An} {n n' n2 : Nat} {D D' D2 : DataW Unit} {w w' w2 : World} (h : VStep v b bm d a n D d' a' n' D' w w') (k : VStep v b bm d' a' n' D' d2 a2 n2 D2 w' w2) : VStep v b bm d a n D d2 a2 n2 D2 w w2 :=
  ⟨k.at', h.only.trans k.only h.foot, fun i hi => (k.foot i hi).elim (h.foot i) (fun h' => Or.inr (Nat.le_trans h.only.size h'))⟩
theorem VAt.later {v b bm : Nat} {d : Dl} {a : An} {n : Nat} {D : DataW Unit} {w w' : World} (h : VAt v b bm d a n D w) (hb : Below w.heap.size w w') : VAt v b bm d a n D w' := (h.step (DStep.same h.dev hb)).at'
theorem VStep.later {v b bm : Nat} {d d' : Dl} {a a' : An} {n n' : Nat} {D D' : DataW Unit} {w w' w2 : World} (h : VStep v b bm d a n D d' a' n' D' w w') (hb : Below w'.heap.size w' w2) : VStep v b bm d a n D d' a' n' D' w w2 := h.trans (h.at'.step (DStep.same h.at'.dev hb))
/-- Its map alone turns. -/
theorem VAt.turn {v b bm : Nat} {d : Dl} {a : An} {n n' : Nat} {D D' : DataW Unit} {w w' : World} (h : VAt v b bm d a n D w) (ho : Only (fun k => k = bm) w w') (hm : w'.ownsMap Try.prog 3 (plainElem Try.prog 3) bm n' D') (hr : ∀ r ∈ d.busy, r.Off (fun k => k = bm)) : VStep v b bm d a n D d a n' D' w w' where
  at' := ⟨h.dev.frame ho (fun k hk => (h.foot k hk).2) hr, by rw [ho.block v (lt_of_heap h.blk) h.ne]; exact h.blk, hm, h.foot⟩
  only := ho.mono (fun _ e => Or.inl e)
  foot := fun _ hk => Or.inl hk
theorem only_of_grown {w w' : World} {bm : Nat} (h : w.grownBy w' (some bm)) : Only (fun k => k = bm) w w' := ⟨h.os, h.tape, h.output, h.size, fun k hk hn => h.block k hk (fun e => hn (Option.some.inj e))⟩
theorem VAt.cells {v b bm : Nat} {d : Dl} {a : An} {n : Nat} {D : DataW Unit} {w : World} (h : VAt v b bm d a n D w) : w.cell? ⟨v, 0, none⟩ = some (.pointer (some ⟨b, 0, none⟩)) ∧ w.cell? ⟨v, 1, none⟩ = some (.map (some bm)) := ⟨by rw [cell_of_heap h.blk]; rfl, by rw [cell_of_heap h.blk]; rfl⟩
set_option maxRecDepth 100000 in
set_option maxHeartbeats 400000 in
theorem vnew_any (b : Nat) (d : Dl) (a : An) (w : World) (h : DevAt b d a w) : Calls Try.prog 27 #[.pointer (some ⟨b, 0, none⟩)] w fun e w' => e = .returned (.pointer (some ⟨w.heap.size + 1, 0, none⟩)) ∧ VAt (w.heap.size + 1) b w.heap.size d a 0 (.map []) w' ∧ Below w.heap.size w w' := by
  have HD := hidT h
  clear h
  have hmm := @run_makeMap Try.prog
  go_enter Try.func27, Try.ntmps27
  go_wp2
  go_ret
  have hb := below2 w (.map #[] 0) (.cells [.pointer (some ⟨b, 0, none⟩), .map (some w.heap.size)].toArray 115)
  refine ⟨rfl, ⟨HD.out.later hb, ?_, (World.ownsMap_made _ _ _ _).alloc _, fun k hk => ?_⟩, hb⟩
  · have := heap_alloc_new (w.alloc (.map #[] 0)) (.cells [.pointer (some ⟨b, 0, none⟩), .map (some w.heap.size)].toArray 115)
    rw [show (w.alloc (.map #[] 0)).heap.size = w.heap.size + 1 by simp] at this
    exact this
  · have := HD.out.footLt k hk; omega
set_option maxRecDepth 100000 in
set_option maxHeartbeats 400000 in
theorem room_yes (v b bm : Nat) (d : Dl) (a : An) (n : Nat) (D : DataW Unit) (w : World) (h : VAt v b bm d a n D w) (h2 : d.busy.length < 2) : Calls Try.prog 31 #[.pointer (some ⟨v, 0, none⟩)] w fun e w' => e = .returned (.bool true) ∧ Below w.heap.size w w' := by
  obtain ⟨c0, c1⟩ := h.cells
  have HV := hidT h
  have h2' : (d.busy.length : Int) < 2 := by omega
  clear h c1
  go_enter Try.func31, Try.ntmps31
  go_wp2_with fail
  refine (busy_any b d a _ HV.out.dev).mono ?_
  rintro e w1 ⟨xa, xc, rfl, -, -, hb⟩
  go_wp2
  go_ret
  exact ⟨rfl, hb⟩
set_option linter.unusedSimpArgs false in
set_option maxRecDepth 100000 in
set_option maxHeartbeats 400000 in
theorem vstart_ok (v b bm : Nat) (d : Dl) (a : An) (n : Nat) (D : DataW Unit) (r : Rq) (w : World) (h : VAt v b bm d a n D w) (h2 : d.busy.length < 2) (hr : r.At w) (ho : r.Off (a.foot b)) :
    Calls Try.prog 28 #[.pointer (some ⟨v, 0, none⟩), r.val] w fun e w' => ∃ a', e = .returned .nilIface ∧ VStep v b bm d a n D { d with busy := d.busy ++ [r] } a' n D w w' := by
  obtain ⟨c0, c1⟩ := h.cells
  have HV := hidT h
  have HR := hidT hr
  have HO := hidT ho
  have hv := lt_of_heap h.blk
  clear h c1 hr ho
  have hb0 := hidT (below1 w (.cells #[.bool r.wr, .int .i64 r.f, .int .i64 r.m, .slice r.da r.data.length r.dc, .slice r.ta r.tags.length r.tc, .int .i64 r.born] 38))
  go_enter Try.func28, Try.ntmps28
  go_wp2_with fail
  have hS0 : (w.alloc (.cells #[.bool r.wr, .int .i64 r.f, .int .i64 r.m, .slice r.da r.data.length r.dc, .slice r.ta r.tags.length r.tc, .int .i64 r.born] 38)).drew.cell? ⟨v, 0, none⟩ = some (.pointer (some ⟨b, 0, none⟩)) ∧ BoxAt (w.alloc (.cells #[.bool r.wr, .int .i64 r.f, .int .i64 r.m, .slice r.da r.data.length r.dc, .slice r.ta r.tags.length r.tc, .int .i64 r.born] 38)).drew w.heap.size r := ⟨(hb0.out.drew.cell (p := ⟨v, 0, none⟩) hv).trans c0, (box_new w 38 r).later (Below.refl _ _).drew⟩
  have HS := hidT hS0
  have eg : ∀ args w, Sem.run Try.prog (callFunc 14 args) w = .ok (.enter 14 args) w := by intro args w; go_simp
  clear hS0
  refine region_till (S := fun wz => wz.cell? ⟨v, 0, none⟩ = some (.pointer (some ⟨b, 0, none⟩)) ∧ BoxAt wz w.heap.size r) (d := 6) (by kernel_rfl) ?_
  refine till_take (i := 0) (v := ?_) rfl (by kernel_rfl) (by kernel_rfl) (by kernel_rfl) (by kernel_rfl) (fun _ _ _ h => h) (Or.inl ⟨by rfl, ?_⟩) HS.out ?_; rotate_left; (focus (intro w0 hSw; obtain ⟨s6, s0, s1, s2, s3, s4, s5⟩ := hSw; go_simp; (try with_reducible rfl))); (try simp only [Act.put, List.getElem_toArray, List.getElem_cons_succ, List.getElem_cons_zero, List.setIfInBounds_toArray, List.set_cons_zero, List.set_cons_succ])
  refine till_take (i := 1) (v := ?_) rfl (by kernel_rfl) (by kernel_rfl) (by kernel_rfl) (by kernel_rfl) (fun _ _ _ h => h) (Or.inl ⟨by rfl, ?_⟩) HS.out ?_; rotate_left; (focus (intro w0 hSw; obtain ⟨s6, s0, s1, s2, s3, s4, s5⟩ := hSw; go_simp; (try with_reducible rfl))); (try simp only [Act.put, List.getElem_toArray, List.getElem_cons_succ, List.getElem_cons_zero, List.setIfInBounds_toArray, List.set_cons_zero, List.set_cons_succ])
  refine till_take (i := 2) (v := ?_) rfl (by kernel_rfl) (by kernel_rfl) (by kernel_rfl) (by kernel_rfl) (fun _ _ _ h => h) (Or.inl ⟨by rfl, ?_⟩) HS.out ?_; rotate_left; (focus (intro w0 hSw; obtain ⟨s6, s0, s1, s2, s3, s4, s5⟩ := hSw; go_simp; (try with_reducible rfl))); (try simp only [Act.put, List.getElem_toArray, List.getElem_cons_succ, List.getElem_cons_zero, List.setIfInBounds_toArray, List.set_cons_zero, List.set_cons_succ])
  refine till_take (i := 3) (v := ?_) rfl (by kernel_rfl) (by kernel_rfl) (by kernel_rfl) (by kernel_rfl) (fun _ _ _ h => h) (Or.inl ⟨by rfl, ?_⟩) HS.out ?_; rotate_left; (focus (intro w0 hSw; obtain ⟨s6, s0, s1, s2, s3, s4, s5⟩ := hSw; go_simp; (try with_reducible rfl))); (try simp only [Act.put, List.getElem_toArray, List.getElem_cons_succ, List.getElem_cons_zero, List.setIfInBounds_toArray, List.set_cons_zero, List.set_cons_succ])
  refine till_take (i := 4) (v := ?_) rfl (by kernel_rfl) (by kernel_rfl) (by kernel_rfl) (by kernel_rfl) (fun _ _ _ h => h) (Or.inl ⟨by rfl, ?_⟩) HS.out ?_; rotate_left; (focus (intro w0 hSw; obtain ⟨s6, s0, s1, s2, s3, s4, s5⟩ := hSw; go_simp; (try with_reducible rfl))); (try simp only [Act.put, List.getElem_toArray, List.getElem_cons_succ, List.getElem_cons_zero, List.setIfInBounds_toArray, List.set_cons_zero, List.set_cons_succ])
  refine till_one (i := 5) rfl (by kernel_rfl) ?_
  intro K hK
  refine step_call2 rfl 14 8 9 25 38 rfl eg (.pointer (some ⟨b, 0, none⟩)) r.val rfl rfl .nilIface (fun w' => ∃ a', DStep b d a { d with busy := d.busy ++ [r] } a' w w' ∧ BoxAt w' w.heap.size r) ((start_ok b d a r _ (HV.out.dev.later hb0.out.drew) h2 (HR.out.later hb0.out.drew) HO.out).mono ?_) ?_
  · rintro e w1 ⟨a', he, hs⟩
    exact ⟨he, a', (DStep.same HV.out.dev hb0.out.drew).trans hs, HS.out.2.only hs.only (fun e => by have := HV.out.dev.footLt _ e; omega)⟩
  rintro w1 ⟨a', hs, hbx⟩
  have HVS := hidT (HV.out.step hs)
  have hS1 : w1.cell? ⟨v, 0, none⟩ = some (.pointer (some ⟨b, 0, none⟩)) := HVS.out.at'.cells.1
  refine hK _ _ (fun _ => ⟨hS1, hbx⟩) ?_
  (try simp only [Act.put, List.getElem_toArray, List.getElem_cons_succ, List.getElem_cons_zero, List.setIfInBounds_toArray, List.set_cons_zero, List.set_cons_succ])
  clear hK
  refine till_one (i := 6) rfl (by kernel_rfl) ?_
  intro K hK
  go_simp
  refine hK _ _ (fun h => absurd rfl h) ?_
  (try simp only [Act.put, List.getElem_toArray, List.getElem_cons_succ, List.getElem_cons_zero, List.setIfInBounds_toArray, List.set_cons_zero, List.set_cons_succ])
  clear hK
  refine till_done (by kernel_rfl) ?_ _
  go_wp2
  go_ret
  exact ⟨a', rfl, HVS.out⟩
set_option maxRecDepth 100000 in
set_option maxHeartbeats 400000 in
theorem first_any (r : Rq) (w : World) (hr : r.At w) (h1 : 1 ≤ r.tags.length) : Calls Try.prog 62 #[r.val] w fun e w' => e = .returned (.int .i64 (r.tags.getD 0 0)) ∧ Below w.heap.size w w' := by
  obtain ⟨wr, f, m, da, dc, data, ta, tc, tags, born⟩ := r
  rcases hr.tags with h | ⟨tb, to, h, hc⟩
  · simp only at h h1; rw [h] at h1; simp at h1
  simp only at h h1 hc
  subst h
  have c0 := hc 0 (by omega)
  have lt := lt_of_cell c0
  obtain ⟨x, hx⟩ : ∃ x, tags.getD 0 0 = x := ⟨_, rfl⟩
  rw [hx] at c0
  simp only [Nat.add_zero] at c0
  have h1' : ¬ (tags.length : Int) = 0 := by omega
  have h2' : (0 : Int) < (tags.length : Int) := by omega
  show Calls Try.prog 62 #[(Rq.mk wr f m da dc data (some ⟨tb, to, none⟩) tc tags born).val] w fun e w' => e = .returned (.int .i64 (tags.getD 0 0)) ∧ Below w.heap.size w w'
  rw [hx]
  clear hr hc hx
  go_enter Try.func62, Try.ntmps62
  go_wp2
  go_ret
  exact ⟨rfl, by repeat (first | with_reducible exact Below.refl _ _ | with_reducible refine balloc ?_ _ | with_reducible refine bdrew ?_ | with_reducible refine bset' ?_ (by omega) _ | with_reducible refine bthen ?_ (by assumption))⟩
end Go.Proofs.Ythmeaclekedilac
/- A driver of a device: the end of a request. -/
namespace Go.Proofs.Ythmeaclekedilac
open Go.RowKit Go.BigFrame Go.Maps
attribute [local go_sem] Later.cell Later.frozen

theorem calls_worldD {P : Program} {f : FuncId} {args : Array Value} {w : World} {post : Ending → World → Prop} (R : World → Prop) (h : R w) (k : ∀ w', R w' → Calls P f args w' post) : Calls P f args w post := k w h
/-- A result in a block of its own, that may be written. -/
def ResBoxF (w : World) (q : Nat) (r : Rq) (xa : Option Addr) (n xc : Nat) (er : Int) : Prop := ResBox w q r xa n xc er ∧ w.there q 0 8 ∧ q < w.heap.size
theorem there_only {F : Nat → Prop} {w w' : World} {q : Nat} (h : w.there q 0 8) (hl : q < w.heap.size) (hO : Only F w w') (hn : ¬ F q) : w'.there q 0 8 := fun j hj => by
  rw [hO.cell (p := ⟨q, 0 + j, none⟩) hl hn, hO.frozen (p := ⟨q, 0 + j, none⟩) hl hn]; exact h j hj
theorem ResBoxF.only {F : Nat → Prop} {w w' : World} {q n xc : Nat} {r : Rq} {xa : Option Addr} {er : Int} (h : ResBoxF w q r xa n xc er) (hO : Only F w w') (hn : ¬ F q) : ResBoxF w' q r xa n xc er := by
  obtain ⟨⟨h0, h1, h2, h3, h4, h5, h6, h7⟩, hf, hl⟩ := h
  exact ⟨⟨(hO.cell (p := ⟨q, 0, none⟩) hl hn).trans h0, (hO.cell (p := ⟨q, 1, none⟩) hl hn).trans h1, (hO.cell (p := ⟨q, 2, none⟩) hl hn).trans h2, (hO.cell (p := ⟨q, 3, none⟩) hl hn).trans h3, (hO.cell (p := ⟨q, 4, none⟩) hl hn).trans h4, (hO.cell (p := ⟨q, 5, none⟩) hl hn).trans h5, (hO.cell (p := ⟨q, 6, none⟩) hl hn).trans h6, (hO.cell (p := ⟨q, 7, none⟩) hl hn).trans h7⟩, there_only hf hl hO hn, Nat.lt_of_lt_of_le hl hO.size⟩
theorem ResBoxF.later {w w' : World} {q n xc : Nat} {r : Rq} {xa : Option Addr} {er : Int} (h : ResBoxF w q r xa n xc er) (hb : Below w.heap.size w w') : ResBoxF w' q r xa n xc er := h.only (F := fun _ => False) (Only.of_below hb) (fun e => e)
theorem zero_there {w : World} {q : Nat} (h : ZeroAt w q) : w.there q 0 8 := by
  obtain ⟨⟨z0, z1, z2, z3, z4, z5, z6, z7⟩, zf, zl⟩ := h
  intro j hj
  refine ⟨?_, zf _⟩
  match j, hj with
  | 0, _ => simp [z0]
  | 1, _ => simp [z1]
  | 2, _ => simp [z2]
  | 3, _ => simp [z3]
  | 4, _ => simp [z4]
  | 5, _ => simp [z5]
  | 6, _ => simp [z6]
  | 7, _ => simp [z7]
/-- Eight cells of one block. -/
def set8 (w : World) (q : Nat) (v0 v1 v2 v3 v4 v5 v6 v7 : Value) : World := (((((((w.setCell ⟨q, 0, none⟩ v0).setCell ⟨q, 1, none⟩ v1).setCell ⟨q, 2, none⟩ v2).setCell ⟨q, 3, none⟩ v3).setCell ⟨q, 4, none⟩ v4).setCell ⟨q, 5, none⟩ v5).setCell ⟨q, 6, none⟩ v6).setCell ⟨q, 7, none⟩ v7
theorem set8_only (w : World) (q : Nat) (v0 v1 v2 v3 v4 v5 v6 v7 : Value) : Only (fun k => k = q) w (set8 w q v0 v1 v2 v3 v4 v5 v6 v7) :=
  ((((((((Only.refl (fun k => k = q) w).setCell ⟨q, 0, none⟩ (Or.inl rfl) v0).setCell ⟨q, 1, none⟩ (Or.inl rfl) v1).setCell ⟨q, 2, none⟩ (Or.inl rfl) v2).setCell ⟨q, 3, none⟩ (Or.inl rfl) v3).setCell ⟨q, 4, none⟩ (Or.inl rfl) v4).setCell ⟨q, 5, none⟩ (Or.inl rfl) v5).setCell ⟨q, 6, none⟩ (Or.inl rfl) v6).setCell ⟨q, 7, none⟩ (Or.inl rfl) v7
theorem set8_res {w : World} {q n xc : Nat} {r : Rq} {xa : Option Addr} {er : Int} (h : w.there q 0 8) (hl : q < w.heap.size) : ResBoxF (set8 w q (.bool r.wr) (.int .i64 r.f) (.int .i64 r.m) (.slice r.da r.data.length r.dc) (.slice r.ta r.tags.length r.tc) (.int .i64 r.born) (.slice xa n xc) (.int .i64 er)) q r xa n xc er := by
  have hs := World.rangeAt_setCells_same w q 0 [.bool r.wr, .int .i64 r.f, .int .i64 r.m, .slice r.da r.data.length r.dc, .slice r.ta r.tags.length r.tc, .int .i64 r.born, .slice xa n xc, .int .i64 er] h
  exact ⟨⟨hs 0 _ rfl, hs 1 _ rfl, hs 2 _ rfl, hs 3 _ rfl, hs 4 _ rfl, hs 5 _ rfl, hs 6 _ rfl, hs 7 _ rfl⟩, World.there_setCells h q 0 [.bool r.wr, .int .i64 r.f, .int .i64 r.m, .slice r.da r.data.length r.dc, .slice r.ta r.tags.length r.tc, .int .i64 r.born, .slice xa n xc, .int .i64 er], by simpa [set8] using hl⟩
/-- A result is stored over one. -/
theorem wpList_store_res {ops : Array Oper} {rest : List Oper} {op : Oper} {a : Act} {w : World} {Q : Exit → Act → World → Prop} (hgd : op.guard = none) (x y : Operand) (ho : op.op = .store 49 x y)
    (q : Nat) (r : Rq) (xa : Option Addr) (n xc : Nat) (er : Int) (hx : a.eval x = .pointer (some ⟨q, 0, none⟩)) (hy : a.eval y = resV r xa n xc er) (ht : w.there q 0 8)
    (R : World → Prop) (hR : R (set8 w q (.bool r.wr) (.int .i64 r.f) (.int .i64 r.m) (.slice r.da r.data.length r.dc) (.slice r.ta r.tags.length r.tc) (.int .i64 r.born) (.slice xa n xc) (.int .i64 er)))
    (h : ∀ w', R w' → wpList Try.prog ops Q rest (a.put op.dst undef) w') : wpList Try.prog ops Q (op :: rest) a w :=
  wpList_store_mid hgd 49 x y ho q 0 _ hx hy ht (by kernel_rfl) (by simp [Value.oneCell']) (h _ hR)
def rq0 : Rq := ⟨false, 0, 0, none, 0, [], none, 0, [], 0⟩
/-- A block of the call's own is written. -/
theorem vset8 {v b bm : Nat} {d d' : Dl} {a a' : An} {n n' : Nat} {D D' : DataW Unit} {w w' : World} (h : VStep v b bm d a n D d' a' n' D' w w') (q : Nat) (hq : w.heap.size ≤ q) (hq' : ¬ vfoot b bm a' q) (hqv : q ≠ v) (hr : ∀ r ∈ d'.busy, r.Off (fun k => k = q)) (v0 v1 v2 v3 v4 v5 v6 v7 : Value) : VStep v b bm d a n D d' a' n' D' w (set8 w' q v0 v1 v2 v3 v4 v5 v6 v7) where
  at' := ⟨h.at'.dev.frame (set8_only w' q _ _ _ _ _ _ _ _) (fun k hk e => hq' (by rw [← e]; exact Or.inr hk)) hr, by rw [(set8_only w' q v0 v1 v2 v3 v4 v5 v6 v7).block v (lt_of_heap h.at'.blk) (Ne.symm hqv)]; exact h.at'.blk, owns_block h.at'.map ((set8_only w' q v0 v1 v2 v3 v4 v5 v6 v7).block bm h.at'.mlt (fun e => hq' (Or.inl e.symm))), h.at'.foot⟩
  only := h.only.trans (set8_only w' q v0 v1 v2 v3 v4 v5 v6 v7) (fun i e => Or.inr (by subst e; exact hq))
  foot := h.foot
theorem set8_size (w : World) (q : Nat) (v0 v1 v2 v3 v4 v5 v6 v7 : Value) : (set8 w q v0 v1 v2 v3 v4 v5 v6 v7).heap.size = w.heap.size := by simp [set8]
set_option maxRecDepth 100000 in
set_option maxHeartbeats 1000000 in
theorem vend_none (v b bm : Nat) (d : Dl) (a : An) (n : Nat) (D : DataW Unit) (fl : Bool) (w : World) (h : VAt v b bm d a n D w) (he : d.busy = []) :
    Calls Try.prog 29 #[.pointer (some ⟨v, 0, none⟩), .int .i64 0, .bool fl] w fun e w' => e = .returned (.tuple #[noRes, .bool false, .iface 47 (.int .i64 5)]) ∧ Below w.heap.size w w' := by
  obtain ⟨c0, c1⟩ := h.cells; have HV := hidT h; have hv := lt_of_heap h.blk; have hm := h.mlt; have hbv := h.dev.lt; have hb0 := hidT (below1 w (.cells #[.bool false, .int .i64 0, .int .i64 0, .slice none 0 0, .slice none 0 0, .int .i64 0, .slice none 0 0, .int .i64 0] 49)); clear h
  have HE := hidT he
  clear he
  go_enter Try.func29, Try.ntmps29
  go_wp2_with fail
  refine (end_none b d a 0 fl _ (HV.out.dev.later hb0.out) (by rw [HE.out]; simp)).mono ?_
  rintro e w1 ⟨rfl, hb1⟩
  have hz1 := (zero_new w 49).only (F := fun _ => False) (Only.of_below hb1) (fun e => e)
  have hB1 := hb0.out.trans (hb1.mono hb0.out.size)
  have HZ1 := hidT hz1
  have HB1 := hidT hB1
  clear hb1 hB1 hz1
  go_wp2_with (first
    | (refine wpList_store_res rfl (.tmp 6) (.tmp 18) rfl w.heap.size rq0 none 0 0 0 rfl rfl (zero_there HZ1.out) (fun wK => Below w.heap.size w wK ∧ ResBoxF wK w.heap.size rq0 none 0 0 0) ⟨HB1.out.trans ((set8_only w1 w.heap.size _ _ _ _ _ _ _ _).below HB1.out.size (fun i e => by omega)), set8_res (zero_there HZ1.out) HZ1.out.2.2⟩ ?_; rintro w2 ⟨hb2, hr2⟩; have HB2 := hidT hb2; have HR2 := hidT hr2; clear hb2 hr2 HB1 HZ1)
    | (refine wpList_store_res rfl (.tmp 6) (.tmp 22) rfl w.heap.size rq0 none 0 0 0 rfl rfl HR2.out.2.1 (fun wK => Below w.heap.size w wK ∧ ResBoxF wK w.heap.size rq0 none 0 0 0) ⟨HB2.out.trans ((set8_only w2 w.heap.size _ _ _ _ _ _ _ _).below HB2.out.size (fun i e => by omega)), set8_res HR2.out.2.1 HR2.out.2.2⟩ ?_; rintro w3 ⟨hb3, ⟨z0, z1, z2, z3, z4, z5, z6, z7⟩, -, -⟩; have HB3 := hidT hb3; clear hb3 HB2 HR2))
  exact bodyPost_ret (v := .tuple #[noRes, .bool false, .iface 47 (.int .i64 5)]) (by simp [results, Try.results29, go_sem, z0, z1, z2, z3, z4, z5, z6, z7, rq0]) rfl ⟨rfl, HB3.out⟩
end Go.Proofs.Ythmeaclekedilac
/- The document's device: End of none, End by a fault; what stands when a request is taken out. -/
namespace Go.Proofs.Ythmeaclekedilac
open Go.RowKit Go.BigFrame
attribute [local go_sem] Later.cell Later.frozen

/-- A block of the call's own turns. -/
theorem RStep.other {b : Nat} {d d' : Rd} {a a' : Ra} {w w' w'' : World} {q : Nat} (h : RStep b d a d' a' w w') (hO : Only (fun k => k = q) w' w'') (hq : w.heap.size ≤ q) (nf : ¬ a'.foot b q) (nl : d'.busy ≠ [] → ∀ p, a'.la = some p → p.block ≠ q) (nr : ∀ r ∈ d'.busy, r.Off (fun k => k = q)) : RStep b d a d' a' w w'' :=
  ⟨h.dev.frame hO (fun k hk e => nf (e ▸ hk)) nl nr, h.only.trans hO (fun i e => Or.inr (by subst e; exact hq)), h.foot, h.lan⟩
set_option maxHeartbeats 1000000 in
theorem rend_none (b : Nat) (d : Rd) (a : Ra) (i : Int) (fl : Bool) (w : World) (h : RdAt b d a w) (hi : i < 0 ∨ (d.busy.length : Int) ≤ i) :
    Calls Try.prog 17 #[.pointer (some ⟨b, 0, none⟩), .int .i64 i, .bool fl] w fun e w' => e = .returned (.tuple #[noRes, .int .i64 5]) ∧ Below w.heap.size w w' := by
  have c := h.c65
  have hl := h.lt
  clear h
  have hz := zero_new w 49
  have HZ := hidT hz
  have HB := hidT (below1 w (.cells #[.bool false, .int .i64 0, .int .i64 0, .slice none 0 0, .slice none 0 0, .int .i64 0, .slice none 0 0, .int .i64 0] 49))
  clear hz
  by_cases h0 : i < 0
  · go_enter Try.func17, Try.ntmps17
    go_wp2_with (refine wpList_store_res rfl (.tmp 6) (.tmp 23) rfl w.heap.size rq0 none 0 0 0 rfl rfl (zero_there HZ.out) (fun wK => Below w.heap.size w wK ∧ ResBoxF wK w.heap.size rq0 none 0 0 0) ⟨HB.out.trans ((set8_only _ w.heap.size _ _ _ _ _ _ _ _).below (by simp) (fun i e => by omega)), set8_res (zero_there HZ.out) HZ.out.2.2⟩ ?_; rintro w3 ⟨hb3, ⟨z0, z1, z2, z3, z4, z5, z6, z7⟩, -, -⟩; have HB3 := hidT hb3; clear hb3)
    exact bodyPost_ret (v := .tuple #[noRes, .int .i64 5]) (by simp [results, Try.results17, go_sem, z0, z1, z2, z3, z4, z5, z6, z7, rq0]) rfl ⟨rfl, HB3.out⟩
  · have h1 : (d.busy.length : Int) ≤ i := hi.resolve_left h0
    go_enter Try.func17, Try.ntmps17
    go_wp2_with (refine wpList_store_res rfl (.tmp 6) (.tmp 23) rfl w.heap.size rq0 none 0 0 0 rfl rfl (zero_there HZ.out) (fun wK => Below w.heap.size w wK ∧ ResBoxF wK w.heap.size rq0 none 0 0 0) ⟨HB.out.trans ((set8_only _ w.heap.size _ _ _ _ _ _ _ _).below (by simp) (fun i e => by omega)), set8_res (zero_there HZ.out) HZ.out.2.2⟩ ?_; rintro w3 ⟨hb3, ⟨z0, z1, z2, z3, z4, z5, z6, z7⟩, -, -⟩; have HB3 := hidT hb3; clear hb3)
    exact bodyPost_ret (v := .tuple #[noRes, .int .i64 5]) (by simp [results, Try.results17, go_sem, z0, z1, z2, z3, z4, z5, z6, z7, rq0]) rfl ⟨rfl, HB3.out⟩
/-- What stands behind 'd.L = without(d.L, i)': w4. -/
structure Out (b : Nat) (d : Rd) (a : Ra) (k : Nat) (r : Rq) (a' : Ra) (w w4 : World) : Prop where
  step : RStep b d a { d with busy := d.busy.eraseIdx k } a' w w4
  zero : ZeroAt w4 w.heap.size
  box : BoxAt w4 (w.heap.size + 1) r
  nf : ∀ q, w.heap.size ≤ q → ¬ a'.foot b q
  nl : ∀ p, a'.la = some p → w.heap.size + 2 ≤ p.block
  at' : r.At w4
  off : r.Off (a'.foot b)
  same : a'.foot b = a.foot b
theorem Out.nr {b : Nat} {d : Rd} {a : Ra} {k : Nat} {r : Rq} {a' : Ra} {w w4 : World} (_h : Out b d a k r a' w w4) (hd : RdAt b d a w) (q : Nat) (hq : w.heap.size ≤ q) : ∀ x ∈ d.busy.eraseIdx k, x.Off (fun j => j = q) := fun x hx =>
  off_of (hd.lrow.2.1 x (List.mem_of_mem_eraseIdx hx)) (fun j e => by omega)
/-- The head of End: till the request is out. -/
theorem ended_out {b : Nat} {d : Rd} {a : Ra} {w w2 w3 : World} {k : Nat} (hk : k < d.busy.length) (h : RdAt b d a w) (hb : Below w.heap.size w w2) (hz : ZeroAt w2 w.heap.size) (hx : BoxAt w2 (w.heap.size + 1) d.busy[k]) (hs : w.heap.size + 2 ≤ w2.heap.size) {x : Option Addr} {c : Nat} (hb3 : Below w2.heap.size w2 w3) (hN : NewL w2.heap.size w3 x c (d.busy.eraseIdx k)) :
    Out b d a k d.busy[k] { a with la := x, lc := c } w (w3.setCell ⟨b, 65, none⟩ (.slice x (d.busy.eraseIdx k).length c)) := by
  have hl := h.lt
  have hst := h.busied (bthen hb hb3) (d.busy.eraseIdx k) (by have := h.blen; rw [List.length_eraseIdx]; split <;> omega) x c hN.here hN.nil hN.cap (fun _ p hp => by have := hN.new p hp; omega) (fun r hr => ⟨h.lrow.2.1 r (List.mem_of_mem_eraseIdx hr), h.reqs r (List.mem_of_mem_eraseIdx hr)⟩)
  have hO : Only (fun j => j = b) w3 (w3.setCell ⟨b, 65, none⟩ (.slice x (d.busy.eraseIdx k).length c)) := Only.of_set _
  have hm := List.getElem_mem hk
  exact {
    step := hst
    zero := (hz.only (F := fun _ => False) (Only.of_below hb3) (fun e => e)).only hO (by omega)
    box := (hx.later hb3).only hO (by omega)
    nf := fun q hq e => by have := h.footLt q e; omega
    nl := fun p hp => by have := hN.new p hp; omega
    at' := (h.lrow.2.1 _ hm).frame (h.reqs _ hm) hst.only
    off := h.reqs _ hm
    same := rfl }
theorem RdAt.lplace {b : Nat} {d : Rd} {a : Ra} {w : World} (h : RdAt b d a w) {k : Nat} (hk : k < d.busy.length) : ∃ g o, a.la = some ⟨g, o, none⟩ ∧ w.cell? ⟨g, o + k * 6, none⟩ = some (.bool d.busy[k].wr) ∧ w.cell? ⟨g, o + k * 6 + 1, none⟩ = some (.int .i64 d.busy[k].f) ∧ w.cell? ⟨g, o + k * 6 + 2, none⟩ = some (.int .i64 d.busy[k].m) ∧
      w.cell? ⟨g, o + k * 6 + 3, none⟩ = some (.slice d.busy[k].da d.busy[k].data.length d.busy[k].dc) ∧ w.cell? ⟨g, o + k * 6 + 4, none⟩ = some (.slice d.busy[k].ta d.busy[k].tags.length d.busy[k].tc) ∧ w.cell? ⟨g, o + k * 6 + 5, none⟩ = some (.int .i64 d.busy[k].born) := by
  have hl := h.lrow
  rcases hl.form with e | ⟨g, o, e⟩
  · rw [e] at hk; exact absurd hk (Nat.not_lt_zero _)
  · rw [e] at hl
    exact ⟨g, o, e, hl.cells hk⟩
set_option maxRecDepth 100000 in
set_option maxHeartbeats 2000000 in
theorem rend_fault (b : Nat) (d : Rd) (a : Ra) (k : Nat) (hk : k < d.busy.length) (w : World) (h : RdAt b d a w) :
    Calls Try.prog 17 #[.pointer (some ⟨b, 0, none⟩), .int .i64 k, .bool true] w fun e w' => ∃ a', e = .returned (.tuple #[resV d.busy[k] none 0 0 8, .int .i64 0]) ∧ a'.wa = a.wa ∧ RStep b d a { d with busy := d.busy.eraseIdx k } a' w w' := by
  have hl := h.lt; have HD := hidT h; have h0 : ¬ (k : Int) < 0 := (by omega); have h1 : ¬ (d.busy.length : Int) ≤ (k : Int) := (by omega); have h2 : (k : Int) < (d.busy.length : Int) := (by omega); have hk2 : (k : Int) ≤ 1 := (by have := h.blen; omega); have c := h.c65; obtain ⟨g, o, hg0, r0, r1, r2, r3, r4, r5⟩ := h.lplace hk; have hR := h.lrow; have hcap := h.lcap; rw [hg0] at c hR; have HR := hidT (⟨hR, hcap⟩ : _ ∧ _); have lg := lt_of_cell r0; have HBL := hidT h.blen; clear h hR hcap hg0; generalize hr : d.busy[k] = r at *; have HRR := hidT hr; clear hr; go_enter Try.func17, Try.ntmps17; go_wp2_with fail; have hB2 := below2 w (.cells #[.bool false, .int .i64 0, .int .i64 0, .slice none 0 0, .slice none 0 0, .int .i64 0, .slice none 0 0, .int .i64 0] 49) (.cells #[.bool r.wr, .int .i64 r.f, .int .i64 r.m, .slice r.da r.data.length r.dc, .slice r.ta r.tags.length r.tc, .int .i64 r.born] 38); refine (rwithout_any d.busy g o a.lc k _ (HR.out.1.later hB2) (by have := HBL.out; omega) HR.out.2 hk).mono ?_; rintro e w3 ⟨xa, xc, rfl, hN, hb3⟩; have hz2 := (zero_new w 49).only (F := fun _ => False) ((Only.refl _ _).alloc (.cells #[.bool r.wr, .int .i64 r.f, .int .i64 r.m, .slice r.da r.data.length r.dc, .slice r.ta r.tags.length r.tc, .int .i64 r.born] 38)) (fun e => e); have hx2 := box_new (w.alloc (.cells #[.bool false, .int .i64 0, .int .i64 0, .slice none 0 0, .slice none 0 0, .int .i64 0, .slice none 0 0, .int .i64 0] 49)) 38 r; rw [World.size_alloc] at hx2; have hO := ended_out hk HD.out hB2 hz2 (by rw [HRR.out]; exact hx2) (by simp) hb3 hN; rw [HRR.out] at hO; have c3 := (HD.out.later (bthen hB2 hb3)).c65; have f3 := (HD.out.later (bthen hB2 hb3)).fz 65; have l3 := (HD.out.later (bthen hB2 hb3)).lt; have HO := hidT hO; clear hz2 hx2 hO hN hb3 hB2 r0 r1 r2 r3 r4 r5 c lg; obtain ⟨x0, x1, x2, x3, x4, x5⟩ := id HO.out.box; generalize hW : w3.setCell ⟨b, 65, none⟩ (.slice xa (d.busy.eraseIdx k).length xc) = w4 at *
  go_wp2_with (refine wpList_store_res rfl (.tmp 6) (.tmp 42) rfl w.heap.size r none 0 0 8 rfl rfl (zero_there HO.out.zero) (fun wK => RStep b d a { d with busy := d.busy.eraseIdx k } { a with la := xa, lc := xc } w wK ∧ ResBoxF wK w.heap.size r none 0 0 8) ⟨HO.out.step.other (set8_only _ w.heap.size _ _ _ _ _ _ _ _) (Nat.le_refl _) (HO.out.nf _ (Nat.le_refl _)) (fun _ p hp => by have := HO.out.nl p hp; omega) (HO.out.nr HD.out _ (Nat.le_refl _)), set8_res (zero_there HO.out.zero) HO.out.zero.2.2⟩ ?_; rintro w5 ⟨hs5, ⟨z0, z1, z2, z3, z4, z5, z6, z7⟩, -, -⟩; have HS5 := hidT hs5; clear hs5)
  exact bodyPost_ret (v := .tuple #[resV r none 0 0 8, .int .i64 0]) (by simp [results, Try.results17, go_sem, z0, z1, z2, z3, z4, z5, z6, z7]) rfl ⟨{ a with la := xa, lc := xc }, rfl, rfl, HS5.out⟩
end Go.Proofs.Ythmeaclekedilac
/- The document's device: End of a request that writes. -/
namespace Go.Proofs.Ythmeaclekedilac
open Go.RowKit Go.BigFrame
attribute [local go_sem] Later.cell Later.frozen

theorem wantsR (r : Rq) (g : Good r) : ∃ F M : Nat, r.f = F ∧ r.m = M ∧ F + M ≤ 32 ∧ 1 ≤ M ∧ M ≤ 4 ∧ r.f.toNat = F ∧ r.m.toNat = M := by
  have h1 := g.ok
  simp only [okB, decide_eq_true_eq] at h1
  exact ⟨r.f.toNat, r.m.toNat, by omega, by omega, by omega, by omega, by omega, rfl, rfl⟩
theorem infoP : (Try.prog.info? 108).map (fun i => (i.zero, i.size, i.bytes)) = some (some (.agg #[.int .i64 0, .string ByteArray.empty]), 2, 24) := by kernel_rfl
/-- What the loop of End reads, till it stores. -/
def LS (w : World) (q b j : Nat) (v : Value) (da : Option Addr) (n dc db o : Nat) (s : ByteArray) : Prop := w.cell? ⟨q, 3, none⟩ = some (.slice da n dc) ∧ w.cell? ⟨db, o, none⟩ = some (.string s) ∧ b < w.heap.size ∧ w.cell? ⟨b, j, none⟩ = some v ∧ w.frozen? ⟨b, j, none⟩ = false
theorem LS.later {w w' : World} {q b j : Nat} {v : Value} {da : Option Addr} {n dc db o : Nat} {s : ByteArray} (h : LS w q b j v da n dc db o s) (hb : Below w.heap.size w w') : LS w' q b j v da n dc db o s :=
  ⟨cellA_later hb h.1, cellA_later hb h.2.1, Nat.lt_of_lt_of_le h.2.2.1 hb.size, cellA_later hb h.2.2.2.1, by rw [hb.frozen (p := ⟨b, j, none⟩) h.2.2.1]; exact h.2.2.2.2⟩
theorem RdAt.now1 {b : Nat} {d : Rd} {a : Ra} {w : World} (h : RdAt b d a w) {p : Nat} (hp : p < 32) : w.cell? ⟨b, 32 + p, none⟩ = some (.string (d.now.getD p ByteArray.empty)) ∧ w.frozen? ⟨b, 32 + p, none⟩ = false := ⟨h.cNow p hp, h.fz _⟩
set_option linter.unusedSimpArgs false in
set_option maxRecDepth 100000 in
set_option maxHeartbeats 4000000 in
theorem rend_write (b : Nat) (d : Rd) (a : Ra) (k : Nat) (hk : k < d.busy.length) (w : World) (h : RdAt b d a w) (gr : Good d.busy[k]) (hw : d.busy[k].wr = true) (hW4 : d.waits.length ≤ 1000000) :
    Calls Try.prog 17 #[.pointer (some ⟨b, 0, none⟩), .int .i64 k, .bool false] w fun e w' => ∃ a', e = .returned (.tuple #[resV d.busy[k] none 0 0 0, .int .i64 0]) ∧ RStep b d a (({ d with busy := d.busy.eraseIdx k } : Rd).writesTo d.busy[k] d.busy[k].m.toNat) a' w w' := by
  have hdl : (d.busy[k].data.length : Int) = d.busy[k].m := by
    have := gr.shape
    simp only [shapeB, hw, if_true, decide_eq_true_eq] at this
    exact this
  have HW := hidT hw
  have HDL := hidT hdl
  have HWN := hidT (wantsR _ gr)
  clear hw gr hdl
  have hl := h.lt; have HD := hidT h; have h0 : ¬ (k : Int) < 0 := (by omega); have h1 : ¬ (d.busy.length : Int) ≤ (k : Int) := (by omega); have h2 : (k : Int) < (d.busy.length : Int) := (by omega); have hk2 : (k : Int) ≤ 1 := (by have := h.blen; omega); have c := h.c65; obtain ⟨g, o, hg0, r0, r1, r2, r3, r4, r5⟩ := h.lplace hk; have hR := h.lrow; have hcap := h.lcap; rw [hg0] at c hR; have HR := hidT (⟨hR, hcap⟩ : _ ∧ _); have lg := lt_of_cell r0; have HBL := hidT h.blen; clear h hR hcap hg0; generalize hr : d.busy[k] = r at *; have HRR := hidT hr; clear hr; go_enter Try.func17, Try.ntmps17; go_wp2_with fail; have hB2 := below2 w (.cells #[.bool false, .int .i64 0, .int .i64 0, .slice none 0 0, .slice none 0 0, .int .i64 0, .slice none 0 0, .int .i64 0] 49) (.cells #[.bool r.wr, .int .i64 r.f, .int .i64 r.m, .slice r.da r.data.length r.dc, .slice r.ta r.tags.length r.tc, .int .i64 r.born] 38); refine (rwithout_any d.busy g o a.lc k _ (HR.out.1.later hB2) (by have := HBL.out; omega) HR.out.2 hk).mono ?_; rintro e w3 ⟨xa, xc, rfl, hN, hb3⟩; have hz2 := (zero_new w 49).only (F := fun _ => False) ((Only.refl _ _).alloc (.cells #[.bool r.wr, .int .i64 r.f, .int .i64 r.m, .slice r.da r.data.length r.dc, .slice r.ta r.tags.length r.tc, .int .i64 r.born] 38)) (fun e => e); have hx2 := box_new (w.alloc (.cells #[.bool false, .int .i64 0, .int .i64 0, .slice none 0 0, .slice none 0 0, .int .i64 0, .slice none 0 0, .int .i64 0] 49)) 38 r; rw [World.size_alloc] at hx2; have hO := ended_out hk HD.out hB2 hz2 (by rw [HRR.out]; exact hx2) (by simp) hb3 hN; rw [HRR.out] at hO; have c3 := (HD.out.later (bthen hB2 hb3)).c65; have f3 := (HD.out.later (bthen hB2 hb3)).fz 65; have l3 := (HD.out.later (bthen hB2 hb3)).lt; have HO := hidT hO; clear hz2 hx2 hO hN hb3 hB2 r0 r1 r2 r3 r4 r5 c lg; obtain ⟨x0, x1, x2, x3, x4, x5⟩ := id HO.out.box; generalize hW : w3.setCell ⟨b, 65, none⟩ (.slice xa (d.busy.eraseIdx k).length xc) = w4 at *
  have HX4 := hidT (id HO.out.box)
  have hz9 := hidT (zero_new w4 49)
  go_wp2_with (refine wpList_store_res rfl (.tmp 9) (.tmp 44) rfl w4.heap.size r none 0 0 0 rfl rfl (zero_there hz9.out) (fun wK => Below w4.heap.size w4 wK ∧ ResBoxF wK w4.heap.size r none 0 0 0) ⟨((below1 w4 _)).trans ((set8_only _ w4.heap.size _ _ _ _ _ _ _ _).below (by simp) (fun i e => by omega)), set8_res (zero_there hz9.out) hz9.out.2.2⟩ ?_; rintro w5 ⟨hb5, hr5⟩; have HB5 := hidT hb5; have HR5 := hidT hr5; clear hb5 hr5)
  obtain ⟨F, M, hF, hM, hFM, hM1, hM4, tF, tM⟩ := HWN.out
  have hD5 := HO.out.step.later HB5.out
  have HD5 := hidT hD5
  have hq1 : w.heap.size + 1 < w4.heap.size := lt_of_cell x0
  have hx5 := HX4.out.later HB5.out
  have HX5 := hidT hx5
  have HZ5 := hidT (HO.out.zero.only (F := fun _ => False) (Only.of_below HB5.out) (fun e => e))
  have HAT5 := hidT (HO.out.at'.later HB5.out)
  have hs5 : w4.heap.size < w5.heap.size := HR5.out.2.2
  obtain ⟨d1, hd1⟩ : ∃ d1 : Rd, d1 = { d with busy := d.busy.eraseIdx k } := ⟨_, rfl⟩
  obtain ⟨a1, ha1⟩ : ∃ a1 : Ra, a1 = { a with la := xa, lc := xc } := ⟨_, rfl⟩
  rw [← hd1, ← ha1] at HD5
  have hO2 := HO.out
  rw [← ha1] at hO2
  have HO2 := hidT hO2
  have hwl : d1.waits.length ≤ 1000000 := by rw [hd1]; exact hW4
  have HD1 := hidT hd1
  have HA1 := hidT ha1
  have HQ := hidT (⟨hF, hM, tF, tM⟩ : _ ∧ _ ∧ _ ∧ _)
  clear hd1 ha1 hO2 x0 x1 x2 x3 x4 x5 hD5 hx5 hF hM tF tM HO hW c3 f3 l3 hz9
  go_loopw [10] (fun i wr => ∃ (j : Nat) (a' : Ra), j ≤ M ∧ i = .int .i64 j ∧ (d1.writesTo r j).waits.length = d1.waits.length + j ∧ a'.la = a1.la ∧ RStep b d1 a1 (d1.writesTo r j) a' w5 wr) (fun i _ => M - (intOf i).toNat)
  case atStart => exact ⟨0, a1, by omega, rfl, rfl, rfl, RStep.same HD5.out.dev (Below.refl _ _)⟩
  case round =>
    obtain ⟨j, a', hj, rfl, hwj, hla, hs⟩ := hrel
    have HLA := hidT hla
    have HS2 := hidT hs
    have HWJ := hidT hwj
    have hbx := HX5.out.only hs.only (fun e => by have := HO2.out.nf (w.heap.size + 1) (by omega); exact this e)
    have lb := hs.dev.lt
    have HBX := hidT hbx
    obtain ⟨x0, x1, x2, x3, x4, x5⟩ := hbx
    rw [HW.out] at x0
    rw [HQ.out.1] at x1
    rw [HQ.out.2.1] at x2
    have l1 := lt_of_cell x0
    clear hs hwj hla
    by_cases hlt : j < M
    · have hlt' : (j : Int) < (M : Int) := by omega
      have hjd : j < r.data.length := by have := HDL.out; have := HQ.out.2.1; omega
      have hjd' : (j : Int) < (r.data.length : Int) := by omega
      have hj0 : (0 : Int) ≤ (j : Int) := by omega
      obtain ⟨P, hP⟩ : ∃ P : Nat, P = F + j := ⟨_, rfl⟩
      have hPi : (F : Int) + (j : Int) = (P : Int) := by omega
      have hP32 : P < 32 := by omega
      have hP32' : (P : Int) < 32 := by omega
      have hP0 : (0 : Int) ≤ (P : Int) := by omega
      have hat := HAT5.out.frame HO2.out.off HS2.out.only
      obtain ⟨db, do', hda, hdc⟩ : ∃ db do', r.da = some ⟨db, do', none⟩ ∧ wr.cell? ⟨db, do' + j, none⟩ = some (.string (r.data.getD j ByteArray.empty)) := by
        rcases hat.data with h | ⟨db, o, h, hc⟩
        · rw [h] at hjd; exact absurd hjd (Nat.not_lt_zero _)
        · exact ⟨db, o, h, hc j hjd⟩
      have HAT := hidT hat
      obtain ⟨s, hs'⟩ : ∃ s, s = r.data.getD j ByteArray.empty := ⟨_, rfl⟩
      have HSS := hidT hs'
      rw [← hs'] at hdc
      rw [hda] at x3
      obtain ⟨n1, n2⟩ := HS2.out.dev.now1 hP32
      obtain ⟨old, hold⟩ : ∃ old, (d1.writesTo r j).now.getD P ByteArray.empty = old := ⟨_, rfl⟩
      rw [hold] at n1
      have HPF := hidT hP
      have HDA := hidT hda
      have ldb := lt_of_cell hdc
      clear hat hs' hold hP hda
      have HS : Hid (LS wr.drew (w.heap.size + 1) b (32 + P) (.string old) (some ⟨db, do', none⟩) r.data.length r.dc db (do' + j) s) := ⟨x3, hdc, lb, n1, n2⟩
      go_wp2_with fail
      refine region_till (S := fun wz => LS wz (w.heap.size + 1) b (32 + P) (.string old) (some ⟨db, do', none⟩) r.data.length r.dc db (do' + j) s) (d := 10) (by kernel_rfl) ?_
      refine till_take (i := 0) (v := ?_) rfl (by kernel_rfl) (by kernel_rfl) (by kernel_rfl) (by kernel_rfl) (fun _ _ _ h => h) (Or.inl ⟨by rfl, ?_⟩) HS.out ?_; rotate_left; (focus (intro w0 hSw; obtain ⟨s0, s1, s2, s3, s4⟩ := hSw; go_simp; (try with_reducible rfl))); (try simp only [Act.put, List.getElem_toArray, List.getElem_cons_succ, List.getElem_cons_zero, List.setIfInBounds_toArray, List.set_cons_zero, List.set_cons_succ])
      refine till_take (i := 1) (v := ?_) rfl (by kernel_rfl) (by kernel_rfl) (by kernel_rfl) (by kernel_rfl) (fun _ _ _ h => h) (Or.inl ⟨by rfl, ?_⟩) HS.out ?_; rotate_left; (focus (intro w0 hSw; obtain ⟨s0, s1, s2, s3, s4⟩ := hSw; go_simp; (try with_reducible rfl))); (try simp only [Act.put, List.getElem_toArray, List.getElem_cons_succ, List.getElem_cons_zero, List.setIfInBounds_toArray, List.set_cons_zero, List.set_cons_succ])
      refine till_take (i := 2) (v := ?_) rfl (by kernel_rfl) (by kernel_rfl) (by kernel_rfl) (by kernel_rfl) (fun _ _ _ h => h) (Or.inl ⟨by rfl, ?_⟩) HS.out ?_; rotate_left; (focus (intro w0 hSw; obtain ⟨s0, s1, s2, s3, s4⟩ := hSw; go_simp; (try with_reducible rfl))); (try simp only [Act.put, List.getElem_toArray, List.getElem_cons_succ, List.getElem_cons_zero, List.setIfInBounds_toArray, List.set_cons_zero, List.set_cons_succ])
      refine till_take (i := 3) (v := ?_) rfl (by kernel_rfl) (by kernel_rfl) (by kernel_rfl) (by kernel_rfl) (fun _ _ _ h => h) (Or.inl ⟨by rfl, ?_⟩) HS.out ?_; rotate_left; (focus (intro w0 hSw; obtain ⟨s0, s1, s2, s3, s4⟩ := hSw; go_simp; (try with_reducible rfl))); (try simp only [Act.put, List.getElem_toArray, List.getElem_cons_succ, List.getElem_cons_zero, List.setIfInBounds_toArray, List.set_cons_zero, List.set_cons_succ])
      refine till_take (i := 4) (v := ?_) rfl (by kernel_rfl) (by kernel_rfl) (by kernel_rfl) (by kernel_rfl) (fun _ _ _ h => h) (Or.inl ⟨by rfl, ?_⟩) HS.out ?_; rotate_left; (focus (intro w0 hSw; obtain ⟨s0, s1, s2, s3, s4⟩ := hSw; go_simp; (try with_reducible rfl))); (try simp only [Act.put, List.getElem_toArray, List.getElem_cons_succ, List.getElem_cons_zero, List.setIfInBounds_toArray, List.set_cons_zero, List.set_cons_succ])
      refine till_take (i := 5) (v := ?_) rfl (by kernel_rfl) (by kernel_rfl) (by kernel_rfl) (by kernel_rfl) (fun _ _ _ h => h) (Or.inl ⟨by rfl, ?_⟩) HS.out ?_; rotate_left; (focus (intro w0 hSw; obtain ⟨s0, s1, s2, s3, s4⟩ := hSw; go_simp; (try with_reducible rfl))); (try simp only [Act.put, List.getElem_toArray, List.getElem_cons_succ, List.getElem_cons_zero, List.setIfInBounds_toArray, List.set_cons_zero, List.set_cons_succ])
      refine till_take (i := 6) (v := ?_) rfl (by kernel_rfl) (by kernel_rfl) (by kernel_rfl) (by kernel_rfl) (fun _ _ _ h => h) (Or.inl ⟨by rfl, ?_⟩) HS.out ?_; rotate_left; (focus (intro w0 hSw; obtain ⟨s0, s1, s2, s3, s4⟩ := hSw; go_simp; (try with_reducible rfl))); (try simp only [Act.put, List.getElem_toArray, List.getElem_cons_succ, List.getElem_cons_zero, List.setIfInBounds_toArray, List.set_cons_zero, List.set_cons_succ])
      refine till_one (i := 7) rfl (by kernel_rfl) ?_; intro K hK; go_simp; refine hK _ _ (fun _ => HS.out) ?_; (try simp only [Act.put, List.getElem_toArray, List.getElem_cons_succ, List.getElem_cons_zero, List.setIfInBounds_toArray, List.set_cons_zero, List.set_cons_succ]); clear hK
      refine till_one (i := 8) rfl (by kernel_rfl) ?_; intro K hK; go_simp; refine hK _ _ (fun _ => HS.out) ?_; (try simp only [Act.put, List.getElem_toArray, List.getElem_cons_succ, List.getElem_cons_zero, List.setIfInBounds_toArray, List.set_cons_zero, List.set_cons_succ]); clear hK
      refine till_one (i := 9) rfl (by kernel_rfl) ?_; intro K hK; go_simp; refine hK _ _ (fun _ => HS.out) ?_; (try simp only [Act.put, List.getElem_toArray, List.getElem_cons_succ, List.getElem_cons_zero, List.setIfInBounds_toArray, List.set_cons_zero, List.set_cons_succ]); clear hK
      refine till_one (i := 10) rfl (by kernel_rfl) ?_; intro K hK; go_simp; refine hK _ _ (fun h => absurd rfl h) ?_; (try simp only [Act.put, List.getElem_toArray, List.getElem_cons_succ, List.getElem_cons_zero, List.setIfInBounds_toArray, List.set_cons_zero, List.set_cons_succ]); clear hK; refine till_done (by kernel_rfl) ?_ _
      go_wp2_with fail
      have hs6 := (HS2.out.trans (HS2.out.dev.setNow1 hP32 s)).drewAt
      refine wp_worldD (fun wK => RStep b d1 a1 { d1.writesTo r j with now := (d1.writesTo r j).now.set P s } a' w5 wK) hs6 ?_
      clear hs6 HS n1 n2 x0 x1 x2 x3 x4 x5 hdc lb l1 ldb HAT HBX
      intro w6 hs6
      have HS6 := hidT hs6
      have hbx := HX5.out.only hs6.only (fun e => by have := HO2.out.nf (w.heap.size + 1) (by omega); exact this e)
      have lb := hs6.dev.lt
      obtain ⟨x0, x1, x2, x3, x4, x5⟩ := hbx
      rw [HDA.out] at x3
      have hat := HAT5.out.frame HO2.out.off hs6.only
      have hdc : w6.cell? ⟨db, do' + j, none⟩ = some (.string s) := by
        rcases hat.data with h | ⟨db2, o2, h, hc⟩
        · rw [h] at hjd; exact absurd hjd (Nat.not_lt_zero _)
        · rw [HDA.out] at h
          simp only [Option.some.injEq, Addr.mk.injEq, and_true] at h
          obtain ⟨rfl, rfl⟩ := h
          rw [HSS.out]; exact hc j hjd
      have c64 := hs6.dev.c64
      have f64 := hs6.dev.fz 64
      have hfin := hs6.dev.wfin
      have hwr6 := hidT hs6.dev.wrow
      have hwn := HWJ.out
      simp only at c64 hfin hwr6
      have HFIN := hidT hfin
      generalize hN : (d1.writesTo r j).waits = W at *
      have HN := hidT hN
      obtain ⟨iP, hi, hz0, hz1, hz2⟩ := pluck infoP
      have HI := hidT (⟨hi, hz0, hz1, hz2⟩ : Try.prog.info? 108 = some iP ∧ _ ∧ _ ∧ _)
      have hWb : W.length ≤ 1000010 := by omega
      have HWB := hidT hWb
      have HS : Hid (LS w6.drew (w.heap.size + 1) b 64 (.slice a'.wa W.length a'.wc) (some ⟨db, do', none⟩) r.data.length r.dc db (do' + j) s) := ⟨x3, hdc, lb, c64, f64⟩
      clear hs6 hat hfin hwn hN hi hz0 hz1 hz2 hWb
      refine region_till (S := fun wz => LS wz (w.heap.size + 1) b 64 (.slice a'.wa W.length a'.wc) (some ⟨db, do', none⟩) r.data.length r.dc db (do' + j) s) (d := 16) (by kernel_rfl) ?_
      refine till_take (i := 0) (v := ?_) rfl (by kernel_rfl) (by kernel_rfl) (by kernel_rfl) (by kernel_rfl) (fun _ _ _ h => h) (Or.inl ⟨by rfl, ?_⟩) HS.out ?_; rotate_left; (focus (intro w0 hSw; obtain ⟨s0, s1, s2, s3, s4⟩ := hSw; go_simp; (try with_reducible rfl))); (try simp only [Act.put, List.getElem_toArray, List.getElem_cons_succ, List.getElem_cons_zero, List.setIfInBounds_toArray, List.set_cons_zero, List.set_cons_succ])
      refine till_take (i := 1) (v := ?_) rfl (by kernel_rfl) (by kernel_rfl) (by kernel_rfl) (by kernel_rfl) (fun _ _ _ h => h) (Or.inl ⟨by rfl, ?_⟩) HS.out ?_; rotate_left; (focus (intro w0 hSw; obtain ⟨s0, s1, s2, s3, s4⟩ := hSw; go_simp; (try with_reducible rfl))); (try simp only [Act.put, List.getElem_toArray, List.getElem_cons_succ, List.getElem_cons_zero, List.setIfInBounds_toArray, List.set_cons_zero, List.set_cons_succ])
      refine till_take (i := 2) (v := ?_) rfl (by kernel_rfl) (by kernel_rfl) (by kernel_rfl) (by kernel_rfl) (fun _ _ _ h => h) (Or.inl ⟨by rfl, ?_⟩) HS.out ?_; rotate_left; (focus (intro w0 hSw; obtain ⟨s0, s1, s2, s3, s4⟩ := hSw; go_simp; (try with_reducible rfl))); (try simp only [Act.put, List.getElem_toArray, List.getElem_cons_succ, List.getElem_cons_zero, List.setIfInBounds_toArray, List.set_cons_zero, List.set_cons_succ])
      refine till_take (i := 3) (v := ?_) rfl (by kernel_rfl) (by kernel_rfl) (by kernel_rfl) (by kernel_rfl) (fun _ _ _ h => h) (Or.inl ⟨by rfl, ?_⟩) HS.out ?_; rotate_left; (focus (intro w0 hSw; obtain ⟨s0, s1, s2, s3, s4⟩ := hSw; go_simp; (try with_reducible rfl))); (try simp only [Act.put, List.getElem_toArray, List.getElem_cons_succ, List.getElem_cons_zero, List.setIfInBounds_toArray, List.set_cons_zero, List.set_cons_succ])
      refine till_take (i := 4) (v := ?_) rfl (by kernel_rfl) (by kernel_rfl) (by kernel_rfl) (by kernel_rfl) (fun _ _ _ h => h) (Or.inl ⟨by rfl, ?_⟩) HS.out ?_; rotate_left; (focus (intro w0 hSw; obtain ⟨s0, s1, s2, s3, s4⟩ := hSw; go_simp; (try with_reducible rfl))); (try simp only [Act.put, List.getElem_toArray, List.getElem_cons_succ, List.getElem_cons_zero, List.setIfInBounds_toArray, List.set_cons_zero, List.set_cons_succ])
      refine till_take (i := 5) (v := ?_) rfl (by kernel_rfl) (by kernel_rfl) (by kernel_rfl) (by kernel_rfl) (fun _ _ _ h => h) (Or.inl ⟨by rfl, ?_⟩) HS.out ?_; rotate_left; (focus (intro w0 hSw; obtain ⟨s0, s1, s2, s3, s4⟩ := hSw; go_simp; (try with_reducible rfl))); (try simp only [Act.put, List.getElem_toArray, List.getElem_cons_succ, List.getElem_cons_zero, List.setIfInBounds_toArray, List.set_cons_zero, List.set_cons_succ])
      refine till_take (i := 6) (v := ?_) rfl (by kernel_rfl) (by kernel_rfl) (by kernel_rfl) (by kernel_rfl) (fun _ _ _ h => h) (Or.inl ⟨by rfl, ?_⟩) HS.out ?_; rotate_left; (focus (intro w0 hSw; obtain ⟨s0, s1, s2, s3, s4⟩ := hSw; go_simp; (try with_reducible rfl))); (try simp only [Act.put, List.getElem_toArray, List.getElem_cons_succ, List.getElem_cons_zero, List.setIfInBounds_toArray, List.set_cons_zero, List.set_cons_succ])
      refine till_take (i := 7) (v := ?_) rfl (by kernel_rfl) (by kernel_rfl) (by kernel_rfl) (by kernel_rfl) (fun _ _ _ h => h) (Or.inl ⟨by rfl, ?_⟩) HS.out ?_; rotate_left; (focus (intro w0 hSw; obtain ⟨s0, s1, s2, s3, s4⟩ := hSw; go_simp; (try with_reducible rfl))); (try simp only [Act.put, List.getElem_toArray, List.getElem_cons_succ, List.getElem_cons_zero, List.setIfInBounds_toArray, List.set_cons_zero, List.set_cons_succ])
      refine till_take (i := 8) (v := ?_) rfl (by kernel_rfl) (by kernel_rfl) (by kernel_rfl) (by kernel_rfl) (fun _ _ _ h => h) (Or.inl ⟨by rfl, ?_⟩) HS.out ?_; rotate_left; (focus (intro w0 hSw; obtain ⟨s0, s1, s2, s3, s4⟩ := hSw; go_simp; (try with_reducible rfl))); (try simp only [Act.put, List.getElem_toArray, List.getElem_cons_succ, List.getElem_cons_zero, List.setIfInBounds_toArray, List.set_cons_zero, List.set_cons_succ])
      refine till_take (i := 9) (v := ?_) rfl (by kernel_rfl) (by kernel_rfl) (by kernel_rfl) (by kernel_rfl) (fun _ _ _ h => h) (Or.inl ⟨by rfl, ?_⟩) HS.out ?_; rotate_left; (focus (intro w0 hSw; obtain ⟨s0, s1, s2, s3, s4⟩ := hSw; go_simp; (try with_reducible rfl))); (try simp only [Act.put, List.getElem_toArray, List.getElem_cons_succ, List.getElem_cons_zero, List.setIfInBounds_toArray, List.set_cons_zero, List.set_cons_succ])
      refine till_take (i := 10) (v := ?_) rfl (by kernel_rfl) (by kernel_rfl) (by kernel_rfl) (by kernel_rfl) (fun _ _ _ h => h) (Or.inl ⟨by rfl, ?_⟩) HS.out ?_; rotate_left; (focus (intro w0 hSw; obtain ⟨s0, s1, s2, s3, s4⟩ := hSw; go_simp; (try with_reducible rfl))); (try simp only [Act.put, List.getElem_toArray, List.getElem_cons_succ, List.getElem_cons_zero, List.setIfInBounds_toArray, List.set_cons_zero, List.set_cons_succ])
      refine till_take (i := 11) (v := ?_) rfl (by kernel_rfl) (by kernel_rfl) (by kernel_rfl) (by kernel_rfl) (fun _ _ _ h => h) (Or.inl ⟨by rfl, ?_⟩) HS.out ?_; rotate_left; (focus (intro w0 hSw; obtain ⟨s0, s1, s2, s3, s4⟩ := hSw; go_simp; (try with_reducible rfl))); (try simp only [Act.put, List.getElem_toArray, List.getElem_cons_succ, List.getElem_cons_zero, List.setIfInBounds_toArray, List.set_cons_zero, List.set_cons_succ])
      refine till_one (i := 12) rfl (by kernel_rfl) ?_; intro K hK; go_simp; refine hK _ _ (fun _ => HS.out.later (below1 _ _)) ?_; (try simp only [Act.put, List.getElem_toArray, List.getElem_cons_succ, List.getElem_cons_zero, List.setIfInBounds_toArray, List.set_cons_zero, List.set_cons_succ]); clear hK
      refine till_one (i := 13) rfl (by kernel_rfl) ?_
      intro K hK
      refine step_push rfl (.tmp 73) (.tmp 81) 29 rfl 0 108 iP _ 2 24 Try.underlying29 HI.out.1 HI.out.2.1 HI.out.2.2.1 HI.out.2.2.2 rfl (by decide) (.slice a'.wa W.length a'.wc) W.length (pcells W) rfl (ownD_later hwr6.out (by repeat (first | with_reducible exact Below.refl _ _ | with_reducible refine balloc ?_ _ | with_reducible refine bdrew ?_ | with_reducible refine bset' ?_ (by omega) _ | with_reducible refine bthen ?_ (by assumption)))) ⟨w6.heap.size, 0, none⟩ 1 1 [.int .i64 P, .string s] rfl rfl (fun i u hi => newRowAt rfl _ _ i u hi) (by simp [Value.oneCell']) (by omega) (by have := HWB.out; unfold maxLen; omega) (by have := HWB.out; omega) (Nat.zero_le _) ?_
      intro v7 w7 hown7 hg7 hv7
      have hO7 : Only (fun k => ∃ p, a'.wa = some p ∧ k = p.block) (w6.alloc (.cells #[.int .i64 P, .string s] 108)).drew w7 := ⟨hg7.os, hg7.tape, hg7.output, hg7.size, fun k hk hn => hg7.block k hk (fun e => hn (ownBlock_slice.1 e.symm))⟩
      obtain ⟨x7, c7, e7, hst7⟩ := HS6.out.dev.rewaits (w2 := (w6.alloc (.cells #[.int .i64 P, .string s] 108)).drew) (by repeat (first | with_reducible exact Below.refl _ _ | with_reducible refine balloc ?_ _ | with_reducible refine bdrew ?_ | with_reducible refine bset' ?_ (by omega) _ | with_reducible refine bthen ?_ (by assumption))) (W ++ [⟨P, s⟩]) (fun x hx => by rcases List.mem_append.1 hx with hx' | hx'; exact HFIN.out x hx'; (rw [List.mem_singleton.1 hx']; exact hP32)) (by rw [pcells_snoc, List.length_append]; exact hown7) hO7 (fun g hg => by
        rcases hv7 with hv | hv
        · rw [hv] at hg; exact Or.inl (ownBlock_slice.1 hg)
        · rw [hv] at hg; exact Or.inr (Nat.le_of_eq (Option.some.inj hg)))
      subst e7
      have HS8 := hidT (HS6.out.trans hst7)
      have l7 : LS w7 (w.heap.size + 1) b 64 (.slice a'.wa W.length a'.wc) (some ⟨db, do', none⟩) r.data.length r.dc db (do' + j) s := by
        have l6 := LS.later (w := w6) HS.out (w' := (w6.alloc (.cells #[.int .i64 P, .string s] 108)).drew) (by repeat (first | with_reducible exact Below.refl _ _ | with_reducible refine balloc ?_ _ | with_reducible refine bdrew ?_ | with_reducible refine bset' ?_ (by omega) _ | with_reducible refine bthen ?_ (by assumption)))
        have rOff : r.Off (a'.foot b) := Rq.Off.step HAT5.out HO2.out.off HS6.out.foot
        have hne : r.data ≠ [] := fun e => by rw [e] at hjd; exact absurd hjd (Nat.not_lt_zero _)
        have nq : ¬ ∃ p, a'.wa = some p ∧ w.heap.size + 1 = p.block := fun e => by
          rcases HS6.out.foot (w.heap.size + 1) (Or.inr e) with h' | h'
          · exact HO2.out.nf _ (by omega) h'
          · omega
        have nb : ¬ ∃ p, a'.wa = some p ∧ b = p.block := fun ⟨p, hp, e⟩ => HS6.out.dev.sepw p hp e.symm
        have nd : ¬ ∃ p, a'.wa = some p ∧ db = p.block := fun e => rOff.1 hne _ HDA.out (Or.inr e)
        exact ⟨(hO7.cell (p := ⟨w.heap.size + 1, 3, none⟩) (lt_of_cell l6.1) nq).trans l6.1, (hO7.cell (p := ⟨db, do' + j, none⟩) (lt_of_cell l6.2.1) nd).trans l6.2.1, Nat.lt_of_lt_of_le l6.2.2.1 hO7.size, (hO7.cell (p := ⟨b, 64, none⟩) l6.2.2.1 nb).trans l6.2.2.2.1, (hO7.frozen (p := ⟨b, 64, none⟩) l6.2.2.1 nb).trans l6.2.2.2.2⟩
      have HS7 := hidT l7
      clear hown7 hg7 hv7 hO7 hst7 l7
      refine hK _ _ (fun _ => HS7.out) ?_
      (try simp only [Act.put, List.getElem_toArray, List.getElem_cons_succ, List.getElem_cons_zero, List.setIfInBounds_toArray, List.set_cons_zero, List.set_cons_succ])
      clear hK
      refine till_one (i := 14) rfl (by kernel_rfl) ?_; intro K hK; go_simp; refine hK _ _ (fun _ => HS7.out) ?_; (try simp only [Act.put, List.getElem_toArray, List.getElem_cons_succ, List.getElem_cons_zero, List.setIfInBounds_toArray, List.set_cons_zero, List.set_cons_succ]); clear hK
      refine till_one (i := 15) rfl (by kernel_rfl) ?_; intro K hK; go_simp; refine hK _ _ (fun _ => HS7.out) ?_; (try simp only [Act.put, List.getElem_toArray, List.getElem_cons_succ, List.getElem_cons_zero, List.setIfInBounds_toArray, List.set_cons_zero, List.set_cons_succ]); clear hK
      obtain ⟨-, -, s2, s3, s4⟩ := id HS7.out
      refine till_one (i := 16) rfl (by kernel_rfl) ?_; intro K hK; go_simp; refine hK _ _ (fun h => absurd rfl h) ?_; (try simp only [Act.put, List.getElem_toArray, List.getElem_cons_succ, List.getElem_cons_zero, List.setIfInBounds_toArray, List.set_cons_zero, List.set_cons_succ]); clear hK; refine till_done (by kernel_rfl) ?_ _
      go_wp2
      go_roundw
      case rel =>
        have e1 : d1.writesTo r (j + 1) = { { d1.writesTo r j with now := (d1.writesTo r j).now.set P s } with waits := W ++ [⟨P, s⟩] } := by
          rw [Rd.writesTo_succ, HQ.out.2.2.1, ← HPF.out, ← HSS.out, ← HN.out]
          rfl
        refine ⟨j + 1, { a' with wa := x7, wc := c7 }, by omega, by go_num, ?_, HLA.out, ?_⟩
        · rw [e1]
          show (W ++ [(⟨P, s⟩ : Pu)]).length = _
          rw [List.length_append, List.length_singleton]
          have := HWJ.out
          omega
        · rw [e1]
          have := HS8.out
          rw [List.length_append, List.length_singleton] at this
          exact this
      case measure => simp [intOf]; omega
    · have hjM : j = M := by omega
      subst hjM
      have hre := HR5.out.only HS2.out.only (HO2.out.nf _ (by omega))
      have hze := HZ5.out.only HS2.out.only (HO2.out.nf _ (Nat.le_refl _))
      obtain ⟨⟨y0, y1, y2, y3, y4, y5, y6, y7⟩, -, yl⟩ := hre
      have HZE := hidT hze
      have hnf : ¬ a'.foot b w.heap.size := fun e => by
        rcases HS2.out.foot _ e with h' | h'
        · exact HO2.out.nf _ (Nat.le_refl _) h'
        · omega
      have HNF := hidT hnf
      have HSE := hidT (HD5.out.trans HS2.out)
      have HBY : Hid ((d1.writesTo r j).busy = d.busy.eraseIdx k) := by show _ = _; rw [Rd.writesTo_busy, HD1.out]
      clear hze x0 x1 x3 x4 x5 hnf
      go_wp2_with (refine wpList_store_res rfl (.tmp 6) (.tmp 96) rfl w.heap.size r none 0 0 0 rfl rfl (zero_there HZE.out) (fun wK => RStep b d a (d1.writesTo r j) a' w wK ∧ ResBoxF wK w.heap.size r none 0 0 0) ⟨HSE.out.other (set8_only _ w.heap.size _ _ _ _ _ _ _ _) (Nat.le_refl _) HNF.out (fun _ p hp => by rw [HLA.out] at hp; have := HO2.out.nl p hp; omega) (by rw [HBY.out]; exact HO2.out.nr HD.out _ (Nat.le_refl _)), set8_res (zero_there HZE.out) HZE.out.2.2⟩ ?_; rintro w9 ⟨hs9, ⟨z0, z1, z2, z3, z4, z5, z6, z7⟩, -, -⟩; have HS9 := hidT hs9; clear hs9)
      refine bodyPost_ret (v := .tuple #[resV r none 0 0 0, .int .i64 0]) (by simp [results, Try.results17, go_sem, z0, z1, z2, z3, z4, z5, z6, z7]) rfl ⟨a', rfl, ?_⟩
      rw [HQ.out.2.2.2, ← HD1.out]
      exact HS9.out
end Go.Proofs.Ythmeaclekedilac
