/- The document's device: without, Start, Flush. -/
import Derived.Test.YthmeaclekedilacRDev2
import Derived.Deep.RegionHeld3
namespace Go.Proofs.Ythmeaclekedilac
open Go.RowKit Go.BigFrame
attribute [local go_sem] Later.cell Later.frozen

/-- 'append(s, xs...)' onto a row of the call's own, as one step of a region that draws. -/
theorem step_rowD {P : Program} {ops : Array Oper} {o : Oper} {a : Act} {w : World} {K : Act → World → Prop} {Q : Exit → Act → World → Prop} {E : Prop}
    (hg : o.guard = none) (s x : Operand) (t : TypeId) (hop : o.op = Op.call { callee := Callee.builtin Builtin.append, args := #[s, x], argTypes := #[t, t] })
    (base : Nat) (e : TypeId) (i : TypeInfo) (z : Value) (size bytes : Nat) (ht : P.underlying t = some (.slice e)) (hi : P.info? e = some i) (hz : i.zero = some z)
    (hsize : i.size = size) (hby : i.bytes = bytes) (hzs : z.cells.size = size) (hsz : 0 < size)
    (v : Value) (n : Nat) (xs : List Value) (hs : a.eval s = v) (hown : w.ownsRow base e size v n xs)
    (ad : Option Addr) (m c : Nat) (news : List Value) (hx : a.eval x = .slice ad m c) (hrow : RowAt w size ad m c news)
    (h63 : n + m ≤ maxLen) (hbytes : (n + m) * bytes ≤ 140737488355328) (hbase : base ≤ w.heap.size)
    (h : ∀ v' w', w'.ownsRow base e size v' (n + m) (xs ++ news) → Below base w w' → K (a.put o.dst v') w') :
    if Region.wanted o (yielded ops a.tmps) = true then Oper.wp P o a w K Q else E := by
  have hw : Region.wanted o (yielded ops a.tmps) = true := by simp [Region.wanted, hg]
  rw [if_pos hw]
  obtain ⟨h1, h2, h3⟩ := hrow
  rcases h3 with ⟨rfl, rfl, rfl⟩ | ⟨ad', rfl, hc⟩
  · obtain rfl : news = [] := List.eq_nil_of_length_eq_zero (by rw [h1]; simp)
    have hr := run_append_owned_none (P := P) w base t o.type e i size ht hi v n xs hown
    unfold Oper.wp
    simp [execOp, hop, resolve, invoke, builtin, hs, hx, hr, Result.andThen]
    exact h v w (by simpa using hown) (Below.refl _ _)
  · obtain ⟨v', w', hrun, r1, r2, _⟩ := run_append_own (P := P) w base t o.type e i z size bytes ht hi hz hsize hby hzs hsz v n xs hown ad' m c news h1 hc h2 h63 hbytes hbase
    unfold Oper.wp
    simp [execOp, hop, resolve, invoke, builtin, hs, hx, hrun, Result.andThen]
    exact h v' w' r1 ((Below.refl _ _).grown r2 hbase fun k hk => (hown.lt k hk).1)
theorem ownD_later {w w' : World} {B e size n : Nat} {v : Value} {xs : List Value} (h : w.ownsRow B e size v n xs) (hb : Below w.heap.size w w') : w'.ownsRow B e size v n xs := own_frame h (fun g hg => hb.block g (h.lt g hg).2)

/-- A list of requests in new memory. -/
structure NewL (base : Nat) (w : World) (a : Option Addr) (c : Nat) (l : List Rq) : Prop where
  here : ReqsAt w a l
  nil : a = none → c = 0
  cap : l.length ≤ c
  new : ∀ p, a = some p → base ≤ p.block
theorem newL_of_owned {w : World} {base : Nat} {v : Value} {l : List Rq} {n : Nat} (h : w.ownsRow base 38 6 v n (rcells l)) (hat : ∀ r ∈ l, r.At w) (hn : n = l.length) (hb : l.length ≤ 9223372036854775807) : ∃ a c, v = .slice a l.length c ∧ NewL base w a c l := by
  obtain ⟨a, c, hv, h1, h2, _, h3, h4⟩ := reqs_of_owned h hat hn hb
  exact ⟨a, c, hv, h1, h3, h2, fun p hp => (h4 p hp).1⟩
theorem NewL.later {base : Nat} {w w' : World} {a : Option Addr} {c : Nat} {l : List Rq} (h : NewL base w a c l) (hb : Below w.heap.size w w') : NewL base w' a c l := ⟨h.here.later hb, h.nil, h.cap, h.new⟩
theorem erase_split (l : List Rq) (k : Nat) : l.eraseIdx k = l.take k ++ l.drop (k + 1) := List.eraseIdx_eq_take_drop_succ l k

set_option maxRecDepth 100000 in
set_option maxHeartbeats 2000000 in
theorem rwithout_any (l : List Rq) (b o c k : Nat) (w : World) (hl : ReqsAt w (some ⟨b, o, none⟩) l) (h10 : l.length ≤ 100000) (hcap : l.length ≤ c) (hk : k < l.length) :
    Calls Try.prog 58 #[.slice (some ⟨b, o, none⟩) l.length c, .int .i64 k] w fun e w' => ∃ a' c', e = .returned (.slice a' (l.eraseIdx k).length c') ∧ NewL w.heap.size w' a' c' (l.eraseIdx k) ∧ Below w.heap.size w w' := by
  have esp : l = l.take k ++ [l[k]] ++ l.drop (k + 1) := by rw [List.append_assoc, List.singleton_append, List.getElem_cons_drop, List.take_append_drop]
  have elt : (l.take k).length = k := by rw [List.length_take]; omega
  have eld : (l.drop (k + 1)).length = l.length - (k + 1) := by rw [List.length_drop]
  obtain ⟨M, hM⟩ : ∃ M, M = l.eraseIdx k := ⟨_, rfl⟩
  have hMl : M.length = k + (l.length - (k + 1)) := by rw [hM, erase_split, List.length_append, elt, eld]
  have hMa : ∀ x ∈ M, x.At w := fun x hx => hl.2.1 x (List.mem_of_mem_eraseIdx (by rw [hM] at hx; exact hx))
  have hMc : rcells (l.take k) ++ rcells (l.drop (k + 1)) = rcells M := by rw [hM, erase_split, rcells_append]
  have HM := hidT (⟨hMl, hMa, hMc⟩ : _ ∧ _ ∧ _)
  rw [← hM]
  clear hM hMl hMa hMc
  have R1 : RowAt w 6 (some ⟨b, o, none⟩) k c (rcells (l.take k)) := by
    have := hl.row (c := c) [] (l.take k) ([l[k]] ++ l.drop (k + 1)) (by simp)
    rw [elt] at this
    simpa using this
  have hwr : IntKind.i64.wrap ((k : Int) + 1) = (k : Int) + 1 := by rw [IntKind.wrap_i64]; omega
  have hsl1 := fun w => slice_to b o l.length c k w hk hcap
  obtain ⟨iR, hR1, hR2, hR3, hR4⟩ := pluck infoR
  by_cases hce : c = k + 1
  · subst hce
    have hni : l.length = k + 1 := by omega
    have e3 : l.drop (k + 1) = [] := List.eq_nil_of_length_eq_zero (by omega)
    have R2 : RowAt w 6 (some ⟨b, o, none⟩) 0 0 (rcells (l.drop (k + 1))) := by
      rw [e3]; exact ⟨rfl, by simp [rcells], Or.inr ⟨_, rfl, fun j u h => by simp [rcells] at h⟩⟩
    have hsl2 := fun w => slice_end b o l.length k w hni
    have hn0 := HM.out.1
    rw [show l.length - (k + 1) = 0 by omega] at hn0
    have HN := hidT hn0
    clear esp elt eld e3 hni hn0
    go_enter Try.func58, Try.ntmps58
    go_wp2_with fail
    go_region_held3 (fun _ => True) (trivial) (first | (refine step_rowD (by rfl) (.const (.slice none 0 0)) (.tmp 7) 30 (by rfl) w.heap.size 38 iR _ 6 80 Try.underlying30 hR1 hR2 hR3 hR4 rfl (by decide) (.slice none 0 0) 0 [] (by rfl) (World.ownsRow_nil _ _ _ _) (some ⟨b, o, none⟩) k (k + 1) (rcells (l.take k)) (by simp [Act.eval]) (R1.later (by repeat (first | with_reducible exact Below.refl _ _ | with_reducible refine balloc ?_ _ | with_reducible refine bdrew ?_ | with_reducible refine bset' ?_ (by omega) _ | with_reducible refine bthen ?_ (by assumption)))) (by unfold maxLen; omega) (by omega) (by simp) ?_; intro v1 wI hown1 hb1; rw [Nat.zero_add, List.nil_append] at hown1; have hB1 : Below w.heap.size w wI := Below.trans (by repeat (first | with_reducible exact Below.refl _ _ | with_reducible refine balloc ?_ _ | with_reducible refine bdrew ?_ | with_reducible refine bset' ?_ (by omega) _ | with_reducible refine bthen ?_ (by assumption))) hb1) | (refine step_rowD (by rfl) (.tmp 8) (.tmp 12) 30 (by rfl) w.heap.size 38 iR _ 6 80 Try.underlying30 hR1 hR2 hR3 hR4 rfl (by decide) v1 k (rcells (l.take k)) (by simp [Act.eval]) (by first | exact hown1 | exact ownsRow_drew hown1) (some ⟨b, o, none⟩) 0 0 (rcells (l.drop (k + 1))) (by simp [Act.eval]) (R2.later (by repeat (first | with_reducible exact Below.refl _ _ | with_reducible refine balloc ?_ _ | with_reducible refine bdrew ?_ | with_reducible refine bset' ?_ (by omega) _ | with_reducible refine bthen ?_ (by assumption)))) (by unfold maxLen; omega) (by omega) (by have := hB1.size; (try simp); omega) ?_; intro v2 wJ hown2 hb2; have hB2 : Below w.heap.size w wJ := (by first | exact hB1.trans hb2 | exact hB1.drew.trans hb2)))
    rw [HM.out.2.2] at hown2
    obtain ⟨aJ, cJ, rfl, hN⟩ := newL_of_owned hown2 (fun x hx => (HM.out.2.1 x hx).later hB2) HN.out.symm (by rw [HN.out]; omega)
    have HB2 := hidT hB2
    clear hown1 hown2 hb1 hb2 hB1 hB2 R1 R2
    go_wp2
    go_ret
    exact ⟨aJ, cJ, rfl, hN, HB2.out⟩
  · have R2 : RowAt w 6 (some ⟨b, o + (k + 1) * 6, none⟩) (l.length - (k + 1)) (c - (k + 1)) (rcells (l.drop (k + 1))) := by
      have := hl.row (c := c - (k + 1)) (l.take k ++ [l[k]]) (l.drop (k + 1)) [] (by simp)
      rw [List.length_append, List.length_singleton, elt, eld] at this
      exact this
    have hsl2 := fun w => slice_from b o l.length c k w hk hce
    clear esp elt eld
    go_enter Try.func58, Try.ntmps58
    go_wp2_with fail
    go_region_held3 (fun _ => True) (trivial) (first | (refine step_rowD (by rfl) (.const (.slice none 0 0)) (.tmp 7) 30 (by rfl) w.heap.size 38 iR _ 6 80 Try.underlying30 hR1 hR2 hR3 hR4 rfl (by decide) (.slice none 0 0) 0 [] (by rfl) (World.ownsRow_nil _ _ _ _) (some ⟨b, o, none⟩) k c (rcells (l.take k)) (by simp [Act.eval]) (R1.later (by repeat (first | with_reducible exact Below.refl _ _ | with_reducible refine balloc ?_ _ | with_reducible refine bdrew ?_ | with_reducible refine bset' ?_ (by omega) _ | with_reducible refine bthen ?_ (by assumption)))) (by unfold maxLen; omega) (by omega) (by simp) ?_; intro v1 wI hown1 hb1; rw [Nat.zero_add, List.nil_append] at hown1; have hB1 : Below w.heap.size w wI := Below.trans (by repeat (first | with_reducible exact Below.refl _ _ | with_reducible refine balloc ?_ _ | with_reducible refine bdrew ?_ | with_reducible refine bset' ?_ (by omega) _ | with_reducible refine bthen ?_ (by assumption))) hb1) | (refine step_rowD (by rfl) (.tmp 8) (.tmp 12) 30 (by rfl) w.heap.size 38 iR _ 6 80 Try.underlying30 hR1 hR2 hR3 hR4 rfl (by decide) v1 k (rcells (l.take k)) (by simp [Act.eval]) (by first | exact hown1 | exact ownsRow_drew hown1) (some ⟨b, o + (k + 1) * 6, none⟩) (l.length - (k + 1)) (c - (k + 1)) (rcells (l.drop (k + 1))) (by simp [Act.eval]) (R2.later (by repeat (first | with_reducible exact Below.refl _ _ | with_reducible refine balloc ?_ _ | with_reducible refine bdrew ?_ | with_reducible refine bset' ?_ (by omega) _ | with_reducible refine bthen ?_ (by assumption)))) (by unfold maxLen; omega) (by omega) (by have := hB1.size; (try simp); omega) ?_; intro v2 wJ hown2 hb2; have hB2 : Below w.heap.size w wJ := (by first | exact hB1.trans hb2 | exact hB1.drew.trans hb2)))
    rw [HM.out.2.2] at hown2
    obtain ⟨aJ, cJ, rfl, hN⟩ := newL_of_owned hown2 (fun x hx => (HM.out.2.1 x hx).later hB2) HM.out.1.symm (by rw [HM.out.1]; omega)
    have HB2 := hidT hB2
    clear hown1 hown2 hb1 hb2 hB1 hB2 R1 R2
    go_wp2
    go_ret
    exact ⟨aJ, cJ, rfl, hN, HB2.out⟩
end Go.Proofs.Ythmeaclekedilac
