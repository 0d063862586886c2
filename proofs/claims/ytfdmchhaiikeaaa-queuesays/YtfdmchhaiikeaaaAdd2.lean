/- queue.Add of a request that meets none of those that wait. -/
import Derived.Test.YtfdmchhaiikeaaaAdd
import Derived.Deep.RegionLawGrows
namespace Go.Proofs.Ytfdmchhaiikeaaa
open Go.RowKit Go.BigFrame
attribute [local go_sem] Later.cell Later.frozen

/-- 'append(s, xs...)' onto a row of the call's own, as one step of a region that draws. -/
theorem step_append {P : Program} {ops : Array Oper} {o : Oper} {a : Act} {w : World} {K : Act → World → Prop} {Q : Exit → Act → World → Prop} {E : Prop}
    (hg : o.guard = none) (s x : Operand) (t : TypeId) (hop : o.op = Op.call { callee := Callee.builtin Builtin.append, args := #[s, x], argTypes := #[t, t] })
    (base : Nat) (e : TypeId) (i : TypeInfo) (z : Value) (size bytes : Nat) (ht : P.underlying t = some (.slice e)) (hi : P.info? e = some i) (hz : i.zero = some z)
    (hsize : i.size = size) (hby : i.bytes = bytes) (hzs : z.cells.size = size) (hsz : 0 < size)
    (v : Value) (n : Nat) (xs : List Value) (hs : a.eval s = v) (hown : w.ownsRow base e size v n xs)
    (ad : Option Addr) (m c : Nat) (news : List Value) (hx : a.eval x = .slice ad m c) (hrow : RowAt w size ad m c news)
    (h63 : n + m ≤ maxLen) (hbytes : (n + m) * bytes ≤ 140737488355328) (hbase : base ≤ w.heap.size)
    (h : ∀ v' w', w'.ownsRow base e size v' (n + m) (xs ++ news) → Below base w w' → K (a.put o.dst v') w') :
    if Region.wanted o (yielded ops a.tmps) = true then Oper.wp P o a w K Q else E := by
  have hw : Region.wanted o (yielded ops a.tmps) = true := by simp [Region.wanted, hg]
  rw [if_pos hw]
  obtain ⟨h1, h2, h3⟩ := hrow
  rcases h3 with ⟨rfl, rfl, rfl⟩ | ⟨ad', rfl, hc⟩
  · obtain rfl : news = [] := List.eq_nil_of_length_eq_zero (by rw [h1]; simp)
    have hr := run_append_owned_none (P := P) w base t o.type e i size ht hi v n xs hown
    unfold Oper.wp
    simp [execOp, hop, resolve, invoke, builtin, hs, hx, hr, Result.andThen]
    exact h v w (by simpa using hown) (Below.refl _ _)
  · obtain ⟨v', w', hrun, r1, r2, _⟩ := run_append_own (P := P) w base t o.type e i z size bytes ht hi hz hsize hby hzs hsz v n xs hown ad' m c news h1 hc h2 h63 hbytes hbase
    unfold Oper.wp
    simp [execOp, hop, resolve, invoke, builtin, hs, hx, hrun, Result.andThen]
    exact h v' w' r1 ((Below.refl _ _).grown r2 hbase fun k hk => (hown.lt k hk).1)
theorem ownA_later {w w' : World} {B e size n : Nat} {v : Value} {xs : List Value} (h : w.ownsRow B e size v n xs) (hb : Below w.heap.size w w') : w'.ownsRow B e size v n xs := by
  refine ⟨h.1, h.2.elim Or.inl ?_⟩
  rintro ⟨g, cap, cur, hv, hg, hh, r⟩
  refine Or.inr ⟨g, cap, cur, hv, hg, ?_, r⟩
  have : g < w.heap.size := by
    rcases Nat.lt_or_ge g w.heap.size with h' | h'
    · exact h'
    · rw [Array.getElem?_eq_none h'] at hh; cases hh
  rw [hb.block g this]; exact hh
theorem row_sixA {w : World} {b c : Nat} (q : Rq) (h : Six w b q) : RowAt w 6 (some ⟨b, 0, none⟩) 1 c (rcells [q]) := by
  refine ⟨rfl, rcells_one _, Or.inr ⟨_, rfl, fun k u hk => ?_⟩⟩
  obtain ⟨i, j, hi, hj, rfl, rfl⟩ := rcells_inv hk
  have : i = 0 := by simp at hi; exact hi
  subst this
  rw [add_mk']
  obtain ⟨h0, h1, h2, h3, h4, h5⟩ := h
  match j, hj with
  | 0, _ => exact h0
  | 1, _ => exact h1
  | 2, _ => exact h2
  | 3, _ => exact h3
  | 4, _ => exact h4
  | 5, _ => exact h5

theorem Six.belowB {w w' : World} {b B : Nat} {q : Rq} (h : Six w b q) (hb : Below B w w') (hl : b < B) : Six w' b q := by
  obtain ⟨h0, h1, h2, h3, h4, h5⟩ := h
  refine ⟨?_, ?_, ?_, ?_, ?_, ?_⟩ <;> (rw [hb.cell hl]; assumption)
/-- What waits then. -/
def Added (l : List Rq) (r : Rq) (L : List Rq) : Prop :=
  (∃ (k : Nat) (hk : k < l.length) (q : Rq), (∀ j (hj : j < l.length), j < k → togE l[j] r = false) ∧ togE l[k] r = true ∧ BothE l[k] r q ∧ L = l.set k q) ∨
  ((∀ j (hj : j < l.length), togE l[j] r = false) ∧ l.length < 6 ∧ L = l ++ [r])
def AddOut (l : List Rq) (r : Rq) (w' : World) (e : Ending) : Prop :=
  (∃ (L : List Rq) (a' : Option Addr) (c' : Nat), Added l r L ∧ e = .returned (.tuple #[.slice a' L.length c', .nilIface]) ∧ ReqsAt w' a' L ∧ L.length ≤ c' ∧ (a' = none → c' = 0)) ∨
  ((∀ j (hj : j < l.length), togE l[j] r = false) ∧ 6 ≤ l.length ∧ e = .returned (.tuple #[.slice none 0 0, .iface 57 (.int .i64 7)]))

set_option linter.unusedSimpArgs false in
set_option maxRecDepth 100000 in
set_option maxHeartbeats 4000000 in
theorem add_core (l : List Rq) (a : Option Addr) (c : Nat) (r : Rq) (w : World) (hl : ReqsAt w a l) (hn : a = none → c = 0) (hr : r.At w) (h10 : l.length ≤ 1000) (gr : Good r) (gl : ∀ i (h : i < l.length), Good l[i]) (hm : l.any (meetsB r) = false) :
    Calls Try.prog 19 #[.slice a l.length c, r.val] w fun e w' => AddOut l r w' e ∧ Below w.heap.size w w' := by
  obtain ⟨i, hi, hz0, hz1, hz2⟩ := pluck infoR
  have HI := hid_of (⟨hi, hz0, hz1, hz2⟩ : Try.prog.info? 36 = some i ∧ _ ∧ _ ∧ _)
  clear hi hz0 hz1 hz2
  have HGL := hid_of gl
  clear gl
  go_enter Try.func19, Try.ntmps19
  go_wp2_with fail
  refine (rcheck_nilA r _ (hr.later (below1 _ _)) ((good_iff r).2 gr)).mono ?_
  rintro e w1 ⟨rfl, hb⟩
  have S := (six_newA w 36 r).later hb
  have HS := hid_of S
  go_wp2_with fail
  refine (containsR_any 33 (by intro args w; go_simp) (.pointer (some ⟨w.heap.size, 0, none⟩)) (meetsB r) l a c _ (hl.later (by repeat (first | with_reducible exact Below.refl _ _ | with_reducible refine balloc ?_ _ | with_reducible refine bdrew ?_ | with_reducible refine bset' ?_ (by omega) _ | with_reducible refine bthen ?_ (by assumption)))) (fun x w' _ hb' => meets_any x r w.heap.size w' (cell_later' hb' HS.out.2.1) (cell_later' hb' HS.out.2.2.1)) false hm).mono ?_
  rintro e w2 ⟨rfl, hb2⟩
  have S2 : Six w2 w.heap.size r := S.later hb2
  have HB2 : Below w.heap.size w w2 := by repeat (first | with_reducible exact Below.refl _ _ | with_reducible refine balloc ?_ _ | with_reducible refine bdrew ?_ | with_reducible refine bset' ?_ (by omega) _ | with_reducible refine bthen ?_ (by assumption))
  have hl2 := hl.later HB2
  have hlen := hl.2.2
  clear S HS hb hb2 hm
  go_wp2_with fail
  go_loopw [25] (fun iv wr => ∃ n : Nat, n ≤ l.length ∧ iv = .int .i64 n ∧ (∀ j (hj : j < l.length), j < n → togE l[j] r = false) ∧ Below w2.heap.size w2 wr) (fun iv _ => l.length - (intOf iv).toNat)
  case atStart => exact ⟨0, by omega, rfl, fun j hj h => absurd h (Nat.not_lt_zero _), Below.refl _ _⟩
  case round =>
    obtain ⟨n, hnl, rfl, hno, HB⟩ := hrel
    have HN := hid_of hno
    clear hno
    have S3 := S2.later HB
    have hl3 := hl2.later HB
    have HB3 := bthen HB2 HB
    have HR := hid_of HB
    clear HB S2
    obtain ⟨s0, s1, s2, s3, s4, s5⟩ := id S3
    have ls := lt_of_cell s0
    by_cases hlt : n < l.length
    · have h0 : l ≠ [] := by rintro rfl; exact absurd hlt (Nat.not_lt_zero _)
      have H0 := hid_of h0
      obtain ⟨b, o, rfl⟩ := hl3.form.resolve_left h0
      clear h0
      obtain ⟨c0, c1, c2, c3, c4, c5⟩ := hl3.cells hlt
      have lc := lt_of_cell c0
      cases ht : togE l[n] r
      · go_wp2_with fail
        refine (mergeN l[n] r _ (HGL.out n hlt) gr ht).mono ?_
        rintro e w4 ⟨rfl, hb4⟩
        go_wp2
        go_roundw
        case rel => exact ⟨n + 1, by omega, by go_num, fun j hj h => by by_cases e : j = n; (subst e; exact ht); exact HN.out j hj (by omega), bthen HR.out (by repeat (first | with_reducible exact Below.refl _ _ | with_reducible refine balloc ?_ _ | with_reducible refine bdrew ?_ | with_reducible refine bset' ?_ (by omega) _ | with_reducible refine bthen ?_ (by assumption)))⟩
        case measure => simp [intOf]; omega
      · go_wp2_with fail
        refine (mergeE l[n] r _ (HGL.out n hlt) gr (Rq.At.of hl hlt (by repeat (first | with_reducible exact Below.refl _ _ | with_reducible refine balloc ?_ _ | with_reducible refine bdrew ?_ | with_reducible refine bset' ?_ (by omega) _ | with_reducible refine bthen ?_ (by assumption)))) (hr.later (by repeat (first | with_reducible exact Below.refl _ _ | with_reducible refine balloc ?_ _ | with_reducible refine bdrew ?_ | with_reducible refine bset' ?_ (by omega) _ | with_reducible refine bthen ?_ (by assumption)))) ht).mono ?_
        rintro e w4 ⟨q, rfl, hq, hqa, hb4⟩
        have HB4 : Below w.heap.size w w4 := by repeat (first | with_reducible exact Below.refl _ _ | with_reducible refine balloc ?_ _ | with_reducible refine bdrew ?_ | with_reducible refine bset' ?_ (by omega) _ | with_reducible refine bthen ?_ (by assumption))
        have HQ := hid_of hq
        clear hq hb4 c0 c1 c2 c3 c4 c5 lc s0 s1 s2 s3 s4 s5 ls S3 hl3
        go_wp2_with fail
        refine (cloneR_any l _ c _ (hl.later (by repeat (first | with_reducible exact Below.refl _ _ | with_reducible refine balloc ?_ _ | with_reducible refine bdrew ?_ | with_reducible refine bset' ?_ (by omega) _ | with_reducible refine bthen ?_ (by assumption)))) hn (by omega)).mono ?_
        rintro e w5 ⟨a5, c5, rfl, hN, hb5⟩
        obtain ⟨b5, rfl, hbb, hlt5, hfz⟩ := hN.place H0.out
        rw [World.size_alloc] at hbb
        have Sq : Six w5 w4.heap.size q := (six_newA w4 36 q).later hb5
        obtain ⟨s0, s1, s2, s3, s4, s5⟩ := id Sq
        have ls := lt_of_cell s0
        obtain ⟨d0, d1, d2, d3, d4, d5⟩ := hN.here.cells hlt
        rw [Nat.zero_add] at d0 d1 d2 d3 d4 d5
        have f0 := hfz (n * 6)
        have f1 := hfz (n * 6 + 1)
        have f2 := hfz (n * 6 + 2)
        have f3 := hfz (n * 6 + 3)
        have f4 := hfz (n * 6 + 4)
        have f5 := hfz (n * 6 + 5)
        have nb : b5 ≠ w4.heap.size := by omega
        have hcap := hN.cap
        have HH := hid_of hN.here
        have hB5 : Below w4.heap.size w4 w5 := by repeat (first | with_reducible exact Below.refl _ _ | with_reducible refine balloc ?_ _ | with_reducible refine bdrew ?_ | with_reducible refine bset' ?_ (by omega) _ | with_reducible refine bthen ?_ (by assumption))
        clear hb5 hfz Sq hN
        have hz4 := HB4.size
        go_wp2
        go_ret2
        refine ⟨Or.inl ⟨l.set n q, _, c5, Or.inl ⟨n, hlt, q, HN.out, ht, HQ.out, rfl⟩, (by show Ending.returned (.tuple #[.slice (some ⟨b5, 0, none⟩) l.length c5, .nilIface]) = _; rw [List.length_set]), HH.out.put hlt (fun r' hr' => (hl.2.1 r' hr').later ?_) (hqa.later ?_) rfl, by rw [List.length_set]; exact hcap, by simp⟩, ?_⟩
        all_goals repeat (first | with_reducible exact Below.refl _ _ | with_reducible refine balloc ?_ _ | with_reducible refine bdrew ?_ | with_reducible refine bset' ?_ (by omega) _ | with_reducible refine bthen ?_ (by assumption))
    · have hnn : n = l.length := by omega
      subst hnn
      by_cases h6 : 6 ≤ l.length
      · go_wp2
        go_ret2
        exact ⟨Or.inr ⟨fun j hj => HN.out j hj hj, h6, rfl⟩, by repeat (first | with_reducible exact Below.refl _ _ | with_reducible refine balloc ?_ _ | with_reducible refine bdrew ?_ | with_reducible refine bset' ?_ (by omega) _ | with_reducible refine bthen ?_ (by assumption))⟩
      · go_wp2_with fail
        obtain ⟨hi, hz0, hz1, hz2⟩ := HI.out
        go_region_held3 (fun w' => w'.cell? ⟨w.heap.size, 0, none⟩ = some (.bool r.wr) ∧ w'.cell? ⟨w.heap.size, 1, none⟩ = some (.int .i64 r.f) ∧ w'.cell? ⟨w.heap.size, 2, none⟩ = some (.int .i64 r.m) ∧ w'.cell? ⟨w.heap.size, 3, none⟩ = some (.slice r.da r.data.length r.dc) ∧ w'.cell? ⟨w.heap.size, 4, none⟩ = some (.slice r.ta r.tags.length r.tc) ∧ w'.cell? ⟨w.heap.size, 5, none⟩ = some (.int .i64 r.born)) (exact (show Six _ _ r by first | ((repeat (first | with_reducible exact S3 | with_reducible refine Six.drew ?_ | with_reducible refine Six.alloc ?_ _ | with_reducible refine Six.later ?_ (by assumption) | with_reducible refine Six.set ?_ (by omega) _)); done) | (refine Six.belowB ?_ (by assumption) ls; (repeat (first | with_reducible exact S3 | with_reducible refine Six.drew ?_ | with_reducible refine Six.alloc ?_ _ | with_reducible refine Six.later ?_ (by assumption) | with_reducible refine Six.set ?_ (by omega) _)); done))) (first | (go_at_call 36; refine (cloneR_any l a c _ (hl.later (by repeat (first | with_reducible exact Below.refl _ _ | with_reducible refine balloc ?_ _ | with_reducible refine bdrew ?_ | with_reducible refine bset' ?_ (by omega) _ | with_reducible refine bthen ?_ (by assumption)))) hn (by omega)).mono ?_; rintro e w4 ⟨a4, c4, rfl, hN, hb4⟩) | (refine step_append (by rfl) (.tmp 50) (.tmp 52) 32 (by rfl) wr.heap.size 36 i _ 6 80 Try.underlying32 hi hz0 hz1 hz2 rfl (by decide) (.slice a4 l.length c4) l.length (rcells l) (by simp [Act.eval, Act.put]) (ownsRow_le' (ownA_later hN.own (by repeat (first | with_reducible exact Below.refl _ _ | with_reducible refine balloc ?_ _ | with_reducible refine bdrew ?_ | with_reducible refine bset' ?_ (by omega) _ | with_reducible refine bthen ?_ (by assumption)))) (by simp)) _ 1 1 (rcells [r]) (by simp [Act.eval, Act.put]; rfl) (by first | (refine row_sixA r ?_; simp [Six]; done) | (refine row_sixA r (Six.later ?_ hb4); simp [Six]; done)) (by unfold maxLen; omega) (by omega) (by have := hb4.size; simp at this ⊢; omega) ?_; intro v5 w5 hown5 hb5))
        all_goals
          rw [← rcells_append] at hown5
          have HB5 : Below w.heap.size w w5 := by have hq5 : Below wr.heap.size wr w5 := Below.trans (by repeat (first | with_reducible exact Below.refl _ _ | with_reducible refine balloc ?_ _ | with_reducible refine bdrew ?_ | with_reducible refine bset' ?_ (by omega) _ | with_reducible refine bthen ?_ (by assumption))) hb5; exact bthen HB3 hq5
          obtain ⟨a5, c5, rfl, hN5⟩ := newR_of_owned hown5 (fun r' hr' => by rcases List.mem_append.1 hr' with h | h; exact (hl.2.1 r' h).later HB5; (rw [List.mem_singleton.1 h]; exact hr.later HB5)) (by simp) (by simp; omega)
          have HN5 := hid_of hN5
          clear hown5 hN5 hN hi hz0 hz1 hz2
          go_wp2
          go_ret2
          exact ⟨Or.inl ⟨l ++ [r], a5, c5, Or.inr ⟨fun j hj => HN.out j hj hj, by omega, rfl⟩, rfl, HN5.out.here, HN5.out.cap, HN5.out.nil⟩, HB5⟩
end Go.Proofs.Ytfdmchhaiikeaaa
