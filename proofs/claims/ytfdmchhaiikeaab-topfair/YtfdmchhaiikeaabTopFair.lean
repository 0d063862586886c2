/- TopFair: of one that writes, while some always read, and as many as go come anew, it is its turn soon. The walk. -/
import Derived.Test.YtfdmchhaiikeaabTopElev
import Derived.Deep.RegionLawGrows
import Derived.Deep.DeepCutAuto
namespace Go.Proofs.Ytfdmchhaiikeaab
open Go.RowKit Go.BigFrame
attribute [local go_sem] Later.cell Later.frozen

/-- 'append(s, xs...)' onto a row of the call's own, as one step of a region that draws. -/
theorem step_append_row {P : Program} {ops : Array Oper} {o : Oper} {a : Act} {w : World} {K : Act → World → Prop} {Q : Exit → Act → World → Prop} {E : Prop}
    (hg : o.guard = none) (s x : Operand) (t : TypeId) (hop : o.op = Op.call { callee := Callee.builtin Builtin.append, args := #[s, x], argTypes := #[t, t] })
    (base : Nat) (e : TypeId) (i : TypeInfo) (z : Value) (size bytes : Nat) (ht : P.underlying t = some (.slice e)) (hi : P.info? e = some i) (hz : i.zero = some z)
    (hsize : i.size = size) (hby : i.bytes = bytes) (hzs : z.cells.size = size) (hsz : 0 < size)
    (v : Value) (n : Nat) (xs : List Value) (hs : a.eval s = v) (hown : w.ownsRow base e size v n xs)
    (ad : Option Addr) (m c : Nat) (news : List Value) (hx : a.eval x = .slice ad m c) (hrow : RowAt w size ad m c news)
    (h63 : n + m ≤ maxLen) (hbytes : (n + m) * bytes ≤ 140737488355328) (hbase : base ≤ w.heap.size)
    (h : ∀ v' w', w'.ownsRow base e size v' (n + m) (xs ++ news) → Below base w w' → K (a.put o.dst v') w') :
    if Region.wanted o (yielded ops a.tmps) = true then Oper.wp P o a w K Q else E := by
  have hw : Region.wanted o (yielded ops a.tmps) = true := by simp [Region.wanted, hg]
  rw [if_pos hw]
  obtain ⟨h1, h2, h3⟩ := hrow
  rcases h3 with ⟨rfl, rfl, rfl⟩ | ⟨ad', rfl, hc⟩
  · obtain rfl : news = [] := List.eq_nil_of_length_eq_zero (by rw [h1]; simp)
    have hr := run_append_owned_none (P := P) w base t o.type e i size ht hi v n xs hown
    unfold Oper.wp
    simp [execOp, hop, resolve, invoke, builtin, hs, hx, hr, Result.andThen]
    exact h v w (by simpa using hown) (Below.refl _ _)
  · obtain ⟨v', w', hrun, r1, r2, _⟩ := run_append_own (P := P) w base t o.type e i z size bytes ht hi hz hsize hby hzs hsz v n xs hown ad' m c news h1 hc h2 h63 hbytes hbase
    unfold Oper.wp
    simp [execOp, hop, resolve, invoke, builtin, hs, hx, hrun, Result.andThen]
    exact h v' w' r1 ((Below.refl _ _).grown r2 hbase fun k hk => (hown.lt k hk).1)

theorem own_later {w w' : World} {B e size n : Nat} {v : Value} {xs : List Value} (h : w.ownsRow B e size v n xs) (hb : Below w.heap.size w w') : w'.ownsRow B e size v n xs := by
  refine ⟨h.1, h.2.elim Or.inl ?_⟩
  rintro ⟨g, cap, cur, hv, hg, hh, r⟩
  refine Or.inr ⟨g, cap, cur, hv, hg, ?_, r⟩
  have : g < w.heap.size := by
    rcases Nat.lt_or_ge g w.heap.size with h' | h'
    · exact h'
    · rw [Array.getElem?_eq_none h'] at hh; cases hh
  rw [hb.block g this]; exact hh

theorem ReqsAt.rowAll {w : World} {a : Option Addr} {c : Nat} {l : List Rq} (h : ReqsAt w a l) (hn : a = none → c = 0) : RowAt w 6 a l.length c (rcells l) := by
  rcases h.1 with rfl | ⟨b, o, rfl, hc⟩
  · cases a with
    | none => exact ⟨rfl, by simp [rcells], Or.inl ⟨rfl, rfl, hn rfl⟩⟩
    | some ad => exact ⟨rfl, by simp [rcells], Or.inr ⟨ad, rfl, fun j u h => by simp [rcells] at h⟩⟩
  · have := h.row (c := c) [] l [] (by simp)
    simpa using this

/-- A request in a block's first six cells. -/
def SixAt (w : World) (b : Nat) (q : Rq) : Prop :=
  w.cell? ⟨b, 0, none⟩ = some (.bool q.wr) ∧ w.cell? ⟨b, 1, none⟩ = some (.int .i64 q.f) ∧ w.cell? ⟨b, 2, none⟩ = some (.int .i64 q.m) ∧ w.cell? ⟨b, 3, none⟩ = some (.slice q.da q.data.length q.dc) ∧ w.cell? ⟨b, 4, none⟩ = some (.slice q.ta q.tags.length q.tc) ∧ w.cell? ⟨b, 5, none⟩ = some (.int .i64 q.born)
theorem SixAt.later {w w' : World} {b : Nat} {q : Rq} (h : SixAt w b q) (hb : Below w.heap.size w w') : SixAt w' b q := by
  obtain ⟨h0, h1, h2, h3, h4, h5⟩ := h
  exact ⟨cellA_later hb h0, cellA_later hb h1, cellA_later hb h2, cellA_later hb h3, cellA_later hb h4, cellA_later hb h5⟩

theorem row_six {w : World} {b c : Nat} (q : Rq) (h : SixAt w b q) : RowAt w 6 (some ⟨b, 0, none⟩) 1 c (rcells [q]) := by
  refine ⟨rfl, rcells_one _, Or.inr ⟨_, rfl, fun k u hk => ?_⟩⟩
  obtain ⟨i, j, hi, hj, rfl, rfl⟩ := rcells_inv hk
  have : i = 0 := by simp at hi; exact hi
  subst this
  rw [add_mk']
  obtain ⟨h0, h1, h2, h3, h4, h5⟩ := h
  match j, hj with
  | 0, _ => exact h0
  | 1, _ => exact h1
  | 2, _ => exact h2
  | 3, _ => exact h3
  | 4, _ => exact h4
  | 5, _ => exact h5

/-- One that went comes anew: still each may be, and no two have a sector in common. -/
theorem Goods.anew {l : List Rq} (h : Goods l) (i : Nat) (hi : i < l.length) : Goods (l.take i ++ l.drop (i + 1) ++ [l[i]]) := by
  have hw := h.without i
  have hn : (l.take i ++ l.drop (i + 1)).length = l.length - 1 := by rw [List.length_append, List.length_take, List.length_drop]; omega
  refine ⟨fun k hk => ?_, fun k j hk hj => ?_⟩
  · rw [List.length_append, List.length_singleton] at hk
    by_cases hk' : k < (l.take i ++ l.drop (i + 1)).length
    · rw [List.getElem_append_left hk']; exact hw.good k hk'
    · rw [List.getElem_append_right (by omega)]
      simp only [List.getElem_singleton]
      exact h.good i hi
  · rw [List.length_append, List.length_singleton] at hk
    by_cases hk' : k < (l.take i ++ l.drop (i + 1)).length
    · have e1 : (l.take i ++ l.drop (i + 1) ++ [l[i]])[k]'(by simp at hk' ⊢; omega) = (l.take i ++ l.drop (i + 1))[k] := List.getElem_append_left hk'
      have e2 : (l.take i ++ l.drop (i + 1) ++ [l[i]])[j]'(by simp at hk' ⊢; omega) = (l.take i ++ l.drop (i + 1))[j]'(by omega) := List.getElem_append_left (by omega)
      rw [e1, e2]; exact hw.apart k j hk' hj
    · have e1 : (l.take i ++ l.drop (i + 1) ++ [l[i]])[k]'(by simp at hk ⊢; omega) = l[i] := by
        rw [List.getElem_append_right (by omega), List.getElem_singleton]
      have hj' : j < (l.take i ++ l.drop (i + 1)).length := by omega
      have e2 : (l.take i ++ l.drop (i + 1) ++ [l[i]])[j]'(by simp at hj' ⊢; omega) = (l.take i ++ l.drop (i + 1))[j] := List.getElem_append_left hj'
      rw [e1, e2]
      by_cases hji : j < i
      · rw [List.getElem_append_left (by rw [List.length_take]; omega), List.getElem_take]
        exact h.apart i j hi hji
      · have e : (l.take i).length = i := by rw [List.length_take]; omega
        have hjl : j + 1 < l.length := by omega
        have e3 : (l.take i ++ l.drop (i + 1))[j] = l[j + 1] := by
          rw [List.getElem_append_right (by omega), List.getElem_drop]
          congr 1; omega
        rw [e3]
        have a1 := h.apart (j + 1) i hjl (by omega)
        have ok32 : ∀ k (hk : k < l.length), okB l[k].f l[k].m 32 = true := fun k hk => by
          have := (h.good k hk).bds
          simp only [okB, decide_eq_true_eq]; omega
        rw [meetB_ok _ _ _ _ (ok32 _ _) (ok32 _ _)] at a1 ⊢
        rw [decide_eq_false_iff_not] at a1 ⊢
        exact fun ⟨x, y⟩ => a1 ⟨y, x⟩

/-- How many reads may go yet ahead of a write that waits. -/
def phi (s g : Int) : Nat := (2 - s).toNat * 3 + (if 1 ≤ g ∧ g ≤ 2 then (3 - g).toNat else 0)
theorem phi_le (s g : Int) (h : 0 ≤ s) : phi s g ≤ 8 := by
  unfold phi
  split <;> omega
theorem phi_step {l : List Rq} {t T : Tn} {now : Int} {i : Nat} (h : IsNext l t now i T) (hw : T.w = false) (hr : ∃ r ∈ l, r.wr = true) (h0 : 0 ≤ t.s) (h1 : t.s ≤ 9223372036854775807) : phi T.s T.g + 1 ≤ phi t.s t.g ∧ 0 ≤ T.s ∧ T.s ≤ 9223372036854775807 ∧ 0 ≤ T.g := by
  rcases h.way with ⟨a, b, _, _, e1, e2⟩ | ⟨_, e1, b1, b2, _, d2, e3, e2, _⟩
  · rw [e1, e2]
    refine ⟨?_, h0, h1, by omega⟩
    unfold phi
    rw [if_pos (show 1 ≤ t.g ∧ t.g ≤ 2 by omega)]
    split <;> omega
  · have hb2 : b2 = true := by
      rw [← d2, decide_eq_true_eq]
      rcases old_spec true l with ⟨_, h'⟩ | ⟨j, _, h', _⟩
      · obtain ⟨r, hr, hrw⟩ := hr
        obtain ⟨k, hk, rfl⟩ := List.getElem_of_mem hr
        have := h' k hk
        rw [hrw] at this; cases this
      · omega
    subst hb2
    rw [hw] at e3
    by_cases hc : b1 = false ∨ 2 ≤ t.s
    · simp [beginT, hc] at e3
    · have e4 : (beginT b1 true t).s = t.s + 1 := by simp [beginT, hc]
      have : ¬ 2 ≤ t.s := fun h' => hc (Or.inr h')
      rw [e1, e2, e4]
      refine ⟨?_, by omega, by omega, by omega⟩
      unfold phi
      rw [if_pos (show 1 ≤ (1 : Int) ∧ (1 : Int) ≤ 2 by omega)]
      split <;> omega

theorem FourAt.below {w w' : World} {b B : Nat} {a0 a1 a2 a3 : Value} (h : FourAt w b a0 a1 a2 a3) (hb : Below B w w') (hlt : b < B) : FourAt w' b a0 a1 a2 a3 := by
  obtain ⟨⟨h0, h1, h2, h3⟩, ⟨k0, k1, k2, k3⟩⟩ := h
  refine ⟨⟨?_, ?_, ?_, ?_⟩, ⟨?_, ?_, ?_, ?_⟩⟩
  all_goals first | rw [hb.cell hlt]; assumption | rw [hb.frozen hlt]; assumption

set_option linter.unusedSimpArgs false in
set_option maxRecDepth 100000 in
set_option maxHeartbeats 1000000 in
theorem tf_head (L l : List Rq) (a : Option Addr) (c : Nat) (q : Rq) (tw : Bool) (tg ts tp : Int) (now : Int) (w : World) (hl : ReqsAt w a l) (ha : a = none → c = 0) (hq : q.At w) (hL : Hid (L = l ++ [q])) (h5' : ts ≤ 9223372036854775807) (hlen : l.length * 80 + 80 ≤ 140737488355328) :
    Calls Try.prog 7 #[.slice a l.length c, q.val, .agg #[.bool tw, .int .i64 tg, .int .i64 ts, .int .i64 tp], .int .i64 now] w fun e w' => e = .returned (.bool true) ∧ Below w.heap.size w w' := by
  obtain ⟨i, hi, hz0, hz1, hz2⟩ := pluck infoR
  go_enter Try.func7, Try.ntmps7
  go_wp2_with fail
  go_at_call 18; refine (went_any _).mono ?_; rintro e w1 ⟨rfl, hb⟩; (try clear hc hf hz); (first | replace HB := bthen HB hb | replace HB := bthen (bdrew HB) hb | have HB := hb); clear hb; obtain ⟨hc, hf, hz⟩ := bcell HB
  go_wp2_with fail
  have R := (hl.later (w' := w1) (by repeat (first | with_reducible exact Below.refl _ _ | with_reducible refine balloc ?_ _ | with_reducible refine bdrew ?_ | with_reducible refine bset' ?_ (by omega) _ | with_reducible refine bthen ?_ (by assumption)))).rowAll ha
  have F1 : FourAt w1 (w.heap.size + 1) (.bool tw) (.int .i64 tg) (.int .i64 ts) (.int .i64 tp) := by
    have := four1 HB
    rw [World.size_alloc] at this
    exact ⟨this.1, this.2.1⟩
  have S1 : SixAt w1 w.heap.size q := by
    refine ⟨?_, ?_, ?_, ?_, ?_, ?_⟩
    all_goals
      rw [hc _ _ (by simp; omega)]
      simp
  have HB1 : Below w.heap.size w w1 := by repeat (first | with_reducible exact Below.refl _ _ | with_reducible refine balloc ?_ _ | with_reducible refine bdrew ?_ | with_reducible refine bset' ?_ (by omega) _ | with_reducible refine bthen ?_ (by assumption))
  have hws : w.heap.size + 2 ≤ w1.heap.size := by simpa using hz
  clear hc hf hz HB
  go_cut [10] (fun s10 wx => ∃ a' c', s10 = .slice a' L.length c' ∧ ReqsAt wx a' L ∧ L.length ≤ c' ∧ (∀ b' o', a' = some ⟨b', o', none⟩ → b' ≠ w.heap.size + 1) ∧ Below w1.heap.size w1 wx)
  case first =>
    obtain ⟨q0, q1, q2, q3, q4, q5⟩ := id S1
    go_region_law (first
      | (refine step_append_row rfl (.const (.slice none 0 0)) (.tmp 20) 38 rfl _ 32 i _ 6 80 Try.underlying38 hi hz0 hz1 hz2 rfl (by decide) _ 0 [] rfl (World.ownsRow_nil _ _ _ _) a l.length c (rcells l) (by simp [Act.eval, Act.put]) (R.later (by repeat (first | with_reducible exact Below.refl _ _ | with_reducible refine balloc ?_ _ | with_reducible refine bdrew ?_ | with_reducible refine bset' ?_ (by omega) _ | with_reducible refine bthen ?_ (by assumption)))) (by unfold maxLen; omega) (by omega) (Nat.le_refl _) ?_; intro v1 w2 hown1 hb1; rw [Nat.zero_add, List.nil_append] at hown1; replace hown1 := ownsRow_le' (base' := w1.heap.size) hown1 (by simp); obtain ⟨q0, q1, q2, q3, q4, q5⟩ := S1.later (w' := w2) (bthen (by repeat (first | with_reducible exact Below.refl _ _ | with_reducible refine balloc ?_ _ | with_reducible refine bdrew ?_ | with_reducible refine bset' ?_ (by omega) _ | with_reducible refine bthen ?_ (by assumption))) hb1))
      | (refine step_append_row rfl (.tmp 21) (.tmp 23) 38 rfl w1.heap.size 32 i _ 6 80 Try.underlying38 hi hz0 hz1 hz2 rfl (by decide) v1 l.length (rcells l) (by simp [Act.eval, Act.put]) (own_later hown1 (by repeat (first | with_reducible exact Below.refl _ _ | with_reducible refine balloc ?_ _ | with_reducible refine bdrew ?_ | with_reducible refine bset' ?_ (by omega) _ | with_reducible refine bthen ?_ (by assumption)))) _ 1 1 (rcells [q]) (by simp [Act.eval, Act.put]; rfl) ?hrow (by unfold maxLen; omega) (by omega) ?hbase ?_
         (case hrow => first | (refine row_six q ?_; simp [SixAt]; done) | (refine row_six q (SixAt.later ?_ hb1); simp [SixAt]; done))
         (case hbase => have := hb1.size; simp at this ⊢; omega)
         intro v2 w3 hown2 hb2
         have HB3 : Below w1.heap.size w1 w3 := Below.trans (by repeat (first | with_reducible exact Below.refl _ _ | with_reducible refine balloc ?_ _ | with_reducible refine bdrew ?_ | with_reducible refine bset' ?_ (by omega) _ | with_reducible refine bthen ?_ (by assumption))) hb2
         rw [← rcells_append, ← hL.out] at hown2
         obtain ⟨a', c', rfl, hR, hcc, _, _, hblk⟩ := reqs_of_owned hown2 (fun r hr => by
           rw [hL.out, List.mem_append, List.mem_singleton] at hr
           rcases hr with hr | rfl
           · exact (hl.2.1 r hr).later (bthen HB1 HB3)
           · exact hq.later (bthen HB1 HB3)) (by rw [hL.out]; simp) (by rw [hL.out]; simp; omega)))
    all_goals
      clear q0 q1 q2 q3 q4 q5 S1 F1 R hown1 hown2 hi hz0 hz1 hz2
      go_wp2
      go_meet
      case rel => exact ⟨_, _, rfl, hR, hcc, fun b' o' hh => by have := (hblk _ hh).1; simp only at this; omega, HB3⟩
  case rest =>
    obtain ⟨a', c', rfl, hR, hcc, hblk, HB3⟩ := hcut
    have HK : Hid (∀ b' o', a' = some ⟨b', o', none⟩ → b' ≠ w.heap.size + 1) := hblk
    clear hblk hws
    replace F1 := F1.later HB3
    replace S1 := S1.later HB3
    have HB := bthen HB1 HB3
    clear HB3 hz0 hz1 hz2 hi R
    cases hlb : lightsB L
    · go_wp2_with fail
      go_at_call 16; refine (lights_any L _ c' _ hR _ hlb).mono ?_; rintro e w1 ⟨rfl, hb⟩; (try clear hc hf hz); (first | replace HB := bthen HB hb | replace HB := bthen (bdrew HB) hb | have HB := hb); clear hb; obtain ⟨hc, hf, hz⟩ := bcell HB
      go_wp2
      go_ret
      exact ⟨rfl, by repeat (first | with_reducible exact Below.refl _ _ | with_reducible refine balloc ?_ _ | with_reducible refine bdrew ?_ | with_reducible refine bset' ?_ (by omega) _ | with_reducible refine bthen ?_ (by assumption))⟩
    cases hgb : goodsB L
    · go_wp2_with fail
      refine (lights_any L _ c' _ hR _ hlb).mono ?_
      rintro e w2 ⟨rfl, hb⟩
      go_wp2_with fail
      refine (goods_any L _ c' _ (hR.later (by repeat (first | with_reducible exact Below.refl _ _ | with_reducible refine balloc ?_ _ | with_reducible refine bdrew ?_ | with_reducible refine bset' ?_ (by omega) _ | with_reducible refine bthen ?_ (by assumption))))).mono ?_
      rintro e w3 ⟨rfl, hb2⟩
      go_wp2
      go_ret
      exact ⟨rfl, by repeat (first | with_reducible exact Below.refl _ _ | with_reducible refine balloc ?_ _ | with_reducible refine bdrew ?_ | with_reducible refine bset' ?_ (by omega) _ | with_reducible refine bthen ?_ (by assumption))⟩
    go_wp2_with fail
    refine (lights_any L _ c' _ hR _ hlb).mono ?_
    rintro e w2 ⟨rfl, hb⟩
    replace F1 := F1.later hb
    replace S1 := S1.later hb
    replace hR := hR.later hb
    replace HB := bthen HB hb
    clear hb
    go_wp2_with fail
    refine (goods_any L _ c' _ hR).mono ?_
    rintro e w3 ⟨rfl, hb⟩
    replace F1 := F1.later hb
    replace S1 := S1.later hb
    replace hR := hR.later hb
    replace HB := bthen HB hb
    clear hb
    obtain ⟨⟨x0, x1, x2, x3⟩, ⟨y0, y1, y2, y3⟩⟩ := id F1
    obtain ⟨q0, q1, q2, q3, q4, q5⟩ := id S1
    have HBH : Hid (Below w.heap.size w w3) := HB
    clear HB q1 q2 q3 q4 q5
    by_cases hall : q.wr = true ∧ 0 ≤ now ∧ now ≤ 1000000000 ∧ 0 ≤ ts ∧ 0 ≤ tg
    case neg =>
      have hcase : q.wr = false ∨ (q.wr = true ∧ now < 0) ∨ (q.wr = true ∧ 0 ≤ now ∧ 1000000000 < now) ∨ (q.wr = true ∧ 0 ≤ now ∧ now ≤ 1000000000 ∧ ts < 0) ∨ (q.wr = true ∧ 0 ≤ now ∧ now ≤ 1000000000 ∧ 0 ≤ ts ∧ tg < 0) := by
        cases hqq : q.wr
        · exact Or.inl rfl
        · simp only [hqq, true_and] at hall ⊢
          omega
      clear hall
      rcases hcase with h1 | ⟨h1, h2⟩ | ⟨h1, h2, h3⟩ | ⟨h1, h2, h3, h4⟩ | ⟨h1, h2, h3, h4, h5⟩
      all_goals
        rw [h1] at q0
        go_wp2
        go_ret
        exact ⟨rfl, HBH.out⟩
    case pos =>
      obtain ⟨h1, h2, h3, h4, h5⟩ := hall
      rw [h1] at q0
      have hLl : L.length ≤ 10 := by simp only [lightsB, Bool.and_eq_true, decide_eq_true_eq] at hlb; exact hlb.1
      have HG : Hid (Goods L ∧ L.length ≤ 10 ∧ (∃ r ∈ L, r.wr = true) ∧ (∀ r ∈ L, r.At w)) := by
        refine ⟨goods_of hgb, hLl, ⟨q, by rw [hL.out]; simp, h1⟩, fun r hr => ?_⟩
        rw [hL.out, List.mem_append, List.mem_singleton] at hr
        rcases hr with hr | rfl
        · exact hl.2.1 r hr
        · exact hq
      clear hlb hL hq
      go_wp2_with fail
      go_loopw [11] (fun iv wr => ∃ k : Nat, k ≤ l.length ∧ iv = .int .i64 k ∧ w3 = wr) (fun iv _ => l.length - (intOf iv).toNat)
      case atStart => exact ⟨0, by omega, rfl, rfl⟩
      case round =>
        obtain ⟨k, hk, rfl, rfl⟩ := hrel
        by_cases hkl : k < l.length
        · rcases hl.form with h0 | ⟨b, o, rfl⟩
          · rw [h0] at hkl; exact absurd hkl (Nat.not_lt_zero _)
          obtain ⟨c0, c1, c2, c3, c4, c5⟩ := (hl.later HBH.out).cells hkl
          clear c1 c2 c3 c4 c5
          have l0 := lt_of_cell c0
          have i0 : decide ((k : Int) < 0) = false := decide_eq_false (by omega)
          have i1 : decide ((l.length : Int) ≤ (k : Int)) = false := decide_eq_false (by omega)
          have i1' : decide (l.length ≤ k) = false := decide_eq_false (by omega)
          have i2 : decide ((k : Int) < (l.length : Int)) = true := decide_eq_true (by omega)
          cases hkw : l[k].wr
          · rw [hkw] at c0
            clear hkw
            go_wp2
            go_roundw
            case rel => exact ⟨k + 1, by omega, by go_num, by first | rfl | trivial⟩
            case measure => simp [intOf]; omega
          · rw [hkw] at c0
            clear hkw
            go_wp2
            go_ret
            exact ⟨rfl, HBH.out⟩
        · have i2 : decide ((k : Int) < (l.length : Int)) = false := decide_eq_false (by omega)
          clear hl ha hgb hlen x0 x1 x2 x3 y0 y1 y2 y3 q0
          go_wp2_with fail
          clear i2 hkl hk
          go_loopw [10, 12] (fun lv nv wr => ∃ (ll : List Rq) (a2 : Option Addr) (c2 k : Nat) (T : Tn), lv = .slice a2 ll.length c2 ∧ nv = .int .i64 k ∧ ReqsAt wr a2 ll ∧ Goods ll ∧ ll.length ≤ 10 ∧ ll.length ≤ c2 ∧ 0 ≤ T.s ∧ T.s ≤ 9223372036854775807 ∧ k + phi T.s T.g ≤ 8 ∧ (∃ r ∈ ll, r.wr = true) ∧ (∀ r ∈ ll, r.At w) ∧ (∀ b' o', a2 = some ⟨b', o', none⟩ → b' ≠ w.heap.size + 1) ∧
            FourAt wr (w.heap.size + 1) (.bool T.w) (.int .i64 T.g) (.int .i64 T.s) (.int .i64 T.p) ∧ Below w.heap.size w wr) (fun _ nv _ => 10 - (intOf nv).toNat)
          case atStart => exact ⟨L, a', c', 0, ⟨tw, tg, ts, tp⟩, rfl, rfl, hR, HG.out.1, HG.out.2.1, hcc, h4, h5', by show 0 + phi ts tg ≤ 8; have := phi_le ts tg h4; omega, HG.out.2.2.1, HG.out.2.2.2, HK.out, F1, HBH.out⟩
          case round =>
            clear hR F1 HBH S1
            obtain ⟨ll, a2, c2, k, T, rfl, rfl, hll, hg, h10, hcap, s0, s2, hphi, hwr, hat, hne, F1, HB⟩ := hrel
            have he : ll ≠ [] := fun h => by obtain ⟨r, hr, _⟩ := hwr; rw [h] at hr; cases hr
            rcases hll.form with h0 | ⟨b, o, rfl⟩
            · exact absurd h0 he
            have hnb := hne b o rfl
            clear hne
            obtain ⟨i, T', hN, hC, _⟩ := nexts ll hg he b o c2 T now h2 h3 ⟨by omega, by omega⟩
            have hi := hN.lt
            have hstep := phi_step hN
            obtain ⟨tw', tg', ts', tp'⟩ := T
            obtain ⟨uw, ug, us, up⟩ := T'
            simp only at s0 s2 hphi hstep
            have HC : Hid (NextCall 19 b o c2 ll ⟨tw', tg', ts', tp'⟩ now i ⟨uw, ug, us, up⟩) := hC
            have HG2 : Hid (Goods ll ∧ (∃ r ∈ ll, r.wr = true) ∧ (∀ r ∈ ll, r.At w)) := ⟨hg, hwr, hat⟩
            have HP : Hid (uw = false → k + 1 + phi us ug ≤ 8 ∧ 0 ≤ us ∧ us ≤ 9223372036854775807) := fun h => by
              have := hstep h hwr s0 s2
              omega
            have k10 : decide ((k : Int) < 10) = true := decide_eq_true (by omega)
            have k10' : decide (k < 10) = true := decide_eq_true (by omega)
            have hk9 : k ≤ 8 := by omega
            clear hC hg hwr hat hN hstep hphi s0 s2
            obtain ⟨⟨x0, x1, x2, x3⟩, ⟨y0, y1, y2, y3⟩⟩ := id F1
            go_wp2_with fail
            refine (HC.out _ hll).mono ?_
            rintro e w4 ⟨rfl, hb⟩
            clear x0 x1 x2 x3 y0 y1 y2 y3 HC
            replace F1 := F1.later hb
            replace hll := hll.later hb
            replace HB := bthen HB hb
            clear hb
            obtain ⟨⟨x0, x1, x2, x3⟩, ⟨y0, y1, y2, y3⟩⟩ := id F1
            cases uw
            · go_wp2_with fail
              refine (take_any ll b o c2 _ (hll.later (by repeat (first | with_reducible exact Below.refl _ _ | with_reducible refine balloc ?_ _ | with_reducible refine bdrew ?_ | with_reducible refine bset' ?_ (by omega) _ | with_reducible refine bthen ?_ (by assumption)))) (by omega) hcap i hi).mono ?_
              rintro e w5 ⟨v, rfl, hown, hb⟩
              clear x0 x1 x2 x3 y0 y1 y2 y3
              have l1 := lt_of_cell F1.1.1
              have hz5 := hb.size
              rw [World.size_alloc] at hz5
              replace F1 := F1.later (bthen (below1 _ _) hb)
              have F2 : FourAt w5 w4.heap.size (.bool false) (.int .i64 ug) (.int .i64 us) (.int .i64 up) := ⟨(four1 hb).1, (four1 hb).2.1⟩
              replace HB : Below w.heap.size w w5 := bthen (bthen HB (below1 _ _)) hb
              rw [World.size_alloc] at hown
              have hlen' : (ll.take i ++ ll.drop (i + 1) ++ [ll[i]]).length = ll.length := by simp; omega
              have hat' : ∀ r ∈ ll.take i ++ ll.drop (i + 1) ++ [ll[i]], r.At w := fun r hr => HG2.out.2.2 r (by
                rcases List.mem_append.1 hr with hr | hr
                · rcases List.mem_append.1 hr with h' | h'
                  · exact List.mem_of_mem_take h'
                  · exact List.mem_of_mem_drop h'
                · rw [List.mem_singleton.1 hr]; exact List.getElem_mem _)
              have HX : Hid (Goods (ll.take i ++ ll.drop (i + 1) ++ [ll[i]]) ∧ (∃ r ∈ ll.take i ++ ll.drop (i + 1) ++ [ll[i]], r.wr = true) ∧ (∀ r ∈ ll.take i ++ ll.drop (i + 1) ++ [ll[i]], r.At w) ∧ (ll.take i ++ ll.drop (i + 1) ++ [ll[i]]).length = ll.length) := by
                refine ⟨HG2.out.1.anew i hi, ?_, hat', hlen'⟩
                obtain ⟨r, hr, hrw⟩ := HG2.out.2.1
                refine ⟨r, ?_, hrw⟩
                rw [← List.take_append_drop i ll, ← List.getElem_cons_drop hi] at hr
                simp only [List.mem_append, List.mem_cons, List.mem_singleton] at hr ⊢
                rcases hr with h | h | h
                · exact Or.inl (Or.inl h)
                · exact Or.inr (Or.inl h)
                · exact Or.inl (Or.inr h)
              clear hb hll hat' hlen'
              generalize ll[i] = r at hown HX ⊢
              generalize ll.take i ++ ll.drop (i + 1) = l2 at hown HX ⊢
              have hl2 : l2.length = ll.length - 1 := by have := HX.out.2.2.2; simp at this; omega
              have hpos : 0 < ll.length := by omega
              have HL2 : Hid (l2.length = ll.length - 1) := hl2
              clear hl2
              obtain ⟨inf, g1, g2, g3, g4⟩ := pluck infoR
              go_wp2_with (at_builtin; (refine wpList_append_row rfl _ _ 38 rfl (w4.heap.size + 1) 32 inf _ 6 80 Try.underlying38 g1 g2 g3 g4 rfl (by decide) v (ll.length - 1) (rcells l2) rfl (own_later hown (by repeat (first | with_reducible exact Below.refl _ _ | with_reducible refine balloc ?_ _ | with_reducible refine bdrew ?_ | with_reducible refine bset' ?_ (by omega) _ | with_reducible refine bthen ?_ (by assumption)))) _ 1 1 (rcells [r]) rfl (row_six r (by simp [SixAt])) (by unfold maxLen; omega) (by omega) (by simp; omega) ?_; intro v6 w6 hown6 hb6); (replace F1 := (F1.later (below2 _ _ _)).below hb6 (by omega)); (replace F2 := (F2.later (below2 _ _ _)).below hb6 (by omega)); (have HB6 : Hid (Below w.heap.size w w6) := Below.trans (bthen HB (below2 _ _ _)) (hb6.mono (by omega))); (rw [← rcells_append] at hown6); (obtain ⟨a6, c6, rfl, hR6, hcc6, _, _, hblk6⟩ := reqs_of_owned hown6 (fun x hx => (HX.out.2.2.1 x hx).later HB6.out) (by have := HX.out.2.2.2; omega) (by have := HX.out.2.2.2; omega)); (have HY : Hid ((∀ b' o', a6 = some ⟨b', o', none⟩ → b' ≠ w.heap.size + 1)) := (fun b' o' hh => by have := (hblk6 _ hh).1; simp only at this; omega)); (clear hblk6 hown6 hb6 HB hown); (obtain ⟨⟨x0, x1, x2, x3⟩, ⟨y0, y1, y2, y3⟩⟩ := id F1); (obtain ⟨⟨m0, m1, m2, m3⟩, ⟨f0, f1, f2, f3⟩⟩ := id F2); (have z1 := lt_of_cell x0); (have z2 := lt_of_cell m0); (have hne1 : ¬ w4.heap.size = w.heap.size + 1 := by omega); (have hne2 : ¬ w.heap.size + 1 = w4.heap.size := by omega); (generalize l2 ++ [r] = l6 at HX hR6 hcc6 ⊢))
              go_roundw
              case rel =>
                obtain ⟨p1, p2, p3⟩ := HP.out trivial
                refine ⟨l6, a6, c6, k + 1, ⟨false, ug, us, up⟩, rfl, by go_num, hR6.set4 HB6.out HX.out.2.2.1 (by omega) HY.out _ _ _ _, HX.out.1, by have := HX.out.2.2.2; omega, hcc6, p2, p3, p1, HX.out.2.1, HX.out.2.2.1, HY.out, F1.set4 _ _ _ _, ?_⟩
                exact bset' (bset' (bset' (bset' HB6.out (by omega) _) (by omega) _) (by omega) _) (by omega) _
              case measure => simp [intOf]; omega
            · go_wp2
              go_ret
              exact ⟨rfl, by repeat (first | with_reducible exact Below.refl _ _ | with_reducible refine balloc ?_ _ | with_reducible refine bdrew ?_ | with_reducible refine bset' ?_ (by omega) _ | with_reducible refine bthen ?_ (by assumption))⟩
end Go.Proofs.Ytfdmchhaiikeaab
