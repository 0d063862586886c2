/- TopEnds: in which order the disk ends what has no sector in common changes nothing. The walk. -/
import Derived.Test.YtpmjgofjdejeeacDev12
namespace Go.Proofs.Ytpmjgofjdejeeac
open Go.RowKit Go.BigFrame
attribute [local go_sem] Later.cell Later.frozen

theorem run_assertN (n : Int) (w : World) : Sem.run Try.prog (Instr.typeAssert (.iface 47 (.int .i64 n)) 45 47 true) w = .ok (.tuple #[.int .i64 n, .bool true]) w := by kernel_rfl
set_option maxHeartbeats 400000 in
theorem number_err (n : Int) (w : World) : Calls Try.prog 52 #[.iface 47 (.int .i64 n)] w fun e w' => e = .returned (.int .i64 n) ∧ Below w.heap.size w w' := by
  have ra := run_assertN n
  go_enter Try.func52, Try.ntmps52
  go_wp2
  go_ret
  exact ⟨rfl, Below.refl _ _⟩
/-- A block that neither device has. -/
structure Kept (k : Nat) (w0 : World) (bc : Nat) (ac : An) (bd : Nat) (ad : An) (wr : World) : Prop where
  same : wr.heap[k]? = w0.heap[k]?
  lt : k < wr.heap.size
  nc : ¬ ac.foot bc k
  nd : ¬ ad.foot bd k
theorem Kept.stepC {k : Nat} {w0 wr wr' : World} {bc bd : Nat} {dc dc' : Dl} {ac ac' ad : An} (h : Kept k w0 bc ac bd ad wr) (hs : DStep bc dc ac dc' ac' wr wr') : Kept k w0 bc ac' bd ad wr' :=
  ⟨(hs.only.block k h.lt h.nc).trans h.same, Nat.lt_of_lt_of_le h.lt hs.only.size, fun e => (hs.foot k e).elim h.nc (fun h' => by have := h.lt; omega), h.nd⟩
theorem Kept.stepD {k : Nat} {w0 wr wr' : World} {bc bd : Nat} {dd dd' : Dl} {ac ad ad' : An} (h : Kept k w0 bc ac bd ad wr) (hs : DStep bd dd ad dd' ad' wr wr') : Kept k w0 bc ac bd ad' wr' :=
  ⟨(hs.only.block k h.lt h.nd).trans h.same, Nat.lt_of_lt_of_le h.lt hs.only.size, h.nc, fun e => (hs.foot k e).elim h.nd (fun h' => by have := h.lt; omega)⟩
theorem Kept.later {k : Nat} {w0 wr wr' : World} {bc bd : Nat} {ac ad : An} (h : Kept k w0 bc ac bd ad wr) (hb : Below wr.heap.size wr wr') : Kept k w0 bc ac bd ad wr' :=
  ⟨(hb.block k h.lt).trans h.same, Nat.lt_of_lt_of_le h.lt hb.size, h.nc, h.nd⟩
theorem ResBox.kept {w0 wr : World} {q n xc : Nat} {r : Rq} {xa : Option Addr} {er : Int} {bc bd : Nat} {ac ad : An} (h : ResBox w0 q r xa n xc er) (hk : Kept q w0 bc ac bd ad wr) : ResBox wr q r xa n xc er := by
  obtain ⟨h0, h1, h2, h3, h4, h5, h6, h7⟩ := h
  have e : ∀ o, wr.cell? ⟨q, o, none⟩ = w0.cell? ⟨q, o, none⟩ := fun o => World.cell?_of_block (a := ⟨q, o, none⟩) hk.same
  exact ⟨(e 0).trans h0, (e 1).trans h1, (e 2).trans h2, (e 3).trans h3, (e 4).trans h4, (e 5).trans h5, (e 6).trans h6, (e 7).trans h7⟩
theorem kept_strs {w0 wr : World} {xa : Option Addr} {xs : List ByteArray} (h : StrsAt w0 xa xs) (hk : xs ≠ [] → ∀ ad, xa = some ad → wr.heap[ad.block]? = w0.heap[ad.block]?) : StrsAt wr xa xs := by
  rcases h with h | ⟨b, o, ha, hc⟩
  · exact Or.inl h
  · by_cases he : xs = []
    · exact Or.inl he
    · refine Or.inr ⟨b, o, ha, fun i hi => ?_⟩
      rw [World.cell?_of_block (a := ⟨b, o + i, none⟩) (hk he ⟨b, o, none⟩ ha)]
      exact hc i hi
theorem two_new {w5 w6 w7 : World} (hd6 : DevAt w5.heap.size d0 an0 w6) (hb6 : Below w5.heap.size w5 w6) (hz6 : w6.heap.size = w5.heap.size + 1) (hd7 : DevAt w6.heap.size d0 an0 w7) (hb7 : Below w6.heap.size w6 w7) : Two w5 w5.heap.size d0 an0 w6.heap.size d0 an0 w7 where
  c := hd6.later hb7
  d := hd7
  apart := fun k h1 h2 => by rw [an0_foot h1] at h2; have := an0_foot h2; omega
  fc := fun k hk => by rw [an0_foot hk]; exact Nat.le_refl _
  fd := fun k hk => by rw [an0_foot hk]; omega
  rc := fun r hr => by cases hr
  rd := fun r hr => by cases hr
  bel := bthen hb6 hb7
set_option maxRecDepth 100000 in
set_option maxHeartbeats 4000000 in
theorem te_walk (a b : Rq) (w : World) (ha : a.At w) (hb : b.At w) :
    Calls Try.prog 7 #[a.val, b.val] w fun e w' => e = .returned (.bool true) ∧ Below w.heap.size w w' := by
  have HA := hidT ha
  have HBB := hidT hb
  have hM : meetB 0 2 1 1 = true := by decide +kernel
  have HM := hidT hM
  clear ha hb hM
  go_enter Try.func7, Try.ntmps7
  go_wp2_with fail
  have HX0 := hidT ((box_new w 38 a).later (below1 _ (.cells #[.bool b.wr, .int .i64 b.f, .int .i64 b.m, .slice b.da b.data.length b.dc, .slice b.ta b.tags.length b.tc, .int .i64 b.born] 38)))
  have HY0 := hidT (box_new (w.alloc (.cells #[.bool a.wr, .int .i64 a.f, .int .i64 a.m, .slice a.da a.data.length a.dc, .slice a.ta a.tags.length a.tc, .int .i64 a.born] 38)) 38 b)
  rw [World.size_alloc] at HY0
  cases hla : lightB a
  · refine (light_any a _ (HA.out.later (by repeat (first | with_reducible exact Below.refl _ _ | with_reducible refine balloc ?_ _ | with_reducible refine bdrew ?_ | with_reducible refine bset' ?_ (by omega) _ | with_reducible refine bthen ?_ (by assumption)))) _ hla).mono ?_
    rintro e w1 ⟨rfl, hb1⟩
    go_wp2_with fail
    refine (meet_eq 0 2 1 1 _ _ HM.out).mono ?_
    rintro e w2 ⟨rfl, hb2⟩
    go_wp2
    go_ret
    exact ⟨rfl, by repeat (first | with_reducible exact Below.refl _ _ | with_reducible refine balloc ?_ _ | with_reducible refine bdrew ?_ | with_reducible refine bset' ?_ (by omega) _ | with_reducible refine bthen ?_ (by assumption))⟩
  refine (light_any a _ (HA.out.later (by repeat (first | with_reducible exact Below.refl _ _ | with_reducible refine balloc ?_ _ | with_reducible refine bdrew ?_ | with_reducible refine bset' ?_ (by omega) _ | with_reducible refine bthen ?_ (by assumption)))) _ hla).mono ?_
  rintro e w1 ⟨rfl, hb1⟩
  have HX1 := HX0.out.later hb1
  have HY1 := HY0.out.later hb1
  have HB1 := (show Below w.heap.size w w1 by repeat (first | with_reducible exact Below.refl _ _ | with_reducible refine balloc ?_ _ | with_reducible refine bdrew ?_ | with_reducible refine bset' ?_ (by omega) _ | with_reducible refine bthen ?_ (by assumption)))
  obtain ⟨x0, x1, x2, x3, x4, x5⟩ := id HX1
  obtain ⟨y0, y1, y2, y3, y4, y5⟩ := id HY1
  clear hb1 hla HX0 HY0
  go_wp2_with fail
  cases hlb : lightB b
  · refine (light_any b _ (HBB.out.later HB1) _ hlb).mono ?_
    rintro e w2 ⟨rfl, hb2⟩
    go_wp2_with fail
    refine (meet_eq 0 2 1 1 _ _ HM.out).mono ?_
    rintro e w3 ⟨rfl, hb3⟩
    go_wp2
    go_ret
    exact ⟨rfl, by repeat (first | with_reducible exact Below.refl _ _ | with_reducible refine balloc ?_ _ | with_reducible refine bdrew ?_ | with_reducible refine bset' ?_ (by omega) _ | with_reducible refine bthen ?_ (by assumption))⟩
  refine (light_any b _ (HBB.out.later HB1) _ hlb).mono ?_
  rintro e w2 ⟨rfl, hb2⟩
  have HX2 := HX1.later hb2; have HY2 := HY1.later hb2; have HB2 := bthen HB1 hb2; clear x0 x1 x2 x3 x4 x5 y0 y1 y2 y3 y4 y5; obtain ⟨x0, x1, x2, x3, x4, x5⟩ := id HX2; obtain ⟨y0, y1, y2, y3, y4, y5⟩ := id HY2; clear hb2 HX1 HY1 HB1
  clear hlb
  go_wp2_with fail
  by_cases hfa : faultR a = 0
  case neg =>
    have HF := hidT hfa
    clear hfa
    refine (rcheck_err a _ (HA.out.later HB2) HF.out).mono ?_
    rintro e w3 ⟨rfl, hb3⟩
    go_wp2_with fail
    refine (meet_eq 0 2 1 1 _ _ HM.out).mono ?_
    rintro e w4 ⟨rfl, hb4⟩
    go_wp2
    go_ret
    exact ⟨rfl, by repeat (first | with_reducible exact Below.refl _ _ | with_reducible refine balloc ?_ _ | with_reducible refine bdrew ?_ | with_reducible refine bset' ?_ (by omega) _ | with_reducible refine bthen ?_ (by assumption))⟩
  have GA := hidT ((good_iff a).1 hfa)
  refine (rcheck_nil a _ (HA.out.later HB2) hfa).mono ?_
  rintro e w3 ⟨rfl, hb3⟩
  have HX3 := HX2.later hb3; have HY3 := HY2.later hb3; have HB3 := bthen HB2 hb3; clear x0 x1 x2 x3 x4 x5 y0 y1 y2 y3 y4 y5; obtain ⟨x0, x1, x2, x3, x4, x5⟩ := id HX3; obtain ⟨y0, y1, y2, y3, y4, y5⟩ := id HY3; clear hb3 HX2 HY2 HB2
  clear hfa
  go_wp2_with fail
  by_cases hfb : faultR b = 0
  case neg =>
    have HF := hidT hfb
    clear hfb
    refine (rcheck_err b _ (HBB.out.later HB3) HF.out).mono ?_
    rintro e w4 ⟨rfl, hb4⟩
    go_wp2_with fail
    refine (meet_eq 0 2 1 1 _ _ HM.out).mono ?_
    rintro e w5 ⟨rfl, hb5⟩
    go_wp2
    go_ret
    exact ⟨rfl, by repeat (first | with_reducible exact Below.refl _ _ | with_reducible refine balloc ?_ _ | with_reducible refine bdrew ?_ | with_reducible refine bset' ?_ (by omega) _ | with_reducible refine bthen ?_ (by assumption))⟩
  have GB := hidT ((good_iff b).1 hfb)
  refine (rcheck_nil b _ (HBB.out.later HB3) hfb).mono ?_
  rintro e w4 ⟨rfl, hb4⟩
  have HX4 := HX3.later hb4; have HY4 := HY3.later hb4; have HB4 := bthen HB3 hb4; clear x0 x1 x2 x3 x4 x5 y0 y1 y2 y3 y4 y5; obtain ⟨x0, x1, x2, x3, x4, x5⟩ := id HX4; obtain ⟨y0, y1, y2, y3, y4, y5⟩ := id HY4; clear hb4 HX3 HY3 HB3
  clear hfb
  go_wp2_with fail
  cases hme : meetB a.f a.m b.f b.m
  case true =>
    refine (meet_eq _ _ _ _ _ _ hme).mono ?_
    rintro e w5 ⟨rfl, hb5⟩
    go_wp2_with fail
    refine (meet_eq 0 2 1 1 _ _ HM.out).mono ?_
    rintro e w6 ⟨rfl, hb6⟩
    go_wp2
    go_ret
    exact ⟨rfl, by repeat (first | with_reducible exact Below.refl _ _ | with_reducible refine balloc ?_ _ | with_reducible refine bdrew ?_ | with_reducible refine bset' ?_ (by omega) _ | with_reducible refine bthen ?_ (by assumption))⟩
  have HAP := hidT (meet_apart GA.out GB.out hme)
  refine (meet_eq _ _ _ _ _ _ hme).mono ?_
  rintro e w5 ⟨rfl, hb5⟩
  have HX5 := HX4.later hb5; have HY5 := HY4.later hb5; have HB5 := bthen HB4 hb5; clear x0 x1 x2 x3 x4 x5 y0 y1 y2 y3 y4 y5; obtain ⟨x0, x1, x2, x3, x4, x5⟩ := id HX5; obtain ⟨y0, y1, y2, y3, y4, y5⟩ := id HY5; clear hb5 HX4 HY4 HB4
  have HA5 := hidT (HA.out.later HB5)
  have HBA5 := hidT (HBB.out.later HB5)
  have HX := hidT HX5
  have HY := hidT HY5
  have HW5 := hidT HB5
  clear hme x0 x1 x2 x3 x4 x5 y0 y1 y2 y3 y4 y5 HX5 HY5 HB5 HA HBB
  go_wp2_with fail
  refine (new_any _).mono ?_
  rintro e w6 ⟨rfl, hd6, hb6, hz6⟩
  go_wp2_with fail
  refine (new_any _).mono ?_
  rintro e w7 ⟨rfl, hd7, hb7, hz7⟩
  have T7 : Hid (Two w5 w5.heap.size d0 an0 w6.heap.size d0 an0 w7) := two_new hd6 hb6 hz6 hd7 hb7
  clear hd6 hb6 hz6 hd7 hb7 hz7
  (try clear x0 x1 x2 x3 x4 x5 y0 y1 y2 y3 y4 y5); obtain ⟨x0, x1, x2, x3, x4, x5⟩ := HX.out.later T7.out.bel; obtain ⟨y0, y1, y2, y3, y4, y5⟩ := HY.out.later T7.out.bel
  go_wp2_with fail
  refine (start_ok _ d0 an0 a _ T7.out.c (by decide) (HA5.out.later T7.out.bel) (off_of HA5.out T7.out.fc)).mono ?_
  rintro e w8 ⟨a8, rfl, hs8⟩
  have T8 : Hid (Two w5 w5.heap.size { d0 with busy := [a] } a8 w6.heap.size d0 an0 w8) := T7.out.stepC hs8 (fun r hr => by obtain rfl := List.mem_singleton.1 hr; exact HA5.out)
  clear hs8 T7
  (try clear x0 x1 x2 x3 x4 x5 y0 y1 y2 y3 y4 y5); obtain ⟨x0, x1, x2, x3, x4, x5⟩ := HX.out.later T8.out.bel; obtain ⟨y0, y1, y2, y3, y4, y5⟩ := HY.out.later T8.out.bel
  go_wp2_with fail
  refine (start_ok _ { d0 with busy := [a] } a8 b _ T8.out.c (by simp) (HBA5.out.later T8.out.bel) (off_of HBA5.out T8.out.fc)).mono ?_
  rintro e w9 ⟨a9, rfl, hs9⟩
  have T9 : Hid (Two w5 w5.heap.size { d0 with busy := [a, b] } a9 w6.heap.size d0 an0 w9) := T8.out.stepC hs9 (fun r hr => by rcases List.mem_cons.1 hr with rfl | hr; exact HA5.out; obtain rfl := List.mem_singleton.1 hr; exact HBA5.out)
  clear hs9 T8
  (try clear x0 x1 x2 x3 x4 x5 y0 y1 y2 y3 y4 y5); obtain ⟨x0, x1, x2, x3, x4, x5⟩ := HX.out.later T9.out.bel; obtain ⟨y0, y1, y2, y3, y4, y5⟩ := HY.out.later T9.out.bel
  go_wp2_with fail
  refine (start_ok _ d0 an0 a _ T9.out.d (by decide) (HA5.out.later T9.out.bel) (off_of HA5.out T9.out.fd)).mono ?_
  rintro e wA ⟨aA, rfl, hsA⟩
  have TA : Hid (Two w5 w5.heap.size { d0 with busy := [a, b] } a9 w6.heap.size { d0 with busy := [a] } aA wA) := T9.out.stepD hsA (fun r hr => by obtain rfl := List.mem_singleton.1 hr; exact HA5.out)
  clear hsA T9
  (try clear x0 x1 x2 x3 x4 x5 y0 y1 y2 y3 y4 y5); obtain ⟨x0, x1, x2, x3, x4, x5⟩ := HX.out.later TA.out.bel; obtain ⟨y0, y1, y2, y3, y4, y5⟩ := HY.out.later TA.out.bel
  go_wp2_with fail
  refine (start_ok _ { d0 with busy := [a] } aA b _ TA.out.d (by simp) (HBA5.out.later TA.out.bel) (off_of HBA5.out TA.out.fd)).mono ?_
  rintro e wB ⟨aB, rfl, hsB⟩
  have TB : Hid (Two w5 w5.heap.size { d0 with busy := [a, b] } a9 w6.heap.size { d0 with busy := [a, b] } aB wB) := TA.out.stepD hsB (fun r hr => by rcases List.mem_cons.1 hr with rfl | hr; exact HA5.out; obtain rfl := List.mem_singleton.1 hr; exact HBA5.out)
  clear hsB TA
  (try clear x0 x1 x2 x3 x4 x5 y0 y1 y2 y3 y4 y5); obtain ⟨x0, x1, x2, x3, x4, x5⟩ := HX.out.later TB.out.bel; obtain ⟨y0, y1, y2, y3, y4, y5⟩ := HY.out.later TB.out.bel
  go_wp2_with fail
  refine (start_full _ { d0 with busy := [a, b] } a9 a _ TB.out.c rfl).mono ?_
  rintro e wC ⟨rfl, hbC⟩
  go_wp2_with fail
  refine (number_err 7 _).mono ?_
  rintro e wD ⟨rfl, hbD⟩
  have TD := hidT ((TB.out.later hbC).later hbD)
  clear hbC hbD TB x0 x1 x2 x3 x4 x5 y0 y1 y2 y3 y4 y5
  go_wp2_with fail
  refine (end_at _ { d0 with busy := [a, b] } a9 [a, b] 0 a rfl rfl _ TD.out.c GA.out).mono ?_
  rintro e wE ⟨aE, xa, xc, xs, rfl, hxs, hst, hxb, hsE⟩
  have TE : Hid (Two w5 w5.heap.size (({ d0 with busy := [b] } : Dl).did a) aE w6.heap.size { d0 with busy := [a, b] } aB wE) := TD.out.stepC hsE (fun r hr => by rw [Dl.did_busy] at hr; obtain rfl := List.mem_singleton.1 hr; exact HBA5.out)
  have hqE : Kept wE.heap.size (wE.alloc (.cells #[.bool a.wr, .int .i64 a.f, .int .i64 a.m, .slice a.da a.data.length a.dc, .slice a.ta a.tags.length a.tc, .int .i64 a.born, .slice xa xs.length xc, .int .i64 0] 49)) w5.heap.size aE w6.heap.size aB (wE.alloc (.cells #[.bool a.wr, .int .i64 a.f, .int .i64 a.m, .slice a.da a.data.length a.dc, .slice a.ta a.tags.length a.tc, .int .i64 a.born, .slice xa xs.length xc, .int .i64 0] 49)) :=
    ⟨rfl, by simp, fun e => by have := TE.out.c.footLt _ e; omega, fun e => by have := TE.out.d.footLt _ e; omega⟩
  have hxE : ∀ ad, xa = some ad → xs ≠ [] → Kept ad.block (wE.alloc (.cells #[.bool a.wr, .int .i64 a.f, .int .i64 a.m, .slice a.da a.data.length a.dc, .slice a.ta a.tags.length a.tc, .int .i64 a.born, .slice xa xs.length xc, .int .i64 0] 49)) w5.heap.size aE w6.heap.size aB (wE.alloc (.cells #[.bool a.wr, .int .i64 a.f, .int .i64 a.m, .slice a.da a.data.length a.dc, .slice a.ta a.tags.length a.tc, .int .i64 a.born, .slice xa xs.length xc, .int .i64 0] 49)) := fun ad had hne =>
    ⟨rfl, by have := strs_lt hst hne had; simp; omega, (hxb ad had).2, fun e => by have := TD.out.d.footLt _ e; have := (hxb ad had).1; omega⟩
  have hresE := res_new wE 49 a xa xs.length xc 0
  have hstE := hst.later (below1 wE (.cells #[.bool a.wr, .int .i64 a.f, .int .i64 a.m, .slice a.da a.data.length a.dc, .slice a.ta a.tags.length a.tc, .int .i64 a.born, .slice xa xs.length xc, .int .i64 0] 49))
  have TF := TE.out.later (below1 wE (.cells #[.bool a.wr, .int .i64 a.f, .int .i64 a.m, .slice a.da a.data.length a.dc, .slice a.ta a.tags.length a.tc, .int .i64 a.born, .slice xa xs.length xc, .int .i64 0] 49))
  have HTF := hidT (⟨TF, hqE, hxE, hresE, hstE, hxs.out⟩ : _ ∧ _ ∧ _ ∧ _ ∧ _ ∧ _)
  clear hsE TE TD TF hqE hxE hresE hstE hxs hst hxb
  go_wp2_with fail
  generalize hWF : wE.alloc (.cells #[.bool a.wr, .int .i64 a.f, .int .i64 a.m, .slice a.da a.data.length a.dc, .slice a.ta a.tags.length a.tc, .int .i64 a.born, .slice xa xs.length xc, .int .i64 0] 49) = wF at *
  clear hWF
  obtain ⟨TF, hqF, hxF, hresF, hstF, hxsF⟩ := HTF.out
  refine (end_at _ (({ d0 with busy := [b] } : Dl).did a) aE [b] 0 b (Dl.did_busy _ _) rfl _ TF.c GB.out).mono ?_
  rintro e wG ⟨aG, xa2, xc2, xs2, rfl, -, -, -, hsG⟩
  have TG := TF.stepC hsG (fun r hr => by rw [Dl.did_busy] at hr; cases hr)
  have hqG := hqF.stepC hsG
  have hxG := fun ad h1 h2 => (hxF ad h1 h2).stepC hsG
  have HTG := hidT (⟨TG, hqG, hxG, hresF, hstF, hxsF⟩ : _ ∧ _ ∧ _ ∧ _ ∧ _ ∧ _)
  clear hsG TG hqG hxG hresF hstF hxsF TF hqF hxF HTF
  go_wp2_with fail
  obtain ⟨TG, hqG, hxG, hresF, hstF, hxsF⟩ := HTG.out
  have TH := TG.later (below1 wG (.cells #[.bool b.wr, .int .i64 b.f, .int .i64 b.m, .slice b.da b.data.length b.dc, .slice b.ta b.tags.length b.tc, .int .i64 b.born, .slice xa2 xs2.length xc2, .int .i64 0] 49))
  have hqH := hqG.later (below1 wG (.cells #[.bool b.wr, .int .i64 b.f, .int .i64 b.m, .slice b.da b.data.length b.dc, .slice b.ta b.tags.length b.tc, .int .i64 b.born, .slice xa2 xs2.length xc2, .int .i64 0] 49))
  have hxH := fun ad h1 h2 => (hxG ad h1 h2).later (below1 wG (.cells #[.bool b.wr, .int .i64 b.f, .int .i64 b.m, .slice b.da b.data.length b.dc, .slice b.ta b.tags.length b.tc, .int .i64 b.born, .slice xa2 xs2.length xc2, .int .i64 0] 49))
  refine (end_at _ { d0 with busy := [a, b] } aB [a, b] 1 b rfl rfl _ TH.d GB.out).mono ?_
  rintro e wI ⟨aI, xa3, xc3, xs3, rfl, -, -, -, hsI⟩
  have TI := TH.stepD hsI (fun r hr => by rw [Dl.did_busy] at hr; obtain rfl := List.mem_singleton.1 hr; exact HA5.out)
  have hqI := hqH.stepD hsI
  have hxI := fun ad h1 h2 => (hxH ad h1 h2).stepD hsI
  have HTI := hidT (⟨TI, hqI, hxI, hresF, hstF, hxsF⟩ : _ ∧ _ ∧ _ ∧ _ ∧ _ ∧ _)
  clear hsI TI hqI hxI hresF hstF hxsF TH hqH hxH TG hqG hxG HTG
  go_wp2_with fail
  obtain ⟨TI, hqI, hxI, hresF, hstF, hxsF⟩ := HTI.out
  have TJ := TI.later (below1 wI (.cells #[.bool b.wr, .int .i64 b.f, .int .i64 b.m, .slice b.da b.data.length b.dc, .slice b.ta b.tags.length b.tc, .int .i64 b.born, .slice xa3 xs3.length xc3, .int .i64 0] 49))
  have hqJ := hqI.later (below1 wI (.cells #[.bool b.wr, .int .i64 b.f, .int .i64 b.m, .slice b.da b.data.length b.dc, .slice b.ta b.tags.length b.tc, .int .i64 b.born, .slice xa3 xs3.length xc3, .int .i64 0] 49))
  have hxJ := fun ad h1 h2 => (hxI ad h1 h2).later (below1 wI (.cells #[.bool b.wr, .int .i64 b.f, .int .i64 b.m, .slice b.da b.data.length b.dc, .slice b.ta b.tags.length b.tc, .int .i64 b.born, .slice xa3 xs3.length xc3, .int .i64 0] 49))
  refine (end_at _ (({ d0 with busy := [a] } : Dl).did b) aI [a] 0 a (Dl.did_busy _ _) rfl _ TJ.d GA.out).mono ?_
  rintro e wK ⟨aK, ya, yc, ys, rfl, hys, hyt, hyb, hsK⟩
  have TK := TJ.stepD hsK (fun r hr => by rw [Dl.did_busy] at hr; cases hr)
  have hqK := hqJ.stepD hsK
  have hxK := fun ad h1 h2 => (hxJ ad h1 h2).stepD hsK
  obtain ⟨b1, b2, b3, b4, b5⟩ := GB.out.bndD
  obtain ⟨c1, c2, c3, c4, c5⟩ := GA.out.bndD
  have hys' : ys = xs := by
    rw [hys.out, hxsF]
    exact readTo_did d0 a b [a] (by show _ ≤ 32; omega) HAP.out
  subst hys'
  have hxl : ys.length ≤ 100 := by
    rw [hxsF]; unfold didRead; split
    · simp
    · rw [readTo_length]; omega
  have hres := hresF.kept hqK
  have hstr := kept_strs hstF (fun hne ad h1 => (hxK ad h1 hne).1)
  have HTK := hidT (⟨TK, hres, hstr, hyt, hxl⟩ : _ ∧ _ ∧ _ ∧ _ ∧ _)
  clear hsK TK hqK hxK hresF hstF hxsF TJ hqJ hxJ TI hqI hxI HTI hys hyt hyb hres hstr hxl
  go_wp2_with fail
  have hsw : ∀ p, (({ (({ d0 with busy := [b] } : Dl).did a) with busy := [b].eraseIdx 0 } : Dl).did b).has p = (({ (({ d0 with busy := [a] } : Dl).did b) with busy := [a].eraseIdx 0 } : Dl).did a).has p := fun p =>
    did_swap d0 a b [b] [a] [] p (by show _ ≤ 32; omega) (by show _ ≤ 32; omega) HAP.out
  have HSW := hidT hsw
  generalize (({ (({ d0 with busy := [b] } : Dl).did a) with busy := [b].eraseIdx 0 } : Dl).did b) = dC at *
  generalize (({ (({ d0 with busy := [a] } : Dl).did b) with busy := [a].eraseIdx 0 } : Dl).did a) = dD at *
  clear hsw
  obtain ⟨TK, hres, hstr, hyt, hxl⟩ := HTK.out
  have hbl := below1 wK (.cells #[.bool a.wr, .int .i64 a.f, .int .i64 a.m, .slice a.da a.data.length a.dc, .slice a.ta a.tags.length a.tc, .int .i64 a.born, .slice ya ys.length yc, .int .i64 0] 49)
  have HTL := hidT (⟨TK.later hbl, hres.later hbl, res_new wK 49 a ya ys.length yc 0, hstr.later hbl, hyt.later hbl, hxl⟩ : _ ∧ _ ∧ _ ∧ _ ∧ _ ∧ _)
  generalize wK.alloc (.cells #[.bool a.wr, .int .i64 a.f, .int .i64 a.m, .slice a.da a.data.length a.dc, .slice a.ta a.tags.length a.tc, .int .i64 a.born, .slice ya ys.length yc, .int .i64 0] 49) = wL at *
  clear TK hres hstr hyt hxl hbl HTK b1 b2 b3 b4 b5 c1 c2 c3 c4 c5
  go_loopw [15] (fun i wr => ∃ k : Nat, k ≤ 32 ∧ i = .int .i64 k ∧ Below wL.heap.size wL wr) (fun i _ => 32 - (intOf i).toNat)
  case atStart => exact ⟨0, by omega, rfl, Below.refl _ _⟩
  case round =>
    obtain ⟨k, hk, rfl, HBk⟩ := hrel
    obtain ⟨TL, hrx, hry, hsx, hsy, hxl⟩ := HTL.out
    by_cases hlt : k < 32
    · have hlt' : (k : Int) < 32 := by omega
      obtain ⟨s, hs⟩ : ∃ s, dC.now.getD k ByteArray.empty = s := ⟨_, rfl⟩
      have hs2 : dD.now.getD k ByteArray.empty = s := by rw [← hs]; exact (HSW.out k).symm
      have hss : (!(s.toList == s.toList)) = false := by simp
      have HS1 := hidT hs
      have HS2 := hidT hs2
      have HTC := hidT (TL.c.later HBk)
      have HTD := hidT (TL.d.later HBk)
      clear hs hs2
      clear TL hrx hry hsx hsy hxl
      go_wp2_with fail
      refine (peek_in _ dC _ k _ HTC.out hlt s HS1.out).mono ?_
      rintro e wM ⟨rfl, hbM⟩
      go_wp2_with fail
      refine (peek_in _ dD _ k _ (HTD.out.later hbM) hlt s HS2.out).mono ?_
      rintro e wN ⟨rfl, hbN⟩
      have HBN := hidT (bthen (bthen HBk hbM) hbN)
      clear hbM hbN
      go_wp2
      go_roundw
      case rel => exact ⟨k + 1, by omega, by go_num, HBN.out⟩
      case measure => simp [intOf]; omega
    · have hge : ¬ (k : Int) < 32 := by omega
      obtain ⟨x0, x1, x2, x3, x4, x5, x6, x7⟩ := hrx.later HBk
      obtain ⟨y0, y1, y2, y3, y4, y5, y6, y7⟩ := hry.later HBk
      have hra := hidT ((HA5.out.later TL.bel).later HBk)
      have HSX := hidT (⟨hsx.later HBk, hsy.later HBk, hxl⟩ : _ ∧ _ ∧ _)
      have HBW := hidT (bthen (HW5.out.trans (TL.bel.mono HW5.out.size)) HBk)
      clear TL hrx hry hsx hsy hxl
      go_wp2_with fail
      refine (sameRes_yes a ys xa ya ys.length xc yc rfl _ hra.out HSX.out.1 HSX.out.2.1 HSX.out.2.2).mono ?_
      rintro e wM ⟨rfl, hbM⟩
      go_wp2
      go_ret
      exact ⟨rfl, bthen HBW.out hbM⟩
end Go.Proofs.Ytpmjgofjdejeeac
