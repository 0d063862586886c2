/- DriverSays: the walk over all acts. -/
import Derived.Test.YthmeaclekedilacJ6
import Derived.Test.YthmeaclekedilacChecked
import Derived.Test.YthmeaclekedilacJ1
import Derived.ProofKit
import Derived.OpenShut
import Derived.Lib.SmallJoins
import Derived.Deep.Slices
import Derived.Deep.Strs
import Derived.Test.YthmeaclekedilacJ3
namespace Go.Proofs.Ythmeaclekedilac
open Go.RowKit Go.BigFrame Go.Maps
attribute [local go_sem] Later.cell Later.frozen

theorem didRead_tiedV {d : Dl} {m : Rd} (h : Tied d m) (r : Rq) : didRead d r = rdidRead m r := by
  unfold didRead rdidRead
  split
  · rfl
  · unfold readTo rreadTo; rw [h.now]
theorem didRead_leV (d : Dl) (r : Rq) (g : Good r) : (didRead d r).length ≤ 4 := by
  have := g.bndD
  unfold didRead
  split
  · simp
  · rw [readTo_length]; omega
theorem ActBox.onlyA {F : Nat → Prop} {w w' : World} {q : Nat} {x : Ac} (h : ActBox w q x) (hO : Only F w w') (hn : ¬ F q) : ActBox w' q x := by
  obtain ⟨h1, h2, h3, h4, h5, h6⟩ := h
  have hl := lt_of_cell h1
  exact ⟨(hO.cell (p := ⟨q, 1, none⟩) hl hn).trans h1, (hO.cell (p := ⟨q, 2, none⟩) hl hn).trans h2, (hO.cell (p := ⟨q, 3, none⟩) hl hn).trans h3, (hO.cell (p := ⟨q, 4, none⟩) hl hn).trans h4, (hO.cell (p := ⟨q, 5, none⟩) hl hn).trans h5, (hO.cell (p := ⟨q, 6, none⟩) hl hn).trans h6⟩
set_option linter.unusedSimpArgs false in
set_option maxRecDepth 100000 in
set_option maxHeartbeats 8000000 in
theorem dv_walk (l : List Ac) (la : Option Addr) (lc : Nat) (w : World) (hl : ActsAt w la l) (hin : ∀ x ∈ l, In64 x.n ∧ ∀ t ∈ x.req.tags, In64 t) :
    Calls Try.prog 4 #[.slice la l.length lc] w fun e w' => e = .returned (.bool true) ∧ Below w.heap.size w w' := by
  have HL := hidT hl
  have HIN := hidT hin
  clear hl hin
  go_enter Try.func4, Try.ntmps4
  go_wp2_with fail
  refine (drivers_any _).mono ?_
  rintro e w1 ⟨rfl, hb1⟩
  have HB1 := hidT hb1
  clear hb1
  go_wp2_with fail
  cases hla : lightsA l 60
  · refine (lightsA_any l la lc 60 _ (HL.out.later HB1.out) (by omega) _ hla).mono ?_
    rintro e w5 ⟨rfl, hb5⟩
    go_wp2
    go_ret
    exact ⟨rfl, bthen HB1.out hb5⟩
  refine (lightsA_any l la lc 60 _ (HL.out.later HB1.out) (by omega) _ hla).mono ?_
  rintro e w2 ⟨rfl, hb2⟩
  have h60 : l.length ≤ 60 := by simp only [lightsA, Bool.and_eq_true, decide_eq_true_eq] at hla; exact hla.1
  have HB2 := hidT (bthen HB1.out hb2)
  clear hb2 HB1 hla
  go_wp2_with fail
  refine (new_any _).mono ?_
  rintro e w3 ⟨rfl, hd3, hb3, hz3⟩
  have HD3 := hidT (⟨hd3, hb3, hz3⟩ : _ ∧ _ ∧ _)
  clear hd3 hb3 hz3
  go_wp2_with fail
  refine (vnew_any w2.heap.size d0 an0 _ HD3.out.1).mono ?_
  rintro e w4 ⟨rfl, hv4, hb4⟩
  have HV4 := hidT hv4
  have HB4 := hidT (bthen (bthen HB2.out HD3.out.2.1) hb4)
  have HZ4 : Hid (w3.heap.size = w2.heap.size + 1 ∧ w3.heap.size + 1 < w4.heap.size) := ⟨HD3.out.2.2, lt_of_heap hv4.blk⟩
  have HZ5 := hidT HB2.out.size
  clear hv4 hb4 HB2 HD3
  have hzv : ∀ w', Sem.run Try.prog (zeroValue 32) w' = .ok (.agg (m0.cells ra0).toArray) w' := fun _ => rfl
  have hmm := @run_makeMap Try.prog
  go_wp2_with fail
  have hD5 : ∃ (P : Pl) (c : Cv) (r : Rv), P = ⟨w3.heap.size + 1, w2.heap.size, w3.heap.size, w4.heap.size + 2, w4.heap.size, w4.heap.size + 1⟩ ∧ VD w P c r (fun _ => 0) 0 (((w4.alloc (.cells (m0.cells ra0).toArray 32)).alloc (.map #[] 0)).alloc (.cells #[.pointer (some ⟨w4.heap.size, 0, none⟩), .map (some (w4.heap.size + 1))] 65)) := by
    have hbA := below1 w4 (.cells (m0.cells ra0).toArray 32)
    have hbB := below1 (w4.alloc (.cells (m0.cells ra0).toArray 32)) (.map #[] 0)
    have hbC := below1 ((w4.alloc (.cells (m0.cells ra0).toArray 32)).alloc (.map #[] 0)) (.cells #[.pointer (some ⟨w4.heap.size, 0, none⟩), .map (some (w4.heap.size + 1))] 65)
    have hbN := bthen (bthen hbA hbB) hbC
    obtain ⟨h1, h2⟩ := HZ4.out
    have h3 := HZ5.out
    have hc := HV4.out.later hbN
    have hm := ((World.ownsMap_made (w4.alloc (.cells (m0.cells ra0).toArray 32)) Try.prog 3 (plainElem (H := Unit) Try.prog 3)).alloc (.cells #[.pointer (some ⟨w4.heap.size, 0, none⟩), .map (some (w4.heap.size + 1))] 65))
    rw [World.size_alloc] at hm
    have hr : RVAt (w4.heap.size + 2) w4.heap.size (w4.heap.size + 1) m0 ra0 0 (.map []) (((w4.alloc (.cells (m0.cells ra0).toArray 32)).alloc (.map #[] 0)).alloc (.cells #[.pointer (some ⟨w4.heap.size, 0, none⟩), .map (some (w4.heap.size + 1))] 65)) := by
      refine ⟨(m0_at _ _ (heap_alloc_new w4 _)).later (bthen hbB hbC), ?_, hm, fun k hk => by have := ra0_foot hk; omega⟩
      have := heap_alloc_new ((w4.alloc (.cells (m0.cells ra0).toArray 32)).alloc (.map #[] 0)) (.cells #[.pointer (some ⟨w4.heap.size, 0, none⟩), .map (some (w4.heap.size + 1))] 65)
      rw [World.size_alloc, World.size_alloc] at this
      exact this
    refine ⟨_, ⟨d0, an0, 0, .map []⟩, ⟨m0, ra0, 0, .map []⟩, rfl, ⟨⟨hc, hr, ?_, ?_, ?_, ?_, ?_, fun h => absurd rfl h, (fun q hq => by cases hq), (fun q hq => by cases hq), bthen HB4.out hbN⟩, rfl, (fun q hq => by cases hq), Tied.start, mapIs_new, mapIs_new, ⟨[], rfl⟩, ⟨[], rfl⟩, fun t => by omega, by simp, by simp, by simp [m0]⟩⟩
    · rintro k (e | e) (e' | e')
      · simp only at e e'; omega
      · have := ra0_foot e'; simp only at e this; omega
      · have := an0_foot e; simp only at e' this; omega
      · have := an0_foot e; have := ra0_foot e'; simp only at *; omega
    · rintro k (e | e)
      · simp only at e; omega
      · have := an0_foot e; simp only at this; omega
    · rintro k (e | e)
      · simp only at e; omega
      · have := ra0_foot e; simp only at this; omega
    · rintro (e | e)
      · simp only at e; omega
      · have := ra0_foot e; simp only at this; omega
    · rintro (e | e)
      · simp only at e; omega
      · have := an0_foot e; simp only at this; omega
  obtain ⟨P, c0, r0, hP, hD5⟩ := hD5
  have e1 : w3.heap.size + 1 = P.v1 := by rw [hP]
  have e2 : w2.heap.size = P.b1 := by rw [hP]
  have e3 : w4.heap.size + 2 = P.v2 := by rw [hP]
  have e4 : w4.heap.size = P.b2 := by rw [hP]
  refine wp_worldD (fun wK => VD w P c0 r0 (fun _ => 0) 0 wK) hD5 ?_
  intro w5 h5
  have H5 := hidT h5
  clear hD5 h5 HV4 HB4 HZ4 HZ5 hzv hmm hP
  rw [e1, e2]
  first | rw [show w4.heap.size + 1 + 1 = P.v2 from e3] | rw [e3]
  rw [e4]
  clear e1 e2 e3 e4
  generalize w4.heap.size + 1 = qq at *
  go_loopw [8] (fun i wr => ∃ (k : Nat) (c : Cv) (r : Rv) (f : Int → Int), k ≤ l.length ∧ i = .int .i64 k ∧ VD w P c r f k wr) (fun i _ => l.length - (intOf i).toNat)
  case atStart => exact ⟨0, _, _, _, by omega, rfl, H5.out⟩
  case round =>
    clear H5
    obtain ⟨k, c, r, f, hk, rfl, hdu⟩ := hrel
    have HDU := hidT hdu
    have HBr := hdu.half.bel
    clear hdu
    by_cases hlt : k < l.length
    case neg =>
      have hgt : ¬ (k : Int) < (l.length : Int) := by omega
      go_wp2
      go_ret
      exact ⟨rfl, HBr⟩
    have hlt' : (k : Int) < (l.length : Int) := by omega
    rcases HL.out.form with rfl | ⟨bl, ol, rfl⟩
    · exact absurd hlt (Nat.not_lt_zero _)
    have hla := HL.out.later HBr
    obtain ⟨c0, c1, c2, c3, c4, c5, c6, c7, c8⟩ := hla.cells hlt
    have HAT := hidT (HL.out.2.1 _ (List.getElem_mem hlt))
    have HNK := hidT (HIN.out _ (List.getElem_mem hlt))
    clear hla
    generalize hx : l[k] = x at *
    clear hx
    by_cases h1 : x.kind = ⟨#[115, 116, 97, 114, 116]⟩
    · rw [h1] at c0
      clear h1
      have hq := act_new wr 41 { x with kind := ⟨#[115, 116, 97, 114, 116]⟩ }
      have HQ := hidT hq
      have hbq := hidT (below1 wr (.cells #[.string ⟨#[115, 116, 97, 114, 116]⟩, .bool x.req.wr, .int .i64 x.req.f, .int .i64 x.req.m, .slice x.req.da x.req.data.length x.req.dc, .slice x.req.ta x.req.tags.length x.req.tc, .int .i64 x.req.born, .int .i64 x.n, .int .u64 x.k] 41))
      clear hq
      go_wp2_with fail
      by_cases hf : faultR x.req = 0
      case neg =>
        have HFP := hidT (fault_pos x.req hf)
        clear hf
        refine (rfault_any x.req _ (HAT.out.later (bthen HBr hbq.out)) _ rfl).mono ?_
        rintro e w5 ⟨rfl, hb5⟩
        have HD5 := hidT (HDU.out.later (bthen hbq.out hb5))
        have hfp := HFP.out
        clear hb5 HQ hbq c0 c1 c2 c3 c4 c5 c6 c7 c8
        go_wp2
        go_roundw
        case rel => exact ⟨k + 1, c, r, f, by omega, by go_num, HD5.out.more (by omega)⟩
        case measure => simp [intOf]; omega
      refine (rfault_any x.req _ (HAT.out.later (bthen HBr hbq.out)) _ hf).mono ?_
      rintro e w5 ⟨rfl, hb5⟩
      have HGX := hidT ((good_iff _).1 hf)
      have HD5 := hidT (HDU.out.later (bthen hbq.out hb5))
      have HQ5 := hidT (HQ.out.later hb5)
      have HDW := hidT HDU.out
      clear hb5 HQ hbq c0 c1 c2 c3 c4 c5 c6 c7 c8 hf HDU
      have eg1 : ∀ args w, Sem.run Try.prog (callFunc 28 args) w = .ok (.enter 28 args) w := by intro args w; go_simp
      have eg2 : ∀ args w, Sem.run Try.prog (callFunc 15 args) w = .ok (.enter 15 args) w := by intro args w; go_simp
      have eg3 : ∀ args w, Sem.run Try.prog (callFunc 13 args) w = .ok (.enter 13 args) w := by intro args w; go_simp
      have HS : Hid (ActBox w5.drew wr.heap.size { x with kind := ⟨#[115, 116, 97, 114, 116]⟩ }) := HQ5.out
      go_wp2_with fail
      refine region_till (S := fun wz => ActBox wz wr.heap.size { x with kind := ⟨#[115, 116, 97, 114, 116]⟩ }) (d := 9) (by kernel_rfl) ?_
      refine till_take (i := 0) (v := ?_) rfl (by kernel_rfl) (by kernel_rfl) (by kernel_rfl) (by kernel_rfl) (fun _ _ _ h => h) (Or.inl ⟨by rfl, ?_⟩) HS.out ?_; rotate_left; (focus (intro w0 hSw; obtain ⟨s1, s2, s3, s4, s5, s6⟩ := hSw; go_simp; (try with_reducible rfl))); (try simp only [Act.put, List.getElem_toArray, List.getElem_cons_succ, List.getElem_cons_zero, List.setIfInBounds_toArray, List.set_cons_zero, List.set_cons_succ])
      refine till_take (i := 1) (v := ?_) rfl (by kernel_rfl) (by kernel_rfl) (by kernel_rfl) (by kernel_rfl) (fun _ _ _ h => h) (Or.inl ⟨by rfl, ?_⟩) HS.out ?_; rotate_left; (focus (intro w0 hSw; obtain ⟨s1, s2, s3, s4, s5, s6⟩ := hSw; go_simp; (try with_reducible rfl))); (try simp only [Act.put, List.getElem_toArray, List.getElem_cons_succ, List.getElem_cons_zero, List.setIfInBounds_toArray, List.set_cons_zero, List.set_cons_succ])
      refine till_take (i := 2) (v := ?_) rfl (by kernel_rfl) (by kernel_rfl) (by kernel_rfl) (by kernel_rfl) (fun _ _ _ h => h) (Or.inl ⟨by rfl, ?_⟩) HS.out ?_; rotate_left; (focus (intro w0 hSw; obtain ⟨s1, s2, s3, s4, s5, s6⟩ := hSw; go_simp; (try with_reducible rfl))); (try simp only [Act.put, List.getElem_toArray, List.getElem_cons_succ, List.getElem_cons_zero, List.setIfInBounds_toArray, List.set_cons_zero, List.set_cons_succ])
      refine till_take (i := 4) (v := ?_) rfl (by kernel_rfl) (by kernel_rfl) (by kernel_rfl) (by kernel_rfl) (fun _ _ _ h => h) (Or.inl ⟨by rfl, ?_⟩) HS.out ?_; rotate_left; (focus (intro w0 hSw; obtain ⟨s1, s2, s3, s4, s5, s6⟩ := hSw; go_simp; (try with_reducible rfl))); (try simp only [Act.put, List.getElem_toArray, List.getElem_cons_succ, List.getElem_cons_zero, List.setIfInBounds_toArray, List.set_cons_zero, List.set_cons_succ])
      refine till_take (i := 5) (v := ?_) rfl (by kernel_rfl) (by kernel_rfl) (by kernel_rfl) (by kernel_rfl) (fun _ _ _ h => h) (Or.inl ⟨by rfl, ?_⟩) HS.out ?_; rotate_left; (focus (intro w0 hSw; obtain ⟨s1, s2, s3, s4, s5, s6⟩ := hSw; go_simp; (try with_reducible rfl))); (try simp only [Act.put, List.getElem_toArray, List.getElem_cons_succ, List.getElem_cons_zero, List.setIfInBounds_toArray, List.set_cons_zero, List.set_cons_succ])
      refine till_take (i := 6) (v := ?_) rfl (by kernel_rfl) (by kernel_rfl) (by kernel_rfl) (by kernel_rfl) (fun _ _ _ h => h) (Or.inl ⟨by rfl, ?_⟩) HS.out ?_; rotate_left; (focus (intro w0 hSw; obtain ⟨s1, s2, s3, s4, s5, s6⟩ := hSw; go_simp; (try with_reducible rfl))); (try simp only [Act.put, List.getElem_toArray, List.getElem_cons_succ, List.getElem_cons_zero, List.setIfInBounds_toArray, List.set_cons_zero, List.set_cons_succ])
      have HOC := hidT (off_of HAT.out (fun k hk => HD5.out.half.fc k (Or.inr hk)))
      have HOR := hidT (off_of HAT.out (fun k hk => HD5.out.half.fr k (Or.inr hk)))
      have nq : ¬ vfoot P.b1 P.m1 c.a wr.heap.size := fun e => by have := HDW.out.half.dc.footLt _ e; omega
      have nr : ¬ r.a.foot P.b2 wr.heap.size := fun e => by have := HDW.out.half.dr.dev.footLt _ e; omega
      have HAT5 := hidT (HAT.out.later HD5.out.half.bel)
      by_cases hfl : c.d.busy.length = 2
      · have hfl2 : r.m.busy.length = 2 := by rw [← HD5.out.same]; exact hfl
        refine till_one (i := 3) rfl (by kernel_rfl) ?_
        intro K hK
        refine step_call2 rfl 28 52 54 60 38 rfl eg1 (.pointer (some ⟨P.v1, 0, none⟩)) x.req.val rfl rfl (.iface 47 (.int .i64 7)) (fun w' => Below w5.heap.size w5 w') ((vstart_full P.v1 P.b1 P.m1 c.d c.a c.n c.D x.req _ (HD5.out.half.dc.later (by repeat (first | with_reducible exact Below.refl _ _ | with_reducible refine balloc ?_ _ | with_reducible refine bdrew ?_ | with_reducible refine bset' ?_ (by omega) _ | with_reducible refine bthen ?_ (by assumption)))) hfl).mono (fun e w' h => ⟨h.1, bthen (bdrew (Below.refl _ _)) h.2⟩)) ?_
        intro w6 hb6
        have HS6 := hidT (HQ5.out.later hb6)
        have HD6 := hidT (HD5.out.later hb6)
        refine hK _ _ (fun _ => HS6.out) ?_
        (try simp only [Act.put, List.getElem_toArray, List.getElem_cons_succ, List.getElem_cons_zero, List.setIfInBounds_toArray, List.set_cons_zero, List.set_cons_succ])
        clear hK
        refine till_one (i := 7) rfl (by kernel_rfl) ?_
        intro K hK
        refine step_call2 rfl 15 56 58 27 38 rfl eg2 (.pointer (some ⟨P.b2, 0, none⟩)) x.req.val rfl rfl (.int .i64 7) (fun w' => Below w6.heap.size w6 w') (rstart_full P.b2 r.m r.a x.req _ HD6.out.half.dr.dev hfl2) ?_
        intro w7 hb7
        have HS7 := hidT (HS6.out.later hb7)
        have HD7 := hidT (HD6.out.later hb7)
        refine hK _ _ (fun _ => HS7.out) ?_
        (try simp only [Act.put, List.getElem_toArray, List.getElem_cons_succ, List.getElem_cons_zero, List.setIfInBounds_toArray, List.set_cons_zero, List.set_cons_succ])
        clear hK
        refine till_one (i := 8) rfl (by kernel_rfl) ?_
        intro K hK
        refine step_call2 rfl 13 55 59 45 3 rfl eg3 (.iface 47 (.int .i64 7)) (.int .i64 7) rfl rfl (.bool true) (fun w' => Below w7.heap.size w7 w') (same_err 7 7 _) ?_
        intro w8 hb8
        have HS8 := hidT (HS7.out.later hb8)
        have HDX := hidT (HD7.out.later hb8)
        refine hK _ _ (fun _ => HS8.out) ?_
        (try simp only [Act.put, List.getElem_toArray, List.getElem_cons_succ, List.getElem_cons_zero, List.setIfInBounds_toArray, List.set_cons_zero, List.set_cons_succ])
        clear hK
        refine till_one (i := 9) rfl (by kernel_rfl) ?_; intro K hK; go_simp; refine hK _ _ (fun h => absurd rfl h) ?_; (try simp only [Act.put, List.getElem_toArray, List.getElem_cons_succ, List.getElem_cons_zero, List.setIfInBounds_toArray, List.set_cons_zero, List.set_cons_succ]); clear hK; refine till_done (by kernel_rfl) ?_ _
        go_wp2_with fail
        refine wp_worldD (fun wK => ∃ c' r' f', VD w P c' r' f' (k + 1) wK) ⟨c, r, f, HDX.out.more (by omega)⟩ ?_
        clear HS8 HS7 HS6 HD6 HD7 hb6 hb7 hb8 HS HDX HQ5 HD5 HDW HAT5 eg1 eg2 eg3
        rintro wT ⟨c', r', f', hdu'⟩; have HDU := hidT hdu'; clear hdu'; have c65 := HDU.out.half.dr.dev.c65; have lb2 := HDU.out.half.dr.dev.lt; have HSB : Hid (LBv wT P.b2 (.slice r'.a.la r'.m.busy.length r'.a.lc)) := ⟨c65, lb2⟩; by_cases hl2 : r'.m.busy.length < 2; (focus (have HRM : Hid (decide (c'.d.busy.length < 2) = true) := (by show _ = _; rw [HDU.out.same]; exact decide_eq_true hl2); have hl3 : decide ((r'.m.busy.length : Int) < 2) = true := decide_eq_true (by omega); have hl4 : (r'.m.busy.length : Int) < 2 := (by omega); clear hl2; go_region_held3 (fun w' => w'.cell? ⟨P.b2, 65, none⟩ = some (.slice r'.a.la r'.m.busy.length r'.a.lc) ∧ P.b2 < w'.heap.size) (exact LBv.keep HSB.out (by repeat (first | with_reducible exact Below.refl _ _ | with_reducible refine balloc ?_ _ | with_reducible refine bdrew ?_ | with_reducible refine bset' ?_ (by omega) _ | with_reducible refine bthen ?_ (by assumption)))) (first | (go_at_call 24; refine (busy_any P.b1 c'.d c'.a _ (HDU.out.half.dc.dev.later (by repeat (first | with_reducible exact Below.refl _ _ | with_reducible refine balloc ?_ _ | with_reducible refine bdrew ?_ | with_reducible refine bset' ?_ (by omega) _ | with_reducible refine bthen ?_ (by assumption))))).mono ?_; rintro e wA ⟨xa, xc, rfl, hRA, -, hbA⟩) | (go_at_call 23; refine (sames_yes c'.d.busy r'.m.busy xa r'.a.la xc r'.a.lc _ (hRA.later (by repeat (first | with_reducible exact Below.refl _ _ | with_reducible refine balloc ?_ _ | with_reducible refine bdrew ?_ | with_reducible refine bset' ?_ (by omega) _ | with_reducible refine bthen ?_ (by assumption)))) (HDU.out.half.dr.dev.lrow.later (by repeat (first | with_reducible exact Below.refl _ _ | with_reducible refine balloc ?_ _ | with_reducible refine bdrew ?_ | with_reducible refine bset' ?_ (by omega) _ | with_reducible refine bthen ?_ (by assumption)))) (samesV HDU.out.same)).mono ?_; rintro e wB ⟨rfl, hbB⟩) | (go_at_call 31; refine (room_any P.v1 P.b1 P.m1 c'.d c'.a c'.n c'.D true _ (HDU.out.half.dc.later (by repeat (first | with_reducible exact Below.refl _ _ | with_reducible refine balloc ?_ _ | with_reducible refine bdrew ?_ | with_reducible refine bset' ?_ (by omega) _ | with_reducible refine bthen ?_ (by assumption)))) HRM.out).mono ?_; rintro e wC ⟨rfl, hbC⟩)); have HDT := hidT (HDU.out.later (wr' := wC) (by repeat (first | with_reducible exact Below.refl _ _ | with_reducible refine balloc ?_ _ | with_reducible refine bdrew ?_ | with_reducible refine bset' ?_ (by omega) _ | with_reducible refine bthen ?_ (by assumption)))); clear hbA hbB hbC HSB c65 lb2 hRA; go_wp2; go_roundw; (case rel => exact ⟨k + 1, c', r', f', by omega, by go_num, HDT.out⟩); (case measure => simp [intOf]; omega))); (focus (have HRM : Hid (decide (c'.d.busy.length < 2) = false) := (by show _ = _; rw [HDU.out.same]; exact decide_eq_false hl2); have hl3 : decide ((r'.m.busy.length : Int) < 2) = false := decide_eq_false (by omega); have hl4 : ¬ (r'.m.busy.length : Int) < 2 := (by omega); clear hl2; go_region_held3 (fun w' => w'.cell? ⟨P.b2, 65, none⟩ = some (.slice r'.a.la r'.m.busy.length r'.a.lc) ∧ P.b2 < w'.heap.size) (exact LBv.keep HSB.out (by repeat (first | with_reducible exact Below.refl _ _ | with_reducible refine balloc ?_ _ | with_reducible refine bdrew ?_ | with_reducible refine bset' ?_ (by omega) _ | with_reducible refine bthen ?_ (by assumption)))) (first | (go_at_call 24; refine (busy_any P.b1 c'.d c'.a _ (HDU.out.half.dc.dev.later (by repeat (first | with_reducible exact Below.refl _ _ | with_reducible refine balloc ?_ _ | with_reducible refine bdrew ?_ | with_reducible refine bset' ?_ (by omega) _ | with_reducible refine bthen ?_ (by assumption))))).mono ?_; rintro e wA ⟨xa, xc, rfl, hRA, -, hbA⟩) | (go_at_call 23; refine (sames_yes c'.d.busy r'.m.busy xa r'.a.la xc r'.a.lc _ (hRA.later (by repeat (first | with_reducible exact Below.refl _ _ | with_reducible refine balloc ?_ _ | with_reducible refine bdrew ?_ | with_reducible refine bset' ?_ (by omega) _ | with_reducible refine bthen ?_ (by assumption)))) (HDU.out.half.dr.dev.lrow.later (by repeat (first | with_reducible exact Below.refl _ _ | with_reducible refine balloc ?_ _ | with_reducible refine bdrew ?_ | with_reducible refine bset' ?_ (by omega) _ | with_reducible refine bthen ?_ (by assumption)))) (samesV HDU.out.same)).mono ?_; rintro e wB ⟨rfl, hbB⟩) | (go_at_call 31; refine (room_any P.v1 P.b1 P.m1 c'.d c'.a c'.n c'.D false _ (HDU.out.half.dc.later (by repeat (first | with_reducible exact Below.refl _ _ | with_reducible refine balloc ?_ _ | with_reducible refine bdrew ?_ | with_reducible refine bset' ?_ (by omega) _ | with_reducible refine bthen ?_ (by assumption)))) HRM.out).mono ?_; rintro e wC ⟨rfl, hbC⟩)); have HDT := hidT (HDU.out.later (wr' := wC) (by repeat (first | with_reducible exact Below.refl _ _ | with_reducible refine balloc ?_ _ | with_reducible refine bdrew ?_ | with_reducible refine bset' ?_ (by omega) _ | with_reducible refine bthen ?_ (by assumption)))); clear hbA hbB hbC HSB c65 lb2 hRA; go_wp2; go_roundw; (case rel => exact ⟨k + 1, c', r', f', by omega, by go_num, HDT.out⟩); (case measure => simp [intOf]; omega)))
      · have hfl' : c.d.busy.length < 2 := by have := HD5.out.half.dc.dev.blen; omega
        have hfl2 : r.m.busy.length < 2 := by rw [← HD5.out.same]; exact hfl'
        refine till_one (i := 3) rfl (by kernel_rfl) ?_
        intro K hK
        refine step_call2 rfl 28 52 54 60 38 rfl eg1 (.pointer (some ⟨P.v1, 0, none⟩)) x.req.val rfl rfl .nilIface (fun w' => ∃ a', VStep P.v1 P.b1 P.m1 c.d c.a c.n c.D { c.d with busy := c.d.busy ++ [x.req] } a' c.n c.D w5 w') ((vstart_ok P.v1 P.b1 P.m1 c.d c.a c.n c.D x.req _ (HD5.out.half.dc.later (by repeat (first | with_reducible exact Below.refl _ _ | with_reducible refine balloc ?_ _ | with_reducible refine bdrew ?_ | with_reducible refine bset' ?_ (by omega) _ | with_reducible refine bthen ?_ (by assumption)))) hfl' (HAT5.out.later (by repeat (first | with_reducible exact Below.refl _ _ | with_reducible refine balloc ?_ _ | with_reducible refine bdrew ?_ | with_reducible refine bset' ?_ (by omega) _ | with_reducible refine bthen ?_ (by assumption)))) HOC.out).mono (fun e w' ⟨a', he, hs⟩ => ⟨he, a', (HD5.out.half.dc.step (DStep.same HD5.out.half.dc.dev (bdrew (Below.refl _ _)))).trans hs⟩)) ?_
        rintro w6 ⟨a6, hs6⟩
        have HS6 := hidT (HQ5.out.onlyA hs6.only nq)
        have HT6 := hidT hs6
        have HB6 := hidT (HD5.out.half.bel.trans (hs6.only.below HD5.out.half.bel.size HD5.out.half.fc))
        have hd6 := hidT (HD5.out.half.dr.frame hs6.only (fun j hj hc => HD5.out.half.apart j hc hj) HD5.out.half.x2 HD5.out.half.lf (fun y hy => off_of (HD5.out.half.at2 y hy) HD5.out.half.fc))
        clear hs6
        refine hK _ _ (fun _ => HS6.out) ?_
        (try simp only [Act.put, List.getElem_toArray, List.getElem_cons_succ, List.getElem_cons_zero, List.setIfInBounds_toArray, List.set_cons_zero, List.set_cons_succ])
        clear hK
        refine till_one (i := 7) rfl (by kernel_rfl) ?_
        intro K hK
        refine step_call2 rfl 15 56 58 27 38 rfl eg2 (.pointer (some ⟨P.b2, 0, none⟩)) x.req.val rfl rfl (.int .i64 0) (fun w' => ∃ ra', RStep P.b2 r.m r.a { r.m with busy := r.m.busy ++ [x.req] } ra' w6 w') ((rstart_ok P.b2 r.m r.a x.req _ hd6.out.dev hfl2 (HAT.out.later HB6.out) HOR.out).mono (fun e w' ⟨a', he, _, hs⟩ => ⟨he, a', hs⟩)) ?_
        rintro w7 ⟨ra7, hs7⟩
        have HS7 := hidT (HS6.out.onlyA hs7.only nr)
        have HD7 := hidT (HD5.out.start HAT.out HGX.out HNK.out.2 HT6.out hs7)
        clear hs7
        refine hK _ _ (fun _ => HS7.out) ?_
        (try simp only [Act.put, List.getElem_toArray, List.getElem_cons_succ, List.getElem_cons_zero, List.setIfInBounds_toArray, List.set_cons_zero, List.set_cons_succ])
        clear hK
        refine till_one (i := 8) rfl (by kernel_rfl) ?_
        intro K hK
        refine step_call2 rfl 13 55 59 45 3 rfl eg3 .nilIface (.int .i64 0) rfl rfl (.bool true) (fun w' => Below w7.heap.size w7 w') (same_nil 0 _) ?_
        intro w8 hb8
        have HS8 := hidT (HS7.out.later hb8)
        have HDX := hidT (HD7.out.later hb8)
        refine hK _ _ (fun _ => HS8.out) ?_
        (try simp only [Act.put, List.getElem_toArray, List.getElem_cons_succ, List.getElem_cons_zero, List.setIfInBounds_toArray, List.set_cons_zero, List.set_cons_succ])
        clear hK
        refine till_one (i := 9) rfl (by kernel_rfl) ?_; intro K hK; go_simp; refine hK _ _ (fun h => absurd rfl h) ?_; (try simp only [Act.put, List.getElem_toArray, List.getElem_cons_succ, List.getElem_cons_zero, List.setIfInBounds_toArray, List.set_cons_zero, List.set_cons_succ]); clear hK; refine till_done (by kernel_rfl) ?_ _
        go_wp2_with fail
        refine wp_worldD (fun wK => ∃ c' r' f', VD w P c' r' f' (k + 1) wK) ⟨_, _, _, HDX.out.more (by omega)⟩ ?_
        clear HS8 HS7 HS6 HD7 HT6 HB6 hd6 hb8 HS HDX HQ5 HD5 HDW HAT5 eg1 eg2 eg3
        rintro wT ⟨c', r', f', hdu'⟩; have HDU := hidT hdu'; clear hdu'; have c65 := HDU.out.half.dr.dev.c65; have lb2 := HDU.out.half.dr.dev.lt; have HSB : Hid (LBv wT P.b2 (.slice r'.a.la r'.m.busy.length r'.a.lc)) := ⟨c65, lb2⟩; by_cases hl2 : r'.m.busy.length < 2; (focus (have HRM : Hid (decide (c'.d.busy.length < 2) = true) := (by show _ = _; rw [HDU.out.same]; exact decide_eq_true hl2); have hl3 : decide ((r'.m.busy.length : Int) < 2) = true := decide_eq_true (by omega); have hl4 : (r'.m.busy.length : Int) < 2 := (by omega); clear hl2; go_region_held3 (fun w' => w'.cell? ⟨P.b2, 65, none⟩ = some (.slice r'.a.la r'.m.busy.length r'.a.lc) ∧ P.b2 < w'.heap.size) (exact LBv.keep HSB.out (by repeat (first | with_reducible exact Below.refl _ _ | with_reducible refine balloc ?_ _ | with_reducible refine bdrew ?_ | with_reducible refine bset' ?_ (by omega) _ | with_reducible refine bthen ?_ (by assumption)))) (first | (go_at_call 24; refine (busy_any P.b1 c'.d c'.a _ (HDU.out.half.dc.dev.later (by repeat (first | with_reducible exact Below.refl _ _ | with_reducible refine balloc ?_ _ | with_reducible refine bdrew ?_ | with_reducible refine bset' ?_ (by omega) _ | with_reducible refine bthen ?_ (by assumption))))).mono ?_; rintro e wA ⟨xa, xc, rfl, hRA, -, hbA⟩) | (go_at_call 23; refine (sames_yes c'.d.busy r'.m.busy xa r'.a.la xc r'.a.lc _ (hRA.later (by repeat (first | with_reducible exact Below.refl _ _ | with_reducible refine balloc ?_ _ | with_reducible refine bdrew ?_ | with_reducible refine bset' ?_ (by omega) _ | with_reducible refine bthen ?_ (by assumption)))) (HDU.out.half.dr.dev.lrow.later (by repeat (first | with_reducible exact Below.refl _ _ | with_reducible refine balloc ?_ _ | with_reducible refine bdrew ?_ | with_reducible refine bset' ?_ (by omega) _ | with_reducible refine bthen ?_ (by assumption)))) (samesV HDU.out.same)).mono ?_; rintro e wB ⟨rfl, hbB⟩) | (go_at_call 31; refine (room_any P.v1 P.b1 P.m1 c'.d c'.a c'.n c'.D true _ (HDU.out.half.dc.later (by repeat (first | with_reducible exact Below.refl _ _ | with_reducible refine balloc ?_ _ | with_reducible refine bdrew ?_ | with_reducible refine bset' ?_ (by omega) _ | with_reducible refine bthen ?_ (by assumption)))) HRM.out).mono ?_; rintro e wC ⟨rfl, hbC⟩)); have HDT := hidT (HDU.out.later (wr' := wC) (by repeat (first | with_reducible exact Below.refl _ _ | with_reducible refine balloc ?_ _ | with_reducible refine bdrew ?_ | with_reducible refine bset' ?_ (by omega) _ | with_reducible refine bthen ?_ (by assumption)))); clear hbA hbB hbC HSB c65 lb2 hRA; go_wp2; go_roundw; (case rel => exact ⟨k + 1, c', r', f', by omega, by go_num, HDT.out⟩); (case measure => simp [intOf]; omega))); (focus (have HRM : Hid (decide (c'.d.busy.length < 2) = false) := (by show _ = _; rw [HDU.out.same]; exact decide_eq_false hl2); have hl3 : decide ((r'.m.busy.length : Int) < 2) = false := decide_eq_false (by omega); have hl4 : ¬ (r'.m.busy.length : Int) < 2 := (by omega); clear hl2; go_region_held3 (fun w' => w'.cell? ⟨P.b2, 65, none⟩ = some (.slice r'.a.la r'.m.busy.length r'.a.lc) ∧ P.b2 < w'.heap.size) (exact LBv.keep HSB.out (by repeat (first | with_reducible exact Below.refl _ _ | with_reducible refine balloc ?_ _ | with_reducible refine bdrew ?_ | with_reducible refine bset' ?_ (by omega) _ | with_reducible refine bthen ?_ (by assumption)))) (first | (go_at_call 24; refine (busy_any P.b1 c'.d c'.a _ (HDU.out.half.dc.dev.later (by repeat (first | with_reducible exact Below.refl _ _ | with_reducible refine balloc ?_ _ | with_reducible refine bdrew ?_ | with_reducible refine bset' ?_ (by omega) _ | with_reducible refine bthen ?_ (by assumption))))).mono ?_; rintro e wA ⟨xa, xc, rfl, hRA, -, hbA⟩) | (go_at_call 23; refine (sames_yes c'.d.busy r'.m.busy xa r'.a.la xc r'.a.lc _ (hRA.later (by repeat (first | with_reducible exact Below.refl _ _ | with_reducible refine balloc ?_ _ | with_reducible refine bdrew ?_ | with_reducible refine bset' ?_ (by omega) _ | with_reducible refine bthen ?_ (by assumption)))) (HDU.out.half.dr.dev.lrow.later (by repeat (first | with_reducible exact Below.refl _ _ | with_reducible refine balloc ?_ _ | with_reducible refine bdrew ?_ | with_reducible refine bset' ?_ (by omega) _ | with_reducible refine bthen ?_ (by assumption)))) (samesV HDU.out.same)).mono ?_; rintro e wB ⟨rfl, hbB⟩) | (go_at_call 31; refine (room_any P.v1 P.b1 P.m1 c'.d c'.a c'.n c'.D false _ (HDU.out.half.dc.later (by repeat (first | with_reducible exact Below.refl _ _ | with_reducible refine balloc ?_ _ | with_reducible refine bdrew ?_ | with_reducible refine bset' ?_ (by omega) _ | with_reducible refine bthen ?_ (by assumption)))) HRM.out).mono ?_; rintro e wC ⟨rfl, hbC⟩)); have HDT := hidT (HDU.out.later (wr' := wC) (by repeat (first | with_reducible exact Below.refl _ _ | with_reducible refine balloc ?_ _ | with_reducible refine bdrew ?_ | with_reducible refine bset' ?_ (by omega) _ | with_reducible refine bthen ?_ (by assumption)))); clear hbA hbB hbC HSB c65 lb2 hRA; go_wp2; go_roundw; (case rel => exact ⟨k + 1, c', r', f', by omega, by go_num, HDT.out⟩); (case measure => simp [intOf]; omega)))
    by_cases h2 : x.kind = ⟨#[102, 97, 117, 108, 116]⟩
    · rw [h2] at c0
      clear h2 h1
      have HK0 := hidT (actK_new wr 41 ⟨#[102, 97, 117, 108, 116]⟩ (.bool x.req.wr) (.int .i64 x.req.f) (.int .i64 x.req.m) (.slice x.req.da x.req.data.length x.req.dc) (.slice x.req.ta x.req.tags.length x.req.tc) (.int .i64 x.req.born) x.n x.k)
      have hbq := hidT (below1 wr (.cells #[.string ⟨#[102, 97, 117, 108, 116]⟩, .bool x.req.wr, .int .i64 x.req.f, .int .i64 x.req.m, .slice x.req.da x.req.data.length x.req.dc, .slice x.req.ta x.req.tags.length x.req.tc, .int .i64 x.req.born, .int .i64 x.n, .int .u64 x.k] 41))
      have HD5 := hidT (HDU.out.later hbq.out)
      have nq : ¬ vfoot P.b1 P.m1 c.a wr.heap.size := fun e => by have := HDU.out.half.dc.footLt _ e; omega
      have nr : ¬ rvfoot P.b2 P.m2 r.a wr.heap.size := fun e => by have := HDU.out.half.dr.footLt _ e; omega
      have HNQ := hidT (⟨nq, nr⟩ : _ ∧ _)
      clear nq nr
      by_cases hn : x.n < 0 ∨ (c.d.busy.length : Int) ≤ x.n
      · have HN := hidT hn
        clear hn HDU
        go_wp2_with fail
        refine (vg_none P.v1 P.b1 P.m1 c.d c.a c.n c.D x.n true _ HD5.out.half.dc HN.out).mono ?_
        rintro e w6 ⟨rfl, hb6⟩
        have HD6 := hidT ((HD5.out.later hb6).later (below1 w6 (.cells #[.bool false, .int .i64 0, .int .i64 0, .slice none 0 0, .slice none 0 0, .int .i64 0, .slice none 0 0, .int .i64 0] 49)))
        have hk6 := (HK0.out.later hb6).later (below1 w6 (.cells #[.bool false, .int .i64 0, .int .i64 0, .slice none 0 0, .slice none 0 0, .int .i64 0, .slice none 0 0, .int .i64 0] 49))
        have HX6 := hidT (res_new w6 49 rq0 none 0 0 0)
        have HNB := hidT HD6.out.same
        obtain ⟨y0, y7, y8⟩ := hk6
        have lq := lt_of_cell y0
        clear hb6 HD5 HK0 hbq c0 c1 c2 c3 c4 c5 c6 c7 c8
        go_wp2_with fail
        refine (rv_none P.v2 P.b2 P.m2 r.m r.a r.n r.D x.n true _ HD6.out.half.dr (by rw [← HNB.out]; exact HN.out)).mono ?_
        rintro e w7 ⟨rfl, hb7⟩
        have HD7 := hidT ((HD6.out.later hb7).later (below1 w7 (.cells #[.bool false, .int .i64 0, .int .i64 0, .slice none 0 0, .slice none 0 0, .int .i64 0, .slice none 0 0, .int .i64 0] 49)))
        have HX7 := hidT ((HX6.out.later hb7).later (below1 w7 (.cells #[.bool false, .int .i64 0, .int .i64 0, .slice none 0 0, .slice none 0 0, .int .i64 0, .slice none 0 0, .int .i64 0] 49)))
        have HY7 := hidT (res_new w7 49 rq0 none 0 0 0)
        clear hb7 y0 y7 y8 HD6 HX6 lq
        go_wp2_with fail
        refine (same_err 5 5 _).mono ?_
        rintro e w8 ⟨rfl, hb8⟩
        obtain ⟨z0, z1, z2, z3, z4, z5, z6, z7⟩ := HX7.out.later hb8
        obtain ⟨v0, v1, v2, v3, v4, v5, v6, v7⟩ := HY7.out.later hb8
        have HD8 := hidT (HD7.out.later hb8)
        clear hb8 HD7 HX7 HY7
        simp only [rq0, List.length_nil] at z0 z1 z2 z3 z4 z5 z6 z7 v0 v1 v2 v3 v4 v5 v6 v7
        go_wp2_with fail
        refine (sameRes_er 0 rq0 [] none none 0 0 0 rfl _ (rq0_at _) (Or.inl rfl) (Or.inl rfl) (by simp)).mono ?_
        rintro e w9 ⟨rfl, hb9⟩
        have HDX := hidT (HD8.out.later hb9)
        clear hb9 z0 z1 z2 z3 z4 z5 z6 z7 v0 v1 v2 v3 v4 v5 v6 v7 HD8
        go_wp2_with fail
        refine wp_worldD (fun wK => ∃ c' r' f', VD w P c' r' f' (k + 1) wK) ⟨c, r, f, HDX.out.more (by omega)⟩ ?_
        clear HDX
        rintro wT ⟨c', r', f', hdu'⟩; have HDU := hidT hdu'; clear hdu'; have c65 := HDU.out.half.dr.dev.c65; have lb2 := HDU.out.half.dr.dev.lt; have HSB : Hid (LBv wT P.b2 (.slice r'.a.la r'.m.busy.length r'.a.lc)) := ⟨c65, lb2⟩; by_cases hl2 : r'.m.busy.length < 2; (focus (have HRM : Hid (decide (c'.d.busy.length < 2) = true) := (by show _ = _; rw [HDU.out.same]; exact decide_eq_true hl2); have hl3 : decide ((r'.m.busy.length : Int) < 2) = true := decide_eq_true (by omega); have hl4 : (r'.m.busy.length : Int) < 2 := (by omega); clear hl2; go_region_held3 (fun w' => w'.cell? ⟨P.b2, 65, none⟩ = some (.slice r'.a.la r'.m.busy.length r'.a.lc) ∧ P.b2 < w'.heap.size) (exact LBv.keep HSB.out (by repeat (first | with_reducible exact Below.refl _ _ | with_reducible refine balloc ?_ _ | with_reducible refine bdrew ?_ | with_reducible refine bset' ?_ (by omega) _ | with_reducible refine bthen ?_ (by assumption)))) (first | (go_at_call 24; refine (busy_any P.b1 c'.d c'.a _ (HDU.out.half.dc.dev.later (by repeat (first | with_reducible exact Below.refl _ _ | with_reducible refine balloc ?_ _ | with_reducible refine bdrew ?_ | with_reducible refine bset' ?_ (by omega) _ | with_reducible refine bthen ?_ (by assumption))))).mono ?_; rintro e wA ⟨xa, xc, rfl, hRA, -, hbA⟩) | (go_at_call 23; refine (sames_yes c'.d.busy r'.m.busy xa r'.a.la xc r'.a.lc _ (hRA.later (by repeat (first | with_reducible exact Below.refl _ _ | with_reducible refine balloc ?_ _ | with_reducible refine bdrew ?_ | with_reducible refine bset' ?_ (by omega) _ | with_reducible refine bthen ?_ (by assumption)))) (HDU.out.half.dr.dev.lrow.later (by repeat (first | with_reducible exact Below.refl _ _ | with_reducible refine balloc ?_ _ | with_reducible refine bdrew ?_ | with_reducible refine bset' ?_ (by omega) _ | with_reducible refine bthen ?_ (by assumption)))) (samesV HDU.out.same)).mono ?_; rintro e wB ⟨rfl, hbB⟩) | (go_at_call 31; refine (room_any P.v1 P.b1 P.m1 c'.d c'.a c'.n c'.D true _ (HDU.out.half.dc.later (by repeat (first | with_reducible exact Below.refl _ _ | with_reducible refine balloc ?_ _ | with_reducible refine bdrew ?_ | with_reducible refine bset' ?_ (by omega) _ | with_reducible refine bthen ?_ (by assumption)))) HRM.out).mono ?_; rintro e wC ⟨rfl, hbC⟩)); have HDT := hidT (HDU.out.later (wr' := wC) (by repeat (first | with_reducible exact Below.refl _ _ | with_reducible refine balloc ?_ _ | with_reducible refine bdrew ?_ | with_reducible refine bset' ?_ (by omega) _ | with_reducible refine bthen ?_ (by assumption)))); clear hbA hbB hbC HSB c65 lb2 hRA; go_wp2; go_roundw; (case rel => exact ⟨k + 1, c', r', f', by omega, by go_num, HDT.out⟩); (case measure => simp [intOf]; omega))); (focus (have HRM : Hid (decide (c'.d.busy.length < 2) = false) := (by show _ = _; rw [HDU.out.same]; exact decide_eq_false hl2); have hl3 : decide ((r'.m.busy.length : Int) < 2) = false := decide_eq_false (by omega); have hl4 : ¬ (r'.m.busy.length : Int) < 2 := (by omega); clear hl2; go_region_held3 (fun w' => w'.cell? ⟨P.b2, 65, none⟩ = some (.slice r'.a.la r'.m.busy.length r'.a.lc) ∧ P.b2 < w'.heap.size) (exact LBv.keep HSB.out (by repeat (first | with_reducible exact Below.refl _ _ | with_reducible refine balloc ?_ _ | with_reducible refine bdrew ?_ | with_reducible refine bset' ?_ (by omega) _ | with_reducible refine bthen ?_ (by assumption)))) (first | (go_at_call 24; refine (busy_any P.b1 c'.d c'.a _ (HDU.out.half.dc.dev.later (by repeat (first | with_reducible exact Below.refl _ _ | with_reducible refine balloc ?_ _ | with_reducible refine bdrew ?_ | with_reducible refine bset' ?_ (by omega) _ | with_reducible refine bthen ?_ (by assumption))))).mono ?_; rintro e wA ⟨xa, xc, rfl, hRA, -, hbA⟩) | (go_at_call 23; refine (sames_yes c'.d.busy r'.m.busy xa r'.a.la xc r'.a.lc _ (hRA.later (by repeat (first | with_reducible exact Below.refl _ _ | with_reducible refine balloc ?_ _ | with_reducible refine bdrew ?_ | with_reducible refine bset' ?_ (by omega) _ | with_reducible refine bthen ?_ (by assumption)))) (HDU.out.half.dr.dev.lrow.later (by repeat (first | with_reducible exact Below.refl _ _ | with_reducible refine balloc ?_ _ | with_reducible refine bdrew ?_ | with_reducible refine bset' ?_ (by omega) _ | with_reducible refine bthen ?_ (by assumption)))) (samesV HDU.out.same)).mono ?_; rintro e wB ⟨rfl, hbB⟩) | (go_at_call 31; refine (room_any P.v1 P.b1 P.m1 c'.d c'.a c'.n c'.D false _ (HDU.out.half.dc.later (by repeat (first | with_reducible exact Below.refl _ _ | with_reducible refine balloc ?_ _ | with_reducible refine bdrew ?_ | with_reducible refine bset' ?_ (by omega) _ | with_reducible refine bthen ?_ (by assumption)))) HRM.out).mono ?_; rintro e wC ⟨rfl, hbC⟩)); have HDT := hidT (HDU.out.later (wr' := wC) (by repeat (first | with_reducible exact Below.refl _ _ | with_reducible refine balloc ?_ _ | with_reducible refine bdrew ?_ | with_reducible refine bset' ?_ (by omega) _ | with_reducible refine bthen ?_ (by assumption)))); clear hbA hbB hbC HSB c65 lb2 hRA; go_wp2; go_roundw; (case rel => exact ⟨k + 1, c', r', f', by omega, by go_num, HDT.out⟩); (case measure => simp [intOf]; omega)))
      ·
        obtain ⟨k', hkn, hkl⟩ : ∃ k' : Nat, x.n = k' ∧ k' < c.d.busy.length := ⟨x.n.toNat, by omega, by omega⟩
        have hk' : c.d.busy[k']? = some c.d.busy[k'] := List.getElem?_eq_getElem hkl
        have HGR := hidT (HD5.out.good _ (List.getElem_mem hkl))
        have HRA := hidT (HD5.out.half.at1 _ (List.getElem_mem hkl))
        have HQM := hidT (List.getElem_mem hkl)
        generalize c.d.busy[k'] = q at *
        obtain ⟨tg, htg⟩ : ∃ tg, q.tags.getD 0 0 = tg := ⟨_, rfl⟩
        have hti := tag_in HGR.out.1 HGR.out.2
        rw [htg] at hti
        have HR1 : Hid (VReq P.m1 c.d k' q tg) := ⟨hk', htg, hti.1, hti.2, fun y hy => off_of (HD5.out.half.at1 y hy) (fun j e => HD5.out.half.fc j (Or.inl e))⟩
        have HR2 : Hid (RVReq P.m2 r.m k' q tg) := ⟨by rw [← HD5.out.same]; exact hk', htg, hti.1, hti.2, fun y hy => off_of (HD5.out.half.at2 y hy) (fun j e => HD5.out.half.fr j (Or.inl e))⟩
        rw [hkn] at c7 HK0 HD5
        have hB60 := HD5.out.b1
        have hB61 := HD5.out.b2
        have hB62 := HD5.out.b3
        have HBN : Hid (c.n ≤ 1000 ∧ r.n ≤ 1000 ∧ r.m.waits.length ≤ 1000) := ⟨by omega, by omega, by omega⟩
        clear hn hkn HDU htg hti hk' hB60 hB61 hB62
        by_cases hft : f tg < 2
        · have HFR : Hid (0 ≤ f tg ∧ f tg < 2) := ⟨(HD5.out.rng tg).1, hft⟩
          clear hft
          go_wp2_with fail
          refine (vg_again P.v1 P.b1 P.m1 c.d c.a c.n c.D k' q tg (f tg) _ HD5.out.half.dc HR1.out (HD5.out.f1 tg) (by have := HFR.out; omega) (by have := HBN.out.1; omega)).mono ?_
          rintro e w6 ⟨a6, rfl, hs6⟩
          have HH6 := hidT ((HD5.out.halfAgain HQM.out hs6).later (below1 w6 (.cells #[.bool false, .int .i64 0, .int .i64 0, .slice none 0 0, .slice none 0 0, .int .i64 0, .slice none 0 0, .int .i64 0] 49)))
          have HT6 := hidT hs6
          have hk6 := (HK0.out.only hs6.only HNQ.out.1).later (below1 w6 (.cells #[.bool false, .int .i64 0, .int .i64 0, .slice none 0 0, .slice none 0 0, .int .i64 0, .slice none 0 0, .int .i64 0] 49))
          have HX6 := hidT (res_new w6 49 rq0 none 0 0 0)
          have hw6 := hs6.only.size
          obtain ⟨y0, y7, y8⟩ := hk6
          have lq := lt_of_cell y0
          clear hs6 HK0 hbq c0 c1 c2 c3 c4 c5 c6 c7 c8
          go_wp2_with fail
          refine (rv_again P.v2 P.b2 P.m2 r.m r.a r.n r.D k' q tg (f tg) _ HH6.out.dr HR2.out HD5.out.i2 (HD5.out.f2 tg) (by have := HFR.out; omega) (by have := HBN.out.2.1; omega)).mono ?_
          rintro e w7 ⟨ra7, rfl, hs7⟩
          have HD7 := hidT ((HD5.out.again HQM.out (by have := HFR.out; omega) HT6.out (below1 w6 _) hs7).later (below1 w7 (.cells #[.bool false, .int .i64 0, .int .i64 0, .slice none 0 0, .slice none 0 0, .int .i64 0, .slice none 0 0, .int .i64 0] 49)))
          have n6 : ¬ rvfoot P.b2 P.m2 r.a w6.heap.size := fun e => by have := HD5.out.half.dr.footLt _ e; omega
          have HX7 := hidT ((HX6.out.onlyR hs7.only n6).later (below1 w7 (.cells #[.bool false, .int .i64 0, .int .i64 0, .slice none 0 0, .slice none 0 0, .int .i64 0, .slice none 0 0, .int .i64 0] 49)))
          have HY7 := hidT (res_new w7 49 rq0 none 0 0 0)
          clear hs7 y0 y7 y8 HH6 HT6 HX6 lq n6
          go_wp2_with fail
          refine (same_nil 0 _).mono ?_
          rintro e w8 ⟨rfl, hb8⟩
          obtain ⟨z0, z1, z2, z3, z4, z5, z6, z7⟩ := HX7.out.later hb8
          obtain ⟨v0, v1, v2, v3, v4, v5, v6, v7⟩ := HY7.out.later hb8
          have HD8 := hidT (HD7.out.later hb8)
          have HB8 : Hid (Below w7.heap.size w7 w8) := bthen (below1 w7 _) hb8
          clear hb8 HD7 HX7 HY7
          simp only [rq0, List.length_nil] at z0 z1 z2 z3 z4 z5 z6 z7 v0 v1 v2 v3 v4 v5 v6 v7
          go_wp2_with fail
          refine (sameRes_er 0 rq0 [] none none 0 0 0 rfl _ (rq0_at _) (Or.inl rfl) (Or.inl rfl) (by simp)).mono ?_
          rintro e w9 ⟨rfl, hb9⟩
          have HDX := hidT (HD8.out.later hb9)
          clear hb9 z0 z1 z2 z3 z4 z5 z6 z7 v0 v1 v2 v3 v4 v5 v6 v7 HD8
          go_wp2_with fail
          refine wp_worldD (fun wK => ∃ c' r' f', VD w P c' r' f' (k + 1) wK) ⟨_, _, _, HDX.out⟩ ?_
          clear HDX
          rintro wT ⟨c', r', f', hdu'⟩; have HDU := hidT hdu'; clear hdu'; have c65 := HDU.out.half.dr.dev.c65; have lb2 := HDU.out.half.dr.dev.lt; have HSB : Hid (LBv wT P.b2 (.slice r'.a.la r'.m.busy.length r'.a.lc)) := ⟨c65, lb2⟩; by_cases hl2 : r'.m.busy.length < 2; (focus (have HRM : Hid (decide (c'.d.busy.length < 2) = true) := (by show _ = _; rw [HDU.out.same]; exact decide_eq_true hl2); have hl3 : decide ((r'.m.busy.length : Int) < 2) = true := decide_eq_true (by omega); have hl4 : (r'.m.busy.length : Int) < 2 := (by omega); clear hl2; go_region_held3 (fun w' => w'.cell? ⟨P.b2, 65, none⟩ = some (.slice r'.a.la r'.m.busy.length r'.a.lc) ∧ P.b2 < w'.heap.size) (exact LBv.keep HSB.out (by repeat (first | with_reducible exact Below.refl _ _ | with_reducible refine balloc ?_ _ | with_reducible refine bdrew ?_ | with_reducible refine bset' ?_ (by omega) _ | with_reducible refine bthen ?_ (by assumption)))) (first | (go_at_call 24; refine (busy_any P.b1 c'.d c'.a _ (HDU.out.half.dc.dev.later (by repeat (first | with_reducible exact Below.refl _ _ | with_reducible refine balloc ?_ _ | with_reducible refine bdrew ?_ | with_reducible refine bset' ?_ (by omega) _ | with_reducible refine bthen ?_ (by assumption))))).mono ?_; rintro e wA ⟨xa, xc, rfl, hRA, -, hbA⟩) | (go_at_call 23; refine (sames_yes c'.d.busy r'.m.busy xa r'.a.la xc r'.a.lc _ (hRA.later (by repeat (first | with_reducible exact Below.refl _ _ | with_reducible refine balloc ?_ _ | with_reducible refine bdrew ?_ | with_reducible refine bset' ?_ (by omega) _ | with_reducible refine bthen ?_ (by assumption)))) (HDU.out.half.dr.dev.lrow.later (by repeat (first | with_reducible exact Below.refl _ _ | with_reducible refine balloc ?_ _ | with_reducible refine bdrew ?_ | with_reducible refine bset' ?_ (by omega) _ | with_reducible refine bthen ?_ (by assumption)))) (samesV HDU.out.same)).mono ?_; rintro e wB ⟨rfl, hbB⟩) | (go_at_call 31; refine (room_any P.v1 P.b1 P.m1 c'.d c'.a c'.n c'.D true _ (HDU.out.half.dc.later (by repeat (first | with_reducible exact Below.refl _ _ | with_reducible refine balloc ?_ _ | with_reducible refine bdrew ?_ | with_reducible refine bset' ?_ (by omega) _ | with_reducible refine bthen ?_ (by assumption)))) HRM.out).mono ?_; rintro e wC ⟨rfl, hbC⟩)); have HDT := hidT (HDU.out.later (wr' := wC) (by repeat (first | with_reducible exact Below.refl _ _ | with_reducible refine balloc ?_ _ | with_reducible refine bdrew ?_ | with_reducible refine bset' ?_ (by omega) _ | with_reducible refine bthen ?_ (by assumption)))); clear hbA hbB hbC HSB c65 lb2 hRA; go_wp2; go_roundw; (case rel => exact ⟨k + 1, c', r', f', by omega, by go_num, HDT.out⟩); (case measure => simp [intOf]; omega))); (focus (have HRM : Hid (decide (c'.d.busy.length < 2) = false) := (by show _ = _; rw [HDU.out.same]; exact decide_eq_false hl2); have hl3 : decide ((r'.m.busy.length : Int) < 2) = false := decide_eq_false (by omega); have hl4 : ¬ (r'.m.busy.length : Int) < 2 := (by omega); clear hl2; go_region_held3 (fun w' => w'.cell? ⟨P.b2, 65, none⟩ = some (.slice r'.a.la r'.m.busy.length r'.a.lc) ∧ P.b2 < w'.heap.size) (exact LBv.keep HSB.out (by repeat (first | with_reducible exact Below.refl _ _ | with_reducible refine balloc ?_ _ | with_reducible refine bdrew ?_ | with_reducible refine bset' ?_ (by omega) _ | with_reducible refine bthen ?_ (by assumption)))) (first | (go_at_call 24; refine (busy_any P.b1 c'.d c'.a _ (HDU.out.half.dc.dev.later (by repeat (first | with_reducible exact Below.refl _ _ | with_reducible refine balloc ?_ _ | with_reducible refine bdrew ?_ | with_reducible refine bset' ?_ (by omega) _ | with_reducible refine bthen ?_ (by assumption))))).mono ?_; rintro e wA ⟨xa, xc, rfl, hRA, -, hbA⟩) | (go_at_call 23; refine (sames_yes c'.d.busy r'.m.busy xa r'.a.la xc r'.a.lc _ (hRA.later (by repeat (first | with_reducible exact Below.refl _ _ | with_reducible refine balloc ?_ _ | with_reducible refine bdrew ?_ | with_reducible refine bset' ?_ (by omega) _ | with_reducible refine bthen ?_ (by assumption)))) (HDU.out.half.dr.dev.lrow.later (by repeat (first | with_reducible exact Below.refl _ _ | with_reducible refine balloc ?_ _ | with_reducible refine bdrew ?_ | with_reducible refine bset' ?_ (by omega) _ | with_reducible refine bthen ?_ (by assumption)))) (samesV HDU.out.same)).mono ?_; rintro e wB ⟨rfl, hbB⟩) | (go_at_call 31; refine (room_any P.v1 P.b1 P.m1 c'.d c'.a c'.n c'.D false _ (HDU.out.half.dc.later (by repeat (first | with_reducible exact Below.refl _ _ | with_reducible refine balloc ?_ _ | with_reducible refine bdrew ?_ | with_reducible refine bset' ?_ (by omega) _ | with_reducible refine bthen ?_ (by assumption)))) HRM.out).mono ?_; rintro e wC ⟨rfl, hbC⟩)); have HDT := hidT (HDU.out.later (wr' := wC) (by repeat (first | with_reducible exact Below.refl _ _ | with_reducible refine balloc ?_ _ | with_reducible refine bdrew ?_ | with_reducible refine bset' ?_ (by omega) _ | with_reducible refine bthen ?_ (by assumption)))); clear hbA hbB hbC HSB c65 lb2 hRA; go_wp2; go_roundw; (case rel => exact ⟨k + 1, c', r', f', by omega, by go_num, HDT.out⟩); (case measure => simp [intOf]; omega)))
        · have HFR : Hid (2 ≤ f tg ∧ f tg ≤ 2) := ⟨by omega, (HD5.out.rng tg).2⟩
          clear hft
          go_wp2_with fail
          refine (vg_done P.v1 P.b1 P.m1 c.d c.a c.n c.D k' q tg (f tg) _ HD5.out.half.dc HR1.out (HD5.out.f1 tg) (by have := HFR.out; omega)).mono ?_
          rintro e w6 ⟨a6, rfl, hs6⟩
          have HH6 := hidT ((HD5.out.halfLost hs6).later (below1 w6 (.cells #[.bool q.wr, .int .i64 q.f, .int .i64 q.m, .slice q.da q.data.length q.dc, .slice q.ta q.tags.length q.tc, .int .i64 q.born, .slice none 0 0, .int .i64 8] 49)))
          have HT6 := hidT hs6
          have hk6 := (HK0.out.only hs6.only HNQ.out.1).later (below1 w6 (.cells #[.bool q.wr, .int .i64 q.f, .int .i64 q.m, .slice q.da q.data.length q.dc, .slice q.ta q.tags.length q.tc, .int .i64 q.born, .slice none 0 0, .int .i64 8] 49))
          have HX6 := hidT (res_new w6 49 q none 0 0 8)
          have hw6 := hs6.only.size
          obtain ⟨y0, y7, y8⟩ := hk6
          have lq := lt_of_cell y0
          clear hs6 HK0 hbq c0 c1 c2 c3 c4 c5 c6 c7 c8
          go_wp2_with fail
          refine (rv_done P.v2 P.b2 P.m2 r.m r.a r.n r.D k' q tg (f tg) _ HH6.out.dr HR2.out HD5.out.i2 (HD5.out.f2 tg) (by have := HFR.out; omega) (by have := HBN.out.2.1; omega)).mono ?_
          rintro e w7 ⟨ra7, rfl, hs7⟩
          have HD7 := hidT ((HD5.out.lost HT6.out (below1 w6 _) hs7).later (below1 w7 (.cells #[.bool q.wr, .int .i64 q.f, .int .i64 q.m, .slice q.da q.data.length q.dc, .slice q.ta q.tags.length q.tc, .int .i64 q.born, .slice none 0 0, .int .i64 8] 49)))
          have n6 : ¬ rvfoot P.b2 P.m2 r.a w6.heap.size := fun e => by have := HD5.out.half.dr.footLt _ e; omega
          have HX7 := hidT ((HX6.out.onlyR hs7.only n6).later (below1 w7 (.cells #[.bool q.wr, .int .i64 q.f, .int .i64 q.m, .slice q.da q.data.length q.dc, .slice q.ta q.tags.length q.tc, .int .i64 q.born, .slice none 0 0, .int .i64 8] 49)))
          have HY7 := hidT (res_new w7 49 q none 0 0 8)
          clear hs7 y0 y7 y8 HH6 HT6 HX6 lq n6
          go_wp2_with fail
          refine (same_nil 0 _).mono ?_
          rintro e w8 ⟨rfl, hb8⟩
          obtain ⟨z0, z1, z2, z3, z4, z5, z6, z7⟩ := HX7.out.later hb8
          obtain ⟨v0, v1, v2, v3, v4, v5, v6, v7⟩ := HY7.out.later hb8
          have HD8 := hidT (HD7.out.later hb8)
          have HB8 : Hid (Below w7.heap.size w7 w8) := bthen (below1 w7 _) hb8
          clear hb8 HD7 HX7 HY7
          go_wp2_with fail
          refine (sameRes_er 8 q [] none none 0 0 0 rfl _ (HRA.out.later HD8.out.half.bel) (Or.inl rfl) (Or.inl rfl) (by simp)).mono ?_
          rintro e w9 ⟨rfl, hb9⟩
          have HDX := hidT (HD8.out.later hb9)
          clear hb9 z0 z1 z2 z3 z4 z5 z6 z7 v0 v1 v2 v3 v4 v5 v6 v7 HD8
          go_wp2_with fail
          refine wp_worldD (fun wK => ∃ c' r' f', VD w P c' r' f' (k + 1) wK) ⟨_, _, _, HDX.out⟩ ?_
          clear HDX
          rintro wT ⟨c', r', f', hdu'⟩; have HDU := hidT hdu'; clear hdu'; have c65 := HDU.out.half.dr.dev.c65; have lb2 := HDU.out.half.dr.dev.lt; have HSB : Hid (LBv wT P.b2 (.slice r'.a.la r'.m.busy.length r'.a.lc)) := ⟨c65, lb2⟩; by_cases hl2 : r'.m.busy.length < 2; (focus (have HRM : Hid (decide (c'.d.busy.length < 2) = true) := (by show _ = _; rw [HDU.out.same]; exact decide_eq_true hl2); have hl3 : decide ((r'.m.busy.length : Int) < 2) = true := decide_eq_true (by omega); have hl4 : (r'.m.busy.length : Int) < 2 := (by omega); clear hl2; go_region_held3 (fun w' => w'.cell? ⟨P.b2, 65, none⟩ = some (.slice r'.a.la r'.m.busy.length r'.a.lc) ∧ P.b2 < w'.heap.size) (exact LBv.keep HSB.out (by repeat (first | with_reducible exact Below.refl _ _ | with_reducible refine balloc ?_ _ | with_reducible refine bdrew ?_ | with_reducible refine bset' ?_ (by omega) _ | with_reducible refine bthen ?_ (by assumption)))) (first | (go_at_call 24; refine (busy_any P.b1 c'.d c'.a _ (HDU.out.half.dc.dev.later (by repeat (first | with_reducible exact Below.refl _ _ | with_reducible refine balloc ?_ _ | with_reducible refine bdrew ?_ | with_reducible refine bset' ?_ (by omega) _ | with_reducible refine bthen ?_ (by assumption))))).mono ?_; rintro e wA ⟨xa, xc, rfl, hRA, -, hbA⟩) | (go_at_call 23; refine (sames_yes c'.d.busy r'.m.busy xa r'.a.la xc r'.a.lc _ (hRA.later (by repeat (first | with_reducible exact Below.refl _ _ | with_reducible refine balloc ?_ _ | with_reducible refine bdrew ?_ | with_reducible refine bset' ?_ (by omega) _ | with_reducible refine bthen ?_ (by assumption)))) (HDU.out.half.dr.dev.lrow.later (by repeat (first | with_reducible exact Below.refl _ _ | with_reducible refine balloc ?_ _ | with_reducible refine bdrew ?_ | with_reducible refine bset' ?_ (by omega) _ | with_reducible refine bthen ?_ (by assumption)))) (samesV HDU.out.same)).mono ?_; rintro e wB ⟨rfl, hbB⟩) | (go_at_call 31; refine (room_any P.v1 P.b1 P.m1 c'.d c'.a c'.n c'.D true _ (HDU.out.half.dc.later (by repeat (first | with_reducible exact Below.refl _ _ | with_reducible refine balloc ?_ _ | with_reducible refine bdrew ?_ | with_reducible refine bset' ?_ (by omega) _ | with_reducible refine bthen ?_ (by assumption)))) HRM.out).mono ?_; rintro e wC ⟨rfl, hbC⟩)); have HDT := hidT (HDU.out.later (wr' := wC) (by repeat (first | with_reducible exact Below.refl _ _ | with_reducible refine balloc ?_ _ | with_reducible refine bdrew ?_ | with_reducible refine bset' ?_ (by omega) _ | with_reducible refine bthen ?_ (by assumption)))); clear hbA hbB hbC HSB c65 lb2 hRA; go_wp2; go_roundw; (case rel => exact ⟨k + 1, c', r', f', by omega, by go_num, HDT.out⟩); (case measure => simp [intOf]; omega))); (focus (have HRM : Hid (decide (c'.d.busy.length < 2) = false) := (by show _ = _; rw [HDU.out.same]; exact decide_eq_false hl2); have hl3 : decide ((r'.m.busy.length : Int) < 2) = false := decide_eq_false (by omega); have hl4 : ¬ (r'.m.busy.length : Int) < 2 := (by omega); clear hl2; go_region_held3 (fun w' => w'.cell? ⟨P.b2, 65, none⟩ = some (.slice r'.a.la r'.m.busy.length r'.a.lc) ∧ P.b2 < w'.heap.size) (exact LBv.keep HSB.out (by repeat (first | with_reducible exact Below.refl _ _ | with_reducible refine balloc ?_ _ | with_reducible refine bdrew ?_ | with_reducible refine bset' ?_ (by omega) _ | with_reducible refine bthen ?_ (by assumption)))) (first | (go_at_call 24; refine (busy_any P.b1 c'.d c'.a _ (HDU.out.half.dc.dev.later (by repeat (first | with_reducible exact Below.refl _ _ | with_reducible refine balloc ?_ _ | with_reducible refine bdrew ?_ | with_reducible refine bset' ?_ (by omega) _ | with_reducible refine bthen ?_ (by assumption))))).mono ?_; rintro e wA ⟨xa, xc, rfl, hRA, -, hbA⟩) | (go_at_call 23; refine (sames_yes c'.d.busy r'.m.busy xa r'.a.la xc r'.a.lc _ (hRA.later (by repeat (first | with_reducible exact Below.refl _ _ | with_reducible refine balloc ?_ _ | with_reducible refine bdrew ?_ | with_reducible refine bset' ?_ (by omega) _ | with_reducible refine bthen ?_ (by assumption)))) (HDU.out.half.dr.dev.lrow.later (by repeat (first | with_reducible exact Below.refl _ _ | with_reducible refine balloc ?_ _ | with_reducible refine bdrew ?_ | with_reducible refine bset' ?_ (by omega) _ | with_reducible refine bthen ?_ (by assumption)))) (samesV HDU.out.same)).mono ?_; rintro e wB ⟨rfl, hbB⟩) | (go_at_call 31; refine (room_any P.v1 P.b1 P.m1 c'.d c'.a c'.n c'.D false _ (HDU.out.half.dc.later (by repeat (first | with_reducible exact Below.refl _ _ | with_reducible refine balloc ?_ _ | with_reducible refine bdrew ?_ | with_reducible refine bset' ?_ (by omega) _ | with_reducible refine bthen ?_ (by assumption)))) HRM.out).mono ?_; rintro e wC ⟨rfl, hbC⟩)); have HDT := hidT (HDU.out.later (wr' := wC) (by repeat (first | with_reducible exact Below.refl _ _ | with_reducible refine balloc ?_ _ | with_reducible refine bdrew ?_ | with_reducible refine bset' ?_ (by omega) _ | with_reducible refine bthen ?_ (by assumption)))); clear hbA hbB hbC HSB c65 lb2 hRA; go_wp2; go_roundw; (case rel => exact ⟨k + 1, c', r', f', by omega, by go_num, HDT.out⟩); (case measure => simp [intOf]; omega)))
    have g1 : (x.kind.toList == [115, 116, 97, 114, 116]) = false := strD_ne _ h1
    have g2 : (x.kind.toList == [102, 97, 117, 108, 116]) = false := strD_ne _ h2
    clear h1 h2
    have HK0 := hidT (actK_new wr 41 x.kind (.bool x.req.wr) (.int .i64 x.req.f) (.int .i64 x.req.m) (.slice x.req.da x.req.data.length x.req.dc) (.slice x.req.ta x.req.tags.length x.req.tc) (.int .i64 x.req.born) x.n x.k)
    have hbq := hidT (below1 wr (.cells #[.string x.kind, .bool x.req.wr, .int .i64 x.req.f, .int .i64 x.req.m, .slice x.req.da x.req.data.length x.req.dc, .slice x.req.ta x.req.tags.length x.req.tc, .int .i64 x.req.born, .int .i64 x.n, .int .u64 x.k] 41))
    have HD5 := hidT (HDU.out.later hbq.out)
    have nq : ¬ vfoot P.b1 P.m1 c.a wr.heap.size := fun e => by have := HDU.out.half.dc.footLt _ e; omega
    have nr : ¬ rvfoot P.b2 P.m2 r.a wr.heap.size := fun e => by have := HDU.out.half.dr.footLt _ e; omega
    have HNQ := hidT (⟨nq, nr⟩ : _ ∧ _)
    clear nq nr
    by_cases hn : x.n < 0 ∨ (c.d.busy.length : Int) ≤ x.n
    · have HN := hidT hn
      clear hn HDU
      go_wp2_with fail
      refine (vg_none P.v1 P.b1 P.m1 c.d c.a c.n c.D x.n false _ HD5.out.half.dc HN.out).mono ?_
      rintro e w6 ⟨rfl, hb6⟩
      have HD6 := hidT ((HD5.out.later hb6).later (below1 w6 (.cells #[.bool false, .int .i64 0, .int .i64 0, .slice none 0 0, .slice none 0 0, .int .i64 0, .slice none 0 0, .int .i64 0] 49)))
      have hk6 := (HK0.out.later hb6).later (below1 w6 (.cells #[.bool false, .int .i64 0, .int .i64 0, .slice none 0 0, .slice none 0 0, .int .i64 0, .slice none 0 0, .int .i64 0] 49))
      have HX6 := hidT (res_new w6 49 rq0 none 0 0 0)
      have HNB := hidT HD6.out.same
      obtain ⟨y0, y7, y8⟩ := hk6
      have lq := lt_of_cell y0
      clear hb6 HD5 HK0 hbq c0 c1 c2 c3 c4 c5 c6 c7 c8
      go_wp2_with fail
      refine (rv_none P.v2 P.b2 P.m2 r.m r.a r.n r.D x.n false _ HD6.out.half.dr (by rw [← HNB.out]; exact HN.out)).mono ?_
      rintro e w7 ⟨rfl, hb7⟩
      have HD7 := hidT ((HD6.out.later hb7).later (below1 w7 (.cells #[.bool false, .int .i64 0, .int .i64 0, .slice none 0 0, .slice none 0 0, .int .i64 0, .slice none 0 0, .int .i64 0] 49)))
      have HX7 := hidT ((HX6.out.later hb7).later (below1 w7 (.cells #[.bool false, .int .i64 0, .int .i64 0, .slice none 0 0, .slice none 0 0, .int .i64 0, .slice none 0 0, .int .i64 0] 49)))
      have HY7 := hidT (res_new w7 49 rq0 none 0 0 0)
      clear hb7 y0 y7 y8 HD6 HX6 lq
      go_wp2_with fail
      refine (same_err 5 5 _).mono ?_
      rintro e w8 ⟨rfl, hb8⟩
      obtain ⟨z0, z1, z2, z3, z4, z5, z6, z7⟩ := HX7.out.later hb8
      obtain ⟨v0, v1, v2, v3, v4, v5, v6, v7⟩ := HY7.out.later hb8
      have HD8 := hidT (HD7.out.later hb8)
      clear hb8 HD7 HX7 HY7
      simp only [rq0, List.length_nil] at z0 z1 z2 z3 z4 z5 z6 z7 v0 v1 v2 v3 v4 v5 v6 v7
      go_wp2_with fail
      refine (sameRes_er 0 rq0 [] none none 0 0 0 rfl _ (rq0_at _) (Or.inl rfl) (Or.inl rfl) (by simp)).mono ?_
      rintro e w9 ⟨rfl, hb9⟩
      have HDX := hidT (HD8.out.later hb9)
      clear hb9 z0 z1 z2 z3 z4 z5 z6 z7 v0 v1 v2 v3 v4 v5 v6 v7 HD8
      go_wp2_with fail
      refine wp_worldD (fun wK => ∃ c' r' f', VD w P c' r' f' (k + 1) wK) ⟨c, r, f, HDX.out.more (by omega)⟩ ?_
      clear HDX
      rintro wT ⟨c', r', f', hdu'⟩; have HDU := hidT hdu'; clear hdu'; have c65 := HDU.out.half.dr.dev.c65; have lb2 := HDU.out.half.dr.dev.lt; have HSB : Hid (LBv wT P.b2 (.slice r'.a.la r'.m.busy.length r'.a.lc)) := ⟨c65, lb2⟩; by_cases hl2 : r'.m.busy.length < 2; (focus (have HRM : Hid (decide (c'.d.busy.length < 2) = true) := (by show _ = _; rw [HDU.out.same]; exact decide_eq_true hl2); have hl3 : decide ((r'.m.busy.length : Int) < 2) = true := decide_eq_true (by omega); have hl4 : (r'.m.busy.length : Int) < 2 := (by omega); clear hl2; go_region_held3 (fun w' => w'.cell? ⟨P.b2, 65, none⟩ = some (.slice r'.a.la r'.m.busy.length r'.a.lc) ∧ P.b2 < w'.heap.size) (exact LBv.keep HSB.out (by repeat (first | with_reducible exact Below.refl _ _ | with_reducible refine balloc ?_ _ | with_reducible refine bdrew ?_ | with_reducible refine bset' ?_ (by omega) _ | with_reducible refine bthen ?_ (by assumption)))) (first | (go_at_call 24; refine (busy_any P.b1 c'.d c'.a _ (HDU.out.half.dc.dev.later (by repeat (first | with_reducible exact Below.refl _ _ | with_reducible refine balloc ?_ _ | with_reducible refine bdrew ?_ | with_reducible refine bset' ?_ (by omega) _ | with_reducible refine bthen ?_ (by assumption))))).mono ?_; rintro e wA ⟨xa, xc, rfl, hRA, -, hbA⟩) | (go_at_call 23; refine (sames_yes c'.d.busy r'.m.busy xa r'.a.la xc r'.a.lc _ (hRA.later (by repeat (first | with_reducible exact Below.refl _ _ | with_reducible refine balloc ?_ _ | with_reducible refine bdrew ?_ | with_reducible refine bset' ?_ (by omega) _ | with_reducible refine bthen ?_ (by assumption)))) (HDU.out.half.dr.dev.lrow.later (by repeat (first | with_reducible exact Below.refl _ _ | with_reducible refine balloc ?_ _ | with_reducible refine bdrew ?_ | with_reducible refine bset' ?_ (by omega) _ | with_reducible refine bthen ?_ (by assumption)))) (samesV HDU.out.same)).mono ?_; rintro e wB ⟨rfl, hbB⟩) | (go_at_call 31; refine (room_any P.v1 P.b1 P.m1 c'.d c'.a c'.n c'.D true _ (HDU.out.half.dc.later (by repeat (first | with_reducible exact Below.refl _ _ | with_reducible refine balloc ?_ _ | with_reducible refine bdrew ?_ | with_reducible refine bset' ?_ (by omega) _ | with_reducible refine bthen ?_ (by assumption)))) HRM.out).mono ?_; rintro e wC ⟨rfl, hbC⟩)); have HDT := hidT (HDU.out.later (wr' := wC) (by repeat (first | with_reducible exact Below.refl _ _ | with_reducible refine balloc ?_ _ | with_reducible refine bdrew ?_ | with_reducible refine bset' ?_ (by omega) _ | with_reducible refine bthen ?_ (by assumption)))); clear hbA hbB hbC HSB c65 lb2 hRA; go_wp2; go_roundw; (case rel => exact ⟨k + 1, c', r', f', by omega, by go_num, HDT.out⟩); (case measure => simp [intOf]; omega))); (focus (have HRM : Hid (decide (c'.d.busy.length < 2) = false) := (by show _ = _; rw [HDU.out.same]; exact decide_eq_false hl2); have hl3 : decide ((r'.m.busy.length : Int) < 2) = false := decide_eq_false (by omega); have hl4 : ¬ (r'.m.busy.length : Int) < 2 := (by omega); clear hl2; go_region_held3 (fun w' => w'.cell? ⟨P.b2, 65, none⟩ = some (.slice r'.a.la r'.m.busy.length r'.a.lc) ∧ P.b2 < w'.heap.size) (exact LBv.keep HSB.out (by repeat (first | with_reducible exact Below.refl _ _ | with_reducible refine balloc ?_ _ | with_reducible refine bdrew ?_ | with_reducible refine bset' ?_ (by omega) _ | with_reducible refine bthen ?_ (by assumption)))) (first | (go_at_call 24; refine (busy_any P.b1 c'.d c'.a _ (HDU.out.half.dc.dev.later (by repeat (first | with_reducible exact Below.refl _ _ | with_reducible refine balloc ?_ _ | with_reducible refine bdrew ?_ | with_reducible refine bset' ?_ (by omega) _ | with_reducible refine bthen ?_ (by assumption))))).mono ?_; rintro e wA ⟨xa, xc, rfl, hRA, -, hbA⟩) | (go_at_call 23; refine (sames_yes c'.d.busy r'.m.busy xa r'.a.la xc r'.a.lc _ (hRA.later (by repeat (first | with_reducible exact Below.refl _ _ | with_reducible refine balloc ?_ _ | with_reducible refine bdrew ?_ | with_reducible refine bset' ?_ (by omega) _ | with_reducible refine bthen ?_ (by assumption)))) (HDU.out.half.dr.dev.lrow.later (by repeat (first | with_reducible exact Below.refl _ _ | with_reducible refine balloc ?_ _ | with_reducible refine bdrew ?_ | with_reducible refine bset' ?_ (by omega) _ | with_reducible refine bthen ?_ (by assumption)))) (samesV HDU.out.same)).mono ?_; rintro e wB ⟨rfl, hbB⟩) | (go_at_call 31; refine (room_any P.v1 P.b1 P.m1 c'.d c'.a c'.n c'.D false _ (HDU.out.half.dc.later (by repeat (first | with_reducible exact Below.refl _ _ | with_reducible refine balloc ?_ _ | with_reducible refine bdrew ?_ | with_reducible refine bset' ?_ (by omega) _ | with_reducible refine bthen ?_ (by assumption)))) HRM.out).mono ?_; rintro e wC ⟨rfl, hbC⟩)); have HDT := hidT (HDU.out.later (wr' := wC) (by repeat (first | with_reducible exact Below.refl _ _ | with_reducible refine balloc ?_ _ | with_reducible refine bdrew ?_ | with_reducible refine bset' ?_ (by omega) _ | with_reducible refine bthen ?_ (by assumption)))); clear hbA hbB hbC HSB c65 lb2 hRA; go_wp2; go_roundw; (case rel => exact ⟨k + 1, c', r', f', by omega, by go_num, HDT.out⟩); (case measure => simp [intOf]; omega)))
    ·
      obtain ⟨k', hkn, hkl⟩ : ∃ k' : Nat, x.n = k' ∧ k' < c.d.busy.length := ⟨x.n.toNat, by omega, by omega⟩
      have hk' : c.d.busy[k']? = some c.d.busy[k'] := List.getElem?_eq_getElem hkl
      have HGR := hidT (HD5.out.good _ (List.getElem_mem hkl))
      have HRA := hidT (HD5.out.half.at1 _ (List.getElem_mem hkl))
      have HQM := hidT (List.getElem_mem hkl)
      generalize c.d.busy[k'] = q at *
      obtain ⟨tg, htg⟩ : ∃ tg, q.tags.getD 0 0 = tg := ⟨_, rfl⟩
      have hti := tag_in HGR.out.1 HGR.out.2
      rw [htg] at hti
      have HR1 : Hid (VReq P.m1 c.d k' q tg) := ⟨hk', htg, hti.1, hti.2, fun y hy => off_of (HD5.out.half.at1 y hy) (fun j e => HD5.out.half.fc j (Or.inl e))⟩
      have HR2 : Hid (RVReq P.m2 r.m k' q tg) := ⟨by rw [← HD5.out.same]; exact hk', htg, hti.1, hti.2, fun y hy => off_of (HD5.out.half.at2 y hy) (fun j e => HD5.out.half.fr j (Or.inl e))⟩
      rw [hkn] at c7 HK0 HD5
      have hB60 := HD5.out.b1
      have hB61 := HD5.out.b2
      have hB62 := HD5.out.b3
      have HBN : Hid (c.n ≤ 1000 ∧ r.n ≤ 1000 ∧ r.m.waits.length ≤ 1000) := ⟨by omega, by omega, by omega⟩
      clear hn hkn HDU htg hti hk' hB60 hB61 hB62
      go_wp2_with fail
      refine (vg_ok P.v1 P.b1 P.m1 c.d c.a c.n c.D k' q tg _ HD5.out.half.dc HR1.out HGR.out.1).mono ?_
      rintro e w6 ⟨a6, xa, xc, xs, rfl, hxs, hst, hnew, hs6⟩
      have HH6 := hidT ((HD5.out.halfOk hs6).later (below1 w6 (.cells #[.bool q.wr, .int .i64 q.f, .int .i64 q.m, .slice q.da q.data.length q.dc, .slice q.ta q.tags.length q.tc, .int .i64 q.born, .slice xa xs.length xc, .int .i64 0] 49)))
      have HT6 := hidT hs6
      have hk6 := (HK0.out.only hs6.only HNQ.out.1).later (below1 w6 (.cells #[.bool q.wr, .int .i64 q.f, .int .i64 q.m, .slice q.da q.data.length q.dc, .slice q.ta q.tags.length q.tc, .int .i64 q.born, .slice xa xs.length xc, .int .i64 0] 49))
      have HX6 := hidT (res_new w6 49 q xa xs.length xc 0)
      have hw6 := hs6.only.size
      have HX6s := hidT hst
      have HNW := hidT (fun ad e => (hnew ad e).1)
      obtain ⟨y0, y7, y8⟩ := hk6
      have lq := lt_of_cell y0
      clear hs6 HK0 hbq c0 c1 c2 c3 c4 c5 c6 c7 c8 hst hnew
      go_wp2_with fail
      refine (rv_ok P.v2 P.b2 P.m2 r.m r.a r.n r.D k' q tg _ HH6.out.dr HR2.out HGR.out.1 (by have := HBN.out.2.2; omega) (by have := HBN.out.2.1; omega)).mono ?_
      rintro e w7 ⟨ra7, ya, yc, ys, rfl, hys, hst7, -, hs7⟩
      have hxy : ys = xs := by rw [hys.out, hxs.out, didRead_tiedV HD5.out.tied]
      subst hxy
      have HLN : Hid (ys.length ≤ 4) := by show _ ≤ _; rw [hxs.out]; exact didRead_leV _ _ HGR.out.1
      have HD7 := hidT ((HD5.out.ok HGR.out.1 HT6.out (below1 w6 _) hs7).later (below1 w7 (.cells #[.bool q.wr, .int .i64 q.f, .int .i64 q.m, .slice q.da q.data.length q.dc, .slice q.ta q.tags.length q.tc, .int .i64 q.born, .slice ya ys.length yc, .int .i64 0] 49)))
      have HXS := hidT (strs_frame (HX6s.out.later (below1 w6 _)) hs7.only (fun _ ad e hk => by have := HNW.out ad e; have := HD5.out.half.dr.footLt _ hk; omega))
      have HYS := hidT hst7
      have n6 : ¬ rvfoot P.b2 P.m2 r.a w6.heap.size := fun e => by have := HD5.out.half.dr.footLt _ e; omega
      have HX7 := hidT ((HX6.out.onlyR hs7.only n6).later (below1 w7 (.cells #[.bool q.wr, .int .i64 q.f, .int .i64 q.m, .slice q.da q.data.length q.dc, .slice q.ta q.tags.length q.tc, .int .i64 q.born, .slice ya ys.length yc, .int .i64 0] 49)))
      have HY7 := hidT (res_new w7 49 q ya ys.length yc 0)
      clear hs7 y0 y7 y8 HH6 HT6 HX6 lq n6 hst7
      go_wp2_with fail
      refine (same_nil 0 _).mono ?_
      rintro e w8 ⟨rfl, hb8⟩
      obtain ⟨z0, z1, z2, z3, z4, z5, z6, z7⟩ := HX7.out.later hb8
      obtain ⟨v0, v1, v2, v3, v4, v5, v6, v7⟩ := HY7.out.later hb8
      have HD8 := hidT (HD7.out.later hb8)
      have HB8 : Hid (Below w7.heap.size w7 w8) := bthen (below1 w7 _) hb8
      clear hb8 HD7 HX7 HY7
      go_wp2_with fail
      refine (sameRes_er 0 q ys xa ya ys.length xc yc rfl _ (HRA.out.later HD8.out.half.bel) (HXS.out.later HB8.out) (HYS.out.later HB8.out) (by have := HLN.out; omega)).mono ?_
      rintro e w9 ⟨rfl, hb9⟩
      have HDX := hidT (HD8.out.later hb9)
      clear hb9 z0 z1 z2 z3 z4 z5 z6 z7 v0 v1 v2 v3 v4 v5 v6 v7 HD8
      go_wp2_with fail
      refine wp_worldD (fun wK => ∃ c' r' f', VD w P c' r' f' (k + 1) wK) ⟨_, _, _, HDX.out⟩ ?_
      clear HDX
      rintro wT ⟨c', r', f', hdu'⟩; have HDU := hidT hdu'; clear hdu'; have c65 := HDU.out.half.dr.dev.c65; have lb2 := HDU.out.half.dr.dev.lt; have HSB : Hid (LBv wT P.b2 (.slice r'.a.la r'.m.busy.length r'.a.lc)) := ⟨c65, lb2⟩; by_cases hl2 : r'.m.busy.length < 2; (focus (have HRM : Hid (decide (c'.d.busy.length < 2) = true) := (by show _ = _; rw [HDU.out.same]; exact decide_eq_true hl2); have hl3 : decide ((r'.m.busy.length : Int) < 2) = true := decide_eq_true (by omega); have hl4 : (r'.m.busy.length : Int) < 2 := (by omega); clear hl2; go_region_held3 (fun w' => w'.cell? ⟨P.b2, 65, none⟩ = some (.slice r'.a.la r'.m.busy.length r'.a.lc) ∧ P.b2 < w'.heap.size) (exact LBv.keep HSB.out (by repeat (first | with_reducible exact Below.refl _ _ | with_reducible refine balloc ?_ _ | with_reducible refine bdrew ?_ | with_reducible refine bset' ?_ (by omega) _ | with_reducible refine bthen ?_ (by assumption)))) (first | (go_at_call 24; refine (busy_any P.b1 c'.d c'.a _ (HDU.out.half.dc.dev.later (by repeat (first | with_reducible exact Below.refl _ _ | with_reducible refine balloc ?_ _ | with_reducible refine bdrew ?_ | with_reducible refine bset' ?_ (by omega) _ | with_reducible refine bthen ?_ (by assumption))))).mono ?_; rintro e wA ⟨xa, xc, rfl, hRA, -, hbA⟩) | (go_at_call 23; refine (sames_yes c'.d.busy r'.m.busy xa r'.a.la xc r'.a.lc _ (hRA.later (by repeat (first | with_reducible exact Below.refl _ _ | with_reducible refine balloc ?_ _ | with_reducible refine bdrew ?_ | with_reducible refine bset' ?_ (by omega) _ | with_reducible refine bthen ?_ (by assumption)))) (HDU.out.half.dr.dev.lrow.later (by repeat (first | with_reducible exact Below.refl _ _ | with_reducible refine balloc ?_ _ | with_reducible refine bdrew ?_ | with_reducible refine bset' ?_ (by omega) _ | with_reducible refine bthen ?_ (by assumption)))) (samesV HDU.out.same)).mono ?_; rintro e wB ⟨rfl, hbB⟩) | (go_at_call 31; refine (room_any P.v1 P.b1 P.m1 c'.d c'.a c'.n c'.D true _ (HDU.out.half.dc.later (by repeat (first | with_reducible exact Below.refl _ _ | with_reducible refine balloc ?_ _ | with_reducible refine bdrew ?_ | with_reducible refine bset' ?_ (by omega) _ | with_reducible refine bthen ?_ (by assumption)))) HRM.out).mono ?_; rintro e wC ⟨rfl, hbC⟩)); have HDT := hidT (HDU.out.later (wr' := wC) (by repeat (first | with_reducible exact Below.refl _ _ | with_reducible refine balloc ?_ _ | with_reducible refine bdrew ?_ | with_reducible refine bset' ?_ (by omega) _ | with_reducible refine bthen ?_ (by assumption)))); clear hbA hbB hbC HSB c65 lb2 hRA; go_wp2; go_roundw; (case rel => exact ⟨k + 1, c', r', f', by omega, by go_num, HDT.out⟩); (case measure => simp [intOf]; omega))); (focus (have HRM : Hid (decide (c'.d.busy.length < 2) = false) := (by show _ = _; rw [HDU.out.same]; exact decide_eq_false hl2); have hl3 : decide ((r'.m.busy.length : Int) < 2) = false := decide_eq_false (by omega); have hl4 : ¬ (r'.m.busy.length : Int) < 2 := (by omega); clear hl2; go_region_held3 (fun w' => w'.cell? ⟨P.b2, 65, none⟩ = some (.slice r'.a.la r'.m.busy.length r'.a.lc) ∧ P.b2 < w'.heap.size) (exact LBv.keep HSB.out (by repeat (first | with_reducible exact Below.refl _ _ | with_reducible refine balloc ?_ _ | with_reducible refine bdrew ?_ | with_reducible refine bset' ?_ (by omega) _ | with_reducible refine bthen ?_ (by assumption)))) (first | (go_at_call 24; refine (busy_any P.b1 c'.d c'.a _ (HDU.out.half.dc.dev.later (by repeat (first | with_reducible exact Below.refl _ _ | with_reducible refine balloc ?_ _ | with_reducible refine bdrew ?_ | with_reducible refine bset' ?_ (by omega) _ | with_reducible refine bthen ?_ (by assumption))))).mono ?_; rintro e wA ⟨xa, xc, rfl, hRA, -, hbA⟩) | (go_at_call 23; refine (sames_yes c'.d.busy r'.m.busy xa r'.a.la xc r'.a.lc _ (hRA.later (by repeat (first | with_reducible exact Below.refl _ _ | with_reducible refine balloc ?_ _ | with_reducible refine bdrew ?_ | with_reducible refine bset' ?_ (by omega) _ | with_reducible refine bthen ?_ (by assumption)))) (HDU.out.half.dr.dev.lrow.later (by repeat (first | with_reducible exact Below.refl _ _ | with_reducible refine balloc ?_ _ | with_reducible refine bdrew ?_ | with_reducible refine bset' ?_ (by omega) _ | with_reducible refine bthen ?_ (by assumption)))) (samesV HDU.out.same)).mono ?_; rintro e wB ⟨rfl, hbB⟩) | (go_at_call 31; refine (room_any P.v1 P.b1 P.m1 c'.d c'.a c'.n c'.D false _ (HDU.out.half.dc.later (by repeat (first | with_reducible exact Below.refl _ _ | with_reducible refine balloc ?_ _ | with_reducible refine bdrew ?_ | with_reducible refine bset' ?_ (by omega) _ | with_reducible refine bthen ?_ (by assumption)))) HRM.out).mono ?_; rintro e wC ⟨rfl, hbC⟩)); have HDT := hidT (HDU.out.later (wr' := wC) (by repeat (first | with_reducible exact Below.refl _ _ | with_reducible refine balloc ?_ _ | with_reducible refine bdrew ?_ | with_reducible refine bset' ?_ (by omega) _ | with_reducible refine bthen ?_ (by assumption)))); clear hbA hbB hbC HSB c65 lb2 hRA; go_wp2; go_roundw; (case rel => exact ⟨k + 1, c', r', f', by omega, by go_num, HDT.out⟩); (case measure => simp [intOf]; omega)))
end Go.Proofs.Ythmeaclekedilac
/- How the arguments of the laws read: whole numbers, bools, spans. -/
namespace Go.Proofs.Ythmeaclekedilac
open Go.ChangeShapes Go.WideShapes Go.RowKit
set_option maxRecDepth 100000

theorem own : ownKnob Try.prog.godebug = none := by kernel_rfl
theorem laidOut : laidOutB Try.prog = true := by kernel_rfl
theorem cellsSpan : Try.prog.cellsOf 34 = 2 := by kernel_rfl


theorem in64 {n : Int} (h : (Lit.int .i64 n).wf = true) : In64 n := bounds_i64 h

section
variable {H : Type} {enc : TypeId × Value → H} {W : World} {base b0 : Nat} {spare : Nat → Bool} {held : Bool} {r : Reach} {v : Value} {d : DataW H} {p : List MemPlace}

theorem openInt (hv : Value.okWide Try.prog W r b0 3 v) (h : DataW.Trod enc Try.prog W base spare held 3 v d p) : ∃ n, v = .int .i64 n ∧ In64 n := by
  obtain ⟨x, rfl, rfl, rfl, wx⟩ := open_int Try.underlying3 hv h
  exact ⟨x, rfl, in64 wx⟩

theorem openSpan (hv : Value.okWide Try.prog W r b0 34 v) (h : DataW.Trod enc Try.prog W base spare held 34 v d p) : ∃ f m, v = .agg #[.int .i64 f, .int .i64 m] ∧ In64 f ∧ In64 m := by
  obtain ⟨c0, c1, y0, y1, n, rfl, rfl, rfl, hy0, hy1⟩ := Joins.open_agg2 Try.underlying34 (by kernel_rfl) cellsSpan hv h
  obtain ⟨a, e0, rfl, wa⟩ := DataW.trod_int Try.underlying3 hy0
  obtain ⟨b, e1, rfl, wb⟩ := DataW.trod_int Try.underlying3 hy1
  simp at e0 e1
  subst e0 e1
  exact ⟨a, b, rfl, in64 wa, in64 wb⟩
end
end Go.Proofs.Ythmeaclekedilac
/- How requests, lists of requests and turns among the arguments of the laws read. -/
namespace Go.Proofs.Ythmeaclekedilac
open Go.ChangeShapes Go.WideShapes Go.RowKit Go.Deep
set_option maxRecDepth 100000

theorem cellsReq : Try.prog.cellsOf 38 = 6 := by kernel_rfl
theorem cellsInt : Try.prog.cellsOf 3 = 1 := by kernel_rfl
theorem cellsStr : Try.prog.cellsOf 9 = 1 := by kernel_rfl
theorem cellsBool : Try.prog.cellsOf 4 = 1 := by kernel_rfl
theorem cellsStrs : Try.prog.cellsOf 35 = 1 := by kernel_rfl
theorem cellsInts : Try.prog.cellsOf 36 = 1 := by kernel_rfl

theorem spot_none {w : World} {a : Addr} {v : Value} (h : w.cell? (a.add 0) = some v) : a = ⟨a.block, a.off, none⟩ := by
  have : a.spot = none := by simpa [Addr.add] using World.cell?_spot h
  cases a; simp_all
theorem add_mk (b o i : Nat) : (Addr.add ⟨b, o, none⟩ i) = ⟨b, o + i, none⟩ := by
  unfold Addr.add; split
  · rename_i h; subst h; rfl
  · rfl

section
variable {H : Type} {enc : TypeId × Value → H} {W : World} {base b0 fuel : Nat} {spare : Nat → Bool} {held : Bool} {r : Reach} {v : Value} {d : DataW H} {p : List MemPlace} {x : DataW H × List MemPlace} {cs : List Value}

theorem openStrs (h : DataW.trod enc Try.prog W base spare held fuel 35 cs = some x) : ∃ a c xs, cs = [.slice a (List.length xs) c] ∧ StrsAt W a xs ∧ List.length xs ≤ 9223372036854775807 ∧ (a = none → c = 0) := by
  rcases open_strs Try.underlying35 Try.underlying9 cellsStr h with ⟨rfl, _⟩ | ⟨a, len, cap, m, Sx, rfl, _, hl, hm, hmm, _, hc⟩
  · exact ⟨none, 0, [], rfl, Or.inl rfl, by simp, fun _ => rfl⟩
  · have hlm : len ≤ m := by rw [hmm]; split <;> omega
    refine ⟨some a, cap, (List.range len).map Sx, by simp, ?_, by simp; unfold maxLen at hm; omega, by simp⟩
    rcases Nat.eq_zero_or_pos len with rfl | hp
    · exact Or.inl rfl
    · right
      have e := spot_none (hc 0 (by omega)).1
      refine ⟨a.block, a.off, by rw [← e], fun i hi => ?_⟩
      simp only [List.length_map, List.length_range] at hi
      have := (hc i (by omega)).1
      rw [e, add_mk] at this
      rw [this]; simp [List.getD, hi]
theorem openInts (h : DataW.trod enc Try.prog W base spare held fuel 36 cs = some x) : ∃ a c xs, cs = [.slice a (List.length xs) c] ∧ IntsAt W a xs ∧ List.length xs ≤ 9223372036854775807 ∧ (a = none → c = 0) := by
  rcases open_ints Try.underlying36 Try.underlying3 cellsInt h with ⟨rfl, _⟩ | ⟨a, len, cap, zs, rfl, _, hl, hm, hz, _, hc, _⟩
  · exact ⟨none, 0, [], rfl, Or.inl rfl, by simp, fun _ => rfl⟩
  · have hlm : len ≤ zs.length := by rw [hz]; split <;> omega
    refine ⟨some a, cap, zs.take len, by simp; omega, ?_, by simp; unfold maxLen at hm; omega, by simp⟩
    rcases Nat.eq_zero_or_pos len with rfl | hp
    · exact Or.inl (by simp)
    · right
      have e := spot_none (hc 0 (by omega))
      refine ⟨a.block, a.off, by rw [← e], fun i hi => ?_⟩
      simp only [List.length_take] at hi
      have := hc i (by omega)
      rw [e, add_mk] at this
      rw [this]
      simp [List.getD, show i < len by omega]

theorem fieldAt {fs : Array Field} {xs : List (DataW H × List MemPlace)} {n : Nat} (hf : ∀ (i : Nat) (f : Field), fs[i]? = some f → DataW.trod enc Try.prog W base spare held n f.type ((cs.drop f.offset).take (Try.prog.cellsOf f.type)) = xs[i]?)
    (i T o c : Nat) (h : (fs[i]?).map (fun f => (f.type, f.offset)) = some (T, o)) (hc : Try.prog.cellsOf T = c) (hi : i < xs.length) : ∃ y, DataW.trod enc Try.prog W base spare held n T ((cs.drop o).take c) = some y := by
  cases e : fs[i]? with
  | none => rw [e] at h; cases h
  | some f =>
    rw [e] at h
    simp only [Option.map_some, Option.some.injEq, Prod.mk.injEq] at h
    obtain ⟨rfl, rfl⟩ := h
    subst hc
    exact ⟨_, (hf i f e).trans (List.getElem?_eq_getElem hi)⟩

theorem six {cs : List Value} (h : cs.length = 6) : ∃ a b c d e f, cs = [a, b, c, d, e, f] := by
  match cs, h with
  | [a, b, c, d, e, f], _ => exact ⟨a, b, c, d, e, f, rfl⟩

theorem openReqCells (h : DataW.trod enc Try.prog W base spare held fuel 38 cs = some x) : ∃ q : Rq, cs = [q.cell 0, q.cell 1, q.cell 2, q.cell 3, q.cell 4, q.cell 5] ∧ q.At W := by
  obtain ⟨xs, n, _, _, hl, hlen, hf⟩ := DataW.trod_struct Try.underlying38 h
  rw [cellsReq] at hl
  obtain ⟨v0, v1, v2, v3, v4, v5, rfl⟩ := six hl
  have hlen' : xs.length = 5 := hlen
  obtain ⟨y0, f0⟩ := fieldAt hf 0 4 0 1 rfl cellsBool (by omega)
  obtain ⟨y1, f1⟩ := fieldAt hf 1 34 1 2 rfl cellsSpan (by omega)
  obtain ⟨y2, f2⟩ := fieldAt hf 2 35 3 1 rfl cellsStrs (by omega)
  obtain ⟨y3, f3⟩ := fieldAt hf 3 36 4 1 rfl cellsInts (by omega)
  obtain ⟨y4, f4⟩ := fieldAt hf 4 3 5 1 rfl cellsInt (by omega)
  obtain ⟨w, g0, _⟩ := DataW.trod_bool Try.underlying4 f0
  obtain ⟨zs, k, _, _, _, zlen, hz⟩ := DataW.trod_struct Try.underlying34 f1
  have zlen' : zs.length = 2 := zlen
  obtain ⟨z0, s0⟩ := fieldAt hz 0 3 0 1 rfl cellsInt (by omega)
  obtain ⟨z1, s1⟩ := fieldAt hz 1 3 1 1 rfl cellsInt (by omega)
  obtain ⟨f, g1, _, wf⟩ := DataW.trod_int Try.underlying3 s0
  obtain ⟨m, g2, _, wm⟩ := DataW.trod_int Try.underlying3 s1
  obtain ⟨da, dc, data, g3, hd, hd', hdn⟩ := openStrs f2
  obtain ⟨ta, tc, tags, g4, ht, ht', htn⟩ := openInts f3
  obtain ⟨born, g5, _, wb⟩ := DataW.trod_int Try.underlying3 f4
  simp only [List.drop, List.take, List.cons.injEq, and_true] at g0 g1 g2 g3 g4 g5
  subst g0 g1 g2 g3 g4 g5
  exact ⟨⟨w, f, m, da, dc, data, ta, tc, tags, born⟩, rfl, ⟨hd, ht, hd', ht', in64 wf, in64 wm, in64 wb, hdn, htn⟩⟩

theorem openReq (hv : Value.okWide Try.prog W r b0 38 v) (h : DataW.Trod enc Try.prog W base spare held 38 v d p) : ∃ q : Rq, v = q.val ∧ q.At W := by
  obtain ⟨cs, rfl, _⟩ := okWide_struct Try.underlying38 hv
  obtain ⟨fuel, hf⟩ := h
  obtain ⟨q, hq, hat⟩ := openReqCells hf
  refine ⟨q, ?_, hat⟩
  simp only [Value.cells] at hq
  have : cs = #[q.cell 0, q.cell 1, q.cell 2, q.cell 3, q.cell 4, q.cell 5] := by rw [← Array.toList_inj]; exact hq
  rw [this]; rfl

theorem openReqsC (hv : Value.okWide Try.prog W r b0 30 v) (h : DataW.Trod enc Try.prog W base spare held 30 v d p) : ∃ (l : List Rq) (a : Option Addr) (c : Nat), v = .slice a l.length c ∧ ReqsAt W a l ∧ l.length ≤ c ∧ c ≤ 9223372036854775807 ∧ (a = none → c = 0) := by
  obtain ⟨a, len, cap, rfl⟩ := okWide_slice Try.underlying30 hv
  obtain ⟨fuel, hf⟩ := h
  rcases open_slice Try.underlying30 hf with ⟨hcs, _⟩ | ⟨a', len', cap', m, n, D, Pl, hcs, _, hl, hm, hmm, _, hel⟩
  · simp [Value.cells] at hcs
    obtain ⟨rfl, rfl, rfl⟩ := hcs
    exact ⟨[], none, 0, rfl, ⟨Or.inl rfl, by simp, by simp⟩, by simp, by simp, fun _ => rfl⟩
  · simp [Value.cells] at hcs
    obtain ⟨rfl, rfl, rfl⟩ := hcs
    have hlm : len ≤ m := by rw [hmm]; split <;> omega
    rw [cellsReq] at hel
    have each : ∀ i, i < len → ∃ q : Rq, (∀ j, j < 6 → W.cell? ((a'.add (i * 6)).add j) = some (q.cell j)) ∧ q.At W := by
      intro i hi
      obtain ⟨cs, h1, h2⟩ := hel i (by omega)
      obtain ⟨q, hq, hat⟩ := openReqCells h2
      obtain ⟨_, _, h3⟩ := World.cells?_some h1
      refine ⟨q, fun j hj => ?_, hat⟩
      rw [h3 j hj, hq]
      match j, hj with
      | 0, _ => rfl
      | 1, _ => rfl
      | 2, _ => rfl
      | 3, _ => rfl
      | 4, _ => rfl
      | 5, _ => rfl
    have inh : Inhabited Rq := ⟨⟨false, 0, 0, none, 0, [], none, 0, [], 0⟩⟩
    obtain ⟨Q, hQ⟩ := choose_lt each
    have hm' : cap ≤ 9223372036854775807 := by unfold maxLen at hm; omega
    refine ⟨(List.range len).map Q, some a', cap, by simp, ⟨?_, ?_, by simp; omega⟩, by simpa using hl, hm', by simp⟩
    · rcases Nat.eq_zero_or_pos len with rfl | hp
      · exact Or.inl rfl
      · right
        have e : a' = ⟨a'.block, a'.off, none⟩ := by
          have h0 := (hQ 0 hp).1 0 (by omega)
          rw [Nat.zero_mul] at h0
          have h1 : a'.spot = none := by simpa [Addr.add] using World.cell?_spot h0
          cases a'; simp_all
        refine ⟨a'.block, a'.off, by rw [← e], fun i hi j hj => ?_⟩
        simp only [List.length_map, List.length_range] at hi
        have := (hQ i hi).1 j hj
        rw [e, add_mk, add_mk] at this
        rw [this]; simp
    · intro q hq
      simp only [List.mem_map, List.mem_range] at hq
      obtain ⟨i, hi, rfl⟩ := hq
      exact (hQ i hi).2

theorem openReqs (hv : Value.okWide Try.prog W r b0 30 v) (h : DataW.Trod enc Try.prog W base spare held 30 v d p) : ∃ (l : List Rq) (a : Option Addr) (c : Nat), v = .slice a l.length c ∧ ReqsAt W a l := by
  obtain ⟨l, a, c, h1, h2, _⟩ := openReqsC hv h
  exact ⟨l, a, c, h1, h2⟩
end
end Go.Proofs.Ythmeaclekedilac
/- How lists of acts among the arguments of the laws read. -/
namespace Go.Proofs.Ythmeaclekedilac
open Go.ChangeShapes Go.WideShapes Go.RowKit Go.Deep
set_option maxRecDepth 100000

theorem cellsAct : Try.prog.cellsOf 41 = 9 := by kernel_rfl
theorem cellsU64 : Try.prog.cellsOf 39 = 1 := by kernel_rfl
def InU64 (n : Int) : Prop := 0 ≤ n ∧ n ≤ 18446744073709551615
def ActsIn (l : List Ac) : Prop := ∀ x ∈ l, In64 x.n ∧ InU64 x.k
theorem inU64 {n : Int} (h : (Lit.int .u64 n).wf = true) : InU64 n := bounds_u64 h
section
variable {H : Type} {enc : TypeId × Value → H} {W : World} {base b0 fuel : Nat} {spare : Nat → Bool} {held : Bool} {r : Reach} {v : Value} {d : DataW H} {p : List MemPlace} {x : DataW H × List MemPlace} {cs : List Value}
theorem nine {cs : List Value} (h : cs.length = 9) : ∃ a b c d e f g i j, cs = [a, b, c, d, e, f, g, i, j] := by
  match cs, h with
  | [a, b, c, d, e, f, g, i, j], _ => exact ⟨a, b, c, d, e, f, g, i, j, rfl⟩
theorem openActCells (h : DataW.trod enc Try.prog W base spare held fuel 41 cs = some x) : ∃ q : Ac, cs = [q.cell 0, q.cell 1, q.cell 2, q.cell 3, q.cell 4, q.cell 5, q.cell 6, q.cell 7, q.cell 8] ∧ q.req.At W ∧ In64 q.n ∧ InU64 q.k := by
  obtain ⟨xs, n, _, _, hl, hlen, hf⟩ := DataW.trod_struct Try.underlying41 h
  rw [cellsAct] at hl
  obtain ⟨v0, v1, v2, v3, v4, v5, v6, v7, v8, rfl⟩ := nine hl
  have hlen' : xs.length = 4 := hlen
  obtain ⟨y0, f0⟩ := fieldAt hf 0 9 0 1 rfl cellsStr (by omega)
  obtain ⟨y1, f1⟩ := fieldAt hf 1 38 1 6 rfl cellsReq (by omega)
  obtain ⟨y2, f2⟩ := fieldAt hf 2 3 7 1 rfl cellsInt (by omega)
  obtain ⟨y3, f3⟩ := fieldAt hf 3 39 8 1 rfl cellsU64 (by omega)
  obtain ⟨s, g0, _⟩ := DataW.trod_string Try.underlying9 f0
  obtain ⟨q, hq, hat⟩ := openReqCells f1
  obtain ⟨nn, g2, _, wn⟩ := DataW.trod_int Try.underlying3 f2
  obtain ⟨kk, g3, _, wk⟩ := DataW.trod_int Try.underlying39 f3
  simp only [List.drop, List.take, List.cons.injEq, and_true] at g0 hq g2 g3
  obtain ⟨rfl, rfl, rfl, rfl, rfl, rfl⟩ := hq
  subst g0 g2 g3
  exact ⟨⟨s, q, nn, kk⟩, rfl, hat, in64 wn, inU64 wk⟩
theorem openActs (hv : Value.okWide Try.prog W r b0 22 v) (h : DataW.Trod enc Try.prog W base spare held 22 v d p) : ∃ (l : List Ac) (a : Option Addr) (c : Nat), v = .slice a l.length c ∧ ActsAt W a l ∧ ActsIn l := by
  obtain ⟨a, len, cap, rfl⟩ := okWide_slice Try.underlying22 hv
  obtain ⟨fuel, hf⟩ := h
  rcases open_slice Try.underlying22 hf with ⟨hcs, _⟩ | ⟨a', len', cap', m, n, D, Pl, hcs, _, hl, hm, hmm, _, hel⟩
  · simp [Value.cells] at hcs
    obtain ⟨rfl, rfl, rfl⟩ := hcs
    exact ⟨[], none, 0, rfl, ⟨Or.inl rfl, by simp, by simp⟩, fun x hx => by cases hx⟩
  · simp [Value.cells] at hcs
    obtain ⟨rfl, rfl, rfl⟩ := hcs
    have hlm : len ≤ m := by rw [hmm]; split <;> omega
    rw [cellsAct] at hel
    have each : ∀ i, i < len → ∃ q : Ac, (∀ j, j < 9 → W.cell? ((a'.add (i * 9)).add j) = some (q.cell j)) ∧ q.req.At W ∧ In64 q.n ∧ InU64 q.k := by
      intro i hi
      obtain ⟨cs, h1, h2⟩ := hel i (by omega)
      obtain ⟨q, hq, hat⟩ := openActCells h2
      obtain ⟨_, _, h3⟩ := World.cells?_some h1
      refine ⟨q, fun j hj => ?_, hat⟩
      rw [h3 j hj, hq]
      match j, hj with
      | 0, _ => rfl
      | 1, _ => rfl
      | 2, _ => rfl
      | 3, _ => rfl
      | 4, _ => rfl
      | 5, _ => rfl
      | 6, _ => rfl
      | 7, _ => rfl
      | 8, _ => rfl
    have inh : Inhabited Ac := ⟨⟨ByteArray.empty, ⟨false, 0, 0, none, 0, [], none, 0, [], 0⟩, 0, 0⟩⟩
    obtain ⟨Q, hQ⟩ := choose_lt each
    have hm' : cap ≤ 9223372036854775807 := by unfold maxLen at hm; omega
    refine ⟨(List.range len).map Q, some a', cap, by simp, ⟨?_, ?_, by simp; omega⟩, ?_⟩
    · rcases Nat.eq_zero_or_pos len with rfl | hp
      · exact Or.inl rfl
      · right
        have e : a' = ⟨a'.block, a'.off, none⟩ := by
          have h0 := (hQ 0 hp).1 0 (by omega)
          rw [Nat.zero_mul] at h0
          have h1 : a'.spot = none := by simpa [Addr.add] using World.cell?_spot h0
          cases a'; simp_all
        refine ⟨a'.block, a'.off, by rw [← e], fun i hi j hj => ?_⟩
        simp only [List.length_map, List.length_range] at hi
        have := (hQ i hi).1 j hj
        rw [e, add_mk, add_mk] at this
        rw [this]; simp
    · intro q hq
      simp only [List.mem_map, List.mem_range] at hq
      obtain ⟨i, hi, rfl⟩ := hq
      exact (hQ i hi).2.1
    · intro q hq
      simp only [List.mem_map, List.mem_range] at hq
      obtain ⟨i, hi, rfl⟩ := hq
      exact (hQ i hi).2.2
theorem openU64 (hv : Value.okWide Try.prog W r b0 39 v) (h : DataW.Trod enc Try.prog W base spare held 39 v d p) : ∃ n, v = .int .u64 n ∧ InU64 n := by
  obtain ⟨x, rfl, rfl, rfl, wx⟩ := open_int Try.underlying39 hv h
  exact ⟨x, rfl, inU64 wx⟩
end
end Go.Proofs.Ythmeaclekedilac
/- How a request reads whose tags' range matters. -/
namespace Go.Proofs.Ythmeaclekedilac
open Go.ChangeShapes Go.WideShapes Go.RowKit Go.Deep
set_option maxRecDepth 100000
section
variable {H : Type} {enc : TypeId × Value → H} {W : World} {base b0 fuel : Nat} {spare : Nat → Bool} {held : Bool} {r : Reach} {v : Value} {d : DataW H} {p : List MemPlace} {x : DataW H × List MemPlace} {cs : List Value}
theorem openIntsT (h : DataW.trod enc Try.prog W base spare held fuel 36 cs = some x) : ∃ a c xs, cs = [.slice a (List.length xs) c] ∧ IntsAt W a xs ∧ List.length xs ≤ 9223372036854775807 ∧ (a = none → c = 0) ∧ ∀ t ∈ xs, In64 t := by
  rcases open_ints Try.underlying36 Try.underlying3 cellsInt h with ⟨rfl, _⟩ | ⟨a, len, cap, zs, rfl, _, hl, hm, hz, _, hc, hwf⟩
  · exact ⟨none, 0, [], rfl, Or.inl rfl, by simp, fun _ => rfl, fun t ht => by cases ht⟩
  · have hlm : len ≤ zs.length := by rw [hz]; split <;> omega
    refine ⟨some a, cap, zs.take len, by simp; omega, ?_, by simp; unfold maxLen at hm; omega, by simp, fun t ht => in64 (hwf t (List.mem_of_mem_take ht))⟩
    rcases Nat.eq_zero_or_pos len with rfl | hp
    · exact Or.inl (by simp)
    · right
      have e := spot_none (hc 0 (by omega))
      refine ⟨a.block, a.off, by rw [← e], fun i hi => ?_⟩
      simp only [List.length_take] at hi
      have := hc i (by omega)
      rw [e, add_mk] at this
      rw [this]
      simp [List.getD, show i < len by omega]
theorem openReqCellsT (h : DataW.trod enc Try.prog W base spare held fuel 38 cs = some x) : ∃ q : Rq, cs = [q.cell 0, q.cell 1, q.cell 2, q.cell 3, q.cell 4, q.cell 5] ∧ q.At W ∧ ∀ t ∈ q.tags, In64 t := by
  obtain ⟨xs, n, _, _, hl, hlen, hf⟩ := DataW.trod_struct Try.underlying38 h
  rw [cellsReq] at hl
  obtain ⟨v0, v1, v2, v3, v4, v5, rfl⟩ := six hl
  have hlen' : xs.length = 5 := hlen
  obtain ⟨y0, f0⟩ := fieldAt hf 0 4 0 1 rfl cellsBool (by omega)
  obtain ⟨y1, f1⟩ := fieldAt hf 1 34 1 2 rfl cellsSpan (by omega)
  obtain ⟨y2, f2⟩ := fieldAt hf 2 35 3 1 rfl cellsStrs (by omega)
  obtain ⟨y3, f3⟩ := fieldAt hf 3 36 4 1 rfl cellsInts (by omega)
  obtain ⟨y4, f4⟩ := fieldAt hf 4 3 5 1 rfl cellsInt (by omega)
  obtain ⟨w, g0, _⟩ := DataW.trod_bool Try.underlying4 f0
  obtain ⟨zs, k, _, _, _, zlen, hz⟩ := DataW.trod_struct Try.underlying34 f1
  have zlen' : zs.length = 2 := zlen
  obtain ⟨z0, s0⟩ := fieldAt hz 0 3 0 1 rfl cellsInt (by omega)
  obtain ⟨z1, s1⟩ := fieldAt hz 1 3 1 1 rfl cellsInt (by omega)
  obtain ⟨f, g1, _, wf⟩ := DataW.trod_int Try.underlying3 s0
  obtain ⟨m, g2, _, wm⟩ := DataW.trod_int Try.underlying3 s1
  obtain ⟨da, dc, data, g3, hd, hd', hdn⟩ := openStrs f2
  obtain ⟨ta, tc, tags, g4, ht, ht', htn, htw⟩ := openIntsT f3
  obtain ⟨born, g5, _, wb⟩ := DataW.trod_int Try.underlying3 f4
  simp only [List.drop, List.take, List.cons.injEq, and_true] at g0 g1 g2 g3 g4 g5
  subst g0 g1 g2 g3 g4 g5
  exact ⟨⟨w, f, m, da, dc, data, ta, tc, tags, born⟩, rfl, ⟨hd, ht, hd', ht', in64 wf, in64 wm, in64 wb, hdn, htn⟩, htw⟩
theorem openReqT (hv : Value.okWide Try.prog W r b0 38 v) (h : DataW.Trod enc Try.prog W base spare held 38 v d p) : ∃ q : Rq, v = q.val ∧ (q.At W ∧ ∀ t ∈ q.tags, In64 t) := by
  obtain ⟨cs, rfl, _⟩ := okWide_struct Try.underlying38 hv
  obtain ⟨fuel, hf⟩ := h
  obtain ⟨q, hq, hat⟩ := openReqCellsT hf
  refine ⟨q, ?_, hat⟩
  simp only [Value.cells] at hq
  have : cs = #[q.cell 0, q.cell 1, q.cell 2, q.cell 3, q.cell 4, q.cell 5] := by rw [← Array.toList_inj]; exact hq
  rw [this]; rfl
end
end Go.Proofs.Ythmeaclekedilac
/- How lists of acts read whose tags' range matters. -/
namespace Go.Proofs.Ythmeaclekedilac
open Go.ChangeShapes Go.WideShapes Go.RowKit Go.Deep
set_option maxRecDepth 100000
def ActsInT (l : List Ac) : Prop := ∀ x ∈ l, In64 x.n ∧ ∀ t ∈ x.req.tags, In64 t
section
variable {H : Type} {enc : TypeId × Value → H} {W : World} {base b0 fuel : Nat} {spare : Nat → Bool} {held : Bool} {r : Reach} {v : Value} {d : DataW H} {p : List MemPlace} {x : DataW H × List MemPlace} {cs : List Value}
theorem openActCellsT (h : DataW.trod enc Try.prog W base spare held fuel 41 cs = some x) : ∃ q : Ac, cs = [q.cell 0, q.cell 1, q.cell 2, q.cell 3, q.cell 4, q.cell 5, q.cell 6, q.cell 7, q.cell 8] ∧ q.req.At W ∧ In64 q.n ∧ ∀ t ∈ q.req.tags, In64 t := by
  obtain ⟨xs, n, _, _, hl, hlen, hf⟩ := DataW.trod_struct Try.underlying41 h
  rw [cellsAct] at hl
  obtain ⟨v0, v1, v2, v3, v4, v5, v6, v7, v8, rfl⟩ := nine hl
  have hlen' : xs.length = 4 := hlen
  obtain ⟨y0, f0⟩ := fieldAt hf 0 9 0 1 rfl cellsStr (by omega)
  obtain ⟨y1, f1⟩ := fieldAt hf 1 38 1 6 rfl cellsReq (by omega)
  obtain ⟨y2, f2⟩ := fieldAt hf 2 3 7 1 rfl cellsInt (by omega)
  obtain ⟨y3, f3⟩ := fieldAt hf 3 39 8 1 rfl cellsU64 (by omega)
  obtain ⟨s, g0, _⟩ := DataW.trod_string Try.underlying9 f0
  obtain ⟨q, hq, hat, htg⟩ := openReqCellsT f1
  obtain ⟨nn, g2, _, wn⟩ := DataW.trod_int Try.underlying3 f2
  obtain ⟨kk, g3, _, wk⟩ := DataW.trod_int Try.underlying39 f3
  simp only [List.drop, List.take, List.cons.injEq, and_true] at g0 hq g2 g3
  obtain ⟨rfl, rfl, rfl, rfl, rfl, rfl⟩ := hq
  subst g0 g2 g3
  exact ⟨⟨s, q, nn, kk⟩, rfl, hat, in64 wn, htg⟩
theorem openActsT (hv : Value.okWide Try.prog W r b0 22 v) (h : DataW.Trod enc Try.prog W base spare held 22 v d p) : ∃ (l : List Ac) (a : Option Addr) (c : Nat), v = .slice a l.length c ∧ ActsAt W a l ∧ ActsInT l := by
  obtain ⟨a, len, cap, rfl⟩ := okWide_slice Try.underlying22 hv
  obtain ⟨fuel, hf⟩ := h
  rcases open_slice Try.underlying22 hf with ⟨hcs, _⟩ | ⟨a', len', cap', m, n, D, Pl, hcs, _, hl, hm, hmm, _, hel⟩
  · simp [Value.cells] at hcs
    obtain ⟨rfl, rfl, rfl⟩ := hcs
    exact ⟨[], none, 0, rfl, ⟨Or.inl rfl, by simp, by simp⟩, fun x hx => by cases hx⟩
  · simp [Value.cells] at hcs
    obtain ⟨rfl, rfl, rfl⟩ := hcs
    have hlm : len ≤ m := by rw [hmm]; split <;> omega
    rw [cellsAct] at hel
    have each : ∀ i, i < len → ∃ q : Ac, (∀ j, j < 9 → W.cell? ((a'.add (i * 9)).add j) = some (q.cell j)) ∧ q.req.At W ∧ In64 q.n ∧ ∀ t ∈ q.req.tags, In64 t := by
      intro i hi
      obtain ⟨cs, h1, h2⟩ := hel i (by omega)
      obtain ⟨q, hq, hat⟩ := openActCellsT h2
      obtain ⟨_, _, h3⟩ := World.cells?_some h1
      refine ⟨q, fun j hj => ?_, hat⟩
      rw [h3 j hj, hq]
      match j, hj with
      | 0, _ => rfl
      | 1, _ => rfl
      | 2, _ => rfl
      | 3, _ => rfl
      | 4, _ => rfl
      | 5, _ => rfl
      | 6, _ => rfl
      | 7, _ => rfl
      | 8, _ => rfl
    have inh : Inhabited Ac := ⟨⟨ByteArray.empty, ⟨false, 0, 0, none, 0, [], none, 0, [], 0⟩, 0, 0⟩⟩
    obtain ⟨Q, hQ⟩ := choose_lt each
    have hm' : cap ≤ 9223372036854775807 := by unfold maxLen at hm; omega
    refine ⟨(List.range len).map Q, some a', cap, by simp, ⟨?_, ?_, by simp; omega⟩, ?_⟩
    · rcases Nat.eq_zero_or_pos len with rfl | hp
      · exact Or.inl rfl
      · right
        have e : a' = ⟨a'.block, a'.off, none⟩ := by
          have h0 := (hQ 0 hp).1 0 (by omega)
          rw [Nat.zero_mul] at h0
          have h1 : a'.spot = none := by simpa [Addr.add] using World.cell?_spot h0
          cases a'; simp_all
        refine ⟨a'.block, a'.off, by rw [← e], fun i hi j hj => ?_⟩
        simp only [List.length_map, List.length_range] at hi
        have := (hQ i hi).1 j hj
        rw [e, add_mk, add_mk] at this
        rw [this]; simp
    · intro q hq
      simp only [List.mem_map, List.mem_range] at hq
      obtain ⟨i, hi, rfl⟩ := hq
      exact (hQ i hi).2.1
    · intro q hq
      simp only [List.mem_map, List.mem_range] at hq
      obtain ⟨i, hi, rfl⟩ := hq
      exact (hQ i hi).2.2
end
end Go.Proofs.Ythmeaclekedilac
