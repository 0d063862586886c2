/- R.Added: where one that waits meets it; where none does. -/
import Derived.Test.YtfdmchhaiikeaaaRAdd
namespace Go.Proofs.Ytfdmchhaiikeaaa
open Go.RowKit Go.BigFrame
attribute [local go_sem] Later.cell Later.frozen

/-- A new block of six: what it holds behind a call. -/
theorem quad6 {w w1 : World} {v0 v1 v2 v3 v4 v5 : Value} {T : TypeId} (HB : Below (w.alloc (.cells #[v0, v1, v2, v3, v4, v5] T)).heap.size (w.alloc (.cells #[v0, v1, v2, v3, v4, v5] T)) w1) :
    Cel w1 w.heap.size v0 v1 v2 v3 v4 v5 ∧ (w1.frozen? ⟨w.heap.size, 0, none⟩ = false ∧ w1.frozen? ⟨w.heap.size, 1, none⟩ = false ∧ w1.frozen? ⟨w.heap.size, 2, none⟩ = false ∧ w1.frozen? ⟨w.heap.size, 3, none⟩ = false ∧ w1.frozen? ⟨w.heap.size, 4, none⟩ = false ∧ w1.frozen? ⟨w.heap.size, 5, none⟩ = false) :=
  ⟨(cel_new w T v0 v1 v2 v3 v4 v5).later HB, ((zix_new w T v0 v1 v2 v3 v4 v5).later HB).2⟩
theorem quad6d {w w1 : World} {v0 v1 v2 v3 v4 v5 : Value} {T : TypeId} (HB : Below (w.alloc (.cells #[v0, v1, v2, v3, v4, v5] T)).drew.heap.size (w.alloc (.cells #[v0, v1, v2, v3, v4, v5] T)).drew w1) :
    Cel w1 w.heap.size v0 v1 v2 v3 v4 v5 ∧ (w1.frozen? ⟨w.heap.size, 0, none⟩ = false ∧ w1.frozen? ⟨w.heap.size, 1, none⟩ = false ∧ w1.frozen? ⟨w.heap.size, 2, none⟩ = false ∧ w1.frozen? ⟨w.heap.size, 3, none⟩ = false ∧ w1.frozen? ⟨w.heap.size, 4, none⟩ = false ∧ w1.frozen? ⟨w.heap.size, 5, none⟩ = false) :=
  quad6 (bthen (bdrew (Below.refl _ _)) HB)
theorem Rq.At.set6o {q : Rq} {w : World} {b p B : Nat} {v0 v1 v2 v3 v4 v5 : Value} (h : q.At w) (hf : FreshL q B) (hb : b < B) : q.At (set6o w b p v0 v1 v2 v3 v4 v5) := by
  have n1 : ∀ b' o, q.da = some ⟨b', o, none⟩ → b' ≠ b := fun b' o hh => by have := hf.1 b' o hh; omega
  have n2 : ∀ b' o, q.ta = some ⟨b', o, none⟩ → b' ≠ b := fun b' o hh => by have := hf.2 b' o hh; omega
  exact ⟨(((((h.data.set n1 v0).set n1 v1).set n1 v2).set n1 v3).set n1 v4).set n1 v5, (((((h.tags.set n2 v0).set n2 v1).set n2 v2).set n2 v3).set n2 v4).set n2 v5, h.dl, h.tl, h.f, h.m, h.born, h.dn, h.tn⟩
def AddOutR (l : List Rq) (r : Rq) (w' : World) (e : Ending) : Prop :=
  (∃ (L : List Rq) (a' : Option Addr) (c' : Nat), Added l r L ∧ e = .returned (.tuple #[.slice a' L.length c', .int .i64 0]) ∧ ReqsAt w' a' L) ∨
  ((∀ j (hj : j < l.length), togE l[j] r = false) ∧ 6 ≤ l.length ∧ e = .returned (.tuple #[.slice none 0 0, .int .i64 7]))

set_option linter.unusedSimpArgs false in
set_option maxRecDepth 100000 in
set_option maxHeartbeats 4000000 in
theorem radd_core (l : List Rq) (a : Option Addr) (c : Nat) (r : Rq) (w : World) (hl : ReqsAt w a l) (hn : a = none → c = 0) (hr : r.At w) (h10 : l.length ≤ 1000) (gr : Good r) (gl : ∀ i (h : i < l.length), Good l[i]) :
    Calls Try.prog 20 #[.slice a l.length c, r.val] w fun e w' => ((l.any (meetsB r) = true ∧ e = .returned (.tuple #[.slice none 0 0, .int .i64 6])) ∨ (l.any (meetsB r) = false ∧ AddOutR l r w' e)) ∧ Below w.heap.size w w' := by
  obtain ⟨i, hi, hz0, hz1, hz2⟩ := pluck infoR
  have HI := hid_of (⟨hi, hz0, hz1, hz2⟩ : Try.prog.info? 36 = some i ∧ _ ∧ _ ∧ _)
  clear hi hz0 hz1 hz2
  have HGL := hid_of gl
  clear gl
  have hlen := hl.2.2
  go_enter Try.func20, Try.ntmps20
  go_wp2_with fail
  refine (rfault_any r _ (hr.later (below1 _ _)) 0 ((good_iff r).2 gr)).mono ?_
  rintro e w1 ⟨rfl, hb⟩
  have S := (six_newA w 36 r).later hb
  have HB1 : Below w.heap.size w w1 := by repeat (first | with_reducible exact Below.refl _ _ | with_reducible refine balloc ?_ _ | with_reducible refine bdrew ?_ | with_reducible refine bset' ?_ (by omega) _ | with_reducible refine bthen ?_ (by assumption))
  have hl1 := hl.later HB1
  clear hb
  go_wp2_with fail
  go_loopw [7] (fun iv wr => ∃ n : Nat, n ≤ l.length ∧ iv = .int .i64 n ∧ (∀ j (hj : j < l.length), j < n → meetsB r l[j] = false) ∧ Below w1.heap.size w1 wr) (fun iv _ => l.length - (intOf iv).toNat)
  case atStart => exact ⟨0, by omega, rfl, fun j hj h => absurd h (Nat.not_lt_zero _), Below.refl _ _⟩
  case round =>
    obtain ⟨n, hnl, rfl, hno, HR⟩ := hrel
    have HN := hid_of hno
    clear hno
    have S2 := S.later HR
    have hl2 := hl1.later HR
    have HB2 := bthen HB1 HR
    obtain ⟨s0, s1, s2, s3, s4, s5⟩ := id S2
    have ls := lt_of_cell s0
    have HRR := hid_of HR
    by_cases hlt : n < l.length
    · have h0 : l ≠ [] := by rintro rfl; exact absurd hlt (Nat.not_lt_zero _)
      obtain ⟨b, o, rfl⟩ := hl2.form.resolve_left h0
      obtain ⟨c0, c1, c2, c3, c4, c5⟩ := hl2.cells hlt
      have lc := lt_of_cell c0
      have k0 : (0 : Int) ≤ (n : Int) := by omega
      have k1 : (n : Int) < (l.length : Int) := by omega
      have o1 := ok4_32 (HGL.out n hlt).ok
      have o2 := ok4_32 gr.ok
      have HW := hid_of HB2
      clear h0 HR HB1 HB2 hl1 hl2
      cases hm : meetsB r l[n]
      · go_wp2_with fail
        refine wp_region_later (by first | exact HB | exact bdrew HB | exact Below.refl _ _) (by kernel_rfl) (by kernel_rfl) ?_
        repeat (go_big_quiet_step (first | exact rfl | (go_at_call 12; exact calls_later (rmeet_any _ _ _ _ _ o1 o2 _ hm))))
        refine wpQuiet_nil ?_; intro _ hw'; obtain ⟨p, hw''⟩ := hw'; subst hw''; (try clear hc hf hz); (try clear HB); have HB := p.below; obtain ⟨hc, hf, hz⟩ := bcell HB
        go_wp2
        go_roundw
        case rel => exact ⟨n + 1, by omega, by go_num, fun j hj h => by by_cases e : j = n; (subst e; exact hm); exact HN.out j hj (by omega), bthen HRR.out HB⟩
        case measure => simp [intOf]; omega
      · go_wp2_with fail
        refine wp_region_later (by first | exact HB | exact bdrew HB | exact Below.refl _ _) (by kernel_rfl) (by kernel_rfl) ?_
        repeat (go_big_quiet_step (first | exact rfl | (go_at_call 12; exact calls_later (rmeet_any _ _ _ _ _ o1 o2 _ hm))))
        refine wpQuiet_nil ?_; intro _ hw'; obtain ⟨p, hw''⟩ := hw'; subst hw''; (try clear hc hf hz); (try clear HB); have HB := p.below; obtain ⟨hc, hf, hz⟩ := bcell HB
        go_wp2
        go_ret2
        exact ⟨Or.inl ⟨by rw [List.any_eq_true]; exact ⟨l[n], List.getElem_mem hlt, hm⟩, rfl⟩, bthen HW.out HB⟩
    · have hany : l.any (meetsB r) = false := by
        rw [List.any_eq_false]
        intro x hx
        obtain ⟨j, hj, rfl⟩ := List.getElem_of_mem hx
        rw [HN.out j hj (by omega)]; exact Bool.false_ne_true
      have HA := hid_of hany
      have hl2w := hl2
      clear hany HN HR HRR S hl1 HB1
      obtain ⟨hi, hz0, hz1, hz2⟩ := HI.out
      have R := hl2.rowAll' hn
      go_wp2_with (at_builtin; refine wpList_append_row rfl _ _ 32 rfl wr.heap.size 36 i _ 6 80 Try.underlying32 hi hz0 hz1 hz2 rfl (by decide) _ 0 [] rfl (World.ownsRow_nil _ _ _ _) a l.length c (rcells l) rfl R (by unfold maxLen; omega) (by omega) (Nat.le_refl _) ?_; intro v3 w3 hown3 hb3)
      rw [Nat.zero_add, List.nil_append] at hown3
      have HB3 : Below w.heap.size w w3 := bthen HB2 hb3
      obtain ⟨a9, c9, rfl, hN⟩ := newR_of_owned hown3 (fun r' hr' => (hl.2.1 r' hr').later HB3) rfl (by omega)
      have S3 := S2.later hb3
      have hsz3 := hb3.size
      have hsw := HB2.size
      clear hi hz0 hz1 hz2 R hown3 S2 s0 s1 s2 s3 s4 s5 hl2 hl2w HB2
      have HNN := hid_of hN
      clear hN
      go_wp2_with fail
      clear hnl hlt ls
      go_loopw [10] (fun iv wq => ∃ n : Nat, n ≤ l.length ∧ iv = .int .i64 n ∧ (∀ j (hj : j < l.length), j < n → togE l[j] r = false) ∧ Below w3.heap.size w3 wq) (fun iv _ => l.length - (intOf iv).toNat)
      case atStart => exact ⟨0, by omega, rfl, fun j hj h => absurd h (Nat.not_lt_zero _), Below.refl _ _⟩
      case round =>
        obtain ⟨n, hnl, rfl, hno, HR⟩ := hrel
        have HN := hid_of hno
        clear hno
        replace S3 := S3.later HR
        have HB4 := bthen HB3 HR
        have hl4 := hl.later HB4
        obtain ⟨s0, s1, s2, s3, s4, s5⟩ := id S3
        have ls := lt_of_cell s0
        have HRR := hid_of HR
        by_cases hlt : n < l.length
        · have h0 : l ≠ [] := by rintro rfl; exact absurd hlt (Nat.not_lt_zero _)
          have H0 := hid_of h0
          obtain ⟨b, o, rfl⟩ := hl4.form.resolve_left h0
          obtain ⟨c0, c1, c2, c3, c4, c5⟩ := hl4.cells hlt
          have lc := lt_of_cell c0
          have k0 : (0 : Int) ≤ (n : Int) := by omega
          have k1 : (n : Int) < (l.length : Int) := by omega
          clear h0 HR
          have SL : SixO wr b (o + n * 6) l[n] := ⟨c0, c1, c2, c3, c4, c5⟩
          cases ht : togE l[n] r
          · go_wp2_with fail
            go_region_held3 (fun w' => (w'.cell? ⟨b, o + n * 6, none⟩ = some (.bool l[n].wr) ∧ w'.cell? ⟨b, o + n * 6 + 1, none⟩ = some (.int .i64 l[n].f) ∧ w'.cell? ⟨b, o + n * 6 + 2, none⟩ = some (.int .i64 l[n].m) ∧ w'.cell? ⟨b, o + n * 6 + 3, none⟩ = some (.slice l[n].da l[n].data.length l[n].dc) ∧ w'.cell? ⟨b, o + n * 6 + 4, none⟩ = some (.slice l[n].ta l[n].tags.length l[n].tc) ∧ w'.cell? ⟨b, o + n * 6 + 5, none⟩ = some (.int .i64 l[n].born)) ∧ (w'.cell? ⟨w.heap.size, 0, none⟩ = some (.bool r.wr) ∧ w'.cell? ⟨w.heap.size, 1, none⟩ = some (.int .i64 r.f) ∧ w'.cell? ⟨w.heap.size, 2, none⟩ = some (.int .i64 r.m) ∧ w'.cell? ⟨w.heap.size, 3, none⟩ = some (.slice r.da r.data.length r.dc) ∧ w'.cell? ⟨w.heap.size, 4, none⟩ = some (.slice r.ta r.tags.length r.tc) ∧ w'.cell? ⟨w.heap.size, 5, none⟩ = some (.int .i64 r.born))) (exact ⟨(show SixO _ b (o + n * 6) l[n] by repeat (first | with_reducible exact SL | with_reducible refine SixO.drew ?_ | with_reducible refine SixO.alloc ?_ _ | with_reducible refine SixO.later ?_ (by assumption) | with_reducible refine SixO.set ?_ (by omega) _)), (show Six _ w.heap.size r by repeat (first | with_reducible exact S3 | with_reducible refine Six.drew ?_ | with_reducible refine Six.alloc ?_ _ | with_reducible refine Six.later ?_ (by assumption) | with_reducible refine Six.set ?_ (by omega) _))⟩) (first | (go_at_call 37; refine (rmergedN l[n] r _ (HGL.out n hlt) gr ht).mono ?_; rintro e w4 ⟨rfl, hb4⟩; have hs4 := hb4.size; (try simp at hs4); (first | (have ZQ := quad6 hb4; obtain ⟨⟨z0, z1, z2, z3, z4, z5⟩, ⟨f0, f1, f2, f3, f4, f5⟩⟩ := ZQ; (try simp only [World.size_drew] at z0 z1 z2 z3 z4 z5 f0 f1 f2 f3 f4 f5)) | (have ZQ := quad6d hb4; obtain ⟨⟨z0, z1, z2, z3, z4, z5⟩, ⟨f0, f1, f2, f3, f4, f5⟩⟩ := ZQ; (try simp only [World.size_drew] at z0 z1 z2 z3 z4 z5 f0 f1 f2 f3 f4 f5)) | skip)))
            all_goals
              go_wp2
              go_roundw
              case rel => exact ⟨n + 1, by omega, by go_num, fun j hj h => by by_cases e : j = n; (subst e; exact ht); exact HN.out j hj (by omega), bthen HRR.out (by repeat (first | with_reducible exact Below.refl _ _ | with_reducible refine balloc ?_ _ | with_reducible refine bdrew ?_ | with_reducible refine bset' ?_ (by omega) _ | with_reducible refine bthen ?_ (by assumption)))⟩
              case measure => simp [intOf]; omega
          · obtain ⟨b9, rfl, hbb9, hlt9, hfz9⟩ := HNN.out.place H0.out
            have HFZ := hid_of hfz9
            have hsr := HRR.out.size
            clear hfz9
            go_wp2_with fail
            go_region_held3 (fun w' => (w'.cell? ⟨b, o + n * 6, none⟩ = some (.bool l[n].wr) ∧ w'.cell? ⟨b, o + n * 6 + 1, none⟩ = some (.int .i64 l[n].f) ∧ w'.cell? ⟨b, o + n * 6 + 2, none⟩ = some (.int .i64 l[n].m) ∧ w'.cell? ⟨b, o + n * 6 + 3, none⟩ = some (.slice l[n].da l[n].data.length l[n].dc) ∧ w'.cell? ⟨b, o + n * 6 + 4, none⟩ = some (.slice l[n].ta l[n].tags.length l[n].tc) ∧ w'.cell? ⟨b, o + n * 6 + 5, none⟩ = some (.int .i64 l[n].born)) ∧ (w'.cell? ⟨w.heap.size, 0, none⟩ = some (.bool r.wr) ∧ w'.cell? ⟨w.heap.size, 1, none⟩ = some (.int .i64 r.f) ∧ w'.cell? ⟨w.heap.size, 2, none⟩ = some (.int .i64 r.m) ∧ w'.cell? ⟨w.heap.size, 3, none⟩ = some (.slice r.da r.data.length r.dc) ∧ w'.cell? ⟨w.heap.size, 4, none⟩ = some (.slice r.ta r.tags.length r.tc) ∧ w'.cell? ⟨w.heap.size, 5, none⟩ = some (.int .i64 r.born))) (exact ⟨(show SixO _ b (o + n * 6) l[n] by repeat (first | with_reducible exact SL | with_reducible refine SixO.drew ?_ | with_reducible refine SixO.alloc ?_ _ | with_reducible refine SixO.later ?_ (by assumption) | with_reducible refine SixO.set ?_ (by omega) _)), (show Six _ w.heap.size r by repeat (first | with_reducible exact S3 | with_reducible refine Six.drew ?_ | with_reducible refine Six.alloc ?_ _ | with_reducible refine Six.later ?_ (by assumption) | with_reducible refine Six.set ?_ (by omega) _))⟩) (first | (go_at_call 37; refine (rmergedE l[n] r _ (HGL.out n hlt) gr (Rq.At.of hl hlt (by repeat (first | with_reducible exact Below.refl _ _ | with_reducible refine balloc ?_ _ | with_reducible refine bdrew ?_ | with_reducible refine bset' ?_ (by omega) _ | with_reducible refine bthen ?_ (by assumption)))) (hr.later (by repeat (first | with_reducible exact Below.refl _ _ | with_reducible refine balloc ?_ _ | with_reducible refine bdrew ?_ | with_reducible refine bset' ?_ (by omega) _ | with_reducible refine bthen ?_ (by assumption)))) ht).mono ?_; rintro e w4 ⟨q, rfl, hq, hqa, hqf, hb4⟩; have hs4 := hb4.size; (try simp at hs4); (first | (have ZQ := quad6 hb4; obtain ⟨⟨z0, z1, z2, z3, z4, z5⟩, ⟨f0, f1, f2, f3, f4, f5⟩⟩ := ZQ; (try simp only [World.size_drew] at z0 z1 z2 z3 z4 z5 f0 f1 f2 f3 f4 f5)) | (have ZQ := quad6d hb4; obtain ⟨⟨z0, z1, z2, z3, z4, z5⟩, ⟨f0, f1, f2, f3, f4, f5⟩⟩ := ZQ; (try simp only [World.size_drew] at z0 z1 z2 z3 z4 z5 f0 f1 f2 f3 f4 f5)) | skip)))
            · refine any_world (F := fun w => Exit.then _ _ Exit.normal _ w) (fun wz => Six wz w4.heap.size q ∧ ReqsAt wz (some ⟨b9, 0, none⟩) l ∧ (∀ o, wz.frozen? ⟨b9, o, none⟩ = false) ∧ q.At wz ∧ Below w.heap.size w wz ∧ b9 < wz.heap.size) ⟨six_newA w4 _ q, HNN.out.here.later (bthen HRR.out (by repeat (first | with_reducible exact Below.refl _ _ | with_reducible refine balloc ?_ _ | with_reducible refine bdrew ?_ | with_reducible refine bset' ?_ (by omega) _ | with_reducible refine bthen ?_ (by assumption)))), fun o => frozen_later (bthen HRR.out (by repeat (first | with_reducible exact Below.refl _ _ | with_reducible refine balloc ?_ _ | with_reducible refine bdrew ?_ | with_reducible refine bset' ?_ (by omega) _ | with_reducible refine bthen ?_ (by assumption)))) (HFZ.out o) hlt9, hqa.later (by repeat (first | with_reducible exact Below.refl _ _ | with_reducible refine balloc ?_ _ | with_reducible refine bdrew ?_ | with_reducible refine bset' ?_ (by omega) _ | with_reducible refine bthen ?_ (by assumption))), by repeat (first | with_reducible exact Below.refl _ _ | with_reducible refine balloc ?_ _ | with_reducible refine bdrew ?_ | with_reducible refine bset' ?_ (by omega) _ | with_reducible refine bthen ?_ (by assumption)), by (try simp); omega⟩ ?_
              rintro wz ⟨Sq, hLz, hfz, hqz, HBz, hb9⟩; obtain ⟨s0, s1, s2, s3, s4, s5⟩ := id Sq; have lsq := lt_of_cell s0; obtain ⟨d0, d1, d2, d3, d4, d5⟩ := hLz.cells hlt; rw [Nat.zero_add] at d0 d1 d2 d3 d4 d5; have f0 := hfz (n * 6); have f1 := hfz (n * 6 + 1); have f2 := hfz (n * 6 + 2); have f3 := hfz (n * 6 + 3); have f4 := hfz (n * 6 + 4); have f5 := hfz (n * 6 + 5); have nb : b9 ≠ w4.heap.size := (by omega); have HLZ := hid_of hLz; have hzz := HBz.size; clear hLz hfz; go_wp2; go_ret2; refine ⟨Or.inr ⟨HA.out, Or.inl ⟨l.set n q, _, c9, Or.inl ⟨n, hlt, q, HN.out, ht, hq, rfl⟩, (by show Ending.returned (.tuple #[.slice (some ⟨b9, 0, none⟩) l.length c9, .int .i64 0]) = _; rw [List.length_set]), HLZ.out.put hlt (fun r' hr' => (hl.2.1 r' hr').later ?_) (hqz.set6o hqf (by (try simp); omega)) rfl⟩⟩, ?_⟩; all_goals repeat (first | with_reducible exact Below.refl _ _ | with_reducible refine balloc ?_ _ | with_reducible refine bdrew ?_ | with_reducible refine bset' ?_ (by omega) _ | with_reducible refine bthen ?_ (by assumption))
            · have ZZ : Zix w4 wr.heap.size := ⟨⟨atHand_of z0, atHand_of z1, atHand_of z2, atHand_of z3, atHand_of z4, atHand_of z5⟩, ⟨f0, f1, f2, f3, f4, f5⟩⟩
              have hqs : ∀ b' o', q.da = some ⟨b', o', none⟩ → b' ≠ wr.heap.size := fun b' o' hh => by have := hqf.1 b' o' hh; (try simp at this); omega
              have hqt : ∀ b' o', q.ta = some ⟨b', o', none⟩ → b' ≠ wr.heap.size := fun b' o' hh => by have := hqf.2 b' o' hh; (try simp at this); omega
              refine any_world (F := fun w => Exit.then _ _ Exit.normal _ w) (fun wz => Six wz wr.heap.size q ∧ ReqsAt wz (some ⟨b9, 0, none⟩) l ∧ (∀ o, wz.frozen? ⟨b9, o, none⟩ = false) ∧ q.At wz ∧ Below w.heap.size w wz ∧ b9 < wz.heap.size) ⟨set6_cells ZZ _ _ _ _ _ _, HNN.out.here.later (bthen HRR.out (by repeat (first | with_reducible exact Below.refl _ _ | with_reducible refine balloc ?_ _ | with_reducible refine bdrew ?_ | with_reducible refine bset' ?_ (by omega) _ | with_reducible refine bthen ?_ (by assumption)))), fun o => frozen_later (bthen HRR.out (by repeat (first | with_reducible exact Below.refl _ _ | with_reducible refine balloc ?_ _ | with_reducible refine bdrew ?_ | with_reducible refine bset' ?_ (by omega) _ | with_reducible refine bthen ?_ (by assumption)))) (HFZ.out o) hlt9, ⟨set6_strs hqa.data hqs _ _ _ _ _ _, set6_ints hqa.tags hqt _ _ _ _ _ _, hqa.dl, hqa.tl, hqa.f, hqa.m, hqa.born, hqa.dn, hqa.tn⟩, by repeat (first | with_reducible exact Below.refl _ _ | with_reducible refine balloc ?_ _ | with_reducible refine bdrew ?_ | with_reducible refine bset' ?_ (by omega) _ | with_reducible refine bthen ?_ (by assumption)), by (try simp); omega⟩ ?_
              clear z0 z1 z2 z3 z4 z5 f0 f1 f2 f3 f4 f5
              rintro wz ⟨Sq, hLz, hfz, hqz, HBz, hb9⟩; obtain ⟨s0, s1, s2, s3, s4, s5⟩ := id Sq; have lsq := lt_of_cell s0; obtain ⟨d0, d1, d2, d3, d4, d5⟩ := hLz.cells hlt; rw [Nat.zero_add] at d0 d1 d2 d3 d4 d5; have f0 := hfz (n * 6); have f1 := hfz (n * 6 + 1); have f2 := hfz (n * 6 + 2); have f3 := hfz (n * 6 + 3); have f4 := hfz (n * 6 + 4); have f5 := hfz (n * 6 + 5); have nb : b9 ≠ wr.heap.size := (by omega); have HLZ := hid_of hLz; have hzz := HBz.size; clear hLz hfz; go_wp2; go_ret2; refine ⟨Or.inr ⟨HA.out, Or.inl ⟨l.set n q, _, c9, Or.inl ⟨n, hlt, q, HN.out, ht, hq, rfl⟩, (by show Ending.returned (.tuple #[.slice (some ⟨b9, 0, none⟩) l.length c9, .int .i64 0]) = _; rw [List.length_set]), HLZ.out.put hlt (fun r' hr' => (hl.2.1 r' hr').later ?_) (hqz.set6o hqf (by (try simp); omega)) rfl⟩⟩, ?_⟩; all_goals repeat (first | with_reducible exact Below.refl _ _ | with_reducible refine balloc ?_ _ | with_reducible refine bdrew ?_ | with_reducible refine bset' ?_ (by omega) _ | with_reducible refine bthen ?_ (by assumption))
        · have hnn : n = l.length := by omega
          subst hnn
          by_cases h6 : 6 ≤ l.length
          · go_wp2
            go_ret2
            exact ⟨Or.inr ⟨HA.out, Or.inr ⟨fun j hj => HN.out j hj hj, h6, rfl⟩⟩, by repeat (first | with_reducible exact Below.refl _ _ | with_reducible refine balloc ?_ _ | with_reducible refine bdrew ?_ | with_reducible refine bset' ?_ (by omega) _ | with_reducible refine bthen ?_ (by assumption))⟩
          · obtain ⟨hi, hz0, hz1, hz2⟩ := HI.out
            have hown := (HNN.out.later HRR.out).own
            go_wp2_with (at_builtin; refine wpList_append_row rfl _ _ 32 rfl w.heap.size 36 i _ 6 80 Try.underlying32 hi hz0 hz1 hz2 rfl (by decide) (.slice a9 l.length c9) l.length (rcells l) rfl (ownsRow_le' (ownA_later hown (by repeat (first | with_reducible exact Below.refl _ _ | with_reducible refine balloc ?_ _ | with_reducible refine bdrew ?_ | with_reducible refine bset' ?_ (by omega) _ | with_reducible refine bthen ?_ (by assumption)))) (by omega)) (some ⟨wr.heap.size, 0, none⟩) 1 1 (rcells [r]) rfl (row_sixA r (six_newA wr _ r)) (by unfold maxLen; omega) (by omega) (by simp; omega) ?_; intro v5 w5 hown5 hb5)
            have HB5 : Below w.heap.size w w5 := (balloc HB4 _).trans hb5
            rw [← rcells_append] at hown5
            obtain ⟨a5, c5, rfl, hN5⟩ := newR_of_owned hown5 (fun r' hr' => by rcases List.mem_append.1 hr' with h | h; exact (hl.2.1 r' h).later HB5; (rw [List.mem_singleton.1 h]; exact hr.later HB5)) (by simp) (by simp; omega)
            go_ret2
            exact ⟨Or.inr ⟨HA.out, Or.inl ⟨l ++ [r], a5, c5, Or.inr ⟨fun j hj => HN.out j hj hj, by omega, rfl⟩, rfl, hN5.here⟩⟩, HB5⟩
end Go.Proofs.Ytfdmchhaiikeaaa
