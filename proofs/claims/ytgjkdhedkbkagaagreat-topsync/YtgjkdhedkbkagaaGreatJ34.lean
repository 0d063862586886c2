/- A stack of all: Dispatch, one goes. -/
import Derived.Test.YtgjkdhedkbkagaaGreatJ33
import Derived.Test.YtgjkdhedkbkagaaGreatJ32
namespace Go.Proofs.YtgjkdhedkbkagaaGreat
open Go.RowKit Go.BigFrame Go.Maps
set_option maxRecDepth 100000
attribute [local go_sem] Later.cell Later.frozen

/-- A turn in a block of its own. -/
def TurnAt (w : World) (g : Nat) (T : Tn) : Prop := w.cell? ⟨g, 0, none⟩ = some (.bool T.w) ∧ w.cell? ⟨g, 1, none⟩ = some (.int .i64 T.g) ∧ w.cell? ⟨g, 2, none⟩ = some (.int .i64 T.s) ∧ w.cell? ⟨g, 3, none⟩ = some (.int .i64 T.p)
theorem TurnAt.only {F : Nat → Prop} {w w' : World} {g : Nat} {T : Tn} (h : TurnAt w g T) (hO : Only F w w') (hn : ¬ F g) : TurnAt w' g T := by
  obtain ⟨h0, h1, h2, h3⟩ := h
  have hl := lt_of_cell h0
  exact ⟨(hO.cell (p := ⟨g, 0, none⟩) hl hn).trans h0, (hO.cell (p := ⟨g, 1, none⟩) hl hn).trans h1, (hO.cell (p := ⟨g, 2, none⟩) hl hn).trans h2, (hO.cell (p := ⟨g, 3, none⟩) hl hn).trans h3⟩
theorem TurnAt.later {w w' : World} {g : Nat} {T : Tn} (h : TurnAt w g T) (hb : Below w.heap.size w w') : TurnAt w' g T := h.only (F := fun _ => False) (Only.of_below hb) (fun e => e)
theorem dispatch_nf {p : Sk} {i : Nat} {T : Tn} (hi : i < p.queue.length) (hne : p.queue ≠ []) (hb : p.dev.busy.length < 2) (hn : nextF p.queue p.turn p.moment = ((i : Int), T)) : p.nf.dispatch = (true, ({ p with dev := { p.dev with busy := p.dev.busy ++ [p.queue[i]] }, queue := p.queue.take i ++ p.queue.drop (i + 1), turn := T } : Sk).nf) := by
  unfold Sk.dispatch
  have e1 : nextF p.nf.queue p.nf.turn p.nf.moment = ((i : Int), T) := (nextF_nf p.queue p.turn p.moment).trans hn
  rw [if_neg (by
    rintro (e | e)
    · exact hne (List.map_eq_nil_iff.1 e)
    · rw [show p.nf.dev.busy.length = p.dev.busy.length from List.length_map _] at e; omega), e1]
  have e2 : p.nf.queue[((i : Int)).toNat]? = some p.queue[i].nf := by
    rw [Int.toNat_natCast]
    show (p.queue.map Rq.nf)[i]? = _
    rw [List.getElem?_map, List.getElem?_eq_getElem hi]; rfl
  rw [e2]
  simp only [Sk.nf, Dl.nf, List.map_append, List.map_cons, List.map_nil, Int.toNat_natCast, Option.toList, List.eraseIdx_eq_take_drop_succ, List.map_take, List.map_drop]
set_option linter.unusedSimpArgs false in
set_option maxRecDepth 100000 in
set_option maxHeartbeats 4000000 in
theorem sdispatch_yes (s : Nat) (p : Sk) (A : Sa) (w : World) (h : StkAt s p A w) (hI : Inv p) (hne : p.queue ≠ []) (hb : p.dev.busy.length < 2) (q : Sk) (hq : p.nf.dispatch.2 = q) :
    Calls Tryz.prog 35 #[.pointer (some ⟨s, 0, none⟩)] w fun e w' => e = .returned (.bool true) ∧ SOk s p A w w' q := by
  obtain ⟨bq, oq, hqa⟩ : ∃ b o, A.qa = some ⟨b, o, none⟩ := by
    rcases h.mem.queue.1 with e | ⟨b, o, e, _⟩
    · exact absurd e hne
    · exact ⟨b, o, e⟩
  obtain ⟨i, T, hi, hnx, hcall⟩ := nextF_call p.queue hI.goodsQ hne bq oq A.qc p.turn p.moment hI.mom.1 hI.mom.2 (by have := hI.ts; unfold In64; omega)
  obtain ⟨r, hr⟩ : ∃ r, p.queue[i] = r := ⟨_, rfl⟩
  obtain ⟨L, hL⟩ : ∃ L, p.queue.take i ++ p.queue.drop (i + 1) = L := ⟨_, rfl⟩
  have HQ : Hid (({ p with dev := { p.dev with busy := p.dev.busy ++ [r] }, queue := L, turn := T } : Sk).nf = q) := by
    subst hr
    subst hL
    show Sk.nf _ = q
    rw [← hq, dispatch_nf hi hne hb hnx]
  have c21 := h.cell 21 _ rfl
  rw [hqa] at c21
  have c1 := h.cell 1 _ rfl
  have c22 := h.cell 22 _ rfl
  have c23 := h.cell 23 _ rfl
  have c24 := h.cell 24 _ rfl
  have c25 := h.cell 25 _ rfl
  have c26 := h.cell 26 _ rfl
  have hl := h.lt
  have HST := hidT h
  have HI := hidT hI
  have HCALL := hidT hcall
  have HRQ : Hid (ReqsAt w (some ⟨bq, oq, none⟩) p.queue) := by have := h.mem.queue; rw [hqa] at this; exact this
  have HB : Hid (p.dev.busy.length < 2) := hb
  have HRM : Hid (decide (p.dev.busy.length < 2) = true) := decide_eq_true hb
  have h0 : ¬ p.queue.length = 0 := fun e => hne (List.eq_nil_of_length_eq_zero e)
  have h1 : ¬ (p.queue.length : Int) = 0 := by omega
  have h2 : ((p.queue.length : Int) == 0) = false := beq_eq_false_iff_ne.2 h1
  have HR6 : Hid (p.queue.length ≤ 6 ∧ p.queue.length ≤ A.qc) := ⟨hI.q6, h.mem.qcap⟩
  have HQA := hidT hqa
  have HI' : Hid (i < p.queue.length) := hi
  clear h hI hne hb hq hcall hnx hqa
  obtain ⟨n, hn⟩ : ∃ n, p.queue.length = n := ⟨_, rfl⟩
  have HCALLN : Hid (∀ w', ReqsAt w' (some ⟨bq, oq, none⟩) p.queue → Calls Tryz.prog 56 #[.slice (some ⟨bq, oq, none⟩) n A.qc, p.turn.val, .int .i64 p.moment] w' fun e w2 => e = .returned (.tuple #[.int .i64 i, T.val]) ∧ Below w'.heap.size w' w2) := by
    show ∀ w', ReqsAt w' (some ⟨bq, oq, none⟩) p.queue → _
    rw [← hn]; exact HCALL.out
  have HLL : Hid (L.length = n - 1 ∧ (∀ x ∈ L, x ∈ p.queue) ∧ r ∈ p.queue) := by
    refine ⟨?_, fun x hx => ?_, by rw [← hr]; exact List.getElem_mem hi⟩
    · rw [← hL, List.length_append, List.length_take, List.length_drop]; omega
    · rw [← hL] at hx
      rcases List.mem_append.1 hx with h' | h'
      · exact List.mem_of_mem_take h'
      · exact List.mem_of_mem_drop h'
  have HTAKE : Hid (∀ w', ReqsAt w' (some ⟨bq, oq, none⟩) p.queue → Calls Tryz.prog 57 #[.slice (some ⟨bq, oq, none⟩) n A.qc, .int .i64 i] w' fun e w2 => ∃ a' c', e = .returned (.tuple #[.slice a' L.length c', r.val]) ∧ NewReqs w'.heap.size w2 a' c' L ∧ Below w'.heap.size w' w2) := by
    intro w' hw'
    have ht := take_any p.queue bq oq A.qc w' hw' (by have := HR6.out; omega) HR6.out.2 i hi
    subst hr
    subst hL
    subst hn
    refine ht.mono ?_
    rintro e w2 ⟨v, he, hown, hb2⟩
    obtain ⟨a', c', rfl, hN⟩ := newR_of_owned hown (fun x hx => (hw'.2.1 x (HLL.out.2.1 x hx)).later hb2) (by have := HLL.out.1; omega) (by have := HLL.out.1; have := HR6.out; omega)
    exact ⟨a', c', he, hN, hb2⟩
  rw [hn] at c21 h0 h1 h2
  have HN := hidT hn
  clear hn HCALL hr hL
  obtain ⟨tw, tg, ts, tp⟩ := T
  go_enter Tryz.func35, Tryz.ntmps35
  go_wp2_with fail
  refine (room_any A.v A.b A.bm p.dev A.an A.n A.D true w HST.out.mem.drv HRM.out).mono ?_
  rintro e w1 ⟨rfl, hb1⟩
  have HB1 := hidT hb1
  replace c21 := cellB_later' hb1 c21
  replace c1 := cellB_later' hb1 c1
  replace c22 := cellB_later' hb1 c22
  replace c23 := cellB_later' hb1 c23
  replace c24 := cellB_later' hb1 c24
  replace c25 := cellB_later' hb1 c25
  replace c26 := cellB_later' hb1 c26
  replace hl := Nat.lt_of_lt_of_le hl hb1.size
  clear hb1
  go_wp2_with fail
  go_region_held3 (fun w' => w'.cell? ⟨s, 21, none⟩ = some (.slice (some ⟨bq, oq, none⟩) n A.qc) ∧ w'.cell? ⟨s, 22, none⟩ = some (.bool p.turn.w) ∧ w'.cell? ⟨s, 23, none⟩ = some (.int .i64 p.turn.g) ∧ w'.cell? ⟨s, 24, none⟩ = some (.int .i64 p.turn.s) ∧ w'.cell? ⟨s, 25, none⟩ = some (.int .i64 p.turn.p) ∧ w'.cell? ⟨s, 26, none⟩ = some (.int .i64 p.moment)) (exact ⟨cellB_later' (w := w1) (by repeat (first | with_reducible exact Below.refl _ _ | with_reducible refine balloc ?_ _ | with_reducible refine bdrew ?_ | with_reducible refine bset' ?_ (by omega) _ | with_reducible refine bthen ?_ (by assumption))) c21, cellB_later' (w := w1) (by repeat (first | with_reducible exact Below.refl _ _ | with_reducible refine balloc ?_ _ | with_reducible refine bdrew ?_ | with_reducible refine bset' ?_ (by omega) _ | with_reducible refine bthen ?_ (by assumption))) c22, cellB_later' (w := w1) (by repeat (first | with_reducible exact Below.refl _ _ | with_reducible refine balloc ?_ _ | with_reducible refine bdrew ?_ | with_reducible refine bset' ?_ (by omega) _ | with_reducible refine bthen ?_ (by assumption))) c23, cellB_later' (w := w1) (by repeat (first | with_reducible exact Below.refl _ _ | with_reducible refine balloc ?_ _ | with_reducible refine bdrew ?_ | with_reducible refine bset' ?_ (by omega) _ | with_reducible refine bthen ?_ (by assumption))) c24, cellB_later' (w := w1) (by repeat (first | with_reducible exact Below.refl _ _ | with_reducible refine balloc ?_ _ | with_reducible refine bdrew ?_ | with_reducible refine bset' ?_ (by omega) _ | with_reducible refine bthen ?_ (by assumption))) c25, cellB_later' (w := w1) (by repeat (first | with_reducible exact Below.refl _ _ | with_reducible refine balloc ?_ _ | with_reducible refine bdrew ?_ | with_reducible refine bset' ?_ (by omega) _ | with_reducible refine bthen ?_ (by assumption))) c26⟩) (first | (go_at_call 56; refine (HCALLN.out _ (HRQ.out.later (bthen HB1.out (by repeat (first | with_reducible exact Below.refl _ _ | with_reducible refine balloc ?_ _ | with_reducible refine bdrew ?_ | with_reducible refine bset' ?_ (by omega) _ | with_reducible refine bthen ?_ (by assumption)))))).mono ?_; rintro e w2 ⟨rfl, hb2⟩; have z2 : w1.heap.size ≤ w2.heap.size := (show Below w1.heap.size w1 w2 by repeat (first | with_reducible exact Below.refl _ _ | with_reducible refine balloc ?_ _ | with_reducible refine bdrew ?_ | with_reducible refine bset' ?_ (by omega) _ | with_reducible refine bthen ?_ (by assumption))).size; (try (obtain ⟨k0, k1, k2, k3, k4, k5, k6, k7⟩ : w2.cell? ⟨w1.heap.size, 0, none⟩ = some (.bool false) ∧ w2.cell? ⟨w1.heap.size, 1, none⟩ = some (.int .i64 0) ∧ w2.cell? ⟨w1.heap.size, 2, none⟩ = some (.int .i64 0) ∧ w2.cell? ⟨w1.heap.size, 3, none⟩ = some (.int .i64 0) ∧ w2.frozen? ⟨w1.heap.size, 0, none⟩ = false ∧ w2.frozen? ⟨w1.heap.size, 1, none⟩ = false ∧ w2.frozen? ⟨w1.heap.size, 2, none⟩ = false ∧ w2.frozen? ⟨w1.heap.size, 3, none⟩ = false; (focus ((refine ⟨(hb2.cell (p := ⟨w1.heap.size, 0, none⟩) ?_).trans ?_, (hb2.cell (p := ⟨w1.heap.size, 1, none⟩) ?_).trans ?_, (hb2.cell (p := ⟨w1.heap.size, 2, none⟩) ?_).trans ?_, (hb2.cell (p := ⟨w1.heap.size, 3, none⟩) ?_).trans ?_, (hb2.frozen (p := ⟨w1.heap.size, 0, none⟩) ?_).trans ?_, (hb2.frozen (p := ⟨w1.heap.size, 1, none⟩) ?_).trans ?_, (hb2.frozen (p := ⟨w1.heap.size, 2, none⟩) ?_).trans ?_, (hb2.frozen (p := ⟨w1.heap.size, 3, none⟩) ?_).trans ?_⟩); (all_goals simp); (all_goals omega)))))))
  refine exit_world (fun wz => SStep s p A p A w wz ∧ TurnAt wz w2.heap.size ⟨tw, tg, ts, tp⟩ ∧ w.heap.size ≤ w2.heap.size) ⟨SStep.same' HST.out (bthen HB1.out (by repeat (first | with_reducible exact Below.refl _ _ | with_reducible refine balloc ?_ _ | with_reducible refine bdrew ?_ | with_reducible refine bset' ?_ (by omega) _ | with_reducible refine bthen ?_ (by assumption)))), ⟨by simp, by simp, by simp, by simp⟩, Nat.le_trans HB1.out.size z2⟩ ?_
  rintro w3 ⟨hsz, htz, hge⟩
  generalize w2.heap.size = g at *
  rotate_left
  refine exit_world (fun wz => SStep s p A p A w wz ∧ TurnAt wz w1.heap.size ⟨tw, tg, ts, tp⟩ ∧ w.heap.size ≤ w1.heap.size) ⟨SStep.same' HST.out (bthen HB1.out (by repeat (first | with_reducible exact Below.refl _ _ | with_reducible refine balloc ?_ _ | with_reducible refine bdrew ?_ | with_reducible refine bset' ?_ (by omega) _ | with_reducible refine bthen ?_ (by assumption)))), set4c _ _ _ _ k0 k1 k2 k3 rfl, HB1.out.size⟩ ?_
  rintro w3 ⟨hsz, htz, hge⟩
  clear k0 k1 k2 k3 k4 k5 k6 k7
  generalize hg : w1.heap.size = g at *
  clear hg
  all_goals
    clear hb2 z2 c1 c21 c22 c23 c24 c25 c26 hl
    have HSZ := hidT hsz
    have HTZ := hidT htz
    have HGE := hidT hge
    have g21 := hsz.at'.cell 21 _ rfl
    rw [HQA.out, HN.out] at g21
    have l3 := hsz.at'.lt
    clear hsz htz hge
    go_wp2_with fail
    refine (HTAKE.out _ (by have := HSZ.out.at'.mem.queue; rw [HQA.out] at this; exact this)).mono ?_
    rintro e w4 ⟨a', c', rfl, hN, hb4⟩
    have HN4 := hidT hN
    have HS4 := hidT (HSZ.out.later hb4)
    have HT4 := hidT (HTZ.out.later hb4)
    clear hN hb4 g21 l3
    go_wp2_with fail
    refine wp_worldD (fun wK => Below w4.heap.size w4 wK ∧ BoxAt wK w4.heap.size r) ⟨by repeat (first | with_reducible exact Below.refl _ _ | with_reducible refine balloc ?_ _ | with_reducible refine bdrew ?_ | with_reducible refine bset' ?_ (by omega) _ | with_reducible refine bthen ?_ (by assumption)), box_new w4 44 r⟩ ?_
    rintro w5 ⟨hb5, hbx5⟩
    have HX5 := hidT hbx5
    have HS5 := hidT (HS4.out.later hb5)
    have HT5 := hidT (HT4.out.later hb5)
    have HR5 := hidT (HN4.out.here.later hb5)
    have HAT5 : Hid (∀ x ∈ p.queue ++ p.dev.busy, x.At w5) := HS5.out.at'.mem.rAt
    have HS : Hid ((fun wz : World => wz.cell? ⟨s, 1, none⟩ = some (.pointer (some ⟨A.v, 0, none⟩)) ∧ BoxAt wz w4.heap.size r) w5.drew) := ⟨HS5.out.at'.cell 1 _ rfl, hbx5⟩
    have eg : ∀ args w, Sem.run Tryz.prog (callFunc 58 args) w = .ok (.enter 58 args) w := by intro args w; go_simp
    have HOFF : Hid (∀ x ∈ p.queue ++ p.dev.busy, x.Off (A.off s)) := HST.out.mem.roffX
    have HRO : Hid (r.Off (A.an.foot A.b)) := by
      have := HOFF.out r (List.mem_append_left _ HLL.out.2.2)
      exact ⟨fun he ad ha e => this.1 he ad ha (Or.inl (Or.inr (Or.inl (Or.inr e)))), fun he ad ha e => this.2 he ad ha (Or.inl (Or.inr (Or.inl (Or.inr e))))⟩
    clear hb5 hbx5
    refine region_till (S := fun wz : World => wz.cell? ⟨s, 1, none⟩ = some (.pointer (some ⟨A.v, 0, none⟩)) ∧ BoxAt wz w4.heap.size r) (d := 6) (by kernel_rfl) ?_
    refine till_take (i := 0) (v := ?_) rfl (by kernel_rfl) (by kernel_rfl) (by kernel_rfl) (by kernel_rfl) (fun _ _ _ h => h) (Or.inl ⟨by rfl, ?_⟩) HS.out ?_; rotate_left; (focus (intro w0 hSw; obtain ⟨s6, s0, s1, s2, s3, s4, s5⟩ := hSw; go_simp; (try with_reducible rfl))); (try simp only [Act.put, List.getElem_toArray, List.getElem_cons_succ, List.getElem_cons_zero, List.setIfInBounds_toArray, List.set_cons_zero, List.set_cons_succ])
    refine till_take (i := 1) (v := ?_) rfl (by kernel_rfl) (by kernel_rfl) (by kernel_rfl) (by kernel_rfl) (fun _ _ _ h => h) (Or.inl ⟨by rfl, ?_⟩) HS.out ?_; rotate_left; (focus (intro w0 hSw; obtain ⟨s6, s0, s1, s2, s3, s4, s5⟩ := hSw; go_simp; (try with_reducible rfl))); (try simp only [Act.put, List.getElem_toArray, List.getElem_cons_succ, List.getElem_cons_zero, List.setIfInBounds_toArray, List.set_cons_zero, List.set_cons_succ])
    refine till_take (i := 2) (v := ?_) rfl (by kernel_rfl) (by kernel_rfl) (by kernel_rfl) (by kernel_rfl) (fun _ _ _ h => h) (Or.inl ⟨by rfl, ?_⟩) HS.out ?_; rotate_left; (focus (intro w0 hSw; obtain ⟨s6, s0, s1, s2, s3, s4, s5⟩ := hSw; go_simp; (try with_reducible rfl))); (try simp only [Act.put, List.getElem_toArray, List.getElem_cons_succ, List.getElem_cons_zero, List.setIfInBounds_toArray, List.set_cons_zero, List.set_cons_succ])
    refine till_take (i := 3) (v := ?_) rfl (by kernel_rfl) (by kernel_rfl) (by kernel_rfl) (by kernel_rfl) (fun _ _ _ h => h) (Or.inl ⟨by rfl, ?_⟩) HS.out ?_; rotate_left; (focus (intro w0 hSw; obtain ⟨s6, s0, s1, s2, s3, s4, s5⟩ := hSw; go_simp; (try with_reducible rfl))); (try simp only [Act.put, List.getElem_toArray, List.getElem_cons_succ, List.getElem_cons_zero, List.setIfInBounds_toArray, List.set_cons_zero, List.set_cons_succ])
    refine till_take (i := 4) (v := ?_) rfl (by kernel_rfl) (by kernel_rfl) (by kernel_rfl) (by kernel_rfl) (fun _ _ _ h => h) (Or.inl ⟨by rfl, ?_⟩) HS.out ?_; rotate_left; (focus (intro w0 hSw; obtain ⟨s6, s0, s1, s2, s3, s4, s5⟩ := hSw; go_simp; (try with_reducible rfl))); (try simp only [Act.put, List.getElem_toArray, List.getElem_cons_succ, List.getElem_cons_zero, List.setIfInBounds_toArray, List.set_cons_zero, List.set_cons_succ])
    refine till_one (i := 5) rfl (by kernel_rfl) ?_
    intro K hK
    refine step_call2E rfl 58 50 51 70 44 rfl eg (.pointer (some ⟨A.v, 0, none⟩)) r.val rfl rfl (fun rr w' => rr = .nilIface ∧ ∃ an', VStep A.v A.b A.bm p.dev A.an A.n A.D { p.dev with busy := p.dev.busy ++ [r] } an' A.n A.D w5 w') ((vstart_ok A.v A.b A.bm p.dev A.an A.n A.D r w5.drew (HS5.out.at'.mem.drv.later (Below.refl _ _).drew) HB.out ((HAT5.out r (List.mem_append_left _ HLL.out.2.2)).later (Below.refl _ _).drew) HRO.out).mono (fun e w' ⟨an', he, hv⟩ => ⟨_, he, rfl, an', (HS5.out.at'.mem.drv.step (DStep.same HS5.out.at'.mem.drv.dev (Below.refl _ _).drew)).trans hv⟩)) ?_
    rintro rr w6 ⟨rfl, an', hv6⟩
    have HV6 := hidT hv6
    clear hv6
    have HFT : Hid (∀ k, ({ A with an := an', n := A.n, D := A.D } : Sa).off s k → A.off s k ∨ w5.heap.size ≤ k) := off_to HV6.out
    have HS6 := hidT (HS5.out.trans (StkAt.step p.ag HS5.out.at'.mem.nb HS5.out.at' HV6.out HS5.out.at'.mem.map HS5.out.at'.mem.im (fun x hx => by
      have hx' : x ∈ p.queue ++ p.dev.busy := by
        rcases List.mem_append.1 hx with h' | h'
        · exact List.mem_append_right _ h'
        · rw [List.mem_singleton.1 h']; exact List.mem_append_left _ HLL.out.2.2
      exact Rq.Off.step (HAT5.out x hx') (HOFF.out x hx') HFT.out)))
    have HX6 := hidT (HX5.out.only HV6.out.only (fun e => by have := HS4.out.at'.footLt _ (Or.inr (Or.inl e)); omega))
    have HT6 := hidT (HT5.out.only HV6.out.only (fun e => by have := HST.out.footLt _ (Or.inr (Or.inl e)); have := HGE.out; omega))
    have HNEW : Hid (∀ q', a' = some q' → w.heap.size ≤ q'.block ∧ q'.block < w5.heap.size) := by
      intro q' hq'
      have h1 := HN4.out.own.lt q'.block (by rw [hq']; rfl)
      have h2 := HSZ.out.only.size
      have h3 : w4.heap.size ≤ w5.heap.size := by have := lt_of_cell HX5.out.1; omega
      omega
    have HR6' := hidT (reqsS_frame HR5.out HV6.out.only (fun _ q' hq' e => by have h1 := HNEW.out q' hq'; have := HST.out.footLt _ (Or.inr (Or.inl e)); omega) (fun x hx => by
      have := HOFF.out x (List.mem_append_left _ (HLL.out.2.1 x hx))
      exact ⟨fun he ad ha e => this.1 he ad ha (Or.inl (Or.inr (Or.inl e))), fun he ad ha e => this.2 he ad ha (Or.inl (Or.inr (Or.inl e)))⟩))
    have HFIN := hidT (HS6.out.at'.setQT L a' c' ⟨tw, tg, ts, tp⟩ HR6'.out HN4.out.cap HN4.out.nil (fun _ q' hq' e => by
      have h1 := HNEW.out q' hq'
      rcases HFT.out _ e with e' | e'
      · have := HST.out.offLt _ e'; omega
      · omega) (fun x hx => Rq.Off.step (HAT5.out x (List.mem_append_left _ (HLL.out.2.1 x hx))) (HOFF.out x (List.mem_append_left _ (HLL.out.2.1 x hx))) HFT.out))
    refine hK _ _ (fun _ => ⟨HS6.out.at'.cell 1 _ rfl, HX6.out⟩) ?_
    (try simp only [Act.put, List.getElem_toArray, List.getElem_cons_succ, List.getElem_cons_zero, List.setIfInBounds_toArray, List.set_cons_zero, List.set_cons_succ])
    clear hK
    refine till_one (i := 6) rfl (by kernel_rfl) ?_; intro K hK; go_simp; refine hK _ _ (fun h => absurd rfl h) ?_; (try simp only [Act.put, List.getElem_toArray, List.getElem_cons_succ, List.getElem_cons_zero, List.setIfInBounds_toArray, List.set_cons_zero, List.set_cons_succ]); clear hK; refine till_done (by kernel_rfl) ?_ _
    have y21 := HS6.out.at'.cell 21 _ rfl
    have y22 := HS6.out.at'.cell 22 _ rfl
    have y23 := HS6.out.at'.cell 23 _ rfl
    have y24 := HS6.out.at'.cell 24 _ rfl
    have y25 := HS6.out.at'.cell 25 _ rfl
    have x21 := HS6.out.at'.fz 21
    have x22 := HS6.out.at'.fz 22
    have x23 := HS6.out.at'.fz 23
    have x24 := HS6.out.at'.fz 24
    have x25 := HS6.out.at'.fz 25
    have l6 := HS6.out.at'.lt
    obtain ⟨t0, t1, t2, t3⟩ := HT6.out
    have lg := lt_of_cell t0
    have nsg : g ≠ s := by have := HST.out.lt; have := HGE.out; omega
    have nsg' : s ≠ g := Ne.symm nsg
    have HSQ : Hid (∀ w', SStep s { p with dev := { p.dev with busy := p.dev.busy ++ [r] }, f := p.f } { A with an := an', n := A.n, D := A.D } ({ p with dev := { p.dev with busy := p.dev.busy ++ [r] }, queue := L, turn := ⟨tw, tg, ts, tp⟩ } : Sk) { A with an := an', n := A.n, D := A.D, qa := a', qc := c' } w6 w' → SOk s p A w w' q) := fun w' h' => ⟨_, _, HS6.out.trans h', HQ.out⟩
    clear HS6 HX6 HT6 HR6' HV6 HS HAT5 HOFF HRO eg HFT HS5 HT5 HR5 HX5 HS4 HT4 HNEW HSZ HTZ HGE HTAKE HCALLN HQ
    go_wp2_with fail
    go_region
    all_goals
      go_wp2
      go_ret
      exact ⟨rfl, HSQ.out _ (HFIN.out.1.later (Below.refl _ _).drew)⟩
theorem sdispatch_any (s : Nat) (p : Sk) (A : Sa) (w : World) (h : StkAt s p A w) (hI : Inv p) (t : Bool) (q : Sk) (hq : p.nf.dispatch = (t, q)) :
    Calls Tryz.prog 35 #[.pointer (some ⟨s, 0, none⟩)] w fun e w' => e = .returned (.bool t) ∧ SOk s p A w w' q := by
  by_cases he : p.queue = []
  · have e : p.nf.dispatch = (false, p.nf) := by
      unfold Sk.dispatch
      exact if_pos (Or.inl (by show p.queue.map Rq.nf = []; rw [he]; rfl))
    rw [e] at hq
    cases hq
    exact sdispatch_none s p A w h he
  · by_cases hf : 2 ≤ p.dev.busy.length
    · have e : p.nf.dispatch = (false, p.nf) := by
        unfold Sk.dispatch
        exact if_pos (Or.inr (by rw [show p.nf.dev.busy.length = p.dev.busy.length from List.length_map _]; exact hf))
      rw [e] at hq
      cases hq
      exact sdispatch_full s p A w h he hf
    · have e1 : p.nf.dispatch.1 = true := by
        unfold Sk.dispatch
        rw [if_neg]
        rintro (e | e)
        · exact he (List.map_eq_nil_iff.1 e)
        · rw [show p.nf.dev.busy.length = p.dev.busy.length from List.length_map _] at e; omega
      rw [hq] at e1
      obtain rfl : t = true := e1
      exact sdispatch_yes s p A w h hI he (by omega) q (by rw [hq])
end Go.Proofs.YtgjkdhedkbkagaaGreat
/- A stack of all: all who wait to read such a sector are answered. -/
namespace Go.Proofs.YtgjkdhedkbkagaaGreat
open Go.RowKit Go.BigFrame Go.Maps
set_option maxRecDepth 100000
attribute [local go_sem] Later.cell Later.frozen

def Sk.readers1 (p : Sk) (F : Int → Bool) (s : ByteArray) (e : Int) (k : Nat) : Sk := if (p.client k).kind = 1 ∧ F (p.client k).pl = true then p.answer k s e else p
def Sk.readersTo (p : Sk) (F : Int → Bool) (s : ByteArray) (e : Int) : Nat → Sk
  | 0 => p
  | k + 1 => (p.readersTo F s e k).readers1 F s e k
theorem readersTo_cl (p : Sk) (F : Int → Bool) (s : ByteArray) (e : Int) : ∀ k, (p.readersTo F s e k).cl.length = p.cl.length
  | 0 => rfl
  | k + 1 => by
    have ih := readersTo_cl p F s e k
    unfold Sk.readersTo Sk.readers1
    split
    · unfold Sk.answer; rw [List.length_set]; exact ih
    · exact ih
theorem readersTo_inv {p : Sk} (h : Inv p) (F : Int → Bool) (s : ByteArray) (e : Int) : ∀ k, Inv (p.readersTo F s e k)
  | 0 => h
  | k + 1 => by
    have ih := readersTo_inv h F s e k
    unfold Sk.readersTo Sk.readers1
    split
    · exact ih.answer k s e
    · exact ih
theorem readersTo3 (p : Sk) (hl : p.cl.length = 3) (F : Int → Bool) (s : ByteArray) (e : Int) : p.readersTo F s e 3 = p.readers F s e := by
  obtain ⟨dev, f, cl, hand, queue, turn, moment, tags, uses, dead, ag⟩ := p
  simp only at hl
  match cl, hl with
  | [a, b, c], _ =>
    simp only [Sk.readersTo, Sk.readers1, Sk.readers, Sk.client, Sk.answer, List.map_cons, List.map_nil]
    by_cases h0 : a.kind = 1 ∧ F a.pl = true <;> by_cases h1 : b.kind = 1 ∧ F b.pl = true <;> by_cases h2 : c.kind = 1 ∧ F c.pl = true <;> simp [h0, h1, h2]
theorem readers_congr (p : Sk) (F G : Int → Bool) (s : ByteArray) (e : Int) (h : ∀ c ∈ p.cl, c.kind = 1 → F c.pl = G c.pl) : p.readers F s e = p.readers G s e := by
  unfold Sk.readers
  congr 1
  refine List.map_congr_left (fun c hc => ?_)
  by_cases hk : c.kind = 1
  · rw [h c hc hk]
  · rw [if_neg (fun h' => hk h'.1), if_neg (fun h' => hk h'.1)]
set_option linter.unusedSimpArgs false in
set_option maxRecDepth 100000 in
set_option maxHeartbeats 4000000 in
theorem readers_any (s : Nat) (p : Sk) (A : Sa) (w : World) (h : StkAt s p A w) (hI : Inv p) (f m : Int) (data : ByteArray) (e : Int) (q : Sk) (hq : p.nf.readers (hasB f m) data e = q) :
    Calls Tryz.prog 64 #[.pointer (some ⟨s, 0, none⟩), .agg #[.int .i64 f, .int .i64 m], .string data, errOf e] w fun x w' => x = .returned (.tuple #[]) ∧ SOk s p A w w' q := by
  have HST := hidT h
  have HI := hidT hI
  have hl3 := hI.cl3
  have HQ := hidT hq
  have HANS : Hid (∀ p' A' w', StkAt s p' A' w' → p'.cl.length = 3 → ∀ i, i < 3 → Calls Tryz.prog 87 #[.pointer (some ⟨s, 2 + i * 6, none⟩), .string data, errOf e] w' fun x w2 => x = .returned (.tuple #[]) ∧ SStep s p' A' (p'.answer i data e) (A'.drop i) w' w2) := fun p' A' w' h' hl' i hi => answer_any s p' A' w' h' hl' i hi data e
  clear h hq hI
  generalize errOf e = ev at *
  go_enter Tryz.func64, Tryz.ntmps64
  go_wp2
  have hw0 : Below w.heap.size w (w.alloc (.cells #[.int .i64 f, .int .i64 m] 40)) := by repeat (first | with_reducible exact Below.refl _ _ | with_reducible refine balloc ?_ _ | with_reducible refine bdrew ?_ | with_reducible refine bset' ?_ (by omega) _ | with_reducible refine bthen ?_ (by assumption))
  have hx0 : (w.alloc (.cells #[.int .i64 f, .int .i64 m] 40)).cell? ⟨w.heap.size, 0, none⟩ = some (.int .i64 f) := by simp
  have hx1 : (w.alloc (.cells #[.int .i64 f, .int .i64 m] 40)).cell? ⟨w.heap.size, 1, none⟩ = some (.int .i64 m) := by simp
  generalize hW : w.alloc (.cells #[.int .i64 f, .int .i64 m] 40) = w0 at *
  clear hW
  have HS0 := hidT (SStep.same' HST.out hw0)
  have HX := hidT (And.intro hx0 hx1)
  clear hw0 hx0 hx1
  go_loopw [10] (fun i wr => ∃ k : Nat, k ≤ 3 ∧ i = .int .i64 k ∧ SRel s p A w0 wr (p.nf.readersTo (hasB f m) data e k)) (fun i _ => 3 - (intOf i).toNat)
  case atStart => exact ⟨0, by omega, rfl, p, A, SStep.same' HS0.out.at' (Below.refl _ _), rfl⟩
  case round =>
    obtain ⟨k, hk, rfl, p', A', hs, hn⟩ := hrel
    have HS := hidT hs
    have HN := hidT hn
    by_cases hlt : k < 3
    · have hlt' : (k : Int) < 3 := by omega
      have HL' : Hid (p'.cl.length = 3) := by
        have h1 : p'.nf.cl.length = 3 := by rw [hn, readersTo_cl]; exact hl3
        exact h1
      have hkd4 : 0 ≤ (p'.client k).kind ∧ (p'.client k).kind ≤ 3 := by
        have h1 := readersTo_inv HI.out.nf (hasB f m) data e k
        rw [← hn] at h1
        exact (h1.of_nf.client k).kind
      obtain ⟨c0, c1, -⟩ := hs.at'.client k hlt
      have hl := hs.at'.lt
      have b0 := hs.box HST.out (Nat.le_refl _) HX.out.1
      have b1 := hs.box HST.out (Nat.le_refl _) HX.out.2
      have lb := lt_of_cell b0
      have HE : Hid (p'.nf.readers1 (hasB f m) data e k = if (p'.client k).kind = 1 ∧ hasB f m (p'.client k).pl = true then p'.nf.answer k data e else p'.nf) := hidT rfl
      clear hs hn
      obtain ⟨kd, hkd⟩ : ∃ kd, (p'.client k).kind = kd := ⟨_, rfl⟩
      obtain ⟨pl, hpl⟩ : ∃ pl, (p'.client k).pl = pl := ⟨_, rfl⟩
      rw [hkd] at c0 HE hkd4
      rw [hpl] at c1 HE
      clear hkd hpl
      by_cases h1 : kd = 1
      · subst h1
        cases hB : hasB f m pl
        · rw [hB, if_neg (fun h' => by cases h'.2)] at HE
          have HBB := hidT hB
          clear hB
          go_wp2_with fail
          go_region_held3 (fun w' => w'.cell? ⟨s, 2 + k * 6, none⟩ = some (.int .i64 1) ∧ w'.cell? ⟨s, 2 + k * 6 + 1, none⟩ = some (.int .i64 pl) ∧ w'.cell? ⟨w.heap.size, 0, none⟩ = some (.int .i64 f) ∧ w'.cell? ⟨w.heap.size, 1, none⟩ = some (.int .i64 m)) (exact ⟨cellB_later' (w := wr) (by repeat (first | with_reducible exact Below.refl _ _ | with_reducible refine balloc ?_ _ | with_reducible refine bdrew ?_ | with_reducible refine bset' ?_ (by omega) _ | with_reducible refine bthen ?_ (by assumption))) c0, cellB_later' (w := wr) (by repeat (first | with_reducible exact Below.refl _ _ | with_reducible refine balloc ?_ _ | with_reducible refine bdrew ?_ | with_reducible refine bset' ?_ (by omega) _ | with_reducible refine bthen ?_ (by assumption))) c1, cellB_later' (w := wr) (by repeat (first | with_reducible exact Below.refl _ _ | with_reducible refine balloc ?_ _ | with_reducible refine bdrew ?_ | with_reducible refine bset' ?_ (by omega) _ | with_reducible refine bthen ?_ (by assumption))) b0, cellB_later' (w := wr) (by repeat (first | with_reducible exact Below.refl _ _ | with_reducible refine balloc ?_ _ | with_reducible refine bdrew ?_ | with_reducible refine bset' ?_ (by omega) _ | with_reducible refine bthen ?_ (by assumption))) b1⟩) (first | (go_at_call 45; refine (has_eq f m pl _ false HBB.out).mono ?_; rintro x w1 ⟨rfl, hb1⟩))
          all_goals
            have HS1 : Hid (SStep s p A p' A' w0 w1) := HS.out.later (by repeat (first | with_reducible exact Below.refl _ _ | with_reducible refine balloc ?_ _ | with_reducible refine bdrew ?_ | with_reducible refine bset' ?_ (by omega) _ | with_reducible refine bthen ?_ (by assumption)))
            clear hb1
            go_wp2
            go_roundw
            case rel => exact ⟨k + 1, by omega, by go_num, p', A', HS1.out, by rw [Sk.readersTo, ← HN.out, HE.out]⟩
            case measure => simp [intOf]; omega
        · rw [hB, if_pos ⟨rfl, rfl⟩] at HE
          have HBB := hidT hB
          clear hB
          go_wp2_with fail
          go_region_held3 (fun w' => w'.cell? ⟨s, 2 + k * 6, none⟩ = some (.int .i64 1) ∧ w'.cell? ⟨s, 2 + k * 6 + 1, none⟩ = some (.int .i64 pl) ∧ w'.cell? ⟨w.heap.size, 0, none⟩ = some (.int .i64 f) ∧ w'.cell? ⟨w.heap.size, 1, none⟩ = some (.int .i64 m)) (exact ⟨cellB_later' (w := wr) (by repeat (first | with_reducible exact Below.refl _ _ | with_reducible refine balloc ?_ _ | with_reducible refine bdrew ?_ | with_reducible refine bset' ?_ (by omega) _ | with_reducible refine bthen ?_ (by assumption))) c0, cellB_later' (w := wr) (by repeat (first | with_reducible exact Below.refl _ _ | with_reducible refine balloc ?_ _ | with_reducible refine bdrew ?_ | with_reducible refine bset' ?_ (by omega) _ | with_reducible refine bthen ?_ (by assumption))) c1, cellB_later' (w := wr) (by repeat (first | with_reducible exact Below.refl _ _ | with_reducible refine balloc ?_ _ | with_reducible refine bdrew ?_ | with_reducible refine bset' ?_ (by omega) _ | with_reducible refine bthen ?_ (by assumption))) b0, cellB_later' (w := wr) (by repeat (first | with_reducible exact Below.refl _ _ | with_reducible refine balloc ?_ _ | with_reducible refine bdrew ?_ | with_reducible refine bset' ?_ (by omega) _ | with_reducible refine bthen ?_ (by assumption))) b1⟩) (first | (go_at_call 45; refine (has_eq f m pl _ true HBB.out).mono ?_; rintro x w1 ⟨rfl, hb1⟩))
          all_goals
            have HS1 : Hid (SStep s p A p' A' w0 w1) := HS.out.later (by repeat (first | with_reducible exact Below.refl _ _ | with_reducible refine balloc ?_ _ | with_reducible refine bdrew ?_ | with_reducible refine bset' ?_ (by omega) _ | with_reducible refine bthen ?_ (by assumption)))
            clear hb1
            go_wp2_with fail
            refine (HANS.out p' A' _ HS1.out.at' HL'.out k hlt).mono ?_
            rintro x w2 ⟨rfl, hs2⟩
            have HS2 := hidT (HS1.out.trans hs2)
            clear hs2
            go_wp2
            go_roundw
            case rel => exact ⟨k + 1, by omega, by go_num, _, _, HS2.out, by rw [Sk.readersTo, ← HN.out, HE.out]; rfl⟩
            case measure => simp [intOf]; omega
      · rw [if_neg (fun h' => h1 h'.1)] at HE
        have h4 : kd = 0 ∨ kd = 2 ∨ kd = 3 := by omega
        clear h1 hkd4
        rcases h4 with rfl | rfl | rfl
        · go_wp2_with fail
          go_region
          all_goals
            go_wp2
            go_roundw
            case rel => exact ⟨k + 1, by omega, by go_num, p', A', HS.out.later (by repeat (first | with_reducible exact Below.refl _ _ | with_reducible refine balloc ?_ _ | with_reducible refine bdrew ?_ | with_reducible refine bset' ?_ (by omega) _ | with_reducible refine bthen ?_ (by assumption))), by rw [Sk.readersTo, ← HN.out, HE.out]⟩
            case measure => simp [intOf]; omega
        · go_wp2_with fail
          go_region
          all_goals
            go_wp2
            go_roundw
            case rel => exact ⟨k + 1, by omega, by go_num, p', A', HS.out.later (by repeat (first | with_reducible exact Below.refl _ _ | with_reducible refine balloc ?_ _ | with_reducible refine bdrew ?_ | with_reducible refine bset' ?_ (by omega) _ | with_reducible refine bthen ?_ (by assumption))), by rw [Sk.readersTo, ← HN.out, HE.out]⟩
            case measure => simp [intOf]; omega
        · go_wp2_with fail
          go_region
          all_goals
            go_wp2
            go_roundw
            case rel => exact ⟨k + 1, by omega, by go_num, p', A', HS.out.later (by repeat (first | with_reducible exact Below.refl _ _ | with_reducible refine balloc ?_ _ | with_reducible refine bdrew ?_ | with_reducible refine bset' ?_ (by omega) _ | with_reducible refine bthen ?_ (by assumption))), by rw [Sk.readersTo, ← HN.out, HE.out]⟩
            case measure => simp [intOf]; omega
    · obtain rfl : k = 3 := by omega
      clear hs hn
      go_wp2
      go_end0
      refine ⟨rfl, p', A', HS0.out.trans HS.out, HN.out.trans ?_⟩
      rw [readersTo3 p.nf hl3]; exact HQ.out
end Go.Proofs.YtgjkdhedkbkagaaGreat
