/- DeviceSays: the walk. -/
import Derived.Test.YthmeaclekedilacDevSays1
namespace Go.Proofs.Ythmeaclekedilac
open Go.RowKit Go.BigFrame
attribute [local go_sem] Later.cell Later.frozen

theorem sames_same {l m : List Rq} (h : l = m) : Sames l m := by
  subst h
  exact ⟨rfl, fun i _ _ => by simp [sameB, eqS, eqN]⟩
/-- What a region reads of the document's device. -/
def LBz (w : World) (b : Nat) (v : Value) : Prop := w.cell? ⟨b, 65, none⟩ = some v ∧ b < w.heap.size
theorem LBz.keep {w w' : World} {b : Nat} {v : Value} (h : LBz w b v) (hb : Below w.heap.size w w') : w'.cell? ⟨b, 65, none⟩ = some v ∧ b < w'.heap.size := ⟨cellA_later hb h.1, Nat.lt_of_lt_of_le h.2 hb.size⟩
theorem Duo.start {w wr wr1 wr2 : World} {b1 b2 : Nat} {d : Dl} {a a' : An} {m : Rd} {ra ra' : Ra} {r : Rq} (h : Duo w b1 d a b2 m ra wr) (hr : r.At w) (gr : Good r) (hs : DStep b1 d a { d with busy := d.busy ++ [r] } a' wr wr1) (ht : RStep b2 m ra { m with busy := m.busy ++ [r] } ra' wr1 wr2) : Duo w b1 { d with busy := d.busy ++ [r] } a' b2 { m with busy := m.busy ++ [r] } ra' wr2 := by
  have k1 : ∀ x ∈ d.busy ++ [r], x.At w := fun x hx => by
    rcases List.mem_append.1 hx with hx | hx
    · exact (h.at' x hx).1
    · rw [List.mem_singleton.1 hx]; exact hr
  have k2 : ∀ x ∈ d.busy ++ [r], Good x := fun x hx => by
    rcases List.mem_append.1 hx with hx | hx
    · exact (h.at' x hx).2
    · rw [List.mem_singleton.1 hx]; exact gr
  exact ((h.half.stepC hs k1).stepR ht (by show ∀ x ∈ m.busy ++ [r], _; rw [← h.same]; exact k1)).duo (by show d.busy ++ [r] = m.busy ++ [r]; rw [h.same]) k2 (h.tied.busy _ _)
theorem Duo.fault {w wr wr1 wr2 : World} {b1 b2 : Nat} {d : Dl} {a a' : An} {m : Rd} {ra ra' : Ra} {k : Nat} (h : Duo w b1 d a b2 m ra wr) (hs : DStep b1 d a { d with busy := d.busy.eraseIdx k } a' wr wr1) (ht : RStep b2 m ra { m with busy := m.busy.eraseIdx k } ra' wr1 wr2) : Duo w b1 { d with busy := d.busy.eraseIdx k } a' b2 { m with busy := m.busy.eraseIdx k } ra' wr2 := by
  have k1 : ∀ x ∈ d.busy.eraseIdx k, x.At w ∧ Good x := fun x hx => h.at' x (List.mem_of_mem_eraseIdx hx)
  exact ((h.half.stepC hs (fun x hx => (k1 x hx).1)).stepR ht (by show ∀ x ∈ m.busy.eraseIdx k, _; rw [← h.same]; exact fun x hx => (k1 x hx).1)).duo (by show d.busy.eraseIdx k = m.busy.eraseIdx k; rw [h.same]) (fun x hx => (k1 x hx).2) (h.tied.busy _ _)
theorem Rd.did_busy (m : Rd) (r : Rq) : (m.did r).busy = m.busy := by unfold Rd.did; split; exact Rd.writesTo_busy _ _ _; rfl
theorem Duo.ended {w wr wr1 wr2 : World} {b1 b2 : Nat} {d : Dl} {a a' : An} {m : Rd} {ra ra' : Ra} {k : Nat} {r : Rq} (h : Duo w b1 d a b2 m ra wr) (hs : DStep b1 d a (({ d with busy := d.busy.eraseIdx k } : Dl).did r) a' wr wr1) (ht : RStep b2 m ra (({ m with busy := m.busy.eraseIdx k } : Rd).did r) ra' wr1 wr2) : Duo w b1 (({ d with busy := d.busy.eraseIdx k } : Dl).did r) a' b2 (({ m with busy := m.busy.eraseIdx k } : Rd).did r) ra' wr2 := by
  have k1 : ∀ x ∈ d.busy.eraseIdx k, x.At w ∧ Good x := fun x hx => h.at' x (List.mem_of_mem_eraseIdx hx)
  exact ((h.half.stepC hs (by rw [Dl.did_busy]; exact fun x hx => (k1 x hx).1)).stepR ht (by rw [Rd.did_busy]; show ∀ x ∈ m.busy.eraseIdx k, _; rw [← h.same]; exact fun x hx => (k1 x hx).1)).duo (by rw [Dl.did_busy, Rd.did_busy]; show d.busy.eraseIdx k = m.busy.eraseIdx k; rw [h.same]) (by rw [Dl.did_busy]; exact fun x hx => (k1 x hx).2) ((h.tied.busy _ _).did r)
theorem Duo.flush {w wr wr1 wr2 : World} {b1 b2 : Nat} {d : Dl} {a a' : An} {m : Rd} {ra ra' : Ra} (h : Duo w b1 d a b2 m ra wr) (hs : DStep b1 d a d.flush a' wr wr1) (ht : RStep b2 m ra m.flush ra' wr1 wr2) : Duo w b1 d.flush a' b2 m.flush ra' wr2 :=
  ((h.half.stepC hs (fun x hx => (h.at' x hx).1)).stepR ht (fun x hx => (h.at' x (by rw [h.same]; exact hx)).1)).duo h.same (fun x hx => (h.at' x hx).2) h.tied.flush
theorem Duo.crash {w wr wr1 wr2 : World} {b1 b2 : Nat} {d : Dl} {a a' : An} {m : Rd} {ra ra' : Ra} (kp : Int) (h : Duo w b1 d a b2 m ra wr) (hs : DStep b1 d a (d.crash kp) a' wr wr1) (ht : RStep b2 m ra (m.crash kp) ra' wr1 wr2) : Duo w b1 (d.crash kp) a' b2 (m.crash kp) ra' wr2 :=
  ((h.half.stepC hs (fun x hx => by cases hx)).stepR ht (fun x hx => by cases hx)).duo rfl (fun x hx => by cases hx) (h.tied.crash kp)
theorem did_waits (m : Rd) (r : Rq) (g : Good r) : (m.did r).waits.length ≤ m.waits.length + 4 := by
  have hw : ∀ n, (m.writesTo r n).waits.length = m.waits.length + n := fun n => by
    induction n with
    | zero => rfl
    | succ n ih =>
      rw [Rd.writesTo_succ]
      show ((m.writesTo r n).waits ++ [_]).length = _
      rw [List.length_append, List.length_singleton, ih]; omega
  have := g.bndD
  unfold Rd.did
  split
  · rw [hw]; omega
  · omega
theorem rend_at (b : Nat) (d : Rd) (a : Ra) (l : List Rq) (k : Nat) (r : Rq) (hb : d.busy = l) (hk : l[k]? = some r) (w : World) (h : RdAt b d a w) (gr : Good r) (hW4 : d.waits.length ≤ 1000000) :
    Calls Try.prog 17 #[.pointer (some ⟨b, 0, none⟩), .int .i64 k, .bool false] w fun e w' => ∃ a' xa xc xs, e = .returned (.tuple #[resV r xa (List.length xs) xc 0, .int .i64 0]) ∧ Hid (xs = rdidRead d r) ∧ StrsAt w' xa xs ∧ (∀ ad, xa = some ad → w.heap.size ≤ ad.block ∧ ¬ a'.foot b ad.block) ∧ RStep b d a (({ d with busy := d.busy.eraseIdx k } : Rd).did r) a' w w' := by
  subst hb
  obtain ⟨hk', rfl⟩ := List.getElem?_eq_some_iff.1 hk
  exact rend_any b d a k hk' w h gr hW4
theorem rend_fault_at (b : Nat) (d : Rd) (a : Ra) (l : List Rq) (k : Nat) (r : Rq) (hb : d.busy = l) (hk : l[k]? = some r) (w : World) (h : RdAt b d a w) :
    Calls Try.prog 17 #[.pointer (some ⟨b, 0, none⟩), .int .i64 k, .bool true] w fun e w' => ∃ a', e = .returned (.tuple #[resV r none 0 0 8, .int .i64 0]) ∧ a'.wa = a.wa ∧ RStep b d a { d with busy := d.busy.eraseIdx k } a' w w' := by
  subst hb
  obtain ⟨hk', rfl⟩ := List.getElem?_eq_some_iff.1 hk
  exact rend_fault b d a k hk' w h
theorem end_fault_at (b : Nat) (d : Dl) (a : An) (l : List Rq) (k : Nat) (r : Rq) (hb : d.busy = l) (hk : l[k]? = some r) (w : World) (h : DevAt b d a w) :
    Calls Try.prog 16 #[.pointer (some ⟨b, 0, none⟩), .int .i64 k, .bool true] w fun e w' => ∃ a', e = .returned (.tuple #[resV r none 0 0 8, .nilIface]) ∧ DStep b d a { d with busy := d.busy.eraseIdx k } a' w w' := by
  subst hb
  obtain ⟨hk', rfl⟩ := List.getElem?_eq_some_iff.1 hk
  exact end_fault b d a k hk' w h
theorem didRead_tied {d : Dl} {m : Rd} (h : Tied d m) (r : Rq) : didRead d r = rdidRead m r := by
  unfold didRead rdidRead
  split
  · rfl
  · unfold readTo rreadTo; rw [h.now]
theorem didRead_le (d : Dl) (r : Rq) (g : Good r) : (didRead d r).length ≤ 4 := by
  have := g.bndD
  unfold didRead
  split
  · simp
  · rw [readTo_length]; omega
theorem Duo.ended2 {w wr wr1 wr2 wr3 : World} {b1 b2 : Nat} {d : Dl} {a a' : An} {m : Rd} {ra ra' : Ra} {k : Nat} {r : Rq} (h : Duo w b1 d a b2 m ra wr) (hs : DStep b1 d a (({ d with busy := d.busy.eraseIdx k } : Dl).did r) a' wr wr1) (hb : Below wr1.heap.size wr1 wr2) (ht : RStep b2 m ra (({ m with busy := m.busy.eraseIdx k } : Rd).did r) ra' wr2 wr3) : Duo w b1 (({ d with busy := d.busy.eraseIdx k } : Dl).did r) a' b2 (({ m with busy := m.busy.eraseIdx k } : Rd).did r) ra' wr3 := h.ended (hs.later hb) ht
theorem Duo.halfE {w wr wr1 : World} {b1 b2 : Nat} {d : Dl} {a a' : An} {m : Rd} {ra : Ra} {k : Nat} {r : Rq} (h : Duo w b1 d a b2 m ra wr) (hs : DStep b1 d a (({ d with busy := d.busy.eraseIdx k } : Dl).did r) a' wr wr1) : Half w b1 (({ d with busy := d.busy.eraseIdx k } : Dl).did r) a' b2 m ra wr1 :=
  h.half.stepC hs (by rw [Dl.did_busy]; exact fun x hx => (h.at' x (List.mem_of_mem_eraseIdx hx)).1)
theorem Duo.halfF {w wr wr1 : World} {b1 b2 : Nat} {d : Dl} {a a' : An} {m : Rd} {ra : Ra} {k : Nat} (h : Duo w b1 d a b2 m ra wr) (hs : DStep b1 d a { d with busy := d.busy.eraseIdx k } a' wr wr1) : Half w b1 { d with busy := d.busy.eraseIdx k } a' b2 m ra wr1 :=
  h.half.stepC hs (fun x hx => (h.at' x (List.mem_of_mem_eraseIdx hx)).1)
theorem strD_ne {s : ByteArray} (l : List UInt8) (h : ¬ s = ⟨l.toArray⟩) : (s.toList == l) = false := by
  rw [beq_eq_false_iff_ne]
  intro e
  apply h
  rw [ByteArray.toList_eq] at e
  cases s
  simp only at e
  rw [← e]
/-- What is left of an act, to be read. -/
def ActK (w : World) (q : Nat) (kd : ByteArray) (n k : Int) : Prop := w.cell? ⟨q, 0, none⟩ = some (.string kd) ∧ w.cell? ⟨q, 7, none⟩ = some (.int .i64 n) ∧ w.cell? ⟨q, 8, none⟩ = some (.int .u64 k)
theorem ActK.only {F : Nat → Prop} {w w' : World} {q : Nat} {kd : ByteArray} {n k : Int} (h : ActK w q kd n k) (hO : Only F w w') (hn : ¬ F q) : ActK w' q kd n k := by
  obtain ⟨h0, h1, h2⟩ := h
  have hl := lt_of_cell h0
  exact ⟨(hO.cell (p := ⟨q, 0, none⟩) hl hn).trans h0, (hO.cell (p := ⟨q, 7, none⟩) hl hn).trans h1, (hO.cell (p := ⟨q, 8, none⟩) hl hn).trans h2⟩
theorem ActK.later {w w' : World} {q : Nat} {kd : ByteArray} {n k : Int} (h : ActK w q kd n k) (hb : Below w.heap.size w w') : ActK w' q kd n k := h.only (F := fun _ => False) (Only.of_below hb) (fun e => e)
theorem actK_new (w : World) (T : TypeId) (kd : ByteArray) (a b c d e f : Value) (n k : Int) : ActK (w.alloc (.cells #[.string kd, a, b, c, d, e, f, .int .i64 n, .int .u64 k] T)) w.heap.size kd n k := by
  refine ⟨?_, ?_, ?_⟩ <;> simp
theorem ResBox.only {F : Nat → Prop} {w w' : World} {q n xc : Nat} {r : Rq} {xa : Option Addr} {er : Int} (h : ResBox w q r xa n xc er) (hO : Only F w w') (hn : ¬ F q) : ResBox w' q r xa n xc er := by
  obtain ⟨h0, h1, h2, h3, h4, h5, h6, h7⟩ := h
  have hl := lt_of_cell h0
  exact ⟨(hO.cell (p := ⟨q, 0, none⟩) hl hn).trans h0, (hO.cell (p := ⟨q, 1, none⟩) hl hn).trans h1, (hO.cell (p := ⟨q, 2, none⟩) hl hn).trans h2, (hO.cell (p := ⟨q, 3, none⟩) hl hn).trans h3, (hO.cell (p := ⟨q, 4, none⟩) hl hn).trans h4, (hO.cell (p := ⟨q, 5, none⟩) hl hn).trans h5, (hO.cell (p := ⟨q, 6, none⟩) hl hn).trans h6, (hO.cell (p := ⟨q, 7, none⟩) hl hn).trans h7⟩
theorem rq0_at (w : World) : rq0.At w := ⟨Or.inl rfl, Or.inl rfl, by simp [rq0], by simp [rq0], by simp [rq0, In64], by simp [rq0, In64], by simp [rq0, In64], fun _ => rfl, fun _ => rfl⟩
set_option linter.unusedSimpArgs false in
set_option maxRecDepth 100000 in
set_option maxHeartbeats 8000000 in
theorem ds_walk (l : List Ac) (la : Option Addr) (lc : Nat) (w : World) (hl : ActsAt w la l) (hin : ∀ x ∈ l, In64 x.n ∧ 0 ≤ x.k ∧ x.k ≤ 18446744073709551615) :
    Calls Try.prog 3 #[.slice la l.length lc] w fun e w' => e = .returned (.bool true) ∧ Below w.heap.size w w' := by
  have HL := hidT hl
  have HIN := hidT hin
  clear hl hin
  go_enter Try.func3, Try.ntmps3
  go_wp2_with fail
  refine (devices_any _).mono ?_
  rintro e w1 ⟨rfl, hb1⟩
  have HB1 := hidT hb1
  clear hb1
  go_wp2_with fail
  cases hla : lightsA l 60
  · refine (lightsA_any l la lc 60 _ (HL.out.later HB1.out) (by omega) _ hla).mono ?_
    rintro e w5 ⟨rfl, hb5⟩
    go_wp2
    go_ret
    exact ⟨rfl, bthen HB1.out hb5⟩
  refine (lightsA_any l la lc 60 _ (HL.out.later HB1.out) (by omega) _ hla).mono ?_
  rintro e w2 ⟨rfl, hb2⟩
  have h60 : l.length ≤ 60 := by simp only [lightsA, Bool.and_eq_true, decide_eq_true_eq] at hla; exact hla.1
  have HB2 := hidT (bthen HB1.out hb2)
  clear hb2 HB1 hla
  go_wp2_with fail
  refine (new_any _).mono ?_
  rintro e w3 ⟨rfl, hd3, hb3, hz3⟩
  have HD3 := hidT (⟨hd3, hb3, hz3⟩ : _ ∧ _ ∧ _)
  clear hd3 hb3 hz3
  have hzv : ∀ w', Sem.run Try.prog (zeroValue 32) w' = .ok (.agg (m0.cells ra0).toArray) w' := fun _ => rfl
  go_wp2_with fail
  have hb4 := below1 w3 (.cells (m0.cells ra0).toArray 32)
  have hD4 : Duo w w2.heap.size d0 an0 w3.heap.size m0 ra0 (w3.alloc (.cells (m0.cells ra0).toArray 32)) := by
    have h9 := HD3.out.2.2
    have h8 := HB2.out.size
    refine ⟨HD3.out.1.later hb4, m0_at _ _ (heap_alloc_new _ _), fun k h1 h2 => ?_, fun k h1 => ?_, fun k h1 => ?_, fun h => absurd rfl h, rfl, (fun r hr => by cases hr), Tied.start, bthen (bthen HB2.out HD3.out.2.1) hb4⟩
    · have := an0_foot h1; have := ra0_foot h2; omega
    · have := an0_foot h1; omega
    · have := ra0_foot h1; omega
  refine wp_worldD (fun wK => Duo w w2.heap.size d0 an0 w3.heap.size m0 ra0 wK) hD4 ?_
  intro w4 h4
  have H4 := hidT h4
  clear hb4 hD4 h4 HD3 HB2 hzv
  generalize w2.heap.size = b1 at *
  generalize w3.heap.size = b2 at *
  go_loopw [6] (fun i wr => ∃ (k : Nat) (d : Dl) (a : An) (m : Rd) (ra : Ra), k ≤ l.length ∧ i = .int .i64 k ∧ m.waits.length ≤ 4 * k ∧ Duo w b1 d a b2 m ra wr) (fun i _ => l.length - (intOf i).toNat)
  case atStart => exact ⟨0, _, _, _, _, by omega, rfl, by simp [m0], H4.out⟩
  case round =>
    clear H4
    obtain ⟨k, d, a, m, ra, hk, rfl, hwl, hdu⟩ := hrel
    have HDU := hidT hdu
    have HBr := hdu.bel
    have HWL := hidT hwl
    clear hdu hwl
    by_cases hlt : k < l.length
    case neg =>
      have hgt : ¬ (k : Int) < (l.length : Int) := by omega
      go_wp2
      go_ret
      exact ⟨rfl, HBr⟩
    have hlt' : (k : Int) < (l.length : Int) := by omega
    rcases HL.out.form with rfl | ⟨bl, ol, rfl⟩
    · exact absurd hlt (Nat.not_lt_zero _)
    have hla := HL.out.later HBr
    obtain ⟨c0, c1, c2, c3, c4, c5, c6, c7, c8⟩ := hla.cells hlt
    have HAT := hidT (HL.out.2.1 _ (List.getElem_mem hlt))
    have HNK := hidT (HIN.out _ (List.getElem_mem hlt))
    clear hla
    have HR64 := hidT (HL.out.2.1 _ (List.getElem_mem hlt)).f
    generalize hx : l[k] = x at *
    clear hx
    by_cases h1 : x.kind = ⟨#[115, 116, 97, 114, 116]⟩
    · rw [h1] at c0
      clear h1
      have hq := act_new wr 41 { x with kind := ⟨#[115, 116, 97, 114, 116]⟩ }
      have HQ := hidT hq
      have hbq := hidT (below1 wr (.cells #[.string ⟨#[115, 116, 97, 114, 116]⟩, .bool x.req.wr, .int .i64 x.req.f, .int .i64 x.req.m, .slice x.req.da x.req.data.length x.req.dc, .slice x.req.ta x.req.tags.length x.req.tc, .int .i64 x.req.born, .int .i64 x.n, .int .u64 x.k] 41))
      clear hq
      go_wp2_with fail
      by_cases hf : faultR x.req = 0
      case neg =>
        have HFP := hidT (fault_pos x.req hf)
        clear hf
        refine (rfault_any x.req _ (HAT.out.later (bthen HBr hbq.out)) _ rfl).mono ?_
        rintro e w5 ⟨rfl, hb5⟩
        have HD5 := hidT (HDU.out.later (bthen hbq.out hb5))
        have hfp := HFP.out
        clear hb5 HQ hbq c0 c1 c2 c3 c4 c5 c6 c7 c8
        go_wp2
        go_roundw
        case rel => exact ⟨k + 1, d, a, m, ra, by omega, by go_num, by have := HWL.out; omega, HD5.out⟩
        case measure => simp [intOf]; omega
      refine (rfault_any x.req _ (HAT.out.later (bthen HBr hbq.out)) _ hf).mono ?_
      rintro e w5 ⟨rfl, hb5⟩
      have HGX := hidT ((good_iff _).1 hf)
      have HD5 := hidT (HDU.out.later (bthen hbq.out hb5))
      have HQ5 := hidT (HQ.out.later hb5)
      have HDW := hidT HDU.out
      clear hb5 HQ hbq c0 c1 c2 c3 c4 c5 c6 c7 c8 hf HDU
      have eg1 : ∀ args w, Sem.run Try.prog (callFunc 14 args) w = .ok (.enter 14 args) w := by intro args w; go_simp
      have eg2 : ∀ args w, Sem.run Try.prog (callFunc 15 args) w = .ok (.enter 15 args) w := by intro args w; go_simp
      have eg3 : ∀ args w, Sem.run Try.prog (callFunc 13 args) w = .ok (.enter 13 args) w := by intro args w; go_simp
      have HS : Hid (ActBox w5.drew wr.heap.size { x with kind := ⟨#[115, 116, 97, 114, 116]⟩ }) := HQ5.out
      go_wp2_with fail
      refine region_till (S := fun wz => ActBox wz wr.heap.size { x with kind := ⟨#[115, 116, 97, 114, 116]⟩ }) (d := 9) (by kernel_rfl) ?_
      refine till_take (i := 0) (v := ?_) rfl (by kernel_rfl) (by kernel_rfl) (by kernel_rfl) (by kernel_rfl) (fun _ _ _ h => h) (Or.inl ⟨by rfl, ?_⟩) HS.out ?_; rotate_left; (focus (intro w0 hSw; obtain ⟨s1, s2, s3, s4, s5, s6⟩ := hSw; go_simp; (try with_reducible rfl))); (try simp only [Act.put, List.getElem_toArray, List.getElem_cons_succ, List.getElem_cons_zero, List.setIfInBounds_toArray, List.set_cons_zero, List.set_cons_succ])
      refine till_take (i := 1) (v := ?_) rfl (by kernel_rfl) (by kernel_rfl) (by kernel_rfl) (by kernel_rfl) (fun _ _ _ h => h) (Or.inl ⟨by rfl, ?_⟩) HS.out ?_; rotate_left; (focus (intro w0 hSw; obtain ⟨s1, s2, s3, s4, s5, s6⟩ := hSw; go_simp; (try with_reducible rfl))); (try simp only [Act.put, List.getElem_toArray, List.getElem_cons_succ, List.getElem_cons_zero, List.setIfInBounds_toArray, List.set_cons_zero, List.set_cons_succ])
      refine till_take (i := 2) (v := ?_) rfl (by kernel_rfl) (by kernel_rfl) (by kernel_rfl) (by kernel_rfl) (fun _ _ _ h => h) (Or.inl ⟨by rfl, ?_⟩) HS.out ?_; rotate_left; (focus (intro w0 hSw; obtain ⟨s1, s2, s3, s4, s5, s6⟩ := hSw; go_simp; (try with_reducible rfl))); (try simp only [Act.put, List.getElem_toArray, List.getElem_cons_succ, List.getElem_cons_zero, List.setIfInBounds_toArray, List.set_cons_zero, List.set_cons_succ])
      refine till_take (i := 4) (v := ?_) rfl (by kernel_rfl) (by kernel_rfl) (by kernel_rfl) (by kernel_rfl) (fun _ _ _ h => h) (Or.inl ⟨by rfl, ?_⟩) HS.out ?_; rotate_left; (focus (intro w0 hSw; obtain ⟨s1, s2, s3, s4, s5, s6⟩ := hSw; go_simp; (try with_reducible rfl))); (try simp only [Act.put, List.getElem_toArray, List.getElem_cons_succ, List.getElem_cons_zero, List.setIfInBounds_toArray, List.set_cons_zero, List.set_cons_succ])
      refine till_take (i := 5) (v := ?_) rfl (by kernel_rfl) (by kernel_rfl) (by kernel_rfl) (by kernel_rfl) (fun _ _ _ h => h) (Or.inl ⟨by rfl, ?_⟩) HS.out ?_; rotate_left; (focus (intro w0 hSw; obtain ⟨s1, s2, s3, s4, s5, s6⟩ := hSw; go_simp; (try with_reducible rfl))); (try simp only [Act.put, List.getElem_toArray, List.getElem_cons_succ, List.getElem_cons_zero, List.setIfInBounds_toArray, List.set_cons_zero, List.set_cons_succ])
      refine till_take (i := 6) (v := ?_) rfl (by kernel_rfl) (by kernel_rfl) (by kernel_rfl) (by kernel_rfl) (fun _ _ _ h => h) (Or.inl ⟨by rfl, ?_⟩) HS.out ?_; rotate_left; (focus (intro w0 hSw; obtain ⟨s1, s2, s3, s4, s5, s6⟩ := hSw; go_simp; (try with_reducible rfl))); (try simp only [Act.put, List.getElem_toArray, List.getElem_cons_succ, List.getElem_cons_zero, List.setIfInBounds_toArray, List.set_cons_zero, List.set_cons_succ])
      have HOC := hidT (off_of HAT.out HD5.out.fc)
      have HOR := hidT (off_of HAT.out HD5.out.fr)
      have nq : ¬ a.foot b1 wr.heap.size := fun e => by have := HDW.out.c.footLt _ e; omega
      have nr : ¬ ra.foot b2 wr.heap.size := fun e => by have := HDW.out.r.footLt _ e; omega
      have HAT5 := hidT (HAT.out.later HD5.out.bel)
      by_cases hfl : d.busy.length = 2
      · have hfl2 : m.busy.length = 2 := by rw [← HD5.out.same]; exact hfl
        refine till_one (i := 3) rfl (by kernel_rfl) ?_
        intro K hK
        refine step_call2 rfl 14 52 54 25 38 rfl eg1 (.pointer (some ⟨b1, 0, none⟩)) x.req.val rfl rfl (.iface 47 (.int .i64 7)) (fun w' => Below w5.heap.size w5 w') ((start_full b1 d a x.req _ (HD5.out.c.later (by repeat (first | with_reducible exact Below.refl _ _ | with_reducible refine balloc ?_ _ | with_reducible refine bdrew ?_ | with_reducible refine bset' ?_ (by omega) _ | with_reducible refine bthen ?_ (by assumption)))) hfl).mono (fun e w' h => ⟨h.1, bthen (bdrew (Below.refl _ _)) h.2⟩)) ?_
        intro w6 hb6
        have HS6 := hidT (HQ5.out.later hb6)
        have HD6 := hidT (HD5.out.later hb6)
        refine hK _ _ (fun _ => HS6.out) ?_
        (try simp only [Act.put, List.getElem_toArray, List.getElem_cons_succ, List.getElem_cons_zero, List.setIfInBounds_toArray, List.set_cons_zero, List.set_cons_succ])
        clear hK
        refine till_one (i := 7) rfl (by kernel_rfl) ?_
        intro K hK
        refine step_call2 rfl 15 56 58 27 38 rfl eg2 (.pointer (some ⟨b2, 0, none⟩)) x.req.val rfl rfl (.int .i64 7) (fun w' => Below w6.heap.size w6 w') (rstart_full b2 m ra x.req _ HD6.out.r hfl2) ?_
        intro w7 hb7
        have HS7 := hidT (HS6.out.later hb7)
        have HD7 := hidT (HD6.out.later hb7)
        refine hK _ _ (fun _ => HS7.out) ?_
        (try simp only [Act.put, List.getElem_toArray, List.getElem_cons_succ, List.getElem_cons_zero, List.setIfInBounds_toArray, List.set_cons_zero, List.set_cons_succ])
        clear hK
        refine till_one (i := 8) rfl (by kernel_rfl) ?_
        intro K hK
        refine step_call2 rfl 13 55 59 45 3 rfl eg3 (.iface 47 (.int .i64 7)) (.int .i64 7) rfl rfl (.bool true) (fun w' => Below w7.heap.size w7 w') (same_err 7 7 _) ?_
        intro w8 hb8
        have HS8 := hidT (HS7.out.later hb8)
        have HDX := hidT (HD7.out.later hb8)
        refine hK _ _ (fun _ => HS8.out) ?_
        (try simp only [Act.put, List.getElem_toArray, List.getElem_cons_succ, List.getElem_cons_zero, List.setIfInBounds_toArray, List.set_cons_zero, List.set_cons_succ])
        clear hK
        refine till_one (i := 9) rfl (by kernel_rfl) ?_; intro K hK; go_simp; refine hK _ _ (fun h => absurd rfl h) ?_; (try simp only [Act.put, List.getElem_toArray, List.getElem_cons_succ, List.getElem_cons_zero, List.setIfInBounds_toArray, List.set_cons_zero, List.set_cons_succ]); clear hK; refine till_done (by kernel_rfl) ?_ _
        go_wp2_with fail
        refine wp_worldD (fun wK => ∃ d' a' m' ra', m'.waits.length ≤ 4 * (k + 1) ∧ Duo w b1 d' a' b2 m' ra' wK) ⟨d, a, m, ra, by have := HWL.out; omega, HDX.out⟩ ?_
        clear HS8 HS7 HS6 HD6 HD7 hb6 hb7 hb8 HS HDX HQ5 HD5 HWL HDW HAT5 eg1 eg2 eg3
        rintro wT ⟨d', a', m', ra', hwl', hdu'⟩; have HDU := hidT hdu'; have HWT := hidT hwl'; clear hdu' hwl'; have c65 := HDU.out.r.c65; have lb2 := HDU.out.r.lt; have HSB : Hid (LBz wT b2 (.slice ra'.la m'.busy.length ra'.lc)) := ⟨c65, lb2⟩; go_region_held3 (fun w' => w'.cell? ⟨b2, 65, none⟩ = some (.slice ra'.la m'.busy.length ra'.lc) ∧ b2 < w'.heap.size) (exact LBz.keep HSB.out (by repeat (first | with_reducible exact Below.refl _ _ | with_reducible refine balloc ?_ _ | with_reducible refine bdrew ?_ | with_reducible refine bset' ?_ (by omega) _ | with_reducible refine bthen ?_ (by assumption)))) (first | (go_at_call 24; refine (busy_any b1 d' a' _ (HDU.out.c.later (by repeat (first | with_reducible exact Below.refl _ _ | with_reducible refine balloc ?_ _ | with_reducible refine bdrew ?_ | with_reducible refine bset' ?_ (by omega) _ | with_reducible refine bthen ?_ (by assumption))))).mono ?_; rintro e wA ⟨xa, xc, rfl, hRA, -, hbA⟩) | (go_at_call 23; refine (sames_yes d'.busy m'.busy xa ra'.la xc ra'.lc _ (hRA.later (by repeat (first | with_reducible exact Below.refl _ _ | with_reducible refine balloc ?_ _ | with_reducible refine bdrew ?_ | with_reducible refine bset' ?_ (by omega) _ | with_reducible refine bthen ?_ (by assumption)))) (HDU.out.r.lrow.later (by repeat (first | with_reducible exact Below.refl _ _ | with_reducible refine balloc ?_ _ | with_reducible refine bdrew ?_ | with_reducible refine bset' ?_ (by omega) _ | with_reducible refine bthen ?_ (by assumption)))) (sames_same HDU.out.same)).mono ?_; rintro e wB ⟨rfl, hbB⟩)); have HDT := hidT (HDU.out.later (wr' := wB) (by repeat (first | with_reducible exact Below.refl _ _ | with_reducible refine balloc ?_ _ | with_reducible refine bdrew ?_ | with_reducible refine bset' ?_ (by omega) _ | with_reducible refine bthen ?_ (by assumption)))); clear hbA hbB HSB c65 lb2 hRA; go_wp2_with fail; go_loopw [13] (fun i wr => ∃ j : Nat, j ≤ 32 ∧ i = .int .i64 j ∧ Below wB.heap.size wB wr) (fun i _ => 32 - (intOf i).toNat); (case atStart => exact ⟨0, by omega, rfl, Below.refl _ _⟩); (case round => obtain ⟨j, hj, rfl, hBk⟩ := hrel; have HDk := hidT (HDT.out.later hBk); by_cases hj32 : j < 32; (focus (have hj' : (j : Int) < 32 := (by omega); have hj0 : (0 : Int) ≤ (j : Int) := (by omega); have cN := HDk.out.r.cNow j hj32; have lb2 := HDk.out.r.lt; obtain ⟨s, hs⟩ : ∃ s, m'.now.getD j ByteArray.empty = s := ⟨_, rfl⟩; rw [hs] at cN; have HSs : Hid (d'.now.getD j ByteArray.empty = s) := (by show _ = _; rw [HDk.out.tied.now]; exact hs); have hss : (!(s.toList == s.toList)) = false := (by simp); clear hs; go_wp2_with fail; refine wp_region_later (Below.refl _ _) (by kernel_rfl) (by kernel_rfl) ?_; (repeat (go_big_quiet_step (first | exact rfl | (go_at_call 25; exact calls_later (peek_in b1 _ _ j _ (HDk.out.c.later (Later.below _)) hj32 s HSs.out))))); refine wpQuiet_nil ?_; rintro _ ⟨p, rfl⟩; have HBp := hidT p.below; go_wp2; go_roundw; (case rel => exact ⟨j + 1, by omega, by go_num, bthen hBk HBp.out⟩); (case measure => simp [intOf]; omega))); (focus (have hgt : ¬ (j : Int) < 32 := (by omega); go_wp2; go_roundw; (case rel => exact ⟨k + 1, d', a', m', ra', by omega, by go_num, HWT.out, HDk.out⟩); (case measure => simp [intOf]; omega))))
      · have hfl' : d.busy.length < 2 := by have := HD5.out.c.blen; omega
        have hfl2 : m.busy.length < 2 := by rw [← HD5.out.same]; exact hfl'
        have hk1 : ∀ y ∈ d.busy ++ [x.req], y.At w := fun y hy => by
          rcases List.mem_append.1 hy with hy | hy
          · exact (HD5.out.at' y hy).1
          · rw [List.mem_singleton.1 hy]; exact HAT.out
        have HK1 := hidT hk1
        clear hk1
        refine till_one (i := 3) rfl (by kernel_rfl) ?_
        intro K hK
        refine step_call2 rfl 14 52 54 25 38 rfl eg1 (.pointer (some ⟨b1, 0, none⟩)) x.req.val rfl rfl .nilIface (fun w' => ∃ a', DStep b1 d a { d with busy := d.busy ++ [x.req] } a' w5 w') ((start_ok b1 d a x.req _ (HD5.out.c.later (by repeat (first | with_reducible exact Below.refl _ _ | with_reducible refine balloc ?_ _ | with_reducible refine bdrew ?_ | with_reducible refine bset' ?_ (by omega) _ | with_reducible refine bthen ?_ (by assumption)))) hfl' (HAT5.out.later (by repeat (first | with_reducible exact Below.refl _ _ | with_reducible refine balloc ?_ _ | with_reducible refine bdrew ?_ | with_reducible refine bset' ?_ (by omega) _ | with_reducible refine bthen ?_ (by assumption)))) HOC.out).mono (fun e w' ⟨a', he, hs⟩ => ⟨he, a', (DStep.same HD5.out.c (bdrew (Below.refl _ _))).trans hs⟩)) ?_
        rintro w6 ⟨a6, hs6⟩
        have HS6 := hidT (show ActBox w6 wr.heap.size { x with kind := ⟨#[115, 116, 97, 114, 116]⟩ } from ⟨(hs6.only.cell (p := ⟨wr.heap.size, 1, none⟩) (lt_of_cell HQ5.out.1) nq).trans HQ5.out.1, (hs6.only.cell (p := ⟨wr.heap.size, 2, none⟩) (lt_of_cell HQ5.out.1) nq).trans HQ5.out.2.1, (hs6.only.cell (p := ⟨wr.heap.size, 3, none⟩) (lt_of_cell HQ5.out.1) nq).trans HQ5.out.2.2.1, (hs6.only.cell (p := ⟨wr.heap.size, 4, none⟩) (lt_of_cell HQ5.out.1) nq).trans HQ5.out.2.2.2.1, (hs6.only.cell (p := ⟨wr.heap.size, 5, none⟩) (lt_of_cell HQ5.out.1) nq).trans HQ5.out.2.2.2.2.1, (hs6.only.cell (p := ⟨wr.heap.size, 6, none⟩) (lt_of_cell HQ5.out.1) nq).trans HQ5.out.2.2.2.2.2⟩)
        have HH6 := hidT (HD5.out.half.stepC hs6 HK1.out)
        have HT6 := hidT hs6
        clear hs6
        refine hK _ _ (fun _ => HS6.out) ?_
        (try simp only [Act.put, List.getElem_toArray, List.getElem_cons_succ, List.getElem_cons_zero, List.setIfInBounds_toArray, List.set_cons_zero, List.set_cons_succ])
        clear hK
        refine till_one (i := 7) rfl (by kernel_rfl) ?_
        intro K hK
        refine step_call2 rfl 15 56 58 27 38 rfl eg2 (.pointer (some ⟨b2, 0, none⟩)) x.req.val rfl rfl (.int .i64 0) (fun w' => ∃ ra', RStep b2 m ra { m with busy := m.busy ++ [x.req] } ra' w6 w') ((rstart_ok b2 m ra x.req _ HH6.out.r hfl2 (HAT.out.later HH6.out.bel) HOR.out).mono (fun e w' ⟨a', he, _, hs⟩ => ⟨he, a', hs⟩)) ?_
        rintro w7 ⟨ra7, hs7⟩
        have HS7 := hidT (show ActBox w7 wr.heap.size { x with kind := ⟨#[115, 116, 97, 114, 116]⟩ } from ⟨(hs7.only.cell (p := ⟨wr.heap.size, 1, none⟩) (lt_of_cell HS6.out.1) nr).trans HS6.out.1, (hs7.only.cell (p := ⟨wr.heap.size, 2, none⟩) (lt_of_cell HS6.out.1) nr).trans HS6.out.2.1, (hs7.only.cell (p := ⟨wr.heap.size, 3, none⟩) (lt_of_cell HS6.out.1) nr).trans HS6.out.2.2.1, (hs7.only.cell (p := ⟨wr.heap.size, 4, none⟩) (lt_of_cell HS6.out.1) nr).trans HS6.out.2.2.2.1, (hs7.only.cell (p := ⟨wr.heap.size, 5, none⟩) (lt_of_cell HS6.out.1) nr).trans HS6.out.2.2.2.2.1, (hs7.only.cell (p := ⟨wr.heap.size, 6, none⟩) (lt_of_cell HS6.out.1) nr).trans HS6.out.2.2.2.2.2⟩)
        have HD7 := hidT (HD5.out.start HAT.out HGX.out HT6.out hs7)
        clear hs7
        refine hK _ _ (fun _ => HS7.out) ?_
        (try simp only [Act.put, List.getElem_toArray, List.getElem_cons_succ, List.getElem_cons_zero, List.setIfInBounds_toArray, List.set_cons_zero, List.set_cons_succ])
        clear hK
        refine till_one (i := 8) rfl (by kernel_rfl) ?_
        intro K hK
        refine step_call2 rfl 13 55 59 45 3 rfl eg3 .nilIface (.int .i64 0) rfl rfl (.bool true) (fun w' => Below w7.heap.size w7 w') (same_nil 0 _) ?_
        intro w8 hb8
        have HS8 := hidT (HS7.out.later hb8)
        have HDX := hidT (HD7.out.later hb8)
        refine hK _ _ (fun _ => HS8.out) ?_
        (try simp only [Act.put, List.getElem_toArray, List.getElem_cons_succ, List.getElem_cons_zero, List.setIfInBounds_toArray, List.set_cons_zero, List.set_cons_succ])
        clear hK
        refine till_one (i := 9) rfl (by kernel_rfl) ?_; intro K hK; go_simp; refine hK _ _ (fun h => absurd rfl h) ?_; (try simp only [Act.put, List.getElem_toArray, List.getElem_cons_succ, List.getElem_cons_zero, List.setIfInBounds_toArray, List.set_cons_zero, List.set_cons_succ]); clear hK; refine till_done (by kernel_rfl) ?_ _
        go_wp2_with fail
        refine wp_worldD (fun wK => ∃ d' a' m' ra', m'.waits.length ≤ 4 * (k + 1) ∧ Duo w b1 d' a' b2 m' ra' wK) ⟨_, _, _, _, by show m.waits.length ≤ _; have := HWL.out; omega, HDX.out⟩ ?_
        clear HS8 HS7 HS6 HH6 HD7 HT6 hb8 HS HDX HQ5 HD5 HWL HDW HAT5 eg1 eg2 eg3
        rintro wT ⟨d', a', m', ra', hwl', hdu'⟩; have HDU := hidT hdu'; have HWT := hidT hwl'; clear hdu' hwl'; have c65 := HDU.out.r.c65; have lb2 := HDU.out.r.lt; have HSB : Hid (LBz wT b2 (.slice ra'.la m'.busy.length ra'.lc)) := ⟨c65, lb2⟩; go_region_held3 (fun w' => w'.cell? ⟨b2, 65, none⟩ = some (.slice ra'.la m'.busy.length ra'.lc) ∧ b2 < w'.heap.size) (exact LBz.keep HSB.out (by repeat (first | with_reducible exact Below.refl _ _ | with_reducible refine balloc ?_ _ | with_reducible refine bdrew ?_ | with_reducible refine bset' ?_ (by omega) _ | with_reducible refine bthen ?_ (by assumption)))) (first | (go_at_call 24; refine (busy_any b1 d' a' _ (HDU.out.c.later (by repeat (first | with_reducible exact Below.refl _ _ | with_reducible refine balloc ?_ _ | with_reducible refine bdrew ?_ | with_reducible refine bset' ?_ (by omega) _ | with_reducible refine bthen ?_ (by assumption))))).mono ?_; rintro e wA ⟨xa, xc, rfl, hRA, -, hbA⟩) | (go_at_call 23; refine (sames_yes d'.busy m'.busy xa ra'.la xc ra'.lc _ (hRA.later (by repeat (first | with_reducible exact Below.refl _ _ | with_reducible refine balloc ?_ _ | with_reducible refine bdrew ?_ | with_reducible refine bset' ?_ (by omega) _ | with_reducible refine bthen ?_ (by assumption)))) (HDU.out.r.lrow.later (by repeat (first | with_reducible exact Below.refl _ _ | with_reducible refine balloc ?_ _ | with_reducible refine bdrew ?_ | with_reducible refine bset' ?_ (by omega) _ | with_reducible refine bthen ?_ (by assumption)))) (sames_same HDU.out.same)).mono ?_; rintro e wB ⟨rfl, hbB⟩)); have HDT := hidT (HDU.out.later (wr' := wB) (by repeat (first | with_reducible exact Below.refl _ _ | with_reducible refine balloc ?_ _ | with_reducible refine bdrew ?_ | with_reducible refine bset' ?_ (by omega) _ | with_reducible refine bthen ?_ (by assumption)))); clear hbA hbB HSB c65 lb2 hRA; go_wp2_with fail; go_loopw [13] (fun i wr => ∃ j : Nat, j ≤ 32 ∧ i = .int .i64 j ∧ Below wB.heap.size wB wr) (fun i _ => 32 - (intOf i).toNat); (case atStart => exact ⟨0, by omega, rfl, Below.refl _ _⟩); (case round => obtain ⟨j, hj, rfl, hBk⟩ := hrel; have HDk := hidT (HDT.out.later hBk); by_cases hj32 : j < 32; (focus (have hj' : (j : Int) < 32 := (by omega); have hj0 : (0 : Int) ≤ (j : Int) := (by omega); have cN := HDk.out.r.cNow j hj32; have lb2 := HDk.out.r.lt; obtain ⟨s, hs⟩ : ∃ s, m'.now.getD j ByteArray.empty = s := ⟨_, rfl⟩; rw [hs] at cN; have HSs : Hid (d'.now.getD j ByteArray.empty = s) := (by show _ = _; rw [HDk.out.tied.now]; exact hs); have hss : (!(s.toList == s.toList)) = false := (by simp); clear hs; go_wp2_with fail; refine wp_region_later (Below.refl _ _) (by kernel_rfl) (by kernel_rfl) ?_; (repeat (go_big_quiet_step (first | exact rfl | (go_at_call 25; exact calls_later (peek_in b1 _ _ j _ (HDk.out.c.later (Later.below _)) hj32 s HSs.out))))); refine wpQuiet_nil ?_; rintro _ ⟨p, rfl⟩; have HBp := hidT p.below; go_wp2; go_roundw; (case rel => exact ⟨j + 1, by omega, by go_num, bthen hBk HBp.out⟩); (case measure => simp [intOf]; omega))); (focus (have hgt : ¬ (j : Int) < 32 := (by omega); go_wp2; go_roundw; (case rel => exact ⟨k + 1, d', a', m', ra', by omega, by go_num, HWT.out, HDk.out⟩); (case measure => simp [intOf]; omega))))
    by_cases h2 : x.kind = ⟨#[101, 110, 100]⟩
    · rw [h2] at c0
      clear h2 h1
      have HK0 := hidT (actK_new wr 41 ⟨#[101, 110, 100]⟩ (.bool x.req.wr) (.int .i64 x.req.f) (.int .i64 x.req.m) (.slice x.req.da x.req.data.length x.req.dc) (.slice x.req.ta x.req.tags.length x.req.tc) (.int .i64 x.req.born) x.n x.k)
      have hbq := hidT (below1 wr (.cells #[.string ⟨#[101, 110, 100]⟩, .bool x.req.wr, .int .i64 x.req.f, .int .i64 x.req.m, .slice x.req.da x.req.data.length x.req.dc, .slice x.req.ta x.req.tags.length x.req.tc, .int .i64 x.req.born, .int .i64 x.n, .int .u64 x.k] 41))
      have HD5 := hidT (HDU.out.later hbq.out)
      have nq : ¬ a.foot b1 wr.heap.size := fun e => by have := HDU.out.c.footLt _ e; omega
      have nr : ¬ ra.foot b2 wr.heap.size := fun e => by have := HDU.out.r.footLt _ e; omega
      have HNQ := hidT (⟨nq, nr⟩ : _ ∧ _)
      clear nq nr
      by_cases hn : x.n < 0 ∨ (d.busy.length : Int) ≤ x.n
      · have HN := hidT hn
        clear hn HDU
        go_wp2_with fail
        refine (end_none b1 d a x.n false _ HD5.out.c HN.out).mono ?_
        rintro e w6 ⟨rfl, hb6⟩
        have HD6 := hidT ((HD5.out.later hb6).later (below1 w6 (.cells #[.bool false, .int .i64 0, .int .i64 0, .slice none 0 0, .slice none 0 0, .int .i64 0, .slice none 0 0, .int .i64 0] 49)))
        have hk6 := (HK0.out.later hb6).later (below1 w6 (.cells #[.bool false, .int .i64 0, .int .i64 0, .slice none 0 0, .slice none 0 0, .int .i64 0, .slice none 0 0, .int .i64 0] 49))
        have HX6 := hidT (res_new w6 49 rq0 none 0 0 0)
        have HNB := hidT HD6.out.same
        obtain ⟨y0, y7, y8⟩ := hk6
        have lq := lt_of_cell y0
        clear hb6 HD5 HK0 hbq c0 c1 c2 c3 c4 c5 c6 c7 c8
        go_wp2_with fail
        refine (rend_none b2 m ra x.n false _ HD6.out.r (by rw [← HNB.out]; exact HN.out)).mono ?_
        rintro e w7 ⟨rfl, hb7⟩
        have HD7 := hidT ((HD6.out.later hb7).later (below1 w7 (.cells #[.bool false, .int .i64 0, .int .i64 0, .slice none 0 0, .slice none 0 0, .int .i64 0, .slice none 0 0, .int .i64 0] 49)))
        have HX7 := hidT ((HX6.out.later hb7).later (below1 w7 (.cells #[.bool false, .int .i64 0, .int .i64 0, .slice none 0 0, .slice none 0 0, .int .i64 0, .slice none 0 0, .int .i64 0] 49)))
        have HY7 := hidT (res_new w7 49 rq0 none 0 0 0)
        clear hb7 y0 y7 y8 HD6 HX6 lq
        go_wp2_with fail
        refine (same_err 5 5 _).mono ?_
        rintro e w8 ⟨rfl, hb8⟩
        obtain ⟨z0, z1, z2, z3, z4, z5, z6, z7⟩ := HX7.out.later hb8
        obtain ⟨v0, v1, v2, v3, v4, v5, v6, v7⟩ := HY7.out.later hb8
        have HD8 := hidT (HD7.out.later hb8)
        clear hb8 HD7 HX7 HY7
        simp only [rq0, List.length_nil] at z0 z1 z2 z3 z4 z5 z6 z7 v0 v1 v2 v3 v4 v5 v6 v7
        go_wp2_with fail
        refine (sameRes_er 0 rq0 [] none none 0 0 0 rfl _ (rq0_at _) (Or.inl rfl) (Or.inl rfl) (by simp)).mono ?_
        rintro e w9 ⟨rfl, hb9⟩
        have HDX := hidT (HD8.out.later hb9)
        clear hb9 z0 z1 z2 z3 z4 z5 z6 z7 v0 v1 v2 v3 v4 v5 v6 v7 HD8
        go_wp2_with fail
        refine wp_worldD (fun wK => ∃ d' a' m' ra', m'.waits.length ≤ 4 * (k + 1) ∧ Duo w b1 d' a' b2 m' ra' wK) ⟨d, a, m, ra, by have := HWL.out; omega, HDX.out⟩ ?_
        clear HDX HWL
        rintro wT ⟨d', a', m', ra', hwl', hdu'⟩; have HDU := hidT hdu'; have HWT := hidT hwl'; clear hdu' hwl'; have c65 := HDU.out.r.c65; have lb2 := HDU.out.r.lt; have HSB : Hid (LBz wT b2 (.slice ra'.la m'.busy.length ra'.lc)) := ⟨c65, lb2⟩; go_region_held3 (fun w' => w'.cell? ⟨b2, 65, none⟩ = some (.slice ra'.la m'.busy.length ra'.lc) ∧ b2 < w'.heap.size) (exact LBz.keep HSB.out (by repeat (first | with_reducible exact Below.refl _ _ | with_reducible refine balloc ?_ _ | with_reducible refine bdrew ?_ | with_reducible refine bset' ?_ (by omega) _ | with_reducible refine bthen ?_ (by assumption)))) (first | (go_at_call 24; refine (busy_any b1 d' a' _ (HDU.out.c.later (by repeat (first | with_reducible exact Below.refl _ _ | with_reducible refine balloc ?_ _ | with_reducible refine bdrew ?_ | with_reducible refine bset' ?_ (by omega) _ | with_reducible refine bthen ?_ (by assumption))))).mono ?_; rintro e wA ⟨xa, xc, rfl, hRA, -, hbA⟩) | (go_at_call 23; refine (sames_yes d'.busy m'.busy xa ra'.la xc ra'.lc _ (hRA.later (by repeat (first | with_reducible exact Below.refl _ _ | with_reducible refine balloc ?_ _ | with_reducible refine bdrew ?_ | with_reducible refine bset' ?_ (by omega) _ | with_reducible refine bthen ?_ (by assumption)))) (HDU.out.r.lrow.later (by repeat (first | with_reducible exact Below.refl _ _ | with_reducible refine balloc ?_ _ | with_reducible refine bdrew ?_ | with_reducible refine bset' ?_ (by omega) _ | with_reducible refine bthen ?_ (by assumption)))) (sames_same HDU.out.same)).mono ?_; rintro e wB ⟨rfl, hbB⟩)); have HDT := hidT (HDU.out.later (wr' := wB) (by repeat (first | with_reducible exact Below.refl _ _ | with_reducible refine balloc ?_ _ | with_reducible refine bdrew ?_ | with_reducible refine bset' ?_ (by omega) _ | with_reducible refine bthen ?_ (by assumption)))); clear hbA hbB HSB c65 lb2 hRA; go_wp2_with fail; go_loopw [13] (fun i wr => ∃ j : Nat, j ≤ 32 ∧ i = .int .i64 j ∧ Below wB.heap.size wB wr) (fun i _ => 32 - (intOf i).toNat); (case atStart => exact ⟨0, by omega, rfl, Below.refl _ _⟩); (case round => obtain ⟨j, hj, rfl, hBk⟩ := hrel; have HDk := hidT (HDT.out.later hBk); by_cases hj32 : j < 32; (focus (have hj' : (j : Int) < 32 := (by omega); have hj0 : (0 : Int) ≤ (j : Int) := (by omega); have cN := HDk.out.r.cNow j hj32; have lb2 := HDk.out.r.lt; obtain ⟨s, hs⟩ : ∃ s, m'.now.getD j ByteArray.empty = s := ⟨_, rfl⟩; rw [hs] at cN; have HSs : Hid (d'.now.getD j ByteArray.empty = s) := (by show _ = _; rw [HDk.out.tied.now]; exact hs); have hss : (!(s.toList == s.toList)) = false := (by simp); clear hs; go_wp2_with fail; refine wp_region_later (Below.refl _ _) (by kernel_rfl) (by kernel_rfl) ?_; (repeat (go_big_quiet_step (first | exact rfl | (go_at_call 25; exact calls_later (peek_in b1 _ _ j _ (HDk.out.c.later (Later.below _)) hj32 s HSs.out))))); refine wpQuiet_nil ?_; rintro _ ⟨p, rfl⟩; have HBp := hidT p.below; go_wp2; go_roundw; (case rel => exact ⟨j + 1, by omega, by go_num, bthen hBk HBp.out⟩); (case measure => simp [intOf]; omega))); (focus (have hgt : ¬ (j : Int) < 32 := (by omega); go_wp2; go_roundw; (case rel => exact ⟨k + 1, d', a', m', ra', by omega, by go_num, HWT.out, HDk.out⟩); (case measure => simp [intOf]; omega))))
      · obtain ⟨k', hkn, hkl⟩ : ∃ k' : Nat, x.n = k' ∧ k' < d.busy.length := ⟨x.n.toNat, by omega, by omega⟩
        have hk' : d.busy[k']? = some d.busy[k'] := List.getElem?_eq_getElem hkl
        have HGR := hidT (HD5.out.at' _ (List.getElem_mem hkl)).2
        have HRA := hidT (HD5.out.at' _ (List.getElem_mem hkl)).1
        generalize d.busy[k'] = r at *
        rw [hkn] at c7 HK0 HD5
        clear hn hkn HDU
        go_wp2_with fail
        refine (end_at b1 d a d.busy k' r rfl hk' _ HD5.out.c HGR.out).mono ?_
        rintro e w6 ⟨a6, xa, xc, xs, rfl, hxs, hst, hnew, hs6⟩
        have HH6 := hidT ((HD5.out.halfE hs6).later (below1 w6 (.cells #[.bool r.wr, .int .i64 r.f, .int .i64 r.m, .slice r.da r.data.length r.dc, .slice r.ta r.tags.length r.tc, .int .i64 r.born, .slice xa xs.length xc, .int .i64 0] 49)))
        have HT6 := hidT hs6
        have hk6 := (HK0.out.only hs6.only HNQ.out.1).later (below1 w6 (.cells #[.bool r.wr, .int .i64 r.f, .int .i64 r.m, .slice r.da r.data.length r.dc, .slice r.ta r.tags.length r.tc, .int .i64 r.born, .slice xa xs.length xc, .int .i64 0] 49))
        have HX6 := hidT (res_new w6 49 r xa xs.length xc 0)
        have hw6 := hs6.only.size
        have HX6s := hidT hst
        have HNW := hidT (fun ad e => (hnew ad e).1)
        obtain ⟨y0, y7, y8⟩ := hk6
        have lq := lt_of_cell y0
        clear hs6 HK0 hbq c0 c1 c2 c3 c4 c5 c6 c7 c8 hst hnew
        go_wp2_with fail
        refine (rend_at b2 m ra d.busy k' r HD5.out.same.symm hk' _ HH6.out.r HGR.out (by have := HWL.out; omega)).mono ?_
        rintro e w7 ⟨ra7, ya, yc, ys, rfl, hys, hst7, -, hs7⟩
        have hxy : ys = xs := by rw [hys.out, hxs.out, didRead_tied HD5.out.tied]
        subst hxy
        have HLN : Hid (ys.length ≤ 4) := by show _ ≤ _; rw [hxs.out]; exact didRead_le _ _ HGR.out
        have HD7 := hidT ((HD5.out.ended2 HT6.out (below1 w6 _) hs7).later (below1 w7 (.cells #[.bool r.wr, .int .i64 r.f, .int .i64 r.m, .slice r.da r.data.length r.dc, .slice r.ta r.tags.length r.tc, .int .i64 r.born, .slice ya ys.length yc, .int .i64 0] 49)))
        have HXS := hidT (strs_frame (HX6s.out.later (below1 w6 _)) hs7.only (fun _ ad e hk => by have := HNW.out ad e; have := HD5.out.r.footLt _ hk; omega))
        have HYS := hidT hst7
        have n6 : ¬ ra.foot b2 w6.heap.size := fun e => by have := HD5.out.r.footLt _ e; omega
        have HX7 := hidT ((HX6.out.only hs7.only n6).later (below1 w7 (.cells #[.bool r.wr, .int .i64 r.f, .int .i64 r.m, .slice r.da r.data.length r.dc, .slice r.ta r.tags.length r.tc, .int .i64 r.born, .slice ya ys.length yc, .int .i64 0] 49)))
        have HY7 := hidT (res_new w7 49 r ya ys.length yc 0)
        clear hs7 y0 y7 y8 HH6 HT6 HX6 lq n6 hst7
        go_wp2_with fail
        refine (same_nil 0 _).mono ?_
        rintro e w8 ⟨rfl, hb8⟩
        obtain ⟨z0, z1, z2, z3, z4, z5, z6, z7⟩ := HX7.out.later hb8
        obtain ⟨v0, v1, v2, v3, v4, v5, v6, v7⟩ := HY7.out.later hb8
        have HD8 := hidT (HD7.out.later hb8)
        have hb8' : Below w7.heap.size w7 w8 := bthen (below1 w7 _) hb8
        have HB8 := hidT hb8'
        clear hb8 hb8' HD7 HX7 HY7
        go_wp2_with fail
        refine (sameRes_er 0 r ys xa ya ys.length xc yc rfl _ (HRA.out.later HD8.out.bel) (HXS.out.later HB8.out) (HYS.out.later HB8.out) (by have := HLN.out; omega)).mono ?_
        rintro e w9 ⟨rfl, hb9⟩
        have HDX := hidT (HD8.out.later hb9)
        clear hb9 z0 z1 z2 z3 z4 z5 z6 z7 v0 v1 v2 v3 v4 v5 v6 v7 HD8
        go_wp2_with fail
        refine wp_worldD (fun wK => ∃ d' a' m' ra', m'.waits.length ≤ 4 * (k + 1) ∧ Duo w b1 d' a' b2 m' ra' wK) ⟨_, _, _, _, Nat.le_trans (did_waits _ _ HGR.out) (by show m.waits.length + 4 ≤ _; have := HWL.out; omega), HDX.out⟩ ?_
        clear HDX HWL
        rintro wT ⟨d', a', m', ra', hwl', hdu'⟩; have HDU := hidT hdu'; have HWT := hidT hwl'; clear hdu' hwl'; have c65 := HDU.out.r.c65; have lb2 := HDU.out.r.lt; have HSB : Hid (LBz wT b2 (.slice ra'.la m'.busy.length ra'.lc)) := ⟨c65, lb2⟩; go_region_held3 (fun w' => w'.cell? ⟨b2, 65, none⟩ = some (.slice ra'.la m'.busy.length ra'.lc) ∧ b2 < w'.heap.size) (exact LBz.keep HSB.out (by repeat (first | with_reducible exact Below.refl _ _ | with_reducible refine balloc ?_ _ | with_reducible refine bdrew ?_ | with_reducible refine bset' ?_ (by omega) _ | with_reducible refine bthen ?_ (by assumption)))) (first | (go_at_call 24; refine (busy_any b1 d' a' _ (HDU.out.c.later (by repeat (first | with_reducible exact Below.refl _ _ | with_reducible refine balloc ?_ _ | with_reducible refine bdrew ?_ | with_reducible refine bset' ?_ (by omega) _ | with_reducible refine bthen ?_ (by assumption))))).mono ?_; rintro e wA ⟨xa, xc, rfl, hRA, -, hbA⟩) | (go_at_call 23; refine (sames_yes d'.busy m'.busy xa ra'.la xc ra'.lc _ (hRA.later (by repeat (first | with_reducible exact Below.refl _ _ | with_reducible refine balloc ?_ _ | with_reducible refine bdrew ?_ | with_reducible refine bset' ?_ (by omega) _ | with_reducible refine bthen ?_ (by assumption)))) (HDU.out.r.lrow.later (by repeat (first | with_reducible exact Below.refl _ _ | with_reducible refine balloc ?_ _ | with_reducible refine bdrew ?_ | with_reducible refine bset' ?_ (by omega) _ | with_reducible refine bthen ?_ (by assumption)))) (sames_same HDU.out.same)).mono ?_; rintro e wB ⟨rfl, hbB⟩)); have HDT := hidT (HDU.out.later (wr' := wB) (by repeat (first | with_reducible exact Below.refl _ _ | with_reducible refine balloc ?_ _ | with_reducible refine bdrew ?_ | with_reducible refine bset' ?_ (by omega) _ | with_reducible refine bthen ?_ (by assumption)))); clear hbA hbB HSB c65 lb2 hRA; go_wp2_with fail; go_loopw [13] (fun i wr => ∃ j : Nat, j ≤ 32 ∧ i = .int .i64 j ∧ Below wB.heap.size wB wr) (fun i _ => 32 - (intOf i).toNat); (case atStart => exact ⟨0, by omega, rfl, Below.refl _ _⟩); (case round => obtain ⟨j, hj, rfl, hBk⟩ := hrel; have HDk := hidT (HDT.out.later hBk); by_cases hj32 : j < 32; (focus (have hj' : (j : Int) < 32 := (by omega); have hj0 : (0 : Int) ≤ (j : Int) := (by omega); have cN := HDk.out.r.cNow j hj32; have lb2 := HDk.out.r.lt; obtain ⟨s, hs⟩ : ∃ s, m'.now.getD j ByteArray.empty = s := ⟨_, rfl⟩; rw [hs] at cN; have HSs : Hid (d'.now.getD j ByteArray.empty = s) := (by show _ = _; rw [HDk.out.tied.now]; exact hs); have hss : (!(s.toList == s.toList)) = false := (by simp); clear hs; go_wp2_with fail; refine wp_region_later (Below.refl _ _) (by kernel_rfl) (by kernel_rfl) ?_; (repeat (go_big_quiet_step (first | exact rfl | (go_at_call 25; exact calls_later (peek_in b1 _ _ j _ (HDk.out.c.later (Later.below _)) hj32 s HSs.out))))); refine wpQuiet_nil ?_; rintro _ ⟨p, rfl⟩; have HBp := hidT p.below; go_wp2; go_roundw; (case rel => exact ⟨j + 1, by omega, by go_num, bthen hBk HBp.out⟩); (case measure => simp [intOf]; omega))); (focus (have hgt : ¬ (j : Int) < 32 := (by omega); go_wp2; go_roundw; (case rel => exact ⟨k + 1, d', a', m', ra', by omega, by go_num, HWT.out, HDk.out⟩); (case measure => simp [intOf]; omega))))
    by_cases h3 : x.kind = ⟨#[102, 97, 117, 108, 116]⟩
    · rw [h3] at c0
      clear h3 h2 h1
      have HK0 := hidT (actK_new wr 41 ⟨#[102, 97, 117, 108, 116]⟩ (.bool x.req.wr) (.int .i64 x.req.f) (.int .i64 x.req.m) (.slice x.req.da x.req.data.length x.req.dc) (.slice x.req.ta x.req.tags.length x.req.tc) (.int .i64 x.req.born) x.n x.k)
      have hbq := hidT (below1 wr (.cells #[.string ⟨#[102, 97, 117, 108, 116]⟩, .bool x.req.wr, .int .i64 x.req.f, .int .i64 x.req.m, .slice x.req.da x.req.data.length x.req.dc, .slice x.req.ta x.req.tags.length x.req.tc, .int .i64 x.req.born, .int .i64 x.n, .int .u64 x.k] 41))
      have HD5 := hidT (HDU.out.later hbq.out)
      have nq : ¬ a.foot b1 wr.heap.size := fun e => by have := HDU.out.c.footLt _ e; omega
      have nr : ¬ ra.foot b2 wr.heap.size := fun e => by have := HDU.out.r.footLt _ e; omega
      have HNQ := hidT (⟨nq, nr⟩ : _ ∧ _)
      clear nq nr
      by_cases hn : x.n < 0 ∨ (d.busy.length : Int) ≤ x.n
      · have HN := hidT hn
        clear hn HDU
        go_wp2_with fail
        refine (end_none b1 d a x.n true _ HD5.out.c HN.out).mono ?_
        rintro e w6 ⟨rfl, hb6⟩
        have HD6 := hidT ((HD5.out.later hb6).later (below1 w6 (.cells #[.bool false, .int .i64 0, .int .i64 0, .slice none 0 0, .slice none 0 0, .int .i64 0, .slice none 0 0, .int .i64 0] 49)))
        have hk6 := (HK0.out.later hb6).later (below1 w6 (.cells #[.bool false, .int .i64 0, .int .i64 0, .slice none 0 0, .slice none 0 0, .int .i64 0, .slice none 0 0, .int .i64 0] 49))
        have HX6 := hidT (res_new w6 49 rq0 none 0 0 0)
        have HNB := hidT HD6.out.same
        obtain ⟨y0, y7, y8⟩ := hk6
        have lq := lt_of_cell y0
        clear hb6 HD5 HK0 hbq c0 c1 c2 c3 c4 c5 c6 c7 c8
        go_wp2_with fail
        refine (rend_none b2 m ra x.n true _ HD6.out.r (by rw [← HNB.out]; exact HN.out)).mono ?_
        rintro e w7 ⟨rfl, hb7⟩
        have HD7 := hidT ((HD6.out.later hb7).later (below1 w7 (.cells #[.bool false, .int .i64 0, .int .i64 0, .slice none 0 0, .slice none 0 0, .int .i64 0, .slice none 0 0, .int .i64 0] 49)))
        have HX7 := hidT ((HX6.out.later hb7).later (below1 w7 (.cells #[.bool false, .int .i64 0, .int .i64 0, .slice none 0 0, .slice none 0 0, .int .i64 0, .slice none 0 0, .int .i64 0] 49)))
        have HY7 := hidT (res_new w7 49 rq0 none 0 0 0)
        clear hb7 y0 y7 y8 HD6 HX6 lq
        go_wp2_with fail
        refine (same_err 5 5 _).mono ?_
        rintro e w8 ⟨rfl, hb8⟩
        obtain ⟨z0, z1, z2, z3, z4, z5, z6, z7⟩ := HX7.out.later hb8
        obtain ⟨v0, v1, v2, v3, v4, v5, v6, v7⟩ := HY7.out.later hb8
        have HD8 := hidT (HD7.out.later hb8)
        clear hb8 HD7 HX7 HY7
        simp only [rq0, List.length_nil] at z0 z1 z2 z3 z4 z5 z6 z7 v0 v1 v2 v3 v4 v5 v6 v7
        go_wp2_with fail
        refine (sameRes_er 0 rq0 [] none none 0 0 0 rfl _ (rq0_at _) (Or.inl rfl) (Or.inl rfl) (by simp)).mono ?_
        rintro e w9 ⟨rfl, hb9⟩
        have HDX := hidT (HD8.out.later hb9)
        clear hb9 z0 z1 z2 z3 z4 z5 z6 z7 v0 v1 v2 v3 v4 v5 v6 v7 HD8
        go_wp2_with fail
        refine wp_worldD (fun wK => ∃ d' a' m' ra', m'.waits.length ≤ 4 * (k + 1) ∧ Duo w b1 d' a' b2 m' ra' wK) ⟨d, a, m, ra, by have := HWL.out; omega, HDX.out⟩ ?_
        clear HDX HWL
        rintro wT ⟨d', a', m', ra', hwl', hdu'⟩; have HDU := hidT hdu'; have HWT := hidT hwl'; clear hdu' hwl'; have c65 := HDU.out.r.c65; have lb2 := HDU.out.r.lt; have HSB : Hid (LBz wT b2 (.slice ra'.la m'.busy.length ra'.lc)) := ⟨c65, lb2⟩; go_region_held3 (fun w' => w'.cell? ⟨b2, 65, none⟩ = some (.slice ra'.la m'.busy.length ra'.lc) ∧ b2 < w'.heap.size) (exact LBz.keep HSB.out (by repeat (first | with_reducible exact Below.refl _ _ | with_reducible refine balloc ?_ _ | with_reducible refine bdrew ?_ | with_reducible refine bset' ?_ (by omega) _ | with_reducible refine bthen ?_ (by assumption)))) (first | (go_at_call 24; refine (busy_any b1 d' a' _ (HDU.out.c.later (by repeat (first | with_reducible exact Below.refl _ _ | with_reducible refine balloc ?_ _ | with_reducible refine bdrew ?_ | with_reducible refine bset' ?_ (by omega) _ | with_reducible refine bthen ?_ (by assumption))))).mono ?_; rintro e wA ⟨xa, xc, rfl, hRA, -, hbA⟩) | (go_at_call 23; refine (sames_yes d'.busy m'.busy xa ra'.la xc ra'.lc _ (hRA.later (by repeat (first | with_reducible exact Below.refl _ _ | with_reducible refine balloc ?_ _ | with_reducible refine bdrew ?_ | with_reducible refine bset' ?_ (by omega) _ | with_reducible refine bthen ?_ (by assumption)))) (HDU.out.r.lrow.later (by repeat (first | with_reducible exact Below.refl _ _ | with_reducible refine balloc ?_ _ | with_reducible refine bdrew ?_ | with_reducible refine bset' ?_ (by omega) _ | with_reducible refine bthen ?_ (by assumption)))) (sames_same HDU.out.same)).mono ?_; rintro e wB ⟨rfl, hbB⟩)); have HDT := hidT (HDU.out.later (wr' := wB) (by repeat (first | with_reducible exact Below.refl _ _ | with_reducible refine balloc ?_ _ | with_reducible refine bdrew ?_ | with_reducible refine bset' ?_ (by omega) _ | with_reducible refine bthen ?_ (by assumption)))); clear hbA hbB HSB c65 lb2 hRA; go_wp2_with fail; go_loopw [13] (fun i wr => ∃ j : Nat, j ≤ 32 ∧ i = .int .i64 j ∧ Below wB.heap.size wB wr) (fun i _ => 32 - (intOf i).toNat); (case atStart => exact ⟨0, by omega, rfl, Below.refl _ _⟩); (case round => obtain ⟨j, hj, rfl, hBk⟩ := hrel; have HDk := hidT (HDT.out.later hBk); by_cases hj32 : j < 32; (focus (have hj' : (j : Int) < 32 := (by omega); have hj0 : (0 : Int) ≤ (j : Int) := (by omega); have cN := HDk.out.r.cNow j hj32; have lb2 := HDk.out.r.lt; obtain ⟨s, hs⟩ : ∃ s, m'.now.getD j ByteArray.empty = s := ⟨_, rfl⟩; rw [hs] at cN; have HSs : Hid (d'.now.getD j ByteArray.empty = s) := (by show _ = _; rw [HDk.out.tied.now]; exact hs); have hss : (!(s.toList == s.toList)) = false := (by simp); clear hs; go_wp2_with fail; refine wp_region_later (Below.refl _ _) (by kernel_rfl) (by kernel_rfl) ?_; (repeat (go_big_quiet_step (first | exact rfl | (go_at_call 25; exact calls_later (peek_in b1 _ _ j _ (HDk.out.c.later (Later.below _)) hj32 s HSs.out))))); refine wpQuiet_nil ?_; rintro _ ⟨p, rfl⟩; have HBp := hidT p.below; go_wp2; go_roundw; (case rel => exact ⟨j + 1, by omega, by go_num, bthen hBk HBp.out⟩); (case measure => simp [intOf]; omega))); (focus (have hgt : ¬ (j : Int) < 32 := (by omega); go_wp2; go_roundw; (case rel => exact ⟨k + 1, d', a', m', ra', by omega, by go_num, HWT.out, HDk.out⟩); (case measure => simp [intOf]; omega))))
      · obtain ⟨k', hkn, hkl⟩ : ∃ k' : Nat, x.n = k' ∧ k' < d.busy.length := ⟨x.n.toNat, by omega, by omega⟩
        have hk' : d.busy[k']? = some d.busy[k'] := List.getElem?_eq_getElem hkl
        have HGR := hidT (HD5.out.at' _ (List.getElem_mem hkl)).2
        have HRA := hidT (HD5.out.at' _ (List.getElem_mem hkl)).1
        generalize d.busy[k'] = r at *
        rw [hkn] at c7 HK0 HD5
        clear hn hkn HDU
        go_wp2_with fail
        refine (end_fault_at b1 d a d.busy k' r rfl hk' _ HD5.out.c).mono ?_
        rintro e w6 ⟨a6, rfl, hs6⟩
        have HH6 := hidT ((HD5.out.halfF hs6).later (below1 w6 (.cells #[.bool r.wr, .int .i64 r.f, .int .i64 r.m, .slice r.da r.data.length r.dc, .slice r.ta r.tags.length r.tc, .int .i64 r.born, .slice none 0 0, .int .i64 8] 49)))
        have HT6 := hidT hs6
        have hk6 := (HK0.out.only hs6.only HNQ.out.1).later (below1 w6 (.cells #[.bool r.wr, .int .i64 r.f, .int .i64 r.m, .slice r.da r.data.length r.dc, .slice r.ta r.tags.length r.tc, .int .i64 r.born, .slice none 0 0, .int .i64 8] 49))
        have HX6 := hidT (res_new w6 49 r none 0 0 8)
        have hw6 := hs6.only.size
        obtain ⟨y0, y7, y8⟩ := hk6
        have lq := lt_of_cell y0
        clear hs6 HK0 hbq c0 c1 c2 c3 c4 c5 c6 c7 c8
        go_wp2_with fail
        refine (rend_fault_at b2 m ra d.busy k' r HD5.out.same.symm hk' _ HH6.out.r).mono ?_
        rintro e w7 ⟨ra7, rfl, -, hs7⟩
        have HD7 := hidT ((HD5.out.fault (HT6.out.later (below1 w6 _)) hs7).later (below1 w7 (.cells #[.bool r.wr, .int .i64 r.f, .int .i64 r.m, .slice r.da r.data.length r.dc, .slice r.ta r.tags.length r.tc, .int .i64 r.born, .slice none 0 0, .int .i64 8] 49)))
        have n6 : ¬ ra.foot b2 w6.heap.size := fun e => by have := HD5.out.r.footLt _ e; omega
        have HX7 := hidT ((HX6.out.only hs7.only n6).later (below1 w7 (.cells #[.bool r.wr, .int .i64 r.f, .int .i64 r.m, .slice r.da r.data.length r.dc, .slice r.ta r.tags.length r.tc, .int .i64 r.born, .slice none 0 0, .int .i64 8] 49)))
        have HY7 := hidT (res_new w7 49 r none 0 0 8)
        clear hs7 y0 y7 y8 HH6 HT6 HX6 lq n6
        go_wp2_with fail
        refine (same_nil 0 _).mono ?_
        rintro e w8 ⟨rfl, hb8⟩
        obtain ⟨z0, z1, z2, z3, z4, z5, z6, z7⟩ := HX7.out.later hb8
        obtain ⟨v0, v1, v2, v3, v4, v5, v6, v7⟩ := HY7.out.later hb8
        have HD8 := hidT (HD7.out.later hb8)
        have hb8' : Below w7.heap.size w7 w8 := bthen (below1 w7 _) hb8
        have HB8 := hidT hb8'
        clear hb8 hb8' HD7 HX7 HY7
        go_wp2_with fail
        refine (sameRes_er 8 r [] none none 0 0 0 rfl _ (HRA.out.later HD8.out.bel) (Or.inl rfl) (Or.inl rfl) (by simp)).mono ?_
        rintro e w9 ⟨rfl, hb9⟩
        have HDX := hidT (HD8.out.later hb9)
        clear hb9 z0 z1 z2 z3 z4 z5 z6 z7 v0 v1 v2 v3 v4 v5 v6 v7 HD8
        go_wp2_with fail
        refine wp_worldD (fun wK => ∃ d' a' m' ra', m'.waits.length ≤ 4 * (k + 1) ∧ Duo w b1 d' a' b2 m' ra' wK) ⟨_, _, _, _, by show m.waits.length ≤ _; have := HWL.out; omega, HDX.out⟩ ?_
        clear HDX HWL
        rintro wT ⟨d', a', m', ra', hwl', hdu'⟩; have HDU := hidT hdu'; have HWT := hidT hwl'; clear hdu' hwl'; have c65 := HDU.out.r.c65; have lb2 := HDU.out.r.lt; have HSB : Hid (LBz wT b2 (.slice ra'.la m'.busy.length ra'.lc)) := ⟨c65, lb2⟩; go_region_held3 (fun w' => w'.cell? ⟨b2, 65, none⟩ = some (.slice ra'.la m'.busy.length ra'.lc) ∧ b2 < w'.heap.size) (exact LBz.keep HSB.out (by repeat (first | with_reducible exact Below.refl _ _ | with_reducible refine balloc ?_ _ | with_reducible refine bdrew ?_ | with_reducible refine bset' ?_ (by omega) _ | with_reducible refine bthen ?_ (by assumption)))) (first | (go_at_call 24; refine (busy_any b1 d' a' _ (HDU.out.c.later (by repeat (first | with_reducible exact Below.refl _ _ | with_reducible refine balloc ?_ _ | with_reducible refine bdrew ?_ | with_reducible refine bset' ?_ (by omega) _ | with_reducible refine bthen ?_ (by assumption))))).mono ?_; rintro e wA ⟨xa, xc, rfl, hRA, -, hbA⟩) | (go_at_call 23; refine (sames_yes d'.busy m'.busy xa ra'.la xc ra'.lc _ (hRA.later (by repeat (first | with_reducible exact Below.refl _ _ | with_reducible refine balloc ?_ _ | with_reducible refine bdrew ?_ | with_reducible refine bset' ?_ (by omega) _ | with_reducible refine bthen ?_ (by assumption)))) (HDU.out.r.lrow.later (by repeat (first | with_reducible exact Below.refl _ _ | with_reducible refine balloc ?_ _ | with_reducible refine bdrew ?_ | with_reducible refine bset' ?_ (by omega) _ | with_reducible refine bthen ?_ (by assumption)))) (sames_same HDU.out.same)).mono ?_; rintro e wB ⟨rfl, hbB⟩)); have HDT := hidT (HDU.out.later (wr' := wB) (by repeat (first | with_reducible exact Below.refl _ _ | with_reducible refine balloc ?_ _ | with_reducible refine bdrew ?_ | with_reducible refine bset' ?_ (by omega) _ | with_reducible refine bthen ?_ (by assumption)))); clear hbA hbB HSB c65 lb2 hRA; go_wp2_with fail; go_loopw [13] (fun i wr => ∃ j : Nat, j ≤ 32 ∧ i = .int .i64 j ∧ Below wB.heap.size wB wr) (fun i _ => 32 - (intOf i).toNat); (case atStart => exact ⟨0, by omega, rfl, Below.refl _ _⟩); (case round => obtain ⟨j, hj, rfl, hBk⟩ := hrel; have HDk := hidT (HDT.out.later hBk); by_cases hj32 : j < 32; (focus (have hj' : (j : Int) < 32 := (by omega); have hj0 : (0 : Int) ≤ (j : Int) := (by omega); have cN := HDk.out.r.cNow j hj32; have lb2 := HDk.out.r.lt; obtain ⟨s, hs⟩ : ∃ s, m'.now.getD j ByteArray.empty = s := ⟨_, rfl⟩; rw [hs] at cN; have HSs : Hid (d'.now.getD j ByteArray.empty = s) := (by show _ = _; rw [HDk.out.tied.now]; exact hs); have hss : (!(s.toList == s.toList)) = false := (by simp); clear hs; go_wp2_with fail; refine wp_region_later (Below.refl _ _) (by kernel_rfl) (by kernel_rfl) ?_; (repeat (go_big_quiet_step (first | exact rfl | (go_at_call 25; exact calls_later (peek_in b1 _ _ j _ (HDk.out.c.later (Later.below _)) hj32 s HSs.out))))); refine wpQuiet_nil ?_; rintro _ ⟨p, rfl⟩; have HBp := hidT p.below; go_wp2; go_roundw; (case rel => exact ⟨j + 1, by omega, by go_num, bthen hBk HBp.out⟩); (case measure => simp [intOf]; omega))); (focus (have hgt : ¬ (j : Int) < 32 := (by omega); go_wp2; go_roundw; (case rel => exact ⟨k + 1, d', a', m', ra', by omega, by go_num, HWT.out, HDk.out⟩); (case measure => simp [intOf]; omega))))
    by_cases h4 : x.kind = ⟨#[102, 108, 117, 115, 104]⟩
    · rw [h4] at c0
      clear h4 h3 h2 h1
      have HK0 := hidT (actK_new wr 41 ⟨#[102, 108, 117, 115, 104]⟩ (.bool x.req.wr) (.int .i64 x.req.f) (.int .i64 x.req.m) (.slice x.req.da x.req.data.length x.req.dc) (.slice x.req.ta x.req.tags.length x.req.tc) (.int .i64 x.req.born) x.n x.k)
      have hbq := hidT (below1 wr (.cells #[.string ⟨#[102, 108, 117, 115, 104]⟩, .bool x.req.wr, .int .i64 x.req.f, .int .i64 x.req.m, .slice x.req.da x.req.data.length x.req.dc, .slice x.req.ta x.req.tags.length x.req.tc, .int .i64 x.req.born, .int .i64 x.n, .int .u64 x.k] 41))
      have HD5 := hidT (HDU.out.later hbq.out)
      have nq : ¬ a.foot b1 wr.heap.size := fun e => by have := HDU.out.c.footLt _ e; omega
      have nr : ¬ ra.foot b2 wr.heap.size := fun e => by have := HDU.out.r.footLt _ e; omega
      have HNQ := hidT (⟨nq, nr⟩ : _ ∧ _)
      clear nq nr
      clear HDU HK0
      go_wp2_with fail
      refine (flush_any b1 d a _ HD5.out.c).mono ?_
      rintro e w6 ⟨rfl, hs6⟩
      have HH6 := hidT (HD5.out.half.stepC hs6 (fun x hx => (HD5.out.at' x hx).1))
      have HS6 := hidT hs6
      clear hs6 c0 c1 c2 c3 c4 c5 c6 c7 c8
      go_wp2_with fail
      refine (rflush_any b2 m ra _ HH6.out.r).mono ?_
      rintro e w7 ⟨rfl, hs7⟩
      have HDX := hidT (HD5.out.flush HS6.out hs7)
      clear hs7 HH6 HS6 HD5
      go_wp2_with fail
      refine wp_worldD (fun wK => ∃ d' a' m' ra', m'.waits.length ≤ 4 * (k + 1) ∧ Duo w b1 d' a' b2 m' ra' wK) ⟨_, _, _, _, by show 0 ≤ _; omega, HDX.out⟩ ?_
      clear HDX HWL
      rintro wT ⟨d', a', m', ra', hwl', hdu'⟩; have HDU := hidT hdu'; have HWT := hidT hwl'; clear hdu' hwl'; have c65 := HDU.out.r.c65; have lb2 := HDU.out.r.lt; have HSB : Hid (LBz wT b2 (.slice ra'.la m'.busy.length ra'.lc)) := ⟨c65, lb2⟩; go_region_held3 (fun w' => w'.cell? ⟨b2, 65, none⟩ = some (.slice ra'.la m'.busy.length ra'.lc) ∧ b2 < w'.heap.size) (exact LBz.keep HSB.out (by repeat (first | with_reducible exact Below.refl _ _ | with_reducible refine balloc ?_ _ | with_reducible refine bdrew ?_ | with_reducible refine bset' ?_ (by omega) _ | with_reducible refine bthen ?_ (by assumption)))) (first | (go_at_call 24; refine (busy_any b1 d' a' _ (HDU.out.c.later (by repeat (first | with_reducible exact Below.refl _ _ | with_reducible refine balloc ?_ _ | with_reducible refine bdrew ?_ | with_reducible refine bset' ?_ (by omega) _ | with_reducible refine bthen ?_ (by assumption))))).mono ?_; rintro e wA ⟨xa, xc, rfl, hRA, -, hbA⟩) | (go_at_call 23; refine (sames_yes d'.busy m'.busy xa ra'.la xc ra'.lc _ (hRA.later (by repeat (first | with_reducible exact Below.refl _ _ | with_reducible refine balloc ?_ _ | with_reducible refine bdrew ?_ | with_reducible refine bset' ?_ (by omega) _ | with_reducible refine bthen ?_ (by assumption)))) (HDU.out.r.lrow.later (by repeat (first | with_reducible exact Below.refl _ _ | with_reducible refine balloc ?_ _ | with_reducible refine bdrew ?_ | with_reducible refine bset' ?_ (by omega) _ | with_reducible refine bthen ?_ (by assumption)))) (sames_same HDU.out.same)).mono ?_; rintro e wB ⟨rfl, hbB⟩)); have HDT := hidT (HDU.out.later (wr' := wB) (by repeat (first | with_reducible exact Below.refl _ _ | with_reducible refine balloc ?_ _ | with_reducible refine bdrew ?_ | with_reducible refine bset' ?_ (by omega) _ | with_reducible refine bthen ?_ (by assumption)))); clear hbA hbB HSB c65 lb2 hRA; go_wp2_with fail; go_loopw [13] (fun i wr => ∃ j : Nat, j ≤ 32 ∧ i = .int .i64 j ∧ Below wB.heap.size wB wr) (fun i _ => 32 - (intOf i).toNat); (case atStart => exact ⟨0, by omega, rfl, Below.refl _ _⟩); (case round => obtain ⟨j, hj, rfl, hBk⟩ := hrel; have HDk := hidT (HDT.out.later hBk); by_cases hj32 : j < 32; (focus (have hj' : (j : Int) < 32 := (by omega); have hj0 : (0 : Int) ≤ (j : Int) := (by omega); have cN := HDk.out.r.cNow j hj32; have lb2 := HDk.out.r.lt; obtain ⟨s, hs⟩ : ∃ s, m'.now.getD j ByteArray.empty = s := ⟨_, rfl⟩; rw [hs] at cN; have HSs : Hid (d'.now.getD j ByteArray.empty = s) := (by show _ = _; rw [HDk.out.tied.now]; exact hs); have hss : (!(s.toList == s.toList)) = false := (by simp); clear hs; go_wp2_with fail; refine wp_region_later (Below.refl _ _) (by kernel_rfl) (by kernel_rfl) ?_; (repeat (go_big_quiet_step (first | exact rfl | (go_at_call 25; exact calls_later (peek_in b1 _ _ j _ (HDk.out.c.later (Later.below _)) hj32 s HSs.out))))); refine wpQuiet_nil ?_; rintro _ ⟨p, rfl⟩; have HBp := hidT p.below; go_wp2; go_roundw; (case rel => exact ⟨j + 1, by omega, by go_num, bthen hBk HBp.out⟩); (case measure => simp [intOf]; omega))); (focus (have hgt : ¬ (j : Int) < 32 := (by omega); go_wp2; go_roundw; (case rel => exact ⟨k + 1, d', a', m', ra', by omega, by go_num, HWT.out, HDk.out⟩); (case measure => simp [intOf]; omega))))
    have g1 : (x.kind.toList == [115, 116, 97, 114, 116]) = false := strD_ne _ h1
    have g2 : (x.kind.toList == [101, 110, 100]) = false := strD_ne _ h2
    have g3 : (x.kind.toList == [102, 97, 117, 108, 116]) = false := strD_ne _ h3
    have g4 : (x.kind.toList == [102, 108, 117, 115, 104]) = false := strD_ne _ h4
    have hbq := hidT (below1 wr (.cells #[.string x.kind, .bool x.req.wr, .int .i64 x.req.f, .int .i64 x.req.m, .slice x.req.da x.req.data.length x.req.dc, .slice x.req.ta x.req.tags.length x.req.tc, .int .i64 x.req.born, .int .i64 x.n, .int .u64 x.k] 41))
    have HD5 := hidT (HDU.out.later hbq.out)
    have nq : ¬ a.foot b1 wr.heap.size := fun e => by have := HDU.out.c.footLt _ e; omega
    have HK0 := hidT (actK_new wr 41 x.kind (.bool x.req.wr) (.int .i64 x.req.f) (.int .i64 x.req.m) (.slice x.req.da x.req.data.length x.req.dc) (.slice x.req.ta x.req.tags.length x.req.tc) (.int .i64 x.req.born) x.n x.k)
    have HNQ := hidT nq
    clear nq h1 h2 h3 h4 HDU
    go_wp2_with fail
    refine (crash_any b1 d a x.k HNK.out.2 _ HD5.out.c).mono ?_
    rintro e w6 ⟨a6, rfl, hs6⟩
    have HH6 := hidT (HD5.out.half.stepC hs6 (fun y hy => by cases hy))
    have HS6 := hidT hs6
    obtain ⟨y0, y7, y8⟩ := HK0.out.only hs6.only HNQ.out
    have lq := lt_of_cell y0
    clear hs6 c0 c1 c2 c3 c4 c5 c6 c7 c8
    go_wp2_with fail
    refine (rcrash_any b2 m ra x.k HNK.out.2 _ HH6.out.r (by have := HWL.out; omega)).mono ?_
    rintro e w7 ⟨rfl, hs7⟩
    have HDX := hidT (HD5.out.crash x.k HS6.out hs7)
    clear hs7 HH6 HS6 HD5 y0 y7 y8 lq
    go_wp2_with fail
    refine wp_worldD (fun wK => ∃ d' a' m' ra', m'.waits.length ≤ 4 * (k + 1) ∧ Duo w b1 d' a' b2 m' ra' wK) ⟨_, _, _, _, by show 0 ≤ _; omega, HDX.out⟩ ?_
    clear HDX HWL
    rintro wT ⟨d', a', m', ra', hwl', hdu'⟩; have HDU := hidT hdu'; have HWT := hidT hwl'; clear hdu' hwl'; have c65 := HDU.out.r.c65; have lb2 := HDU.out.r.lt; have HSB : Hid (LBz wT b2 (.slice ra'.la m'.busy.length ra'.lc)) := ⟨c65, lb2⟩; go_region_held3 (fun w' => w'.cell? ⟨b2, 65, none⟩ = some (.slice ra'.la m'.busy.length ra'.lc) ∧ b2 < w'.heap.size) (exact LBz.keep HSB.out (by repeat (first | with_reducible exact Below.refl _ _ | with_reducible refine balloc ?_ _ | with_reducible refine bdrew ?_ | with_reducible refine bset' ?_ (by omega) _ | with_reducible refine bthen ?_ (by assumption)))) (first | (go_at_call 24; refine (busy_any b1 d' a' _ (HDU.out.c.later (by repeat (first | with_reducible exact Below.refl _ _ | with_reducible refine balloc ?_ _ | with_reducible refine bdrew ?_ | with_reducible refine bset' ?_ (by omega) _ | with_reducible refine bthen ?_ (by assumption))))).mono ?_; rintro e wA ⟨xa, xc, rfl, hRA, -, hbA⟩) | (go_at_call 23; refine (sames_yes d'.busy m'.busy xa ra'.la xc ra'.lc _ (hRA.later (by repeat (first | with_reducible exact Below.refl _ _ | with_reducible refine balloc ?_ _ | with_reducible refine bdrew ?_ | with_reducible refine bset' ?_ (by omega) _ | with_reducible refine bthen ?_ (by assumption)))) (HDU.out.r.lrow.later (by repeat (first | with_reducible exact Below.refl _ _ | with_reducible refine balloc ?_ _ | with_reducible refine bdrew ?_ | with_reducible refine bset' ?_ (by omega) _ | with_reducible refine bthen ?_ (by assumption)))) (sames_same HDU.out.same)).mono ?_; rintro e wB ⟨rfl, hbB⟩)); have HDT := hidT (HDU.out.later (wr' := wB) (by repeat (first | with_reducible exact Below.refl _ _ | with_reducible refine balloc ?_ _ | with_reducible refine bdrew ?_ | with_reducible refine bset' ?_ (by omega) _ | with_reducible refine bthen ?_ (by assumption)))); clear hbA hbB HSB c65 lb2 hRA; go_wp2_with fail; go_loopw [13] (fun i wr => ∃ j : Nat, j ≤ 32 ∧ i = .int .i64 j ∧ Below wB.heap.size wB wr) (fun i _ => 32 - (intOf i).toNat); (case atStart => exact ⟨0, by omega, rfl, Below.refl _ _⟩); (case round => obtain ⟨j, hj, rfl, hBk⟩ := hrel; have HDk := hidT (HDT.out.later hBk); by_cases hj32 : j < 32; (focus (have hj' : (j : Int) < 32 := (by omega); have hj0 : (0 : Int) ≤ (j : Int) := (by omega); have cN := HDk.out.r.cNow j hj32; have lb2 := HDk.out.r.lt; obtain ⟨s, hs⟩ : ∃ s, m'.now.getD j ByteArray.empty = s := ⟨_, rfl⟩; rw [hs] at cN; have HSs : Hid (d'.now.getD j ByteArray.empty = s) := (by show _ = _; rw [HDk.out.tied.now]; exact hs); have hss : (!(s.toList == s.toList)) = false := (by simp); clear hs; go_wp2_with fail; refine wp_region_later (Below.refl _ _) (by kernel_rfl) (by kernel_rfl) ?_; (repeat (go_big_quiet_step (first | exact rfl | (go_at_call 25; exact calls_later (peek_in b1 _ _ j _ (HDk.out.c.later (Later.below _)) hj32 s HSs.out))))); refine wpQuiet_nil ?_; rintro _ ⟨p, rfl⟩; have HBp := hidT p.below; go_wp2; go_roundw; (case rel => exact ⟨j + 1, by omega, by go_num, bthen hBk HBp.out⟩); (case measure => simp [intOf]; omega))); (focus (have hgt : ¬ (j : Int) < 32 := (by omega); go_wp2; go_roundw; (case rel => exact ⟨k + 1, d', a', m', ra', by omega, by go_num, HWT.out, HDk.out⟩); (case measure => simp [intOf]; omega))))
end Go.Proofs.Ythmeaclekedilac
