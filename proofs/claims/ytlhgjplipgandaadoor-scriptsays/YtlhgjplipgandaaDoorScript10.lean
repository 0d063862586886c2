/- A text that is read as a step's. -/
import Derived.Test.YtlhgjplipgandaaDoorScript9
namespace Go.Proofs.YtlhgjplipgandaaDoor
open Go.RowKit Go.BigFrame Go.Maps
attribute [local go_sem] Later.cell Later.frozen

/-- What is read of a text, whether it is a step's or not. -/
def readK (c : List UInt8 × List UInt8 × Bool) (k : Nat) : St := ⟨⟨c.1.toArray⟩, if 1 ≤ k then numA c.2.1 0 else 0, if 2 ≤ k then numA c.2.1 1 else 0, if rest2 c.2.1 k = [45] then ⟨#[]⟩ else ⟨(rest2 c.2.1 k).toArray⟩⟩
def readF (l : List UInt8) : St := readK (Lib.cut l [32]) (partsOf ⟨(Lib.cut l [32]).1.toArray⟩).1.toNat
structure BoxF (q : Nat) (x : St) (w : World) : Prop where
  box : BoxSt q x w
  f0 : w.frozen? ⟨q, 0, none⟩ = false
  f1 : w.frozen? ⟨q, 1, none⟩ = false
  f2 : w.frozen? ⟨q, 2, none⟩ = false
  f3 : w.frozen? ⟨q, 3, none⟩ = false
theorem BoxF.later {q : Nat} {x : St} {w w' : World} (h : BoxF q x w) (hb : Below w.heap.size w w') : BoxF q x w' :=
  ⟨h.box.later hb, (hb.frozen (p := ⟨q, 0, none⟩) h.box.2.2.2.2).trans h.f0, (hb.frozen (p := ⟨q, 1, none⟩) h.box.2.2.2.2).trans h.f1, (hb.frozen (p := ⟨q, 2, none⟩) h.box.2.2.2.2).trans h.f2, (hb.frozen (p := ⟨q, 3, none⟩) h.box.2.2.2.2).trans h.f3⟩
theorem boxF_new (w : World) (x : St) (T : TypeId) : BoxF w.heap.size x (w.alloc (.cells #[.string x.word, .int .i64 x.a, .int .i64 x.b, .string x.data] T)) := ⟨⟨by simp, by simp, by simp, by simp, by simp⟩, by simp, by simp, by simp, by simp⟩
theorem BoxF.rn {s b : Nat} {wd dt : ByteArray} {A B : Int} {l : List UInt8} {W w : World} (h : BoxF s ⟨wd, A, B, dt⟩ w) (h0 : w.cell? ⟨b, 0, none⟩ = some (.pointer (some ⟨s, 1, none⟩))) (h1 : w.cell? ⟨b, 1, none⟩ = some (.pointer (some ⟨s, 2, none⟩))) (hb : Below W.heap.size W w) : RN s b wd dt A B l 0 W w := ⟨h.box, h0, h1, h.f1, h.f2, h.f3, hb⟩
theorem calls_worldS {P : Program} {f : Nat} {args : Array Value} {Q : Ending → World → Prop} {w : World} (R : World → Prop) (h : R w) (k : ∀ w', R w' → Calls P f args w' Q) : Calls P f args w Q := k w h
set_option maxRecDepth 100000 in
set_option maxHeartbeats 4000000 in
theorem read_any (l : List UInt8) (hlen : l.length ≤ 1000) (w : World) (hl : LibW w) : Calls Tryd.prog 18 #[.string ⟨l.toArray⟩] w fun e w' => e = .returned (readF l).val ∧ Below w.heap.size w w' := by
  have HCUT := cut_any l hlen
  have c1 := Nat.le_trans (cut_len1 l) hlen
  have c2 := Nat.le_trans (cut_len2 l) hlen
  unfold readF
  generalize Lib.cut l [32] = c at *
  obtain ⟨D, R, fd⟩ := c
  simp only at c1 c2 HCUT ⊢
  obtain ⟨n, b, hpn, hnb⟩ := partsOf_cases ⟨D.toArray⟩
  obtain ⟨t, ht⟩ : ∃ t, (wordF ⟨D.toArray⟩).isSome = t := ⟨_, rfl⟩
  rw [show (partsOf ⟨D.toArray⟩).1 = n by rw [hpn]]
  have HPN := hidT hpn
  have HTT := hidT ht
  have HL := hidT hl
  have C1 := hidT c1
  have C2 := hidT c2
  clear hpn ht hl c1 c2 hlen
  go_enter Tryd.func18, Tryd.ntmps18
  go_wp2_with fail
  refine (HCUT _ (HL.out.later (below1 _ _))).mono ?_
  rintro e w1 ⟨rfl, hb1⟩
  have HF := hidT ((boxF_new w ⟨⟨#[]⟩, 0, 0, ⟨#[]⟩⟩ 23).later hb1)
  have HB1 := hidT (bthen (below1 _ _) hb1)
  clear hb1 HCUT
  go_wp2_with fail
  refine calls_worldS (fun wz => BoxF w1.heap.size ⟨⟨D.toArray⟩, 0, 0, ⟨#[]⟩⟩ wz ∧ Below w1.heap.size w1 wz) ⟨⟨⟨by simp, by simp, by simp, by simp, by simp⟩, by simp, by simp, by simp, by simp⟩, by repeat (first | with_reducible exact Below.refl _ _ | with_reducible refine balloc ?_ _ | with_reducible refine bdrew ?_ | with_reducible refine bset' ?_ (by omega) _ | with_reducible refine bthen ?_ (by assumption))⟩ ?_
  rintro w2 ⟨hs, hb2⟩
  have HS := hidT hs
  have HB2 := hidT hb2
  clear hs hb2
  refine (words_b _).mono ?_
  rintro e w3 ⟨mb, rfl, hws⟩
  have hlk := (look_wb hws (Below.refl _ _) ⟨D.toArray⟩ (by rw [size_list]; have := C1.out; omega) n b HPN.out t HTT.out).2
  have HS3 := hidT (HS.out.later hws.bel)
  have HB3 := hidT (bthen HB2.out hws.bel)
  clear hws HS HB2 HPN HTT
  rcases hnb with ⟨rfl, rfl⟩ | ⟨rfl, rfl⟩ | ⟨rfl, rfl⟩ | ⟨rfl, rfl⟩
  · go_wp2_with fail
    refine (readNumbers_any w1.heap.size (w3.heap.size + 1) ⟨D.toArray⟩ ⟨#[]⟩ 0 0 R 0 (by omega) w1 _ (HL.out.later HB1.out) C2.out (Nat.le_refl _) (by have := HB3.out.size; omega) (BoxF.rn (HS3.out.later (by repeat (first | with_reducible exact Below.refl _ _ | with_reducible refine balloc ?_ _ | with_reducible refine bdrew ?_ | with_reducible refine bset' ?_ (by omega) _ | with_reducible refine bthen ?_ (by assumption)))) (by simp) (by simp) (bthen HB3.out (by repeat (first | with_reducible exact Below.refl _ _ | with_reducible refine balloc ?_ _ | with_reducible refine bdrew ?_ | with_reducible refine bset' ?_ (by omega) _ | with_reducible refine bthen ?_ (by assumption)))))).mono ?_
    rintro e w4 ⟨rfl, hrn⟩
    obtain ⟨⟨r0, r1, r2, r3, rl⟩, g0, g1, g2, g3⟩ := HF.out.later hrn.bel
    obtain ⟨s0, s1, s2, s3, sl⟩ := hrn.box
    have f3 := hrn.f3
    simp only at r0 r1 r2 r3 s0 s1 s2 s3
    have HB4 := hidT (bthen HB1.out hrn.bel)
    have hne := HB1.out.size
    have hne2 := HF.out.box.2.2.2.2
    clear hrn HB3 HS3 hlk
    obtain ⟨T, hT⟩ : ∃ T, rest2 R 0 = T := ⟨_, rfl⟩
    rw [hT]
    have HT := hidT hT
    clear hT
    by_cases hd : T = [45]
    · have HK : Hid (readK (D, R, fd) 0 = ⟨⟨D.toArray⟩, if 1 ≤ 0 then numA R 0 else 0, if 2 ≤ 0 then numA R 1 else 0, ⟨#[]⟩⟩) := by show _ = _; unfold readK; simp only; rw [HT.out, if_pos hd]
      clear HT
      subst hd
      go_wp2
      refine bodyPost_ret (v := (⟨⟨D.toArray⟩, if 1 ≤ 0 then numA R 0 else 0, if 2 ≤ 0 then numA R 1 else 0, ⟨#[]⟩⟩ : St).val) (by simp [results, Tryd.results18, go_sem, r0, r1, r2, r3]) rfl ⟨congrArg (fun x : St => Ending.returned x.val) HK.out.symm, by have hb4 := HB4.out; repeat (first | with_reducible exact Below.refl _ _ | with_reducible refine balloc ?_ _ | with_reducible refine bdrew ?_ | with_reducible refine bset' ?_ (by omega) _ | with_reducible refine bthen ?_ (by assumption))⟩
    · have HK : Hid (readK (D, R, fd) 0 = ⟨⟨D.toArray⟩, if 1 ≤ 0 then numA R 0 else 0, if 2 ≤ 0 then numA R 1 else 0, ⟨T.toArray⟩⟩) := by show _ = _; unfold readK; simp only; rw [HT.out, if_neg hd]
      have hq : (T == [45]) = false := beq_eq_false_iff_ne.2 hd
      clear HT hd
      go_wp2
      refine bodyPost_ret (v := (⟨⟨D.toArray⟩, if 1 ≤ 0 then numA R 0 else 0, if 2 ≤ 0 then numA R 1 else 0, ⟨T.toArray⟩⟩ : St).val) (by simp [results, Tryd.results18, go_sem, r0, r1, r2, r3]) rfl ⟨congrArg (fun x : St => Ending.returned x.val) HK.out.symm, by have hb4 := HB4.out; repeat (first | with_reducible exact Below.refl _ _ | with_reducible refine balloc ?_ _ | with_reducible refine bdrew ?_ | with_reducible refine bset' ?_ (by omega) _ | with_reducible refine bthen ?_ (by assumption))⟩
  · go_wp2_with fail
    refine (readNumbers_any w1.heap.size (w3.heap.size + 1) ⟨D.toArray⟩ ⟨#[]⟩ 0 0 R 1 (by omega) w1 _ (HL.out.later HB1.out) C2.out (Nat.le_refl _) (by have := HB3.out.size; omega) (BoxF.rn (HS3.out.later (by repeat (first | with_reducible exact Below.refl _ _ | with_reducible refine balloc ?_ _ | with_reducible refine bdrew ?_ | with_reducible refine bset' ?_ (by omega) _ | with_reducible refine bthen ?_ (by assumption)))) (by simp) (by simp) (bthen HB3.out (by repeat (first | with_reducible exact Below.refl _ _ | with_reducible refine balloc ?_ _ | with_reducible refine bdrew ?_ | with_reducible refine bset' ?_ (by omega) _ | with_reducible refine bthen ?_ (by assumption)))))).mono ?_
    rintro e w4 ⟨rfl, hrn⟩
    obtain ⟨⟨r0, r1, r2, r3, rl⟩, g0, g1, g2, g3⟩ := HF.out.later hrn.bel
    obtain ⟨s0, s1, s2, s3, sl⟩ := hrn.box
    have f3 := hrn.f3
    simp only at r0 r1 r2 r3 s0 s1 s2 s3
    have HB4 := hidT (bthen HB1.out hrn.bel)
    have hne := HB1.out.size
    have hne2 := HF.out.box.2.2.2.2
    clear hrn HB3 HS3 hlk
    obtain ⟨T, hT⟩ : ∃ T, rest2 R 1 = T := ⟨_, rfl⟩
    rw [hT]
    have HT := hidT hT
    clear hT
    by_cases hd : T = [45]
    · have HK : Hid (readK (D, R, fd) 1 = ⟨⟨D.toArray⟩, if 1 ≤ 1 then numA R 0 else 0, if 2 ≤ 1 then numA R 1 else 0, ⟨#[]⟩⟩) := by show _ = _; unfold readK; simp only; rw [HT.out, if_pos hd]
      clear HT
      subst hd
      go_wp2
      refine bodyPost_ret (v := (⟨⟨D.toArray⟩, if 1 ≤ 1 then numA R 0 else 0, if 2 ≤ 1 then numA R 1 else 0, ⟨#[]⟩⟩ : St).val) (by simp [results, Tryd.results18, go_sem, r0, r1, r2, r3]) rfl ⟨congrArg (fun x : St => Ending.returned x.val) HK.out.symm, by have hb4 := HB4.out; repeat (first | with_reducible exact Below.refl _ _ | with_reducible refine balloc ?_ _ | with_reducible refine bdrew ?_ | with_reducible refine bset' ?_ (by omega) _ | with_reducible refine bthen ?_ (by assumption))⟩
    · have HK : Hid (readK (D, R, fd) 1 = ⟨⟨D.toArray⟩, if 1 ≤ 1 then numA R 0 else 0, if 2 ≤ 1 then numA R 1 else 0, ⟨T.toArray⟩⟩) := by show _ = _; unfold readK; simp only; rw [HT.out, if_neg hd]
      have hq : (T == [45]) = false := beq_eq_false_iff_ne.2 hd
      clear HT hd
      go_wp2
      refine bodyPost_ret (v := (⟨⟨D.toArray⟩, if 1 ≤ 1 then numA R 0 else 0, if 2 ≤ 1 then numA R 1 else 0, ⟨T.toArray⟩⟩ : St).val) (by simp [results, Tryd.results18, go_sem, r0, r1, r2, r3]) rfl ⟨congrArg (fun x : St => Ending.returned x.val) HK.out.symm, by have hb4 := HB4.out; repeat (first | with_reducible exact Below.refl _ _ | with_reducible refine balloc ?_ _ | with_reducible refine bdrew ?_ | with_reducible refine bset' ?_ (by omega) _ | with_reducible refine bthen ?_ (by assumption))⟩
  · go_wp2_with fail
    refine (readNumbers_any w1.heap.size (w3.heap.size + 1) ⟨D.toArray⟩ ⟨#[]⟩ 0 0 R 2 (by omega) w1 _ (HL.out.later HB1.out) C2.out (Nat.le_refl _) (by have := HB3.out.size; omega) (BoxF.rn (HS3.out.later (by repeat (first | with_reducible exact Below.refl _ _ | with_reducible refine balloc ?_ _ | with_reducible refine bdrew ?_ | with_reducible refine bset' ?_ (by omega) _ | with_reducible refine bthen ?_ (by assumption)))) (by simp) (by simp) (bthen HB3.out (by repeat (first | with_reducible exact Below.refl _ _ | with_reducible refine balloc ?_ _ | with_reducible refine bdrew ?_ | with_reducible refine bset' ?_ (by omega) _ | with_reducible refine bthen ?_ (by assumption)))))).mono ?_
    rintro e w4 ⟨rfl, hrn⟩
    obtain ⟨⟨r0, r1, r2, r3, rl⟩, g0, g1, g2, g3⟩ := HF.out.later hrn.bel
    obtain ⟨s0, s1, s2, s3, sl⟩ := hrn.box
    have f3 := hrn.f3
    simp only at r0 r1 r2 r3 s0 s1 s2 s3
    have HB4 := hidT (bthen HB1.out hrn.bel)
    have hne := HB1.out.size
    have hne2 := HF.out.box.2.2.2.2
    clear hrn HB3 HS3 hlk
    obtain ⟨T, hT⟩ : ∃ T, rest2 R 2 = T := ⟨_, rfl⟩
    rw [hT]
    have HT := hidT hT
    clear hT
    by_cases hd : T = [45]
    · have HK : Hid (readK (D, R, fd) 2 = ⟨⟨D.toArray⟩, if 1 ≤ 2 then numA R 0 else 0, if 2 ≤ 2 then numA R 1 else 0, ⟨#[]⟩⟩) := by show _ = _; unfold readK; simp only; rw [HT.out, if_pos hd]
      clear HT
      subst hd
      go_wp2
      refine bodyPost_ret (v := (⟨⟨D.toArray⟩, if 1 ≤ 2 then numA R 0 else 0, if 2 ≤ 2 then numA R 1 else 0, ⟨#[]⟩⟩ : St).val) (by simp [results, Tryd.results18, go_sem, r0, r1, r2, r3]) rfl ⟨congrArg (fun x : St => Ending.returned x.val) HK.out.symm, by have hb4 := HB4.out; repeat (first | with_reducible exact Below.refl _ _ | with_reducible refine balloc ?_ _ | with_reducible refine bdrew ?_ | with_reducible refine bset' ?_ (by omega) _ | with_reducible refine bthen ?_ (by assumption))⟩
    · have HK : Hid (readK (D, R, fd) 2 = ⟨⟨D.toArray⟩, if 1 ≤ 2 then numA R 0 else 0, if 2 ≤ 2 then numA R 1 else 0, ⟨T.toArray⟩⟩) := by show _ = _; unfold readK; simp only; rw [HT.out, if_neg hd]
      have hq : (T == [45]) = false := beq_eq_false_iff_ne.2 hd
      clear HT hd
      go_wp2
      refine bodyPost_ret (v := (⟨⟨D.toArray⟩, if 1 ≤ 2 then numA R 0 else 0, if 2 ≤ 2 then numA R 1 else 0, ⟨T.toArray⟩⟩ : St).val) (by simp [results, Tryd.results18, go_sem, r0, r1, r2, r3]) rfl ⟨congrArg (fun x : St => Ending.returned x.val) HK.out.symm, by have hb4 := HB4.out; repeat (first | with_reducible exact Below.refl _ _ | with_reducible refine balloc ?_ _ | with_reducible refine bdrew ?_ | with_reducible refine bset' ?_ (by omega) _ | with_reducible refine bthen ?_ (by assumption))⟩
  · go_wp2_with fail
    refine (readNumbers_any w1.heap.size (w3.heap.size + 1) ⟨D.toArray⟩ ⟨#[]⟩ 0 0 R 2 (by omega) w1 _ (HL.out.later HB1.out) C2.out (Nat.le_refl _) (by have := HB3.out.size; omega) (BoxF.rn (HS3.out.later (by repeat (first | with_reducible exact Below.refl _ _ | with_reducible refine balloc ?_ _ | with_reducible refine bdrew ?_ | with_reducible refine bset' ?_ (by omega) _ | with_reducible refine bthen ?_ (by assumption)))) (by simp) (by simp) (bthen HB3.out (by repeat (first | with_reducible exact Below.refl _ _ | with_reducible refine balloc ?_ _ | with_reducible refine bdrew ?_ | with_reducible refine bset' ?_ (by omega) _ | with_reducible refine bthen ?_ (by assumption)))))).mono ?_
    rintro e w4 ⟨rfl, hrn⟩
    obtain ⟨⟨r0, r1, r2, r3, rl⟩, g0, g1, g2, g3⟩ := HF.out.later hrn.bel
    obtain ⟨s0, s1, s2, s3, sl⟩ := hrn.box
    have f3 := hrn.f3
    simp only at r0 r1 r2 r3 s0 s1 s2 s3
    have HB4 := hidT (bthen HB1.out hrn.bel)
    have hne := HB1.out.size
    have hne2 := HF.out.box.2.2.2.2
    clear hrn HB3 HS3 hlk
    obtain ⟨T, hT⟩ : ∃ T, rest2 R 2 = T := ⟨_, rfl⟩
    rw [hT]
    have HT := hidT hT
    clear hT
    by_cases hd : T = [45]
    · have HK : Hid (readK (D, R, fd) 2 = ⟨⟨D.toArray⟩, if 1 ≤ 2 then numA R 0 else 0, if 2 ≤ 2 then numA R 1 else 0, ⟨#[]⟩⟩) := by show _ = _; unfold readK; simp only; rw [HT.out, if_pos hd]
      clear HT
      subst hd
      go_wp2
      refine bodyPost_ret (v := (⟨⟨D.toArray⟩, if 1 ≤ 2 then numA R 0 else 0, if 2 ≤ 2 then numA R 1 else 0, ⟨#[]⟩⟩ : St).val) (by simp [results, Tryd.results18, go_sem, r0, r1, r2, r3]) rfl ⟨congrArg (fun x : St => Ending.returned x.val) HK.out.symm, by have hb4 := HB4.out; repeat (first | with_reducible exact Below.refl _ _ | with_reducible refine balloc ?_ _ | with_reducible refine bdrew ?_ | with_reducible refine bset' ?_ (by omega) _ | with_reducible refine bthen ?_ (by assumption))⟩
    · have HK : Hid (readK (D, R, fd) 2 = ⟨⟨D.toArray⟩, if 1 ≤ 2 then numA R 0 else 0, if 2 ≤ 2 then numA R 1 else 0, ⟨T.toArray⟩⟩) := by show _ = _; unfold readK; simp only; rw [HT.out, if_neg hd]
      have hq : (T == [45]) = false := beq_eq_false_iff_ne.2 hd
      clear HT hd
      go_wp2
      refine bodyPost_ret (v := (⟨⟨D.toArray⟩, if 1 ≤ 2 then numA R 0 else 0, if 2 ≤ 2 then numA R 1 else 0, ⟨T.toArray⟩⟩ : St).val) (by simp [results, Tryd.results18, go_sem, r0, r1, r2, r3]) rfl ⟨congrArg (fun x : St => Ending.returned x.val) HK.out.symm, by have hb4 := HB4.out; repeat (first | with_reducible exact Below.refl _ _ | with_reducible refine balloc ?_ _ | with_reducible refine bdrew ?_ | with_reducible refine bset' ?_ (by omega) _ | with_reducible refine bthen ?_ (by assumption))⟩
end Go.Proofs.YtlhgjplipgandaaDoor
