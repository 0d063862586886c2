/- A text that is parsed. -/
import Derived.Test.YtlhgjplipgandaaDoorScript10
namespace Go.Proofs.YtlhgjplipgandaaDoor
open Go.RowKit Go.BigFrame Go.Maps
attribute [local go_sem] Later.cell Later.frozen

theorem atoiAll_in {l : List UInt8} {v : Int} (h : Lib.atoiAll l = .ok v) : In64 v := by
  unfold Lib.atoiAll at h
  cases l with
  | nil => cases h
  | cons c r =>
    simp only at h
    split at h
    · cases h
    · cases h
    · rename_i u hu
      split at h
      · cases h
      rename_i h1
      split at h
      · cases h
      rename_i h2
      cases h
      constructor <;> (split <;> omega)
theorem atoiV_in (l : List UInt8) : In64 (atoiV l) := by
  unfold atoiV
  split
  · rename_i v h
    exact atoiAll_in h
  · constructor <;> omega
  · unfold Lib.atoiSat
    constructor <;> (split <;> omega)
theorem readF_in (l : List UInt8) (hlen : l.length ≤ 1000) : StIn (readF l) := by
  unfold readF readK
  have c1 := Nat.le_trans (cut_len1 l) hlen
  have c2 := Nat.le_trans (Nat.le_trans (rest2_len (Lib.cut l [32]).2.1 (partsOf ⟨(Lib.cut l [32]).1.toArray⟩).1.toNat) (cut_len2 l)) hlen
  have z : In64 0 := by constructor <;> omega
  refine ⟨?_, ?_, ?_, ?_⟩
  · simp only; split
    · exact atoiV_in _
    · exact z
  · simp only; split
    · exact atoiV_in _
    · exact z
  · simp only [size_list]; omega
  · simp only
    split
    · simp [ByteArray.size]
    · rw [size_list]; omega
def parseOk (l : List UInt8) : Bool := decide (stepFault (readF l) = 0) && decide (textA (readF l) = ⟨l.toArray⟩)
def noStep : St := ⟨⟨#[]⟩, 0, 0, ⟨#[]⟩⟩
set_option maxRecDepth 100000 in
set_option maxHeartbeats 4000000 in
theorem parse_any (l : List UInt8) (hlen : l.length ≤ 1000) (w : World) (hl : LibW w) (ok : Bool) (hok : parseOk l = ok) : Calls Tryd.prog 8 #[.string ⟨l.toArray⟩] w fun e w' => e = .returned (.tuple #[(if ok = true then readF l else noStep).val, if ok = true then .nilIface else .iface 52 (.int .i64 4)]) ∧ Below w.heap.size w w' := by
  have HRD := read_any l hlen
  have hin := readF_in l hlen
  unfold parseOk at hok
  generalize readF l = x at *
  have HTX := fun W => text_any x W hin
  obtain ⟨tl, htl⟩ := bytes_list (textA x)
  rw [htl] at HTX hok
  obtain ⟨wd, xa, xb, dt⟩ := x
  have HL := hidT hl
  have HOK := hidT hok
  clear hl hok hin htl hlen
  go_enter Tryd.func8, Tryd.ntmps8
  go_wp2_with fail
  refine (HRD _ (HL.out.later (below1 _ _))).mono ?_
  rintro e w1 ⟨rfl, hb1⟩
  have HF := hidT ((boxF_new w noStep 23).later hb1)
  have HB1 := hidT (bthen (below1 _ _) hb1)
  clear hb1 HRD
  go_wp2_with fail
  refine (HTX _ (HL.out.later (bthen HB1.out (below1 _ _)))).mono ?_
  rintro e w2 ⟨rfl, hb2⟩
  have HX := hidT ((boxF_new w1 ⟨wd, xa, xb, dt⟩ 23).later hb2)
  have HF2 := hidT (HF.out.later (bthen (below1 _ _) hb2))
  have HB2 := hidT (bthen HB1.out (bthen (below1 _ _) hb2))
  have hne := HB1.out.size
  have hne2 := HF.out.box.2.2.2.2
  clear hb2 HTX HF HB1
  obtain ⟨⟨r0, r1, r2, r3, rl⟩, g0, g1, g2, g3⟩ := HF2.out
  obtain ⟨s0, s1, s2, s3, sl⟩ := HX.out.box
  simp only [noStep] at r0 r1 r2 r3 s0 s1 s2 s3
  by_cases h0 : stepFault ⟨wd, xa, xb, dt⟩ = 0
  · rw [h0, show errOf 0 = .nilIface from rfl]
    by_cases ht : tl = l
    · have hk : ok = true := by rw [← HOK.out]; simp [h0, ht]
      subst hk
      subst ht
      clear HOK h0
      go_wp2
      refine bodyPost_ret (v := .tuple #[(⟨wd, xa, xb, dt⟩ : St).val, .nilIface]) (by simp [results, Tryd.results8, go_sem, r0, r1, r2, r3]) rfl ⟨rfl, by have hb2 := HB2.out; repeat (first | with_reducible exact Below.refl _ _ | with_reducible refine balloc ?_ _ | with_reducible refine bdrew ?_ | with_reducible refine bset' ?_ (by omega) _ | with_reducible refine bthen ?_ (by assumption))⟩
    · have hk : ok = false := by rw [← HOK.out]; simp [ht]
      have hq : (tl == l) = false := beq_eq_false_iff_ne.2 ht
      subst hk
      clear HOK h0 ht
      go_wp2
      refine bodyPost_ret (v := .tuple #[noStep.val, .iface 52 (.int .i64 4)]) (by simp [results, Tryd.results8, go_sem, r0, r1, r2, r3, noStep]) rfl ⟨rfl, by have hb2 := HB2.out; repeat (first | with_reducible exact Below.refl _ _ | with_reducible refine balloc ?_ _ | with_reducible refine bdrew ?_ | with_reducible refine bset' ?_ (by omega) _ | with_reducible refine bthen ?_ (by assumption))⟩
  · have hk : ok = false := by rw [← HOK.out]; simp [h0]
    rw [show errOf (stepFault ⟨wd, xa, xb, dt⟩) = .iface 52 (.int .i64 (stepFault ⟨wd, xa, xb, dt⟩)) by rw [errOf, if_neg h0]]
    generalize stepFault ⟨wd, xa, xb, dt⟩ = er at *
    subst hk
    clear HOK h0
    go_wp2
    refine bodyPost_ret (v := .tuple #[noStep.val, .iface 52 (.int .i64 4)]) (by simp [results, Tryd.results8, go_sem, r0, r1, r2, r3, noStep]) rfl ⟨rfl, by have hb2 := HB2.out; repeat (first | with_reducible exact Below.refl _ _ | with_reducible refine balloc ?_ _ | with_reducible refine bdrew ?_ | with_reducible refine bset' ?_ (by omega) _ | with_reducible refine bthen ?_ (by assumption))⟩
end Go.Proofs.YtlhgjplipgandaaDoor
