/- A step of a script: its text. -/
import Derived.Test.YtlhgjplipgandaaDoorScript7
namespace Go.Proofs.YtlhgjplipgandaaDoor
open Go.RowKit Go.BigFrame Go.Maps
attribute [local go_sem] Later.cell Later.frozen

theorem bytes_list (s : ByteArray) : ∃ l : List UInt8, s = ⟨l.toArray⟩ := ⟨s.data.toList, by simp⟩
theorem size_list (l : List UInt8) : (⟨l.toArray⟩ : ByteArray).size = l.length := by simp [ByteArray.size]
theorem is_if {α : Type} {c : Prop} [Decidable c] {x y : Option α} (h : (if c then x else y).isSome = true) : c ∨ y.isSome = true := by
  split at h
  · left; assumption
  · right; exact h
theorem word_size (s : ByteArray) (h : (wordF s).isSome = true) : s.size ≤ 8 := by
  unfold wordF at h
  iterate 15
    (rcases is_if h with h1 | h1
     · subst h1; decide
     have h := h1
     clear h1)
  cases h
/-- What a step's data add to its text. -/
def tailT (d : List UInt8) : Bool → List UInt8
  | false => []
  | true => 32 :: (if d.isEmpty then [45] else d)
def St.text (x : St) : List UInt8 := x.word.data.toList ++ numT x.a x.b (partsOf x.word).1.toNat ++ tailT x.data.data.toList (partsOf x.word).2
def textA (x : St) : ByteArray := if stepFault x = 0 then ⟨x.text.toArray⟩ else ⟨#[]⟩
theorem bound_in {n : Int} (h : boundB n = false) : 0 ≤ n ∧ n ≤ 999 := by
  unfold boundB at h
  simp only [Bool.or_eq_false_iff, decide_eq_false_iff_not] at h
  omega
theorem fault0 {x : St} (h : stepFault x = 0) : (wordF x.word).isSome = true ∧ fitB (partsOf x.word).1 (partsOf x.word).2 x = true ∧ (0 ≤ x.a ∧ x.a ≤ 999) ∧ (0 ≤ x.b ∧ x.b ≤ 999) ∧ x.data.size ≤ 9 ∧ breaks x.data = false ∧ ¬ x.data = dashB := by
  unfold stepFault at h
  split at h
  · omega
  rename_i h1
  split at h
  · omega
  rename_i h2
  split at h
  · omega
  rename_i h3
  split at h
  · omega
  rename_i h4
  split at h
  · omega
  rename_i h5
  split at h
  · omega
  rename_i h6
  have h3' := Bool.or_eq_false_iff.1 (Bool.eq_false_iff.2 h3)
  exact ⟨Bool.not_eq_false _ ▸ h1, Bool.not_eq_false _ ▸ h2, bound_in h3'.1, bound_in h3'.2, by omega, by simpa using h5, h6⟩
theorem fault_cases (x : St) : stepFault x = 0 ∨ stepFault x = 1 ∨ stepFault x = 3 := by
  unfold stepFault
  repeat' split
  all_goals simp
theorem text_no (x : St) (w : World) (hx : StIn x) (h0 : ¬ stepFault x = 0) : Calls Tryd.prog 6 #[x.val] w fun e w' => e = .returned (.tuple #[.string ⟨#[]⟩, errOf (stepFault x)]) ∧ Below w.heap.size w w' := by
  have HCK := fun W => check_any x W hx
  obtain ⟨er, her⟩ : ∃ er, stepFault x = er := ⟨_, rfl⟩
  rw [her] at HCK h0 ⊢
  rw [show errOf er = .iface 52 (.int .i64 er) by rw [errOf, if_neg h0]] at HCK ⊢
  clear her hx
  obtain ⟨wd, xa, xb, dt⟩ := x
  go_enter Tryd.func6, Tryd.ntmps6
  go_wp2_with fail
  refine (HCK _).mono ?_
  rintro e w1 ⟨rfl, hb1⟩
  clear HCK
  go_wp2
  go_ret2
  exact ⟨rfl, by repeat (first | with_reducible exact Below.refl _ _ | with_reducible refine balloc ?_ _ | with_reducible refine bdrew ?_ | with_reducible refine bset' ?_ (by omega) _ | with_reducible refine bthen ?_ (by assumption))⟩
theorem retT {a b : List UInt8} (h : a = b) : Ending.returned (.tuple #[.string ⟨a.toArray⟩, .nilIface]) = Ending.returned (.tuple #[.string ⟨b.toArray⟩, .nilIface]) := by rw [h]
set_option maxRecDepth 100000 in
set_option maxHeartbeats 4000000 in
theorem text_yes (W L : List UInt8) (xa xb : Int) (w : World) (hx : StIn ⟨⟨W.toArray⟩, xa, xb, ⟨L.toArray⟩⟩) (hl : LibW w) (h0 : stepFault ⟨⟨W.toArray⟩, xa, xb, ⟨L.toArray⟩⟩ = 0) : Calls Tryd.prog 6 #[(⟨⟨W.toArray⟩, xa, xb, ⟨L.toArray⟩⟩ : St).val] w fun e w' => e = .returned (.tuple #[.string ⟨(⟨⟨W.toArray⟩, xa, xb, ⟨L.toArray⟩⟩ : St).text.toArray⟩, .nilIface]) ∧ Below w.heap.size w w' := by
  have HCK := fun w0 => check_any ⟨⟨W.toArray⟩, xa, xb, ⟨L.toArray⟩⟩ w0 hx
  rw [h0, show errOf 0 = .nilIface from rfl] at HCK
  obtain ⟨f1, f2, f3, f4, f5, f6, f7⟩ := fault0 h0
  have lW := word_size _ f1
  obtain ⟨n, b, hpn, hnb⟩ := partsOf_cases ⟨W.toArray⟩
  simp only at f1 f2 f3 f4 f5 f6 f7 lW
  rw [size_list] at f5 lW
  have htx : (⟨⟨W.toArray⟩, xa, xb, ⟨L.toArray⟩⟩ : St).text = W ++ numT xa xb n.toNat ++ tailT L b := by
    unfold St.text; simp only; rw [hpn]
  rw [htx]
  have hlN := numT_len xa xb n.toNat f3 f4
  have HWS := hidT hx.word
  have HPN := hidT hpn
  have HF1 := hidT f1
  have HL := hidT hl
  have HA := hidT f3
  have HB := hidT f4
  have HLD := hidT f5
  have HLW := hidT lW
  have HLN := hidT hlN
  clear hpn f1 f2 f3 f4 f5 f6 f7 lW htx h0 hx hl hlN
  go_enter Tryd.func6, Tryd.ntmps6
  go_wp2_with fail
  refine (HCK _).mono ?_
  rintro e w1 ⟨rfl, hb1⟩
  clear HCK
  go_wp2_with fail
  refine wp_worldS (fun wz => BoxSt w.heap.size ⟨⟨W.toArray⟩, xa, xb, ⟨L.toArray⟩⟩ wz ∧ Below w.heap.size w wz) ⟨BoxSt.later (w := w.alloc (.cells #[.string ⟨W.toArray⟩, .int .i64 xa, .int .i64 xb, .string ⟨L.toArray⟩] 23)) ⟨by simp, by simp, by simp, by simp, by simp⟩ (by repeat (first | with_reducible exact Below.refl _ _ | with_reducible refine balloc ?_ _ | with_reducible refine bdrew ?_ | with_reducible refine bset' ?_ (by omega) _ | with_reducible refine bthen ?_ (by assumption))), by repeat (first | with_reducible exact Below.refl _ _ | with_reducible refine balloc ?_ _ | with_reducible refine bdrew ?_ | with_reducible refine bset' ?_ (by omega) _ | with_reducible refine bthen ?_ (by assumption))⟩ ?_
  rintro w0 ⟨hbx, hb0⟩
  have HBX := hidT hbx
  have HB0 := hidT hb0
  clear hb0 hb1 hbx w1
  obtain ⟨b0, b1, b2, b3, lb⟩ := id HBX.out
  simp only at b0 b1 b2 b3
  go_cut [5] (fun s5 wx => ∃ q, s5 = .pointer (some ⟨q, 0, none⟩) ∧ PartAt q n b wx ∧ Below w0.heap.size w0 wx)
  case first =>
    clear b1 b2 b3
    go_region_held3 (fun w' => w'.cell? ⟨w.heap.size, 0, none⟩ = some (.string ⟨W.toArray⟩)) (exact cellB_later' (w := w0) (by repeat (first | with_reducible exact Below.refl _ _ | with_reducible refine balloc ?_ _ | with_reducible refine bdrew ?_ | with_reducible refine bset' ?_ (by omega) _ | with_reducible refine bthen ?_ (by assumption))) b0) (first | (go_at_call 14; refine (words_b _).mono ?_; rintro e w1 ⟨mb, rfl, hws⟩; have hb1 := hws.bel; have hlk := (look_wb hws (Below.refl _ _) ⟨W.toArray⟩ HWS.out n b HPN.out true HF1.out).2; have hlk2 := (look_wb hws (below1 w1 (.cells #[.int .i64 0, .bool false] 43)) ⟨W.toArray⟩ HWS.out n b HPN.out true HF1.out).2; have z1 := hb1.size; (try (obtain ⟨k0, k1, k2, k3⟩ : w1.cell? ⟨w0.heap.size, 0, none⟩ = some (.int .i64 0) ∧ w1.cell? ⟨w0.heap.size, 1, none⟩ = some (.bool false) ∧ w1.frozen? ⟨w0.heap.size, 0, none⟩ = false ∧ w1.frozen? ⟨w0.heap.size, 1, none⟩ = false; (focus ((refine ⟨(hb1.cell (p := ⟨w0.heap.size, 0, none⟩) ?_).trans ?_, (hb1.cell (p := ⟨w0.heap.size, 1, none⟩) ?_).trans ?_, (hb1.frozen (p := ⟨w0.heap.size, 0, none⟩) ?_).trans ?_, (hb1.frozen (p := ⟨w0.heap.size, 1, none⟩) ?_).trans ?_⟩); (all_goals (first | (simp; done) | omega))))))))
    all_goals
      go_wp2
      go_meet
      case rel => exact ⟨_, rfl, (by first | exact part_new _ _ _ _ | exact part_set k0 k1 (by simp at z1; omega)), by repeat (first | with_reducible exact Below.refl _ _ | with_reducible refine balloc ?_ _ | with_reducible refine bdrew ?_ | with_reducible refine bset' ?_ (by omega) _ | with_reducible refine bthen ?_ (by assumption))⟩
  case rest =>
    obtain ⟨q, rfl, hp, hbx⟩ := hcut
    have HBX2 := hidT (HBX.out.later hbx)
    have HBB := hidT (bthen HB0.out hbx)
    have HP := hidT hp
    clear hp hbx b0 b1 b2 b3 lb HBX HB0
    have HBX := HBX2
    clear HBX2
    obtain ⟨b0, b1, b2, b3, lb⟩ := id HBX.out
    obtain ⟨p0, p1, lp⟩ := id HP.out
    simp only at b0 b1 b2 b3
    rcases hnb with ⟨rfl, rfl⟩ | ⟨rfl, rfl⟩ | ⟨rfl, rfl⟩ | ⟨rfl, rfl⟩
    · go_wp2_with fail; go_cut [6] (fun s6 wy => s6 = .string ⟨(W ++ numT xa xb 0).toArray⟩ ∧ Below wc.heap.size wc wy); (case first => (go_region_held3 (fun w' => w'.cell? ⟨w.heap.size, 0, none⟩ = some (.string ⟨W.toArray⟩) ∧ w'.cell? ⟨w.heap.size, 1, none⟩ = some (.int .i64 xa) ∧ w'.cell? ⟨w.heap.size, 2, none⟩ = some (.int .i64 xb) ∧ w'.cell? ⟨q, 0, none⟩ = some (.int .i64 0)) (exact ⟨cellB_later' (w := wc) (by repeat (first | with_reducible exact Below.refl _ _ | with_reducible refine balloc ?_ _ | with_reducible refine bdrew ?_ | with_reducible refine bset' ?_ (by omega) _ | with_reducible refine bthen ?_ (by assumption))) b0, cellB_later' (w := wc) (by repeat (first | with_reducible exact Below.refl _ _ | with_reducible refine balloc ?_ _ | with_reducible refine bdrew ?_ | with_reducible refine bset' ?_ (by omega) _ | with_reducible refine bthen ?_ (by assumption))) b1, cellB_later' (w := wc) (by repeat (first | with_reducible exact Below.refl _ _ | with_reducible refine balloc ?_ _ | with_reducible refine bdrew ?_ | with_reducible refine bset' ?_ (by omega) _ | with_reducible refine bthen ?_ (by assumption))) b2, cellB_later' (w := wc) (by repeat (first | with_reducible exact Below.refl _ _ | with_reducible refine balloc ?_ _ | with_reducible refine bdrew ?_ | with_reducible refine bset' ?_ (by omega) _ | with_reducible refine bthen ?_ (by assumption))) p0⟩) (first | (go_at_call 15; refine (withNumbers_any W _ xa xb 0 (by omega) _ (HL.out.later (bthen HBB.out (by repeat (first | with_reducible exact Below.refl _ _ | with_reducible refine balloc ?_ _ | with_reducible refine bdrew ?_ | with_reducible refine bset' ?_ (by omega) _ | with_reducible refine bthen ?_ (by assumption))))) (by have := HLW.out; omega) (by simp) (by simp) HA.out HB.out).mono ?_; rintro e w2 ⟨rfl, hb2⟩))); (all_goals ((go_wp2); (go_meet); (case rel => exact ⟨rfl, by repeat (first | with_reducible exact Below.refl _ _ | with_reducible refine balloc ?_ _ | with_reducible refine bdrew ?_ | with_reducible refine bset' ?_ (by omega) _ | with_reducible refine bthen ?_ (by assumption))⟩))))
      case rest =>
        obtain ⟨rfl, hby⟩ := hcut
        have p1' := cellB_later' hby p1
        have HBY := hidT (bthen HBB.out hby)
        clear b0 b1 b2 b3 p0 p1 hby
        go_wp2
        go_ret2
        exact ⟨retT (by simp [tailT]), HBY.out⟩
    · go_wp2_with fail; go_cut [6] (fun s6 wy => s6 = .string ⟨(W ++ numT xa xb 1).toArray⟩ ∧ Below wc.heap.size wc wy); (case first => (go_region_held3 (fun w' => w'.cell? ⟨w.heap.size, 0, none⟩ = some (.string ⟨W.toArray⟩) ∧ w'.cell? ⟨w.heap.size, 1, none⟩ = some (.int .i64 xa) ∧ w'.cell? ⟨w.heap.size, 2, none⟩ = some (.int .i64 xb) ∧ w'.cell? ⟨q, 0, none⟩ = some (.int .i64 1)) (exact ⟨cellB_later' (w := wc) (by repeat (first | with_reducible exact Below.refl _ _ | with_reducible refine balloc ?_ _ | with_reducible refine bdrew ?_ | with_reducible refine bset' ?_ (by omega) _ | with_reducible refine bthen ?_ (by assumption))) b0, cellB_later' (w := wc) (by repeat (first | with_reducible exact Below.refl _ _ | with_reducible refine balloc ?_ _ | with_reducible refine bdrew ?_ | with_reducible refine bset' ?_ (by omega) _ | with_reducible refine bthen ?_ (by assumption))) b1, cellB_later' (w := wc) (by repeat (first | with_reducible exact Below.refl _ _ | with_reducible refine balloc ?_ _ | with_reducible refine bdrew ?_ | with_reducible refine bset' ?_ (by omega) _ | with_reducible refine bthen ?_ (by assumption))) b2, cellB_later' (w := wc) (by repeat (first | with_reducible exact Below.refl _ _ | with_reducible refine balloc ?_ _ | with_reducible refine bdrew ?_ | with_reducible refine bset' ?_ (by omega) _ | with_reducible refine bthen ?_ (by assumption))) p0⟩) (first | (go_at_call 15; refine (withNumbers_any W _ xa xb 1 (by omega) _ (HL.out.later (bthen HBB.out (by repeat (first | with_reducible exact Below.refl _ _ | with_reducible refine balloc ?_ _ | with_reducible refine bdrew ?_ | with_reducible refine bset' ?_ (by omega) _ | with_reducible refine bthen ?_ (by assumption))))) (by have := HLW.out; omega) (by simp) (by simp) HA.out HB.out).mono ?_; rintro e w2 ⟨rfl, hb2⟩))); (all_goals ((go_wp2); (go_meet); (case rel => exact ⟨rfl, by repeat (first | with_reducible exact Below.refl _ _ | with_reducible refine balloc ?_ _ | with_reducible refine bdrew ?_ | with_reducible refine bset' ?_ (by omega) _ | with_reducible refine bthen ?_ (by assumption))⟩))))
      case rest =>
        obtain ⟨rfl, hby⟩ := hcut
        have p1' := cellB_later' hby p1
        have HBY := hidT (bthen HBB.out hby)
        clear b0 b1 b2 b3 p0 p1 hby
        go_wp2
        go_ret2
        exact ⟨retT (by simp [tailT]), HBY.out⟩
    · go_wp2_with fail; go_cut [6] (fun s6 wy => s6 = .string ⟨(W ++ numT xa xb 2).toArray⟩ ∧ Below wc.heap.size wc wy); (case first => (go_region_held3 (fun w' => w'.cell? ⟨w.heap.size, 0, none⟩ = some (.string ⟨W.toArray⟩) ∧ w'.cell? ⟨w.heap.size, 1, none⟩ = some (.int .i64 xa) ∧ w'.cell? ⟨w.heap.size, 2, none⟩ = some (.int .i64 xb) ∧ w'.cell? ⟨q, 0, none⟩ = some (.int .i64 2)) (exact ⟨cellB_later' (w := wc) (by repeat (first | with_reducible exact Below.refl _ _ | with_reducible refine balloc ?_ _ | with_reducible refine bdrew ?_ | with_reducible refine bset' ?_ (by omega) _ | with_reducible refine bthen ?_ (by assumption))) b0, cellB_later' (w := wc) (by repeat (first | with_reducible exact Below.refl _ _ | with_reducible refine balloc ?_ _ | with_reducible refine bdrew ?_ | with_reducible refine bset' ?_ (by omega) _ | with_reducible refine bthen ?_ (by assumption))) b1, cellB_later' (w := wc) (by repeat (first | with_reducible exact Below.refl _ _ | with_reducible refine balloc ?_ _ | with_reducible refine bdrew ?_ | with_reducible refine bset' ?_ (by omega) _ | with_reducible refine bthen ?_ (by assumption))) b2, cellB_later' (w := wc) (by repeat (first | with_reducible exact Below.refl _ _ | with_reducible refine balloc ?_ _ | with_reducible refine bdrew ?_ | with_reducible refine bset' ?_ (by omega) _ | with_reducible refine bthen ?_ (by assumption))) p0⟩) (first | (go_at_call 15; refine (withNumbers_any W _ xa xb 2 (by omega) _ (HL.out.later (bthen HBB.out (by repeat (first | with_reducible exact Below.refl _ _ | with_reducible refine balloc ?_ _ | with_reducible refine bdrew ?_ | with_reducible refine bset' ?_ (by omega) _ | with_reducible refine bthen ?_ (by assumption))))) (by have := HLW.out; omega) (by simp) (by simp) HA.out HB.out).mono ?_; rintro e w2 ⟨rfl, hb2⟩))); (all_goals ((go_wp2); (go_meet); (case rel => exact ⟨rfl, by repeat (first | with_reducible exact Below.refl _ _ | with_reducible refine balloc ?_ _ | with_reducible refine bdrew ?_ | with_reducible refine bset' ?_ (by omega) _ | with_reducible refine bthen ?_ (by assumption))⟩))))
      case rest =>
        obtain ⟨rfl, hby⟩ := hcut
        have p1' := cellB_later' hby p1
        have b3' := cellB_later' hby b3
        have HBY := hidT (bthen HBB.out hby)
        have lT : (W ++ numT xa xb 2).length ≤ 16 := by have h1 := HLN.out; have h2 := HLW.out; rw [List.length_append]; simp only [show Int.toNat 2 = 2 from rfl] at h1; omega
        obtain ⟨T, hT⟩ : ∃ T, W ++ numT xa xb 2 = T := ⟨_, rfl⟩
        rw [hT] at lT ⊢
        have HT := hidT hT
        clear hT
        have s1 := strS T [32] (by simp; omega)
        have s2 := strS (T ++ [32]) [45] (by simp; omega)
        have s3 := strS (T ++ [32]) L (by have := HLD.out; simp; omega)
        clear b0 b1 b2 b3 p0 p1 hby lT
        cases L with
        | nil =>
          go_wp2
          go_ret2
          exact ⟨retT (by rw [← HT.out]; simp [tailT]), HBY.out⟩
        | cons c L =>
          have hq : ((⟨(c :: L).toArray⟩ : ByteArray).toList == []) = false := by rw [Lib.toList_data]; rfl
          have hq2 : (⟨(c :: L).toArray⟩ : ByteArray).toList.isEmpty = false := by rw [Lib.toList_data]; rfl
          go_wp2
          go_ret2
          exact ⟨retT (by rw [← HT.out]; simp [tailT]), HBY.out⟩
    · go_wp2_with fail; go_cut [6] (fun s6 wy => s6 = .string ⟨(W ++ numT xa xb 2).toArray⟩ ∧ Below wc.heap.size wc wy); (case first => (go_region_held3 (fun w' => w'.cell? ⟨w.heap.size, 0, none⟩ = some (.string ⟨W.toArray⟩) ∧ w'.cell? ⟨w.heap.size, 1, none⟩ = some (.int .i64 xa) ∧ w'.cell? ⟨w.heap.size, 2, none⟩ = some (.int .i64 xb) ∧ w'.cell? ⟨q, 0, none⟩ = some (.int .i64 2)) (exact ⟨cellB_later' (w := wc) (by repeat (first | with_reducible exact Below.refl _ _ | with_reducible refine balloc ?_ _ | with_reducible refine bdrew ?_ | with_reducible refine bset' ?_ (by omega) _ | with_reducible refine bthen ?_ (by assumption))) b0, cellB_later' (w := wc) (by repeat (first | with_reducible exact Below.refl _ _ | with_reducible refine balloc ?_ _ | with_reducible refine bdrew ?_ | with_reducible refine bset' ?_ (by omega) _ | with_reducible refine bthen ?_ (by assumption))) b1, cellB_later' (w := wc) (by repeat (first | with_reducible exact Below.refl _ _ | with_reducible refine balloc ?_ _ | with_reducible refine bdrew ?_ | with_reducible refine bset' ?_ (by omega) _ | with_reducible refine bthen ?_ (by assumption))) b2, cellB_later' (w := wc) (by repeat (first | with_reducible exact Below.refl _ _ | with_reducible refine balloc ?_ _ | with_reducible refine bdrew ?_ | with_reducible refine bset' ?_ (by omega) _ | with_reducible refine bthen ?_ (by assumption))) p0⟩) (first | (go_at_call 15; refine (withNumbers_any W _ xa xb 2 (by omega) _ (HL.out.later (bthen HBB.out (by repeat (first | with_reducible exact Below.refl _ _ | with_reducible refine balloc ?_ _ | with_reducible refine bdrew ?_ | with_reducible refine bset' ?_ (by omega) _ | with_reducible refine bthen ?_ (by assumption))))) (by have := HLW.out; omega) (by simp) (by simp) HA.out HB.out).mono ?_; rintro e w2 ⟨rfl, hb2⟩))); (all_goals ((go_wp2); (go_meet); (case rel => exact ⟨rfl, by repeat (first | with_reducible exact Below.refl _ _ | with_reducible refine balloc ?_ _ | with_reducible refine bdrew ?_ | with_reducible refine bset' ?_ (by omega) _ | with_reducible refine bthen ?_ (by assumption))⟩))))
      case rest =>
        obtain ⟨rfl, hby⟩ := hcut
        have p1' := cellB_later' hby p1
        have HBY := hidT (bthen HBB.out hby)
        clear b0 b1 b2 b3 p0 p1 hby
        go_wp2
        go_ret2
        exact ⟨retT (by simp [tailT]), HBY.out⟩
end Go.Proofs.YtlhgjplipgandaaDoor
