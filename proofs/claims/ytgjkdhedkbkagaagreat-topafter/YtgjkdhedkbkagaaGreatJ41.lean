/- Who asks alone: a write that was answered well. -/
import Derived.Test.YtgjkdhedkbkagaaGreatJ40
namespace Go.Proofs.YtgjkdhedkbkagaaGreat
open Go.RowKit Go.BigFrame Go.Maps
set_option maxRecDepth 100000
attribute [local go_sem] Later.cell Later.frozen

theorem ownA_laterW {w w' : World} {B e size n : Nat} {v : Value} {xs : List Value} (h : w.ownsRow B e size v n xs) (hb : Below w.heap.size w w') : w'.ownsRow B e size v n xs := by
  refine ⟨h.1, ?_⟩
  rcases h.2 with h' | ⟨g, cap, cur, rfl, hg, hh, hnc, hcm, hcs, ht⟩
  · exact Or.inl h'
  · exact Or.inr ⟨g, cap, cur, rfl, hg, by rw [hb.block g (lt_of_heap hh)]; exact hh, hnc, hcm, hcs, ht⟩
def AtW (g pl : Nat) (D : ByteArray) (v : Value) (w' : World) : Prop := w'.cell? ⟨g, 67, none⟩ = some (.int .i64 pl) ∧ w'.cell? ⟨g, 68, none⟩ = some (.string D) ∧ w'.cell? ⟨g, 34 + pl, none⟩ = some v ∧ w'.frozen? ⟨g, 34 + pl, none⟩ = false ∧ g < w'.heap.size
theorem AtW.later {g pl : Nat} {D : ByteArray} {v : Value} {w w' : World} (h : AtW g pl D v w) (hb : Below w.heap.size w w') : AtW g pl D v w' := by
  obtain ⟨h1, h2, h3, h4, h5⟩ := h
  exact ⟨cellB_later' hb h1, cellB_later' hb h2, cellB_later' hb h3, (hb.frozen (p := ⟨g, 34 + pl, none⟩) h5).trans h4, Nat.lt_of_lt_of_le h5 hb.size⟩
theorem any_worldA {F : World → Prop} {w : World} (R : World → Prop) (h : R w) (k : ∀ w', R w' → F w') : F w := k w h
theorem strs_in {w : World} {a : Option Addr} {l : List ByteArray} (h : StrsAt w a l) (hne : l ≠ []) {ad : Addr} (ha : a = some ad) : ad.block < w.heap.size := by
  rcases h with h | ⟨b, o, hb, hc⟩
  · exact absurd h hne
  · rw [ha] at hb; cases hb
    exact lt_of_cell (hc 0 (List.length_pos_iff.2 hne))
theorem row_new {w : World} {n : Nat} {da : Option Addr} {l : List ByteArray} (hne : l ≠ []) (hds : StrsAt w da l) (hdb : ∀ b o, da = some ⟨b, o, none⟩ → n ≤ b) {ad : Addr} (ha : da = some ad) : n ≤ ad.block ∧ ad.block < w.heap.size := by
  refine ⟨?_, strs_in hds hne ha⟩
  rcases hds with h | ⟨b, o, hb, -⟩
  · exact absurd h hne
  · rw [ha] at hb; cases hb; exact hdb _ _ ha
section
variable (W w : World) (g s b : Nat) (q : Sk) (m : Am) (N : Nat)
set_option linter.unusedSimpArgs false in
set_option maxRecDepth 100000 in
set_option maxHeartbeats 4000000 in
theorem answered_wrote (h : AlW W g s b q m N w) (hN : N ≤ 1000000) (hk : m.kind = 2) (hw : q.waits 0 = false) (hpl : 0 ≤ m.pl ∧ m.pl ≤ 31) (he : (q.client 0).err = 0) : Calls Tryz.prog 46 #[.pointer (some ⟨g, 0, none⟩)] w fun e w' => e = .returned (.bool true) ∧ AlW W g s b q { m with kind := 0, now := m.now.set m.pl.toNat m.data, since := m.since.set m.pl.toNat (m.since.getD m.pl.toNat [] ++ [m.data]) } (N + 1) w' := by
  have HA := hidT h
  have HW := hidT hw
  obtain ⟨pl, hp⟩ : ∃ pl : Nat, m.pl = pl := ⟨m.pl.toNat, by omega⟩
  have hp32 : pl < 32 := by omega
  have hp32' : (pl : Int) < 32 := by omega
  have hpn : m.pl.toNat = pl := by omega
  rw [hpn]
  obtain ⟨p, A, R, h⟩ := h
  have c66 := h.al.c66
  rw [hk] at c66
  have f66 := h.al.fz 66
  have c0 := h.al.c0
  have hl := h.al.lt
  have HK := hidT (h.kind 0)
  have HE := hidT he
  have HP := hidT hp
  clear h hw hk he hpl hp hpn
  go_enter Tryz.func46, Tryz.ntmps46
  go_wp2_with fail
  refine (al_waits W w g s b q m N HA.out false HW.out).mono ?_
  rintro e w1 ⟨rfl, rfl⟩
  go_wp2_with fail
  refine (al_got W _ g s b q { m with kind := 0 } N ⟨p, A, R, HK.out⟩).mono ?_
  rw [HE.out, show errOf 0 = .nilIface from rfl]
  generalize (q.client 0).got = gt
  rintro e w2 ⟨rfl, hb2⟩
  have HK2 := hidT (HK.out.later hb2)
  have d0 := HK2.out.al.cNow pl hp32
  have f0 := HK2.out.al.fz (2 + pl)
  have d67 := HK2.out.al.c67
  have d68 : w2.cell? ⟨g, 68, none⟩ = some (.string m.data) := HK2.out.al.c68
  have l2 := HK2.out.al.lt
  have d67' : w2.cell? ⟨g, 67, none⟩ = some (.int .i64 pl) := by rw [← HP.out]; exact d67
  have d0' : w2.cell? ⟨g, 2 + pl, none⟩ = some (.string (m.now.getD pl ByteArray.empty)) := d0
  clear hb2 d67 d0 c66 f66 c0 hl
  go_wp2_with fail
  go_region
  refine any_worldA (F := fun w => Exit.then _ _ Exit.normal _ w) (fun wz => AlR W g s b q { m with kind := 0, now := m.now.set pl m.data } N p A R wz) ((HK2.out.now pl hp32 m.data).later (Below.refl _ _).drew) ?_
  clear HK2 HK HA d0' d67' d68 f0 l2
  intro w3 hk3
  have HK3 := hidT hk3
  obtain ⟨l, hL⟩ : ∃ l, l = m.since.getD pl [] := ⟨_, rfl⟩
  have HLL := hidT hL
  have HAT : Hid (AtW g pl m.data (.slice (R.sa pl) l.length (R.sc pl)) w3) := ⟨by rw [← HP.out]; exact hk3.al.c67, hk3.al.c68, by rw [hL]; exact hk3.al.cSince pl hp32, hk3.al.fz _, hk3.al.lt⟩
  have hrow0 := hk3.al.rows pl hp32
  have hrow : StrsAt w3 (R.sa pl) l ∧ (R.sa pl = none → R.sc pl = 0) ∧ l.length ≤ N := by rw [hL]; exact hrow0
  obtain ⟨hr1, hr2, hr3⟩ := hrow
  have hl100 : l.length ≤ 1000000 := Nat.le_trans hr3 hN
  have HR3 := hidT hr3
  have hR1 : RowAt w3 1 (R.sa pl) l.length (R.sc pl) (l.map .string) := hr1.row hr2
  have HFT : Hid (∀ k, A.foot s k → k < w3.heap.size) := fun k hk => hk3.st.footLt k hk
  have HGL := hidT hk3.al.lt
  clear hk3 hr1 hr2 hr3 hrow0 hL hN
  obtain ⟨d67, d68, d34, f34, l3⟩ := id HAT.out
  obtain ⟨iS, hS1, hS2, hS3, hS4⟩ := pluck infoS
  go_wp2_with fail
  have HS : Hid (AtW g pl m.data (.slice (R.sa pl) l.length (R.sc pl)) w3.drew) := HAT.out
  refine region_till (S := AtW g pl m.data (.slice (R.sa pl) l.length (R.sc pl))) (d := 24) (by kernel_rfl) ?_
  refine till_take (i := 0) (v := ?_) rfl (by kernel_rfl) (by kernel_rfl) (by kernel_rfl) (by kernel_rfl) (fun _ _ _ h => h) (Or.inl ⟨by rfl, ?_⟩) HS.out ?_; rotate_left; (focus (intro w0 hSw; obtain ⟨s0, s1, s2, s3, s4⟩ := hSw; go_simp; (try with_reducible rfl))); (try simp only [Act.put, List.getElem_toArray, List.getElem_cons_succ, List.getElem_cons_zero, List.setIfInBounds_toArray, List.set_cons_zero, List.set_cons_succ])
  refine till_take (i := 1) (v := ?_) rfl (by kernel_rfl) (by kernel_rfl) (by kernel_rfl) (by kernel_rfl) (fun _ _ _ h => h) (Or.inl ⟨by rfl, ?_⟩) HS.out ?_; rotate_left; (focus (intro w0 hSw; obtain ⟨s0, s1, s2, s3, s4⟩ := hSw; go_simp; (try with_reducible rfl))); (try simp only [Act.put, List.getElem_toArray, List.getElem_cons_succ, List.getElem_cons_zero, List.setIfInBounds_toArray, List.set_cons_zero, List.set_cons_succ])
  refine till_take (i := 2) (v := ?_) rfl (by kernel_rfl) (by kernel_rfl) (by kernel_rfl) (by kernel_rfl) (fun _ _ _ h => h) (Or.inl ⟨by rfl, ?_⟩) HS.out ?_; rotate_left; (focus (intro w0 hSw; obtain ⟨s0, s1, s2, s3, s4⟩ := hSw; go_simp; (try with_reducible rfl))); (try simp only [Act.put, List.getElem_toArray, List.getElem_cons_succ, List.getElem_cons_zero, List.setIfInBounds_toArray, List.set_cons_zero, List.set_cons_succ])
  refine till_take (i := 3) (v := ?_) rfl (by kernel_rfl) (by kernel_rfl) (by kernel_rfl) (by kernel_rfl) (fun _ _ _ h => h) (Or.inl ⟨by rfl, ?_⟩) HS.out ?_; rotate_left; (focus (intro w0 hSw; obtain ⟨s0, s1, s2, s3, s4⟩ := hSw; go_simp; (try with_reducible rfl))); (try simp only [Act.put, List.getElem_toArray, List.getElem_cons_succ, List.getElem_cons_zero, List.setIfInBounds_toArray, List.set_cons_zero, List.set_cons_succ])
  refine till_take (i := 4) (v := ?_) rfl (by kernel_rfl) (by kernel_rfl) (by kernel_rfl) (by kernel_rfl) (fun _ _ _ h => h) (Or.inl ⟨by rfl, ?_⟩) HS.out ?_; rotate_left; (focus (intro w0 hSw; obtain ⟨s0, s1, s2, s3, s4⟩ := hSw; go_simp; (try with_reducible rfl))); (try simp only [Act.put, List.getElem_toArray, List.getElem_cons_succ, List.getElem_cons_zero, List.setIfInBounds_toArray, List.set_cons_zero, List.set_cons_succ])
  refine till_take (i := 5) (v := ?_) rfl (by kernel_rfl) (by kernel_rfl) (by kernel_rfl) (by kernel_rfl) (fun _ _ _ h => h) (Or.inl ⟨by rfl, ?_⟩) HS.out ?_; rotate_left; (focus (intro w0 hSw; obtain ⟨s0, s1, s2, s3, s4⟩ := hSw; go_simp; (try with_reducible rfl))); (try simp only [Act.put, List.getElem_toArray, List.getElem_cons_succ, List.getElem_cons_zero, List.setIfInBounds_toArray, List.set_cons_zero, List.set_cons_succ])
  refine till_take (i := 6) (v := ?_) rfl (by kernel_rfl) (by kernel_rfl) (by kernel_rfl) (by kernel_rfl) (fun _ _ _ h => h) (Or.inl ⟨by rfl, ?_⟩) HS.out ?_; rotate_left; (focus (intro w0 hSw; obtain ⟨s0, s1, s2, s3, s4⟩ := hSw; go_simp; (try with_reducible rfl))); (try simp only [Act.put, List.getElem_toArray, List.getElem_cons_succ, List.getElem_cons_zero, List.setIfInBounds_toArray, List.set_cons_zero, List.set_cons_succ])
  refine till_take (i := 7) (v := ?_) rfl (by kernel_rfl) (by kernel_rfl) (by kernel_rfl) (by kernel_rfl) (fun _ _ _ h => h) (Or.inl ⟨by rfl, ?_⟩) HS.out ?_; rotate_left; (focus (intro w0 hSw; obtain ⟨s0, s1, s2, s3, s4⟩ := hSw; go_simp; (try with_reducible rfl))); (try simp only [Act.put, List.getElem_toArray, List.getElem_cons_succ, List.getElem_cons_zero, List.setIfInBounds_toArray, List.set_cons_zero, List.set_cons_succ])
  refine till_take (i := 8) (v := ?_) rfl (by kernel_rfl) (by kernel_rfl) (by kernel_rfl) (by kernel_rfl) (fun _ _ _ h => h) (Or.inl ⟨by rfl, ?_⟩) HS.out ?_; rotate_left; (focus (intro w0 hSw; obtain ⟨s0, s1, s2, s3, s4⟩ := hSw; go_simp; (try with_reducible rfl))); (try simp only [Act.put, List.getElem_toArray, List.getElem_cons_succ, List.getElem_cons_zero, List.setIfInBounds_toArray, List.set_cons_zero, List.set_cons_succ])
  refine till_take (i := 9) (v := ?_) rfl (by kernel_rfl) (by kernel_rfl) (by kernel_rfl) (by kernel_rfl) (fun _ _ _ h => h) (Or.inl ⟨by rfl, ?_⟩) HS.out ?_; rotate_left; (focus (intro w0 hSw; obtain ⟨s0, s1, s2, s3, s4⟩ := hSw; go_simp; (try with_reducible rfl))); (try simp only [Act.put, List.getElem_toArray, List.getElem_cons_succ, List.getElem_cons_zero, List.setIfInBounds_toArray, List.set_cons_zero, List.set_cons_succ])
  refine till_take (i := 10) (v := ?_) rfl (by kernel_rfl) (by kernel_rfl) (by kernel_rfl) (by kernel_rfl) (fun _ _ _ h => h) (Or.inl ⟨by rfl, ?_⟩) HS.out ?_; rotate_left; (focus (intro w0 hSw; obtain ⟨s0, s1, s2, s3, s4⟩ := hSw; go_simp; (try with_reducible rfl))); (try simp only [Act.put, List.getElem_toArray, List.getElem_cons_succ, List.getElem_cons_zero, List.setIfInBounds_toArray, List.set_cons_zero, List.set_cons_succ])
  refine till_take (i := 11) (v := ?_) rfl (by kernel_rfl) (by kernel_rfl) (by kernel_rfl) (by kernel_rfl) (fun _ _ _ h => h) (Or.inl ⟨by rfl, ?_⟩) HS.out ?_; rotate_left; (focus (intro w0 hSw; obtain ⟨s0, s1, s2, s3, s4⟩ := hSw; go_simp; (try with_reducible rfl))); (try simp only [Act.put, List.getElem_toArray, List.getElem_cons_succ, List.getElem_cons_zero, List.setIfInBounds_toArray, List.set_cons_zero, List.set_cons_succ])
  refine till_take (i := 12) (v := ?_) rfl (by kernel_rfl) (by kernel_rfl) (by kernel_rfl) (by kernel_rfl) (fun _ _ _ h => h) (Or.inl ⟨by rfl, ?_⟩) HS.out ?_; rotate_left; (focus (intro w0 hSw; obtain ⟨s0, s1, s2, s3, s4⟩ := hSw; go_simp; (try with_reducible rfl))); (try simp only [Act.put, List.getElem_toArray, List.getElem_cons_succ, List.getElem_cons_zero, List.setIfInBounds_toArray, List.set_cons_zero, List.set_cons_succ])
  refine till_take (i := 13) (v := ?_) rfl (by kernel_rfl) (by kernel_rfl) (by kernel_rfl) (by kernel_rfl) (fun _ _ _ h => h) (Or.inl ⟨by rfl, ?_⟩) HS.out ?_; rotate_left; (focus (intro w0 hSw; obtain ⟨s0, s1, s2, s3, s4⟩ := hSw; go_simp; (try with_reducible rfl))); (try simp only [Act.put, List.getElem_toArray, List.getElem_cons_succ, List.getElem_cons_zero, List.setIfInBounds_toArray, List.set_cons_zero, List.set_cons_succ])
  refine till_take (i := 15) (v := ?_) rfl (by kernel_rfl) (by kernel_rfl) (by kernel_rfl) (by kernel_rfl) (fun _ _ _ h => h) (Or.inl ⟨by rfl, ?_⟩) HS.out ?_; rotate_left; (focus (intro w0 hSw; obtain ⟨s0, s1, s2, s3, s4⟩ := hSw; go_simp; (try with_reducible rfl))); (try simp only [Act.put, List.getElem_toArray, List.getElem_cons_succ, List.getElem_cons_zero, List.setIfInBounds_toArray, List.set_cons_zero, List.set_cons_succ])
  refine till_take (i := 16) (v := ?_) rfl (by kernel_rfl) (by kernel_rfl) (by kernel_rfl) (by kernel_rfl) (fun _ _ _ h => h) (Or.inl ⟨by rfl, ?_⟩) HS.out ?_; rotate_left; (focus (intro w0 hSw; obtain ⟨s0, s1, s2, s3, s4⟩ := hSw; go_simp; (try with_reducible rfl))); (try simp only [Act.put, List.getElem_toArray, List.getElem_cons_succ, List.getElem_cons_zero, List.setIfInBounds_toArray, List.set_cons_zero, List.set_cons_succ])
  refine till_take (i := 17) (v := ?_) rfl (by kernel_rfl) (by kernel_rfl) (by kernel_rfl) (by kernel_rfl) (fun _ _ _ h => h) (Or.inl ⟨by rfl, ?_⟩) HS.out ?_; rotate_left; (focus (intro w0 hSw; obtain ⟨s0, s1, s2, s3, s4⟩ := hSw; go_simp; (try with_reducible rfl))); (try simp only [Act.put, List.getElem_toArray, List.getElem_cons_succ, List.getElem_cons_zero, List.setIfInBounds_toArray, List.set_cons_zero, List.set_cons_succ])
  refine till_take (i := 18) (v := ?_) rfl (by kernel_rfl) (by kernel_rfl) (by kernel_rfl) (by kernel_rfl) (fun _ _ _ h => h) (Or.inl ⟨by rfl, ?_⟩) HS.out ?_; rotate_left; (focus (intro w0 hSw; obtain ⟨s0, s1, s2, s3, s4⟩ := hSw; go_simp; (try with_reducible rfl))); (try simp only [Act.put, List.getElem_toArray, List.getElem_cons_succ, List.getElem_cons_zero, List.setIfInBounds_toArray, List.set_cons_zero, List.set_cons_succ])
  refine till_takeJ (i := 21) (v := ?_) [22, 23] rfl (by kernel_rfl) (by kernel_rfl) (by kernel_rfl) (by kernel_rfl) (fun _ _ _ h => h) (Or.inl ⟨by rfl, ?_⟩) HS.out ?_; rotate_left; (focus (intro w0 hSw; obtain ⟨s0, s1, s2, s3, s4⟩ := hSw; go_simp; (try with_reducible rfl))); (try simp only [Act.put, List.getElem_toArray, List.getElem_cons_succ, List.getElem_cons_zero, List.setIfInBounds_toArray, List.set_cons_zero, List.set_cons_succ])
  refine till_takeJ (i := 22) (v := ?_) [23] rfl (by kernel_rfl) (by kernel_rfl) (by kernel_rfl) (by kernel_rfl) (fun _ _ _ h => h) (Or.inl ⟨by rfl, ?_⟩) HS.out ?_; rotate_left; (focus (intro w0 hSw; obtain ⟨s0, s1, s2, s3, s4⟩ := hSw; go_simp; (try with_reducible rfl))); (try simp only [Act.put, List.getElem_toArray, List.getElem_cons_succ, List.getElem_cons_zero, List.setIfInBounds_toArray, List.set_cons_zero, List.set_cons_succ])
  refine till_two (i := 14) (j := 19) rfl rfl (by kernel_rfl) ?_ ?_
  · intro K hK
    refine step_append rfl (.const (.slice none 0 0)) (.tmp 86) 41 rfl _ 9 iS _ 1 16 Tryz.underlying41 hS1 hS2 hS3 hS4 rfl (by decide) (.slice none 0 0) 0 [] rfl (World.ownsRow_nil _ _ _ _) (R.sa pl) l.length (R.sc pl) (l.map .string) rfl (hR1.later (by repeat (first | with_reducible exact Below.refl _ _ | with_reducible refine balloc ?_ _ | with_reducible refine bdrew ?_ | with_reducible refine bset' ?_ (by omega) _ | with_reducible refine bthen ?_ (by assumption)))) (by unfold maxLen; omega) (by omega) (Nat.le_refl _) ?_
    intro v1 w4 hown1 hb1
    rw [Nat.zero_add, List.nil_append] at hown1
    replace hown1 := ownsRow_le' (base' := w3.heap.size) hown1 (by simp)
    refine hK _ _ (fun _ => HS.out.later hb1) ?_
    (try simp only [Act.put, List.getElem_toArray, List.getElem_cons_succ, List.getElem_cons_zero, List.setIfInBounds_toArray, List.set_cons_zero, List.set_cons_succ])
    clear hK
    refine till_one (i := 19) rfl (by kernel_rfl) ?_
    intro K hK
    go_simp
    refine hK _ _ (fun _ => (HS.out.later hb1).later (below1 _ _)) ?_
    (try simp only [Act.put, List.getElem_toArray, List.getElem_cons_succ, List.getElem_cons_zero, List.setIfInBounds_toArray, List.set_cons_zero, List.set_cons_succ])
    clear hK
    refine till_one (i := 20) rfl (by kernel_rfl) ?_
    intro K hK
    refine step_append rfl (.tmp 87) (.tmp 92) 41 rfl w3.heap.size 9 iS _ 1 16 Tryz.underlying41 hS1 hS2 hS3 hS4 rfl (by decide) v1 l.length (l.map .string) rfl (ownA_laterW hown1 (by repeat (first | with_reducible exact Below.refl _ _ | with_reducible refine balloc ?_ _ | with_reducible refine bdrew ?_ | with_reducible refine bset' ?_ (by omega) _ | with_reducible refine bthen ?_ (by assumption)))) (some ⟨w4.heap.size, 0, none⟩) 1 1 ([m.data].map .string) rfl ((strs_one (by simp)).row (by simp)) (by unfold maxLen; omega) (by omega) (by have := hb1.size; simp at this ⊢; omega) ?_
    intro v2 w5 hown2 hb2
    have HB5 : Below w3.heap.size w3 w5 := Below.trans (by repeat (first | with_reducible exact Below.refl _ _ | with_reducible refine balloc ?_ _ | with_reducible refine bdrew ?_ | with_reducible refine bset' ?_ (by omega) _ | with_reducible refine bthen ?_ (by assumption))) hb2
    rw [← List.map_append] at hown2
    obtain ⟨da, dc, rfl, hds, hdn, hdb⟩ := strs_of_owned hown2 (by simp)
    refine hK _ _ (fun _ => HAT.out.later HB5) ?_
    (try simp only [Act.put, List.getElem_toArray, List.getElem_cons_succ, List.getElem_cons_zero, List.setIfInBounds_toArray, List.set_cons_zero, List.set_cons_succ])
    clear hK
    clear HS
    have HS : Hid (AtW g pl m.data (.slice (R.sa pl) l.length (R.sc pl)) w5) := HAT.out.later HB5
    refine till_takeJ (i := 23) (v := ?_) [] rfl (by kernel_rfl) (by kernel_rfl) (by kernel_rfl) (by kernel_rfl) (fun _ _ _ h => h) (Or.inl ⟨by rfl, ?_⟩) HS.out ?_; rotate_left; (focus (intro w0 hSw; obtain ⟨s0, s1, s2, s3, s4⟩ := hSw; go_simp; (try with_reducible rfl))); (try simp only [Act.put, List.getElem_toArray, List.getElem_cons_succ, List.getElem_cons_zero, List.setIfInBounds_toArray, List.set_cons_zero, List.set_cons_succ])
    refine till_one (i := 24) rfl (by kernel_rfl) ?_
    intro K hK
    obtain ⟨d67, d68, d34, f34, l3⟩ := HAT.out.later HB5
    go_simp
    refine hK _ _ (fun h => absurd rfl h) ?_
    (try simp only [Act.put, List.getElem_toArray, List.getElem_cons_succ, List.getElem_cons_zero, List.setIfInBounds_toArray, List.set_cons_zero, List.set_cons_succ])
    clear hK
    refine till_done (by kernel_rfl) ?_ _
    have HK5 : Hid (AlR W g s b q { m with kind := 0, now := m.now.set pl m.data, since := m.since.set pl (l ++ [m.data]) } (N + 1) p A (R.lay pl da dc) (w5.setCell ⟨g, 34 + pl, none⟩ (.slice da (l.length + 1) dc))) := by
      have hne : l ++ [m.data] ≠ [] := by simp
      have e := (HK3.out.later HB5).since pl hp32 (l ++ [m.data]) da dc hds hdn (by have := HR3.out; simp; omega) (fun ad ha => ⟨fun e => by have := HFT.out _ e; have := (row_new hne hds hdb ha).1; omega, fun e => by have := HGL.out; have := (row_new hne hds hdb ha).1; omega, (row_new hne hds hdb ha).2⟩)
      rw [show (l ++ [m.data]).length = l.length + 1 by simp] at e
      exact e
    clear hds hdn hdb hown1 hown2 hb1 hb2 HB5 HAT HK3 d67 d68 d34 f34
    go_wp2
    go_ret
    exact ⟨rfl, p, A, R.lay pl da dc, by rw [← HLL.out]; exact HK5.out.later (by repeat (first | with_reducible exact Below.refl _ _ | with_reducible refine balloc ?_ _ | with_reducible refine bdrew ?_ | with_reducible refine bset' ?_ (by omega) _ | with_reducible refine bthen ?_ (by assumption)))⟩
  · intro K hK
    go_simp
    refine hK _ _ (fun _ => HS.out.later (below1 _ _)) ?_
    (try simp only [Act.put, List.getElem_toArray, List.getElem_cons_succ, List.getElem_cons_zero, List.setIfInBounds_toArray, List.set_cons_zero, List.set_cons_succ])
    clear hK
    refine till_one (i := 14) rfl (by kernel_rfl) ?_
    intro K hK
    refine step_append rfl (.const (.slice none 0 0)) (.tmp 86) 41 rfl _ 9 iS _ 1 16 Tryz.underlying41 hS1 hS2 hS3 hS4 rfl (by decide) (.slice none 0 0) 0 [] rfl (World.ownsRow_nil _ _ _ _) (R.sa pl) l.length (R.sc pl) (l.map .string) rfl (hR1.later (by repeat (first | with_reducible exact Below.refl _ _ | with_reducible refine balloc ?_ _ | with_reducible refine bdrew ?_ | with_reducible refine bset' ?_ (by omega) _ | with_reducible refine bthen ?_ (by assumption)))) (by unfold maxLen; omega) (by omega) (Nat.le_refl _) ?_
    intro v1 w4 hown1 hb1
    rw [Nat.zero_add, List.nil_append] at hown1
    replace hown1 := ownsRow_le' (base' := w3.heap.size) hown1 (by simp)
    refine hK _ _ (fun _ => (HS.out.later (below1 _ _)).later hb1) ?_
    (try simp only [Act.put, List.getElem_toArray, List.getElem_cons_succ, List.getElem_cons_zero, List.setIfInBounds_toArray, List.set_cons_zero, List.set_cons_succ])
    clear hK
    refine till_one (i := 20) rfl (by kernel_rfl) ?_
    intro K hK
    refine step_append rfl (.tmp 87) (.tmp 92) 41 rfl w3.heap.size 9 iS _ 1 16 Tryz.underlying41 hS1 hS2 hS3 hS4 rfl (by decide) v1 l.length (l.map .string) rfl (ownA_laterW hown1 (by repeat (first | with_reducible exact Below.refl _ _ | with_reducible refine balloc ?_ _ | with_reducible refine bdrew ?_ | with_reducible refine bset' ?_ (by omega) _ | with_reducible refine bthen ?_ (by assumption)))) (some ⟨w3.heap.size, 0, none⟩) 1 1 ([m.data].map .string) rfl (((strs_one (by simp)).later hb1).row (by simp)) (by unfold maxLen; omega) (by omega) (by have := hb1.size; simp at this ⊢; omega) ?_
    intro v2 w5 hown2 hb2
    have HB5 : Below w3.heap.size w3 w5 := Below.trans (by repeat (first | with_reducible exact Below.refl _ _ | with_reducible refine balloc ?_ _ | with_reducible refine bdrew ?_ | with_reducible refine bset' ?_ (by omega) _ | with_reducible refine bthen ?_ (by assumption))) hb2
    rw [← List.map_append] at hown2
    obtain ⟨da, dc, rfl, hds, hdn, hdb⟩ := strs_of_owned hown2 (by simp)
    refine hK _ _ (fun _ => HAT.out.later HB5) ?_
    (try simp only [Act.put, List.getElem_toArray, List.getElem_cons_succ, List.getElem_cons_zero, List.setIfInBounds_toArray, List.set_cons_zero, List.set_cons_succ])
    clear hK
    clear HS
    have HS : Hid (AtW g pl m.data (.slice (R.sa pl) l.length (R.sc pl)) w5) := HAT.out.later HB5
    refine till_takeJ (i := 23) (v := ?_) [] rfl (by kernel_rfl) (by kernel_rfl) (by kernel_rfl) (by kernel_rfl) (fun _ _ _ h => h) (Or.inl ⟨by rfl, ?_⟩) HS.out ?_; rotate_left; (focus (intro w0 hSw; obtain ⟨s0, s1, s2, s3, s4⟩ := hSw; go_simp; (try with_reducible rfl))); (try simp only [Act.put, List.getElem_toArray, List.getElem_cons_succ, List.getElem_cons_zero, List.setIfInBounds_toArray, List.set_cons_zero, List.set_cons_succ])
    refine till_one (i := 24) rfl (by kernel_rfl) ?_
    intro K hK
    obtain ⟨d67, d68, d34, f34, l3⟩ := HAT.out.later HB5
    go_simp
    refine hK _ _ (fun h => absurd rfl h) ?_
    (try simp only [Act.put, List.getElem_toArray, List.getElem_cons_succ, List.getElem_cons_zero, List.setIfInBounds_toArray, List.set_cons_zero, List.set_cons_succ])
    clear hK
    refine till_done (by kernel_rfl) ?_ _
    have HK5 : Hid (AlR W g s b q { m with kind := 0, now := m.now.set pl m.data, since := m.since.set pl (l ++ [m.data]) } (N + 1) p A (R.lay pl da dc) (w5.setCell ⟨g, 34 + pl, none⟩ (.slice da (l.length + 1) dc))) := by
      have hne : l ++ [m.data] ≠ [] := by simp
      have e := (HK3.out.later HB5).since pl hp32 (l ++ [m.data]) da dc hds hdn (by have := HR3.out; simp; omega) (fun ad ha => ⟨fun e => by have := HFT.out _ e; have := (row_new hne hds hdb ha).1; omega, fun e => by have := HGL.out; have := (row_new hne hds hdb ha).1; omega, (row_new hne hds hdb ha).2⟩)
      rw [show (l ++ [m.data]).length = l.length + 1 by simp] at e
      exact e
    clear hds hdn hdb hown1 hown2 hb1 hb2 HB5 HAT HK3 d67 d68 d34 f34
    go_wp2
    go_ret
    exact ⟨rfl, p, A, R.lay pl da dc, by rw [← HLL.out]; exact HK5.out.later (by repeat (first | with_reducible exact Below.refl _ _ | with_reducible refine balloc ?_ _ | with_reducible refine bdrew ?_ | with_reducible refine bset' ?_ (by omega) _ | with_reducible refine bthen ?_ (by assumption)))⟩
end
end Go.Proofs.YtgjkdhedkbkagaaGreat
/- Who asks alone: a sync that was answered well. -/
namespace Go.Proofs.YtgjkdhedkbkagaaGreat
open Go.RowKit Go.BigFrame Go.Maps
set_option maxRecDepth 100000
attribute [local go_sem] Later.cell Later.frozen

theorem AlR.more {W wr : World} {g s b N N' : Nat} {q p : Sk} {m : Am} {A : Sa} {R : Ar} (h : AlR W g s b q m N p A R wr) (hN : N ≤ N') : AlR W g s b q m N' p A R wr :=
  ⟨h.st, h.nf, h.hb, h.foot, h.bel, ⟨h.al.blk, h.al.n32, h.al.s32, fun k hk => ⟨(h.al.rows k hk).1, (h.al.rows k hk).2.1, Nat.le_trans (h.al.rows k hk).2.2 hN⟩⟩, h.gM, h.gf, h.gv, h.rows, h.gW⟩
theorem AlR.sinceN {W wr : World} {g s b N : Nat} {q p : Sk} {m : Am} {A : Sa} {R : Ar} (h : AlR W g s b q m N p A R wr) (k : Nat) (hk : k < 32) (l : List ByteArray) (a : Option Addr) (c : Nat) (hl : StrsAt wr a l) (hc : a = none → c = 0) (hlen : l.length ≤ N) (ha : ∀ ad, a = some ad → ¬ A.foot s ad.block ∧ ad.block ≠ g ∧ ad.block < wr.heap.size) : AlR W g s b q { m with since := m.since.set k l } N p A (R.lay k a c) (wr.setCell ⟨g, 34 + k, none⟩ (.slice a l.length c)) := by
  refine h.put (34 + k) _ (setSince h.al.n32 h.al.s32 k hk l a c) h.al.n32 (by show (List.set _ _ _).length = 32; rw [List.length_set]; exact h.al.s32) (fun j hj => ?_) (fun j hj ad => ?_)
  · show StrsAt wr (if j = k then a else R.sa j) ((m.since.set k l).getD j []) ∧ _ ∧ _
    by_cases e : j = k
    · subst e
      have hg : (m.since.set j l).getD j [] = l := by rw [List.getD_eq_getElem?_getD, List.getElem?_set_self (by rw [h.al.s32]; exact hj)]; rfl
      simp only [Ar.lay, if_true]
      rw [hg]; exact ⟨hl, hc, hlen⟩
    · have hg : (m.since.set k l).getD j [] = m.since.getD j [] := by rw [List.getD_eq_getElem?_getD, List.getElem?_set_ne (fun h => e h.symm), ← List.getD_eq_getElem?_getD]
      simp only [Ar.lay, if_neg e]
      rw [hg]
      exact h.al.rows j hj
  · show (if j = k then a else R.sa j) = some ad → _
    by_cases e : j = k
    · rw [if_pos e]; exact ha ad
    · rw [if_neg e]; exact h.rows j hj ad
/-- The first k sectors have one string each that may be found behind a crash. -/
structure Sy (W : World) (g s b : Nat) (q : Sk) (m : Am) (N : Nat) (p : Sk) (A : Sa) (k : Nat) (mk : Am) (R : Ar) (wr : World) : Prop where
  al : AlR W g s b q mk N p A R wr
  now : mk.now = m.now
  kind : mk.kind = 0
  pl : mk.pl = m.pl
  data : mk.data = m.data
  done : ∀ j, j < k → mk.since.getD j [] = [m.now.getD j ByteArray.empty]
theorem Sy.all {W : World} {g s b : Nat} {q : Sk} {m : Am} {N : Nat} {p : Sk} {A : Sa} {mk : Am} {R : Ar} {wr : World} (h : Sy W g s b q m N p A 32 mk R wr) : mk = { m with kind := 0, since := m.now.map fun s => [s] } := by
  have hn : m.now.length = 32 := by rw [← h.now]; exact h.al.al.n32
  have hs := h.al.al.s32
  have e : mk.since = m.now.map fun s => [s] := by
    refine List.ext_getElem? (fun j => ?_)
    by_cases hj : j < 32
    · have := h.done j hj
      rw [List.getD_eq_getElem?_getD, List.getD_eq_getElem?_getD, List.getElem?_eq_getElem (by omega), List.getElem?_eq_getElem (by omega)] at this
      rw [List.getElem?_map, List.getElem?_eq_getElem (by omega), List.getElem?_eq_getElem (by omega)]
      simpa using this
    · rw [List.getElem?_eq_none (by omega), List.getElem?_eq_none (by simp; omega)]
  have h1 := h.now
  have h2 := h.kind
  have h3 := h.pl
  have h4 := h.data
  cases mk
  simp only at h1 h2 h3 h4 e
  subst h1 h2 h3 h4 e
  rfl
theorem Sy.later {W : World} {g s b : Nat} {q : Sk} {m : Am} {N : Nat} {p : Sk} {A : Sa} {mk : Am} {R : Ar} {wr w' : World} {k : Nat} (h : Sy W g s b q m N p A k mk R wr) (hb : Below wr.heap.size wr w') : Sy W g s b q m N p A k mk R w' := ⟨h.al.later hb, h.now, h.kind, h.pl, h.data, h.done⟩
theorem Sy.next {W : World} {g s b : Nat} {q : Sk} {m : Am} {N : Nat} {p : Sk} {A : Sa} {mk : Am} {R : Ar} {wr : World} {k : Nat} (h : Sy W g s b q m N p A k mk R wr) (hk : k < 32) (hN : 1 ≤ N) (v : ByteArray) (hv : v = m.now.getD k ByteArray.empty) (T : TypeId) : Sy W g s b q m N p A (k + 1) { mk with since := mk.since.set k [v] } (R.lay k (some ⟨wr.heap.size, 0, none⟩) 1) ((wr.alloc (.cells #[.string v] T)).setCell ⟨g, 34 + k, none⟩ (.slice (some ⟨wr.heap.size, 0, none⟩) 1 1)) := by
  have hb := below1 wr (.cells #[.string v] T)
  refine ⟨(h.al.later hb).sinceN k hk [v] _ _ (strs_one (by simp)) (by simp) hN (fun ad ha => ?_), h.now, h.kind, h.pl, h.data, fun j hj => ?_⟩
  · cases ha
    refine ⟨fun e => ?_, fun e => ?_, by simp⟩
    · have := h.al.st.footLt _ e; simp at this
    · have := h.al.al.lt; simp at e; omega
  · show (mk.since.set k [v]).getD j [] = _
    by_cases e : j = k
    · subst e
      rw [List.getD_eq_getElem?_getD, List.getElem?_set_self (by rw [h.al.al.s32]; exact hk), hv]; rfl
    · rw [List.getD_eq_getElem?_getD, List.getElem?_set_ne (fun h => e h.symm), ← List.getD_eq_getElem?_getD]
      exact h.done j (by omega)
section
variable (W w : World) (g s b : Nat) (q : Sk) (m : Am) (N : Nat)
set_option linter.unusedSimpArgs false in
set_option maxRecDepth 100000 in
set_option maxHeartbeats 4000000 in
theorem answered_synced (h : AlW W g s b q m N w) (hk : m.kind = 3) (hw : q.waits 0 = false) (he : (q.client 0).err = 0) : Calls Tryz.prog 46 #[.pointer (some ⟨g, 0, none⟩)] w fun e w' => e = .returned (.bool true) ∧ AlW W g s b q { m with kind := 0, since := m.now.map fun s => [s] } (N + 1) w' := by
  have HA := hidT h
  have HW := hidT hw
  have HE := hidT he
  obtain ⟨p, A, R, h⟩ := h
  have c66 := h.al.c66
  rw [hk] at c66
  have f66 := h.al.fz 66
  have c0 := h.al.c0
  have hl := h.al.lt
  have HK := hidT (h.kind 0)
  clear h hw hk he
  go_enter Tryz.func46, Tryz.ntmps46
  go_wp2_with fail
  refine (al_waits W w g s b q m N HA.out false HW.out).mono ?_
  rintro e w1 ⟨rfl, rfl⟩
  go_wp2_with fail
  refine (al_got W _ g s b q { m with kind := 0 } N ⟨p, A, R, HK.out⟩).mono ?_
  rw [HE.out, show errOf 0 = .nilIface from rfl]
  generalize (q.client 0).got = gt
  rintro e w2 ⟨rfl, hb2⟩
  have HK2 := hidT ((HK.out.later hb2).more (Nat.le_succ N))
  clear hb2 c66 f66 c0 hl HK HA
  go_wp2_with fail
  go_loopw [6] (fun i wr => ∃ (k : Nat) (mk : Am) (R : Ar), k ≤ 32 ∧ i = .int .i64 k ∧ Sy W g s b q m (N + 1) p A k mk R wr) (fun i _ => 32 - (intOf i).toNat)
  case atStart => exact ⟨0, { m with kind := 0 }, R, by omega, rfl, ⟨HK2.out, rfl, rfl, rfl, rfl, fun j hj => by omega⟩⟩
  case round =>
    obtain ⟨k, mk, R', hk, rfl, hs⟩ := hrel
    have HSY := hidT hs
    clear hs HK2
    by_cases h32 : k = 32
    · subst h32
      go_wp2
      go_ret
      exact ⟨rfl, p, A, R', by have e := HSY.out.all; have e2 := HSY.out.al; rw [e] at e2; exact e2.later (by repeat (first | with_reducible exact Below.refl _ _ | with_reducible refine balloc ?_ _ | with_reducible refine bdrew ?_ | with_reducible refine bset' ?_ (by omega) _ | with_reducible refine bthen ?_ (by assumption)))⟩
    · have k32 : k < 32 := by omega
      have k32' : (k : Int) < 32 := by omega
      have kd : decide ((k : Int) < 32) = true := decide_eq_true k32'
      have d0 := HSY.out.al.al.cNow k k32
      have f34 := HSY.out.al.al.fz (34 + k)
      have d34 := HSY.out.al.al.cSince k k32
      have l3 := HSY.out.al.al.lt
      obtain ⟨v, hv⟩ : ∃ v, v = mk.now.getD k ByteArray.empty := ⟨_, rfl⟩
      rw [← hv] at d0
      have HV : Hid (v = m.now.getD k ByteArray.empty) := (by rw [hv, HSY.out.now] : v = m.now.getD k ByteArray.empty)
      clear hv h32
      go_wp2_with fail
      go_region
      go_wp2
      go_roundw
      case rel => exact ⟨k + 1, _, _, by omega, by go_num, (by have e := HSY.out.next k32 (by omega) v HV.out 9; rw [World.setCell_alloc_past _ _ _ _ l3] at e; exact e.later (Below.refl _ _).drew)⟩
      case measure => simp [intOf]; omega
end
end Go.Proofs.YtgjkdhedkbkagaaGreat
/- Who asks alone: an answer that is right is taken. -/
namespace Go.Proofs.YtgjkdhedkbkagaaGreat
open Go.RowKit Go.BigFrame Go.Maps
set_option maxRecDepth 100000

theorem AlW.more {W wr : World} {g s b N N' : Nat} {q : Sk} {m : Am} (h : AlW W g s b q m N wr) (hN : N ≤ N') : AlW W g s b q m N' wr := by
  obtain ⟨p, A, R, h⟩ := h
  exact ⟨p, A, R, h.more hN⟩
section
variable (W w : World) (g s b : Nat) (q : Sk) (m : Am) (N : Nat)
theorem answered_any (h : AlW W g s b q m N w) (hN : N ≤ 1000000) (hk4 : 0 ≤ m.kind ∧ m.kind ≤ 3) (hpl : m.kind = 1 ∨ m.kind = 2 → 0 ≤ m.pl ∧ m.pl ≤ 31) (hf : m.fine q) : Calls Tryz.prog 46 #[.pointer (some ⟨g, 0, none⟩)] w fun e w' => e = .returned (.bool true) ∧ AlW W g s b q (m.told q) (N + 1) w' := by
  by_cases h0 : m.kind = 0
  · have e : m.told q = m := by unfold Am.told; rw [if_pos (Or.inl h0)]
    rw [e]
    exact (answered_idle W w g s b q m N h h0).mono (fun _ _ h => ⟨h.1, h.2.more (Nat.le_succ N)⟩)
  by_cases hq : (q.client 0).kind = 0
  · have hw : q.waits 0 = false := (waits_no q 0 (by omega)).2 hq
    have hn : ¬ (m.kind = 0 ∨ ¬ (q.client 0).kind = 0) := fun h' => h'.elim h0 (fun h'' => h'' hq)
    obtain ⟨f1, f2⟩ := hf h0 hq
    by_cases k1 : m.kind = 1
    · have e : m.told q = { m with kind := 0 } := by unfold Am.told; rw [if_neg hn, if_pos k1]
      rw [e]
      rcases f1 k1 with e8 | ⟨e0, eg⟩
      · exact (answered_read8 W w g s b q m N h k1 hw e8).mono (fun _ _ h => ⟨h.1, h.2.more (Nat.le_succ N)⟩)
      · exact (answered_read0 W w g s b q m N h k1 hw (hpl (Or.inl k1)) e0 eg).mono (fun _ _ h => ⟨h.1, h.2.more (Nat.le_succ N)⟩)
    by_cases k2 : m.kind = 2
    · rcases f2 k1 with e0 | ⟨e9, hd⟩
      · have e : m.told q = { m with kind := 0, now := m.now.set m.pl.toNat m.data, since := m.since.set m.pl.toNat (m.since.getD m.pl.toNat [] ++ [m.data]) } := by unfold Am.told; rw [if_neg hn, if_neg k1, if_pos k2, if_pos e0]
        rw [e]
        exact answered_wrote W w g s b q m N h hN k2 hw (hpl (Or.inr k2)) e0
      · have e : m.told q = { m with kind := 0 } := by unfold Am.told; rw [if_neg hn, if_neg k1, if_pos k2, if_neg (by omega)]
        rw [e]
        exact (answered_died2 W w g s b q m N h k2 hw e9 hd).mono (fun _ _ h => ⟨h.1, h.2.more (Nat.le_succ N)⟩)
    · have k3 : m.kind = 3 := by omega
      rcases f2 k1 with e0 | ⟨e9, hd⟩
      · have e : m.told q = { m with kind := 0, since := m.now.map fun s => [s] } := by unfold Am.told; rw [if_neg hn, if_neg k1, if_neg k2, if_pos e0]
        rw [e]
        exact answered_synced W w g s b q m N h k3 hw e0
      · have e : m.told q = { m with kind := 0 } := by unfold Am.told; rw [if_neg hn, if_neg k1, if_neg k2, if_neg (by omega)]
        rw [e]
        exact (answered_died3 W w g s b q m N h k3 hw e9 hd).mono (fun _ _ h => ⟨h.1, h.2.more (Nat.le_succ N)⟩)
  · have hw : q.waits 0 = true := by
      cases e : q.waits 0
      · exact absurd ((waits_no q 0 (by omega)).1 e) hq
      · rfl
    have e : m.told q = m := by unfold Am.told; rw [if_pos (Or.inr hq)]
    rw [e]
    exact (answered_waits W w g s b q m N h h0 hw).mono (fun _ _ h => ⟨h.1, h.2.more (Nat.le_succ N)⟩)
end
end Go.Proofs.YtgjkdhedkbkagaaGreat
/- Who asks alone: a step of the stack, and what was made since stands. -/
namespace Go.Proofs.YtgjkdhedkbkagaaGreat
open Go.RowKit Go.BigFrame Go.Maps
set_option maxRecDepth 100000

section
variable (W w : World) (g s b : Nat) (q : Sk) (m : Am) (N : Nat)
theorem al_stepK (w0 : World) (h : AlW W g s b q m N w0) (hb : Below w0.heap.size w0 w) (n : Nat) (hf : Fit n q) (hn : n ≤ 800000) (x : Sp) (e : Int) (q' : Sk) (hq : q.doStep x = (e, q')) : Calls Tryz.prog 18 #[.pointer (some ⟨s, 0, none⟩), x.val] w fun r w' => r = .returned (errOf e) ∧ AlW W g s b q' m N w' ∧ w.heap.size ≤ w'.heap.size ∧ ∀ t, w0.heap.size ≤ t → t < w.heap.size → w'.heap[t]? = w.heap[t]? := by
  obtain ⟨p, A, R, h⟩ := h
  have hnf := h.nf
  subst hnf
  have h1 := h.later hb
  refine (step_any s p A w h1.st n hf hn x e q' hq).mono ?_
  rintro r w' ⟨he, hok⟩
  refine ⟨he, h1.step hok, ?_⟩
  obtain ⟨p', A', hs, -⟩ := hok
  exact ⟨hs.only.size, fun t h2 h3 => hs.only.block t h3 (fun e' => by have := h.st.footLt t e'; omega)⟩
/-- What is kept in mind fits what is waited for. -/
theorem RI.kinds {q : Sk} {m : Am} (h : RI q m) : (0 ≤ m.kind ∧ m.kind ≤ 3) ∧ (m.kind = 1 ∨ m.kind = 2 → 0 ≤ m.pl ∧ m.pl ≤ 31) := by
  have h1 := (h.ai.inv.client 0).kind
  have h2 := (h.ai.inv.client 0).pl
  have hk := h.kind
  refine ⟨by omega, fun hk' => ?_⟩
  rw [h.pl hk']
  exact h2 (by omega)
/-- It is answered, behind a step. -/
theorem answered_right (w : World) (q0 q : Sk) (m : Am) (h : AlW W g s b q m N w) (hN : N ≤ 1000000) (hr : RI q0 m) (hq : AI q) (he : AEff q0 q) : Calls Tryz.prog 46 #[.pointer (some ⟨g, 0, none⟩)] w fun e w' => e = .returned (.bool true) ∧ AlW W g s b q (m.told q) (N + 1) w' ∧ RI q (m.told q) := by
  have ht := hr.told hq he
  exact (answered_any W w g s b q m N h hN hr.kinds.1 hr.kinds.2 ht.2).mono (fun _ _ h => ⟨h.1, h.2, ht.1⟩)
end
end Go.Proofs.YtgjkdhedkbkagaaGreat
/- Who asks alone: a step that asks nothing. -/
namespace Go.Proofs.YtgjkdhedkbkagaaGreat
open Go.RowKit Go.BigFrame Go.Maps
set_option maxRecDepth 100000
attribute [local go_sem] Later.cell Later.frozen

/-- What a step makes of the stack, and of what is kept in mind. -/
def AStep (q : Sk) (m : Am) (x : Sp) (q' : Sk) (m' : Am) : Prop := (0 < kindOf x ∧ ¬ x.a = 0 ∧ q' = q ∧ m' = m) ∨ ((0 < kindOf x → x.a = 0) ∧ q' = (q.doStep x).2 ∧ m' = (m.asked x (q.doStep x).1).told (q.doStep x).2)
def AtX (g s t : Nat) (x : Sp) (w' : World) : Prop := w'.cell? ⟨g, 0, none⟩ = some (.pointer (some ⟨s, 0, none⟩)) ∧ w'.cell? ⟨t, 0, none⟩ = some (.string x.word) ∧ w'.cell? ⟨t, 1, none⟩ = some (.int .i64 x.a) ∧ w'.cell? ⟨t, 2, none⟩ = some (.int .i64 x.b) ∧ w'.cell? ⟨t, 3, none⟩ = some (.string x.data)
theorem cell_of_heapX {w : World} {g : Nat} {vs : Array Value} {T : TypeId} {fz : Nat × Nat} (h : w.heap[g]? = some (.cells vs T fz)) {j : Nat} : w.cell? ⟨g, j, none⟩ = vs[j]? := by
  simp [World.cell?, h]
section
variable (W w : World) (g s b : Nat) (q : Sk) (m : Am) (N : Nat)
set_option linter.unusedSimpArgs false in
set_option maxRecDepth 100000 in
set_option maxHeartbeats 4000000 in
theorem alone_step0 (h : AlW W g s b q m N w) (hN : N ≤ 1000000) (n : Nat) (hf : Fit n q) (hn : n ≤ 800000) (hr : RI q m) (x : Sp) (hx1 : ¬ x.word = wRead) (hx2 : ¬ x.word = wWrite) (hx3 : ¬ x.word = wSync) : Calls Tryz.prog 23 #[.pointer (some ⟨g, 0, none⟩), x.val] w fun e w' => e = .returned (.bool true) ∧ ∃ q' m', AlW W g s b q' m' (N + 1) w' ∧ RI q' m' ∧ Fit (n + 11) q' ∧ AStep q m x q' m' := by
  have hk : kindOf x = 0 := by unfold kindOf; rw [if_neg hx1, if_neg hx2, if_neg hx3]
  have g1 : (x.word.toList == [114, 101, 97, 100]) = false := strK_ne _ hx1
  have g2 : (x.word.toList == [119, 114, 105, 116, 101]) = false := strK_ne _ hx2
  have g3 : (x.word.toList == [115, 121, 110, 99]) = false := strK_ne _ hx3
  obtain ⟨q0, hr0, ha0, he0, -⟩ := RI.step hf hr x (fun h' => by omega)
  have hm : m.asked x (q.doStep x).1 = m := by unfold Am.asked; rw [if_neg (by omega)]
  rw [hm] at hr0
  have HE : Hid (AStep q m x (q.doStep x).2 (m.told (q.doStep x).2)) := Or.inr ⟨fun h' => by omega, rfl, by rw [hm]⟩
  have HR : Hid (RI q0 m ∧ AI (q.doStep x).2 ∧ AEff q0 (q.doStep x).2) := ⟨hr0, ha0, he0⟩
  have HF := hidT (hf.doStep x)
  have HA := hidT h
  have hbox0 : Below w.heap.size w (w.alloc (.cells #[.string x.word, .int .i64 x.a, .int .i64 x.b, .string x.data] 33)) := by repeat (first | with_reducible exact Below.refl _ _ | with_reducible refine balloc ?_ _ | with_reducible refine bdrew ?_ | with_reducible refine bset' ?_ (by omega) _ | with_reducible refine bthen ?_ (by assumption))
  have HST := hidT (al_stepK W (w.alloc (.cells #[.string x.word, .int .i64 x.a, .int .i64 x.b, .string x.data] 33)).drew g s b q m N w h hbox0.drew n hf hn x (q.doStep x).1 (q.doStep x).2 rfl)
  obtain ⟨p, A, R, h⟩ := h
  have c66 := h.al.c66
  have c0 := h.al.c0
  have hl := h.al.lt
  clear h hr hr0 ha0 he0 hm hk hx1 hx2 hx3 hf hbox0
  obtain ⟨wd, xa, xb, dt⟩ := x
  go_enter Tryz.func23, Tryz.ntmps23
  go_wp2_with fail
  have HS : Hid (AtX g s w.heap.size ⟨wd, xa, xb, dt⟩ (w.alloc (.cells #[.string wd, .int .i64 xa, .int .i64 xb, .string dt] 33)).drew) := ⟨cellB_later' (below1 _ _).drew c0, by simp, by simp, by simp, by simp⟩
  refine region_till (S := AtX g s w.heap.size ⟨wd, xa, xb, dt⟩) (d := 5) (by kernel_rfl) ?_
  refine till_takeJ (i := 0) (v := ?_) [1, 2, 3] rfl (by kernel_rfl) (by kernel_rfl) (by kernel_rfl) (by kernel_rfl) (fun _ _ _ h => h) (Or.inl ⟨by rfl, ?_⟩) HS.out ?_; rotate_left; (focus (intro w0 hSw; obtain ⟨s0, s1, s2, s3, s4⟩ := hSw; go_simp; (try with_reducible rfl))); (try simp only [Act.put, List.getElem_toArray, List.getElem_cons_succ, List.getElem_cons_zero, List.setIfInBounds_toArray, List.set_cons_zero, List.set_cons_succ])
  refine till_takeJ (i := 1) (v := ?_) [2, 3] rfl (by kernel_rfl) (by kernel_rfl) (by kernel_rfl) (by kernel_rfl) (fun _ _ _ h => h) (Or.inl ⟨by rfl, ?_⟩) HS.out ?_; rotate_left; (focus (intro w0 hSw; obtain ⟨s0, s1, s2, s3, s4⟩ := hSw; go_simp; (try with_reducible rfl))); (try simp only [Act.put, List.getElem_toArray, List.getElem_cons_succ, List.getElem_cons_zero, List.setIfInBounds_toArray, List.set_cons_zero, List.set_cons_succ])
  refine till_takeJ (i := 2) (v := ?_) [3] rfl (by kernel_rfl) (by kernel_rfl) (by kernel_rfl) (by kernel_rfl) (fun _ _ _ h => h) (Or.inl ⟨by rfl, ?_⟩) HS.out ?_; rotate_left; (focus (intro w0 hSw; obtain ⟨s0, s1, s2, s3, s4⟩ := hSw; go_simp; (try with_reducible rfl))); (try simp only [Act.put, List.getElem_toArray, List.getElem_cons_succ, List.getElem_cons_zero, List.setIfInBounds_toArray, List.set_cons_zero, List.set_cons_succ])
  refine till_takeJ (i := 3) (v := ?_) [] rfl (by kernel_rfl) (by kernel_rfl) (by kernel_rfl) (by kernel_rfl) (fun _ _ _ h => h) (Or.inl ⟨by rfl, ?_⟩) HS.out ?_; rotate_left; (focus (intro w0 hSw; obtain ⟨s0, s1, s2, s3, s4⟩ := hSw; go_simp; (try with_reducible rfl))); (try simp only [Act.put, List.getElem_toArray, List.getElem_cons_succ, List.getElem_cons_zero, List.setIfInBounds_toArray, List.set_cons_zero, List.set_cons_succ])
  refine till_takeJ (i := 4) (v := ?_) [] rfl (by kernel_rfl) (by kernel_rfl) (by kernel_rfl) (by kernel_rfl) (fun _ _ _ h => h) (Or.inl ⟨by rfl, ?_⟩) HS.out ?_; rotate_left; (focus (intro w0 hSw; obtain ⟨s0, s1, s2, s3, s4⟩ := hSw; go_simp; (try with_reducible rfl))); (try simp only [Act.put, List.getElem_toArray, List.getElem_cons_succ, List.getElem_cons_zero, List.setIfInBounds_toArray, List.set_cons_zero, List.set_cons_succ])
  refine till_one (i := 5) rfl (by kernel_rfl) ?_
  intro K hK
  refine step_call2 rfl 18 31 32 _ _ rfl (by intro args w; go_simp) (.pointer (some ⟨s, 0, none⟩)) (Sp.val ⟨wd, xa, xb, dt⟩) rfl rfl _ _ HST.out ?_
  rintro w4 ⟨hA4, hz4, hk4⟩
  have hX4 : AtX g s w.heap.size ⟨wd, xa, xb, dt⟩ w4 := by
    have hx4 := (hk4 w.heap.size (Nat.le_refl _) (by simp)).trans (heap_alloc_new _ _)
    obtain ⟨_, _, _, h4⟩ := hA4
    exact ⟨h4.al.c0, by rw [cell_of_heapX hx4]; rfl, by rw [cell_of_heapX hx4]; rfl, by rw [cell_of_heapX hx4]; rfl, by rw [cell_of_heapX hx4]; rfl⟩
  have HX4 := hidT hX4
  have HA4 := hidT hA4
  clear hz4 hk4 hX4 hA4
  refine hK _ _ (fun h => absurd rfl h) ?_
  (try simp only [Act.put, List.getElem_toArray, List.getElem_cons_succ, List.getElem_cons_zero, List.setIfInBounds_toArray, List.set_cons_zero, List.set_cons_succ])
  clear hK
  refine till_one (i := 6) rfl (by kernel_rfl) ?_
  intro K hK
  go_simp
  refine hK _ _ (fun _ => HX4.out) ?_
  (try simp only [Act.put, List.getElem_toArray, List.getElem_cons_succ, List.getElem_cons_zero, List.setIfInBounds_toArray, List.set_cons_zero, List.set_cons_succ])
  clear hK
  refine till_done (by kernel_rfl) ?_ _
  generalize errOf (q.doStep ⟨wd, xa, xb, dt⟩).1 = ev
  go_wp2_with fail
  refine (answered_right W g s b N w4 q0 _ m HA4.out hN HR.out.1 HR.out.2.1 HR.out.2.2).mono ?_
  rintro e w5 ⟨rfl, hA5, hR5⟩
  have H5 : Hid (∃ q' m', AlW W g s b q' m' (N + 1) w5 ∧ RI q' m' ∧ Fit (n + 11) q' ∧ AStep q m ⟨wd, xa, xb, dt⟩ q' m') := ⟨_, _, hA5, hR5, HF.out, HE.out⟩
  clear hA5 hR5
  go_wp2
  go_ret
  exact ⟨rfl, H5.out⟩
end
end Go.Proofs.YtgjkdhedkbkagaaGreat
