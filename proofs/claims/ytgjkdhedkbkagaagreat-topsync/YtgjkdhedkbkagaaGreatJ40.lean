/- Who asks alone: what it keeps in mind, step by step. -/
import Derived.Test.YtgjkdhedkbkagaaGreatJ39
import Derived.Test.YtgjkdhedkbkagaaGreatJ37
import Derived.Test.YtgjkdhedkbkagaaGreatJ7
namespace Go.Proofs.YtgjkdhedkbkagaaGreat
open Go.RowKit
set_option maxRecDepth 100000

/-- What is kept in mind: what each sector has; what may be found behind a crash; what is waited for. -/
structure Am where
  now : List ByteArray
  since : List (List ByteArray)
  kind : Int
  pl : Int
  data : ByteArray
structure RI (q : Sk) (m : Am) : Prop where
  ai : AI q
  n32 : m.now.length = 32
  s32 : m.since.length = 32
  kind : m.kind = (q.client 0).kind
  pl : m.kind = 1 ∨ m.kind = 2 → m.pl = (q.client 0).pl
  data : m.kind = 2 → m.data = (q.client 0).data
  now : ∀ a : Int, 0 ≤ a → a ≤ 31 → m.now.getD a.toNat ByteArray.empty = q.val a
/-- What is kept in mind once it was looked for an answer. -/
def Am.told (m : Am) (q : Sk) : Am :=
  if m.kind = 0 ∨ ¬ (q.client 0).kind = 0 then m
  else if m.kind = 1 then { m with kind := 0 }
  else if m.kind = 2 then (if (q.client 0).err = 0 then { m with kind := 0, now := m.now.set m.pl.toNat m.data, since := m.since.set m.pl.toNat (m.since.getD m.pl.toNat [] ++ [m.data]) } else { m with kind := 0 })
  else (if (q.client 0).err = 0 then { m with kind := 0, since := m.now.map fun s => [s] } else { m with kind := 0 })
/-- The answer is right. -/
def Am.fine (m : Am) (q : Sk) : Prop := ¬ m.kind = 0 → (q.client 0).kind = 0 →
  (m.kind = 1 → (q.client 0).err = 8 ∨ ((q.client 0).err = 0 ∧ (q.client 0).got = m.now.getD m.pl.toNat ByteArray.empty)) ∧ (¬ m.kind = 1 → (q.client 0).err = 0 ∨ ((q.client 0).err = 9 ∧ q.dead = true))
theorem RI.told {p q : Sk} {m : Am} (h : RI p m) (hq : AI q) (e : AEff p q) : RI q (m.told q) ∧ m.fine q := by
  have hk4 := (h.ai.inv.client 0).kind
  have hpl := (h.ai.inv.client 0).pl
  have hkm := h.kind
  rcases e with ⟨hc, hv⟩ | ⟨hk, h0, ha, hv⟩ | ⟨hk, h0, he, hv⟩ | ⟨hk, h0, he, hd, hv⟩ | ⟨hk, h0, he, hv⟩
  · obtain ⟨c1, c2, c3, c4, c5⟩ := hc
    have e0 : m.told q = m := by
      unfold Am.told
      rw [if_pos]
      by_cases h0 : m.kind = 0
      · exact Or.inl h0
      · exact Or.inr (by rw [c1, ← hkm]; exact h0)
    rw [e0]
    refine ⟨⟨hq, h.n32, h.s32, by rw [c1]; exact hkm, fun hk => by rw [c2]; exact h.pl hk, fun hk => by rw [c3]; exact h.data hk, fun a a0 a1 => by rw [hv]; exact h.now a a0 a1⟩, fun h1 h2 => ?_⟩
    rw [c1, ← hkm] at h2
    exact absurd h2 h1
  · have k1 : m.kind = 1 := hkm.trans hk
    have e0 : m.told q = { m with kind := 0 } := by unfold Am.told; rw [if_neg (by omega), if_pos k1]
    rw [e0]
    refine ⟨⟨hq, h.n32, h.s32, h0.symm, fun hk => ?_, fun hk => ?_, fun a a0 a1 => by rw [hv]; exact h.now a a0 a1⟩, fun _ _ => ⟨fun _ => ?_, fun hn => absurd k1 hn⟩⟩
    · rcases hk with hk | hk <;> cases hk
    · cases hk
    · have hp := hpl (by rw [hk]; omega)
      rcases ha with ⟨e1, e2⟩ | e1
      · right
        refine ⟨e1, ?_⟩
        rw [h.pl (Or.inl k1), h.now _ hp.1 hp.2]; exact e2
      · exact Or.inl e1
  · have k2 : m.kind = 2 := hkm.trans hk
    have hp := hpl (by rw [hk]; omega)
    have e0 : m.told q = { m with kind := 0, now := m.now.set m.pl.toNat m.data, since := m.since.set m.pl.toNat (m.since.getD m.pl.toNat [] ++ [m.data]) } := by unfold Am.told; rw [if_neg (by omega), if_neg (by omega), if_pos k2, if_pos he]
    rw [e0]
    refine ⟨⟨hq, by show (List.set _ _ _).length = 32; rw [List.length_set]; exact h.n32, by show (List.set _ _ _).length = 32; rw [List.length_set]; exact h.s32, h0.symm, fun hk => ?_, fun hk => ?_, fun a a0 a1 => ?_⟩, fun _ _ => ⟨fun hn => absurd hn (by omega), fun _ => Or.inl he⟩⟩
    · rcases hk with hk | hk <;> cases hk
    · cases hk
    · rw [hv, ← h.pl (Or.inr k2), ← h.data k2]
      have hpm := h.pl (Or.inr k2)
      show (m.now.set m.pl.toNat m.data).getD a.toNat ByteArray.empty = _
      by_cases e : a = m.pl
      · rw [if_pos e, e, List.getD_eq_getElem?_getD, List.getElem?_set_self (by rw [h.n32]; omega)]; rfl
      · rw [if_neg e, List.getD_eq_getElem?_getD, List.getElem?_set_ne (by omega), ← List.getD_eq_getElem?_getD]
        exact h.now a a0 a1
  · have k23 : m.kind = 2 ∨ m.kind = 3 := by rw [hkm]; exact hk
    have e0 : m.told q = { m with kind := 0 } := by
      unfold Am.told
      rw [if_neg (by omega), if_neg (by omega)]
      split
      · rw [if_neg (by omega)]
      · rw [if_neg (by omega)]
    rw [e0]
    refine ⟨⟨hq, h.n32, h.s32, h0.symm, fun hk => ?_, fun hk => ?_, fun a a0 a1 => by rw [hv]; exact h.now a a0 a1⟩, fun _ _ => ⟨fun hn => absurd hn (by omega), fun _ => Or.inr ⟨he, hd⟩⟩⟩
    · rcases hk with hk | hk <;> cases hk
    · cases hk
  · have k3 : m.kind = 3 := hkm.trans hk
    have e0 : m.told q = { m with kind := 0, since := m.now.map fun s => [s] } := by unfold Am.told; rw [if_neg (by omega), if_neg (by omega), if_neg (by omega), if_pos he]
    rw [e0]
    refine ⟨⟨hq, h.n32, by show (List.map _ _).length = 32; rw [List.length_map]; exact h.n32, h0.symm, fun hk => ?_, fun hk => ?_, fun a a0 a1 => by rw [hv]; exact h.now a a0 a1⟩, fun _ _ => ⟨fun hn => absurd hn (by omega), fun _ => Or.inl he⟩⟩
    · rcases hk with hk | hk <;> cases hk
    · cases hk
def kindOf (x : Sp) : Int := if x.word = wRead then 1 else if x.word = wWrite then 2 else if x.word = wSync then 3 else 0
/-- What is kept in mind once a step was done. -/
def Am.asked (m : Am) (x : Sp) (e : Int) : Am := if 0 < kindOf x ∧ e = 0 then { m with kind := kindOf x, pl := x.b, data := x.data } else m
theorem asks_alone {p : Sk} (h : AI p) (kind pl : Int) (data : ByteArray) (hf : askFault 0 kind pl data = 0) : AI (p.asks 0 kind pl data) ∧ (∀ a, (p.asks 0 kind pl data).val a = p.val a) ∧ ((p.asks 0 kind pl data).client 0).kind = kind ∧ ((p.asks 0 kind pl data).client 0).pl = pl ∧ ((p.asks 0 kind pl data).client 0).data = data := by
  have z := askFault_zero hf
  have hc : (p.asks 0 kind pl data).client 0 = { p.client 0 with kind := kind, pl := pl, data := data, left := if kind = 3 then dirtyOnes p.hand else (p.client 0).left } := by
    unfold Sk.asks; rw [clientSet p h.inv.cl3 (by omega), if_pos rfl]
  refine ⟨⟨h.inv.asks 0 kind pl data z.2.1 z.2.2.1 z.2.2.2.2.1, h.tight.congr rfl (fun _ hr => hr), fun i hi h0 => ?_, h.same⟩, fun _ => rfl, by rw [hc], by rw [hc], by rw [hc]⟩
  unfold Sk.asks
  rw [clientSet_ne p h0]; exact h.only i hi h0
theorem ask_right {p : Sk} {m : Am} (h : RI p m) (kind pl : Int) (data : ByteArray) (x : Sp) (hx : kindOf x = kind) (hkind : kind = 1 ∨ kind = 2 ∨ kind = 3) (hxb : kind = 1 ∨ kind = 2 → x.b = pl) (hxd : kind = 2 → x.data = data) (hs : p.doStep x = p.ask 0 kind pl data) : ∃ q0, RI q0 (m.asked x (p.doStep x).1) ∧ AI (p.doStep x).2 ∧ AEff q0 (p.doStep x).2 ∧ ((p.doStep x).1 = 0 → m.kind = 0) := by
  rw [hs]
  unfold Sk.ask
  by_cases hf : askFault 0 kind pl data = 0
  · rw [if_neg (by simpa using hf)]
    by_cases hw : p.waits 0 = true
    · rw [if_pos hw]
      refine ⟨p, ?_, h.ai, AEff.refl p, fun e => by cases e⟩
      have : m.asked x 6 = m := by unfold Am.asked; rw [if_neg (by omega)]
      rw [this]; exact h
    · rw [if_neg hw]
      have hk0 : (p.client 0).kind = 0 := (waits_no p 0 (by omega)).1 (by simpa using hw)
      obtain ⟨a1, a2, a3, a4, a5⟩ := asks_alone h.ai kind pl data hf
      have e0 : m.asked x 0 = { m with kind := kind, pl := x.b, data := x.data } := by unfold Am.asked; rw [hx, if_pos ⟨by omega, rfl⟩]
      have hsv := alone_serve a1
      refine ⟨p.asks 0 kind pl data, ?_, hsv.1, hsv.2, fun _ => h.kind.trans hk0⟩
      rw [e0]
      exact ⟨a1, h.n32, h.s32, a3.symm, fun hk => by rw [a4]; exact hxb hk, fun hk => by rw [a5]; exact hxd hk, fun a b1 b2 => by rw [a2]; exact h.now a b1 b2⟩
  · rw [if_pos hf]
    refine ⟨p, ?_, h.ai, AEff.refl p, fun e => absurd e hf⟩
    have : m.asked x (askFault 0 kind pl data) = m := by unfold Am.asked; rw [if_neg (fun h' => hf h'.2)]
    rw [this]; exact h
/-- A step of one who asks alone. -/
theorem RI.step {n : Nat} {p : Sk} {m : Am} (hf : Fit n p) (h : RI p m) (x : Sp) (hx : 0 < kindOf x → x.a = 0) : ∃ q0, RI q0 (m.asked x (p.doStep x).1) ∧ AI (p.doStep x).2 ∧ AEff q0 (p.doStep x).2 ∧ (0 < kindOf x → (p.doStep x).1 = 0 → m.kind = 0) := by
  by_cases k1 : x.word = wRead
  · have hk : kindOf x = 1 := by unfold kindOf; rw [if_pos k1]
    have ha := hx (by omega)
    have hs : p.doStep x = p.ask 0 1 x.b ByteArray.empty := by unfold Sk.doStep; rw [if_pos k1, ha]
    obtain ⟨q0, h1, h2, h3, h4⟩ := ask_right h 1 x.b ByteArray.empty x hk (Or.inl rfl) (fun _ => rfl) (fun e => by omega) hs
    exact ⟨q0, h1, h2, h3, fun _ => h4⟩
  by_cases k2 : x.word = wWrite
  · have hk : kindOf x = 2 := by unfold kindOf; rw [if_neg k1, if_pos k2]
    have ha := hx (by omega)
    have hs : p.doStep x = p.ask 0 2 x.b x.data := by unfold Sk.doStep; rw [if_neg k1, if_pos k2, ha]
    obtain ⟨q0, h1, h2, h3, h4⟩ := ask_right h 2 x.b x.data x hk (Or.inr (Or.inl rfl)) (fun _ => rfl) (fun _ => rfl) hs
    exact ⟨q0, h1, h2, h3, fun _ => h4⟩
  by_cases k3 : x.word = wSync
  · have hk : kindOf x = 3 := by unfold kindOf; rw [if_neg k1, if_neg k2, if_pos k3]
    have ha := hx (by omega)
    have hs : p.doStep x = p.ask 0 3 0 ByteArray.empty := by unfold Sk.doStep; rw [if_neg k1, if_neg k2, if_pos k3, ha]
    obtain ⟨q0, h1, h2, h3, h4⟩ := ask_right h 3 0 ByteArray.empty x hk (Or.inr (Or.inr rfl)) (fun e => by omega) (fun e => by omega) hs
    exact ⟨q0, h1, h2, h3, fun _ => h4⟩
  have hk : kindOf x = 0 := by unfold kindOf; rw [if_neg k1, if_neg k2, if_neg k3]
  have ha : m.asked x (p.doStep x).1 = m := by unfold Am.asked; rw [if_neg (by omega)]
  rw [ha]
  have key : AI (p.doStep x).2 ∧ AEff p (p.doStep x).2 := by
    unfold Sk.doStep
    rw [if_neg k1, if_neg k2, if_neg k3]
    split
    · exact alone_tick h.ai
    split
    · exact alone_clean h.ai
    split
    · exact alone_dispatch h.ai
    split
    · exact alone_end h.ai hf.short _ _
    split
    · exact alone_end h.ai hf.short _ _
    split
    · exact alone_round hf h.ai
    · exact ⟨h.ai, AEff.refl p⟩
  exact ⟨p, h, key.1, key.2, fun h' => by omega⟩
theorem sk0_ai : AI sk0 := ⟨sk0_fit.inv, sk0_firm.tight, fun i hi _ => by
  match i, hi with
  | 0, _ => rfl
  | 1, _ => rfl
  | 2, _ => rfl, fun a x hx => by cases hx⟩
theorem sk0_ri (S : List (List ByteArray)) (hS : S.length = 32) (pl : Int) : RI sk0 ⟨List.replicate 32 ByteArray.empty, S, 0, pl, ByteArray.empty⟩ := by
  refine ⟨sk0_ai, by simp, hS, rfl, (fun h => by rcases h with h | h <;> cases h), (fun h => by cases h), fun a a0 a1 => ?_⟩
  show (List.replicate 32 ByteArray.empty).getD a.toNat ByteArray.empty = (if 0 ≤ a then (List.replicate 32 ByteArray.empty).getD a.toNat ByteArray.empty else ByteArray.empty)
  rw [if_pos a0]
end Go.Proofs.YtgjkdhedkbkagaaGreat
/- Who asks alone, in memory. -/
namespace Go.Proofs.YtgjkdhedkbkagaaGreat
open Go.RowKit Go.BigFrame Go.Maps
set_option maxRecDepth 100000
attribute [local go_sem] Later.cell Later.frozen

/-- Where the rows of strings lie. -/
structure Ar where
  sa : Nat → Option Addr
  sc : Nat → Nat
def sinceV (m : Am) (R : Ar) : List Value := (List.range 32).map fun k => Value.slice (R.sa k) (m.since.getD k []).length (R.sc k)
def Am.cells (m : Am) (s b : Nat) (R : Ar) : List Value := ([Value.pointer (some ⟨s, 0, none⟩), Value.pointer (some ⟨b, 0, none⟩)] ++ strV m.now) ++ (sinceV m R ++ [Value.int .i64 m.kind, Value.int .i64 m.pl, Value.string m.data])
structure AlAt (g s b : Nat) (m : Am) (R : Ar) (N : Nat) (w : World) : Prop where
  blk : w.heap[g]? = some (.cells (m.cells s b R).toArray 49 (0, 0))
  n32 : m.now.length = 32
  s32 : m.since.length = 32
  rows : ∀ k, k < 32 → StrsAt w (R.sa k) (m.since.getD k []) ∧ (R.sa k = none → R.sc k = 0) ∧ (m.since.getD k []).length ≤ N
section
variable {g s b N : Nat} {m : Am} {R : Ar} {w w' : World}
theorem sinceV_len : (sinceV m R).length = 32 := by simp [sinceV]
theorem head_len (h : m.now.length = 32) : ([Value.pointer (some ⟨s, 0, none⟩), Value.pointer (some ⟨b, 0, none⟩)] ++ strV m.now).length = 34 := by simp [strV_length, h]
theorem AlAt.lt (h : AlAt g s b m R N w) : g < w.heap.size := lt_of_heap h.blk
theorem AlAt.fz (h : AlAt g s b m R N w) (j : Nat) : w.frozen? ⟨g, j, none⟩ = false := frozen_of_heap h.blk j
theorem AlAt.cell (h : AlAt g s b m R N w) (j : Nat) (u : Value) (hj : (m.cells s b R)[j]? = some u) : w.cell? ⟨g, j, none⟩ = some u := (cell_of_heap h.blk j).trans hj
theorem AlAt.c0 (h : AlAt g s b m R N w) : w.cell? ⟨g, 0, none⟩ = some (.pointer (some ⟨s, 0, none⟩)) := h.cell 0 _ rfl
theorem AlAt.c1 (h : AlAt g s b m R N w) : w.cell? ⟨g, 1, none⟩ = some (.pointer (some ⟨b, 0, none⟩)) := h.cell 1 _ rfl
theorem AlAt.cNow (h : AlAt g s b m R N w) (k : Nat) (hk : k < 32) : w.cell? ⟨g, 2 + k, none⟩ = some (.string (m.now.getD k ByteArray.empty)) := by
  refine h.cell _ _ ?_
  have hn := h.n32
  unfold Am.cells
  rw [List.getElem?_append_left (by rw [head_len hn]; omega), List.getElem?_append_right (by simp)]
  simp only [List.length_cons, List.length_nil]
  rw [show 2 + k - (0 + 1 + 1) = k by omega]
  unfold strV
  rw [List.getElem?_map, List.getD_eq_getElem?_getD, List.getElem?_eq_getElem (by omega)]
  rfl
theorem AlAt.cSince (h : AlAt g s b m R N w) (k : Nat) (hk : k < 32) : w.cell? ⟨g, 34 + k, none⟩ = some (.slice (R.sa k) (m.since.getD k []).length (R.sc k)) := by
  refine h.cell _ _ ?_
  unfold Am.cells
  rw [List.getElem?_append_right (by rw [head_len h.n32]; omega), head_len h.n32, List.getElem?_append_left (by rw [sinceV_len]; omega), show 34 + k - 34 = k by omega]
  unfold sinceV
  rw [List.getElem?_map, List.getElem?_range hk]
  rfl
theorem cellsTail (hn : m.now.length = 32) (j : Nat) (hj : 66 ≤ j) : (m.cells s b R)[j]? = [Value.int .i64 m.kind, Value.int .i64 m.pl, Value.string m.data][j - 66]? := by
  unfold Am.cells
  rw [List.getElem?_append_right (by rw [head_len hn]; omega), head_len hn, List.getElem?_append_right (by rw [sinceV_len]; omega), sinceV_len, show j - 34 - 32 = j - 66 by omega]
theorem AlAt.c66 (h : AlAt g s b m R N w) : w.cell? ⟨g, 66, none⟩ = some (.int .i64 m.kind) := h.cell _ _ (by rw [cellsTail h.n32 66 (by omega)]; rfl)
theorem AlAt.c67 (h : AlAt g s b m R N w) : w.cell? ⟨g, 67, none⟩ = some (.int .i64 m.pl) := h.cell _ _ (by rw [cellsTail h.n32 67 (by omega)]; rfl)
theorem AlAt.c68 (h : AlAt g s b m R N w) : w.cell? ⟨g, 68, none⟩ = some (.string m.data) := h.cell _ _ (by rw [cellsTail h.n32 68 (by omega)]; rfl)
/-- It stands when nothing of it turns. -/
theorem AlAt.frame {F : Nat → Prop} (h : AlAt g s b m R N w) (hO : Only F w w') (hg : ¬ F g) (hr : ∀ k, k < 32 → ∀ ad, R.sa k = some ad → ¬ F ad.block) : AlAt g s b m R N w' :=
  ⟨by rw [hO.block g h.lt hg]; exact h.blk, h.n32, h.s32, fun k hk => ⟨strs_frame (h.rows k hk).1 hO (fun _ ad ha => hr k hk ad ha), (h.rows k hk).2⟩⟩
theorem AlAt.later (h : AlAt g s b m R N w) (hb : Below w.heap.size w w') : AlAt g s b m R N w' := h.frame (F := fun _ => False) (Only.of_below hb) (fun e => e) (fun _ _ _ _ e => e)
/-- A cell of its own is written. -/
theorem AlAt.put {m' : Am} {R' : Ar} {N' : Nat} (h : AlAt g s b m R N w) (j : Nat) (u : Value) (hc : (m.cells s b R).set j u = m'.cells s b R') (hn : m'.now.length = 32) (hs : m'.since.length = 32) (hr : ∀ k, k < 32 → StrsAt w (R'.sa k) (m'.since.getD k []) ∧ (R'.sa k = none → R'.sc k = 0) ∧ (m'.since.getD k []).length ≤ N') (ho : ∀ k, k < 32 → ∀ ad, R'.sa k = some ad → ad.block ≠ g) : AlAt g s b m' R' N' (w.setCell ⟨g, j, none⟩ u) :=
  ⟨by rw [set_same h.blk, hc], hn, hs, fun k hk => ⟨strs_frame (F := fun i => i = g) (hr k hk).1 ((Only.refl (fun i => i = g) w).setCell ⟨g, j, none⟩ (Or.inl rfl) u) (fun _ ad ha => ho k hk ad ha), (hr k hk).2⟩⟩
theorem setTail (hn : m.now.length = 32) (j : Nat) (hj : 66 ≤ j) (u : Value) : (m.cells s b R).set j u = ([Value.pointer (some ⟨s, 0, none⟩), Value.pointer (some ⟨b, 0, none⟩)] ++ strV m.now) ++ (sinceV m R ++ [Value.int .i64 m.kind, Value.int .i64 m.pl, Value.string m.data].set (j - 66) u) := by
  unfold Am.cells
  rw [List.set_append_right _ _ (by rw [head_len hn]; omega), head_len hn, List.set_append_right _ _ (by rw [sinceV_len]; omega), sinceV_len, show j - 34 - 32 = j - 66 by omega]
theorem set66 (hn : m.now.length = 32) (k : Int) : (m.cells s b R).set 66 (.int .i64 k) = ({ m with kind := k } : Am).cells s b R := setTail hn 66 (by omega) _
theorem set67 (hn : m.now.length = 32) (k : Int) : (m.cells s b R).set 67 (.int .i64 k) = ({ m with pl := k } : Am).cells s b R := setTail hn 67 (by omega) _
theorem set68 (hn : m.now.length = 32) (x : ByteArray) : (m.cells s b R).set 68 (.string x) = ({ m with data := x } : Am).cells s b R := setTail hn 68 (by omega) _
theorem setNow (hn : m.now.length = 32) (k : Nat) (hk : k < 32) (x : ByteArray) : (m.cells s b R).set (2 + k) (.string x) = ({ m with now := m.now.set k x } : Am).cells s b R := by
  unfold Am.cells
  rw [List.set_append_left _ _ (by rw [head_len hn]; omega), List.set_append_right _ _ (by simp)]
  simp only [List.length_cons, List.length_nil]
  rw [show 2 + k - (0 + 1 + 1) = k by omega]
  congr 2
  unfold strV
  rw [List.map_set]
def Ar.lay (R : Ar) (k : Nat) (a : Option Addr) (c : Nat) : Ar := ⟨fun j => if j = k then a else R.sa j, fun j => if j = k then c else R.sc j⟩
theorem setSince (hn : m.now.length = 32) (hs : m.since.length = 32) (k : Nat) (hk : k < 32) (l : List ByteArray) (a : Option Addr) (c : Nat) : (m.cells s b R).set (34 + k) (.slice a l.length c) = ({ m with since := m.since.set k l } : Am).cells s b (R.lay k a c) := by
  unfold Am.cells
  rw [List.set_append_right _ _ (by rw [head_len hn]; omega), head_len hn, List.set_append_left _ _ (by rw [sinceV_len]; omega), show 34 + k - 34 = k by omega]
  congr 2
  unfold sinceV
  refine List.ext_getElem? (fun j => ?_)
  by_cases hj : j < 32
  · by_cases e : j = k
    · subst e
      rw [List.getElem?_set_self (by simp; omega), List.getElem?_map, List.getElem?_range hj]
      simp [Ar.lay, List.getD_eq_getElem?_getD, List.getElem?_set_self (show j < m.since.length by omega)]
    · rw [List.getElem?_set_ne (fun h => e h.symm), List.getElem?_map, List.getElem?_map, List.getElem?_range hj]
      simp [Ar.lay, e, List.getD_eq_getElem?_getD, List.getElem?_set_ne (fun h => e h.symm)]
  · rw [List.getElem?_eq_none (by simp; omega), List.getElem?_eq_none (by simp; omega)]
end
end Go.Proofs.YtgjkdhedkbkagaaGreat
/- Who asks alone over a stack of its own, in memory: what stands at each step. -/
namespace Go.Proofs.YtgjkdhedkbkagaaGreat
open Go.RowKit Go.BigFrame Go.Maps
set_option maxRecDepth 100000
attribute [local go_sem] Later.cell Later.frozen

structure AlR (W : World) (g s b : Nat) (q : Sk) (m : Am) (N : Nat) (p : Sk) (A : Sa) (R : Ar) (wr : World) : Prop where
  st : StkAt s p A wr
  nf : p.nf = q
  hb : A.b = b
  foot : ∀ k, A.foot s k → W.heap.size ≤ k
  bel : Below W.heap.size W wr
  al : AlAt g s b m R N wr
  gM : g < A.M
  gf : ¬ A.foot s g
  gv : A.v ≠ g
  rows : ∀ k, k < 32 → ∀ ad, R.sa k = some ad → ¬ A.foot s ad.block ∧ ad.block ≠ g ∧ ad.block < wr.heap.size
  gW : W.heap.size ≤ g
def AlW (W : World) (g s b : Nat) (q : Sk) (m : Am) (N : Nat) (wr : World) : Prop := ∃ p A R, AlR W g s b q m N p A R wr
section
variable {W wr w' : World} {g s b N : Nat} {q q' : Sk} {m : Am}
theorem AlR.later {p : Sk} {A : Sa} {R : Ar} (h : AlR W g s b q m N p A R wr) (hb : Below wr.heap.size wr w') : AlR W g s b q m N p A R w' :=
  ⟨h.st.later hb, h.nf, h.hb, h.foot, bthen h.bel hb, h.al.later hb, h.gM, h.gf, h.gv, fun k hk ad ha => ⟨(h.rows k hk ad ha).1, (h.rows k hk ad ha).2.1, Nat.lt_of_lt_of_le (h.rows k hk ad ha).2.2 hb.size⟩, h.gW⟩
theorem AlW.later (h : AlW W g s b q m N wr) (hb : Below wr.heap.size wr w') : AlW W g s b q m N w' := by
  obtain ⟨p, A, R, h⟩ := h
  exact ⟨p, A, R, h.later hb⟩
theorem AlW.bel (h : AlW W g s b q m N wr) : Below W.heap.size W wr := by obtain ⟨_, _, _, h⟩ := h; exact h.bel
/-- A call of the stack. -/
theorem AlR.step {p : Sk} {A : Sa} {R : Ar} (h : AlR W g s b q m N p A R wr) (hok : SOk s p A wr w' q') : AlW W g s b q' m N w' := by
  obtain ⟨p', A', hs, hn⟩ := hok
  have hnew : ∀ k, k < wr.heap.size → ¬ A.foot s k → ¬ A'.foot s k := fun k h1 h2 e => (hs.foot k e).elim h2 (fun h3 => by omega)
  refine ⟨p', A', R, hs.at', hn, hs.same.1.trans h.hb, fun k hk => (hs.foot k hk).elim (h.foot k) (fun h' => Nat.le_trans h.bel.size h'), h.bel.trans (hs.only.below h.bel.size h.foot), h.al.frame hs.only h.gf (fun k hk ad ha => (h.rows k hk ad ha).1), ?_, hnew g h.al.lt h.gf, ?_, fun k hk ad ha => ⟨hnew _ (h.rows k hk ad ha).2.2 (h.rows k hk ad ha).1, (h.rows k hk ad ha).2.1, Nat.lt_of_lt_of_le (h.rows k hk ad ha).2.2 hs.only.size⟩, h.gW⟩
  · rw [hs.same.2.2.2]; exact h.gM
  · rw [hs.same.2.1]; exact h.gv
/-- A cell of its own is written. -/
theorem AlR.put {p : Sk} {A : Sa} {R R' : Ar} {m' : Am} {N' : Nat} (h : AlR W g s b q m N p A R wr) (j : Nat) (u : Value) (hc : (m.cells s b R).set j u = m'.cells s b R') (hn : m'.now.length = 32) (hs : m'.since.length = 32) (hr : ∀ k, k < 32 → StrsAt wr (R'.sa k) (m'.since.getD k []) ∧ (R'.sa k = none → R'.sc k = 0) ∧ (m'.since.getD k []).length ≤ N') (ho : ∀ k, k < 32 → ∀ ad, R'.sa k = some ad → ¬ A.foot s ad.block ∧ ad.block ≠ g ∧ ad.block < wr.heap.size) : AlR W g s b q m' N' p A R' (wr.setCell ⟨g, j, none⟩ u) := by
  have hO : Only (fun i => i = g) wr (wr.setCell ⟨g, j, none⟩ u) := (Only.refl (fun i => i = g) wr).setCell ⟨g, j, none⟩ (Or.inl rfl) u
  have hoffg : ∀ k, ¬ A.off s k → k ≠ g := fun k hk e => hk (Or.inr (by rw [e]; exact h.gM))
  refine ⟨h.st.frame hO (fun k hk e => h.gf (e ▸ hk)) h.gv (fun hne q' hq' => hoffg _ (h.st.mem.hoffX hne q' hq')) (fun hne q' hq' => hoffg _ (h.st.mem.qoffX hne q' hq')) (fun r hr' => ⟨fun he ad ha => hoffg _ ((h.st.mem.roffX r hr').1 he ad ha), fun he ad ha => hoffg _ ((h.st.mem.roffX r hr').2 he ad ha)⟩), h.nf, h.hb, h.foot, h.bel.trans (hO.below h.bel.size (fun k hk => by rw [hk]; exact h.gW)), h.al.put j u hc hn hs hr (fun k hk ad ha => (ho k hk ad ha).2.1), h.gM, h.gf, h.gv, fun k hk ad ha => ⟨(ho k hk ad ha).1, (ho k hk ad ha).2.1, Nat.lt_of_lt_of_le (ho k hk ad ha).2.2 hO.size⟩, h.gW⟩
theorem AlR.kind {p : Sk} {A : Sa} {R : Ar} (h : AlR W g s b q m N p A R wr) (k : Int) : AlR W g s b q { m with kind := k } N p A R (wr.setCell ⟨g, 66, none⟩ (.int .i64 k)) := h.put 66 _ (set66 h.al.n32 k) h.al.n32 h.al.s32 h.al.rows h.rows
theorem AlR.pl {p : Sk} {A : Sa} {R : Ar} (h : AlR W g s b q m N p A R wr) (k : Int) : AlR W g s b q { m with pl := k } N p A R (wr.setCell ⟨g, 67, none⟩ (.int .i64 k)) := h.put 67 _ (set67 h.al.n32 k) h.al.n32 h.al.s32 h.al.rows h.rows
theorem AlR.data {p : Sk} {A : Sa} {R : Ar} (h : AlR W g s b q m N p A R wr) (x : ByteArray) : AlR W g s b q { m with data := x } N p A R (wr.setCell ⟨g, 68, none⟩ (.string x)) := h.put 68 _ (set68 h.al.n32 x) h.al.n32 h.al.s32 h.al.rows h.rows
theorem AlR.now {p : Sk} {A : Sa} {R : Ar} (h : AlR W g s b q m N p A R wr) (k : Nat) (hk : k < 32) (x : ByteArray) : AlR W g s b q { m with now := m.now.set k x } N p A R (wr.setCell ⟨g, 2 + k, none⟩ (.string x)) := h.put (2 + k) _ (setNow h.al.n32 k hk x) (by show (List.set _ _ _).length = 32; rw [List.length_set]; exact h.al.n32) h.al.s32 h.al.rows h.rows
theorem AlR.since {p : Sk} {A : Sa} {R : Ar} (h : AlR W g s b q m N p A R wr) (k : Nat) (hk : k < 32) (l : List ByteArray) (a : Option Addr) (c : Nat) (hl : StrsAt wr a l) (hc : a = none → c = 0) (hlen : l.length ≤ N + 1) (ha : ∀ ad, a = some ad → ¬ A.foot s ad.block ∧ ad.block ≠ g ∧ ad.block < wr.heap.size) : AlR W g s b q { m with since := m.since.set k l } (N + 1) p A (R.lay k a c) (wr.setCell ⟨g, 34 + k, none⟩ (.slice a l.length c)) := by
  refine h.put (34 + k) _ (setSince h.al.n32 h.al.s32 k hk l a c) h.al.n32 (by show (List.set _ _ _).length = 32; rw [List.length_set]; exact h.al.s32) (fun j hj => ?_) (fun j hj ad => ?_)
  · show StrsAt wr (if j = k then a else R.sa j) ((m.since.set k l).getD j []) ∧ _ ∧ _
    by_cases e : j = k
    · subst e
      have hg : (m.since.set j l).getD j [] = l := by rw [List.getD_eq_getElem?_getD, List.getElem?_set_self (by rw [h.al.s32]; exact hj)]; rfl
      simp only [Ar.lay, if_true]
      rw [hg]; exact ⟨hl, hc, hlen⟩
    · have hg : (m.since.set k l).getD j [] = m.since.getD j [] := by rw [List.getD_eq_getElem?_getD, List.getElem?_set_ne (fun h => e h.symm), ← List.getD_eq_getElem?_getD]
      simp only [Ar.lay, if_neg e]
      rw [hg]
      have := h.al.rows j hj
      exact ⟨this.1, this.2.1, Nat.le_succ_of_le this.2.2⟩
  · show (if j = k then a else R.sa j) = some ad → _
    by_cases e : j = k
    · rw [if_pos e]; exact ha ad
    · rw [if_neg e]; exact h.rows j hj ad
end
section
variable (W w : World) (g s b : Nat) (q : Sk) (m : Am) (N : Nat)
theorem al_waits (h : AlW W g s b q m N w) (t : Bool) (ht : q.waits 0 = t) : Calls Tryz.prog 31 #[.pointer (some ⟨s, 0, none⟩), .int .i64 0] w fun e w' => e = .returned (.bool t) ∧ w' = w := by
  obtain ⟨p, A, R, h⟩ := h
  have := h.nf
  subst this
  exact waits_any s p A 0 w h.st t ht
theorem al_dead (h : AlW W g s b q m N w) : Calls Tryz.prog 28 #[.pointer (some ⟨s, 0, none⟩)] w fun e w' => e = .returned (.bool q.dead) ∧ w' = w := by
  obtain ⟨p, A, R, h⟩ := h
  have := h.nf
  subst this
  exact dead_any s p A w h.st
theorem al_got (h : AlW W g s b q m N w) : Calls Tryz.prog 27 #[.pointer (some ⟨s, 0, none⟩), .int .i64 0] w fun e w' => e = .returned (.tuple #[.string (q.client 0).got, errOf (q.client 0).err]) ∧ Below w.heap.size w w' := by
  obtain ⟨p, A, R, h⟩ := h
  have := h.nf
  subst this
  exact got_in s p A 0 (by omega) w h.st
end
end Go.Proofs.YtgjkdhedkbkagaaGreat
/- Who asks alone: was it answered? -/
namespace Go.Proofs.YtgjkdhedkbkagaaGreat
open Go.RowKit Go.BigFrame Go.Maps
set_option maxRecDepth 100000
attribute [local go_sem] Later.cell Later.frozen

section
variable (W w : World) (g s b : Nat) (q : Sk) (m : Am) (N : Nat)
set_option maxRecDepth 100000 in
set_option maxHeartbeats 2000000 in
theorem answered_idle (h : AlW W g s b q m N w) (hk : m.kind = 0) : Calls Tryz.prog 46 #[.pointer (some ⟨g, 0, none⟩)] w fun e w' => e = .returned (.bool true) ∧ AlW W g s b q m N w' := by
  have HA := hidT h
  obtain ⟨p, A, R, h⟩ := h
  have c66 := h.al.c66
  rw [hk] at c66
  have hl := h.al.lt
  clear h
  go_enter Tryz.func46, Tryz.ntmps46
  go_wp2
  go_ret
  exact ⟨rfl, HA.out⟩
set_option maxRecDepth 100000 in
set_option maxHeartbeats 2000000 in
theorem answered_waits (h : AlW W g s b q m N w) (hk : ¬ m.kind = 0) (hw : q.waits 0 = true) : Calls Tryz.prog 46 #[.pointer (some ⟨g, 0, none⟩)] w fun e w' => e = .returned (.bool true) ∧ AlW W g s b q m N w' := by
  have HA := hidT h
  have HW := hidT hw
  obtain ⟨p, A, R, h⟩ := h
  have c66 := h.al.c66
  have c0 := h.al.c0
  have hl := h.al.lt
  have k2 : (m.kind == 0) = false := beq_eq_false_iff_ne.2 hk
  clear h hw
  go_enter Tryz.func46, Tryz.ntmps46
  go_wp2_with fail
  refine (al_waits W w g s b q m N HA.out true HW.out).mono ?_
  rintro e w1 ⟨rfl, rfl⟩
  go_wp2
  go_ret
  exact ⟨rfl, HA.out⟩
end
end Go.Proofs.YtgjkdhedkbkagaaGreat
/- Who asks alone: a write, or a sync, of a dead program. -/
namespace Go.Proofs.YtgjkdhedkbkagaaGreat
open Go.RowKit Go.BigFrame Go.Maps
set_option maxRecDepth 100000
attribute [local go_sem] Later.cell Later.frozen

section
variable (W w : World) (g s b : Nat) (q : Sk) (m : Am) (N : Nat)
set_option linter.unusedSimpArgs false in
set_option maxRecDepth 100000 in
set_option maxHeartbeats 4000000 in
theorem answered_died2 (h : AlW W g s b q m N w) (hk : m.kind = 2) (hw : q.waits 0 = false) (he : (q.client 0).err = 9) (hd : q.dead = true) : Calls Tryz.prog 46 #[.pointer (some ⟨g, 0, none⟩)] w fun e w' => e = .returned (.bool true) ∧ AlW W g s b q { m with kind := 0 } N w' := by
  have HA := hidT h
  have HW := hidT hw
  have HD := hidT hd
  have HE9 := hidT he
  obtain ⟨p, A, R, h⟩ := h
  have c66 := h.al.c66
  rw [hk] at c66
  have f66 := h.al.fz 66
  have c0 := h.al.c0
  have hl := h.al.lt
  have HK := hidT (h.kind 0)
  clear h hw hk he hd
  go_enter Tryz.func46, Tryz.ntmps46
  go_wp2_with fail
  refine (al_waits W w g s b q m N HA.out false HW.out).mono ?_
  rintro e w1 ⟨rfl, rfl⟩
  go_wp2_with fail
  refine (al_got W _ g s b q { m with kind := 0 } N ⟨p, A, R, HK.out⟩).mono ?_
  rw [HE9.out, show errOf 9 = .iface 89 (.int .i64 9) from rfl]
  generalize (q.client 0).got = gt
  rintro e w2 ⟨rfl, hb2⟩
  have HK2 := hidT (HK.out.later hb2)
  have d0 := HK2.out.al.c0
  have l2 := HK2.out.al.lt
  clear hb2
  go_wp2_with fail
  have hnum := number_any 9 w2
  rw [show errOf 9 = .iface 89 (.int .i64 9) from rfl] at hnum
  refine hnum.mono ?_
  clear hnum
  rintro e w3 ⟨rfl, hb3⟩
  have HK3 := hidT (HK2.out.later hb3)
  replace d0 := HK3.out.al.c0
  replace l2 := HK3.out.al.lt
  clear hb3
  go_wp2_with fail
  refine (al_dead W w3 g s b q { m with kind := 0 } N ⟨p, A, R, HK3.out⟩).mono ?_
  rw [HD.out]
  rintro e w4 ⟨rfl, rfl⟩
  go_wp2
  go_ret
  exact ⟨rfl, p, A, R, HK3.out⟩
set_option linter.unusedSimpArgs false in
set_option maxRecDepth 100000 in
set_option maxHeartbeats 4000000 in
theorem answered_died3 (h : AlW W g s b q m N w) (hk : m.kind = 3) (hw : q.waits 0 = false) (he : (q.client 0).err = 9) (hd : q.dead = true) : Calls Tryz.prog 46 #[.pointer (some ⟨g, 0, none⟩)] w fun e w' => e = .returned (.bool true) ∧ AlW W g s b q { m with kind := 0 } N w' := by
  have HA := hidT h
  have HW := hidT hw
  have HD := hidT hd
  have HE9 := hidT he
  obtain ⟨p, A, R, h⟩ := h
  have c66 := h.al.c66
  rw [hk] at c66
  have f66 := h.al.fz 66
  have c0 := h.al.c0
  have hl := h.al.lt
  have HK := hidT (h.kind 0)
  clear h hw hk he hd
  go_enter Tryz.func46, Tryz.ntmps46
  go_wp2_with fail
  refine (al_waits W w g s b q m N HA.out false HW.out).mono ?_
  rintro e w1 ⟨rfl, rfl⟩
  go_wp2_with fail
  refine (al_got W _ g s b q { m with kind := 0 } N ⟨p, A, R, HK.out⟩).mono ?_
  rw [HE9.out, show errOf 9 = .iface 89 (.int .i64 9) from rfl]
  generalize (q.client 0).got = gt
  rintro e w2 ⟨rfl, hb2⟩
  have HK2 := hidT (HK.out.later hb2)
  have d0 := HK2.out.al.c0
  have l2 := HK2.out.al.lt
  clear hb2
  go_wp2_with fail
  go_loop [6] (fun i => i = .int .i64 0) (fun _ => 0)
  case atStart => rfl
  case round =>
  subst hrel
  go_wp2_with fail
  have hnum := number_any 9 w2
  rw [show errOf 9 = .iface 89 (.int .i64 9) from rfl] at hnum
  refine hnum.mono ?_
  clear hnum
  rintro e w3 ⟨rfl, hb3⟩
  have HK3 := hidT (HK2.out.later hb3)
  replace d0 := HK3.out.al.c0
  replace l2 := HK3.out.al.lt
  clear hb3
  go_wp2_with fail
  refine (al_dead W w3 g s b q { m with kind := 0 } N ⟨p, A, R, HK3.out⟩).mono ?_
  rw [HD.out]
  rintro e w4 ⟨rfl, rfl⟩
  go_wp2
  go_ret
  exact ⟨rfl, p, A, R, HK3.out⟩
end
end Go.Proofs.YtgjkdhedkbkagaaGreat
/- Who asks alone: a read. -/
namespace Go.Proofs.YtgjkdhedkbkagaaGreat
open Go.RowKit Go.BigFrame Go.Maps
set_option maxRecDepth 100000
attribute [local go_sem] Later.cell Later.frozen

section
variable (W w : World) (g s b : Nat) (q : Sk) (m : Am) (N : Nat)
set_option linter.unusedSimpArgs false in
set_option maxRecDepth 100000 in
set_option maxHeartbeats 4000000 in
theorem answered_read8 (h : AlW W g s b q m N w) (hk : m.kind = 1) (hw : q.waits 0 = false) (he : (q.client 0).err = 8) : Calls Tryz.prog 46 #[.pointer (some ⟨g, 0, none⟩)] w fun e w' => e = .returned (.bool true) ∧ AlW W g s b q { m with kind := 0 } N w' := by
  have HA := hidT h
  have HW := hidT hw
  have HE := hidT he
  obtain ⟨p, A, R, h⟩ := h
  have c66 := h.al.c66
  rw [hk] at c66
  have f66 := h.al.fz 66
  have c0 := h.al.c0
  have hl := h.al.lt
  have HK := hidT (h.kind 0)
  clear h hw hk he
  go_enter Tryz.func46, Tryz.ntmps46
  go_wp2_with fail
  refine (al_waits W w g s b q m N HA.out false HW.out).mono ?_
  rintro e w1 ⟨rfl, rfl⟩
  go_wp2_with fail
  refine (al_got W _ g s b q { m with kind := 0 } N ⟨p, A, R, HK.out⟩).mono ?_
  have hnum : ∀ w' : World, Calls Tryz.prog 36 #[errOf 8] w' fun e w'' => e = .returned (.int .i64 8) ∧ Below w'.heap.size w' w'' := number_any 8
  rw [show errOf 8 = .iface 89 (.int .i64 8) from rfl] at hnum
  rw [HE.out, show errOf 8 = .iface 89 (.int .i64 8) from rfl]
  generalize (q.client 0).got = gt
  rintro e w2 ⟨rfl, hb2⟩
  have HK2 := hidT (HK.out.later hb2)
  have l2 := HK2.out.al.lt
  clear hb2
  go_wp2_with fail
  refine wp_region_later (by first | exact HB | exact bdrew HB | exact Below.refl _ _) (by kernel_rfl) (by kernel_rfl) ?_
  repeat (go_big_quiet_step (first | exact rfl | (go_at_call 36; exact calls_later (hnum _))))
  refine wpQuiet_nil ?_; intro _ hw'; obtain ⟨p, hw''⟩ := hw'; subst hw''; (try clear hc hf hz); (try clear HB); have HB := p.below; obtain ⟨hc, hf, hz⟩ := bcell HB
  go_wp2
  go_ret
  exact ⟨rfl, _, _, _, HK2.out.later (by repeat (first | with_reducible exact Below.refl _ _ | with_reducible refine balloc ?_ _ | with_reducible refine bdrew ?_ | with_reducible refine bset' ?_ (by omega) _ | with_reducible refine bthen ?_ (by assumption)))⟩
set_option linter.unusedSimpArgs false in
set_option maxRecDepth 100000 in
set_option maxHeartbeats 4000000 in
theorem answered_read0 (h : AlW W g s b q m N w) (hk : m.kind = 1) (hw : q.waits 0 = false) (hpl : 0 ≤ m.pl ∧ m.pl ≤ 31) (he : (q.client 0).err = 0) (hg : (q.client 0).got = m.now.getD m.pl.toNat ByteArray.empty) : Calls Tryz.prog 46 #[.pointer (some ⟨g, 0, none⟩)] w fun e w' => e = .returned (.bool true) ∧ AlW W g s b q { m with kind := 0 } N w' := by
  have HA := hidT h
  have HW := hidT hw
  obtain ⟨pl, hp⟩ : ∃ pl : Nat, m.pl = pl := ⟨m.pl.toNat, by omega⟩
  have hp32 : pl < 32 := by omega
  have hp32' : (pl : Int) < 32 := by omega
  obtain ⟨p, A, R, h⟩ := h
  have c66 := h.al.c66
  rw [hk] at c66
  have f66 := h.al.fz 66
  have c0 := h.al.c0
  have hl := h.al.lt
  have HK := hidT (h.kind 0)
  have HE : Hid ((q.client 0).err = 0 ∧ (q.client 0).got = m.now.getD pl ByteArray.empty) := ⟨he, by rw [hg, hp, Int.toNat_natCast]⟩
  have HP := hidT hp
  clear h hw hk he hg hpl hp
  go_enter Tryz.func46, Tryz.ntmps46
  go_wp2_with fail
  refine (al_waits W w g s b q m N HA.out false HW.out).mono ?_
  rintro e w1 ⟨rfl, rfl⟩
  go_wp2_with fail
  refine (al_got W _ g s b q { m with kind := 0 } N ⟨p, A, R, HK.out⟩).mono ?_
  have hnum : ∀ w' : World, Calls Tryz.prog 36 #[.nilIface] w' fun e w'' => e = .returned (.int .i64 0) ∧ Below w'.heap.size w' w'' := number_any 0
  rw [HE.out.1, HE.out.2, show errOf 0 = .nilIface from rfl]
  rintro e w2 ⟨rfl, hb2⟩
  have HK2 := hidT (HK.out.later hb2)
  have d0 := HK2.out.al.cNow pl hp32
  have d67 := HK2.out.al.c67
  have l2 := HK2.out.al.lt
  have d67' : w2.cell? ⟨g, 67, none⟩ = some (.int .i64 pl) := by rw [← HP.out]; exact d67
  have d0' : w2.cell? ⟨g, 2 + pl, none⟩ = some (.string (m.now.getD pl ByteArray.empty)) := d0
  clear hb2 d67 d0
  generalize m.now.getD pl ByteArray.empty = v at *
  go_wp2_with fail
  refine wp_region_later (by first | exact HB | exact bdrew HB | exact Below.refl _ _) (by kernel_rfl) (by kernel_rfl) ?_
  repeat (go_big_quiet_step (first | exact rfl | (go_at_call 36; exact calls_later (hnum _))))
  refine wpQuiet_nil ?_; intro _ hw'; obtain ⟨p, hw''⟩ := hw'; subst hw''; (try clear hc hf hz); (try clear HB); have HB := p.below; obtain ⟨hc, hf, hz⟩ := bcell HB
  go_wp2
  go_ret
  exact ⟨rfl, _, _, _, HK2.out.later (by repeat (first | with_reducible exact Below.refl _ _ | with_reducible refine balloc ?_ _ | with_reducible refine bdrew ?_ | with_reducible refine bset' ?_ (by omega) _ | with_reducible refine bthen ?_ (by assumption)))⟩
end
end Go.Proofs.YtgjkdhedkbkagaaGreat
/- A region that draws its order, of which one operation, d, writes what others read, and waits for i through others (J) that are not done yet: i is taken first. -/
namespace Go.Proofs.YtgjkdhedkbkagaaGreat
set_option maxRecDepth 100000
section
variable {P : Program} {ops : Array Oper} {Q : Exit → Act → World → Prop} {S : World → Prop} {d : Nat}
theorem unready {x j : Nat} {ls : Array Bool} (hw : waitsFor ops j x = true) (h0 : ls.getD x true = false) : j ∉ Region.ready .any ops ls := by
  intro hd
  obtain ⟨_, o, ho, hall⟩ := mem_ready.1 hd
  simp only [waitsFor, ho] at hw
  obtain ⟨e, he, hb⟩ := Array.any_eq_true'.1 hw
  simp only [Bool.and_eq_true, beq_iff_eq] at hb
  have h1 := hall e he hb.1
  rw [hb.2] at h1
  rcases Nat.lt_or_ge x ls.size with h' | h'
  · simp [h'] at h0 h1; rw [h0] at h1; cases h1
  · simp [Array.getElem?_eq_none h'] at h1
theorem till_firstJ {i : Nat} {oi : Oper} {v : Value} (hi : ops[i]? = some oi) (hsel : ∀ (j : Nat) (o : Oper) cs b, ops[j]? = some o → o.op ≠ .select cs b) (J : List Nat) (hJ : ∀ j ∈ J, ∃ x, (x = i ∨ x ∈ J) ∧ waitsFor ops j x = true) (hd : ∃ x, (x = i ∨ x ∈ J) ∧ waitsFor ops d x = true)
    (hQ : ∀ c a w, Q (.panic c) (a.put oi.dst v) w → Q (.panic c) a w) : ∀ (k : Nat) (ls : Array Bool) (a : Act) (w : World), (∀ x ∈ J, ls.getD x true = false) →
      (∀ j oj, ops[j]? = some oj → j ≠ i → ls.getD j true = false → (∀ e ∈ oj.after, Region.binds .any e = true → e.on ≠ i) → oi.apart ops oj = true) →
      i ∈ Region.ready .any ops ls → YieldsIf P ops S oi v a → S w → till P ops Q S d k (ls.setIfInBounds i true) (a.put oi.dst v) w → till P ops Q S d (k + 1) ls a w := by
  intro k
  induction k with
  | zero =>
    intro ls a w _ _ hr hy hS H
    refine ⟨fun h => (by rw [h] at hr; cases hr), fun j hj => ?_⟩
    by_cases e : j = i
    · subst e; exact hy.wpOp hi hS ⟨fun _ => hS, H⟩
    · have := ready_mono hj e
      rw [H.1] at this; cases this
  | succ k ih =>
    intro ls a w hls hfree hr hy hS H
    refine ⟨fun h => (by rw [h] at hr; cases hr), fun j hj => ?_⟩
    by_cases e : j = i
    · subst e; exact hy.wpOp hi hS ⟨fun _ => hS, H⟩
    have hnot : ∀ x, (x = i ∨ x ∈ J) → ls.getD x true = false := fun x hx => by
      rcases hx with rfl | hx
      · exact (mem_ready.1 hr).1
      · exact hls x hx
    have jd : j ≠ d := fun e' => by
      obtain ⟨x, hx, hw⟩ := hd
      exact unready hw (hnot x hx) (e' ▸ hj)
    have jJ : j ∉ J := fun e' => by
      obtain ⟨x, hx, hw⟩ := hJ j e'
      exact unready hw (hnot x hx) hj
    have h1 := H.2 j (ready_mono hj e)
    obtain ⟨hun, oj, hoj, hall⟩ := mem_ready.1 hj
    have hno : ∀ x ∈ oj.after, Region.binds .any x = true → x.on ≠ i := fun x hx hb he => by
      have h1 := hall x hx hb
      have h0 := (mem_ready.1 hr).1
      rw [he] at h1
      rcases Nat.lt_or_ge i ls.size with h' | h'
      · simp [h'] at h0 h1; rw [h0] at h1; cases h1
      · simp [Array.getElem?_eq_none h'] at h1
    have h2 := wpOp_putIf hoj (hfree j oj hoj e hun hno) (fun cs b => hsel i oi cs b hi) (fun cs b => hsel j oj cs b hoj) hQ hy h1
    refine wpOp_mono (fun a' w' h3 => ⟨fun _ => h3.2.1 jd, ih (ls.setIfInBounds j true) a' w' (fun x hx => ?_) (fun m om hm hmi hmu hmn => hfree m om hm hmi ?_ hmn) (ready_mono hr (Ne.symm e)) h3.1 (h3.2.1 jd) ?_⟩) h2
    · rw [getD_set_ne true (fun e' : j = x => jJ (by rw [e']; exact hx))]; exact hls x hx
    · by_cases hjm : j = m
      · subst hjm; exact hun
      · rw [getD_set_ne true hjm] at hmu; exact hmu
    · rw [Array.setIfInBounds_comm _ _ e]; exact h3.2.2
def waitsVia (ops : Array Oper) (d i : Nat) (J : List Nat) (ls : Array Bool) : Bool := (J.all fun j => !(ls.getD j true) && (i :: J).any fun x => waitsFor ops j x) && (i :: J).any fun x => waitsFor ops d x
theorem till_takeJ {i : Nat} {oi : Oper} {v : Value} {k : Nat} {ls : Array Bool} {a : Act} {w : World} (J : List Nat) (hi : ops[i]? = some oi) (hs : Region.noSelect ops = true) (hf : Region.free .any ops ls i = true) (hr : (Region.ready .any ops ls).contains i = true) (hw : waitsVia ops d i J ls = true)
    (hQ : ∀ c a w, Q (.panic c) (a.put oi.dst v) w → Q (.panic c) a w) (hy : YieldsIf P ops S oi v a) (hS : S w) (h : till P ops Q S d k (ls.setIfInBounds i true) (a.put oi.dst v) w) : till P ops Q S d (k + 1) ls a w := by
  unfold waitsVia at hw
  rw [Bool.and_eq_true] at hw
  have h1 := List.all_eq_true.1 hw.1
  refine till_firstJ hi (Region.noSelect_spec hs) J (fun j hj => ?_) ?_ hQ k ls a w (fun x hx => ?_) (Region.free_spec hi hf) (by simpa using hr) hy hS h
  · have := (Bool.and_eq_true _ _ ▸ h1 j hj : _ ∧ _).2
    obtain ⟨x, hx, hx2⟩ := List.any_eq_true.1 this
    exact ⟨x, List.mem_cons.1 hx, hx2⟩
  · obtain ⟨x, hx, hx2⟩ := List.any_eq_true.1 hw.2
    exact ⟨x, List.mem_cons.1 hx, hx2⟩
  · have := (Bool.and_eq_true _ _ ▸ h1 x hx : _ ∧ _).1
    simpa using this
end
end Go.Proofs.YtgjkdhedkbkagaaGreat
