/- Requests in memory: what their cells hold, and that new memory turns none of it. -/
import Derived.Test.YthmeaclekedilacLater
namespace Go.Proofs.Ythmeaclekedilac
open Go.RowKit

/-- From an address on lie these texts. -/
def StrsAt (w : World) (a : Option Addr) (xs : List ByteArray) : Prop :=
  xs = [] ∨ ∃ b o, a = some ⟨b, o, none⟩ ∧ ∀ i, i < xs.length → w.cell? ⟨b, o + i, none⟩ = some (.string (xs.getD i ByteArray.empty))
/-- From an address on lie these whole numbers. -/
def IntsAt (w : World) (a : Option Addr) (xs : List Int) : Prop :=
  xs = [] ∨ ∃ b o, a = some ⟨b, o, none⟩ ∧ ∀ i, i < xs.length → w.cell? ⟨b, o + i, none⟩ = some (.int .i64 (xs.getD i 0))

theorem lt_of_cell {w : World} {b o : Nat} {v : Value} (h : w.cell? ⟨b, o, none⟩ = some v) : b < w.heap.size := by
  rcases Nat.lt_or_ge b w.heap.size with h' | h'
  · exact h'
  · simp [World.cell?, Array.getElem?_eq_none h'] at h

theorem cell_later' {w w' : World} {b o : Nat} {v : Value} (hb : Below w.heap.size w w') (h : w.cell? ⟨b, o, none⟩ = some v) : w'.cell? ⟨b, o, none⟩ = some v := by
  rw [hb.cell (p := ⟨b, o, none⟩) (lt_of_cell h)]; exact h

theorem alloc_cell {w : World} {b o : Nat} {v : Value} (h : w.cell? ⟨b, o, none⟩ = some v) (x : Obj) : (w.alloc x).cell? ⟨b, o, none⟩ = some v := by
  rw [World.cell?_alloc_lt w x _ (lt_of_cell h)]; exact h

theorem StrsAt.later {w w' : World} {a : Option Addr} {xs : List ByteArray} (h : StrsAt w a xs) (hb : Below w.heap.size w w') : StrsAt w' a xs := by
  rcases h with h | ⟨b, o, ha, hc⟩
  · exact Or.inl h
  · exact Or.inr ⟨b, o, ha, fun i hi => cell_later' hb (hc i hi)⟩
theorem IntsAt.later {w w' : World} {a : Option Addr} {xs : List Int} (h : IntsAt w a xs) (hb : Below w.heap.size w w') : IntsAt w' a xs := by
  rcases h with h | ⟨b, o, ha, hc⟩
  · exact Or.inl h
  · exact Or.inr ⟨b, o, ha, fun i hi => cell_later' hb (hc i hi)⟩

/-- A request: its cells, and what its lists hold. -/
structure Rq where
  wr : Bool
  f : Int
  m : Int
  da : Option Addr
  dc : Nat
  data : List ByteArray
  ta : Option Addr
  tc : Nat
  tags : List Int
  born : Int

def Rq.cell (r : Rq) : Nat → Value
  | 0 => .bool r.wr
  | 1 => .int .i64 r.f
  | 2 => .int .i64 r.m
  | 3 => .slice r.da r.data.length r.dc
  | 4 => .slice r.ta r.tags.length r.tc
  | _ => .int .i64 r.born
abbrev Rq.val (r : Rq) : Value := .agg #[.bool r.wr, .int .i64 r.f, .int .i64 r.m, .slice r.da r.data.length r.dc, .slice r.ta r.tags.length r.tc, .int .i64 r.born]

/-- The request's lists lie in this world; its numbers are whole numbers of 64 bits. -/
structure Rq.At (r : Rq) (w : World) : Prop where
  data : StrsAt w r.da r.data
  tags : IntsAt w r.ta r.tags
  dl : r.data.length ≤ 9223372036854775807
  tl : r.tags.length ≤ 9223372036854775807
  f : In64 r.f
  m : In64 r.m
  born : In64 r.born
  dn : r.da = none → r.dc = 0
  tn : r.ta = none → r.tc = 0

theorem Rq.At.later {r : Rq} {w w' : World} (h : r.At w) (hb : Below w.heap.size w w') : r.At w' :=
  ⟨h.data.later hb, h.tags.later hb, h.dl, h.tl, h.f, h.m, h.born, h.dn, h.tn⟩

/-- From an address on lie these requests. -/
def ReqsAt (w : World) (a : Option Addr) (l : List Rq) : Prop :=
  (l = [] ∨ ∃ b o, a = some ⟨b, o, none⟩ ∧ ∀ i (h : i < l.length) j, j < 6 → w.cell? ⟨b, o + i * 6 + j, none⟩ = some (l[i].cell j)) ∧ (∀ r ∈ l, r.At w) ∧ l.length ≤ 9223372036854775807

theorem ReqsAt.later {w w' : World} {a : Option Addr} {l : List Rq} (h : ReqsAt w a l) (hb : Below w.heap.size w w') : ReqsAt w' a l := by
  obtain ⟨h1, h2, h3⟩ := h
  refine ⟨?_, fun r hr => (h2 r hr).later hb, h3⟩
  rcases h1 with h | ⟨b, o, ha, hc⟩
  · exact Or.inl h
  · exact Or.inr ⟨b, o, ha, fun i hi j hj => cell_later' hb (hc i hi j hj)⟩

/-! ### LightReq, LightReqs -/
def lightB (r : Rq) : Bool := decide (r.data.length ≤ 8) && decide (r.tags.length ≤ 8) && r.data.all fun s => decide (s.size ≤ 10)

set_option maxHeartbeats 400000 in
theorem light_long (r : Rq) (w : World) (hr : r.At w) (h : 8 < r.data.length ∨ 8 < r.tags.length) :
    Calls Try.prog 49 #[r.val] w fun e w' => e = .returned (.bool false) ∧ Below w.heap.size w w' := by
  obtain ⟨wr, f, m, da, dc, data, ta, tc, tags, born⟩ := r
  have hl1 := hr.dl
  have hl2 := hr.tl
  simp only at h hl1 hl2
  by_cases h1 : 8 < data.length
  · go_enter Try.func49, Try.ntmps49
    go_wp2
    go_ret
    exact ⟨rfl, by repeat (first | with_reducible exact Below.refl _ _ | with_reducible refine balloc ?_ _ | with_reducible refine bdrew ?_ | with_reducible refine bset' ?_ (by omega) _ | with_reducible refine bthen ?_ (by assumption))⟩
  · have h2 : 8 < tags.length := by omega
    go_enter Try.func49, Try.ntmps49
    go_wp2
    go_ret
    exact ⟨rfl, by repeat (first | with_reducible exact Below.refl _ _ | with_reducible refine balloc ?_ _ | with_reducible refine bdrew ?_ | with_reducible refine bset' ?_ (by omega) _ | with_reducible refine bthen ?_ (by assumption))⟩

theorem all_take {α : Type} {p : α → Bool} {l : List α} {k : Nat} (h : k < l.length) (h1 : (l.take k).all p = true) (h2 : p l[k] = true) : (l.take (k + 1)).all p = true := by
  rw [List.take_succ_eq_append_getElem h, List.all_append, h1]; simp [h2]
theorem all_stop {α : Type} {p : α → Bool} {l : List α} {k : Nat} (h : k < l.length) (hp : p l[k] = false) : l.all p = false := by
  rw [List.all_eq_false]
  exact ⟨l[k], by simp, by rw [hp]; exact Bool.false_ne_true⟩
theorem all_end {α : Type} {p : α → Bool} {l : List α} {k : Nat} (h : l.length ≤ k) (h1 : (l.take k).all p = true) : l.all p = true := by
  rwa [List.take_of_length_le h] at h1

set_option maxHeartbeats 400000 in
theorem light_short (r : Rq) (w : World) (hr : r.At w) (h1 : r.data.length ≤ 8) (h2 : r.tags.length ≤ 8) :
    Calls Try.prog 49 #[r.val] w fun e w' => e = .returned (.bool (r.data.all fun s => decide (s.size ≤ 10))) ∧ Below w.heap.size w w' := by
  obtain ⟨wr, f, m, da, dc, data, ta, tc, tags, born⟩ := r
  obtain ⟨hs, -, -, -, -, -, -⟩ := hr
  simp only at h1 h2 hs
  simp only [Rq.val]
  rcases hs with rfl | ⟨b, o, rfl, hcell⟩
  · go_enter Try.func49, Try.ntmps49
    go_wp2
    go_loop [3] (fun i => i = .int .i64 0) (fun _ => 0)
    case atStart => rfl
    case round =>
      subst hrel
      go_wp2
      go_ret
      exact ⟨rfl, by repeat (first | with_reducible exact Below.refl _ _ | with_reducible refine balloc ?_ _ | with_reducible refine bdrew ?_ | with_reducible refine bset' ?_ (by omega) _ | with_reducible refine bthen ?_ (by assumption))⟩
  · have HA : Hid (∀ i, i < data.length → w.cell? ⟨b, o + i, none⟩ = some (.string (data.getD i ByteArray.empty))) := hcell
    clear hcell
    go_enter Try.func49, Try.ntmps49
    go_wp2
    go_loop [3] (fun i => ∃ k : Nat, k ≤ data.length ∧ i = .int .i64 k ∧ (data.take k).all (fun s => decide (s.size ≤ 10)) = true) (fun i => data.length - (intOf i).toNat)
    case atStart => exact ⟨0, by omega, rfl, by simp⟩
    case round =>
      obtain ⟨k, hk, rfl, hall⟩ := hrel
      have HL : Hid ((data.take k).all (fun s => decide (s.size ≤ 10)) = true) := hall
      clear hall
      by_cases hlt : k < data.length
      · have hck := HA.out k hlt
        have hcl := alloc_cell hck
        go_wp2
        · go_ret
          exact ⟨ret_bool (all_stop hlt (by simp only [decide_eq_false_iff_not]; omega)).symm, by repeat (first | with_reducible exact Below.refl _ _ | with_reducible refine balloc ?_ _ | with_reducible refine bdrew ?_ | with_reducible refine bset' ?_ (by omega) _ | with_reducible refine bthen ?_ (by assumption))⟩
        · go_round
          case rel => exact ⟨k + 1, by omega, by go_num, all_take hlt HL.out (by simp only [decide_eq_true_eq]; omega)⟩
          case measure => simp [intOf]; omega
      · go_wp2
        go_ret
        exact ⟨ret_bool (all_end (by omega) HL.out).symm, by repeat (first | with_reducible exact Below.refl _ _ | with_reducible refine balloc ?_ _ | with_reducible refine bdrew ?_ | with_reducible refine bset' ?_ (by omega) _ | with_reducible refine bthen ?_ (by assumption))⟩

theorem light_any (r : Rq) (w : World) (hr : r.At w) (b : Bool) (hb : lightB r = b) :
    Calls Try.prog 49 #[r.val] w fun e w' => e = .returned (.bool b) ∧ Below w.heap.size w w' := by
  subst hb
  by_cases h : r.data.length ≤ 8 ∧ r.tags.length ≤ 8
  · have e : lightB r = r.data.all fun s => decide (s.size ≤ 10) := by simp [lightB, h.1, h.2]
    rw [e]; exact light_short r w hr h.1 h.2
  · have e : lightB r = false := by
      simp only [lightB, Bool.and_eq_false_iff, decide_eq_false_iff_not]; left; omega
    rw [e]; exact light_long r w hr (by omega)

/-- What request i of a list has in its cells. -/
theorem ReqsAt.cells {w : World} {b o : Nat} {l : List Rq} (h : ReqsAt w (some ⟨b, o, none⟩) l) {i : Nat} (hi : i < l.length) :
    w.cell? ⟨b, o + i * 6, none⟩ = some (.bool l[i].wr) ∧ w.cell? ⟨b, o + i * 6 + 1, none⟩ = some (.int .i64 l[i].f) ∧ w.cell? ⟨b, o + i * 6 + 2, none⟩ = some (.int .i64 l[i].m) ∧
      w.cell? ⟨b, o + i * 6 + 3, none⟩ = some (.slice l[i].da l[i].data.length l[i].dc) ∧ w.cell? ⟨b, o + i * 6 + 4, none⟩ = some (.slice l[i].ta l[i].tags.length l[i].tc) ∧ w.cell? ⟨b, o + i * 6 + 5, none⟩ = some (.int .i64 l[i].born) := by
  rcases h.1 with rfl | ⟨b', o', ha, hc⟩
  · exact absurd hi (Nat.not_lt_zero _)
  · simp only [Option.some.injEq, Addr.mk.injEq, and_true] at ha
    obtain ⟨rfl, rfl⟩ := ha
    exact ⟨hc i hi 0 (by omega), hc i hi 1 (by omega), hc i hi 2 (by omega), hc i hi 3 (by omega), hc i hi 4 (by omega), hc i hi 5 (by omega)⟩
theorem ReqsAt.form {w : World} {a : Option Addr} {l : List Rq} (h : ReqsAt w a l) : l = [] ∨ ∃ b o, a = some ⟨b, o, none⟩ := by
  rcases h.1 with h | ⟨b, o, ha, _⟩
  · exact Or.inl h
  · exact Or.inr ⟨b, o, ha⟩

def lightsB (l : List Rq) : Bool := decide (l.length ≤ 10) && l.all lightB

end Go.Proofs.Ythmeaclekedilac
