/- Acts on a device, in memory; LightActs. -/
import Derived.Test.YthmeaclekedilacReq
import Derived.Test.YthmeaclekedilacOnly
namespace Go.Proofs.Ythmeaclekedilac
open Go.RowKit Go.BigFrame
attribute [local go_sem] Later.cell Later.frozen

/-- What is done to a device. -/
structure Ac where
  kind : ByteArray
  req : Rq
  n : Int
  k : Int
def Ac.cell (x : Ac) : Nat → Value
  | 0 => .string x.kind
  | 1 => .bool x.req.wr
  | 2 => .int .i64 x.req.f
  | 3 => .int .i64 x.req.m
  | 4 => .slice x.req.da x.req.data.length x.req.dc
  | 5 => .slice x.req.ta x.req.tags.length x.req.tc
  | 6 => .int .i64 x.req.born
  | 7 => .int .i64 x.n
  | _ => .int .u64 x.k
abbrev Ac.val (x : Ac) : Value := .agg #[.string x.kind, .bool x.req.wr, .int .i64 x.req.f, .int .i64 x.req.m, .slice x.req.da x.req.data.length x.req.dc, .slice x.req.ta x.req.tags.length x.req.tc, .int .i64 x.req.born, .int .i64 x.n, .int .u64 x.k]
def ActsAt (w : World) (a : Option Addr) (l : List Ac) : Prop :=
  (l = [] ∨ ∃ b o, a = some ⟨b, o, none⟩ ∧ ∀ i (h : i < l.length) j, j < 9 → w.cell? ⟨b, o + i * 9 + j, none⟩ = some (l[i].cell j)) ∧ (∀ x ∈ l, x.req.At w) ∧ l.length ≤ 9223372036854775807
theorem ActsAt.later {w w' : World} {a : Option Addr} {l : List Ac} (h : ActsAt w a l) (hb : Below w.heap.size w w') : ActsAt w' a l := by
  obtain ⟨h1, h2, h3⟩ := h
  refine ⟨?_, fun r hr => (h2 r hr).later hb, h3⟩
  rcases h1 with h | ⟨b, o, ha, hc⟩
  · exact Or.inl h
  · exact Or.inr ⟨b, o, ha, fun i hi j hj => cell_later' hb (hc i hi j hj)⟩
theorem ActsAt.form {w : World} {a : Option Addr} {l : List Ac} (h : ActsAt w a l) : l = [] ∨ ∃ b o, a = some ⟨b, o, none⟩ := by
  rcases h.1 with h | ⟨b, o, ha, _⟩
  · exact Or.inl h
  · exact Or.inr ⟨b, o, ha⟩
theorem ActsAt.cells {w : World} {b o : Nat} {l : List Ac} (h : ActsAt w (some ⟨b, o, none⟩) l) {i : Nat} (hi : i < l.length) :
    w.cell? ⟨b, o + i * 9, none⟩ = some (.string l[i].kind) ∧ w.cell? ⟨b, o + i * 9 + 1, none⟩ = some (.bool l[i].req.wr) ∧ w.cell? ⟨b, o + i * 9 + 2, none⟩ = some (.int .i64 l[i].req.f) ∧ w.cell? ⟨b, o + i * 9 + 3, none⟩ = some (.int .i64 l[i].req.m) ∧ w.cell? ⟨b, o + i * 9 + 4, none⟩ = some (.slice l[i].req.da l[i].req.data.length l[i].req.dc) ∧ w.cell? ⟨b, o + i * 9 + 5, none⟩ = some (.slice l[i].req.ta l[i].req.tags.length l[i].req.tc) ∧ w.cell? ⟨b, o + i * 9 + 6, none⟩ = some (.int .i64 l[i].req.born) ∧ w.cell? ⟨b, o + i * 9 + 7, none⟩ = some (.int .i64 l[i].n) ∧ w.cell? ⟨b, o + i * 9 + 8, none⟩ = some (.int .u64 l[i].k) := by
  rcases h.1 with rfl | ⟨b', o', ha, hc⟩
  · exact absurd hi (Nat.not_lt_zero _)
  · simp only [Option.some.injEq, Addr.mk.injEq, and_true] at ha
    obtain ⟨rfl, rfl⟩ := ha
    exact ⟨hc i hi 0 (by omega), hc i hi 1 (by omega), hc i hi 2 (by omega), hc i hi 3 (by omega), hc i hi 4 (by omega), hc i hi 5 (by omega), hc i hi 6 (by omega), hc i hi 7 (by omega), hc i hi 8 (by omega)⟩
def lightsA (l : List Ac) (n : Nat) : Bool := decide (l.length ≤ n) && l.all fun x => lightB x.req
set_option maxHeartbeats 400000 in
theorem lightsA_long (l : List Ac) (a : Option Addr) (c n : Nat) (w : World) (_h3 : l.length ≤ 9223372036854775807) (h1 : n < l.length) :
    Calls Try.prog 10 #[.slice a l.length c, .int .i64 n] w fun e w' => e = .returned (.bool false) ∧ Below w.heap.size w w' := by
  have h1' : (n : Int) < (l.length : Int) := by omega
  go_enter Try.func10, Try.ntmps10
  go_wp2
  go_ret
  exact ⟨rfl, by repeat (first | with_reducible exact Below.refl _ _ | with_reducible refine balloc ?_ _ | with_reducible refine bdrew ?_ | with_reducible refine bset' ?_ (by omega) _ | with_reducible refine bthen ?_ (by assumption))⟩
set_option maxHeartbeats 1000000 in
theorem lightsA_short (l : List Ac) (a : Option Addr) (c n : Nat) (w : World) (hl : ActsAt w a l) (h1 : l.length ≤ n) (hn : n ≤ 1000) :
    Calls Try.prog 10 #[.slice a l.length c, .int .i64 n] w fun e w' => e = .returned (.bool (l.all fun x => lightB x.req)) ∧ Below w.heap.size w w' := by
  have h1' : ¬ (n : Int) < (l.length : Int) := by omega
  rcases hl.form with rfl | ⟨b, o, rfl⟩
  · go_enter Try.func10, Try.ntmps10
    go_wp2
    go_loop [5] (fun i => i = .int .i64 0) (fun _ => 0)
    case atStart => rfl
    case round =>
      subst hrel
      go_wp2
      go_ret
      exact ⟨rfl, by repeat (first | with_reducible exact Below.refl _ _ | with_reducible refine balloc ?_ _ | with_reducible refine bdrew ?_ | with_reducible refine bset' ?_ (by omega) _ | with_reducible refine bthen ?_ (by assumption))⟩
  have HL : Hid (ActsAt w (some ⟨b, o, none⟩) l) := hl
  have hlen := hl.2.2
  clear hl
  go_enter Try.func10, Try.ntmps10
  go_wp2
  go_loopw [5] (fun i wr => ∃ k : Nat, k ≤ l.length ∧ i = .int .i64 k ∧ ((l.take k).all fun x => lightB x.req) = true ∧ Below w.heap.size w wr) (fun i _ => l.length - (intOf i).toNat)
  case atStart => exact ⟨0, by omega, rfl, rfl, Below.refl _ _⟩
  case round =>
    obtain ⟨k, hk, rfl, hno, HB⟩ := hrel
    have HN : Hid (((l.take k).all fun x => lightB x.req) = true) := hno
    clear hno
    by_cases hlt : k < l.length
    · obtain ⟨c0, c1, c2, c3, c4, c5, c6, c7, c8⟩ := (HL.out.later HB).cells hlt
      have hlt' : (k : Int) < (l.length : Int) := by omega
      have hat : Hid (l[k].req.At wr) := (HL.out.later HB).2.1 _ (List.getElem_mem hlt)
      cases hb : lightB l[k].req
      · go_wp2_with fail
        refine (light_any l[k].req _ hat.out _ hb).mono ?_
        rintro e w1 ⟨rfl, hbx⟩
        go_wp2
        go_ret
        exact ⟨ret_bool (all_stop hlt hb).symm, bthen HB hbx⟩
      · go_wp2_with fail
        refine (light_any l[k].req _ hat.out _ hb).mono ?_
        rintro e w1 ⟨rfl, hbx⟩
        go_wp2
        go_roundw
        case rel => exact ⟨k + 1, by omega, by go_num, all_take hlt HN.out hb, bthen HB hbx⟩
        case measure => simp [intOf]; omega
    · go_wp2
      go_ret
      exact ⟨ret_bool (all_end (by omega) HN.out).symm, HB⟩
theorem lightsA_any (l : List Ac) (a : Option Addr) (c n : Nat) (w : World) (hl : ActsAt w a l) (hn : n ≤ 1000) (b : Bool) (hb : lightsA l n = b) :
    Calls Try.prog 10 #[.slice a l.length c, .int .i64 n] w fun e w' => e = .returned (.bool b) ∧ Below w.heap.size w w' := by
  subst hb
  unfold lightsA
  by_cases h : l.length ≤ n
  · rw [decide_eq_true h, Bool.true_and]; exact lightsA_short l a c n w hl h hn
  · rw [decide_eq_false h, Bool.false_and]; exact lightsA_long l a c n w hl.2.2 (by omega)
end Go.Proofs.Ythmeaclekedilac
