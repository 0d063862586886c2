/- Acts on a device, in memory; LightActs. -/
import Derived.Test.YtpmjgofjdejeeadReq
import Derived.Test.YtpmjgofjdejeeadOnly
namespace Go.Proofs.Ytpmjgofjdejeead
open Go.RowKit Go.BigFrame
attribute [local go_sem] Later.cell Later.frozen

/-- What is done to a device. -/
structure Ac where
  kind : ByteArray
  req : Rq
  n : Int
  k : Int
def Ac.cell (x : Ac) : Nat → Value
  | 0 => .string x.kind
  | 1 => .bool x.req.wr
  | 2 => .int .i64 x.req.f
  | 3 => .int .i64 x.req.m
  | 4 => .slice x.req.da x.req.data.length x.req.dc
  | 5 => .slice x.req.ta x.req.tags.length x.req.tc
  | 6 => .int .i64 x.req.born
  | 7 => .int .i64 x.n
  | _ => .int .u64 x.k
abbrev Ac.val (x : Ac) : Value := .agg #[.string x.kind, .bool x.req.wr, .int .i64 x.req.f, .int .i64 x.req.m, .slice x.req.da x.req.data.length x.req.dc, .slice x.req.ta x.req.tags.length x.req.tc, .int .i64 x.req.born, .int .i64 x.n, .int .u64 x.k]
def ActsAt (w : World) (a : Option Addr) (l : List Ac) : Prop :=
  (l = [] ∨ ∃ b o, a = some ⟨b, o, none⟩ ∧ ∀ i (h : i < l.length) j, j < 9 → w.cell? ⟨b, o + i * 9 + j, none⟩ = some (l[i].cell j)) ∧ (∀ x ∈ l, x.req.At w) ∧ l.length ≤ 9223372036854775807
theorem ActsAt.later {w w' : World} {a : Option Addr} {l : List Ac} (h : ActsAt w a l) (hb : Below w.heap.size w w') : ActsAt w' a l := by
  obtain ⟨h1, h2, h3⟩ := h
  refine ⟨?_, fun r hr => (h2 r hr).later hb, h3⟩
  rcases h1 with h | ⟨b, o, ha, hc⟩
  · exact Or.inl h
  · exact Or.inr ⟨b, o, ha, fun i hi j hj => cell_later' hb (hc i hi j hj)⟩
theorem ActsAt.form {w : World} {a : Option Addr} {l : List Ac} (h : ActsAt w a l) : l = [] ∨ ∃ b o, a = some ⟨b, o, none⟩ := by
  rcases h.1 with h | ⟨b, o, ha, _⟩
  · exact Or.inl h
  · exact Or.inr ⟨b, o, ha⟩
theorem ActsAt.cells {w : World} {b o : Nat} {l : List Ac} (h : ActsAt w (some ⟨b, o, none⟩) l) {i : Nat} (hi : i < l.length) :
    w.cell? ⟨b, o + i * 9, none⟩ = some (.string l[i].kind) ∧ w.cell? ⟨b, o + i * 9 + 1, none⟩ = some (.bool l[i].req.wr) ∧ w.cell? ⟨b, o + i * 9 + 2, none⟩ = some (.int .i64 l[i].req.f) ∧ w.cell? ⟨b, o + i * 9 + 3, none⟩ = some (.int .i64 l[i].req.m) ∧ w.cell? ⟨b, o + i * 9 + 4, none⟩ = some (.slice l[i].req.da l[i].req.data.length l[i].req.dc) ∧ w.cell? ⟨b, o + i * 9 + 5, none⟩ = some (.slice l[i].req.ta l[i].req.tags.length l[i].req.tc) ∧ w.cell? ⟨b, o + i * 9 + 6, none⟩ = some (.int .i64 l[i].req.born) ∧ w.cell? ⟨b, o + i * 9 + 7, none⟩ = some (.int .i64 l[i].n) ∧ w.cell? ⟨b, o + i * 9 + 8, none⟩ = some (.int .u64 l[i].k) := by
  rcases h.1 with rfl | ⟨b', o', ha, hc⟩
  · exact absurd hi (Nat.not_lt_zero _)
  · simp only [Option.some.injEq, Addr.mk.injEq, and_true] at ha
    obtain ⟨rfl, rfl⟩ := ha
    exact ⟨hc i hi 0 (by omega), hc i hi 1 (by omega), hc i hi 2 (by omega), hc i hi 3 (by omega), hc i hi 4 (by omega), hc i hi 5 (by omega), hc i hi 6 (by omega), hc i hi 7 (by omega), hc i hi 8 (by omega)⟩
def lightsA (l : List Ac) (n : Nat) : Bool := decide (l.length ≤ n) && l.all fun x => lightB x.req
end Go.Proofs.Ytpmjgofjdejeead
