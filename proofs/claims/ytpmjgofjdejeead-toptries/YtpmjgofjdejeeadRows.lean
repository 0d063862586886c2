/-
  No cell of these rows narrows 'for every input' (looked for: loops, veiled, ifaces, maps, wideKeys, modest, calm, conditions, laid).
  DERIVED. THE GIVEN ROWS OF THIS SEAT. 4 by the template 'for every input the law returns true; each argument reads behind the call as it read before'; 0 by the template 'total and deterministic' (their statements: YtpmjgofjdejeeadTotals.lean).
  GIVEN WITH THE SEED: the statements are not yours to turn. If you find one false, say at which input.
  Laid BY PROGRAM, IN A SANDBOX (cutbox-rows.mjs): the forced cells as the released guide's own fill.sh prints them over the translation a0a5411e9c2d37ad… (all of the seat's roots in one cut). By AI agents, Wed Nov 11 2026. No macro, syntax, notation, axiom, sorry.
-/
import Derived.Test.YtpmjgofjdejeeadChecked
import GoSem.Claim
import GoSem.ClaimJoined
import GoSem.ClaimMapViews
import Derived.JoinedTies
import Derived.KernelRfl
namespace Go.Proofs.Ytpmjgofjdejeead
/- THE CELL 'sum', in the pinned program and in every row, IS THE sha256 OF THE DUMP (.gsa) THAT YtpmjgofjdejeeadProg.lean LOADS. Nothing in Lean hashes anything: it is a label: what it is worth is what the hold of that sum in a sandbox is worth. -/
noncomputable def Try.pinned : Pinned := { name := "ytpmjgofjdejeead", sum := "a0a5411e9c2d37adf05e3ab02cb14a22d2dc0d77a1c1ce6839dd74e4e7f26802", checked := Try.checked }
namespace Rows
def none {H : Type} : Left H := { results := [], args := [] }

/-- 'weighbridgetop.TopTries': WHATEVER THE INPUT: true; the input reads as it did. -/
def topTriesSpec : ChangeSpec := { name := "topTries", fn := fun _ => fun
  | [d1, d2] => { results := [.lit (.bool true)], args := [d1, d2] }
  | _ => none }
def topTriesRow : OpenClaim := { program := "ytpmjgofjdejeead", sum := "a0a5411e9c2d37adf05e3ab02cb14a22d2dc0d77a1c1ce6839dd74e4e7f26802", func := "weighbridge/weighbridgetop.TopTries", spec := "topTries", unfollowed := true, recurses := true, apart := false }
def TopTriesSaid : Prop := topTriesRow.holds Try.pinned (OpenSpec.ofChange topTriesSpec)

/-- ITS FALSE NEIGHBOUR: 'it returns false'. Refute it at one input. -/
def topTriesWrong : ChangeSpec := { name := "topTries", fn := fun _ => fun
  | [d1, d2] => { results := [.lit (.bool false)], args := [d1, d2] }
  | _ => none }
def TopTriesWrongFalsely : Prop := topTriesRow.holds Try.pinned (OpenSpec.ofChange topTriesWrong)

/-- 'weighbridgetop.TopCache': WHATEVER THE INPUT: true; the input reads as it did. -/
def topCacheSpec : ChangeSpec := { name := "topCache", fn := fun _ => fun
  | [d1, d2, d3] => { results := [.lit (.bool true)], args := [d1, d2, d3] }
  | _ => none }
def topCacheRow : OpenClaim := { program := "ytpmjgofjdejeead", sum := "a0a5411e9c2d37adf05e3ab02cb14a22d2dc0d77a1c1ce6839dd74e4e7f26802", func := "weighbridge/weighbridgetop.TopCache", spec := "topCache", inPlace := ["slices.overlaps[weighbridge/api.Buf]"], unfollowed := true, recurses := true, apart := false }
def TopCacheSaid : Prop := topCacheRow.holds Try.pinned (OpenSpec.ofChange topCacheSpec)

/-- ITS FALSE NEIGHBOUR: 'it returns false'. Refute it at one input. -/
def topCacheWrong : ChangeSpec := { name := "topCache", fn := fun _ => fun
  | [d1, d2, d3] => { results := [.lit (.bool false)], args := [d1, d2, d3] }
  | _ => none }
def TopCacheWrongFalsely : Prop := topCacheRow.holds Try.pinned (OpenSpec.ofChange topCacheWrong)

/-- 'weighbridgetop.TopLately': WHATEVER THE INPUT: true; the input reads as it did. -/
def topLatelySpec : ChangeSpec := { name := "topLately", fn := fun _ => fun
  | [d1, d2] => { results := [.lit (.bool true)], args := [d1, d2] }
  | _ => none }
def topLatelyRow : OpenClaim := { program := "ytpmjgofjdejeead", sum := "a0a5411e9c2d37adf05e3ab02cb14a22d2dc0d77a1c1ce6839dd74e4e7f26802", func := "weighbridge/weighbridgetop.TopLately", spec := "topLately", inPlace := ["slices.overlaps[weighbridge/api.Buf]"], unfollowed := true, recurses := true, apart := false }
def TopLatelySaid : Prop := topLatelyRow.holds Try.pinned (OpenSpec.ofChange topLatelySpec)

/-- ITS FALSE NEIGHBOUR: 'it returns false'. Refute it at one input. -/
def topLatelyWrong : ChangeSpec := { name := "topLately", fn := fun _ => fun
  | [d1, d2] => { results := [.lit (.bool false)], args := [d1, d2] }
  | _ => none }
def TopLatelyWrongFalsely : Prop := topLatelyRow.holds Try.pinned (OpenSpec.ofChange topLatelyWrong)

/-- 'weighbridgetop.TopClean': WHATEVER THE INPUT: true; the input reads as it did. -/
def topCleanSpec : ChangeSpec := { name := "topClean", fn := fun _ => fun
  | [d1, d2, d3, d4] => { results := [.lit (.bool true)], args := [d1, d2, d3, d4] }
  | _ => none }
def topCleanRow : OpenClaim := { program := "ytpmjgofjdejeead", sum := "a0a5411e9c2d37adf05e3ab02cb14a22d2dc0d77a1c1ce6839dd74e4e7f26802", func := "weighbridge/weighbridgetop.TopClean", spec := "topClean", unfollowed := true, recurses := true, apart := false }
def TopCleanSaid : Prop := topCleanRow.holds Try.pinned (OpenSpec.ofChange topCleanSpec)

/-- ITS FALSE NEIGHBOUR: 'it returns false'. Refute it at one input. -/
def topCleanWrong : ChangeSpec := { name := "topClean", fn := fun _ => fun
  | [d1, d2, d3, d4] => { results := [.lit (.bool false)], args := [d1, d2, d3, d4] }
  | _ => none }
def TopCleanWrongFalsely : Prop := topCleanRow.holds Try.pinned (OpenSpec.ofChange topCleanWrong)

/- THE SECOND FORM. 'bulk': how many values and letters a reading holds, each counted each time it is reached (what is shared counts as often as it is met; a slice's spare places count too). A statement '..UptoSaid' is the law's where the arguments, and the package variables that the reading takes, are together of bulk at most 1048576: NARROWER than '..Said'. Prove '..Said' where nothing that the law and all that it calls make is longer than what came in: it says more and counts as full. Else prove '..UptoSaid'. A law counts once. -/
mutual
def uptoBulk {H : Type} : DataW H → Nat
  | .lit (.string bytes) => bytes.length + 1
  | .lit _ => 1
  | .nil => 1
  | .ptr d => uptoBulk d + 1
  | .slice elems spare => uptoBulkAll elems + uptoBulkAll spare + 1
  | .agg parts => uptoBulkAll parts + 1
  | .iface _ d => uptoBulk d + 1
  | .map entries => uptoBulkEntries entries + 1
  | .held _ => 1
def uptoBulkAll {H : Type} : List (DataW H) → Nat
  | [] => 0
  | d :: r => uptoBulk d + uptoBulkAll r
def uptoBulkEntries {H : Type} : List (Lit × DataW H) → Nat
  | [] => 0
  | x :: r => uptoBulkEntry x + uptoBulkEntries r
def uptoBulkEntry {H : Type} : Lit × DataW H → Nat
  | (.string bytes, d) => bytes.length + uptoBulk d + 1
  | (_, d) => uptoBulk d + 1
 end
def uptoSmall : (H : Type) → List (DataW H) → Bool := fun _ ds => decide (uptoBulkAll ds ≤ 1048576)
def OpenSpec.upto (s : _root_.Go.ChangeSpec) : _root_.Go.OpenSpec := { _root_.Go.OpenSpec.ofChange s with cond := some uptoSmall }

/-- 'weighbridgetop.TopTries', WHERE WHAT IT READS IS OF BULK AT MOST 1048576: true; the input reads as it did. -/
def topTriesUptoRow : OpenClaim := { program := "ytpmjgofjdejeead", sum := "a0a5411e9c2d37adf05e3ab02cb14a22d2dc0d77a1c1ce6839dd74e4e7f26802", func := "weighbridge/weighbridgetop.TopTries", spec := "topTries", unfollowed := true, recurses := true, apart := false, narrowed := true }
def TopTriesUptoSaid : Prop := topTriesUptoRow.holds Try.pinned (OpenSpec.upto topTriesSpec)

/-- 'weighbridgetop.TopCache', WHERE WHAT IT READS IS OF BULK AT MOST 1048576: true; the input reads as it did. -/
def topCacheUptoRow : OpenClaim := { program := "ytpmjgofjdejeead", sum := "a0a5411e9c2d37adf05e3ab02cb14a22d2dc0d77a1c1ce6839dd74e4e7f26802", func := "weighbridge/weighbridgetop.TopCache", spec := "topCache", inPlace := ["slices.overlaps[weighbridge/api.Buf]"], unfollowed := true, recurses := true, apart := false, narrowed := true }
def TopCacheUptoSaid : Prop := topCacheUptoRow.holds Try.pinned (OpenSpec.upto topCacheSpec)

/-- 'weighbridgetop.TopLately', WHERE WHAT IT READS IS OF BULK AT MOST 1048576: true; the input reads as it did. -/
def topLatelyUptoRow : OpenClaim := { program := "ytpmjgofjdejeead", sum := "a0a5411e9c2d37adf05e3ab02cb14a22d2dc0d77a1c1ce6839dd74e4e7f26802", func := "weighbridge/weighbridgetop.TopLately", spec := "topLately", inPlace := ["slices.overlaps[weighbridge/api.Buf]"], unfollowed := true, recurses := true, apart := false, narrowed := true }
def TopLatelyUptoSaid : Prop := topLatelyUptoRow.holds Try.pinned (OpenSpec.upto topLatelySpec)

/-- 'weighbridgetop.TopClean', WHERE WHAT IT READS IS OF BULK AT MOST 1048576: true; the input reads as it did. -/
def topCleanUptoRow : OpenClaim := { program := "ytpmjgofjdejeead", sum := "a0a5411e9c2d37adf05e3ab02cb14a22d2dc0d77a1c1ce6839dd74e4e7f26802", func := "weighbridge/weighbridgetop.TopClean", spec := "topClean", unfollowed := true, recurses := true, apart := false, narrowed := true }
def TopCleanUptoSaid : Prop := topCleanUptoRow.holds Try.pinned (OpenSpec.upto topCleanSpec)

end Rows
end Go.Proofs.Ytpmjgofjdejeead
