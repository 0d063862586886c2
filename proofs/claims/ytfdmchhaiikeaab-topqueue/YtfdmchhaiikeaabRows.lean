/-
  No cell of these rows narrows 'for every input' (looked for: loops, veiled, ifaces, maps, wideKeys, modest, calm, conditions, laid).
  DERIVED. THE GIVEN ROWS OF THIS SEAT. 6 by the template 'for every input the law returns true; each argument reads behind the call as it read before'; 0 by the template 'total and deterministic' (their statements: YtfdmchhaiikeaabTotals.lean).
  GIVEN WITH THE SEED: the statements are not yours to turn. If you find one false, say at which input.
  Laid BY PROGRAM, IN A SANDBOX (cutbox-rows.mjs): the forced cells as the released guide's own fill.sh prints them over the translation 8a20630beb5f5fe7… (all of the seat's roots in one cut). By AI agents, Wed Nov 11 2026. No macro, syntax, notation, axiom, sorry.
-/
import Derived.Test.YtfdmchhaiikeaabChecked
import GoSem.Claim
import GoSem.ClaimJoined
import GoSem.ClaimMapViews
import Derived.JoinedTies
import Derived.KernelRfl
namespace Go.Proofs.Ytfdmchhaiikeaab
/- THE CELL 'sum', in the pinned program and in every row, IS THE sha256 OF THE DUMP (.gsa) THAT YtfdmchhaiikeaabProg.lean LOADS. Nothing in Lean hashes anything: it is a label: what it is worth is what the hold of that sum in a sandbox is worth. -/
noncomputable def Try.pinned : Pinned := { name := "ytfdmchhaiikeaab", sum := "8a20630beb5f5fe7faa48f3fdcaef26dbcc365b669db331527b2539844fd3e05", checked := Try.checked }
namespace Rows
def none {H : Type} : Left H := { results := [], args := [] }

/-- 'weighbridgetop.TopSpan': WHATEVER THE INPUT: true; the input reads as it did. -/
def topSpanSpec : ChangeSpec := { name := "topSpan", fn := fun _ => fun
  | [d] => { results := [.lit (.bool true)], args := [d] }
  | _ => none }
def topSpanRow : OpenClaim := { program := "ytfdmchhaiikeaab", sum := "8a20630beb5f5fe7faa48f3fdcaef26dbcc365b669db331527b2539844fd3e05", func := "weighbridge/weighbridgetop.TopSpan", spec := "topSpan", apart := false }
def TopSpanSaid : Prop := topSpanRow.holds Try.pinned (OpenSpec.ofChange topSpanSpec)

/-- ITS FALSE NEIGHBOUR: 'it returns false'. Refute it at one input. -/
def topSpanWrong : ChangeSpec := { name := "topSpan", fn := fun _ => fun
  | [d] => { results := [.lit (.bool false)], args := [d] }
  | _ => none }
def TopSpanWrongFalsely : Prop := topSpanRow.holds Try.pinned (OpenSpec.ofChange topSpanWrong)

/-- 'weighbridgetop.TopMerge': WHATEVER THE INPUT: true; the input reads as it did. -/
def topMergeSpec : ChangeSpec := { name := "topMerge", fn := fun _ => fun
  | [d1, d2] => { results := [.lit (.bool true)], args := [d1, d2] }
  | _ => none }
def topMergeRow : OpenClaim := { program := "ytfdmchhaiikeaab", sum := "8a20630beb5f5fe7faa48f3fdcaef26dbcc365b669db331527b2539844fd3e05", func := "weighbridge/weighbridgetop.TopMerge", spec := "topMerge", unfollowed := true, recurses := true, apart := false }
def TopMergeSaid : Prop := topMergeRow.holds Try.pinned (OpenSpec.ofChange topMergeSpec)

/-- ITS FALSE NEIGHBOUR: 'it returns false'. Refute it at one input. -/
def topMergeWrong : ChangeSpec := { name := "topMerge", fn := fun _ => fun
  | [d1, d2] => { results := [.lit (.bool false)], args := [d1, d2] }
  | _ => none }
def TopMergeWrongFalsely : Prop := topMergeRow.holds Try.pinned (OpenSpec.ofChange topMergeWrong)

/-- 'weighbridgetop.TopQueue': WHATEVER THE INPUT: true; the input reads as it did. -/
def topQueueSpec : ChangeSpec := { name := "topQueue", fn := fun _ => fun
  | [d1, d2] => { results := [.lit (.bool true)], args := [d1, d2] }
  | _ => none }
def topQueueRow : OpenClaim := { program := "ytfdmchhaiikeaab", sum := "8a20630beb5f5fe7faa48f3fdcaef26dbcc365b669db331527b2539844fd3e05", func := "weighbridge/weighbridgetop.TopQueue", spec := "topQueue", unfollowed := true, recurses := true, apart := false }
def TopQueueSaid : Prop := topQueueRow.holds Try.pinned (OpenSpec.ofChange topQueueSpec)

/-- ITS FALSE NEIGHBOUR: 'it returns false'. Refute it at one input. -/
def topQueueWrong : ChangeSpec := { name := "topQueue", fn := fun _ => fun
  | [d1, d2] => { results := [.lit (.bool false)], args := [d1, d2] }
  | _ => none }
def TopQueueWrongFalsely : Prop := topQueueRow.holds Try.pinned (OpenSpec.ofChange topQueueWrong)

/-- 'weighbridgetop.TopElevator': WHATEVER THE INPUT: true; the input reads as it did. -/
def topElevatorSpec : ChangeSpec := { name := "topElevator", fn := fun _ => fun
  | [d1, d2] => { results := [.lit (.bool true)], args := [d1, d2] }
  | _ => none }
def topElevatorRow : OpenClaim := { program := "ytfdmchhaiikeaab", sum := "8a20630beb5f5fe7faa48f3fdcaef26dbcc365b669db331527b2539844fd3e05", func := "weighbridge/weighbridgetop.TopElevator", spec := "topElevator", unfollowed := true, recurses := true, apart := false }
def TopElevatorSaid : Prop := topElevatorRow.holds Try.pinned (OpenSpec.ofChange topElevatorSpec)

/-- ITS FALSE NEIGHBOUR: 'it returns false'. Refute it at one input. -/
def topElevatorWrong : ChangeSpec := { name := "topElevator", fn := fun _ => fun
  | [d1, d2] => { results := [.lit (.bool false)], args := [d1, d2] }
  | _ => none }
def TopElevatorWrongFalsely : Prop := topElevatorRow.holds Try.pinned (OpenSpec.ofChange topElevatorWrong)

/-- 'weighbridgetop.TopFair': WHATEVER THE INPUT: true; the input reads as it did. -/
def topFairSpec : ChangeSpec := { name := "topFair", fn := fun _ => fun
  | [d1, d2, d3, d4] => { results := [.lit (.bool true)], args := [d1, d2, d3, d4] }
  | _ => none }
def topFairRow : OpenClaim := { program := "ytfdmchhaiikeaab", sum := "8a20630beb5f5fe7faa48f3fdcaef26dbcc365b669db331527b2539844fd3e05", func := "weighbridge/weighbridgetop.TopFair", spec := "topFair", unfollowed := true, recurses := true, apart := false }
def TopFairSaid : Prop := topFairRow.holds Try.pinned (OpenSpec.ofChange topFairSpec)

/-- ITS FALSE NEIGHBOUR: 'it returns false'. Refute it at one input. -/
def topFairWrong : ChangeSpec := { name := "topFair", fn := fun _ => fun
  | [d1, d2, d3, d4] => { results := [.lit (.bool false)], args := [d1, d2, d3, d4] }
  | _ => none }
def TopFairWrongFalsely : Prop := topFairRow.holds Try.pinned (OpenSpec.ofChange topFairWrong)

/-- 'weighbridgetop.TopOld': WHATEVER THE INPUT: true; the input reads as it did. -/
def topOldSpec : ChangeSpec := { name := "topOld", fn := fun _ => fun
  | [d1, d2] => { results := [.lit (.bool true)], args := [d1, d2] }
  | _ => none }
def topOldRow : OpenClaim := { program := "ytfdmchhaiikeaab", sum := "8a20630beb5f5fe7faa48f3fdcaef26dbcc365b669db331527b2539844fd3e05", func := "weighbridge/weighbridgetop.TopOld", spec := "topOld", unfollowed := true, recurses := true, apart := false }
def TopOldSaid : Prop := topOldRow.holds Try.pinned (OpenSpec.ofChange topOldSpec)

/-- ITS FALSE NEIGHBOUR: 'it returns false'. Refute it at one input. -/
def topOldWrong : ChangeSpec := { name := "topOld", fn := fun _ => fun
  | [d1, d2] => { results := [.lit (.bool false)], args := [d1, d2] }
  | _ => none }
def TopOldWrongFalsely : Prop := topOldRow.holds Try.pinned (OpenSpec.ofChange topOldWrong)

/- THE SECOND FORM. 'bulk': how many values and letters a reading holds, each counted each time it is reached (what is shared counts as often as it is met; a slice's spare places count too). A statement '..UptoSaid' is the law's where the arguments, and the package variables that the reading takes, are together of bulk at most 1048576: NARROWER than '..Said'. Prove '..Said' where nothing that the law and all that it calls make is longer than what came in: it says more and counts as full. Else prove '..UptoSaid'. A law counts once. -/
mutual
def uptoBulk {H : Type} : DataW H → Nat
  | .lit (.string bytes) => bytes.length + 1
  | .lit _ => 1
  | .nil => 1
  | .ptr d => uptoBulk d + 1
  | .slice elems spare => uptoBulkAll elems + uptoBulkAll spare + 1
  | .agg parts => uptoBulkAll parts + 1
  | .iface _ d => uptoBulk d + 1
  | .map entries => uptoBulkEntries entries + 1
  | .held _ => 1
def uptoBulkAll {H : Type} : List (DataW H) → Nat
  | [] => 0
  | d :: r => uptoBulk d + uptoBulkAll r
def uptoBulkEntries {H : Type} : List (Lit × DataW H) → Nat
  | [] => 0
  | x :: r => uptoBulkEntry x + uptoBulkEntries r
def uptoBulkEntry {H : Type} : Lit × DataW H → Nat
  | (.string bytes, d) => bytes.length + uptoBulk d + 1
  | (_, d) => uptoBulk d + 1
 end
def uptoSmall : (H : Type) → List (DataW H) → Bool := fun _ ds => decide (uptoBulkAll ds ≤ 1048576)
def OpenSpec.upto (s : _root_.Go.ChangeSpec) : _root_.Go.OpenSpec := { _root_.Go.OpenSpec.ofChange s with cond := some uptoSmall }

/-- 'weighbridgetop.TopSpan', WHERE WHAT IT READS IS OF BULK AT MOST 1048576: true; the input reads as it did. -/
def topSpanUptoRow : OpenClaim := { program := "ytfdmchhaiikeaab", sum := "8a20630beb5f5fe7faa48f3fdcaef26dbcc365b669db331527b2539844fd3e05", func := "weighbridge/weighbridgetop.TopSpan", spec := "topSpan", apart := false, narrowed := true }
def TopSpanUptoSaid : Prop := topSpanUptoRow.holds Try.pinned (OpenSpec.upto topSpanSpec)

/-- 'weighbridgetop.TopMerge', WHERE WHAT IT READS IS OF BULK AT MOST 1048576: true; the input reads as it did. -/
def topMergeUptoRow : OpenClaim := { program := "ytfdmchhaiikeaab", sum := "8a20630beb5f5fe7faa48f3fdcaef26dbcc365b669db331527b2539844fd3e05", func := "weighbridge/weighbridgetop.TopMerge", spec := "topMerge", unfollowed := true, recurses := true, apart := false, narrowed := true }
def TopMergeUptoSaid : Prop := topMergeUptoRow.holds Try.pinned (OpenSpec.upto topMergeSpec)

/-- 'weighbridgetop.TopQueue', WHERE WHAT IT READS IS OF BULK AT MOST 1048576: true; the input reads as it did. -/
def topQueueUptoRow : OpenClaim := { program := "ytfdmchhaiikeaab", sum := "8a20630beb5f5fe7faa48f3fdcaef26dbcc365b669db331527b2539844fd3e05", func := "weighbridge/weighbridgetop.TopQueue", spec := "topQueue", unfollowed := true, recurses := true, apart := false, narrowed := true }
def TopQueueUptoSaid : Prop := topQueueUptoRow.holds Try.pinned (OpenSpec.upto topQueueSpec)

/-- 'weighbridgetop.TopElevator', WHERE WHAT IT READS IS OF BULK AT MOST 1048576: true; the input reads as it did. -/
def topElevatorUptoRow : OpenClaim := { program := "ytfdmchhaiikeaab", sum := "8a20630beb5f5fe7faa48f3fdcaef26dbcc365b669db331527b2539844fd3e05", func := "weighbridge/weighbridgetop.TopElevator", spec := "topElevator", unfollowed := true, recurses := true, apart := false, narrowed := true }
def TopElevatorUptoSaid : Prop := topElevatorUptoRow.holds Try.pinned (OpenSpec.upto topElevatorSpec)

/-- 'weighbridgetop.TopFair', WHERE WHAT IT READS IS OF BULK AT MOST 1048576: true; the input reads as it did. -/
def topFairUptoRow : OpenClaim := { program := "ytfdmchhaiikeaab", sum := "8a20630beb5f5fe7faa48f3fdcaef26dbcc365b669db331527b2539844fd3e05", func := "weighbridge/weighbridgetop.TopFair", spec := "topFair", unfollowed := true, recurses := true, apart := false, narrowed := true }
def TopFairUptoSaid : Prop := topFairUptoRow.holds Try.pinned (OpenSpec.upto topFairSpec)

/-- 'weighbridgetop.TopOld', WHERE WHAT IT READS IS OF BULK AT MOST 1048576: true; the input reads as it did. -/
def topOldUptoRow : OpenClaim := { program := "ytfdmchhaiikeaab", sum := "8a20630beb5f5fe7faa48f3fdcaef26dbcc365b669db331527b2539844fd3e05", func := "weighbridge/weighbridgetop.TopOld", spec := "topOld", unfollowed := true, recurses := true, apart := false, narrowed := true }
def TopOldUptoSaid : Prop := topOldUptoRow.holds Try.pinned (OpenSpec.upto topOldSpec)

end Rows
end Go.Proofs.Ytfdmchhaiikeaab
