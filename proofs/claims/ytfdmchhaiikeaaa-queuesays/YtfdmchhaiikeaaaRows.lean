/-
  No cell of these rows narrows 'for every input' (looked for: loops, veiled, ifaces, maps, wideKeys, modest, calm, conditions, laid).
  DERIVED. THE GIVEN ROWS OF THIS SEAT. 4 by the template 'for every input the law returns true; each argument reads behind the call as it read before'; 0 by the template 'total and deterministic' (their statements: YtfdmchhaiikeaaaTotals.lean).
  GIVEN WITH THE SEED: the statements are not yours to turn. If you find one false, say at which input.
  Laid BY PROGRAM, IN A SANDBOX (cutbox-rows.mjs): the forced cells as the released guide's own fill.sh prints them over the translation 0999c64cebc2fdca… (all of the seat's roots in one cut). By AI agents, Wed Nov 11 2026. No macro, syntax, notation, axiom, sorry.
-/
import Derived.Test.YtfdmchhaiikeaaaChecked
import GoSem.Claim
import GoSem.ClaimJoined
import GoSem.ClaimMapViews
import Derived.JoinedTies
import Derived.KernelRfl
namespace Go.Proofs.Ytfdmchhaiikeaaa
/- THE CELL 'sum', in the pinned program and in every row, IS THE sha256 OF THE DUMP (.gsa) THAT YtfdmchhaiikeaaaProg.lean LOADS. Nothing in Lean hashes anything: it is a label: what it is worth is what the hold of that sum in a sandbox is worth. -/
noncomputable def Try.pinned : Pinned := { name := "ytfdmchhaiikeaaa", sum := "0999c64cebc2fdcacbdc8ad130c855ae1dd3d3166ccc39ac3f18638ff5f45c85", checked := Try.checked }
namespace Rows
def none {H : Type} : Left H := { results := [], args := [] }

/-- 'weighbridgelaw.SpanSays': WHATEVER THE INPUT: true; the input reads as it did. -/
def spanSaysSpec : ChangeSpec := { name := "spanSays", fn := fun _ => fun
  | [d1, d2, d3, d4] => { results := [.lit (.bool true)], args := [d1, d2, d3, d4] }
  | _ => none }
def spanSaysRow : OpenClaim := { program := "ytfdmchhaiikeaaa", sum := "0999c64cebc2fdcacbdc8ad130c855ae1dd3d3166ccc39ac3f18638ff5f45c85", func := "weighbridge/weighbridgelaw.SpanSays", spec := "spanSays", apart := false }
def SpanSaysSaid : Prop := spanSaysRow.holds Try.pinned (OpenSpec.ofChange spanSaysSpec)

/-- ITS FALSE NEIGHBOUR: 'it returns false'. Refute it at one input. -/
def spanSaysWrong : ChangeSpec := { name := "spanSays", fn := fun _ => fun
  | [d1, d2, d3, d4] => { results := [.lit (.bool false)], args := [d1, d2, d3, d4] }
  | _ => none }
def SpanSaysWrongFalsely : Prop := spanSaysRow.holds Try.pinned (OpenSpec.ofChange spanSaysWrong)

/-- 'weighbridgelaw.QueueSays': WHATEVER THE INPUT: true; the input reads as it did. -/
def queueSaysSpec : ChangeSpec := { name := "queueSays", fn := fun _ => fun
  | [d1, d2, d3, d4] => { results := [.lit (.bool true)], args := [d1, d2, d3, d4] }
  | _ => none }
def queueSaysRow : OpenClaim := { program := "ytfdmchhaiikeaaa", sum := "0999c64cebc2fdcacbdc8ad130c855ae1dd3d3166ccc39ac3f18638ff5f45c85", func := "weighbridge/weighbridgelaw.QueueSays", spec := "queueSays", unfollowed := true, recurses := true, apart := false }
def QueueSaysSaid : Prop := queueSaysRow.holds Try.pinned (OpenSpec.ofChange queueSaysSpec)

/-- ITS FALSE NEIGHBOUR: 'it returns false'. Refute it at one input. -/
def queueSaysWrong : ChangeSpec := { name := "queueSays", fn := fun _ => fun
  | [d1, d2, d3, d4] => { results := [.lit (.bool false)], args := [d1, d2, d3, d4] }
  | _ => none }
def QueueSaysWrongFalsely : Prop := queueSaysRow.holds Try.pinned (OpenSpec.ofChange queueSaysWrong)

/-- 'weighbridgelaw.ElevatorSays': WHATEVER THE INPUT: true; the input reads as it did. -/
def elevatorSaysSpec : ChangeSpec := { name := "elevatorSays", fn := fun _ => fun
  | [d1, d2, d3] => { results := [.lit (.bool true)], args := [d1, d2, d3] }
  | _ => none }
def elevatorSaysRow : OpenClaim := { program := "ytfdmchhaiikeaaa", sum := "0999c64cebc2fdcacbdc8ad130c855ae1dd3d3166ccc39ac3f18638ff5f45c85", func := "weighbridge/weighbridgelaw.ElevatorSays", spec := "elevatorSays", unfollowed := true, recurses := true, apart := false }
def ElevatorSaysSaid : Prop := elevatorSaysRow.holds Try.pinned (OpenSpec.ofChange elevatorSaysSpec)

/-- ITS FALSE NEIGHBOUR: 'it returns false'. Refute it at one input. -/
def elevatorSaysWrong : ChangeSpec := { name := "elevatorSays", fn := fun _ => fun
  | [d1, d2, d3] => { results := [.lit (.bool false)], args := [d1, d2, d3] }
  | _ => none }
def ElevatorSaysWrongFalsely : Prop := elevatorSaysRow.holds Try.pinned (OpenSpec.ofChange elevatorSaysWrong)

/-- 'weighbridgetop.TopMeet': WHATEVER THE INPUT: true; the input reads as it did. -/
def topMeetSpec : ChangeSpec := { name := "topMeet", fn := fun _ => fun
  | [d1, d2, d3] => { results := [.lit (.bool true)], args := [d1, d2, d3] }
  | _ => none }
def topMeetRow : OpenClaim := { program := "ytfdmchhaiikeaaa", sum := "0999c64cebc2fdcacbdc8ad130c855ae1dd3d3166ccc39ac3f18638ff5f45c85", func := "weighbridge/weighbridgetop.TopMeet", spec := "topMeet", apart := false }
def TopMeetSaid : Prop := topMeetRow.holds Try.pinned (OpenSpec.ofChange topMeetSpec)

/-- ITS FALSE NEIGHBOUR: 'it returns false'. Refute it at one input. -/
def topMeetWrong : ChangeSpec := { name := "topMeet", fn := fun _ => fun
  | [d1, d2, d3] => { results := [.lit (.bool false)], args := [d1, d2, d3] }
  | _ => none }
def TopMeetWrongFalsely : Prop := topMeetRow.holds Try.pinned (OpenSpec.ofChange topMeetWrong)

/- THE SECOND FORM. 'bulk': how many values and letters a reading holds, each counted each time it is reached (what is shared counts as often as it is met; a slice's spare places count too). A statement '..UptoSaid' is the law's where the arguments, and the package variables that the reading takes, are together of bulk at most 1048576: NARROWER than '..Said'. Prove '..Said' where nothing that the law and all that it calls make is longer than what came in: it says more and counts as full. Else prove '..UptoSaid'. A law counts once. -/
mutual
def uptoBulk {H : Type} : DataW H → Nat
  | .lit (.string bytes) => bytes.length + 1
  | .lit _ => 1
  | .nil => 1
  | .ptr d => uptoBulk d + 1
  | .slice elems spare => uptoBulkAll elems + uptoBulkAll spare + 1
  | .agg parts => uptoBulkAll parts + 1
  | .iface _ d => uptoBulk d + 1
  | .map entries => uptoBulkEntries entries + 1
  | .held _ => 1
def uptoBulkAll {H : Type} : List (DataW H) → Nat
  | [] => 0
  | d :: r => uptoBulk d + uptoBulkAll r
def uptoBulkEntries {H : Type} : List (Lit × DataW H) → Nat
  | [] => 0
  | x :: r => uptoBulkEntry x + uptoBulkEntries r
def uptoBulkEntry {H : Type} : Lit × DataW H → Nat
  | (.string bytes, d) => bytes.length + uptoBulk d + 1
  | (_, d) => uptoBulk d + 1
 end
def uptoSmall : (H : Type) → List (DataW H) → Bool := fun _ ds => decide (uptoBulkAll ds ≤ 1048576)
def OpenSpec.upto (s : _root_.Go.ChangeSpec) : _root_.Go.OpenSpec := { _root_.Go.OpenSpec.ofChange s with cond := some uptoSmall }

/-- 'weighbridgelaw.SpanSays', WHERE WHAT IT READS IS OF BULK AT MOST 1048576: true; the input reads as it did. -/
def spanSaysUptoRow : OpenClaim := { program := "ytfdmchhaiikeaaa", sum := "0999c64cebc2fdcacbdc8ad130c855ae1dd3d3166ccc39ac3f18638ff5f45c85", func := "weighbridge/weighbridgelaw.SpanSays", spec := "spanSays", apart := false, narrowed := true }
def SpanSaysUptoSaid : Prop := spanSaysUptoRow.holds Try.pinned (OpenSpec.upto spanSaysSpec)

/-- 'weighbridgelaw.QueueSays', WHERE WHAT IT READS IS OF BULK AT MOST 1048576: true; the input reads as it did. -/
def queueSaysUptoRow : OpenClaim := { program := "ytfdmchhaiikeaaa", sum := "0999c64cebc2fdcacbdc8ad130c855ae1dd3d3166ccc39ac3f18638ff5f45c85", func := "weighbridge/weighbridgelaw.QueueSays", spec := "queueSays", unfollowed := true, recurses := true, apart := false, narrowed := true }
def QueueSaysUptoSaid : Prop := queueSaysUptoRow.holds Try.pinned (OpenSpec.upto queueSaysSpec)

/-- 'weighbridgelaw.ElevatorSays', WHERE WHAT IT READS IS OF BULK AT MOST 1048576: true; the input reads as it did. -/
def elevatorSaysUptoRow : OpenClaim := { program := "ytfdmchhaiikeaaa", sum := "0999c64cebc2fdcacbdc8ad130c855ae1dd3d3166ccc39ac3f18638ff5f45c85", func := "weighbridge/weighbridgelaw.ElevatorSays", spec := "elevatorSays", unfollowed := true, recurses := true, apart := false, narrowed := true }
def ElevatorSaysUptoSaid : Prop := elevatorSaysUptoRow.holds Try.pinned (OpenSpec.upto elevatorSaysSpec)

/-- 'weighbridgetop.TopMeet', WHERE WHAT IT READS IS OF BULK AT MOST 1048576: true; the input reads as it did. -/
def topMeetUptoRow : OpenClaim := { program := "ytfdmchhaiikeaaa", sum := "0999c64cebc2fdcacbdc8ad130c855ae1dd3d3166ccc39ac3f18638ff5f45c85", func := "weighbridge/weighbridgetop.TopMeet", spec := "topMeet", apart := false, narrowed := true }
def TopMeetUptoSaid : Prop := topMeetUptoRow.holds Try.pinned (OpenSpec.upto topMeetSpec)

end Rows
end Go.Proofs.Ytfdmchhaiikeaaa
