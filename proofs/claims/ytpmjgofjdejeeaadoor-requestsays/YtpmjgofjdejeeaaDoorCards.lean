/-
  DERIVED. GIVEN WITH THE SEED: THE CARDS: each row of YtpmjgofjdejeeaaDoorRows.lean that lists a variable, with what it lists TIED to the program's text (the seventh form; the later family's looks); each row that meets fmt, with fmt's text TOLD by the authors' own Lean function (tested against real Go, not proved from fmt's source: count such statements apart). THE CARD IS WHAT COUNTS. Prove the row's statement (the work); the ties are given (YtpmjgofjdejeeaaDoorTie.lean); close each card by the builder's one call (the guide's Derived/Test/ToyasCard.lean, 'card_holds'). Laid BY PROGRAM, IN A SANDBOX (cutbox-door.mjs). By AI agents, Wed Nov 11 2026. No macro, syntax, notation, axiom, sorry.
-/
import Derived.Test.YtpmjgofjdejeeaaDoorRows
import GoSem.ClaimSeven
namespace Go.Proofs.YtpmjgofjdejeeaaDoor
namespace Rows

/-- THE TIED CARD OF 'weighbridgelaw.Names'. -/
def namesCard : Claim7 := { stood := { row := namesRow, standIns := [], harness := (true, "3ef352d697c19a5d5a0df4747c6e4096d69e40e160ea1b9a974cb192b8ee7315"), looks := true }, kinds := [], alts := [], laidByText := true, laidKinds := [.data, .data, .data], laidTests := true, laidLooks := .later }
def NamesCardSaid : Prop := Claim7.holds Tryd.pinned (.plain (OpenSpec.ofChange namesSpec)) namesCard

/-- THE TIED CARD OF 'weighbridgelaw.RequestSays'. -/
def requestSaysCard : Claim7 := { stood := { row := requestSaysRow, standIns := [], harness := (true, "3ef352d697c19a5d5a0df4747c6e4096d69e40e160ea1b9a974cb192b8ee7315"), looks := true }, kinds := [], alts := [], laidByText := true, laidKinds := [.data, .data, .data], laidTests := true, laidLooks := .later }
def RequestSaysCardSaid : Prop := Claim7.holds Tryd.pinned (.plain (OpenSpec.ofChange requestSaysSpec)) requestSaysCard

/-- THE SECOND FORM's CARD OF 'weighbridgelaw.Names'. -/
def namesUptoCard : Claim7 := { stood := { row := namesUptoRow, standIns := [], harness := (true, "3ef352d697c19a5d5a0df4747c6e4096d69e40e160ea1b9a974cb192b8ee7315"), looks := true }, kinds := [], alts := [], laidByText := true, laidKinds := [.data, .data, .data], laidTests := true, laidLooks := .later }
def NamesUptoCardSaid : Prop := Claim7.holds Tryd.pinned (.plain (OpenSpec.upto namesSpec)) namesUptoCard

/-- THE SECOND FORM's CARD OF 'weighbridgelaw.RequestSays'. -/
def requestSaysUptoCard : Claim7 := { stood := { row := requestSaysUptoRow, standIns := [], harness := (true, "3ef352d697c19a5d5a0df4747c6e4096d69e40e160ea1b9a974cb192b8ee7315"), looks := true }, kinds := [], alts := [], laidByText := true, laidKinds := [.data, .data, .data], laidTests := true, laidLooks := .later }
def RequestSaysUptoCardSaid : Prop := Claim7.holds Tryd.pinned (.plain (OpenSpec.upto requestSaysSpec)) requestSaysUptoCard
end Rows
end Go.Proofs.YtpmjgofjdejeeaaDoor
