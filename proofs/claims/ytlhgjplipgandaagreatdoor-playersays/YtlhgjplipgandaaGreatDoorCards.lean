/-
  DERIVED. GIVEN WITH THE SEED: THE CARDS: each row of YtlhgjplipgandaaGreatDoorRows.lean that lists a variable, with what it lists TIED to the program's text (the seventh form; the later family's looks); each row that meets fmt, with fmt's text TOLD by the authors' own Lean function (tested against real Go, not proved from fmt's source: count such statements apart). THE CARD IS WHAT COUNTS. Prove the row's statement (the work); the ties are given (YtlhgjplipgandaaGreatDoorTie.lean); close each card by the builder's one call (the guide's Derived/Test/ToyasCard.lean, 'card_holds'). Laid BY PROGRAM, IN A SANDBOX (cutbox-door.mjs). By AI agents, Wed Nov 11 2026. No macro, syntax, notation, axiom, sorry.
-/
import Derived.Test.YtlhgjplipgandaaGreatDoorRows
import GoSem.ClaimSeven
namespace Go.Proofs.YtlhgjplipgandaaGreatDoor
namespace Rows

/-- THE TIED CARD OF 'weighbridgelaw.PlayerSays'. -/
def playerSaysCard : Claim7 := { stood := { row := playerSaysRow, standIns := [], harness := (true, "8eaf27debec4554f749ab49620f2d9fe509d4b554f8599c540daa6e6afb9dac3"), looks := true }, kinds := [], alts := [], laidByText := true, laidKinds := [.data, .data, .data], laidTests := true, laidLooks := .later }
def PlayerSaysCardSaid : Prop := Claim7.holds Tryz.pinned (.plain (OpenSpec.ofChange playerSaysSpec)) playerSaysCard

/-- THE TIED CARD OF 'weighbridgelaw.ConsoleSays'. -/
def consoleSaysCard : Claim7 := { stood := { row := consoleSaysRow, standIns := [], harness := (true, "8eaf27debec4554f749ab49620f2d9fe509d4b554f8599c540daa6e6afb9dac3"), looks := true }, kinds := [], alts := [], laidByText := true, laidKinds := [.data, .data, .data, .sentinel, .sentinel], laidTests := true, laidLooks := .later }
def ConsoleSaysCardSaid : Prop := Claim7.holds Tryz.pinned (.plain (OpenSpec.ofChange consoleSaysSpec)) consoleSaysCard

/-- THE TIED CARD OF 'weighbridgetop.TopTwice'. -/
def topTwiceCard : Claim7 := { stood := { row := topTwiceRow, standIns := [], harness := (true, "8eaf27debec4554f749ab49620f2d9fe509d4b554f8599c540daa6e6afb9dac3"), looks := true }, kinds := [], alts := [], laidByText := true, laidKinds := [.data, .data, .data], laidTests := true, laidLooks := .later }
def TopTwiceCardSaid : Prop := Claim7.holds Tryz.pinned (.plain (OpenSpec.ofChange topTwiceSpec)) topTwiceCard

/-- THE TIED CARD OF 'weighbridgetop.TopBoot'. -/
def topBootCard : Claim7 := { stood := { row := topBootRow, standIns := [], harness := (true, "8eaf27debec4554f749ab49620f2d9fe509d4b554f8599c540daa6e6afb9dac3"), looks := true }, kinds := [], alts := [], laidByText := true, laidKinds := [.data, .data, .data], laidTests := true, laidLooks := .later }
def TopBootCardSaid : Prop := Claim7.holds Tryz.pinned (.plain (OpenSpec.ofChange topBootSpec)) topBootCard

/-- THE SECOND FORM's CARD OF 'weighbridgelaw.PlayerSays'. -/
def playerSaysUptoCard : Claim7 := { stood := { row := playerSaysUptoRow, standIns := [], harness := (true, "8eaf27debec4554f749ab49620f2d9fe509d4b554f8599c540daa6e6afb9dac3"), looks := true }, kinds := [], alts := [], laidByText := true, laidKinds := [.data, .data, .data], laidTests := true, laidLooks := .later }
def PlayerSaysUptoCardSaid : Prop := Claim7.holds Tryz.pinned (.plain (OpenSpec.upto playerSaysSpec)) playerSaysUptoCard

/-- THE SECOND FORM's CARD OF 'weighbridgelaw.ConsoleSays'. -/
def consoleSaysUptoCard : Claim7 := { stood := { row := consoleSaysUptoRow, standIns := [], harness := (true, "8eaf27debec4554f749ab49620f2d9fe509d4b554f8599c540daa6e6afb9dac3"), looks := true }, kinds := [], alts := [], laidByText := true, laidKinds := [.data, .data, .data, .sentinel, .sentinel], laidTests := true, laidLooks := .later }
def ConsoleSaysUptoCardSaid : Prop := Claim7.holds Tryz.pinned (.plain (OpenSpec.upto consoleSaysSpec)) consoleSaysUptoCard

/-- THE SECOND FORM's CARD OF 'weighbridgetop.TopTwice'. -/
def topTwiceUptoCard : Claim7 := { stood := { row := topTwiceUptoRow, standIns := [], harness := (true, "8eaf27debec4554f749ab49620f2d9fe509d4b554f8599c540daa6e6afb9dac3"), looks := true }, kinds := [], alts := [], laidByText := true, laidKinds := [.data, .data, .data], laidTests := true, laidLooks := .later }
def TopTwiceUptoCardSaid : Prop := Claim7.holds Tryz.pinned (.plain (OpenSpec.upto topTwiceSpec)) topTwiceUptoCard

/-- THE SECOND FORM's CARD OF 'weighbridgetop.TopBoot'. -/
def topBootUptoCard : Claim7 := { stood := { row := topBootUptoRow, standIns := [], harness := (true, "8eaf27debec4554f749ab49620f2d9fe509d4b554f8599c540daa6e6afb9dac3"), looks := true }, kinds := [], alts := [], laidByText := true, laidKinds := [.data, .data, .data], laidTests := true, laidLooks := .later }
def TopBootUptoCardSaid : Prop := Claim7.holds Tryz.pinned (.plain (OpenSpec.upto topBootSpec)) topBootUptoCard
end Rows
end Go.Proofs.YtlhgjplipgandaaGreatDoor
