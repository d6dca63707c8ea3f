/-
  DERIVED. GIVEN WITH THE SEED: THE CARDS: each row of YtimjendkpjojoaaGreatDoorRows.lean that lists a variable, with what it lists TIED to the program's text (the seventh form; the later family's looks); each row that meets fmt, with fmt's text TOLD by the authors' own Lean function (tested against real Go, not proved from fmt's source: count such statements apart). THE CARD IS WHAT COUNTS. Prove the row's statement (the work); the ties are given (YtimjendkpjojoaaGreatDoorTie.lean); close each card by the builder's one call (the guide's Derived/Test/ToyasCard.lean, 'card_holds'). Laid BY PROGRAM, IN A SANDBOX (cutbox-door.mjs). By AI agents, Wed Nov 11 2026. No macro, syntax, notation, axiom, sorry.
-/
import Derived.Test.YtimjendkpjojoaaGreatDoorRows
import GoSem.ClaimSeven
namespace Go.Proofs.YtimjendkpjojoaaGreatDoor
namespace Rows

/-- THE TIED CARD OF 'epactlaw12.PrintBack'. -/
def printBackCard : Claim7 := { stood := { row := printBackRow, standIns := [], harness := (true, "8ef3bcb153b606a1da89664ec89fe6e8c451803e04cff14988d9bc4e3a58bd66"), looks := true }, kinds := [], alts := [], laidByText := true, laidKinds := [.data, .data, .data, .data, .data, .data, .sentinel, .sentinel, .data], laidTests := true, laidLooks := .later }
def PrintBackCardSaid : Prop := Claim7.holds Tryz.pinned (.plain (OpenSpec.ofChange printBackSpec)) printBackCard

/-- THE TIED CARD OF 'epactlaw12.PrintCommands'. -/
def printCommandsCard : Claim7 := { stood := { row := printCommandsRow, standIns := [], harness := (true, "8ef3bcb153b606a1da89664ec89fe6e8c451803e04cff14988d9bc4e3a58bd66"), looks := true }, kinds := [], alts := [], laidByText := true, laidKinds := [.data, .data, .data, .data, .data, .data, .sentinel, .sentinel, .data], laidTests := true, laidLooks := .later }
def PrintCommandsCardSaid : Prop := Claim7.holds Tryz.pinned (.plain (OpenSpec.ofChange printCommandsSpec)) printCommandsCard

/-- THE SECOND FORM's CARD OF 'epactlaw12.PrintBack'. -/
def printBackUptoCard : Claim7 := { stood := { row := printBackUptoRow, standIns := [], harness := (true, "8ef3bcb153b606a1da89664ec89fe6e8c451803e04cff14988d9bc4e3a58bd66"), looks := true }, kinds := [], alts := [], laidByText := true, laidKinds := [.data, .data, .data, .data, .data, .data, .sentinel, .sentinel, .data], laidTests := true, laidLooks := .later }
def PrintBackUptoCardSaid : Prop := Claim7.holds Tryz.pinned (.plain (OpenSpec.upto printBackSpec)) printBackUptoCard

/-- THE SECOND FORM's CARD OF 'epactlaw12.PrintCommands'. -/
def printCommandsUptoCard : Claim7 := { stood := { row := printCommandsUptoRow, standIns := [], harness := (true, "8ef3bcb153b606a1da89664ec89fe6e8c451803e04cff14988d9bc4e3a58bd66"), looks := true }, kinds := [], alts := [], laidByText := true, laidKinds := [.data, .data, .data, .data, .data, .data, .sentinel, .sentinel, .data], laidTests := true, laidLooks := .later }
def PrintCommandsUptoCardSaid : Prop := Claim7.holds Tryz.pinned (.plain (OpenSpec.upto printCommandsSpec)) printCommandsUptoCard
end Rows
end Go.Proofs.YtimjendkpjojoaaGreatDoor
