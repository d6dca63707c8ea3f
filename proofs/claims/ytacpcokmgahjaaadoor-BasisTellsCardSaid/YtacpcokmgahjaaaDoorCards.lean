/-
  DERIVED. GIVEN WITH THE SEED: THE CARDS: each row of YtacpcokmgahjaaaDoorRows.lean that lists a variable, with what it lists TIED to the program's text (the seventh form; the later family's looks); each row that meets fmt, with fmt's text TOLD by the authors' own Lean function (tested against real Go, not proved from fmt's source: count such statements apart). THE CARD IS WHAT COUNTS. Prove the row's statement (the work); the ties are given (YtacpcokmgahjaaaDoorTie.lean); close each card by the builder's one call (the guide's Derived/Test/ToyasCard.lean, 'card_holds'). Laid BY PROGRAM, IN A SANDBOX (cutbox-door.mjs). By AI agents, Wed Nov 11 2026. No macro, syntax, notation, axiom, sorry.
-/
import Derived.Test.YtacpcokmgahjaaaDoorRows
import GoSem.ClaimSeven
namespace Go.Proofs.YtacpcokmgahjaaaDoor
namespace Rows

/-- THE TIED CARD OF 'epactlaw08.BasisTells'. -/
def basisTellsCard : Claim7 := { stood := { row := basisTellsRow, standIns := [], harness := (true, "780a32be54d66ff810bd012d516169887ce155f847d49a29db23ad53dec0621c"), looks := false }, kinds := [], alts := [], goes := true, laidByText := true, laidKinds := [.data], laidTests := true, laidLooks := .later }
def BasisTellsCardSaid : Prop := Claim7.holds Tryd.pinned (.plain (OpenSpec.ofChange basisTellsSpec)) basisTellsCard

/-- THE TIED CARD OF 'epactlaw08.BasisRight'. -/
def basisRightCard : Claim7 := { stood := { row := basisRightRow, standIns := [], harness := (true, "780a32be54d66ff810bd012d516169887ce155f847d49a29db23ad53dec0621c"), looks := false }, kinds := [], alts := [], goes := true, laidByText := true, laidKinds := [.data], laidTests := true, laidLooks := .later }
def BasisRightCardSaid : Prop := Claim7.holds Tryd.pinned (.plain (OpenSpec.ofChange basisRightSpec)) basisRightCard

/-- THE TIED CARD OF 'epactlaw08.BasisDates'. -/
def basisDatesCard : Claim7 := { stood := { row := basisDatesRow, standIns := [], harness := (true, "780a32be54d66ff810bd012d516169887ce155f847d49a29db23ad53dec0621c"), looks := false }, kinds := [], alts := [], goes := true, laidByText := true, laidKinds := [.data], laidTests := true, laidLooks := .later }
def BasisDatesCardSaid : Prop := Claim7.holds Tryd.pinned (.plain (OpenSpec.ofChange basisDatesSpec)) basisDatesCard

/-- THE TIED CARD OF 'epactlaw08.BasisOnce'. -/
def basisOnceCard : Claim7 := { stood := { row := basisOnceRow, standIns := [], harness := (true, "780a32be54d66ff810bd012d516169887ce155f847d49a29db23ad53dec0621c"), looks := false }, kinds := [], alts := [], goes := true, laidByText := true, laidKinds := [.data], laidTests := true, laidLooks := .later }
def BasisOnceCardSaid : Prop := Claim7.holds Tryd.pinned (.plain (OpenSpec.ofChange basisOnceSpec)) basisOnceCard

/-- THE TIED CARD OF 'epactlaw08.BasisNone'. -/
def basisNoneCard : Claim7 := { stood := { row := basisNoneRow, standIns := [], harness := (true, "780a32be54d66ff810bd012d516169887ce155f847d49a29db23ad53dec0621c"), looks := false }, kinds := [], alts := [], goes := true, laidByText := true, laidKinds := [.data], laidTests := true, laidLooks := .later }
def BasisNoneCardSaid : Prop := Claim7.holds Tryd.pinned (.plain (OpenSpec.ofChange basisNoneSpec)) basisNoneCard
end Rows
end Go.Proofs.YtacpcokmgahjaaaDoor
