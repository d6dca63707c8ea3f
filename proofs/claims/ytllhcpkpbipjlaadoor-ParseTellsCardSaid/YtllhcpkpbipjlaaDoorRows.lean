/-
  NARROWER THAN 'FOR EVERY INPUT', by the rows' own cells (each row's printed sentence says how): ParseTells: laid · ParseBack: loops, laid · ParseDepth: laid · ParseCommands: loops, laid · ParsePlace: laid.
  DERIVED. THE GIVEN ROWS OF THIS SEAT. 5 by the template 'for every input the law returns true; each argument reads behind the call as it read before'; 0 by the template 'total and deterministic' (their statements: YtllhcpkpbipjlaaDoorTotals.lean).
  GIVEN WITH THE SEED: the statements are not yours to turn. If you find one false, say at which input.
  Laid BY PROGRAM, IN A SANDBOX (cutbox-rows.mjs): the forced cells as the released guide's own fill.sh prints them over the translation e3529810f543dc5a… (all of the seat's roots in one cut). By AI agents, Wed Nov 11 2026. No macro, syntax, notation, axiom, sorry.
-/
import Derived.Test.YtllhcpkpbipjlaaDoorChecked
import GoSem.Claim
import GoSem.ClaimJoined
import GoSem.ClaimMapViews
import Derived.JoinedTies
import Derived.KernelRfl
namespace Go.Proofs.YtllhcpkpbipjlaaDoor
/- THE CELL 'sum', in the pinned program and in every row, IS THE sha256 OF THE DUMP (.gsa) THAT YtllhcpkpbipjlaaDoorProg.lean LOADS. Nothing in Lean hashes anything: it is a label: what it is worth is what the hold of that sum in a sandbox is worth. -/
noncomputable def Tryd.pinned : Pinned := { name := "ytllhcpkpbipjlaadoor", sum := "e3529810f543dc5a99c54400d107c3049f648ab12fdcec60d8841e4466a4167f", checked := Tryd.checked }
namespace Rows
def none {H : Type} : Left H := { results := [], args := [] }

/- WHAT THE LISTED PACKAGE-LEVEL VARIABLES READ AS WHEN THE CALL BEGINS. Each datum BY PROGRAM (the guide's laid-datum.mjs) off the statement by which the dump's own 'gosem.cut.vars' lays the variable. In a bare row this is a premise. The card (YtllhcpkpbipjlaaDoorCards.lean) ties it to the program's text. -/
def laid_epact_expr_needs {H : Type} : DataW H := .agg [.agg [.lit (.int .i64 0), .lit (.int .i64 0)], .agg [.lit (.int .i64 1), .lit (.int .i64 1)], .agg [.lit (.int .i64 1), .lit (.int .i64 1)], .agg [.lit (.int .i64 2), .lit (.int .i64 1)], .agg [.lit (.int .i64 3), .lit (.int .i64 2)], .agg [.lit (.int .i64 0), .lit (.int .i64 2)], .agg [.lit (.int .i64 0), .lit (.int .i64 2)], .agg [.lit (.int .i64 2), .lit (.int .i64 2)], .agg [.lit (.int .i64 0), .lit (.int .i64 2)], .agg [.lit (.int .i64 2), .lit (.int .i64 2)], .agg [.lit (.int .i64 0), .lit (.int .i64 2)], .agg [.lit (.int .i64 0), .lit (.int .i64 2)], .agg [.lit (.int .i64 0), .lit (.int .i64 2)]]
def laid_epact_parse_words {H : Type} : DataW H := .agg [.lit (.string [103, 114, 111, 117, 112]), .lit (.string [115, 104, 105, 102, 116]), .lit (.string [115, 117, 98, 115, 101, 116]), .lit (.string [97, 108, 116, 101, 114]), .lit (.string [99, 111, 109, 98, 105, 110, 101]), .lit (.string [97, 110, 99, 104, 111, 114]), .lit (.string [100, 111, 119, 110]), .lit (.string [117, 112]), .lit (.string [109, 101, 101, 116]), .lit (.string [117, 110, 105, 111, 110]), .lit (.string [99, 117, 116]), .lit (.string [108, 101, 115, 115])]

/-- 'epactlaw11.ParseTells': WHATEVER THE INPUT: true; the input reads as it did. -/
def parseTellsSpec : ChangeSpec := { name := "parseTells", fn := fun _ => fun
  | [d1, d2] => { results := [.lit (.bool true)], args := [d1, d2] }
  | _ => none }
def parseTellsRow : OpenClaim := { program := "ytllhcpkpbipjlaadoor", sum := "e3529810f543dc5a99c54400d107c3049f648ab12fdcec60d8841e4466a4167f", func := "epact/epactlaw11.ParseTells", spec := "parseTells", recurses := true, named := ["epact/parse.words", "epact/expr.needs"], apart := false, laid := [("epact/expr.needs", laid_epact_expr_needs), ("epact/parse.words", laid_epact_parse_words)] }
def ParseTellsSaid : Prop := parseTellsRow.holds Tryd.pinned (OpenSpec.ofChange parseTellsSpec)

/-- ITS FALSE NEIGHBOUR: 'it returns false'. Refute it at one input. -/
def parseTellsWrong : ChangeSpec := { name := "parseTells", fn := fun _ => fun
  | [d1, d2] => { results := [.lit (.bool false)], args := [d1, d2] }
  | _ => none }
def ParseTellsWrongFalsely : Prop := parseTellsRow.holds Tryd.pinned (OpenSpec.ofChange parseTellsWrong)

/-- 'epactlaw11.ParseBack': WHATEVER THE INPUT: true; the input reads as it did. -/
def parseBackSpec : ChangeSpec := { name := "parseBack", fn := fun _ => fun
  | [d1, d2, d3] => { results := [.lit (.bool true)], args := [d1, d2, d3] }
  | _ => none }
def parseBackRow : OpenClaim := { program := "ytllhcpkpbipjlaadoor", sum := "e3529810f543dc5a99c54400d107c3049f648ab12fdcec60d8841e4466a4167f", func := "epact/epactlaw11.ParseBack", spec := "parseBack", recurses := true, named := ["epact/parse.words", "epact/expr.needs"], loops := true, apart := false, laid := [("epact/expr.needs", laid_epact_expr_needs), ("epact/parse.words", laid_epact_parse_words)] }
def ParseBackSaid : Prop := parseBackRow.holds Tryd.pinned (OpenSpec.ofChange parseBackSpec)

/-- ITS FALSE NEIGHBOUR: 'it returns false'. Refute it at one input. -/
def parseBackWrong : ChangeSpec := { name := "parseBack", fn := fun _ => fun
  | [d1, d2, d3] => { results := [.lit (.bool false)], args := [d1, d2, d3] }
  | _ => none }
def ParseBackWrongFalsely : Prop := parseBackRow.holds Tryd.pinned (OpenSpec.ofChange parseBackWrong)

/-- 'epactlaw11.ParseDepth': WHATEVER THE INPUT: true; the input reads as it did. -/
def parseDepthSpec : ChangeSpec := { name := "parseDepth", fn := fun _ => fun
  | [d1, d2] => { results := [.lit (.bool true)], args := [d1, d2] }
  | _ => none }
def parseDepthRow : OpenClaim := { program := "ytllhcpkpbipjlaadoor", sum := "e3529810f543dc5a99c54400d107c3049f648ab12fdcec60d8841e4466a4167f", func := "epact/epactlaw11.ParseDepth", spec := "parseDepth", recurses := true, named := ["epact/parse.words", "epact/expr.needs"], apart := false, laid := [("epact/expr.needs", laid_epact_expr_needs), ("epact/parse.words", laid_epact_parse_words)] }
def ParseDepthSaid : Prop := parseDepthRow.holds Tryd.pinned (OpenSpec.ofChange parseDepthSpec)

/-- ITS FALSE NEIGHBOUR: 'it returns false'. Refute it at one input. -/
def parseDepthWrong : ChangeSpec := { name := "parseDepth", fn := fun _ => fun
  | [d1, d2] => { results := [.lit (.bool false)], args := [d1, d2] }
  | _ => none }
def ParseDepthWrongFalsely : Prop := parseDepthRow.holds Tryd.pinned (OpenSpec.ofChange parseDepthWrong)

/-- 'epactlaw11.ParseCommands': WHATEVER THE INPUT: true; the input reads as it did. -/
def parseCommandsSpec : ChangeSpec := { name := "parseCommands", fn := fun _ => fun
  | [d1, d2] => { results := [.lit (.bool true)], args := [d1, d2] }
  | _ => none }
def parseCommandsRow : OpenClaim := { program := "ytllhcpkpbipjlaadoor", sum := "e3529810f543dc5a99c54400d107c3049f648ab12fdcec60d8841e4466a4167f", func := "epact/epactlaw11.ParseCommands", spec := "parseCommands", recurses := true, named := ["epact/parse.words", "epact/expr.needs"], loops := true, apart := false, laid := [("epact/expr.needs", laid_epact_expr_needs), ("epact/parse.words", laid_epact_parse_words)] }
def ParseCommandsSaid : Prop := parseCommandsRow.holds Tryd.pinned (OpenSpec.ofChange parseCommandsSpec)

/-- ITS FALSE NEIGHBOUR: 'it returns false'. Refute it at one input. -/
def parseCommandsWrong : ChangeSpec := { name := "parseCommands", fn := fun _ => fun
  | [d1, d2] => { results := [.lit (.bool false)], args := [d1, d2] }
  | _ => none }
def ParseCommandsWrongFalsely : Prop := parseCommandsRow.holds Tryd.pinned (OpenSpec.ofChange parseCommandsWrong)

/-- 'epactlaw11.ParsePlace': WHATEVER THE INPUT: true; the input reads as it did. -/
def parsePlaceSpec : ChangeSpec := { name := "parsePlace", fn := fun _ => fun
  | [d1, d2] => { results := [.lit (.bool true)], args := [d1, d2] }
  | _ => none }
def parsePlaceRow : OpenClaim := { program := "ytllhcpkpbipjlaadoor", sum := "e3529810f543dc5a99c54400d107c3049f648ab12fdcec60d8841e4466a4167f", func := "epact/epactlaw11.ParsePlace", spec := "parsePlace", recurses := true, named := ["epact/parse.words", "epact/expr.needs"], apart := false, laid := [("epact/expr.needs", laid_epact_expr_needs), ("epact/parse.words", laid_epact_parse_words)] }
def ParsePlaceSaid : Prop := parsePlaceRow.holds Tryd.pinned (OpenSpec.ofChange parsePlaceSpec)

/-- ITS FALSE NEIGHBOUR: 'it returns false'. Refute it at one input. -/
def parsePlaceWrong : ChangeSpec := { name := "parsePlace", fn := fun _ => fun
  | [d1, d2] => { results := [.lit (.bool false)], args := [d1, d2] }
  | _ => none }
def ParsePlaceWrongFalsely : Prop := parsePlaceRow.holds Tryd.pinned (OpenSpec.ofChange parsePlaceWrong)

/- THE SECOND FORM. 'bulk': how many values and letters a reading holds, each counted each time it is reached (what is shared counts as often as it is met; a slice's spare places count too). A statement '..UptoSaid' is the law's where the arguments, and the package variables that the reading takes, are together of bulk at most 1048576: NARROWER than '..Said'. Prove '..Said' where nothing that the law and all that it calls make is longer than what came in: it says more and counts as full. Else prove '..UptoSaid'. A law counts once. -/
mutual
def uptoBulk {H : Type} : DataW H → Nat
  | .lit (.string bytes) => bytes.length + 1
  | .lit _ => 1
  | .nil => 1
  | .ptr d => uptoBulk d + 1
  | .slice elems spare => uptoBulkAll elems + uptoBulkAll spare + 1
  | .agg parts => uptoBulkAll parts + 1
  | .iface _ d => uptoBulk d + 1
  | .map entries => uptoBulkEntries entries + 1
  | .held _ => 1
def uptoBulkAll {H : Type} : List (DataW H) → Nat
  | [] => 0
  | d :: r => uptoBulk d + uptoBulkAll r
def uptoBulkEntries {H : Type} : List (Lit × DataW H) → Nat
  | [] => 0
  | x :: r => uptoBulkEntry x + uptoBulkEntries r
def uptoBulkEntry {H : Type} : Lit × DataW H → Nat
  | (.string bytes, d) => bytes.length + uptoBulk d + 1
  | (_, d) => uptoBulk d + 1
 end
def uptoSmall : (H : Type) → List (DataW H) → Bool := fun _ ds => decide (uptoBulkAll ds ≤ 1048576)
def OpenSpec.upto (s : _root_.Go.ChangeSpec) : _root_.Go.OpenSpec := { _root_.Go.OpenSpec.ofChange s with cond := some uptoSmall }

/-- 'epactlaw11.ParseTells', WHERE WHAT IT READS IS OF BULK AT MOST 1048576: true; the input reads as it did. -/
def parseTellsUptoRow : OpenClaim := { program := "ytllhcpkpbipjlaadoor", sum := "e3529810f543dc5a99c54400d107c3049f648ab12fdcec60d8841e4466a4167f", func := "epact/epactlaw11.ParseTells", spec := "parseTells", recurses := true, named := ["epact/parse.words", "epact/expr.needs"], apart := false, laid := [("epact/expr.needs", laid_epact_expr_needs), ("epact/parse.words", laid_epact_parse_words)], narrowed := true }
def ParseTellsUptoSaid : Prop := parseTellsUptoRow.holds Tryd.pinned (OpenSpec.upto parseTellsSpec)

/-- 'epactlaw11.ParseBack', WHERE WHAT IT READS IS OF BULK AT MOST 1048576: true; the input reads as it did. -/
def parseBackUptoRow : OpenClaim := { program := "ytllhcpkpbipjlaadoor", sum := "e3529810f543dc5a99c54400d107c3049f648ab12fdcec60d8841e4466a4167f", func := "epact/epactlaw11.ParseBack", spec := "parseBack", recurses := true, named := ["epact/parse.words", "epact/expr.needs"], loops := true, apart := false, laid := [("epact/expr.needs", laid_epact_expr_needs), ("epact/parse.words", laid_epact_parse_words)], narrowed := true }
def ParseBackUptoSaid : Prop := parseBackUptoRow.holds Tryd.pinned (OpenSpec.upto parseBackSpec)

/-- 'epactlaw11.ParseDepth', WHERE WHAT IT READS IS OF BULK AT MOST 1048576: true; the input reads as it did. -/
def parseDepthUptoRow : OpenClaim := { program := "ytllhcpkpbipjlaadoor", sum := "e3529810f543dc5a99c54400d107c3049f648ab12fdcec60d8841e4466a4167f", func := "epact/epactlaw11.ParseDepth", spec := "parseDepth", recurses := true, named := ["epact/parse.words", "epact/expr.needs"], apart := false, laid := [("epact/expr.needs", laid_epact_expr_needs), ("epact/parse.words", laid_epact_parse_words)], narrowed := true }
def ParseDepthUptoSaid : Prop := parseDepthUptoRow.holds Tryd.pinned (OpenSpec.upto parseDepthSpec)

/-- 'epactlaw11.ParseCommands', WHERE WHAT IT READS IS OF BULK AT MOST 1048576: true; the input reads as it did. -/
def parseCommandsUptoRow : OpenClaim := { program := "ytllhcpkpbipjlaadoor", sum := "e3529810f543dc5a99c54400d107c3049f648ab12fdcec60d8841e4466a4167f", func := "epact/epactlaw11.ParseCommands", spec := "parseCommands", recurses := true, named := ["epact/parse.words", "epact/expr.needs"], loops := true, apart := false, laid := [("epact/expr.needs", laid_epact_expr_needs), ("epact/parse.words", laid_epact_parse_words)], narrowed := true }
def ParseCommandsUptoSaid : Prop := parseCommandsUptoRow.holds Tryd.pinned (OpenSpec.upto parseCommandsSpec)

/-- 'epactlaw11.ParsePlace', WHERE WHAT IT READS IS OF BULK AT MOST 1048576: true; the input reads as it did. -/
def parsePlaceUptoRow : OpenClaim := { program := "ytllhcpkpbipjlaadoor", sum := "e3529810f543dc5a99c54400d107c3049f648ab12fdcec60d8841e4466a4167f", func := "epact/epactlaw11.ParsePlace", spec := "parsePlace", recurses := true, named := ["epact/parse.words", "epact/expr.needs"], apart := false, laid := [("epact/expr.needs", laid_epact_expr_needs), ("epact/parse.words", laid_epact_parse_words)], narrowed := true }
def ParsePlaceUptoSaid : Prop := parsePlaceUptoRow.holds Tryd.pinned (OpenSpec.upto parsePlaceSpec)

end Rows
end Go.Proofs.YtllhcpkpbipjlaaDoor
