/-
  NARROWER THAN 'FOR EVERY INPUT', by the rows' own cells (each row's printed sentence says how): PlayRuns: laid · PlayFuel: laid · PlayMore: laid · PlayAsked: laid.
  DERIVED. THE GIVEN ROWS OF THIS SEAT. 4 by the template 'for every input the law returns true; each argument reads behind the call as it read before'; 0 by the template 'total and deterministic' (their statements: YtigbfdloodfdgaaDoorTotals.lean).
  GIVEN WITH THE SEED: the statements are not yours to turn. If you find one false, say at which input.
  Laid BY PROGRAM, IN A SANDBOX (cutbox-rows.mjs): the forced cells as the released guide's own fill.sh prints them over the translation bc125d5eb1c1860a… (all of the seat's roots in one cut). By AI agents, Wed Nov 11 2026. No macro, syntax, notation, axiom, sorry.
-/
import Derived.Test.YtigbfdloodfdgaaDoorChecked
import GoSem.Claim
import GoSem.ClaimJoined
import GoSem.ClaimMapViews
import Derived.JoinedTies
import Derived.KernelRfl
namespace Go.Proofs.YtigbfdloodfdgaaDoor
/- THE CELL 'sum', in the pinned program and in every row, IS THE sha256 OF THE DUMP (.gsa) THAT YtigbfdloodfdgaaDoorProg.lean LOADS. Nothing in Lean hashes anything: it is a label: what it is worth is what the hold of that sum in a sandbox is worth. -/
noncomputable def Tryd.pinned : Pinned := { name := "ytigbfdloodfdgaadoor", sum := "bc125d5eb1c1860a97d003b3e6b1cdc2ddcb6822990aa40ee85cd0c8a944c571", checked := Tryd.checked }
namespace Rows
def none {H : Type} : Left H := { results := [], args := [] }

/- WHAT THE LISTED PACKAGE-LEVEL VARIABLES READ AS WHEN THE CALL BEGINS. Each datum BY PROGRAM (the guide's laid-datum.mjs) off the statement by which the dump's own 'gosem.cut.vars' lays the variable. In a bare row this is a premise. The card (YtigbfdloodfdgaaDoorCards.lean) ties it to the program's text. -/
def laid_imago_code_shapes {H : Type} : DataW H := .agg [.agg [.lit (.int .i64 0), .lit (.int .i64 0)], .agg [.lit (.int .i64 1), .lit (.int .i64 2)], .agg [.lit (.int .i64 2), .lit (.int .i64 0)], .agg [.lit (.int .i64 2), .lit (.int .i64 0)], .agg [.lit (.int .i64 2), .lit (.int .i64 0)], .agg [.lit (.int .i64 2), .lit (.int .i64 0)], .agg [.lit (.int .i64 2), .lit (.int .i64 0)], .agg [.lit (.int .i64 2), .lit (.int .i64 0)], .agg [.lit (.int .i64 2), .lit (.int .i64 0)], .agg [.lit (.int .i64 2), .lit (.int .i64 0)], .agg [.lit (.int .i64 2), .lit (.int .i64 0)], .agg [.lit (.int .i64 2), .lit (.int .i64 0)], .agg [.lit (.int .i64 2), .lit (.int .i64 0)], .agg [.lit (.int .i64 2), .lit (.int .i64 0)], .agg [.lit (.int .i64 2), .lit (.int .i64 0)], .agg [.lit (.int .i64 2), .lit (.int .i64 0)], .agg [.lit (.int .i64 2), .lit (.int .i64 0)], .agg [.lit (.int .i64 0), .lit (.int .i64 2)], .agg [.lit (.int .i64 1), .lit (.int .i64 2)], .agg [.lit (.int .i64 1), .lit (.int .i64 2)], .agg [.lit (.int .i64 0), .lit (.int .i64 1)]]

/-- 'imagolaw08.PlayRuns': WHATEVER THE INPUT: true; the input reads as it did. -/
def playRunsSpec : ChangeSpec := { name := "playRuns", fn := fun _ => fun
  | [d1, d2] => { results := [.lit (.bool true)], args := [d1, d2] }
  | _ => none }
def playRunsRow : OpenClaim := { program := "ytigbfdloodfdgaadoor", sum := "bc125d5eb1c1860a97d003b3e6b1cdc2ddcb6822990aa40ee85cd0c8a944c571", func := "imago/imagolaw08.PlayRuns", spec := "playRuns", unfollowed := true, recurses := true, named := ["imago/code.shapes"], apart := false, laid := [("imago/code.shapes", laid_imago_code_shapes)] }
def PlayRunsSaid : Prop := playRunsRow.holds Tryd.pinned (OpenSpec.ofChange playRunsSpec)

/-- ITS FALSE NEIGHBOUR: 'it returns false'. Refute it at one input. -/
def playRunsWrong : ChangeSpec := { name := "playRuns", fn := fun _ => fun
  | [d1, d2] => { results := [.lit (.bool false)], args := [d1, d2] }
  | _ => none }
def PlayRunsWrongFalsely : Prop := playRunsRow.holds Tryd.pinned (OpenSpec.ofChange playRunsWrong)

/-- 'imagolaw08.PlayFuel': WHATEVER THE INPUT: true; the input reads as it did. -/
def playFuelSpec : ChangeSpec := { name := "playFuel", fn := fun _ => fun
  | [d] => { results := [.lit (.bool true)], args := [d] }
  | _ => none }
def playFuelRow : OpenClaim := { program := "ytigbfdloodfdgaadoor", sum := "bc125d5eb1c1860a97d003b3e6b1cdc2ddcb6822990aa40ee85cd0c8a944c571", func := "imago/imagolaw08.PlayFuel", spec := "playFuel", unfollowed := true, recurses := true, named := ["imago/code.shapes"], apart := false, laid := [("imago/code.shapes", laid_imago_code_shapes)] }
def PlayFuelSaid : Prop := playFuelRow.holds Tryd.pinned (OpenSpec.ofChange playFuelSpec)

/-- ITS FALSE NEIGHBOUR: 'it returns false'. Refute it at one input. -/
def playFuelWrong : ChangeSpec := { name := "playFuel", fn := fun _ => fun
  | [d] => { results := [.lit (.bool false)], args := [d] }
  | _ => none }
def PlayFuelWrongFalsely : Prop := playFuelRow.holds Tryd.pinned (OpenSpec.ofChange playFuelWrong)

/-- 'imagolaw08.PlayMore': WHATEVER THE INPUT: true; the input reads as it did. -/
def playMoreSpec : ChangeSpec := { name := "playMore", fn := fun _ => fun
  | [d1, d2, d3] => { results := [.lit (.bool true)], args := [d1, d2, d3] }
  | _ => none }
def playMoreRow : OpenClaim := { program := "ytigbfdloodfdgaadoor", sum := "bc125d5eb1c1860a97d003b3e6b1cdc2ddcb6822990aa40ee85cd0c8a944c571", func := "imago/imagolaw08.PlayMore", spec := "playMore", unfollowed := true, recurses := true, named := ["imago/code.shapes"], apart := false, laid := [("imago/code.shapes", laid_imago_code_shapes)] }
def PlayMoreSaid : Prop := playMoreRow.holds Tryd.pinned (OpenSpec.ofChange playMoreSpec)

/-- ITS FALSE NEIGHBOUR: 'it returns false'. Refute it at one input. -/
def playMoreWrong : ChangeSpec := { name := "playMore", fn := fun _ => fun
  | [d1, d2, d3] => { results := [.lit (.bool false)], args := [d1, d2, d3] }
  | _ => none }
def PlayMoreWrongFalsely : Prop := playMoreRow.holds Tryd.pinned (OpenSpec.ofChange playMoreWrong)

/-- 'imagolaw08.PlayAsked': WHATEVER THE INPUT: true; the input reads as it did. -/
def playAskedSpec : ChangeSpec := { name := "playAsked", fn := fun _ => fun
  | [d1, d2, d3] => { results := [.lit (.bool true)], args := [d1, d2, d3] }
  | _ => none }
def playAskedRow : OpenClaim := { program := "ytigbfdloodfdgaadoor", sum := "bc125d5eb1c1860a97d003b3e6b1cdc2ddcb6822990aa40ee85cd0c8a944c571", func := "imago/imagolaw08.PlayAsked", spec := "playAsked", unfollowed := true, recurses := true, named := ["imago/code.shapes"], apart := false, laid := [("imago/code.shapes", laid_imago_code_shapes)] }
def PlayAskedSaid : Prop := playAskedRow.holds Tryd.pinned (OpenSpec.ofChange playAskedSpec)

/-- ITS FALSE NEIGHBOUR: 'it returns false'. Refute it at one input. -/
def playAskedWrong : ChangeSpec := { name := "playAsked", fn := fun _ => fun
  | [d1, d2, d3] => { results := [.lit (.bool false)], args := [d1, d2, d3] }
  | _ => none }
def PlayAskedWrongFalsely : Prop := playAskedRow.holds Tryd.pinned (OpenSpec.ofChange playAskedWrong)

/- THE SECOND FORM. 'bulk': how many values and letters a reading holds, each counted each time it is reached (what is shared counts as often as it is met; a slice's spare places count too). A statement '..UptoSaid' is the law's where the arguments, and the package variables that the reading takes, are together of bulk at most 1048576: NARROWER than '..Said'. Prove '..Said' where nothing that the law and all that it calls make is longer than what came in: it says more and counts as full. Else prove '..UptoSaid'. A law counts once. -/
mutual
def uptoBulk {H : Type} : DataW H → Nat
  | .lit (.string bytes) => bytes.length + 1
  | .lit _ => 1
  | .nil => 1
  | .ptr d => uptoBulk d + 1
  | .slice elems spare => uptoBulkAll elems + uptoBulkAll spare + 1
  | .agg parts => uptoBulkAll parts + 1
  | .iface _ d => uptoBulk d + 1
  | .map entries => uptoBulkEntries entries + 1
  | .held _ => 1
def uptoBulkAll {H : Type} : List (DataW H) → Nat
  | [] => 0
  | d :: r => uptoBulk d + uptoBulkAll r
def uptoBulkEntries {H : Type} : List (Lit × DataW H) → Nat
  | [] => 0
  | x :: r => uptoBulkEntry x + uptoBulkEntries r
def uptoBulkEntry {H : Type} : Lit × DataW H → Nat
  | (.string bytes, d) => bytes.length + uptoBulk d + 1
  | (_, d) => uptoBulk d + 1
 end
def uptoSmall : (H : Type) → List (DataW H) → Bool := fun _ ds => decide (uptoBulkAll ds ≤ 1048576)
def OpenSpec.upto (s : _root_.Go.ChangeSpec) : _root_.Go.OpenSpec := { _root_.Go.OpenSpec.ofChange s with cond := some uptoSmall }

/-- 'imagolaw08.PlayRuns', WHERE WHAT IT READS IS OF BULK AT MOST 1048576: true; the input reads as it did. -/
def playRunsUptoRow : OpenClaim := { program := "ytigbfdloodfdgaadoor", sum := "bc125d5eb1c1860a97d003b3e6b1cdc2ddcb6822990aa40ee85cd0c8a944c571", func := "imago/imagolaw08.PlayRuns", spec := "playRuns", unfollowed := true, recurses := true, named := ["imago/code.shapes"], apart := false, laid := [("imago/code.shapes", laid_imago_code_shapes)], narrowed := true }
def PlayRunsUptoSaid : Prop := playRunsUptoRow.holds Tryd.pinned (OpenSpec.upto playRunsSpec)

/-- 'imagolaw08.PlayFuel', WHERE WHAT IT READS IS OF BULK AT MOST 1048576: true; the input reads as it did. -/
def playFuelUptoRow : OpenClaim := { program := "ytigbfdloodfdgaadoor", sum := "bc125d5eb1c1860a97d003b3e6b1cdc2ddcb6822990aa40ee85cd0c8a944c571", func := "imago/imagolaw08.PlayFuel", spec := "playFuel", unfollowed := true, recurses := true, named := ["imago/code.shapes"], apart := false, laid := [("imago/code.shapes", laid_imago_code_shapes)], narrowed := true }
def PlayFuelUptoSaid : Prop := playFuelUptoRow.holds Tryd.pinned (OpenSpec.upto playFuelSpec)

/-- 'imagolaw08.PlayMore', WHERE WHAT IT READS IS OF BULK AT MOST 1048576: true; the input reads as it did. -/
def playMoreUptoRow : OpenClaim := { program := "ytigbfdloodfdgaadoor", sum := "bc125d5eb1c1860a97d003b3e6b1cdc2ddcb6822990aa40ee85cd0c8a944c571", func := "imago/imagolaw08.PlayMore", spec := "playMore", unfollowed := true, recurses := true, named := ["imago/code.shapes"], apart := false, laid := [("imago/code.shapes", laid_imago_code_shapes)], narrowed := true }
def PlayMoreUptoSaid : Prop := playMoreUptoRow.holds Tryd.pinned (OpenSpec.upto playMoreSpec)

/-- 'imagolaw08.PlayAsked', WHERE WHAT IT READS IS OF BULK AT MOST 1048576: true; the input reads as it did. -/
def playAskedUptoRow : OpenClaim := { program := "ytigbfdloodfdgaadoor", sum := "bc125d5eb1c1860a97d003b3e6b1cdc2ddcb6822990aa40ee85cd0c8a944c571", func := "imago/imagolaw08.PlayAsked", spec := "playAsked", unfollowed := true, recurses := true, named := ["imago/code.shapes"], apart := false, laid := [("imago/code.shapes", laid_imago_code_shapes)], narrowed := true }
def PlayAskedUptoSaid : Prop := playAskedUptoRow.holds Tryd.pinned (OpenSpec.upto playAskedSpec)

end Rows
end Go.Proofs.YtigbfdloodfdgaaDoor
