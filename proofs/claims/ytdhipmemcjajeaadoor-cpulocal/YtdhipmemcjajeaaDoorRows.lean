/-
  NARROWER THAN 'FOR EVERY INPUT', by the rows' own cells (each row's printed sentence says how): CpuSteps: laid · CpuInsts: laid · CpuLoads: laid · CpuOne: laid · CpuLocal: laid.
  DERIVED. THE GIVEN ROWS OF THIS SEAT. 5 by the template 'for every input the law returns true; each argument reads behind the call as it read before'; 0 by the template 'total and deterministic' (their statements: YtdhipmemcjajeaaDoorTotals.lean).
  GIVEN WITH THE SEED: the statements are not yours to turn. If you find one false, say at which input.
  Laid BY PROGRAM, IN A SANDBOX (cutbox-rows.mjs): the forced cells as the released guide's own fill.sh prints them over the translation 7a2d7801bb73841e… (all of the seat's roots in one cut). By AI agents, Wed Nov 11 2026. No macro, syntax, notation, axiom, sorry.
-/
import Derived.Test.YtdhipmemcjajeaaDoorChecked
import GoSem.Claim
import GoSem.ClaimJoined
import GoSem.ClaimMapViews
import Derived.JoinedTies
import Derived.KernelRfl
namespace Go.Proofs.YtdhipmemcjajeaaDoor
/- THE CELL 'sum', in the pinned program and in every row, IS THE sha256 OF THE DUMP (.gsa) THAT YtdhipmemcjajeaaDoorProg.lean LOADS. Nothing in Lean hashes anything: it is a label: what it is worth is what the hold of that sum in a sandbox is worth. -/
noncomputable def Tryd.pinned : Pinned := { name := "ytdhipmemcjajeaadoor", sum := "7a2d7801bb73841ecace922379552f3f440e58eb35f5debcec8ab014df49f057", checked := Tryd.checked }
namespace Rows
def none {H : Type} : Left H := { results := [], args := [] }

/- WHAT THE LISTED PACKAGE-LEVEL VARIABLES READ AS WHEN THE CALL BEGINS. Each datum BY PROGRAM (the guide's laid-datum.mjs) off the statement by which the dump's own 'gosem.cut.vars' lays the variable. In a bare row this is a premise. The card (YtdhipmemcjajeaaDoorCards.lean) ties it to the program's text. -/
def laid_imago_code_shapes {H : Type} : DataW H := .agg [.agg [.lit (.int .i64 0), .lit (.int .i64 0)], .agg [.lit (.int .i64 1), .lit (.int .i64 2)], .agg [.lit (.int .i64 2), .lit (.int .i64 0)], .agg [.lit (.int .i64 2), .lit (.int .i64 0)], .agg [.lit (.int .i64 2), .lit (.int .i64 0)], .agg [.lit (.int .i64 2), .lit (.int .i64 0)], .agg [.lit (.int .i64 2), .lit (.int .i64 0)], .agg [.lit (.int .i64 2), .lit (.int .i64 0)], .agg [.lit (.int .i64 2), .lit (.int .i64 0)], .agg [.lit (.int .i64 2), .lit (.int .i64 0)], .agg [.lit (.int .i64 2), .lit (.int .i64 0)], .agg [.lit (.int .i64 2), .lit (.int .i64 0)], .agg [.lit (.int .i64 2), .lit (.int .i64 0)], .agg [.lit (.int .i64 2), .lit (.int .i64 0)], .agg [.lit (.int .i64 2), .lit (.int .i64 0)], .agg [.lit (.int .i64 2), .lit (.int .i64 0)], .agg [.lit (.int .i64 2), .lit (.int .i64 0)], .agg [.lit (.int .i64 0), .lit (.int .i64 2)], .agg [.lit (.int .i64 1), .lit (.int .i64 2)], .agg [.lit (.int .i64 1), .lit (.int .i64 2)], .agg [.lit (.int .i64 0), .lit (.int .i64 1)]]

/-- 'imagolaw07.CpuSteps': WHATEVER THE INPUT: true; the input reads as it did. -/
def cpuStepsSpec : ChangeSpec := { name := "cpuSteps", fn := fun _ => fun
  | [d1, d2] => { results := [.lit (.bool true)], args := [d1, d2] }
  | _ => none }
def cpuStepsRow : OpenClaim := { program := "ytdhipmemcjajeaadoor", sum := "7a2d7801bb73841ecace922379552f3f440e58eb35f5debcec8ab014df49f057", func := "imago/imagolaw07.CpuSteps", spec := "cpuSteps", named := ["imago/code.shapes"], apart := false, laid := [("imago/code.shapes", laid_imago_code_shapes)] }
def CpuStepsSaid : Prop := cpuStepsRow.holds Tryd.pinned (OpenSpec.ofChange cpuStepsSpec)

/-- ITS FALSE NEIGHBOUR: 'it returns false'. Refute it at one input. -/
def cpuStepsWrong : ChangeSpec := { name := "cpuSteps", fn := fun _ => fun
  | [d1, d2] => { results := [.lit (.bool false)], args := [d1, d2] }
  | _ => none }
def CpuStepsWrongFalsely : Prop := cpuStepsRow.holds Tryd.pinned (OpenSpec.ofChange cpuStepsWrong)

/-- 'imagolaw07.CpuInsts': WHATEVER THE INPUT: true; the input reads as it did. -/
def cpuInstsSpec : ChangeSpec := { name := "cpuInsts", fn := fun _ => fun
  | [d1, d2] => { results := [.lit (.bool true)], args := [d1, d2] }
  | _ => none }
def cpuInstsRow : OpenClaim := { program := "ytdhipmemcjajeaadoor", sum := "7a2d7801bb73841ecace922379552f3f440e58eb35f5debcec8ab014df49f057", func := "imago/imagolaw07.CpuInsts", spec := "cpuInsts", named := ["imago/code.shapes"], apart := false, laid := [("imago/code.shapes", laid_imago_code_shapes)] }
def CpuInstsSaid : Prop := cpuInstsRow.holds Tryd.pinned (OpenSpec.ofChange cpuInstsSpec)

/-- ITS FALSE NEIGHBOUR: 'it returns false'. Refute it at one input. -/
def cpuInstsWrong : ChangeSpec := { name := "cpuInsts", fn := fun _ => fun
  | [d1, d2] => { results := [.lit (.bool false)], args := [d1, d2] }
  | _ => none }
def CpuInstsWrongFalsely : Prop := cpuInstsRow.holds Tryd.pinned (OpenSpec.ofChange cpuInstsWrong)

/-- 'imagolaw07.CpuLoads': WHATEVER THE INPUT: true; the input reads as it did. -/
def cpuLoadsSpec : ChangeSpec := { name := "cpuLoads", fn := fun _ => fun
  | [d1, d2, d3] => { results := [.lit (.bool true)], args := [d1, d2, d3] }
  | _ => none }
def cpuLoadsRow : OpenClaim := { program := "ytdhipmemcjajeaadoor", sum := "7a2d7801bb73841ecace922379552f3f440e58eb35f5debcec8ab014df49f057", func := "imago/imagolaw07.CpuLoads", spec := "cpuLoads", named := ["imago/code.shapes"], apart := false, laid := [("imago/code.shapes", laid_imago_code_shapes)] }
def CpuLoadsSaid : Prop := cpuLoadsRow.holds Tryd.pinned (OpenSpec.ofChange cpuLoadsSpec)

/-- ITS FALSE NEIGHBOUR: 'it returns false'. Refute it at one input. -/
def cpuLoadsWrong : ChangeSpec := { name := "cpuLoads", fn := fun _ => fun
  | [d1, d2, d3] => { results := [.lit (.bool false)], args := [d1, d2, d3] }
  | _ => none }
def CpuLoadsWrongFalsely : Prop := cpuLoadsRow.holds Tryd.pinned (OpenSpec.ofChange cpuLoadsWrong)

/-- 'imagolaw07.CpuOne': WHATEVER THE INPUT: true; the input reads as it did. -/
def cpuOneSpec : ChangeSpec := { name := "cpuOne", fn := fun _ => fun
  | [d1, d2] => { results := [.lit (.bool true)], args := [d1, d2] }
  | _ => none }
def cpuOneRow : OpenClaim := { program := "ytdhipmemcjajeaadoor", sum := "7a2d7801bb73841ecace922379552f3f440e58eb35f5debcec8ab014df49f057", func := "imago/imagolaw07.CpuOne", spec := "cpuOne", named := ["imago/code.shapes"], apart := false, laid := [("imago/code.shapes", laid_imago_code_shapes)] }
def CpuOneSaid : Prop := cpuOneRow.holds Tryd.pinned (OpenSpec.ofChange cpuOneSpec)

/-- ITS FALSE NEIGHBOUR: 'it returns false'. Refute it at one input. -/
def cpuOneWrong : ChangeSpec := { name := "cpuOne", fn := fun _ => fun
  | [d1, d2] => { results := [.lit (.bool false)], args := [d1, d2] }
  | _ => none }
def CpuOneWrongFalsely : Prop := cpuOneRow.holds Tryd.pinned (OpenSpec.ofChange cpuOneWrong)

/-- 'imagolaw07.CpuLocal': WHATEVER THE INPUT: true; the input reads as it did. -/
def cpuLocalSpec : ChangeSpec := { name := "cpuLocal", fn := fun _ => fun
  | [d1, d2, d3] => { results := [.lit (.bool true)], args := [d1, d2, d3] }
  | _ => none }
def cpuLocalRow : OpenClaim := { program := "ytdhipmemcjajeaadoor", sum := "7a2d7801bb73841ecace922379552f3f440e58eb35f5debcec8ab014df49f057", func := "imago/imagolaw07.CpuLocal", spec := "cpuLocal", named := ["imago/code.shapes"], apart := false, laid := [("imago/code.shapes", laid_imago_code_shapes)] }
def CpuLocalSaid : Prop := cpuLocalRow.holds Tryd.pinned (OpenSpec.ofChange cpuLocalSpec)

/-- ITS FALSE NEIGHBOUR: 'it returns false'. Refute it at one input. -/
def cpuLocalWrong : ChangeSpec := { name := "cpuLocal", fn := fun _ => fun
  | [d1, d2, d3] => { results := [.lit (.bool false)], args := [d1, d2, d3] }
  | _ => none }
def CpuLocalWrongFalsely : Prop := cpuLocalRow.holds Tryd.pinned (OpenSpec.ofChange cpuLocalWrong)

/- THE SECOND FORM. 'bulk': how many values and letters a reading holds, each counted each time it is reached (what is shared counts as often as it is met; a slice's spare places count too). A statement '..UptoSaid' is the law's where the arguments, and the package variables that the reading takes, are together of bulk at most 1048576: NARROWER than '..Said'. Prove '..Said' where nothing that the law and all that it calls make is longer than what came in: it says more and counts as full. Else prove '..UptoSaid'. A law counts once. -/
mutual
def uptoBulk {H : Type} : DataW H → Nat
  | .lit (.string bytes) => bytes.length + 1
  | .lit _ => 1
  | .nil => 1
  | .ptr d => uptoBulk d + 1
  | .slice elems spare => uptoBulkAll elems + uptoBulkAll spare + 1
  | .agg parts => uptoBulkAll parts + 1
  | .iface _ d => uptoBulk d + 1
  | .map entries => uptoBulkEntries entries + 1
  | .held _ => 1
def uptoBulkAll {H : Type} : List (DataW H) → Nat
  | [] => 0
  | d :: r => uptoBulk d + uptoBulkAll r
def uptoBulkEntries {H : Type} : List (Lit × DataW H) → Nat
  | [] => 0
  | x :: r => uptoBulkEntry x + uptoBulkEntries r
def uptoBulkEntry {H : Type} : Lit × DataW H → Nat
  | (.string bytes, d) => bytes.length + uptoBulk d + 1
  | (_, d) => uptoBulk d + 1
 end
def uptoSmall : (H : Type) → List (DataW H) → Bool := fun _ ds => decide (uptoBulkAll ds ≤ 1048576)
def OpenSpec.upto (s : _root_.Go.ChangeSpec) : _root_.Go.OpenSpec := { _root_.Go.OpenSpec.ofChange s with cond := some uptoSmall }

/-- 'imagolaw07.CpuSteps', WHERE WHAT IT READS IS OF BULK AT MOST 1048576: true; the input reads as it did. -/
def cpuStepsUptoRow : OpenClaim := { program := "ytdhipmemcjajeaadoor", sum := "7a2d7801bb73841ecace922379552f3f440e58eb35f5debcec8ab014df49f057", func := "imago/imagolaw07.CpuSteps", spec := "cpuSteps", named := ["imago/code.shapes"], apart := false, laid := [("imago/code.shapes", laid_imago_code_shapes)], narrowed := true }
def CpuStepsUptoSaid : Prop := cpuStepsUptoRow.holds Tryd.pinned (OpenSpec.upto cpuStepsSpec)

/-- 'imagolaw07.CpuInsts', WHERE WHAT IT READS IS OF BULK AT MOST 1048576: true; the input reads as it did. -/
def cpuInstsUptoRow : OpenClaim := { program := "ytdhipmemcjajeaadoor", sum := "7a2d7801bb73841ecace922379552f3f440e58eb35f5debcec8ab014df49f057", func := "imago/imagolaw07.CpuInsts", spec := "cpuInsts", named := ["imago/code.shapes"], apart := false, laid := [("imago/code.shapes", laid_imago_code_shapes)], narrowed := true }
def CpuInstsUptoSaid : Prop := cpuInstsUptoRow.holds Tryd.pinned (OpenSpec.upto cpuInstsSpec)

/-- 'imagolaw07.CpuLoads', WHERE WHAT IT READS IS OF BULK AT MOST 1048576: true; the input reads as it did. -/
def cpuLoadsUptoRow : OpenClaim := { program := "ytdhipmemcjajeaadoor", sum := "7a2d7801bb73841ecace922379552f3f440e58eb35f5debcec8ab014df49f057", func := "imago/imagolaw07.CpuLoads", spec := "cpuLoads", named := ["imago/code.shapes"], apart := false, laid := [("imago/code.shapes", laid_imago_code_shapes)], narrowed := true }
def CpuLoadsUptoSaid : Prop := cpuLoadsUptoRow.holds Tryd.pinned (OpenSpec.upto cpuLoadsSpec)

/-- 'imagolaw07.CpuOne', WHERE WHAT IT READS IS OF BULK AT MOST 1048576: true; the input reads as it did. -/
def cpuOneUptoRow : OpenClaim := { program := "ytdhipmemcjajeaadoor", sum := "7a2d7801bb73841ecace922379552f3f440e58eb35f5debcec8ab014df49f057", func := "imago/imagolaw07.CpuOne", spec := "cpuOne", named := ["imago/code.shapes"], apart := false, laid := [("imago/code.shapes", laid_imago_code_shapes)], narrowed := true }
def CpuOneUptoSaid : Prop := cpuOneUptoRow.holds Tryd.pinned (OpenSpec.upto cpuOneSpec)

/-- 'imagolaw07.CpuLocal', WHERE WHAT IT READS IS OF BULK AT MOST 1048576: true; the input reads as it did. -/
def cpuLocalUptoRow : OpenClaim := { program := "ytdhipmemcjajeaadoor", sum := "7a2d7801bb73841ecace922379552f3f440e58eb35f5debcec8ab014df49f057", func := "imago/imagolaw07.CpuLocal", spec := "cpuLocal", named := ["imago/code.shapes"], apart := false, laid := [("imago/code.shapes", laid_imago_code_shapes)], narrowed := true }
def CpuLocalUptoSaid : Prop := cpuLocalUptoRow.holds Tryd.pinned (OpenSpec.upto cpuLocalSpec)

end Rows
end Go.Proofs.YtdhipmemcjajeaaDoor
