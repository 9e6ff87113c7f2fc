/-
  No cell of these rows narrows 'for every input' (looked for: loops, veiled, ifaces, maps, wideKeys, modest, calm, conditions, laid).
  DERIVED. THE GIVEN ROWS OF THIS SEAT. 5 by the template 'for every input the law returns true; each argument reads behind the call as it read before'; 0 by the template 'total and deterministic' (their statements: YtlkcpjefgelcoaaTotals.lean).
  GIVEN WITH THE SEED: the statements are not yours to turn. If you find one false, say at which input.
  Laid BY PROGRAM, IN A SANDBOX (cutbox-rows.mjs): the forced cells as the released guide's own fill.sh prints them over the translation bcaf0a9e2a99ed8e… (all of the seat's roots in one cut). By AI agents, Wed Nov 11 2026. No macro, syntax, notation, axiom, sorry.
-/
import Derived.Test.YtlkcpjefgelcoaaChecked
import GoSem.Claim
import GoSem.ClaimJoined
import GoSem.ClaimMapViews
import Derived.JoinedTies
import Derived.KernelRfl
namespace Go.Proofs.Ytlkcpjefgelcoaa
/- THE CELL 'sum', in the pinned program and in every row, IS THE sha256 OF THE DUMP (.gsa) THAT YtlkcpjefgelcoaaProg.lean LOADS. Nothing in Lean hashes anything: it is a label: what it is worth is what the hold of that sum in a sandbox is worth. -/
noncomputable def Try.pinned : Pinned := { name := "ytlkcpjefgelcoaa", sum := "bcaf0a9e2a99ed8ebe25d4db7581af5dea641bf06aa16bd77cc027af297c7230", checked := Try.checked }
namespace Rows
def none {H : Type} : Left H := { results := [], args := [] }

/-- 'imagolaw27.SpansSteps': WHATEVER THE INPUT: true; the input reads as it did. -/
def spansStepsSpec : ChangeSpec := { name := "spansSteps", fn := fun _ => fun
  | [d1, d2, d3] => { results := [.lit (.bool true)], args := [d1, d2, d3] }
  | _ => none }
def spansStepsRow : OpenClaim := { program := "ytlkcpjefgelcoaa", sum := "bcaf0a9e2a99ed8ebe25d4db7581af5dea641bf06aa16bd77cc027af297c7230", func := "imago/imagolaw27.SpansSteps", spec := "spansSteps", unfollowed := true, recurses := true, apart := false }
def SpansStepsSaid : Prop := spansStepsRow.holds Try.pinned (OpenSpec.ofChange spansStepsSpec)

/-- ITS FALSE NEIGHBOUR: 'it returns false'. Refute it at one input. -/
def spansStepsWrong : ChangeSpec := { name := "spansSteps", fn := fun _ => fun
  | [d1, d2, d3] => { results := [.lit (.bool false)], args := [d1, d2, d3] }
  | _ => none }
def SpansStepsWrongFalsely : Prop := spansStepsRow.holds Try.pinned (OpenSpec.ofChange spansStepsWrong)

/-- 'imagolaw27.SpansAreas': WHATEVER THE INPUT: true; the input reads as it did. -/
def spansAreasSpec : ChangeSpec := { name := "spansAreas", fn := fun _ => fun
  | [d1, d2] => { results := [.lit (.bool true)], args := [d1, d2] }
  | _ => none }
def spansAreasRow : OpenClaim := { program := "ytlkcpjefgelcoaa", sum := "bcaf0a9e2a99ed8ebe25d4db7581af5dea641bf06aa16bd77cc027af297c7230", func := "imago/imagolaw27.SpansAreas", spec := "spansAreas", unfollowed := true, recurses := true, apart := false }
def SpansAreasSaid : Prop := spansAreasRow.holds Try.pinned (OpenSpec.ofChange spansAreasSpec)

/-- ITS FALSE NEIGHBOUR: 'it returns false'. Refute it at one input. -/
def spansAreasWrong : ChangeSpec := { name := "spansAreas", fn := fun _ => fun
  | [d1, d2] => { results := [.lit (.bool false)], args := [d1, d2] }
  | _ => none }
def SpansAreasWrongFalsely : Prop := spansAreasRow.holds Try.pinned (OpenSpec.ofChange spansAreasWrong)

/-- 'imagolaw27.SpansLoad': WHATEVER THE INPUT: true; the input reads as it did. -/
def spansLoadSpec : ChangeSpec := { name := "spansLoad", fn := fun _ => fun
  | [d1, d2] => { results := [.lit (.bool true)], args := [d1, d2] }
  | _ => none }
def spansLoadRow : OpenClaim := { program := "ytlkcpjefgelcoaa", sum := "bcaf0a9e2a99ed8ebe25d4db7581af5dea641bf06aa16bd77cc027af297c7230", func := "imago/imagolaw27.SpansLoad", spec := "spansLoad", unfollowed := true, recurses := true, apart := false }
def SpansLoadSaid : Prop := spansLoadRow.holds Try.pinned (OpenSpec.ofChange spansLoadSpec)

/-- ITS FALSE NEIGHBOUR: 'it returns false'. Refute it at one input. -/
def spansLoadWrong : ChangeSpec := { name := "spansLoad", fn := fun _ => fun
  | [d1, d2] => { results := [.lit (.bool false)], args := [d1, d2] }
  | _ => none }
def SpansLoadWrongFalsely : Prop := spansLoadRow.holds Try.pinned (OpenSpec.ofChange spansLoadWrong)

/-- 'imagolaw27.SpansMay': WHATEVER THE INPUT: true; the input reads as it did. -/
def spansMaySpec : ChangeSpec := { name := "spansMay", fn := fun _ => fun
  | [d1, d2, d3] => { results := [.lit (.bool true)], args := [d1, d2, d3] }
  | _ => none }
def spansMayRow : OpenClaim := { program := "ytlkcpjefgelcoaa", sum := "bcaf0a9e2a99ed8ebe25d4db7581af5dea641bf06aa16bd77cc027af297c7230", func := "imago/imagolaw27.SpansMay", spec := "spansMay", unfollowed := true, recurses := true, apart := false }
def SpansMaySaid : Prop := spansMayRow.holds Try.pinned (OpenSpec.ofChange spansMaySpec)

/-- ITS FALSE NEIGHBOUR: 'it returns false'. Refute it at one input. -/
def spansMayWrong : ChangeSpec := { name := "spansMay", fn := fun _ => fun
  | [d1, d2, d3] => { results := [.lit (.bool false)], args := [d1, d2, d3] }
  | _ => none }
def SpansMayWrongFalsely : Prop := spansMayRow.holds Try.pinned (OpenSpec.ofChange spansMayWrong)

/-- 'imagolaw27.SpansNil': WHATEVER THE INPUT: true; the input reads as it did. -/
def spansNilSpec : ChangeSpec := { name := "spansNil", fn := fun _ => fun
  | [d] => { results := [.lit (.bool true)], args := [d] }
  | _ => none }
def spansNilRow : OpenClaim := { program := "ytlkcpjefgelcoaa", sum := "bcaf0a9e2a99ed8ebe25d4db7581af5dea641bf06aa16bd77cc027af297c7230", func := "imago/imagolaw27.SpansNil", spec := "spansNil", unfollowed := true, recurses := true, apart := false }
def SpansNilSaid : Prop := spansNilRow.holds Try.pinned (OpenSpec.ofChange spansNilSpec)

/-- ITS FALSE NEIGHBOUR: 'it returns false'. Refute it at one input. -/
def spansNilWrong : ChangeSpec := { name := "spansNil", fn := fun _ => fun
  | [d] => { results := [.lit (.bool false)], args := [d] }
  | _ => none }
def SpansNilWrongFalsely : Prop := spansNilRow.holds Try.pinned (OpenSpec.ofChange spansNilWrong)

/- THE SECOND FORM. 'bulk': how many values and letters a reading holds, each counted each time it is reached (what is shared counts as often as it is met; a slice's spare places count too). A statement '..UptoSaid' is the law's where the arguments, and the package variables that the reading takes, are together of bulk at most 1048576: NARROWER than '..Said'. Prove '..Said' where nothing that the law and all that it calls make is longer than what came in: it says more and counts as full. Else prove '..UptoSaid'. A law counts once. -/
mutual
def uptoBulk {H : Type} : DataW H → Nat
  | .lit (.string bytes) => bytes.length + 1
  | .lit _ => 1
  | .nil => 1
  | .ptr d => uptoBulk d + 1
  | .slice elems spare => uptoBulkAll elems + uptoBulkAll spare + 1
  | .agg parts => uptoBulkAll parts + 1
  | .iface _ d => uptoBulk d + 1
  | .map entries => uptoBulkEntries entries + 1
  | .held _ => 1
def uptoBulkAll {H : Type} : List (DataW H) → Nat
  | [] => 0
  | d :: r => uptoBulk d + uptoBulkAll r
def uptoBulkEntries {H : Type} : List (Lit × DataW H) → Nat
  | [] => 0
  | x :: r => uptoBulkEntry x + uptoBulkEntries r
def uptoBulkEntry {H : Type} : Lit × DataW H → Nat
  | (.string bytes, d) => bytes.length + uptoBulk d + 1
  | (_, d) => uptoBulk d + 1
 end
def uptoSmall : (H : Type) → List (DataW H) → Bool := fun _ ds => decide (uptoBulkAll ds ≤ 1048576)
def OpenSpec.upto (s : _root_.Go.ChangeSpec) : _root_.Go.OpenSpec := { _root_.Go.OpenSpec.ofChange s with cond := some uptoSmall }

/-- 'imagolaw27.SpansSteps', WHERE WHAT IT READS IS OF BULK AT MOST 1048576: true; the input reads as it did. -/
def spansStepsUptoRow : OpenClaim := { program := "ytlkcpjefgelcoaa", sum := "bcaf0a9e2a99ed8ebe25d4db7581af5dea641bf06aa16bd77cc027af297c7230", func := "imago/imagolaw27.SpansSteps", spec := "spansSteps", unfollowed := true, recurses := true, apart := false, narrowed := true }
def SpansStepsUptoSaid : Prop := spansStepsUptoRow.holds Try.pinned (OpenSpec.upto spansStepsSpec)

/-- 'imagolaw27.SpansAreas', WHERE WHAT IT READS IS OF BULK AT MOST 1048576: true; the input reads as it did. -/
def spansAreasUptoRow : OpenClaim := { program := "ytlkcpjefgelcoaa", sum := "bcaf0a9e2a99ed8ebe25d4db7581af5dea641bf06aa16bd77cc027af297c7230", func := "imago/imagolaw27.SpansAreas", spec := "spansAreas", unfollowed := true, recurses := true, apart := false, narrowed := true }
def SpansAreasUptoSaid : Prop := spansAreasUptoRow.holds Try.pinned (OpenSpec.upto spansAreasSpec)

/-- 'imagolaw27.SpansLoad', WHERE WHAT IT READS IS OF BULK AT MOST 1048576: true; the input reads as it did. -/
def spansLoadUptoRow : OpenClaim := { program := "ytlkcpjefgelcoaa", sum := "bcaf0a9e2a99ed8ebe25d4db7581af5dea641bf06aa16bd77cc027af297c7230", func := "imago/imagolaw27.SpansLoad", spec := "spansLoad", unfollowed := true, recurses := true, apart := false, narrowed := true }
def SpansLoadUptoSaid : Prop := spansLoadUptoRow.holds Try.pinned (OpenSpec.upto spansLoadSpec)

/-- 'imagolaw27.SpansMay', WHERE WHAT IT READS IS OF BULK AT MOST 1048576: true; the input reads as it did. -/
def spansMayUptoRow : OpenClaim := { program := "ytlkcpjefgelcoaa", sum := "bcaf0a9e2a99ed8ebe25d4db7581af5dea641bf06aa16bd77cc027af297c7230", func := "imago/imagolaw27.SpansMay", spec := "spansMay", unfollowed := true, recurses := true, apart := false, narrowed := true }
def SpansMayUptoSaid : Prop := spansMayUptoRow.holds Try.pinned (OpenSpec.upto spansMaySpec)

/-- 'imagolaw27.SpansNil', WHERE WHAT IT READS IS OF BULK AT MOST 1048576: true; the input reads as it did. -/
def spansNilUptoRow : OpenClaim := { program := "ytlkcpjefgelcoaa", sum := "bcaf0a9e2a99ed8ebe25d4db7581af5dea641bf06aa16bd77cc027af297c7230", func := "imago/imagolaw27.SpansNil", spec := "spansNil", unfollowed := true, recurses := true, apart := false, narrowed := true }
def SpansNilUptoSaid : Prop := spansNilUptoRow.holds Try.pinned (OpenSpec.upto spansNilSpec)

end Rows
end Go.Proofs.Ytlkcpjefgelcoaa
