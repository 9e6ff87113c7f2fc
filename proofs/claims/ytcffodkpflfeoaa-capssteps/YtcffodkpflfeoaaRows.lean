/-
  No cell of these rows narrows 'for every input' (looked for: loops, veiled, ifaces, maps, wideKeys, modest, calm, conditions, laid).
  DERIVED. THE GIVEN ROWS OF THIS SEAT. 5 by the template 'for every input the law returns true; each argument reads behind the call as it read before'; 0 by the template 'total and deterministic' (their statements: YtcffodkpflfeoaaTotals.lean).
  GIVEN WITH THE SEED: the statements are not yours to turn. If you find one false, say at which input.
  Laid BY PROGRAM, IN A SANDBOX (cutbox-rows.mjs): the forced cells as the released guide's own fill.sh prints them over the translation e8de8ff0d88c0ed0… (all of the seat's roots in one cut). By AI agents, Wed Nov 11 2026. No macro, syntax, notation, axiom, sorry.
-/
import Derived.Test.YtcffodkpflfeoaaChecked
import GoSem.Claim
import GoSem.ClaimJoined
import GoSem.ClaimMapViews
import Derived.JoinedTies
import Derived.KernelRfl
namespace Go.Proofs.Ytcffodkpflfeoaa
/- THE CELL 'sum', in the pinned program and in every row, IS THE sha256 OF THE DUMP (.gsa) THAT YtcffodkpflfeoaaProg.lean LOADS. Nothing in Lean hashes anything: it is a label: what it is worth is what the hold of that sum in a sandbox is worth. -/
noncomputable def Try.pinned : Pinned := { name := "ytcffodkpflfeoaa", sum := "e8de8ff0d88c0ed0970c09084a7c0c8ed0f0476b51d158aaa1cdb04af952e9d0", checked := Try.checked }
namespace Rows
def none {H : Type} : Left H := { results := [], args := [] }

/-- 'imagolaw09.CapsSteps': WHATEVER THE INPUT: true; the input reads as it did. -/
def capsStepsSpec : ChangeSpec := { name := "capsSteps", fn := fun _ => fun
  | [d] => { results := [.lit (.bool true)], args := [d] }
  | _ => none }
def capsStepsRow : OpenClaim := { program := "ytcffodkpflfeoaa", sum := "e8de8ff0d88c0ed0970c09084a7c0c8ed0f0476b51d158aaa1cdb04af952e9d0", func := "imago/imagolaw09.CapsSteps", spec := "capsSteps", unfollowed := true, recurses := true, apart := false }
def CapsStepsSaid : Prop := capsStepsRow.holds Try.pinned (OpenSpec.ofChange capsStepsSpec)

/-- ITS FALSE NEIGHBOUR: 'it returns false'. Refute it at one input. -/
def capsStepsWrong : ChangeSpec := { name := "capsSteps", fn := fun _ => fun
  | [d] => { results := [.lit (.bool false)], args := [d] }
  | _ => none }
def CapsStepsWrongFalsely : Prop := capsStepsRow.holds Try.pinned (OpenSpec.ofChange capsStepsWrong)

/-- 'imagolaw09.CapsStale': WHATEVER THE INPUT: true; the input reads as it did. -/
def capsStaleSpec : ChangeSpec := { name := "capsStale", fn := fun _ => fun
  | [d] => { results := [.lit (.bool true)], args := [d] }
  | _ => none }
def capsStaleRow : OpenClaim := { program := "ytcffodkpflfeoaa", sum := "e8de8ff0d88c0ed0970c09084a7c0c8ed0f0476b51d158aaa1cdb04af952e9d0", func := "imago/imagolaw09.CapsStale", spec := "capsStale", unfollowed := true, recurses := true, apart := false }
def CapsStaleSaid : Prop := capsStaleRow.holds Try.pinned (OpenSpec.ofChange capsStaleSpec)

/-- ITS FALSE NEIGHBOUR: 'it returns false'. Refute it at one input. -/
def capsStaleWrong : ChangeSpec := { name := "capsStale", fn := fun _ => fun
  | [d] => { results := [.lit (.bool false)], args := [d] }
  | _ => none }
def CapsStaleWrongFalsely : Prop := capsStaleRow.holds Try.pinned (OpenSpec.ofChange capsStaleWrong)

/-- 'imagolaw09.CapsLess': WHATEVER THE INPUT: true; the input reads as it did. -/
def capsLessSpec : ChangeSpec := { name := "capsLess", fn := fun _ => fun
  | [d1, d2] => { results := [.lit (.bool true)], args := [d1, d2] }
  | _ => none }
def capsLessRow : OpenClaim := { program := "ytcffodkpflfeoaa", sum := "e8de8ff0d88c0ed0970c09084a7c0c8ed0f0476b51d158aaa1cdb04af952e9d0", func := "imago/imagolaw09.CapsLess", spec := "capsLess", unfollowed := true, recurses := true, apart := false }
def CapsLessSaid : Prop := capsLessRow.holds Try.pinned (OpenSpec.ofChange capsLessSpec)

/-- ITS FALSE NEIGHBOUR: 'it returns false'. Refute it at one input. -/
def capsLessWrong : ChangeSpec := { name := "capsLess", fn := fun _ => fun
  | [d1, d2] => { results := [.lit (.bool false)], args := [d1, d2] }
  | _ => none }
def CapsLessWrongFalsely : Prop := capsLessRow.holds Try.pinned (OpenSpec.ofChange capsLessWrong)

/-- 'imagolaw09.CapsBelow': WHATEVER THE INPUT: true; the input reads as it did. -/
def capsBelowSpec : ChangeSpec := { name := "capsBelow", fn := fun _ => fun
  | [d1, d2] => { results := [.lit (.bool true)], args := [d1, d2] }
  | _ => none }
def capsBelowRow : OpenClaim := { program := "ytcffodkpflfeoaa", sum := "e8de8ff0d88c0ed0970c09084a7c0c8ed0f0476b51d158aaa1cdb04af952e9d0", func := "imago/imagolaw09.CapsBelow", spec := "capsBelow", unfollowed := true, recurses := true, apart := false }
def CapsBelowSaid : Prop := capsBelowRow.holds Try.pinned (OpenSpec.ofChange capsBelowSpec)

/-- ITS FALSE NEIGHBOUR: 'it returns false'. Refute it at one input. -/
def capsBelowWrong : ChangeSpec := { name := "capsBelow", fn := fun _ => fun
  | [d1, d2] => { results := [.lit (.bool false)], args := [d1, d2] }
  | _ => none }
def CapsBelowWrongFalsely : Prop := capsBelowRow.holds Try.pinned (OpenSpec.ofChange capsBelowWrong)

/-- 'imagolaw09.CapsNil': WHATEVER THE INPUT: true; the input reads as it did. -/
def capsNilSpec : ChangeSpec := { name := "capsNil", fn := fun _ => fun
  | [d] => { results := [.lit (.bool true)], args := [d] }
  | _ => none }
def capsNilRow : OpenClaim := { program := "ytcffodkpflfeoaa", sum := "e8de8ff0d88c0ed0970c09084a7c0c8ed0f0476b51d158aaa1cdb04af952e9d0", func := "imago/imagolaw09.CapsNil", spec := "capsNil", unfollowed := true, recurses := true, apart := false }
def CapsNilSaid : Prop := capsNilRow.holds Try.pinned (OpenSpec.ofChange capsNilSpec)

/-- ITS FALSE NEIGHBOUR: 'it returns false'. Refute it at one input. -/
def capsNilWrong : ChangeSpec := { name := "capsNil", fn := fun _ => fun
  | [d] => { results := [.lit (.bool false)], args := [d] }
  | _ => none }
def CapsNilWrongFalsely : Prop := capsNilRow.holds Try.pinned (OpenSpec.ofChange capsNilWrong)

/- THE SECOND FORM. 'bulk': how many values and letters a reading holds, each counted each time it is reached (what is shared counts as often as it is met; a slice's spare places count too). A statement '..UptoSaid' is the law's where the arguments, and the package variables that the reading takes, are together of bulk at most 1048576: NARROWER than '..Said'. Prove '..Said' where nothing that the law and all that it calls make is longer than what came in: it says more and counts as full. Else prove '..UptoSaid'. A law counts once. -/
mutual
def uptoBulk {H : Type} : DataW H → Nat
  | .lit (.string bytes) => bytes.length + 1
  | .lit _ => 1
  | .nil => 1
  | .ptr d => uptoBulk d + 1
  | .slice elems spare => uptoBulkAll elems + uptoBulkAll spare + 1
  | .agg parts => uptoBulkAll parts + 1
  | .iface _ d => uptoBulk d + 1
  | .map entries => uptoBulkEntries entries + 1
  | .held _ => 1
def uptoBulkAll {H : Type} : List (DataW H) → Nat
  | [] => 0
  | d :: r => uptoBulk d + uptoBulkAll r
def uptoBulkEntries {H : Type} : List (Lit × DataW H) → Nat
  | [] => 0
  | x :: r => uptoBulkEntry x + uptoBulkEntries r
def uptoBulkEntry {H : Type} : Lit × DataW H → Nat
  | (.string bytes, d) => bytes.length + uptoBulk d + 1
  | (_, d) => uptoBulk d + 1
 end
def uptoSmall : (H : Type) → List (DataW H) → Bool := fun _ ds => decide (uptoBulkAll ds ≤ 1048576)
def OpenSpec.upto (s : _root_.Go.ChangeSpec) : _root_.Go.OpenSpec := { _root_.Go.OpenSpec.ofChange s with cond := some uptoSmall }

/-- 'imagolaw09.CapsSteps', WHERE WHAT IT READS IS OF BULK AT MOST 1048576: true; the input reads as it did. -/
def capsStepsUptoRow : OpenClaim := { program := "ytcffodkpflfeoaa", sum := "e8de8ff0d88c0ed0970c09084a7c0c8ed0f0476b51d158aaa1cdb04af952e9d0", func := "imago/imagolaw09.CapsSteps", spec := "capsSteps", unfollowed := true, recurses := true, apart := false, narrowed := true }
def CapsStepsUptoSaid : Prop := capsStepsUptoRow.holds Try.pinned (OpenSpec.upto capsStepsSpec)

/-- 'imagolaw09.CapsStale', WHERE WHAT IT READS IS OF BULK AT MOST 1048576: true; the input reads as it did. -/
def capsStaleUptoRow : OpenClaim := { program := "ytcffodkpflfeoaa", sum := "e8de8ff0d88c0ed0970c09084a7c0c8ed0f0476b51d158aaa1cdb04af952e9d0", func := "imago/imagolaw09.CapsStale", spec := "capsStale", unfollowed := true, recurses := true, apart := false, narrowed := true }
def CapsStaleUptoSaid : Prop := capsStaleUptoRow.holds Try.pinned (OpenSpec.upto capsStaleSpec)

/-- 'imagolaw09.CapsLess', WHERE WHAT IT READS IS OF BULK AT MOST 1048576: true; the input reads as it did. -/
def capsLessUptoRow : OpenClaim := { program := "ytcffodkpflfeoaa", sum := "e8de8ff0d88c0ed0970c09084a7c0c8ed0f0476b51d158aaa1cdb04af952e9d0", func := "imago/imagolaw09.CapsLess", spec := "capsLess", unfollowed := true, recurses := true, apart := false, narrowed := true }
def CapsLessUptoSaid : Prop := capsLessUptoRow.holds Try.pinned (OpenSpec.upto capsLessSpec)

/-- 'imagolaw09.CapsBelow', WHERE WHAT IT READS IS OF BULK AT MOST 1048576: true; the input reads as it did. -/
def capsBelowUptoRow : OpenClaim := { program := "ytcffodkpflfeoaa", sum := "e8de8ff0d88c0ed0970c09084a7c0c8ed0f0476b51d158aaa1cdb04af952e9d0", func := "imago/imagolaw09.CapsBelow", spec := "capsBelow", unfollowed := true, recurses := true, apart := false, narrowed := true }
def CapsBelowUptoSaid : Prop := capsBelowUptoRow.holds Try.pinned (OpenSpec.upto capsBelowSpec)

/-- 'imagolaw09.CapsNil', WHERE WHAT IT READS IS OF BULK AT MOST 1048576: true; the input reads as it did. -/
def capsNilUptoRow : OpenClaim := { program := "ytcffodkpflfeoaa", sum := "e8de8ff0d88c0ed0970c09084a7c0c8ed0f0476b51d158aaa1cdb04af952e9d0", func := "imago/imagolaw09.CapsNil", spec := "capsNil", unfollowed := true, recurses := true, apart := false, narrowed := true }
def CapsNilUptoSaid : Prop := capsNilUptoRow.holds Try.pinned (OpenSpec.upto capsNilSpec)

end Rows
end Go.Proofs.Ytcffodkpflfeoaa
