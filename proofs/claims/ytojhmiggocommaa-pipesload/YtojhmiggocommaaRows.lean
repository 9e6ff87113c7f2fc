/-
  No cell of these rows narrows 'for every input' (looked for: loops, veiled, ifaces, maps, wideKeys, modest, calm, conditions, laid).
  DERIVED. THE GIVEN ROWS OF THIS SEAT. 5 by the template 'for every input the law returns true; each argument reads behind the call as it read before'; 0 by the template 'total and deterministic' (their statements: YtojhmiggocommaaTotals.lean).
  GIVEN WITH THE SEED: the statements are not yours to turn. If you find one false, say at which input.
  Laid BY PROGRAM, IN A SANDBOX (cutbox-rows.mjs): the forced cells as the released guide's own fill.sh prints them over the translation 47433de7338af47d… (all of the seat's roots in one cut). By AI agents, Wed Nov 11 2026. No macro, syntax, notation, axiom, sorry.
-/
import Derived.Test.YtojhmiggocommaaChecked
import GoSem.Claim
import GoSem.ClaimJoined
import GoSem.ClaimMapViews
import Derived.JoinedTies
import Derived.KernelRfl
namespace Go.Proofs.Ytojhmiggocommaa
/- THE CELL 'sum', in the pinned program and in every row, IS THE sha256 OF THE DUMP (.gsa) THAT YtojhmiggocommaaProg.lean LOADS. Nothing in Lean hashes anything: it is a label: what it is worth is what the hold of that sum in a sandbox is worth. -/
noncomputable def Try.pinned : Pinned := { name := "ytojhmiggocommaa", sum := "47433de7338af47dd3b1fcb26c0df98c222bb494384a997e7981942f642fe6b0", checked := Try.checked }
namespace Rows
def none {H : Type} : Left H := { results := [], args := [] }

/-- 'imagolaw22.PipesSteps': WHATEVER THE INPUT: true; the input reads as it did. -/
def pipesStepsSpec : ChangeSpec := { name := "pipesSteps", fn := fun _ => fun
  | [d] => { results := [.lit (.bool true)], args := [d] }
  | _ => none }
def pipesStepsRow : OpenClaim := { program := "ytojhmiggocommaa", sum := "47433de7338af47dd3b1fcb26c0df98c222bb494384a997e7981942f642fe6b0", func := "imago/imagolaw22.PipesSteps", spec := "pipesSteps", apart := false }
def PipesStepsSaid : Prop := pipesStepsRow.holds Try.pinned (OpenSpec.ofChange pipesStepsSpec)

/-- ITS FALSE NEIGHBOUR: 'it returns false'. Refute it at one input. -/
def pipesStepsWrong : ChangeSpec := { name := "pipesSteps", fn := fun _ => fun
  | [d] => { results := [.lit (.bool false)], args := [d] }
  | _ => none }
def PipesStepsWrongFalsely : Prop := pipesStepsRow.holds Try.pinned (OpenSpec.ofChange pipesStepsWrong)

/-- 'imagolaw22.PipesOrder': WHATEVER THE INPUT: true; the input reads as it did. -/
def pipesOrderSpec : ChangeSpec := { name := "pipesOrder", fn := fun _ => fun
  | [d] => { results := [.lit (.bool true)], args := [d] }
  | _ => none }
def pipesOrderRow : OpenClaim := { program := "ytojhmiggocommaa", sum := "47433de7338af47dd3b1fcb26c0df98c222bb494384a997e7981942f642fe6b0", func := "imago/imagolaw22.PipesOrder", spec := "pipesOrder", apart := false }
def PipesOrderSaid : Prop := pipesOrderRow.holds Try.pinned (OpenSpec.ofChange pipesOrderSpec)

/-- ITS FALSE NEIGHBOUR: 'it returns false'. Refute it at one input. -/
def pipesOrderWrong : ChangeSpec := { name := "pipesOrder", fn := fun _ => fun
  | [d] => { results := [.lit (.bool false)], args := [d] }
  | _ => none }
def PipesOrderWrongFalsely : Prop := pipesOrderRow.holds Try.pinned (OpenSpec.ofChange pipesOrderWrong)

/-- 'imagolaw22.PipesLoad': WHATEVER THE INPUT: true; the input reads as it did. -/
def pipesLoadSpec : ChangeSpec := { name := "pipesLoad", fn := fun _ => fun
  | [d1, d2] => { results := [.lit (.bool true)], args := [d1, d2] }
  | _ => none }
def pipesLoadRow : OpenClaim := { program := "ytojhmiggocommaa", sum := "47433de7338af47dd3b1fcb26c0df98c222bb494384a997e7981942f642fe6b0", func := "imago/imagolaw22.PipesLoad", spec := "pipesLoad", apart := false }
def PipesLoadSaid : Prop := pipesLoadRow.holds Try.pinned (OpenSpec.ofChange pipesLoadSpec)

/-- ITS FALSE NEIGHBOUR: 'it returns false'. Refute it at one input. -/
def pipesLoadWrong : ChangeSpec := { name := "pipesLoad", fn := fun _ => fun
  | [d1, d2] => { results := [.lit (.bool false)], args := [d1, d2] }
  | _ => none }
def PipesLoadWrongFalsely : Prop := pipesLoadRow.holds Try.pinned (OpenSpec.ofChange pipesLoadWrong)

/-- 'imagolaw22.PipesApart': WHATEVER THE INPUT: true; the input reads as it did. -/
def pipesApartSpec : ChangeSpec := { name := "pipesApart", fn := fun _ => fun
  | [d1, d2] => { results := [.lit (.bool true)], args := [d1, d2] }
  | _ => none }
def pipesApartRow : OpenClaim := { program := "ytojhmiggocommaa", sum := "47433de7338af47dd3b1fcb26c0df98c222bb494384a997e7981942f642fe6b0", func := "imago/imagolaw22.PipesApart", spec := "pipesApart", apart := false }
def PipesApartSaid : Prop := pipesApartRow.holds Try.pinned (OpenSpec.ofChange pipesApartSpec)

/-- ITS FALSE NEIGHBOUR: 'it returns false'. Refute it at one input. -/
def pipesApartWrong : ChangeSpec := { name := "pipesApart", fn := fun _ => fun
  | [d1, d2] => { results := [.lit (.bool false)], args := [d1, d2] }
  | _ => none }
def PipesApartWrongFalsely : Prop := pipesApartRow.holds Try.pinned (OpenSpec.ofChange pipesApartWrong)

/-- 'imagolaw22.PipesNil': WHATEVER THE INPUT: true; the input reads as it did. -/
def pipesNilSpec : ChangeSpec := { name := "pipesNil", fn := fun _ => fun
  | [d] => { results := [.lit (.bool true)], args := [d] }
  | _ => none }
def pipesNilRow : OpenClaim := { program := "ytojhmiggocommaa", sum := "47433de7338af47dd3b1fcb26c0df98c222bb494384a997e7981942f642fe6b0", func := "imago/imagolaw22.PipesNil", spec := "pipesNil", apart := false }
def PipesNilSaid : Prop := pipesNilRow.holds Try.pinned (OpenSpec.ofChange pipesNilSpec)

/-- ITS FALSE NEIGHBOUR: 'it returns false'. Refute it at one input. -/
def pipesNilWrong : ChangeSpec := { name := "pipesNil", fn := fun _ => fun
  | [d] => { results := [.lit (.bool false)], args := [d] }
  | _ => none }
def PipesNilWrongFalsely : Prop := pipesNilRow.holds Try.pinned (OpenSpec.ofChange pipesNilWrong)

/- THE SECOND FORM. 'bulk': how many values and letters a reading holds, each counted each time it is reached (what is shared counts as often as it is met; a slice's spare places count too). A statement '..UptoSaid' is the law's where the arguments, and the package variables that the reading takes, are together of bulk at most 1048576: NARROWER than '..Said'. Prove '..Said' where nothing that the law and all that it calls make is longer than what came in: it says more and counts as full. Else prove '..UptoSaid'. A law counts once. -/
mutual
def uptoBulk {H : Type} : DataW H → Nat
  | .lit (.string bytes) => bytes.length + 1
  | .lit _ => 1
  | .nil => 1
  | .ptr d => uptoBulk d + 1
  | .slice elems spare => uptoBulkAll elems + uptoBulkAll spare + 1
  | .agg parts => uptoBulkAll parts + 1
  | .iface _ d => uptoBulk d + 1
  | .map entries => uptoBulkEntries entries + 1
  | .held _ => 1
def uptoBulkAll {H : Type} : List (DataW H) → Nat
  | [] => 0
  | d :: r => uptoBulk d + uptoBulkAll r
def uptoBulkEntries {H : Type} : List (Lit × DataW H) → Nat
  | [] => 0
  | x :: r => uptoBulkEntry x + uptoBulkEntries r
def uptoBulkEntry {H : Type} : Lit × DataW H → Nat
  | (.string bytes, d) => bytes.length + uptoBulk d + 1
  | (_, d) => uptoBulk d + 1
 end
def uptoSmall : (H : Type) → List (DataW H) → Bool := fun _ ds => decide (uptoBulkAll ds ≤ 1048576)
def OpenSpec.upto (s : _root_.Go.ChangeSpec) : _root_.Go.OpenSpec := { _root_.Go.OpenSpec.ofChange s with cond := some uptoSmall }

/-- 'imagolaw22.PipesSteps', WHERE WHAT IT READS IS OF BULK AT MOST 1048576: true; the input reads as it did. -/
def pipesStepsUptoRow : OpenClaim := { program := "ytojhmiggocommaa", sum := "47433de7338af47dd3b1fcb26c0df98c222bb494384a997e7981942f642fe6b0", func := "imago/imagolaw22.PipesSteps", spec := "pipesSteps", apart := false, narrowed := true }
def PipesStepsUptoSaid : Prop := pipesStepsUptoRow.holds Try.pinned (OpenSpec.upto pipesStepsSpec)

/-- 'imagolaw22.PipesOrder', WHERE WHAT IT READS IS OF BULK AT MOST 1048576: true; the input reads as it did. -/
def pipesOrderUptoRow : OpenClaim := { program := "ytojhmiggocommaa", sum := "47433de7338af47dd3b1fcb26c0df98c222bb494384a997e7981942f642fe6b0", func := "imago/imagolaw22.PipesOrder", spec := "pipesOrder", apart := false, narrowed := true }
def PipesOrderUptoSaid : Prop := pipesOrderUptoRow.holds Try.pinned (OpenSpec.upto pipesOrderSpec)

/-- 'imagolaw22.PipesLoad', WHERE WHAT IT READS IS OF BULK AT MOST 1048576: true; the input reads as it did. -/
def pipesLoadUptoRow : OpenClaim := { program := "ytojhmiggocommaa", sum := "47433de7338af47dd3b1fcb26c0df98c222bb494384a997e7981942f642fe6b0", func := "imago/imagolaw22.PipesLoad", spec := "pipesLoad", apart := false, narrowed := true }
def PipesLoadUptoSaid : Prop := pipesLoadUptoRow.holds Try.pinned (OpenSpec.upto pipesLoadSpec)

/-- 'imagolaw22.PipesApart', WHERE WHAT IT READS IS OF BULK AT MOST 1048576: true; the input reads as it did. -/
def pipesApartUptoRow : OpenClaim := { program := "ytojhmiggocommaa", sum := "47433de7338af47dd3b1fcb26c0df98c222bb494384a997e7981942f642fe6b0", func := "imago/imagolaw22.PipesApart", spec := "pipesApart", apart := false, narrowed := true }
def PipesApartUptoSaid : Prop := pipesApartUptoRow.holds Try.pinned (OpenSpec.upto pipesApartSpec)

/-- 'imagolaw22.PipesNil', WHERE WHAT IT READS IS OF BULK AT MOST 1048576: true; the input reads as it did. -/
def pipesNilUptoRow : OpenClaim := { program := "ytojhmiggocommaa", sum := "47433de7338af47dd3b1fcb26c0df98c222bb494384a997e7981942f642fe6b0", func := "imago/imagolaw22.PipesNil", spec := "pipesNil", apart := false, narrowed := true }
def PipesNilUptoSaid : Prop := pipesNilUptoRow.holds Try.pinned (OpenSpec.upto pipesNilSpec)

end Rows
end Go.Proofs.Ytojhmiggocommaa
