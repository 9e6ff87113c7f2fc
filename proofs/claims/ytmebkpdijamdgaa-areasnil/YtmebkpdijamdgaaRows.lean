/-
  No cell of these rows narrows 'for every input' (looked for: loops, veiled, ifaces, maps, wideKeys, modest, calm, conditions, laid).
  DERIVED. THE GIVEN ROWS OF THIS SEAT. 5 by the template 'for every input the law returns true; each argument reads behind the call as it read before'; 0 by the template 'total and deterministic' (their statements: YtmebkpdijamdgaaTotals.lean).
  GIVEN WITH THE SEED: the statements are not yours to turn. If you find one false, say at which input.
  Laid BY PROGRAM, IN A SANDBOX (cutbox-rows.mjs): the forced cells as the released guide's own fill.sh prints them over the translation a63b5f3b3f96f22f… (all of the seat's roots in one cut). By AI agents, Wed Nov 11 2026. No macro, syntax, notation, axiom, sorry.
-/
import Derived.Test.YtmebkpdijamdgaaChecked
import GoSem.Claim
import GoSem.ClaimJoined
import GoSem.ClaimMapViews
import Derived.JoinedTies
import Derived.KernelRfl
namespace Go.Proofs.Ytmebkpdijamdgaa
/- THE CELL 'sum', in the pinned program and in every row, IS THE sha256 OF THE DUMP (.gsa) THAT YtmebkpdijamdgaaProg.lean LOADS. Nothing in Lean hashes anything: it is a label: what it is worth is what the hold of that sum in a sandbox is worth. -/
noncomputable def Try.pinned : Pinned := { name := "ytmebkpdijamdgaa", sum := "a63b5f3b3f96f22f5f915cb5c17d950e66d4aea2f1a2be8a7e95d98f54c8ca28", checked := Try.checked }
namespace Rows
def none {H : Type} : Left H := { results := [], args := [] }

/-- 'imagolaw26.AreasSteps': WHATEVER THE INPUT: true; the input reads as it did. -/
def areasStepsSpec : ChangeSpec := { name := "areasSteps", fn := fun _ => fun
  | [d1, d2] => { results := [.lit (.bool true)], args := [d1, d2] }
  | _ => none }
def areasStepsRow : OpenClaim := { program := "ytmebkpdijamdgaa", sum := "a63b5f3b3f96f22f5f915cb5c17d950e66d4aea2f1a2be8a7e95d98f54c8ca28", func := "imago/imagolaw26.AreasSteps", spec := "areasSteps", unfollowed := true, recurses := true, apart := false }
def AreasStepsSaid : Prop := areasStepsRow.holds Try.pinned (OpenSpec.ofChange areasStepsSpec)

/-- ITS FALSE NEIGHBOUR: 'it returns false'. Refute it at one input. -/
def areasStepsWrong : ChangeSpec := { name := "areasSteps", fn := fun _ => fun
  | [d1, d2] => { results := [.lit (.bool false)], args := [d1, d2] }
  | _ => none }
def AreasStepsWrongFalsely : Prop := areasStepsRow.holds Try.pinned (OpenSpec.ofChange areasStepsWrong)

/-- 'imagolaw26.AreasOne': WHATEVER THE INPUT: true; the input reads as it did. -/
def areasOneSpec : ChangeSpec := { name := "areasOne", fn := fun _ => fun
  | [d] => { results := [.lit (.bool true)], args := [d] }
  | _ => none }
def areasOneRow : OpenClaim := { program := "ytmebkpdijamdgaa", sum := "a63b5f3b3f96f22f5f915cb5c17d950e66d4aea2f1a2be8a7e95d98f54c8ca28", func := "imago/imagolaw26.AreasOne", spec := "areasOne", unfollowed := true, recurses := true, apart := false }
def AreasOneSaid : Prop := areasOneRow.holds Try.pinned (OpenSpec.ofChange areasOneSpec)

/-- ITS FALSE NEIGHBOUR: 'it returns false'. Refute it at one input. -/
def areasOneWrong : ChangeSpec := { name := "areasOne", fn := fun _ => fun
  | [d] => { results := [.lit (.bool false)], args := [d] }
  | _ => none }
def AreasOneWrongFalsely : Prop := areasOneRow.holds Try.pinned (OpenSpec.ofChange areasOneWrong)

/-- 'imagolaw26.AreasFinds': WHATEVER THE INPUT: true; the input reads as it did. -/
def areasFindsSpec : ChangeSpec := { name := "areasFinds", fn := fun _ => fun
  | [d1, d2, d3] => { results := [.lit (.bool true)], args := [d1, d2, d3] }
  | _ => none }
def areasFindsRow : OpenClaim := { program := "ytmebkpdijamdgaa", sum := "a63b5f3b3f96f22f5f915cb5c17d950e66d4aea2f1a2be8a7e95d98f54c8ca28", func := "imago/imagolaw26.AreasFinds", spec := "areasFinds", unfollowed := true, recurses := true, apart := false }
def AreasFindsSaid : Prop := areasFindsRow.holds Try.pinned (OpenSpec.ofChange areasFindsSpec)

/-- ITS FALSE NEIGHBOUR: 'it returns false'. Refute it at one input. -/
def areasFindsWrong : ChangeSpec := { name := "areasFinds", fn := fun _ => fun
  | [d1, d2, d3] => { results := [.lit (.bool false)], args := [d1, d2, d3] }
  | _ => none }
def AreasFindsWrongFalsely : Prop := areasFindsRow.holds Try.pinned (OpenSpec.ofChange areasFindsWrong)

/-- 'imagolaw26.AreasLoad': WHATEVER THE INPUT: true; the input reads as it did. -/
def areasLoadSpec : ChangeSpec := { name := "areasLoad", fn := fun _ => fun
  | [d1, d2] => { results := [.lit (.bool true)], args := [d1, d2] }
  | _ => none }
def areasLoadRow : OpenClaim := { program := "ytmebkpdijamdgaa", sum := "a63b5f3b3f96f22f5f915cb5c17d950e66d4aea2f1a2be8a7e95d98f54c8ca28", func := "imago/imagolaw26.AreasLoad", spec := "areasLoad", unfollowed := true, recurses := true, apart := false }
def AreasLoadSaid : Prop := areasLoadRow.holds Try.pinned (OpenSpec.ofChange areasLoadSpec)

/-- ITS FALSE NEIGHBOUR: 'it returns false'. Refute it at one input. -/
def areasLoadWrong : ChangeSpec := { name := "areasLoad", fn := fun _ => fun
  | [d1, d2] => { results := [.lit (.bool false)], args := [d1, d2] }
  | _ => none }
def AreasLoadWrongFalsely : Prop := areasLoadRow.holds Try.pinned (OpenSpec.ofChange areasLoadWrong)

/-- 'imagolaw26.AreasNil': WHATEVER THE INPUT: true; the input reads as it did. -/
def areasNilSpec : ChangeSpec := { name := "areasNil", fn := fun _ => fun
  | [d] => { results := [.lit (.bool true)], args := [d] }
  | _ => none }
def areasNilRow : OpenClaim := { program := "ytmebkpdijamdgaa", sum := "a63b5f3b3f96f22f5f915cb5c17d950e66d4aea2f1a2be8a7e95d98f54c8ca28", func := "imago/imagolaw26.AreasNil", spec := "areasNil", unfollowed := true, recurses := true, apart := false }
def AreasNilSaid : Prop := areasNilRow.holds Try.pinned (OpenSpec.ofChange areasNilSpec)

/-- ITS FALSE NEIGHBOUR: 'it returns false'. Refute it at one input. -/
def areasNilWrong : ChangeSpec := { name := "areasNil", fn := fun _ => fun
  | [d] => { results := [.lit (.bool false)], args := [d] }
  | _ => none }
def AreasNilWrongFalsely : Prop := areasNilRow.holds Try.pinned (OpenSpec.ofChange areasNilWrong)

/- THE SECOND FORM. 'bulk': how many values and letters a reading holds, each counted each time it is reached (what is shared counts as often as it is met; a slice's spare places count too). A statement '..UptoSaid' is the law's where the arguments, and the package variables that the reading takes, are together of bulk at most 1048576: NARROWER than '..Said'. Prove '..Said' where nothing that the law and all that it calls make is longer than what came in: it says more and counts as full. Else prove '..UptoSaid'. A law counts once. -/
mutual
def uptoBulk {H : Type} : DataW H → Nat
  | .lit (.string bytes) => bytes.length + 1
  | .lit _ => 1
  | .nil => 1
  | .ptr d => uptoBulk d + 1
  | .slice elems spare => uptoBulkAll elems + uptoBulkAll spare + 1
  | .agg parts => uptoBulkAll parts + 1
  | .iface _ d => uptoBulk d + 1
  | .map entries => uptoBulkEntries entries + 1
  | .held _ => 1
def uptoBulkAll {H : Type} : List (DataW H) → Nat
  | [] => 0
  | d :: r => uptoBulk d + uptoBulkAll r
def uptoBulkEntries {H : Type} : List (Lit × DataW H) → Nat
  | [] => 0
  | x :: r => uptoBulkEntry x + uptoBulkEntries r
def uptoBulkEntry {H : Type} : Lit × DataW H → Nat
  | (.string bytes, d) => bytes.length + uptoBulk d + 1
  | (_, d) => uptoBulk d + 1
 end
def uptoSmall : (H : Type) → List (DataW H) → Bool := fun _ ds => decide (uptoBulkAll ds ≤ 1048576)
def OpenSpec.upto (s : _root_.Go.ChangeSpec) : _root_.Go.OpenSpec := { _root_.Go.OpenSpec.ofChange s with cond := some uptoSmall }

/-- 'imagolaw26.AreasSteps', WHERE WHAT IT READS IS OF BULK AT MOST 1048576: true; the input reads as it did. -/
def areasStepsUptoRow : OpenClaim := { program := "ytmebkpdijamdgaa", sum := "a63b5f3b3f96f22f5f915cb5c17d950e66d4aea2f1a2be8a7e95d98f54c8ca28", func := "imago/imagolaw26.AreasSteps", spec := "areasSteps", unfollowed := true, recurses := true, apart := false, narrowed := true }
def AreasStepsUptoSaid : Prop := areasStepsUptoRow.holds Try.pinned (OpenSpec.upto areasStepsSpec)

/-- 'imagolaw26.AreasOne', WHERE WHAT IT READS IS OF BULK AT MOST 1048576: true; the input reads as it did. -/
def areasOneUptoRow : OpenClaim := { program := "ytmebkpdijamdgaa", sum := "a63b5f3b3f96f22f5f915cb5c17d950e66d4aea2f1a2be8a7e95d98f54c8ca28", func := "imago/imagolaw26.AreasOne", spec := "areasOne", unfollowed := true, recurses := true, apart := false, narrowed := true }
def AreasOneUptoSaid : Prop := areasOneUptoRow.holds Try.pinned (OpenSpec.upto areasOneSpec)

/-- 'imagolaw26.AreasFinds', WHERE WHAT IT READS IS OF BULK AT MOST 1048576: true; the input reads as it did. -/
def areasFindsUptoRow : OpenClaim := { program := "ytmebkpdijamdgaa", sum := "a63b5f3b3f96f22f5f915cb5c17d950e66d4aea2f1a2be8a7e95d98f54c8ca28", func := "imago/imagolaw26.AreasFinds", spec := "areasFinds", unfollowed := true, recurses := true, apart := false, narrowed := true }
def AreasFindsUptoSaid : Prop := areasFindsUptoRow.holds Try.pinned (OpenSpec.upto areasFindsSpec)

/-- 'imagolaw26.AreasLoad', WHERE WHAT IT READS IS OF BULK AT MOST 1048576: true; the input reads as it did. -/
def areasLoadUptoRow : OpenClaim := { program := "ytmebkpdijamdgaa", sum := "a63b5f3b3f96f22f5f915cb5c17d950e66d4aea2f1a2be8a7e95d98f54c8ca28", func := "imago/imagolaw26.AreasLoad", spec := "areasLoad", unfollowed := true, recurses := true, apart := false, narrowed := true }
def AreasLoadUptoSaid : Prop := areasLoadUptoRow.holds Try.pinned (OpenSpec.upto areasLoadSpec)

/-- 'imagolaw26.AreasNil', WHERE WHAT IT READS IS OF BULK AT MOST 1048576: true; the input reads as it did. -/
def areasNilUptoRow : OpenClaim := { program := "ytmebkpdijamdgaa", sum := "a63b5f3b3f96f22f5f915cb5c17d950e66d4aea2f1a2be8a7e95d98f54c8ca28", func := "imago/imagolaw26.AreasNil", spec := "areasNil", unfollowed := true, recurses := true, apart := false, narrowed := true }
def AreasNilUptoSaid : Prop := areasNilUptoRow.holds Try.pinned (OpenSpec.upto areasNilSpec)

end Rows
end Go.Proofs.Ytmebkpdijamdgaa
