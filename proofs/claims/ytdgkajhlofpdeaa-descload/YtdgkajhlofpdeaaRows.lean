/-
  No cell of these rows narrows 'for every input' (looked for: loops, veiled, ifaces, maps, wideKeys, modest, calm, conditions, laid).
  DERIVED. THE GIVEN ROWS OF THIS SEAT. 6 by the template 'for every input the law returns true; each argument reads behind the call as it read before'; 0 by the template 'total and deterministic' (their statements: YtdgkajhlofpdeaaTotals.lean).
  GIVEN WITH THE SEED: the statements are not yours to turn. If you find one false, say at which input.
  Laid BY PROGRAM, IN A SANDBOX (cutbox-rows.mjs): the forced cells as the released guide's own fill.sh prints them over the translation bc2ee8cfbaa2549d… (all of the seat's roots in one cut). By AI agents, Wed Nov 11 2026. No macro, syntax, notation, axiom, sorry.
-/
import Derived.Test.YtdgkajhlofpdeaaChecked
import GoSem.Claim
import GoSem.ClaimJoined
import GoSem.ClaimMapViews
import Derived.JoinedTies
import Derived.KernelRfl
namespace Go.Proofs.Ytdgkajhlofpdeaa
/- THE CELL 'sum', in the pinned program and in every row, IS THE sha256 OF THE DUMP (.gsa) THAT YtdgkajhlofpdeaaProg.lean LOADS. Nothing in Lean hashes anything: it is a label: what it is worth is what the hold of that sum in a sandbox is worth. -/
noncomputable def Try.pinned : Pinned := { name := "ytdgkajhlofpdeaa", sum := "bc2ee8cfbaa2549dce271734d34f47b7ab80a6f226d0bdf1424f6431ef08e864", checked := Try.checked }
namespace Rows
def none {H : Type} : Left H := { results := [], args := [] }

/-- 'imagolaw24.DescSteps': WHATEVER THE INPUT: true; the input reads as it did. -/
def descStepsSpec : ChangeSpec := { name := "descSteps", fn := fun _ => fun
  | [d] => { results := [.lit (.bool true)], args := [d] }
  | _ => none }
def descStepsRow : OpenClaim := { program := "ytdgkajhlofpdeaa", sum := "bc2ee8cfbaa2549dce271734d34f47b7ab80a6f226d0bdf1424f6431ef08e864", func := "imago/imagolaw24.DescSteps", spec := "descSteps", plainKeys := false, apart := false }
def DescStepsSaid : Prop := descStepsRow.holds Try.pinned (OpenSpec.ofChange descStepsSpec)

/-- ITS FALSE NEIGHBOUR: 'it returns false'. Refute it at one input. -/
def descStepsWrong : ChangeSpec := { name := "descSteps", fn := fun _ => fun
  | [d] => { results := [.lit (.bool false)], args := [d] }
  | _ => none }
def DescStepsWrongFalsely : Prop := descStepsRow.holds Try.pinned (OpenSpec.ofChange descStepsWrong)

/-- 'imagolaw24.DescRight': WHATEVER THE INPUT: true; the input reads as it did. -/
def descRightSpec : ChangeSpec := { name := "descRight", fn := fun _ => fun
  | [d] => { results := [.lit (.bool true)], args := [d] }
  | _ => none }
def descRightRow : OpenClaim := { program := "ytdgkajhlofpdeaa", sum := "bc2ee8cfbaa2549dce271734d34f47b7ab80a6f226d0bdf1424f6431ef08e864", func := "imago/imagolaw24.DescRight", spec := "descRight", plainKeys := false, apart := false }
def DescRightSaid : Prop := descRightRow.holds Try.pinned (OpenSpec.ofChange descRightSpec)

/-- ITS FALSE NEIGHBOUR: 'it returns false'. Refute it at one input. -/
def descRightWrong : ChangeSpec := { name := "descRight", fn := fun _ => fun
  | [d] => { results := [.lit (.bool false)], args := [d] }
  | _ => none }
def DescRightWrongFalsely : Prop := descRightRow.holds Try.pinned (OpenSpec.ofChange descRightWrong)

/-- 'imagolaw24.DescPlaces': WHATEVER THE INPUT: true; the input reads as it did. -/
def descPlacesSpec : ChangeSpec := { name := "descPlaces", fn := fun _ => fun
  | [d1, d2, d3] => { results := [.lit (.bool true)], args := [d1, d2, d3] }
  | _ => none }
def descPlacesRow : OpenClaim := { program := "ytdgkajhlofpdeaa", sum := "bc2ee8cfbaa2549dce271734d34f47b7ab80a6f226d0bdf1424f6431ef08e864", func := "imago/imagolaw24.DescPlaces", spec := "descPlaces", plainKeys := false, apart := false }
def DescPlacesSaid : Prop := descPlacesRow.holds Try.pinned (OpenSpec.ofChange descPlacesSpec)

/-- ITS FALSE NEIGHBOUR: 'it returns false'. Refute it at one input. -/
def descPlacesWrong : ChangeSpec := { name := "descPlaces", fn := fun _ => fun
  | [d1, d2, d3] => { results := [.lit (.bool false)], args := [d1, d2, d3] }
  | _ => none }
def DescPlacesWrongFalsely : Prop := descPlacesRow.holds Try.pinned (OpenSpec.ofChange descPlacesWrong)

/-- 'imagolaw24.DescFork': WHATEVER THE INPUT: true; the input reads as it did. -/
def descForkSpec : ChangeSpec := { name := "descFork", fn := fun _ => fun
  | [d1, d2, d3] => { results := [.lit (.bool true)], args := [d1, d2, d3] }
  | _ => none }
def descForkRow : OpenClaim := { program := "ytdgkajhlofpdeaa", sum := "bc2ee8cfbaa2549dce271734d34f47b7ab80a6f226d0bdf1424f6431ef08e864", func := "imago/imagolaw24.DescFork", spec := "descFork", plainKeys := false, apart := false }
def DescForkSaid : Prop := descForkRow.holds Try.pinned (OpenSpec.ofChange descForkSpec)

/-- ITS FALSE NEIGHBOUR: 'it returns false'. Refute it at one input. -/
def descForkWrong : ChangeSpec := { name := "descFork", fn := fun _ => fun
  | [d1, d2, d3] => { results := [.lit (.bool false)], args := [d1, d2, d3] }
  | _ => none }
def DescForkWrongFalsely : Prop := descForkRow.holds Try.pinned (OpenSpec.ofChange descForkWrong)

/-- 'imagolaw24.DescLoad': WHATEVER THE INPUT: true; the input reads as it did. -/
def descLoadSpec : ChangeSpec := { name := "descLoad", fn := fun _ => fun
  | [d1, d2] => { results := [.lit (.bool true)], args := [d1, d2] }
  | _ => none }
def descLoadRow : OpenClaim := { program := "ytdgkajhlofpdeaa", sum := "bc2ee8cfbaa2549dce271734d34f47b7ab80a6f226d0bdf1424f6431ef08e864", func := "imago/imagolaw24.DescLoad", spec := "descLoad", plainKeys := false, apart := false }
def DescLoadSaid : Prop := descLoadRow.holds Try.pinned (OpenSpec.ofChange descLoadSpec)

/-- ITS FALSE NEIGHBOUR: 'it returns false'. Refute it at one input. -/
def descLoadWrong : ChangeSpec := { name := "descLoad", fn := fun _ => fun
  | [d1, d2] => { results := [.lit (.bool false)], args := [d1, d2] }
  | _ => none }
def DescLoadWrongFalsely : Prop := descLoadRow.holds Try.pinned (OpenSpec.ofChange descLoadWrong)

/-- 'imagolaw24.DescNil': WHATEVER THE INPUT: true; the input reads as it did. -/
def descNilSpec : ChangeSpec := { name := "descNil", fn := fun _ => fun
  | [d] => { results := [.lit (.bool true)], args := [d] }
  | _ => none }
def descNilRow : OpenClaim := { program := "ytdgkajhlofpdeaa", sum := "bc2ee8cfbaa2549dce271734d34f47b7ab80a6f226d0bdf1424f6431ef08e864", func := "imago/imagolaw24.DescNil", spec := "descNil", plainKeys := false, apart := false }
def DescNilSaid : Prop := descNilRow.holds Try.pinned (OpenSpec.ofChange descNilSpec)

/-- ITS FALSE NEIGHBOUR: 'it returns false'. Refute it at one input. -/
def descNilWrong : ChangeSpec := { name := "descNil", fn := fun _ => fun
  | [d] => { results := [.lit (.bool false)], args := [d] }
  | _ => none }
def DescNilWrongFalsely : Prop := descNilRow.holds Try.pinned (OpenSpec.ofChange descNilWrong)

/- THE SECOND FORM. 'bulk': how many values and letters a reading holds, each counted each time it is reached (what is shared counts as often as it is met; a slice's spare places count too). A statement '..UptoSaid' is the law's where the arguments, and the package variables that the reading takes, are together of bulk at most 1048576: NARROWER than '..Said'. Prove '..Said' where nothing that the law and all that it calls make is longer than what came in: it says more and counts as full. Else prove '..UptoSaid'. A law counts once. -/
mutual
def uptoBulk {H : Type} : DataW H → Nat
  | .lit (.string bytes) => bytes.length + 1
  | .lit _ => 1
  | .nil => 1
  | .ptr d => uptoBulk d + 1
  | .slice elems spare => uptoBulkAll elems + uptoBulkAll spare + 1
  | .agg parts => uptoBulkAll parts + 1
  | .iface _ d => uptoBulk d + 1
  | .map entries => uptoBulkEntries entries + 1
  | .held _ => 1
def uptoBulkAll {H : Type} : List (DataW H) → Nat
  | [] => 0
  | d :: r => uptoBulk d + uptoBulkAll r
def uptoBulkEntries {H : Type} : List (Lit × DataW H) → Nat
  | [] => 0
  | x :: r => uptoBulkEntry x + uptoBulkEntries r
def uptoBulkEntry {H : Type} : Lit × DataW H → Nat
  | (.string bytes, d) => bytes.length + uptoBulk d + 1
  | (_, d) => uptoBulk d + 1
 end
def uptoSmall : (H : Type) → List (DataW H) → Bool := fun _ ds => decide (uptoBulkAll ds ≤ 1048576)
def OpenSpec.upto (s : _root_.Go.ChangeSpec) : _root_.Go.OpenSpec := { _root_.Go.OpenSpec.ofChange s with cond := some uptoSmall }

/-- 'imagolaw24.DescSteps', WHERE WHAT IT READS IS OF BULK AT MOST 1048576: true; the input reads as it did. -/
def descStepsUptoRow : OpenClaim := { program := "ytdgkajhlofpdeaa", sum := "bc2ee8cfbaa2549dce271734d34f47b7ab80a6f226d0bdf1424f6431ef08e864", func := "imago/imagolaw24.DescSteps", spec := "descSteps", plainKeys := false, apart := false, narrowed := true }
def DescStepsUptoSaid : Prop := descStepsUptoRow.holds Try.pinned (OpenSpec.upto descStepsSpec)

/-- 'imagolaw24.DescRight', WHERE WHAT IT READS IS OF BULK AT MOST 1048576: true; the input reads as it did. -/
def descRightUptoRow : OpenClaim := { program := "ytdgkajhlofpdeaa", sum := "bc2ee8cfbaa2549dce271734d34f47b7ab80a6f226d0bdf1424f6431ef08e864", func := "imago/imagolaw24.DescRight", spec := "descRight", plainKeys := false, apart := false, narrowed := true }
def DescRightUptoSaid : Prop := descRightUptoRow.holds Try.pinned (OpenSpec.upto descRightSpec)

/-- 'imagolaw24.DescPlaces', WHERE WHAT IT READS IS OF BULK AT MOST 1048576: true; the input reads as it did. -/
def descPlacesUptoRow : OpenClaim := { program := "ytdgkajhlofpdeaa", sum := "bc2ee8cfbaa2549dce271734d34f47b7ab80a6f226d0bdf1424f6431ef08e864", func := "imago/imagolaw24.DescPlaces", spec := "descPlaces", plainKeys := false, apart := false, narrowed := true }
def DescPlacesUptoSaid : Prop := descPlacesUptoRow.holds Try.pinned (OpenSpec.upto descPlacesSpec)

/-- 'imagolaw24.DescFork', WHERE WHAT IT READS IS OF BULK AT MOST 1048576: true; the input reads as it did. -/
def descForkUptoRow : OpenClaim := { program := "ytdgkajhlofpdeaa", sum := "bc2ee8cfbaa2549dce271734d34f47b7ab80a6f226d0bdf1424f6431ef08e864", func := "imago/imagolaw24.DescFork", spec := "descFork", plainKeys := false, apart := false, narrowed := true }
def DescForkUptoSaid : Prop := descForkUptoRow.holds Try.pinned (OpenSpec.upto descForkSpec)

/-- 'imagolaw24.DescLoad', WHERE WHAT IT READS IS OF BULK AT MOST 1048576: true; the input reads as it did. -/
def descLoadUptoRow : OpenClaim := { program := "ytdgkajhlofpdeaa", sum := "bc2ee8cfbaa2549dce271734d34f47b7ab80a6f226d0bdf1424f6431ef08e864", func := "imago/imagolaw24.DescLoad", spec := "descLoad", plainKeys := false, apart := false, narrowed := true }
def DescLoadUptoSaid : Prop := descLoadUptoRow.holds Try.pinned (OpenSpec.upto descLoadSpec)

/-- 'imagolaw24.DescNil', WHERE WHAT IT READS IS OF BULK AT MOST 1048576: true; the input reads as it did. -/
def descNilUptoRow : OpenClaim := { program := "ytdgkajhlofpdeaa", sum := "bc2ee8cfbaa2549dce271734d34f47b7ab80a6f226d0bdf1424f6431ef08e864", func := "imago/imagolaw24.DescNil", spec := "descNil", plainKeys := false, apart := false, narrowed := true }
def DescNilUptoSaid : Prop := descNilUptoRow.holds Try.pinned (OpenSpec.upto descNilSpec)

end Rows
end Go.Proofs.Ytdgkajhlofpdeaa
