/-
  No cell of these rows narrows 'for every input' (looked for: loops, veiled, ifaces, maps, wideKeys, modest, calm, conditions, laid).
  DERIVED. THE GIVEN ROWS OF THIS SEAT. 5 by the template 'for every input the law returns true; each argument reads behind the call as it read before'; 0 by the template 'total and deterministic' (their statements: YtnknhencobhjdaaTotals.lean).
  GIVEN WITH THE SEED: the statements are not yours to turn. If you find one false, say at which input.
  Laid BY PROGRAM, IN A SANDBOX (cutbox-rows.mjs): the forced cells as the released guide's own fill.sh prints them over the translation 7c181eae907e105d… (all of the seat's roots in one cut). By AI agents, Wed Nov 11 2026. No macro, syntax, notation, axiom, sorry.
-/
import Derived.Test.YtnknhencobhjdaaChecked
import GoSem.Claim
import GoSem.ClaimJoined
import GoSem.ClaimMapViews
import Derived.JoinedTies
import Derived.KernelRfl
namespace Go.Proofs.Ytnknhencobhjdaa
/- THE CELL 'sum', in the pinned program and in every row, IS THE sha256 OF THE DUMP (.gsa) THAT YtnknhencobhjdaaProg.lean LOADS. Nothing in Lean hashes anything: it is a label: what it is worth is what the hold of that sum in a sandbox is worth. -/
noncomputable def Try.pinned : Pinned := { name := "ytnknhencobhjdaa", sum := "7c181eae907e105d872ed0182301f094336a2f2b12e415f4df02b443d985c9fc", checked := Try.checked }
namespace Rows
def none {H : Type} : Left H := { results := [], args := [] }

/-- 'imagolaw11.BindsSteps': WHATEVER THE INPUT: true; the input reads as it did. -/
def bindsStepsSpec : ChangeSpec := { name := "bindsSteps", fn := fun _ => fun
  | [d1, d2] => { results := [.lit (.bool true)], args := [d1, d2] }
  | _ => none }
def bindsStepsRow : OpenClaim := { program := "ytnknhencobhjdaa", sum := "7c181eae907e105d872ed0182301f094336a2f2b12e415f4df02b443d985c9fc", func := "imago/imagolaw11.BindsSteps", spec := "bindsSteps", unfollowed := true, recurses := true, plainKeys := false, apart := false }
def BindsStepsSaid : Prop := bindsStepsRow.holds Try.pinned (OpenSpec.ofChange bindsStepsSpec)

/-- ITS FALSE NEIGHBOUR: 'it returns false'. Refute it at one input. -/
def bindsStepsWrong : ChangeSpec := { name := "bindsSteps", fn := fun _ => fun
  | [d1, d2] => { results := [.lit (.bool false)], args := [d1, d2] }
  | _ => none }
def BindsStepsWrongFalsely : Prop := bindsStepsRow.holds Try.pinned (OpenSpec.ofChange bindsStepsWrong)

/-- 'imagolaw11.BindsRoots': WHATEVER THE INPUT: true; the input reads as it did. -/
def bindsRootsSpec : ChangeSpec := { name := "bindsRoots", fn := fun _ => fun
  | [d1, d2] => { results := [.lit (.bool true)], args := [d1, d2] }
  | _ => none }
def bindsRootsRow : OpenClaim := { program := "ytnknhencobhjdaa", sum := "7c181eae907e105d872ed0182301f094336a2f2b12e415f4df02b443d985c9fc", func := "imago/imagolaw11.BindsRoots", spec := "bindsRoots", unfollowed := true, recurses := true, plainKeys := false, apart := false }
def BindsRootsSaid : Prop := bindsRootsRow.holds Try.pinned (OpenSpec.ofChange bindsRootsSpec)

/-- ITS FALSE NEIGHBOUR: 'it returns false'. Refute it at one input. -/
def bindsRootsWrong : ChangeSpec := { name := "bindsRoots", fn := fun _ => fun
  | [d1, d2] => { results := [.lit (.bool false)], args := [d1, d2] }
  | _ => none }
def BindsRootsWrongFalsely : Prop := bindsRootsRow.holds Try.pinned (OpenSpec.ofChange bindsRootsWrong)

/-- 'imagolaw11.BindsApart': WHATEVER THE INPUT: true; the input reads as it did. -/
def bindsApartSpec : ChangeSpec := { name := "bindsApart", fn := fun _ => fun
  | [d] => { results := [.lit (.bool true)], args := [d] }
  | _ => none }
def bindsApartRow : OpenClaim := { program := "ytnknhencobhjdaa", sum := "7c181eae907e105d872ed0182301f094336a2f2b12e415f4df02b443d985c9fc", func := "imago/imagolaw11.BindsApart", spec := "bindsApart", unfollowed := true, recurses := true, plainKeys := false, apart := false }
def BindsApartSaid : Prop := bindsApartRow.holds Try.pinned (OpenSpec.ofChange bindsApartSpec)

/-- ITS FALSE NEIGHBOUR: 'it returns false'. Refute it at one input. -/
def bindsApartWrong : ChangeSpec := { name := "bindsApart", fn := fun _ => fun
  | [d] => { results := [.lit (.bool false)], args := [d] }
  | _ => none }
def BindsApartWrongFalsely : Prop := bindsApartRow.holds Try.pinned (OpenSpec.ofChange bindsApartWrong)

/-- 'imagolaw11.BindsClosed': WHATEVER THE INPUT: true; the input reads as it did. -/
def bindsClosedSpec : ChangeSpec := { name := "bindsClosed", fn := fun _ => fun
  | [d1, d2] => { results := [.lit (.bool true)], args := [d1, d2] }
  | _ => none }
def bindsClosedRow : OpenClaim := { program := "ytnknhencobhjdaa", sum := "7c181eae907e105d872ed0182301f094336a2f2b12e415f4df02b443d985c9fc", func := "imago/imagolaw11.BindsClosed", spec := "bindsClosed", unfollowed := true, recurses := true, plainKeys := false, apart := false }
def BindsClosedSaid : Prop := bindsClosedRow.holds Try.pinned (OpenSpec.ofChange bindsClosedSpec)

/-- ITS FALSE NEIGHBOUR: 'it returns false'. Refute it at one input. -/
def bindsClosedWrong : ChangeSpec := { name := "bindsClosed", fn := fun _ => fun
  | [d1, d2] => { results := [.lit (.bool false)], args := [d1, d2] }
  | _ => none }
def BindsClosedWrongFalsely : Prop := bindsClosedRow.holds Try.pinned (OpenSpec.ofChange bindsClosedWrong)

/-- 'imagolaw11.BindsNil': WHATEVER THE INPUT: true; the input reads as it did. -/
def bindsNilSpec : ChangeSpec := { name := "bindsNil", fn := fun _ => fun
  | [d] => { results := [.lit (.bool true)], args := [d] }
  | _ => none }
def bindsNilRow : OpenClaim := { program := "ytnknhencobhjdaa", sum := "7c181eae907e105d872ed0182301f094336a2f2b12e415f4df02b443d985c9fc", func := "imago/imagolaw11.BindsNil", spec := "bindsNil", unfollowed := true, recurses := true, plainKeys := false, apart := false }
def BindsNilSaid : Prop := bindsNilRow.holds Try.pinned (OpenSpec.ofChange bindsNilSpec)

/-- ITS FALSE NEIGHBOUR: 'it returns false'. Refute it at one input. -/
def bindsNilWrong : ChangeSpec := { name := "bindsNil", fn := fun _ => fun
  | [d] => { results := [.lit (.bool false)], args := [d] }
  | _ => none }
def BindsNilWrongFalsely : Prop := bindsNilRow.holds Try.pinned (OpenSpec.ofChange bindsNilWrong)

/- THE SECOND FORM. 'bulk': how many values and letters a reading holds, each counted each time it is reached (what is shared counts as often as it is met; a slice's spare places count too). A statement '..UptoSaid' is the law's where the arguments, and the package variables that the reading takes, are together of bulk at most 1048576: NARROWER than '..Said'. Prove '..Said' where nothing that the law and all that it calls make is longer than what came in: it says more and counts as full. Else prove '..UptoSaid'. A law counts once. -/
mutual
def uptoBulk {H : Type} : DataW H → Nat
  | .lit (.string bytes) => bytes.length + 1
  | .lit _ => 1
  | .nil => 1
  | .ptr d => uptoBulk d + 1
  | .slice elems spare => uptoBulkAll elems + uptoBulkAll spare + 1
  | .agg parts => uptoBulkAll parts + 1
  | .iface _ d => uptoBulk d + 1
  | .map entries => uptoBulkEntries entries + 1
  | .held _ => 1
def uptoBulkAll {H : Type} : List (DataW H) → Nat
  | [] => 0
  | d :: r => uptoBulk d + uptoBulkAll r
def uptoBulkEntries {H : Type} : List (Lit × DataW H) → Nat
  | [] => 0
  | x :: r => uptoBulkEntry x + uptoBulkEntries r
def uptoBulkEntry {H : Type} : Lit × DataW H → Nat
  | (.string bytes, d) => bytes.length + uptoBulk d + 1
  | (_, d) => uptoBulk d + 1
 end
def uptoSmall : (H : Type) → List (DataW H) → Bool := fun _ ds => decide (uptoBulkAll ds ≤ 1048576)
def OpenSpec.upto (s : _root_.Go.ChangeSpec) : _root_.Go.OpenSpec := { _root_.Go.OpenSpec.ofChange s with cond := some uptoSmall }

/-- 'imagolaw11.BindsSteps', WHERE WHAT IT READS IS OF BULK AT MOST 1048576: true; the input reads as it did. -/
def bindsStepsUptoRow : OpenClaim := { program := "ytnknhencobhjdaa", sum := "7c181eae907e105d872ed0182301f094336a2f2b12e415f4df02b443d985c9fc", func := "imago/imagolaw11.BindsSteps", spec := "bindsSteps", unfollowed := true, recurses := true, plainKeys := false, apart := false, narrowed := true }
def BindsStepsUptoSaid : Prop := bindsStepsUptoRow.holds Try.pinned (OpenSpec.upto bindsStepsSpec)

/-- 'imagolaw11.BindsRoots', WHERE WHAT IT READS IS OF BULK AT MOST 1048576: true; the input reads as it did. -/
def bindsRootsUptoRow : OpenClaim := { program := "ytnknhencobhjdaa", sum := "7c181eae907e105d872ed0182301f094336a2f2b12e415f4df02b443d985c9fc", func := "imago/imagolaw11.BindsRoots", spec := "bindsRoots", unfollowed := true, recurses := true, plainKeys := false, apart := false, narrowed := true }
def BindsRootsUptoSaid : Prop := bindsRootsUptoRow.holds Try.pinned (OpenSpec.upto bindsRootsSpec)

/-- 'imagolaw11.BindsApart', WHERE WHAT IT READS IS OF BULK AT MOST 1048576: true; the input reads as it did. -/
def bindsApartUptoRow : OpenClaim := { program := "ytnknhencobhjdaa", sum := "7c181eae907e105d872ed0182301f094336a2f2b12e415f4df02b443d985c9fc", func := "imago/imagolaw11.BindsApart", spec := "bindsApart", unfollowed := true, recurses := true, plainKeys := false, apart := false, narrowed := true }
def BindsApartUptoSaid : Prop := bindsApartUptoRow.holds Try.pinned (OpenSpec.upto bindsApartSpec)

/-- 'imagolaw11.BindsClosed', WHERE WHAT IT READS IS OF BULK AT MOST 1048576: true; the input reads as it did. -/
def bindsClosedUptoRow : OpenClaim := { program := "ytnknhencobhjdaa", sum := "7c181eae907e105d872ed0182301f094336a2f2b12e415f4df02b443d985c9fc", func := "imago/imagolaw11.BindsClosed", spec := "bindsClosed", unfollowed := true, recurses := true, plainKeys := false, apart := false, narrowed := true }
def BindsClosedUptoSaid : Prop := bindsClosedUptoRow.holds Try.pinned (OpenSpec.upto bindsClosedSpec)

/-- 'imagolaw11.BindsNil', WHERE WHAT IT READS IS OF BULK AT MOST 1048576: true; the input reads as it did. -/
def bindsNilUptoRow : OpenClaim := { program := "ytnknhencobhjdaa", sum := "7c181eae907e105d872ed0182301f094336a2f2b12e415f4df02b443d985c9fc", func := "imago/imagolaw11.BindsNil", spec := "bindsNil", unfollowed := true, recurses := true, plainKeys := false, apart := false, narrowed := true }
def BindsNilUptoSaid : Prop := bindsNilUptoRow.holds Try.pinned (OpenSpec.upto bindsNilSpec)

end Rows
end Go.Proofs.Ytnknhencobhjdaa
