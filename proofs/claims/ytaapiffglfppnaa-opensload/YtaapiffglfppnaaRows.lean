/-
  No cell of these rows narrows 'for every input' (looked for: loops, veiled, ifaces, maps, wideKeys, modest, calm, conditions, laid).
  DERIVED. THE GIVEN ROWS OF THIS SEAT. 5 by the template 'for every input the law returns true; each argument reads behind the call as it read before'; 0 by the template 'total and deterministic' (their statements: YtaapiffglfppnaaTotals.lean).
  GIVEN WITH THE SEED: the statements are not yours to turn. If you find one false, say at which input.
  Laid BY PROGRAM, IN A SANDBOX (cutbox-rows.mjs): the forced cells as the released guide's own fill.sh prints them over the translation 8b4500e1dfdbfe32… (all of the seat's roots in one cut). By AI agents, Wed Nov 11 2026. No macro, syntax, notation, axiom, sorry.
-/
import Derived.Test.YtaapiffglfppnaaChecked
import GoSem.Claim
import GoSem.ClaimJoined
import GoSem.ClaimMapViews
import Derived.JoinedTies
import Derived.KernelRfl
namespace Go.Proofs.Ytaapiffglfppnaa
/- THE CELL 'sum', in the pinned program and in every row, IS THE sha256 OF THE DUMP (.gsa) THAT YtaapiffglfppnaaProg.lean LOADS. Nothing in Lean hashes anything: it is a label: what it is worth is what the hold of that sum in a sandbox is worth. -/
noncomputable def Try.pinned : Pinned := { name := "ytaapiffglfppnaa", sum := "8b4500e1dfdbfe3200e4eb60ef9cbe2566109cc2d294c3a7c7d09e53fc877b99", checked := Try.checked }
namespace Rows
def none {H : Type} : Left H := { results := [], args := [] }

/-- 'imagolaw25.OpensSteps': WHATEVER THE INPUT: true; the input reads as it did. -/
def opensStepsSpec : ChangeSpec := { name := "opensSteps", fn := fun _ => fun
  | [d] => { results := [.lit (.bool true)], args := [d] }
  | _ => none }
def opensStepsRow : OpenClaim := { program := "ytaapiffglfppnaa", sum := "8b4500e1dfdbfe3200e4eb60ef9cbe2566109cc2d294c3a7c7d09e53fc877b99", func := "imago/imagolaw25.OpensSteps", spec := "opensSteps", unfollowed := true, recurses := true, apart := false }
def OpensStepsSaid : Prop := opensStepsRow.holds Try.pinned (OpenSpec.ofChange opensStepsSpec)

/-- ITS FALSE NEIGHBOUR: 'it returns false'. Refute it at one input. -/
def opensStepsWrong : ChangeSpec := { name := "opensSteps", fn := fun _ => fun
  | [d] => { results := [.lit (.bool false)], args := [d] }
  | _ => none }
def OpensStepsWrongFalsely : Prop := opensStepsRow.holds Try.pinned (OpenSpec.ofChange opensStepsWrong)

/-- 'imagolaw25.OpensOne': WHATEVER THE INPUT: true; the input reads as it did. -/
def opensOneSpec : ChangeSpec := { name := "opensOne", fn := fun _ => fun
  | [d1, d2] => { results := [.lit (.bool true)], args := [d1, d2] }
  | _ => none }
def opensOneRow : OpenClaim := { program := "ytaapiffglfppnaa", sum := "8b4500e1dfdbfe3200e4eb60ef9cbe2566109cc2d294c3a7c7d09e53fc877b99", func := "imago/imagolaw25.OpensOne", spec := "opensOne", unfollowed := true, recurses := true, apart := false }
def OpensOneSaid : Prop := opensOneRow.holds Try.pinned (OpenSpec.ofChange opensOneSpec)

/-- ITS FALSE NEIGHBOUR: 'it returns false'. Refute it at one input. -/
def opensOneWrong : ChangeSpec := { name := "opensOne", fn := fun _ => fun
  | [d1, d2] => { results := [.lit (.bool false)], args := [d1, d2] }
  | _ => none }
def OpensOneWrongFalsely : Prop := opensOneRow.holds Try.pinned (OpenSpec.ofChange opensOneWrong)

/-- 'imagolaw25.OpensThere': WHATEVER THE INPUT: true; the input reads as it did. -/
def opensThereSpec : ChangeSpec := { name := "opensThere", fn := fun _ => fun
  | [d] => { results := [.lit (.bool true)], args := [d] }
  | _ => none }
def opensThereRow : OpenClaim := { program := "ytaapiffglfppnaa", sum := "8b4500e1dfdbfe3200e4eb60ef9cbe2566109cc2d294c3a7c7d09e53fc877b99", func := "imago/imagolaw25.OpensThere", spec := "opensThere", unfollowed := true, recurses := true, apart := false }
def OpensThereSaid : Prop := opensThereRow.holds Try.pinned (OpenSpec.ofChange opensThereSpec)

/-- ITS FALSE NEIGHBOUR: 'it returns false'. Refute it at one input. -/
def opensThereWrong : ChangeSpec := { name := "opensThere", fn := fun _ => fun
  | [d] => { results := [.lit (.bool false)], args := [d] }
  | _ => none }
def OpensThereWrongFalsely : Prop := opensThereRow.holds Try.pinned (OpenSpec.ofChange opensThereWrong)

/-- 'imagolaw25.OpensLoad': WHATEVER THE INPUT: true; the input reads as it did. -/
def opensLoadSpec : ChangeSpec := { name := "opensLoad", fn := fun _ => fun
  | [d1, d2, d3] => { results := [.lit (.bool true)], args := [d1, d2, d3] }
  | _ => none }
def opensLoadRow : OpenClaim := { program := "ytaapiffglfppnaa", sum := "8b4500e1dfdbfe3200e4eb60ef9cbe2566109cc2d294c3a7c7d09e53fc877b99", func := "imago/imagolaw25.OpensLoad", spec := "opensLoad", unfollowed := true, recurses := true, apart := false }
def OpensLoadSaid : Prop := opensLoadRow.holds Try.pinned (OpenSpec.ofChange opensLoadSpec)

/-- ITS FALSE NEIGHBOUR: 'it returns false'. Refute it at one input. -/
def opensLoadWrong : ChangeSpec := { name := "opensLoad", fn := fun _ => fun
  | [d1, d2, d3] => { results := [.lit (.bool false)], args := [d1, d2, d3] }
  | _ => none }
def OpensLoadWrongFalsely : Prop := opensLoadRow.holds Try.pinned (OpenSpec.ofChange opensLoadWrong)

/-- 'imagolaw25.OpensNil': WHATEVER THE INPUT: true; the input reads as it did. -/
def opensNilSpec : ChangeSpec := { name := "opensNil", fn := fun _ => fun
  | [d] => { results := [.lit (.bool true)], args := [d] }
  | _ => none }
def opensNilRow : OpenClaim := { program := "ytaapiffglfppnaa", sum := "8b4500e1dfdbfe3200e4eb60ef9cbe2566109cc2d294c3a7c7d09e53fc877b99", func := "imago/imagolaw25.OpensNil", spec := "opensNil", unfollowed := true, recurses := true, apart := false }
def OpensNilSaid : Prop := opensNilRow.holds Try.pinned (OpenSpec.ofChange opensNilSpec)

/-- ITS FALSE NEIGHBOUR: 'it returns false'. Refute it at one input. -/
def opensNilWrong : ChangeSpec := { name := "opensNil", fn := fun _ => fun
  | [d] => { results := [.lit (.bool false)], args := [d] }
  | _ => none }
def OpensNilWrongFalsely : Prop := opensNilRow.holds Try.pinned (OpenSpec.ofChange opensNilWrong)

/- THE SECOND FORM. 'bulk': how many values and letters a reading holds, each counted each time it is reached (what is shared counts as often as it is met; a slice's spare places count too). A statement '..UptoSaid' is the law's where the arguments, and the package variables that the reading takes, are together of bulk at most 1048576: NARROWER than '..Said'. Prove '..Said' where nothing that the law and all that it calls make is longer than what came in: it says more and counts as full. Else prove '..UptoSaid'. A law counts once. -/
mutual
def uptoBulk {H : Type} : DataW H → Nat
  | .lit (.string bytes) => bytes.length + 1
  | .lit _ => 1
  | .nil => 1
  | .ptr d => uptoBulk d + 1
  | .slice elems spare => uptoBulkAll elems + uptoBulkAll spare + 1
  | .agg parts => uptoBulkAll parts + 1
  | .iface _ d => uptoBulk d + 1
  | .map entries => uptoBulkEntries entries + 1
  | .held _ => 1
def uptoBulkAll {H : Type} : List (DataW H) → Nat
  | [] => 0
  | d :: r => uptoBulk d + uptoBulkAll r
def uptoBulkEntries {H : Type} : List (Lit × DataW H) → Nat
  | [] => 0
  | x :: r => uptoBulkEntry x + uptoBulkEntries r
def uptoBulkEntry {H : Type} : Lit × DataW H → Nat
  | (.string bytes, d) => bytes.length + uptoBulk d + 1
  | (_, d) => uptoBulk d + 1
 end
def uptoSmall : (H : Type) → List (DataW H) → Bool := fun _ ds => decide (uptoBulkAll ds ≤ 1048576)
def OpenSpec.upto (s : _root_.Go.ChangeSpec) : _root_.Go.OpenSpec := { _root_.Go.OpenSpec.ofChange s with cond := some uptoSmall }

/-- 'imagolaw25.OpensSteps', WHERE WHAT IT READS IS OF BULK AT MOST 1048576: true; the input reads as it did. -/
def opensStepsUptoRow : OpenClaim := { program := "ytaapiffglfppnaa", sum := "8b4500e1dfdbfe3200e4eb60ef9cbe2566109cc2d294c3a7c7d09e53fc877b99", func := "imago/imagolaw25.OpensSteps", spec := "opensSteps", unfollowed := true, recurses := true, apart := false, narrowed := true }
def OpensStepsUptoSaid : Prop := opensStepsUptoRow.holds Try.pinned (OpenSpec.upto opensStepsSpec)

/-- 'imagolaw25.OpensOne', WHERE WHAT IT READS IS OF BULK AT MOST 1048576: true; the input reads as it did. -/
def opensOneUptoRow : OpenClaim := { program := "ytaapiffglfppnaa", sum := "8b4500e1dfdbfe3200e4eb60ef9cbe2566109cc2d294c3a7c7d09e53fc877b99", func := "imago/imagolaw25.OpensOne", spec := "opensOne", unfollowed := true, recurses := true, apart := false, narrowed := true }
def OpensOneUptoSaid : Prop := opensOneUptoRow.holds Try.pinned (OpenSpec.upto opensOneSpec)

/-- 'imagolaw25.OpensThere', WHERE WHAT IT READS IS OF BULK AT MOST 1048576: true; the input reads as it did. -/
def opensThereUptoRow : OpenClaim := { program := "ytaapiffglfppnaa", sum := "8b4500e1dfdbfe3200e4eb60ef9cbe2566109cc2d294c3a7c7d09e53fc877b99", func := "imago/imagolaw25.OpensThere", spec := "opensThere", unfollowed := true, recurses := true, apart := false, narrowed := true }
def OpensThereUptoSaid : Prop := opensThereUptoRow.holds Try.pinned (OpenSpec.upto opensThereSpec)

/-- 'imagolaw25.OpensLoad', WHERE WHAT IT READS IS OF BULK AT MOST 1048576: true; the input reads as it did. -/
def opensLoadUptoRow : OpenClaim := { program := "ytaapiffglfppnaa", sum := "8b4500e1dfdbfe3200e4eb60ef9cbe2566109cc2d294c3a7c7d09e53fc877b99", func := "imago/imagolaw25.OpensLoad", spec := "opensLoad", unfollowed := true, recurses := true, apart := false, narrowed := true }
def OpensLoadUptoSaid : Prop := opensLoadUptoRow.holds Try.pinned (OpenSpec.upto opensLoadSpec)

/-- 'imagolaw25.OpensNil', WHERE WHAT IT READS IS OF BULK AT MOST 1048576: true; the input reads as it did. -/
def opensNilUptoRow : OpenClaim := { program := "ytaapiffglfppnaa", sum := "8b4500e1dfdbfe3200e4eb60ef9cbe2566109cc2d294c3a7c7d09e53fc877b99", func := "imago/imagolaw25.OpensNil", spec := "opensNil", unfollowed := true, recurses := true, apart := false, narrowed := true }
def OpensNilUptoSaid : Prop := opensNilUptoRow.holds Try.pinned (OpenSpec.upto opensNilSpec)

end Rows
end Go.Proofs.Ytaapiffglfppnaa
