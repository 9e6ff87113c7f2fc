/-
  No cell of these rows narrows 'for every input' (looked for: loops, veiled, ifaces, maps, wideKeys, modest, calm, conditions, laid).
  DERIVED. THE GIVEN ROWS OF THIS SEAT. 4 by the template 'for every input the law returns true; each argument reads behind the call as it read before'; 0 by the template 'total and deterministic' (their statements: YtmijjgpelihhnaaTotals.lean).
  GIVEN WITH THE SEED: the statements are not yours to turn. If you find one false, say at which input.
  Laid BY PROGRAM, IN A SANDBOX (cutbox-rows.mjs): the forced cells as the released guide's own fill.sh prints them over the translation ec46fff2ea337f2c… (all of the seat's roots in one cut). By AI agents, Wed Nov 11 2026. No macro, syntax, notation, axiom, sorry.
-/
import Derived.Test.YtmijjgpelihhnaaChecked
import GoSem.Claim
import GoSem.ClaimJoined
import GoSem.ClaimMapViews
import Derived.JoinedTies
import Derived.KernelRfl
namespace Go.Proofs.Ytmijjgpelihhnaa
/- THE CELL 'sum', in the pinned program and in every row, IS THE sha256 OF THE DUMP (.gsa) THAT YtmijjgpelihhnaaProg.lean LOADS. Nothing in Lean hashes anything: it is a label: what it is worth is what the hold of that sum in a sandbox is worth. -/
noncomputable def Try.pinned : Pinned := { name := "ytmijjgpelihhnaa", sum := "ec46fff2ea337f2c7df16e87bd6b3f8d5d445c9962d62ee85277379a0258c8dd", checked := Try.checked }
namespace Rows
def none {H : Type} : Left H := { results := [], args := [] }

/-- 'imagolaw12.IpcSteps': WHATEVER THE INPUT: true; the input reads as it did. -/
def ipcStepsSpec : ChangeSpec := { name := "ipcSteps", fn := fun _ => fun
  | [d] => { results := [.lit (.bool true)], args := [d] }
  | _ => none }
def ipcStepsRow : OpenClaim := { program := "ytmijjgpelihhnaa", sum := "ec46fff2ea337f2c7df16e87bd6b3f8d5d445c9962d62ee85277379a0258c8dd", func := "imago/imagolaw12.IpcSteps", spec := "ipcSteps", unfollowed := true, recurses := true, apart := false }
def IpcStepsSaid : Prop := ipcStepsRow.holds Try.pinned (OpenSpec.ofChange ipcStepsSpec)

/-- ITS FALSE NEIGHBOUR: 'it returns false'. Refute it at one input. -/
def ipcStepsWrong : ChangeSpec := { name := "ipcSteps", fn := fun _ => fun
  | [d] => { results := [.lit (.bool false)], args := [d] }
  | _ => none }
def IpcStepsWrongFalsely : Prop := ipcStepsRow.holds Try.pinned (OpenSpec.ofChange ipcStepsWrong)

/-- 'imagolaw12.IpcOrder': WHATEVER THE INPUT: true; the input reads as it did. -/
def ipcOrderSpec : ChangeSpec := { name := "ipcOrder", fn := fun _ => fun
  | [d1, d2, d3] => { results := [.lit (.bool true)], args := [d1, d2, d3] }
  | _ => none }
def ipcOrderRow : OpenClaim := { program := "ytmijjgpelihhnaa", sum := "ec46fff2ea337f2c7df16e87bd6b3f8d5d445c9962d62ee85277379a0258c8dd", func := "imago/imagolaw12.IpcOrder", spec := "ipcOrder", unfollowed := true, recurses := true, apart := false }
def IpcOrderSaid : Prop := ipcOrderRow.holds Try.pinned (OpenSpec.ofChange ipcOrderSpec)

/-- ITS FALSE NEIGHBOUR: 'it returns false'. Refute it at one input. -/
def ipcOrderWrong : ChangeSpec := { name := "ipcOrder", fn := fun _ => fun
  | [d1, d2, d3] => { results := [.lit (.bool false)], args := [d1, d2, d3] }
  | _ => none }
def IpcOrderWrongFalsely : Prop := ipcOrderRow.holds Try.pinned (OpenSpec.ofChange ipcOrderWrong)

/-- 'imagolaw12.IpcApart': WHATEVER THE INPUT: true; the input reads as it did. -/
def ipcApartSpec : ChangeSpec := { name := "ipcApart", fn := fun _ => fun
  | [d1, d2] => { results := [.lit (.bool true)], args := [d1, d2] }
  | _ => none }
def ipcApartRow : OpenClaim := { program := "ytmijjgpelihhnaa", sum := "ec46fff2ea337f2c7df16e87bd6b3f8d5d445c9962d62ee85277379a0258c8dd", func := "imago/imagolaw12.IpcApart", spec := "ipcApart", unfollowed := true, recurses := true, apart := false }
def IpcApartSaid : Prop := ipcApartRow.holds Try.pinned (OpenSpec.ofChange ipcApartSpec)

/-- ITS FALSE NEIGHBOUR: 'it returns false'. Refute it at one input. -/
def ipcApartWrong : ChangeSpec := { name := "ipcApart", fn := fun _ => fun
  | [d1, d2] => { results := [.lit (.bool false)], args := [d1, d2] }
  | _ => none }
def IpcApartWrongFalsely : Prop := ipcApartRow.holds Try.pinned (OpenSpec.ofChange ipcApartWrong)

/-- 'imagolaw12.IpcNil': WHATEVER THE INPUT: true; the input reads as it did. -/
def ipcNilSpec : ChangeSpec := { name := "ipcNil", fn := fun _ => fun
  | [d] => { results := [.lit (.bool true)], args := [d] }
  | _ => none }
def ipcNilRow : OpenClaim := { program := "ytmijjgpelihhnaa", sum := "ec46fff2ea337f2c7df16e87bd6b3f8d5d445c9962d62ee85277379a0258c8dd", func := "imago/imagolaw12.IpcNil", spec := "ipcNil", unfollowed := true, recurses := true, apart := false }
def IpcNilSaid : Prop := ipcNilRow.holds Try.pinned (OpenSpec.ofChange ipcNilSpec)

/-- ITS FALSE NEIGHBOUR: 'it returns false'. Refute it at one input. -/
def ipcNilWrong : ChangeSpec := { name := "ipcNil", fn := fun _ => fun
  | [d] => { results := [.lit (.bool false)], args := [d] }
  | _ => none }
def IpcNilWrongFalsely : Prop := ipcNilRow.holds Try.pinned (OpenSpec.ofChange ipcNilWrong)

/- THE SECOND FORM. 'bulk': how many values and letters a reading holds, each counted each time it is reached (what is shared counts as often as it is met; a slice's spare places count too). A statement '..UptoSaid' is the law's where the arguments, and the package variables that the reading takes, are together of bulk at most 1048576: NARROWER than '..Said'. Prove '..Said' where nothing that the law and all that it calls make is longer than what came in: it says more and counts as full. Else prove '..UptoSaid'. A law counts once. -/
mutual
def uptoBulk {H : Type} : DataW H → Nat
  | .lit (.string bytes) => bytes.length + 1
  | .lit _ => 1
  | .nil => 1
  | .ptr d => uptoBulk d + 1
  | .slice elems spare => uptoBulkAll elems + uptoBulkAll spare + 1
  | .agg parts => uptoBulkAll parts + 1
  | .iface _ d => uptoBulk d + 1
  | .map entries => uptoBulkEntries entries + 1
  | .held _ => 1
def uptoBulkAll {H : Type} : List (DataW H) → Nat
  | [] => 0
  | d :: r => uptoBulk d + uptoBulkAll r
def uptoBulkEntries {H : Type} : List (Lit × DataW H) → Nat
  | [] => 0
  | x :: r => uptoBulkEntry x + uptoBulkEntries r
def uptoBulkEntry {H : Type} : Lit × DataW H → Nat
  | (.string bytes, d) => bytes.length + uptoBulk d + 1
  | (_, d) => uptoBulk d + 1
 end
def uptoSmall : (H : Type) → List (DataW H) → Bool := fun _ ds => decide (uptoBulkAll ds ≤ 1048576)
def OpenSpec.upto (s : _root_.Go.ChangeSpec) : _root_.Go.OpenSpec := { _root_.Go.OpenSpec.ofChange s with cond := some uptoSmall }

/-- 'imagolaw12.IpcSteps', WHERE WHAT IT READS IS OF BULK AT MOST 1048576: true; the input reads as it did. -/
def ipcStepsUptoRow : OpenClaim := { program := "ytmijjgpelihhnaa", sum := "ec46fff2ea337f2c7df16e87bd6b3f8d5d445c9962d62ee85277379a0258c8dd", func := "imago/imagolaw12.IpcSteps", spec := "ipcSteps", unfollowed := true, recurses := true, apart := false, narrowed := true }
def IpcStepsUptoSaid : Prop := ipcStepsUptoRow.holds Try.pinned (OpenSpec.upto ipcStepsSpec)

/-- 'imagolaw12.IpcOrder', WHERE WHAT IT READS IS OF BULK AT MOST 1048576: true; the input reads as it did. -/
def ipcOrderUptoRow : OpenClaim := { program := "ytmijjgpelihhnaa", sum := "ec46fff2ea337f2c7df16e87bd6b3f8d5d445c9962d62ee85277379a0258c8dd", func := "imago/imagolaw12.IpcOrder", spec := "ipcOrder", unfollowed := true, recurses := true, apart := false, narrowed := true }
def IpcOrderUptoSaid : Prop := ipcOrderUptoRow.holds Try.pinned (OpenSpec.upto ipcOrderSpec)

/-- 'imagolaw12.IpcApart', WHERE WHAT IT READS IS OF BULK AT MOST 1048576: true; the input reads as it did. -/
def ipcApartUptoRow : OpenClaim := { program := "ytmijjgpelihhnaa", sum := "ec46fff2ea337f2c7df16e87bd6b3f8d5d445c9962d62ee85277379a0258c8dd", func := "imago/imagolaw12.IpcApart", spec := "ipcApart", unfollowed := true, recurses := true, apart := false, narrowed := true }
def IpcApartUptoSaid : Prop := ipcApartUptoRow.holds Try.pinned (OpenSpec.upto ipcApartSpec)

/-- 'imagolaw12.IpcNil', WHERE WHAT IT READS IS OF BULK AT MOST 1048576: true; the input reads as it did. -/
def ipcNilUptoRow : OpenClaim := { program := "ytmijjgpelihhnaa", sum := "ec46fff2ea337f2c7df16e87bd6b3f8d5d445c9962d62ee85277379a0258c8dd", func := "imago/imagolaw12.IpcNil", spec := "ipcNil", unfollowed := true, recurses := true, apart := false, narrowed := true }
def IpcNilUptoSaid : Prop := ipcNilUptoRow.holds Try.pinned (OpenSpec.upto ipcNilSpec)

end Rows
end Go.Proofs.Ytmijjgpelihhnaa
