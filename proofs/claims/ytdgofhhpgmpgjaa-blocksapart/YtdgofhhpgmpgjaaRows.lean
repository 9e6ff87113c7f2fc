/-
  No cell of these rows narrows 'for every input' (looked for: loops, veiled, ifaces, maps, wideKeys, modest, calm, conditions, laid).
  DERIVED. THE GIVEN ROWS OF THIS SEAT. 6 by the template 'for every input the law returns true; each argument reads behind the call as it read before'; 0 by the template 'total and deterministic' (their statements: YtdgofhhpgmpgjaaTotals.lean).
  GIVEN WITH THE SEED: the statements are not yours to turn. If you find one false, say at which input.
  Laid BY PROGRAM, IN A SANDBOX (cutbox-rows.mjs): the forced cells as the released guide's own fill.sh prints them over the translation 45557ad8299a8d05… (all of the seat's roots in one cut). By AI agents, Wed Nov 11 2026. No macro, syntax, notation, axiom, sorry.
-/
import Derived.Test.YtdgofhhpgmpgjaaChecked
import GoSem.Claim
import GoSem.ClaimJoined
import GoSem.ClaimMapViews
import Derived.JoinedTies
import Derived.KernelRfl
namespace Go.Proofs.Ytdgofhhpgmpgjaa
/- THE CELL 'sum', in the pinned program and in every row, IS THE sha256 OF THE DUMP (.gsa) THAT YtdgofhhpgmpgjaaProg.lean LOADS. Nothing in Lean hashes anything: it is a label: what it is worth is what the hold of that sum in a sandbox is worth. -/
noncomputable def Try.pinned : Pinned := { name := "ytdgofhhpgmpgjaa", sum := "45557ad8299a8d05a94d858420c1f12d986281147b4135350916e10530627b2e", checked := Try.checked }
namespace Rows
def none {H : Type} : Left H := { results := [], args := [] }

/-- 'imagolaw03.BlocksRuns': WHATEVER THE INPUT: true; the input reads as it did. -/
def blocksRunsSpec : ChangeSpec := { name := "blocksRuns", fn := fun _ => fun
  | [d1, d2] => { results := [.lit (.bool true)], args := [d1, d2] }
  | _ => none }
def blocksRunsRow : OpenClaim := { program := "ytdgofhhpgmpgjaa", sum := "45557ad8299a8d05a94d858420c1f12d986281147b4135350916e10530627b2e", func := "imago/imagolaw03.BlocksRuns", spec := "blocksRuns", plainKeys := false, apart := false }
def BlocksRunsSaid : Prop := blocksRunsRow.holds Try.pinned (OpenSpec.ofChange blocksRunsSpec)

/-- ITS FALSE NEIGHBOUR: 'it returns false'. Refute it at one input. -/
def blocksRunsWrong : ChangeSpec := { name := "blocksRuns", fn := fun _ => fun
  | [d1, d2] => { results := [.lit (.bool false)], args := [d1, d2] }
  | _ => none }
def BlocksRunsWrongFalsely : Prop := blocksRunsRow.holds Try.pinned (OpenSpec.ofChange blocksRunsWrong)

/-- 'imagolaw03.BlocksSteps': WHATEVER THE INPUT: true; the input reads as it did. -/
def blocksStepsSpec : ChangeSpec := { name := "blocksSteps", fn := fun _ => fun
  | [d1, d2, d3] => { results := [.lit (.bool true)], args := [d1, d2, d3] }
  | _ => none }
def blocksStepsRow : OpenClaim := { program := "ytdgofhhpgmpgjaa", sum := "45557ad8299a8d05a94d858420c1f12d986281147b4135350916e10530627b2e", func := "imago/imagolaw03.BlocksSteps", spec := "blocksSteps", plainKeys := false, apart := false }
def BlocksStepsSaid : Prop := blocksStepsRow.holds Try.pinned (OpenSpec.ofChange blocksStepsSpec)

/-- ITS FALSE NEIGHBOUR: 'it returns false'. Refute it at one input. -/
def blocksStepsWrong : ChangeSpec := { name := "blocksSteps", fn := fun _ => fun
  | [d1, d2, d3] => { results := [.lit (.bool false)], args := [d1, d2, d3] }
  | _ => none }
def BlocksStepsWrongFalsely : Prop := blocksStepsRow.holds Try.pinned (OpenSpec.ofChange blocksStepsWrong)

/-- 'imagolaw03.BlocksBack': WHATEVER THE INPUT: true; the input reads as it did. -/
def blocksBackSpec : ChangeSpec := { name := "blocksBack", fn := fun _ => fun
  | [d] => { results := [.lit (.bool true)], args := [d] }
  | _ => none }
def blocksBackRow : OpenClaim := { program := "ytdgofhhpgmpgjaa", sum := "45557ad8299a8d05a94d858420c1f12d986281147b4135350916e10530627b2e", func := "imago/imagolaw03.BlocksBack", spec := "blocksBack", plainKeys := false, apart := false }
def BlocksBackSaid : Prop := blocksBackRow.holds Try.pinned (OpenSpec.ofChange blocksBackSpec)

/-- ITS FALSE NEIGHBOUR: 'it returns false'. Refute it at one input. -/
def blocksBackWrong : ChangeSpec := { name := "blocksBack", fn := fun _ => fun
  | [d] => { results := [.lit (.bool false)], args := [d] }
  | _ => none }
def BlocksBackWrongFalsely : Prop := blocksBackRow.holds Try.pinned (OpenSpec.ofChange blocksBackWrong)

/-- 'imagolaw03.BlocksApart': WHATEVER THE INPUT: true; the input reads as it did. -/
def blocksApartSpec : ChangeSpec := { name := "blocksApart", fn := fun _ => fun
  | [d1, d2] => { results := [.lit (.bool true)], args := [d1, d2] }
  | _ => none }
def blocksApartRow : OpenClaim := { program := "ytdgofhhpgmpgjaa", sum := "45557ad8299a8d05a94d858420c1f12d986281147b4135350916e10530627b2e", func := "imago/imagolaw03.BlocksApart", spec := "blocksApart", plainKeys := false, apart := false }
def BlocksApartSaid : Prop := blocksApartRow.holds Try.pinned (OpenSpec.ofChange blocksApartSpec)

/-- ITS FALSE NEIGHBOUR: 'it returns false'. Refute it at one input. -/
def blocksApartWrong : ChangeSpec := { name := "blocksApart", fn := fun _ => fun
  | [d1, d2] => { results := [.lit (.bool false)], args := [d1, d2] }
  | _ => none }
def BlocksApartWrongFalsely : Prop := blocksApartRow.holds Try.pinned (OpenSpec.ofChange blocksApartWrong)

/-- 'imagolaw03.BlocksNil': WHATEVER THE INPUT: true; the input reads as it did. -/
def blocksNilSpec : ChangeSpec := { name := "blocksNil", fn := fun _ => fun
  | [d1, d2] => { results := [.lit (.bool true)], args := [d1, d2] }
  | _ => none }
def blocksNilRow : OpenClaim := { program := "ytdgofhhpgmpgjaa", sum := "45557ad8299a8d05a94d858420c1f12d986281147b4135350916e10530627b2e", func := "imago/imagolaw03.BlocksNil", spec := "blocksNil", plainKeys := false, apart := false }
def BlocksNilSaid : Prop := blocksNilRow.holds Try.pinned (OpenSpec.ofChange blocksNilSpec)

/-- ITS FALSE NEIGHBOUR: 'it returns false'. Refute it at one input. -/
def blocksNilWrong : ChangeSpec := { name := "blocksNil", fn := fun _ => fun
  | [d1, d2] => { results := [.lit (.bool false)], args := [d1, d2] }
  | _ => none }
def BlocksNilWrongFalsely : Prop := blocksNilRow.holds Try.pinned (OpenSpec.ofChange blocksNilWrong)

/-- 'imagolaw04.TlbSteps': WHATEVER THE INPUT: true; the input reads as it did. -/
def tlbStepsSpec : ChangeSpec := { name := "tlbSteps", fn := fun _ => fun
  | [d] => { results := [.lit (.bool true)], args := [d] }
  | _ => none }
def tlbStepsRow : OpenClaim := { program := "ytdgofhhpgmpgjaa", sum := "45557ad8299a8d05a94d858420c1f12d986281147b4135350916e10530627b2e", func := "imago/imagolaw04.TlbSteps", spec := "tlbSteps", unfollowed := true, recurses := true, plainKeys := false, apart := false }
def TlbStepsSaid : Prop := tlbStepsRow.holds Try.pinned (OpenSpec.ofChange tlbStepsSpec)

/-- ITS FALSE NEIGHBOUR: 'it returns false'. Refute it at one input. -/
def tlbStepsWrong : ChangeSpec := { name := "tlbSteps", fn := fun _ => fun
  | [d] => { results := [.lit (.bool false)], args := [d] }
  | _ => none }
def TlbStepsWrongFalsely : Prop := tlbStepsRow.holds Try.pinned (OpenSpec.ofChange tlbStepsWrong)

/- THE SECOND FORM. 'bulk': how many values and letters a reading holds, each counted each time it is reached (what is shared counts as often as it is met; a slice's spare places count too). A statement '..UptoSaid' is the law's where the arguments, and the package variables that the reading takes, are together of bulk at most 1048576: NARROWER than '..Said'. Prove '..Said' where nothing that the law and all that it calls make is longer than what came in: it says more and counts as full. Else prove '..UptoSaid'. A law counts once. -/
mutual
def uptoBulk {H : Type} : DataW H → Nat
  | .lit (.string bytes) => bytes.length + 1
  | .lit _ => 1
  | .nil => 1
  | .ptr d => uptoBulk d + 1
  | .slice elems spare => uptoBulkAll elems + uptoBulkAll spare + 1
  | .agg parts => uptoBulkAll parts + 1
  | .iface _ d => uptoBulk d + 1
  | .map entries => uptoBulkEntries entries + 1
  | .held _ => 1
def uptoBulkAll {H : Type} : List (DataW H) → Nat
  | [] => 0
  | d :: r => uptoBulk d + uptoBulkAll r
def uptoBulkEntries {H : Type} : List (Lit × DataW H) → Nat
  | [] => 0
  | x :: r => uptoBulkEntry x + uptoBulkEntries r
def uptoBulkEntry {H : Type} : Lit × DataW H → Nat
  | (.string bytes, d) => bytes.length + uptoBulk d + 1
  | (_, d) => uptoBulk d + 1
 end
def uptoSmall : (H : Type) → List (DataW H) → Bool := fun _ ds => decide (uptoBulkAll ds ≤ 1048576)
def OpenSpec.upto (s : _root_.Go.ChangeSpec) : _root_.Go.OpenSpec := { _root_.Go.OpenSpec.ofChange s with cond := some uptoSmall }

/-- 'imagolaw03.BlocksRuns', WHERE WHAT IT READS IS OF BULK AT MOST 1048576: true; the input reads as it did. -/
def blocksRunsUptoRow : OpenClaim := { program := "ytdgofhhpgmpgjaa", sum := "45557ad8299a8d05a94d858420c1f12d986281147b4135350916e10530627b2e", func := "imago/imagolaw03.BlocksRuns", spec := "blocksRuns", plainKeys := false, apart := false, narrowed := true }
def BlocksRunsUptoSaid : Prop := blocksRunsUptoRow.holds Try.pinned (OpenSpec.upto blocksRunsSpec)

/-- 'imagolaw03.BlocksSteps', WHERE WHAT IT READS IS OF BULK AT MOST 1048576: true; the input reads as it did. -/
def blocksStepsUptoRow : OpenClaim := { program := "ytdgofhhpgmpgjaa", sum := "45557ad8299a8d05a94d858420c1f12d986281147b4135350916e10530627b2e", func := "imago/imagolaw03.BlocksSteps", spec := "blocksSteps", plainKeys := false, apart := false, narrowed := true }
def BlocksStepsUptoSaid : Prop := blocksStepsUptoRow.holds Try.pinned (OpenSpec.upto blocksStepsSpec)

/-- 'imagolaw03.BlocksBack', WHERE WHAT IT READS IS OF BULK AT MOST 1048576: true; the input reads as it did. -/
def blocksBackUptoRow : OpenClaim := { program := "ytdgofhhpgmpgjaa", sum := "45557ad8299a8d05a94d858420c1f12d986281147b4135350916e10530627b2e", func := "imago/imagolaw03.BlocksBack", spec := "blocksBack", plainKeys := false, apart := false, narrowed := true }
def BlocksBackUptoSaid : Prop := blocksBackUptoRow.holds Try.pinned (OpenSpec.upto blocksBackSpec)

/-- 'imagolaw03.BlocksApart', WHERE WHAT IT READS IS OF BULK AT MOST 1048576: true; the input reads as it did. -/
def blocksApartUptoRow : OpenClaim := { program := "ytdgofhhpgmpgjaa", sum := "45557ad8299a8d05a94d858420c1f12d986281147b4135350916e10530627b2e", func := "imago/imagolaw03.BlocksApart", spec := "blocksApart", plainKeys := false, apart := false, narrowed := true }
def BlocksApartUptoSaid : Prop := blocksApartUptoRow.holds Try.pinned (OpenSpec.upto blocksApartSpec)

/-- 'imagolaw03.BlocksNil', WHERE WHAT IT READS IS OF BULK AT MOST 1048576: true; the input reads as it did. -/
def blocksNilUptoRow : OpenClaim := { program := "ytdgofhhpgmpgjaa", sum := "45557ad8299a8d05a94d858420c1f12d986281147b4135350916e10530627b2e", func := "imago/imagolaw03.BlocksNil", spec := "blocksNil", plainKeys := false, apart := false, narrowed := true }
def BlocksNilUptoSaid : Prop := blocksNilUptoRow.holds Try.pinned (OpenSpec.upto blocksNilSpec)

/-- 'imagolaw04.TlbSteps', WHERE WHAT IT READS IS OF BULK AT MOST 1048576: true; the input reads as it did. -/
def tlbStepsUptoRow : OpenClaim := { program := "ytdgofhhpgmpgjaa", sum := "45557ad8299a8d05a94d858420c1f12d986281147b4135350916e10530627b2e", func := "imago/imagolaw04.TlbSteps", spec := "tlbSteps", unfollowed := true, recurses := true, plainKeys := false, apart := false, narrowed := true }
def TlbStepsUptoSaid : Prop := tlbStepsUptoRow.holds Try.pinned (OpenSpec.upto tlbStepsSpec)

end Rows
end Go.Proofs.Ytdgofhhpgmpgjaa
