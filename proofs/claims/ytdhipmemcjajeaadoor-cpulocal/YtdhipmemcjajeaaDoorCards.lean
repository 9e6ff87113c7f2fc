/-
  DERIVED. GIVEN WITH THE SEED: THE CARDS: each row of YtdhipmemcjajeaaDoorRows.lean that lists a variable, with what it lists TIED to the program's text (the seventh form; the later family's looks); each row that meets fmt, with fmt's text TOLD by the authors' own Lean function (tested against real Go, not proved from fmt's source: count such statements apart). THE CARD IS WHAT COUNTS. Prove the row's statement (the work); the ties are given (YtdhipmemcjajeaaDoorTie.lean); close each card by the builder's one call (the guide's Derived/Test/ToyasCard.lean, 'card_holds'). Laid BY PROGRAM, IN A SANDBOX (cutbox-door.mjs). By AI agents, Wed Nov 11 2026. No macro, syntax, notation, axiom, sorry.
-/
import Derived.Test.YtdhipmemcjajeaaDoorRows
import GoSem.ClaimSeven
namespace Go.Proofs.YtdhipmemcjajeaaDoor
namespace Rows

/-- THE TIED CARD OF 'imagolaw07.CpuSteps'. -/
def cpuStepsCard : Claim7 := { stood := { row := cpuStepsRow, standIns := [], harness := (true, "ddc4f8497804e217cf52106d34a5336f7fad31ed836f92d3601a0be86acb64d5"), looks := false }, kinds := [], alts := [], laidByText := true, laidKinds := [.data], laidTests := true, laidLooks := .later }
def CpuStepsCardSaid : Prop := Claim7.holds Tryd.pinned (.plain (OpenSpec.ofChange cpuStepsSpec)) cpuStepsCard

/-- THE TIED CARD OF 'imagolaw07.CpuInsts'. -/
def cpuInstsCard : Claim7 := { stood := { row := cpuInstsRow, standIns := [], harness := (true, "ddc4f8497804e217cf52106d34a5336f7fad31ed836f92d3601a0be86acb64d5"), looks := false }, kinds := [], alts := [], laidByText := true, laidKinds := [.data], laidTests := true, laidLooks := .later }
def CpuInstsCardSaid : Prop := Claim7.holds Tryd.pinned (.plain (OpenSpec.ofChange cpuInstsSpec)) cpuInstsCard

/-- THE TIED CARD OF 'imagolaw07.CpuLoads'. -/
def cpuLoadsCard : Claim7 := { stood := { row := cpuLoadsRow, standIns := [], harness := (true, "ddc4f8497804e217cf52106d34a5336f7fad31ed836f92d3601a0be86acb64d5"), looks := false }, kinds := [], alts := [], laidByText := true, laidKinds := [.data], laidTests := true, laidLooks := .later }
def CpuLoadsCardSaid : Prop := Claim7.holds Tryd.pinned (.plain (OpenSpec.ofChange cpuLoadsSpec)) cpuLoadsCard

/-- THE TIED CARD OF 'imagolaw07.CpuOne'. -/
def cpuOneCard : Claim7 := { stood := { row := cpuOneRow, standIns := [], harness := (true, "ddc4f8497804e217cf52106d34a5336f7fad31ed836f92d3601a0be86acb64d5"), looks := false }, kinds := [], alts := [], laidByText := true, laidKinds := [.data], laidTests := true, laidLooks := .later }
def CpuOneCardSaid : Prop := Claim7.holds Tryd.pinned (.plain (OpenSpec.ofChange cpuOneSpec)) cpuOneCard

/-- THE TIED CARD OF 'imagolaw07.CpuLocal'. -/
def cpuLocalCard : Claim7 := { stood := { row := cpuLocalRow, standIns := [], harness := (true, "ddc4f8497804e217cf52106d34a5336f7fad31ed836f92d3601a0be86acb64d5"), looks := false }, kinds := [], alts := [], laidByText := true, laidKinds := [.data], laidTests := true, laidLooks := .later }
def CpuLocalCardSaid : Prop := Claim7.holds Tryd.pinned (.plain (OpenSpec.ofChange cpuLocalSpec)) cpuLocalCard

/-- THE SECOND FORM's CARD OF 'imagolaw07.CpuSteps'. -/
def cpuStepsUptoCard : Claim7 := { stood := { row := cpuStepsUptoRow, standIns := [], harness := (true, "ddc4f8497804e217cf52106d34a5336f7fad31ed836f92d3601a0be86acb64d5"), looks := false }, kinds := [], alts := [], laidByText := true, laidKinds := [.data], laidTests := true, laidLooks := .later }
def CpuStepsUptoCardSaid : Prop := Claim7.holds Tryd.pinned (.plain (OpenSpec.upto cpuStepsSpec)) cpuStepsUptoCard

/-- THE SECOND FORM's CARD OF 'imagolaw07.CpuInsts'. -/
def cpuInstsUptoCard : Claim7 := { stood := { row := cpuInstsUptoRow, standIns := [], harness := (true, "ddc4f8497804e217cf52106d34a5336f7fad31ed836f92d3601a0be86acb64d5"), looks := false }, kinds := [], alts := [], laidByText := true, laidKinds := [.data], laidTests := true, laidLooks := .later }
def CpuInstsUptoCardSaid : Prop := Claim7.holds Tryd.pinned (.plain (OpenSpec.upto cpuInstsSpec)) cpuInstsUptoCard

/-- THE SECOND FORM's CARD OF 'imagolaw07.CpuLoads'. -/
def cpuLoadsUptoCard : Claim7 := { stood := { row := cpuLoadsUptoRow, standIns := [], harness := (true, "ddc4f8497804e217cf52106d34a5336f7fad31ed836f92d3601a0be86acb64d5"), looks := false }, kinds := [], alts := [], laidByText := true, laidKinds := [.data], laidTests := true, laidLooks := .later }
def CpuLoadsUptoCardSaid : Prop := Claim7.holds Tryd.pinned (.plain (OpenSpec.upto cpuLoadsSpec)) cpuLoadsUptoCard

/-- THE SECOND FORM's CARD OF 'imagolaw07.CpuOne'. -/
def cpuOneUptoCard : Claim7 := { stood := { row := cpuOneUptoRow, standIns := [], harness := (true, "ddc4f8497804e217cf52106d34a5336f7fad31ed836f92d3601a0be86acb64d5"), looks := false }, kinds := [], alts := [], laidByText := true, laidKinds := [.data], laidTests := true, laidLooks := .later }
def CpuOneUptoCardSaid : Prop := Claim7.holds Tryd.pinned (.plain (OpenSpec.upto cpuOneSpec)) cpuOneUptoCard

/-- THE SECOND FORM's CARD OF 'imagolaw07.CpuLocal'. -/
def cpuLocalUptoCard : Claim7 := { stood := { row := cpuLocalUptoRow, standIns := [], harness := (true, "ddc4f8497804e217cf52106d34a5336f7fad31ed836f92d3601a0be86acb64d5"), looks := false }, kinds := [], alts := [], laidByText := true, laidKinds := [.data], laidTests := true, laidLooks := .later }
def CpuLocalUptoCardSaid : Prop := Claim7.holds Tryd.pinned (.plain (OpenSpec.upto cpuLocalSpec)) cpuLocalUptoCard
end Rows
end Go.Proofs.YtdhipmemcjajeaaDoor
