/- Read of the texts of AsmJumps from 55 to 104 stops, reckoned; no statement is proved in this text. -/
import Derived.Test.YtobkehlkopkaeaaDoorJumpP
namespace Go.Proofs.YtobkehlkopkaeaaDoor
set_option maxRecDepth 100000
theorem jB0 : ((List.range 10).all fun i => jAll (55 + i)) = true := by decide +kernel
theorem jB1 : ((List.range 10).all fun i => jAll (65 + i)) = true := by decide +kernel
theorem jB2 : ((List.range 10).all fun i => jAll (75 + i)) = true := by decide +kernel
theorem jB3 : ((List.range 10).all fun i => jAll (85 + i)) = true := by decide +kernel
theorem jB4 : ((List.range 10).all fun i => jAll (95 + i)) = true := by decide +kernel
end Go.Proofs.YtobkehlkopkaeaaDoor
