/- Read of the texts of AsmJumps from 0 to 54 stops, reckoned; no statement is proved in this text. -/
import Derived.Test.YtobkehlkopkaeaaDoorJumpP
namespace Go.Proofs.YtobkehlkopkaeaaDoor
set_option maxRecDepth 100000
theorem jA0 : ((List.range 10).all fun i => jAll (0 + i)) = true := by decide +kernel
theorem jA1 : ((List.range 10).all fun i => jAll (10 + i)) = true := by decide +kernel
theorem jA2 : ((List.range 10).all fun i => jAll (20 + i)) = true := by decide +kernel
theorem jA3 : ((List.range 10).all fun i => jAll (30 + i)) = true := by decide +kernel
theorem jA4 : ((List.range 10).all fun i => jAll (40 + i)) = true := by decide +kernel
theorem jA5 : ((List.range 5).all fun i => jAll (50 + i)) = true := by decide +kernel
end Go.Proofs.YtobkehlkopkaeaaDoor
