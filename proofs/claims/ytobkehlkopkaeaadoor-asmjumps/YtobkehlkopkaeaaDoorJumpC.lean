/- Read of the texts of AsmJumps from 105 to 154 stops, reckoned; no statement is proved in this text. -/
import Derived.Test.YtobkehlkopkaeaaDoorJumpP
namespace Go.Proofs.YtobkehlkopkaeaaDoor
set_option maxRecDepth 100000
theorem jC0 : ((List.range 10).all fun i => jAll (105 + i)) = true := by decide +kernel
theorem jC1 : ((List.range 10).all fun i => jAll (115 + i)) = true := by decide +kernel
theorem jC2 : ((List.range 10).all fun i => jAll (125 + i)) = true := by decide +kernel
theorem jC3 : ((List.range 10).all fun i => jAll (135 + i)) = true := by decide +kernel
theorem jC4 : ((List.range 10).all fun i => jAll (145 + i)) = true := by decide +kernel
end Go.Proofs.YtobkehlkopkaeaaDoor
