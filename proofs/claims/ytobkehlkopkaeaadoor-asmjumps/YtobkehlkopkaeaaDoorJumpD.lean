/- Read of the texts of AsmJumps from 155 to 200 stops, reckoned; no statement is proved in this text. -/
import Derived.Test.YtobkehlkopkaeaaDoorJumpP
namespace Go.Proofs.YtobkehlkopkaeaaDoor
set_option maxRecDepth 100000
theorem jD0 : ((List.range 10).all fun i => jAll (155 + i)) = true := by decide +kernel
theorem jD1 : ((List.range 10).all fun i => jAll (165 + i)) = true := by decide +kernel
theorem jD2 : ((List.range 10).all fun i => jAll (175 + i)) = true := by decide +kernel
theorem jD3 : ((List.range 10).all fun i => jAll (185 + i)) = true := by decide +kernel
theorem jD4 : ((List.range 6).all fun i => jAll (195 + i)) = true := by decide +kernel
end Go.Proofs.YtobkehlkopkaeaaDoor
