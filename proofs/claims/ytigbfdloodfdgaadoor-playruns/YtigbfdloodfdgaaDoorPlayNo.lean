/- play.Run, where it has an error; no statement is proved in this text. -/
import Derived.Test.YtigbfdloodfdgaaDoorPlayRunA
namespace Go.Proofs.YtigbfdloodfdgaaDoor
open Go.ChangeShapes Go.WideShapes Go.ChangeAt Go.RowKit

abbrev z33 : Array Value := #[i64 0, i64 0, Value.int .u16 0, Value.int .u16 0, Value.int .u16 0, Value.int .u16 0, Value.int .u16 0, Value.int .u16 0, Value.int .u16 0, Value.int .u16 0, Value.int .u16 0, .string ⟨#[]⟩, .slice none 0 0]
theorem load_z33 (w : World) : (loadVar 33 ⟨w.heap.size, 0, none⟩).run Tryd.prog (w.alloc Z33) = .ok (.agg z33) (w.alloc Z33) :=
  run_loadVar_mid _ _ 0 33 z33.toList _ (fun j v hv => by rw [Nat.zero_add, cell_of_row _ _ _ _ 33 (0, 0) (heap_at rfl _)]; simpa using hv) Tryd.underlying33 rfl infoR33
set_option maxRecDepth 100000 in
set_option maxHeartbeats 1600000 in
theorem run_long (w : World) (l m : List UInt8) (va : Value) (fuel : Int) (h : 256 < l.length ∨ 256 < m.length) :
    Calls Tryd.prog 9 #[.string ⟨l.toArray⟩, .string ⟨m.toArray⟩, va, i64 fuel] w fun e w' => e = .returned (.tuple #[.agg z33, i64 2]) ∧ Below w.heap.size w w' := by
  have HZ := hid (load_z33 w)
  have HB := hid (below_one w Z33)
  by_cases h1 : 256 < l.length
  · have h1I : (256 : Int) < l.length := by omega
    go_enter Tryd.func9, Tryd.ntmps9
    go_wp2_with fail
    exact bodyPost_ret (results_run rfl rfl HZ.out) rfl ⟨rfl, HB.out⟩
  · have h1I : (l.length : Int) ≤ 256 := by omega
    have h2I : (256 : Int) < m.length := by omega
    go_enter Tryd.func9, Tryd.ntmps9
    go_wp2_with fail
    exact bodyPost_ret (results_run rfl rfl HZ.out) rfl ⟨rfl, HB.out⟩
set_option maxRecDepth 100000 in
set_option maxHeartbeats 1600000 in
theorem run_arg (w : World) (l m : List UInt8) (va : Value) (fuel : Int) (hl : l.length ≤ 256) (hm : m.length ≤ 256) (h : fuel < 0 ∨ 5000 < fuel) :
    Calls Tryd.prog 9 #[.string ⟨l.toArray⟩, .string ⟨m.toArray⟩, va, i64 fuel] w fun e w' => e = .returned (.tuple #[.agg z33, i64 1]) ∧ Below w.heap.size w w' := by
  have HZ := hid (load_z33 w)
  have HB := hid (below_one w Z33)
  have h1I : (l.length : Int) ≤ 256 := by omega
  have h2I : (m.length : Int) ≤ 256 := by omega
  by_cases h1 : fuel < 0
  · go_enter Tryd.func9, Tryd.ntmps9
    go_wp2_with fail
    exact bodyPost_ret (results_run rfl rfl HZ.out) rfl ⟨rfl, HB.out⟩
  · have h3I : 0 ≤ fuel := by omega
    have h4I : 5000 < fuel := by omega
    go_enter Tryd.func9, Tryd.ntmps9
    go_wp2_with fail
    exact bodyPost_ret (results_run rfl rfl HZ.out) rfl ⟨rfl, HB.out⟩
end Go.Proofs.YtigbfdloodfdgaaDoor
