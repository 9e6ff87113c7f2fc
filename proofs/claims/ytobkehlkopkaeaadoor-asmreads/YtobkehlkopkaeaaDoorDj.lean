/- The document's Word; no statement is proved in this text. -/
import Derived.Test.YtobkehlkopkaeaaDoorDi
namespace Go.Proofs.YtobkehlkopkaeaaDoor
open Go.ChangeShapes Go.WideShapes Go.ChangeAt Go.RowKit
set_option maxRecDepth 100000

theorem wrap16 {x : Int} (h0 : 0 ≤ x) (h1 : x < 65536) : IntKind.u16.wrap x = x := by
  simp [IntKind.wrap, IntKind.bits, IntKind.signed]
  omega
theorem rem_word (x : Int) : (x.tmod 65536 < 0 ∧ x.tmod 65536 + 65536 = x % 65536) ∨ (¬ x.tmod 65536 < 0 ∧ x.tmod 65536 = x % 65536) := by
  have h := Int.tmod_eq_emod (a := x) (b := 65536)
  have h1 := Int.emod_nonneg x (b := 65536) (by omega)
  have h2 := Int.emod_lt_of_pos x (b := 65536) (by omega)
  rw [h]
  split
  · right; omega
  · left
    rename_i hq
    have : x % 65536 ≠ 0 := fun e => hq (Or.inr (Int.dvd_of_emod_eq_zero e))
    simp only [Int.natAbs] at *
    omega
set_option maxHeartbeats 1600000 in
theorem rword_ok (x : Int) (w : World) : Calls Tryd.prog 29 #[i64 x] w fun e w' => e = .returned (.int .u16 (x % 65536)) ∧ w' = w := by
  have hr := rem_word x
  have h2 := Int.emod_nonneg x (b := 65536) (by omega)
  have h3 := Int.emod_lt_of_pos x (b := 65536) (by omega)
  have hw := wrap16 h2 h3
  rcases hr with ⟨hr1, hr2⟩ | ⟨hr1, hr2⟩
  · go_enter Tryd.func29, Tryd.ntmps29
    go_wp2_with fail
    go_ret
    exact ⟨rfl, rfl⟩
  · go_enter Tryd.func29, Tryd.ntmps29
    go_wp2_with fail
    go_ret
    exact ⟨rfl, rfl⟩
end Go.Proofs.YtobkehlkopkaeaaDoor
