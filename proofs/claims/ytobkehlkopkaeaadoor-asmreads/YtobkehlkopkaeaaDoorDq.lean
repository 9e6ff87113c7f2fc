/- AsmReads' walk; no statement is proved in this text. -/
import Derived.Test.YtobkehlkopkaeaaDoorDp
import Derived.Test.YtobkehlkopkaeaaDoorDl
import Derived.Test.YtobkehlkopkaeaaDoorReadWalk2
import Derived.Test.YtobkehlkopkaeaaDoorLoop2
namespace Go.Proofs.YtobkehlkopkaeaaDoor
open Go.ChangeShapes Go.WideShapes Go.ChangeAt Go.RowKit
set_option maxRecDepth 100000

set_option maxHeartbeats 1600000 in
theorem reads_any (w : World) (he : Env w) (s : ByteArray) : Calls Tryd.prog 3 #[.string s] w fun e w' => e = .returned (.bool true) ∧ Below w.heap.size w w' := by
  have HE := hid he
  have HL : Hid (∀ W, Below w.heap.size w W → Calls Tryd.prog 8 #[] W fun e w' => e = .returned (.bool true) ∧ Below W.heap.size W w') := fun W hb => loop_ok W (he.below hb)
  by_cases hs : 2500 < s.size
  · have hi : (2500 : Int) < (s.size : Int) := by omega
    clear he HE
    go_enter Tryd.func3, Tryd.ntmps3
    go_wp2_with fail
    refine (HL.out _ (Below.refl _ _)).mono ?_
    rintro e w1 ⟨rfl, hb1⟩
    have HB1 := hid hb1
    clear hb1
    go_wp2_with fail
    go_ret
    exact ⟨rfl, HB1.out⟩
  · have hi : ¬ (2500 : Int) < (s.size : Int) := by omega
    have HA : Hid (Calls Tryd.prog 9 #[.string s] w fun e w' => e = .returned (.tuple #[str (readR s.data.toList).1, i64 ((readR s.data.toList).2 : Nat)]) ∧ Below w.heap.size w w') := read_any w he s.data.toList (by rw [Array.length_toList]; show s.size ≤ _; omega)
    have HD : Hid (∀ W, Calls Tryd.prog 10 #[.string s] W fun e w' => e = .returned (.tuple #[str (readR s.data.toList).1, i64 ((readR s.data.toList).2 : Nat)]) ∧ Below W.heap.size W w') := fun W => by
      have := rread_ok s W (by omega)
      rw [read_same] at this
      exact this
    generalize readR s.data.toList = RR at *
    obtain ⟨o, n⟩ := RR
    clear he HE hs
    go_enter Tryd.func3, Tryd.ntmps3
    go_wp2_with fail
    refine HA.out.mono ?_
    rintro e w1 ⟨rfl, hb1⟩
    have HB1 := hid hb1
    clear hb1 HA
    go_wp2_with fail
    refine (HD.out _).mono ?_
    rintro e w2 ⟨rfl, hb2⟩
    have HB2 : Hid (Below w.heap.size w w2) := HB1.out.trans (hb2.mono HB1.out.size)
    clear hb2 HD
    go_wp2_with fail
    refine (HL.out _ HB2.out).mono ?_
    rintro e w3 ⟨rfl, hb3⟩
    have HB3 : Hid (Below w.heap.size w w3) := HB2.out.trans (hb3.mono HB2.out.size)
    clear hb3
    go_wp2_with fail
    go_ret
    exact ⟨rfl, HB3.out⟩
end Go.Proofs.YtobkehlkopkaeaaDoor
