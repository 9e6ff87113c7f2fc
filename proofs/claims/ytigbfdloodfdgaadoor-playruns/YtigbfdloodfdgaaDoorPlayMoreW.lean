/- PlayMore's walk; no statement is proved in this text. -/
import Derived.Test.YtigbfdloodfdgaaDoorPlayCall
import Derived.Test.YtigbfdloodfdgaaDoorPlayMoreP
namespace Go.Proofs.YtigbfdloodfdgaaDoor
open Go.ChangeShapes Go.WideShapes Go.ChangeAt Go.RowKit

theorem ASl.at {w v : World} {va : Value} {A : List Int} (h : ASl w w.heap.size w.heap.size va A) (hb : Below w.heap.size w v) : ASl v v.heap.size (v.heap.size + 1) va A := by
  obtain ⟨ao, cap, e1, e2, e3, e4⟩ := h.ex
  refine ⟨ao, cap, e1, e2, e3, ?_⟩
  have hs := hb.size
  rcases e4 with e4 | ⟨b, off, h1, h2, h3, h4⟩
  · exact Or.inl e4
  · exact Or.inr ⟨b, off, h1, by omega, by omega, fun j x hx => (hb.cell (p := ⟨b, off + j, none⟩) h2).trans (h4 j x hx)⟩
abbrev jobO (l m : List UInt8) (ao : Option Addr) (n cap : Nat) : Obj := .cells #[.string ⟨l.toArray⟩, .string ⟨m.toArray⟩, .slice ao n cap] 24
theorem job_cells {w v : World} {l m : List UInt8} {ao : Option Addr} {n cap b : Nat} (hb : b = w.heap.size) (h : Below (b + 1) (w.alloc (jobO l m ao n cap)) v) : v.cell? ⟨b, 0, none⟩ = some (.string ⟨l.toArray⟩) ∧ v.cell? ⟨b, 1, none⟩ = some (.string ⟨m.toArray⟩) ∧ v.cell? ⟨b, 2, none⟩ = some (.slice ao n cap) := by
  have hr := (h.block b (by omega)).trans (heap_at hb.symm (jobO l m ao n cap))
  exact ⟨(cell_of_row _ _ _ _ 24 (0, 0) hr).trans rfl, (cell_of_row _ _ _ _ 24 (0, 0) hr).trans rfl, (cell_of_row _ _ _ _ 24 (0, 0) hr).trans rfl⟩
theorem long_b (w : World) (l m : List UInt8) (ao : Option Addr) (n cap : Nat) (b : Bool) (h : decide (600 < l.length ∨ 600 < m.length ∨ 100 < n) = b) : Calls Tryd.prog 7 #[jobV l m ao n cap] w fun e w' => e = .returned (.bool b) ∧ Below w.heap.size w w' := by
  subst h
  exact long_ok w l m ao n cap
set_option maxRecDepth 100000 in
set_option maxHeartbeats 800000 in
theorem more_out (w : World) (ht : Tab w) (l m : List UInt8) (ao : Option Addr) (n cap : Nat) (fuel more : Int) (lb : Bool) (hlb : decide (600 < l.length ∨ 600 < m.length ∨ 100 < n) = lb) (h : lb = true ∨ fuel < 0 ∨ 300 < fuel ∨ more < 0 ∨ 300 < more) :
    Calls Tryd.prog 5 #[jobV l m ao n cap, i64 fuel, i64 more] w fun e w' => e = .returned (.bool true) ∧ Below w.heap.size w w' := by
  have HTB := hid ht
  have HL := hid (fun v => long_b v l m ao n cap lb hlb)
  have HB0 := hid (below_one w (jobO l m ao n cap))
  have HC := hid (fun v (hv : Tab v) => call8_ok v hv)
  clear ht hlb
  cases lb with
  | true =>
    go_enter Tryd.func5, Tryd.ntmps5
    go_wp2_with (first
      | (go_at_call 7; refine (HL.out _).mono ?_; rintro e v1 ⟨rfl, h1⟩; have HB1 : Hid (Below w.heap.size w v1) := HB0.out.trans (h1.mono (by rw [World.size_alloc]; omega)); clear h1)
      | (go_at_call 8; refine (HC.out _ (HTB.out.below HB1.out)).mono ?_; rintro e v2 ⟨rfl, h2⟩; have HB2 : Hid (Below w.heap.size w v2) := HB1.out.trans (h2.mono HB1.out.size); clear h2))
    go_ret
    exact ⟨rfl, HB2.out⟩
  | false =>
    have h' : fuel < 0 ∨ 300 < fuel ∨ more < 0 ∨ 300 < more := by simpa using h
    clear h
    by_cases c1 : fuel < 0
    · clear h'
      go_enter Tryd.func5, Tryd.ntmps5
      go_wp2_with (first
        | (go_at_call 7; refine (HL.out _).mono ?_; rintro e v1 ⟨rfl, h1⟩; have HB1 : Hid (Below w.heap.size w v1) := HB0.out.trans (h1.mono (by rw [World.size_alloc]; omega)); clear h1)
        | (go_at_call 8; refine (HC.out _ (HTB.out.below HB1.out)).mono ?_; rintro e v2 ⟨rfl, h2⟩; have HB2 : Hid (Below w.heap.size w v2) := HB1.out.trans (h2.mono HB1.out.size); clear h2))
      go_ret
      exact ⟨rfl, HB2.out⟩
    · have c1' : 0 ≤ fuel := by omega
      by_cases c2 : 300 < fuel
      · clear h' c1
        go_enter Tryd.func5, Tryd.ntmps5
        go_wp2_with (first
          | (go_at_call 7; refine (HL.out _).mono ?_; rintro e v1 ⟨rfl, h1⟩; have HB1 : Hid (Below w.heap.size w v1) := HB0.out.trans (h1.mono (by rw [World.size_alloc]; omega)); clear h1)
          | (go_at_call 8; refine (HC.out _ (HTB.out.below HB1.out)).mono ?_; rintro e v2 ⟨rfl, h2⟩; have HB2 : Hid (Below w.heap.size w v2) := HB1.out.trans (h2.mono HB1.out.size); clear h2))
        go_ret
        exact ⟨rfl, HB2.out⟩
      · have c2' : fuel ≤ 300 := by omega
        by_cases c3 : more < 0
        · clear h' c1 c2
          go_enter Tryd.func5, Tryd.ntmps5
          go_wp2_with (first
            | (go_at_call 7; refine (HL.out _).mono ?_; rintro e v1 ⟨rfl, h1⟩; have HB1 : Hid (Below w.heap.size w v1) := HB0.out.trans (h1.mono (by rw [World.size_alloc]; omega)); clear h1)
            | (go_at_call 8; refine (HC.out _ (HTB.out.below HB1.out)).mono ?_; rintro e v2 ⟨rfl, h2⟩; have HB2 : Hid (Below w.heap.size w v2) := HB1.out.trans (h2.mono HB1.out.size); clear h2))
          go_ret
          exact ⟨rfl, HB2.out⟩
        · have c3' : 0 ≤ more := by omega
          have c4 : 300 < more := by omega
          clear h' c1 c2 c3
          go_enter Tryd.func5, Tryd.ntmps5
          go_wp2_with (first
            | (go_at_call 7; refine (HL.out _).mono ?_; rintro e v1 ⟨rfl, h1⟩; have HB1 : Hid (Below w.heap.size w v1) := HB0.out.trans (h1.mono (by rw [World.size_alloc]; omega)); clear h1)
            | (go_at_call 8; refine (HC.out _ (HTB.out.below HB1.out)).mono ?_; rintro e v2 ⟨rfl, h2⟩; have HB2 : Hid (Below w.heap.size w v2) := HB1.out.trans (h2.mono HB1.out.size); clear h2))
          go_ret
          exact ⟨rfl, HB2.out⟩
end Go.Proofs.YtigbfdloodfdgaaDoor
