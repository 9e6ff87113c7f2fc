/- PlayMore's walk, where Run has an error; no statement is proved in this text. -/
import Derived.Test.YtigbfdloodfdgaaDoorPlayMoreW
namespace Go.Proofs.YtigbfdloodfdgaaDoor
open Go.ChangeShapes Go.WideShapes Go.ChangeAt Go.RowKit

theorem jb {w v v' : World} {o : Obj} {b : Nat} (hb : w.heap.size = b) (h : Below (b + 1) (w.alloc o) v) (h' : Below v.heap.size v v') : Below (b + 1) (w.alloc o) v' :=
  h.trans (h'.mono (by have := h.size; rw [World.size_alloc, hb] at this; exact this))
theorem jw {w v : World} {o : Obj} {b : Nat} (hb : w.heap.size = b) (h : Below (b + 1) (w.alloc o) v) : Below w.heap.size w v :=
  (below_one w o).trans (h.mono (by omega))
set_option maxRecDepth 100000 in
set_option maxHeartbeats 800000 in
theorem more_long (w : World) (ht : Tab w) (l m : List UInt8) (ao : Option Addr) (n cap : Nat) (fuel more : Int) (hlb : decide (600 < l.length ∨ 600 < m.length ∨ 100 < n) = false) (f0 : 0 ≤ fuel) (f1 : fuel ≤ 300) (m0 : 0 ≤ more) (m1 : more ≤ 300) (h : 256 < l.length ∨ 256 < m.length) :
    Calls Tryd.prog 5 #[jobV l m ao n cap, i64 fuel, i64 more] w fun e w' => e = .returned (.bool true) ∧ Below w.heap.size w w' := by
  have HTB := hid ht
  have HL := hid (fun v => long_b v l m ao n cap false hlb)
  have HB0 := hid (below_one w (jobO l m ao n cap))
  have HC := hid (fun v (hv : Tab v) => call8_ok v hv)
  have HR := hid (fun v f => run_long v l m (.slice ao n cap) f h)
  clear ht hlb h
  obtain ⟨b, hb⟩ : ∃ b, w.heap.size = b := ⟨_, rfl⟩
  have HJ := hid (fun v h => job_cells (w := w) (v := v) (l := l) (m := m) (ao := ao) (n := n) (cap := cap) hb.symm h)
  go_enter Tryd.func5, Tryd.ntmps5
  go_upto_region 3 with (first
      | (go_at_call 7; refine (HL.out _).mono ?_; rintro e v1 ⟨rfl, h1⟩; rw [World.size_alloc, hb] at h1; have HBa := hid h1; clear h1))
  obtain ⟨j0, j1, j2⟩ := HJ.out _ HBa.out
  go_upto_region 4 with (go_at_call 9; refine (HR.out _ _).mono ?_; rintro e v2 ⟨rfl, h1⟩; have HB2 := hid h1; clear h1)
  have HB3 := hid (jb hb (jb hb HBa.out HB2.out) (below_one v2 Z33))
  obtain ⟨i0, i1, i2⟩ := HJ.out _ HB3.out
  clear j0 j1 j2 HB2 HBa
  generalize v2.alloc Z33 = v3 at *
  go_upto_region 5 with (go_at_call 9; refine (HR.out _ _).mono ?_; rintro e v4 ⟨rfl, h1⟩; have HB4 := hid h1; clear h1)
  have HB5 := hid (jw hb (jb hb (jb hb HB3.out HB4.out) (below_one v4 Z33)))
  clear i0 i1 i2 HB4 HB3
  generalize v4.alloc Z33 = v5 at *
  go_wp2_with (go_at_call 8; refine (HC.out _ (HTB.out.below HB5.out)).mono ?_; rintro e v6 ⟨rfl, h2⟩; have HB6 : Hid (Below w.heap.size w v6) := HB5.out.trans (h2.mono HB5.out.size); clear h2)
  go_ret
  exact ⟨rfl, by rw [← hb] at *; exact HB6.out⟩
end Go.Proofs.YtigbfdloodfdgaaDoor
