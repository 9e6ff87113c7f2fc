/- Binds: Root; no statement is proved in this text. -/
import Derived.Test.YtnknhencobhjdaaRd
namespace Go.Proofs.Ytnknhencobhjdaa
open Go.ChangeShapes Go.WideShapes Go.ChangeAt Go.RowKit Go.Deep Go.ChangeMaps Go.MapKept
open Go.Proofs.Ytnknhencobhjdaa.Cp (pq hid below_one hO cO zC looks_nil)
open Go.Proofs.Ytnknhencobhjdaa.Qt (zT badB)

set_option maxRecDepth 100000 in
set_option maxHeartbeats 800000 in
theorem root_ok {w : World} {base b : Nat} {x : Bx} {t : Qt.T} {s : Qt.St} {T : List Cp.Pl} {L : Ls} {R : Nat → List Hn} (h : Bd w base b x t s T L R) (k : Nat) (hk : k < 3) (kind : Int) (hkind : kind = (k : Int) + 1) (i : Nat) (p0 p1 : Int) (hi : (R k)[i]? = some (p0, p1)) : Calls Try.prog 15 #[pq b, i64 kind, i64 i] w fun e w' => e = .returned (.agg #[i64 p0, i64 p1]) ∧ Below w.heap.size w w' := by
  have HB0 : Hid (Below w.heap.size w (w.alloc (.cells #[i64 0, i64 0] 43))) := below_one w _
  have HQ0 : Hid ((w.alloc (.cells #[i64 0, i64 0] 43)).heap[w.heap.size]? = some (hO 0 0)) := heap_last w _
  have HD : Hid (Bd (w.alloc (.cells #[i64 0, i64 0] 43)) base b x t s T L R) := h.below (below_one w _)
  have hil : i < (R k).length := (List.getElem?_eq_some_iff.1 hi).1
  have hlen := h.len k hk
  have hilI : ¬ ((R k).length : Int) ≤ i := by omega
  have HKi := hid hkind
  clear h hkind
  go_enter Try.func15, Try.ntmps15
  go_wp2_with fail
  refine (rootsOf_ok HD.out k hk kind HKi.out).mono ?_
  rintro e w1 ⟨rfl, rfl⟩
  obtain ⟨c0, c1⟩ := rt_cells (HD.out.rt k hk).1 hi
  simp only at c0 c1
  have z0 : (w.alloc (.cells #[i64 0, i64 0] 43)).cell? ⟨w.heap.size, 0, none⟩ = some (i64 0) := blk_cell HQ0.out 0
  have z1 : (w.alloc (.cells #[i64 0, i64 0] 43)).cell? ⟨w.heap.size, 1, none⟩ = some (i64 0) := blk_cell HQ0.out 1
  have zf : ∀ j, (w.alloc (.cells #[i64 0, i64 0] 43)).frozen? ⟨w.heap.size, j, none⟩ = false := blk_frozen HQ0.out
  clear HD hi HKi hk
  obtain ⟨n, hn⟩ : ∃ n, (R k).length = n := ⟨_, rfl⟩
  obtain ⟨g, hg⟩ : ∃ g, x.g k = g := ⟨_, rfl⟩
  rw [hn] at hilI hil hlen ⊢
  rw [hg] at c0 c1 ⊢
  clear hn hg
  generalize w.alloc (.cells #[i64 0, i64 0] 43) = V at *
  have i0 : ¬ (i : Int) < 0 := by omega
  have hI : (i : Int) < n := by omega
  clear hilI
  go_wp2_with fail
  exact bodyPost_ret (results_one Try.results15 rfl (Cp.load42 (Cp.set2 HQ0.out _ _))) rfl ⟨rfl, Cp.bel2 HB0.out (Nat.le_refl _) _ _⟩
end Go.Proofs.Ytnknhencobhjdaa
