/- No statement here. -/
import Derived.Test.YtnknhencobhjdaaMDs
import Derived.Test.YtnknhencobhjdaaMEr2
import Derived.Test.YtnknhencobhjdaaMNw
set_option maxRecDepth 100000
namespace Go.Proofs.Ytnknhencobhjdaa
open Go.ChangeShapes Go.WideShapes Go.ChangeAt Go.RowKit Go.Deep
open Go.Proofs.Ytnknhencobhjdaa.Cp (pq hid bl1)
attribute [local go_sem ↓] Go.wp_at_zero Go.wp_at_succ
abbrev nwW (w : World) (t : Qt.T) : World := (((w.alloc (.cells #[i64 t.a, i64 t.b, i64 t.c] 22)).alloc (.cells #[.slice none 0 0] 99)).alloc (.cells #[i64 t.a, i64 t.b, i64 t.c, .slice none 0 0] 126)).alloc (ddO (w.heap.size + 1) (w.heap.size + 2) (.slice none 0 0) (.slice none 0 0))
theorem nw_facts (w : World) (t : Qt.T) : Below w.heap.size w (nwW w t) ∧ (nwW w t).heap[w.heap.size + 1]? = some (.cells #[.slice none 0 0] 99) ∧ (nwW w t).heap[w.heap.size + 2]? = some (.cells #[i64 t.a, i64 t.b, i64 t.c, .slice none 0 0] 126) ∧ (nwW w t).heap[w.heap.size + 3]? = some (ddO (w.heap.size + 1) (w.heap.size + 2) (.slice none 0 0) (.slice none 0 0)) := by
  have s1 : (w.alloc (.cells #[i64 t.a, i64 t.b, i64 t.c] 22)).heap.size = w.heap.size + 1 := by simp
  have s2 : ((w.alloc (.cells #[i64 t.a, i64 t.b, i64 t.c] 22)).alloc (.cells #[.slice none 0 0] 99)).heap.size = w.heap.size + 2 := by simp
  have s3 : (((w.alloc (.cells #[i64 t.a, i64 t.b, i64 t.c] 22)).alloc (.cells #[.slice none 0 0] 99)).alloc (.cells #[i64 t.a, i64 t.b, i64 t.c, .slice none 0 0] 126)).heap.size = w.heap.size + 3 := by simp
  refine ⟨(bl1 w _).trans (((bl1 _ _).trans (((bl1 _ _).trans ((bl1 _ _).mono (by simp))).mono (by simp))).mono (by simp)), bka (bka ?_ _) _, bka ?_ _, ?_⟩
  · have := hlx (w.alloc (.cells #[i64 t.a, i64 t.b, i64 t.c] 22)) (.cells #[.slice none 0 0] 99)
    rwa [s1] at this
  · have := hlx ((w.alloc (.cells #[i64 t.a, i64 t.b, i64 t.c] 22)).alloc (.cells #[.slice none 0 0] 99)) (.cells #[i64 t.a, i64 t.b, i64 t.c, .slice none 0 0] 126)
    rwa [s2] at this
  · have := hlx (((w.alloc (.cells #[i64 t.a, i64 t.b, i64 t.c] 22)).alloc (.cells #[.slice none 0 0] 99)).alloc (.cells #[i64 t.a, i64 t.b, i64 t.c, .slice none 0 0] 126)) (ddO (w.heap.size + 1) (w.heap.size + 2) (.slice none 0 0) (.slice none 0 0))
    rwa [s3] at this
theorem nw_dd {w : World} {t : Qt.T} (hw : Qt.Wf t (fun _ => none)) : Dd (nwW w t) w.heap.size (w.heap.size + 3) ⟨w.heap.size + 1, w.heap.size + 2, none⟩ t (fun _ => none) [] [] [] := by
  obtain ⟨_, h1, h2, h3⟩ := nw_facts w t
  exact ⟨by omega, ⟨_, 0, h3, ⟨rfl, Or.inl ⟨rfl, rfl⟩⟩, ⟨rfl, Or.inl ⟨rfl, rfl⟩⟩⟩, ⟨by show w.heap.size ≤ w.heap.size + 1; omega, _, h1, ⟨rfl, Or.inl ⟨rfl, rfl⟩⟩⟩, ⟨[], Qt.rel_nil, ⟨by show w.heap.size ≤ w.heap.size + 2; omega, _, h2, ⟨rfl, Or.inl ⟨rfl, rfl⟩⟩⟩⟩, hw⟩
theorem rnew_ok (w : World) (t : Qt.T) (hw : Qt.Wf t (fun _ => none)) : Calls Try.prog 30 #[t.v] w fun e w' => e = .returned (pq (w.heap.size + 3)) ∧ Dd w' w.heap.size (w.heap.size + 3) ⟨w.heap.size + 1, w.heap.size + 2, none⟩ t (fun _ => none) [] [] [] ∧ Below w.heap.size w w' := by
  have HD := hid (nw_dd (w := w) hw)
  have HB := hid (nw_facts w t).1
  clear hw
  unfold Qt.T.v
  go_enter Try.func30, Try.ntmps30
  go_wp2_with fail
  go_ret
  exact ⟨rfl, HD.out, HB.out⟩
def rgB (t : Qt.T) : Bool := !Qt.outB 0 64 t.l
theorem rgB_eq (t : Qt.T) : rgB t = decide (0 ≤ t.a ∧ t.a < 65 ∧ 0 ≤ t.b ∧ t.b < 65 ∧ 0 ≤ t.c ∧ t.c < 65) := by
  unfold rgB Qt.outB
  rw [Bool.eq_iff_iff]
  simp [Qt.T.l]
  omega
set_option maxHeartbeats 1000000 in
theorem right_ok (w : World) (t : Qt.T) : Calls Try.prog 8 #[t.v] w fun e w' => e = .returned (.bool (rgB t)) ∧ Below w.heap.size w w' := by
  have HR := hid (rgB_eq t)
  have HB := hid (bl1 w (.cells #[i64 t.a, i64 t.b, i64 t.c] 22))
  obtain ⟨ta, tb, tc⟩ := t
  simp only at HR HB
  unfold Qt.T.v
  have fin : ∀ b : Bool, (decide (0 ≤ ta ∧ ta < 65 ∧ 0 ≤ tb ∧ tb < 65 ∧ 0 ≤ tc ∧ tc < 65)) = b → Hid (rgB ⟨ta, tb, tc⟩ = b) := fun b h => by rw [HR.out]; exact hid h
  by_cases h1 : 0 ≤ ta
  · by_cases h2 : ta < 65
    · by_cases h3 : 0 ≤ tb
      · by_cases h4 : tb < 65
        · by_cases h5 : 0 ≤ tc
          · by_cases h6 : tc < 65
            · have HE := fin true (by simp; omega)
              clear fin
              go_enter Try.func8, Try.ntmps8
              go_wp2_with fail
              go_ret
              exact ⟨by rw [HE.out]; simp [*], HB.out⟩
            · have HE := fin false (by simp; omega)
              clear fin
              go_enter Try.func8, Try.ntmps8
              go_wp2_with fail
              go_ret
              exact ⟨by rw [HE.out]; simp [*], HB.out⟩
          · have HE := fin false (by simp; omega)
            clear fin
            go_enter Try.func8, Try.ntmps8
            go_wp2_with fail
            go_ret
            exact ⟨by rw [HE.out]; simp [*], HB.out⟩
        · have HE := fin false (by simp; omega)
          clear fin
          go_enter Try.func8, Try.ntmps8
          go_wp2_with fail
          go_ret
          exact ⟨by rw [HE.out]; simp [*], HB.out⟩
      · have HE := fin false (by simp; omega)
        clear fin
        go_enter Try.func8, Try.ntmps8
        go_wp2_with fail
        go_ret
        exact ⟨by rw [HE.out]; simp [*], HB.out⟩
    · have HE := fin false (by simp; omega)
      clear fin
      go_enter Try.func8, Try.ntmps8
      go_wp2_with fail
      go_ret
      exact ⟨by rw [HE.out]; simp [*], HB.out⟩
  · have HE := fin false (by simp; omega)
    clear fin
    go_enter Try.func8, Try.ntmps8
    go_wp2_with fail
    go_ret
    exact ⟨by rw [HE.out]; simp [*], HB.out⟩
theorem load81 {W : World} {b : Nat} {s g : Int} (h : W.heap[b]? = some (.cells #[i64 s, i64 g] 81)) : (loadVar 81 ⟨b, 0, none⟩).run Try.prog W = .ok (.agg #[i64 s, i64 g]) W := by
  have h0 := bkc h 0
  have h1 := bkc h 1
  simp [go_sem, h0, h1]
theorem ref_ok (w : World) (s g : Int) : Calls Try.prog 36 #[.agg #[i64 s, i64 g]] w fun e w' => e = .returned (.agg #[i64 s, i64 g]) ∧ Below w.heap.size w w' := by
  have HL : Hid (((w.alloc (.cells #[i64 s, i64 g] 43)).alloc (.cells #[i64 s, i64 g] 81)).heap[w.heap.size + 1]? = some (.cells #[i64 s, i64 g] 81)) := by
    have := hlx (w.alloc (.cells #[i64 s, i64 g] 43)) (.cells #[i64 s, i64 g] 81)
    rwa [show (w.alloc (.cells #[i64 s, i64 g] 43)).heap.size = w.heap.size + 1 by simp] at this
  go_enter Try.func36, Try.ntmps36
  go_wp2_with fail
  exact bodyPost_ret (Cp.results_one Try.results36 rfl (load81 HL.out)) rfl ⟨rfl, (bl1 w _).trans ((bl1 _ _).mono (by simp))⟩
end Go.Proofs.Ytnknhencobhjdaa
