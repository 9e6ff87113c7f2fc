/- caps.New, put: contracts; no statement is proved in this text. -/
import Derived.Test.YtnknhencobhjdaaCpLook
import Derived.Test.YtnknhencobhjdaaOrd
namespace Go.Proofs.Ytnknhencobhjdaa.Cp
open Go.ChangeShapes Go.WideShapes Go.ChangeAt Go.RowKit Go.Deep
attribute [local go_sem ↓] Go.wp_at_zero Go.wp_at_succ

def z128 : List Pl := List.replicate 128 ⟨zC, 0, 0⟩
theorem zero72 (w : World) : (zeroValue 123).run Try.prog w = .ok (.agg (tbC z128).toArray) w := by kernel_rfl
set_option maxRecDepth 100000 in
set_option maxHeartbeats 1600000 in
theorem new_ok (w : World) : Calls Try.prog 29 #[] w fun e w' => e = .returned (.pointer (some ⟨w.heap.size, 0, none⟩)) ∧ w' = w.alloc (.cells (tbC z128).toArray 123) := by
  have hz := zero72 w
  have hs : (tbC z128).toArray.size = 768 := by rw [List.size_toArray, tbC_len, z128, List.length_replicate]
  generalize (tbC z128).toArray = Z0 at *
  go_enter Try.func29, Try.ntmps29
  go_wp2_with fail
  go_ret
  exact ⟨rfl, rfl⟩
theorem Tb.new (w : World) : Tb (w.alloc (.cells (tbC z128).toArray 123)) w.heap.size w.heap.size z128 := ⟨Nat.le_refl _, by simp [z128], heap_last w _⟩

theorem heap_mid {t : TypeId} {b : Nat} (post : List Value) : ∀ (vs mid pre : List Value) (w : World), mid.length = vs.length → w.heap[b]? = some (.cells (pre ++ (mid ++ post)).toArray t (0, 0)) → (w.setCells b pre.length vs).heap[b]? = some (.cells (pre ++ (vs ++ post)).toArray t (0, 0))
  | [], mid, pre, w, hl, h => by
    obtain rfl : mid = [] := List.eq_nil_of_length_eq_zero hl
    exact h
  | v :: vs, [], _, _, hl, _ => by simp at hl
  | v :: vs, m :: mid, pre, w, hl, h => by
    rw [World.setCells]
    have h2 : (w.setCell ⟨b, pre.length, none⟩ v).heap[b]? = some (.cells ((pre ++ [v]) ++ (mid ++ post)).toArray t (0, 0)) := by
      simp only [World.setCell, Array.getElem?_modify, h, if_true, Option.map_some]
      congr 2
      simp
    have := heap_mid post vs mid (pre ++ [v]) (w.setCell ⟨b, pre.length, none⟩ v) (by simpa using hl) h2
    rw [List.length_append, List.length_singleton] at this
    rw [this]
    simp
/-- The six cells of a place, set. -/
theorem Tb.set {w : World} {base b : Nat} {T : List Pl} (h : Tb w base b T) {i : Nat} (hi : i < 128) (p : Pl) : Tb (w.setCells b (i * 6) (plC p)) base b (T.set i p) := by
  refine ⟨h.lo, by rw [List.length_set]; exact h.len, ?_⟩
  have hl := h.len
  have e : tbC T = (tbC T).take (6 * i) ++ (((tbC T).drop (6 * i)).take 6 ++ (tbC T).drop (6 * i + 6)) := by
    rw [show (tbC T).drop (6 * i + 6) = ((tbC T).drop (6 * i)).drop 6 by rw [List.drop_drop], List.take_append_drop, List.take_append_drop]
  have h2 := h.row
  rw [e] at h2
  have hlen : ((tbC T).take (6 * i)).length = i * 6 := by rw [List.length_take, tbC_len]; omega
  have := heap_mid ((tbC T).drop (6 * i + 6)) (plC p) (((tbC T).drop (6 * i)).take 6) ((tbC T).take (6 * i)) w (by rw [List.length_take, List.length_drop, tbC_len]; simp [plC]; omega) h2
  rw [hlen] at this
  rw [this, tbC_set T i p (by omega), List.append_assoc]
theorem Tb.there {w : World} {base b : Nat} {T : List Pl} (h : Tb w base b T) {i : Nat} (hi : i < 128) : w.there b (i * 6) 6 := fun j hj => by
  have hl := h.len
  obtain ⟨p, hp⟩ : ∃ p, T[i]? = some p := ⟨_, List.getElem?_eq_getElem (by omega)⟩
  refine ⟨?_, blk_frozen h.row _⟩
  rw [h.cell hp j hj, List.getElem?_eq_getElem (by simpa [plC] using hj)]
  rfl
theorem Tb.fr {w w' : World} {base b : Nat} {T : List Pl} {bs : Nat} {ts : List TypeId} (h : Tb w base b T) (hb : Fr bs ts w w') (h1 : ts.contains 123 = false) : Tb w' base b T :=
  ⟨h.lo, h.len, hb.kept _ _ h.row (by simp only [keeps, h1]; rfl)⟩
theorem Tb.lt {w : World} {base b : Nat} {T : List Pl} (h : Tb w base b T) : b < w.heap.size := blk_lt h.row
end Go.Proofs.Ytnknhencobhjdaa.Cp
