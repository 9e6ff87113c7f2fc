/- imagolaw13.does: its contract; no statement is proved in this text. -/
import Derived.Test.YtopbgeoledocaaaRRel
namespace Go.Proofs.Ytopbgeoledocaaa
open Go.ChangeShapes Go.WideShapes Go.ChangeAt Go.RowKit Go.Deep
attribute [local go_sem ↓] Go.wp_at_zero Go.wp_at_succ

abbrev FD (base : Nat) (w w' : World) : Prop := Fr base [57, 66, 29, 41, 60] w w'
theorem fd_p {base : Nat} {w w' : World} (h : Fr base [57, 66] w w') : FD base w w' := h.mono (fun o ho => by
  cases o with
  | cells C t fr => simp [keeps] at ho ⊢; exact ⟨ho.1, ho.2.1⟩
  | _ => rfl)
theorem fd_r {base : Nat} {w w' : World} (h : FR base w w') : FD base w w' := h.mono (fun o ho => by
  cases o with
  | cells C t fr => simp [keeps] at ho ⊢; exact ⟨ho.2.2.1, ho.2.2.2.1, ho.2.2.2.2⟩
  | _ => rfl)
theorem Fr.of_drew {base : Nat} {ts : List TypeId} {w w' : World} (h : Fr base ts w.drew w') : Fr base ts w w' := ⟨below_of_drewN (n := 1) h.below, h.kept⟩
def DoesTo (w : World) (base T R c : Nat) (E : Nat → Option En) (x : Sp) : Prop :=
  Calls Try.prog 10 #[pq T, pq R, .agg #[i64 x.what, i64 x.env, i64 x.ver, i64 x.k, i64 x.x]] w fun e w' => e = .returned (.bool true) ∧ ∃ E' L', Tw w' base T R (c + 1) E' L' ∧ (∀ m, m ≠ x.env → stE E' m = stE E m) ∧ FD base w w'
theorem op_ne (E : Nat → Option En) (n v : Int) (m : Int) (h : m ≠ n) : stE (opE E n v) m = stE E m := by
  unfold opE
  split
  · rfl
  · split
    · exact stE_ne h _
    · rfl
theorem cl_ne (E : Nat → Option En) (n : Int) (m : Int) (h : m ≠ n) : stE (clE E n) m = stE E m := by
  unfold clE
  split
  · rfl
  · exact stE_ne h _
theorem ch_ne (E : Nat → Option En) (n v : Int) (m : Int) (h : m ≠ n) : stE (chE E n v) m = stE E m := by
  unfold chE
  split
  · rfl
  · split
    · rfl
    · exact stE_ne h _
theorem po_ne (E : Nat → Option En) (n k x : Int) (m : Int) (h : m ≠ n) : stE (poT E n k x) m = stE E m := by
  unfold poT
  split
  · rfl
  · split
    · rfl
    · exact stE_ne h _
theorem tk_ne (E : Nat → Option En) (n : Int) (m : Int) (h : m ≠ n) : stE (tkT E n) m = stE E m := by
  unfold tkT
  split
  · rfl
  · split
    · rfl
    · exact stE_ne h _
set_option maxRecDepth 100000 in
set_option maxHeartbeats 4000000 in
theorem does0 {w : World} {base T R c : Nat} {E : Nat → Option En} {L : List Rn} (h : Tw w base T R c E L) (x : Sp) (hw : x.what = 0) : DoesTo w base T R c E x := by
  unfold DoesTo
  obtain ⟨V, hV⟩ : ∃ V, V = w.alloc (spO x) := ⟨_, rfl⟩
  have hb0 : Below w.heap.size w V := by rw [hV]; exact below_one w _
  have HS0 : Hid (V.heap[w.heap.size]? = some (spO x)) := hid (by rw [hV]; exact heap_last w _)
  have HT0 : Hid (Tw V base T R c E L) := h.below hb0
  have hlo : base ≤ w.heap.size := h.r.los
  have HF0 : Hid (FD base w V) := Fr.of_below _ hb0 hlo
  have HUP : Hid (∀ U : World, U.heap[w.heap.size]? = some (spO x) → (U.cell? ⟨w.heap.size, 1, none⟩ = some (i64 x.env) ∧ U.cell? ⟨w.heap.size, 2, none⟩ = some (i64 x.ver) ∧ U.cell? ⟨w.heap.size, 3, none⟩ = some (i64 x.k) ∧ U.cell? ⟨w.heap.size, 4, none⟩ = some (i64 x.x))) := fun U hU => ⟨blk_cell hU 1, blk_cell hU 2, blk_cell hU 3, blk_cell hU 4⟩
  have k0 : V.cell? ⟨w.heap.size, 0, none⟩ = some (i64 0) := by rw [← hw]; exact blk_cell HS0.out 0
  obtain ⟨k1, k2, k3, k4⟩ := HUP.out V HS0.out
  have HVW : Hid (w.alloc (Obj.cells #[i64 0, i64 x.env, i64 x.ver, i64 x.k, i64 x.x] 33) = V) := hid (by rw [hV, ← hw])
  rw [hw]
  clear h hV hb0 hw
  obtain ⟨X, hX⟩ : ∃ X, X = opN x.env x.ver (stE E x.env) := ⟨_, rfl⟩
  have HX := hid hX.symm
  clear hX
  go_enter Try.func10, Try.ntmps10
  go_wp2_with fail
  first | rw [HVW.out] | skip
  go_region_held3 (fun U => U.cell? ⟨w.heap.size, 1, none⟩ = some (i64 x.env) ∧ U.cell? ⟨w.heap.size, 2, none⟩ = some (i64 x.ver) ∧ U.cell? ⟨w.heap.size, 3, none⟩ = some (i64 x.k) ∧ U.cell? ⟨w.heap.size, 4, none⟩ = some (i64 x.x)) (first | exact HUP.out _ HS0.out | exact HUP.out _ HS3.out | exact HUP.out _ HS4.out)
    ((first
      | (go_at_call 17; refine (open_ok (HT0.out.t.keep (fun _ _ _ h _ => h) : Tb V.drew base T E) x.env x.ver).mono ?_; rintro e w3 ⟨he, hk3, hf3⟩; rw [HX.out] at he; subst he; have HS3 : Hid (w3.heap[w.heap.size]? = some (spO x)) := hf3.kept _ _ HS0.out (by rfl); have HK3 := hid hk3; have HR3 : Hid (Rb w3 base R L) := HT0.out.r.fr (w' := w3) (Fr.of_drew hf3) (by rfl) (by rfl) (by rfl); have HF3 : Hid (FD base w w3) := HF0.out.trans (fd_p (Fr.of_drew hf3)); clear hk3 hf3)
      | (go_at_call 22; refine (ropen_rel HR3.out HT0.out.e x.env x.ver).mono ?_; rintro e w4 ⟨he, L4, hb4, hr4, hf4⟩; rw [HX.out] at he; subst he; have HS4 : Hid (w4.heap[w.heap.size]? = some (spO x)) := hf4.kept _ _ HS3.out (by rfl); have HF4 : Hid (FD base w w4) := HF3.out.trans (fd_r hf4); have HT4 : Hid (Tw w4 base T R (c + 1) _ L4) := ⟨HK3.out.fr hf4 (by rfl) (by rfl), hb4, hr4.mono (by omega)⟩; clear hr4 hb4 hf4)))
  all_goals go_wp2_with fail
  go_ret
  exact ⟨by simp, _, _, HT4.out, op_ne E x.env x.ver, HF4.out⟩
set_option maxRecDepth 100000 in
set_option maxHeartbeats 4000000 in
theorem does1 {w : World} {base T R c : Nat} {E : Nat → Option En} {L : List Rn} (h : Tw w base T R c E L) (x : Sp) (hw : x.what = 1) : DoesTo w base T R c E x := by
  unfold DoesTo
  obtain ⟨V, hV⟩ : ∃ V, V = w.alloc (spO x) := ⟨_, rfl⟩
  have hb0 : Below w.heap.size w V := by rw [hV]; exact below_one w _
  have HS0 : Hid (V.heap[w.heap.size]? = some (spO x)) := hid (by rw [hV]; exact heap_last w _)
  have HT0 : Hid (Tw V base T R c E L) := h.below hb0
  have hlo : base ≤ w.heap.size := h.r.los
  have HF0 : Hid (FD base w V) := Fr.of_below _ hb0 hlo
  have HUP : Hid (∀ U : World, U.heap[w.heap.size]? = some (spO x) → (U.cell? ⟨w.heap.size, 1, none⟩ = some (i64 x.env) ∧ U.cell? ⟨w.heap.size, 2, none⟩ = some (i64 x.ver) ∧ U.cell? ⟨w.heap.size, 3, none⟩ = some (i64 x.k) ∧ U.cell? ⟨w.heap.size, 4, none⟩ = some (i64 x.x))) := fun U hU => ⟨blk_cell hU 1, blk_cell hU 2, blk_cell hU 3, blk_cell hU 4⟩
  have k0 : V.cell? ⟨w.heap.size, 0, none⟩ = some (i64 1) := by rw [← hw]; exact blk_cell HS0.out 0
  obtain ⟨k1, k2, k3, k4⟩ := HUP.out V HS0.out
  have HVW : Hid (w.alloc (Obj.cells #[i64 1, i64 x.env, i64 x.ver, i64 x.k, i64 x.x] 33) = V) := hid (by rw [hV, ← hw])
  rw [hw]
  clear h hV hb0 hw
  obtain ⟨X, hX⟩ : ∃ X, X = clN (stE E x.env) := ⟨_, rfl⟩
  have HX := hid hX.symm
  clear hX
  go_enter Try.func10, Try.ntmps10
  go_wp2_with fail
  first | rw [HVW.out] | skip
  go_region_held3 (fun U => U.cell? ⟨w.heap.size, 1, none⟩ = some (i64 x.env) ∧ U.cell? ⟨w.heap.size, 2, none⟩ = some (i64 x.ver) ∧ U.cell? ⟨w.heap.size, 3, none⟩ = some (i64 x.k) ∧ U.cell? ⟨w.heap.size, 4, none⟩ = some (i64 x.x)) (first | exact HUP.out _ HS0.out | exact HUP.out _ HS3.out | exact HUP.out _ HS4.out)
    ((first
      | (go_at_call 20; refine (close_ok (HT0.out.t.keep (fun _ _ _ h _ => h) : Tb V.drew base T E) x.env).mono ?_; rintro e w3 ⟨he, hk3, hf3⟩; rw [HX.out] at he; subst he; have HS3 : Hid (w3.heap[w.heap.size]? = some (spO x)) := hf3.kept _ _ HS0.out (by rfl); have HK3 := hid hk3; have HR3 : Hid (Rb w3 base R L) := HT0.out.r.fr (w' := w3) (Fr.of_drew hf3) (by rfl) (by rfl) (by rfl); have HF3 : Hid (FD base w w3) := HF0.out.trans (fd_p (Fr.of_drew hf3)); clear hk3 hf3)
      | (go_at_call 23; refine (rclose_rel HR3.out HT0.out.e x.env).mono ?_; rintro e w4 ⟨he, L4, hb4, hr4, hf4⟩; rw [HX.out] at he; subst he; have HS4 : Hid (w4.heap[w.heap.size]? = some (spO x)) := hf4.kept _ _ HS3.out (by rfl); have HF4 : Hid (FD base w w4) := HF3.out.trans (fd_r hf4); have HT4 : Hid (Tw w4 base T R (c + 1) _ L4) := ⟨HK3.out.fr hf4 (by rfl) (by rfl), hb4, hr4.mono (by omega)⟩; clear hr4 hb4 hf4)))
  all_goals go_wp2_with fail
  go_ret
  exact ⟨by simp, _, _, HT4.out, cl_ne E x.env, HF4.out⟩
set_option maxRecDepth 100000 in
set_option maxHeartbeats 4000000 in
theorem does2 {w : World} {base T R c : Nat} {E : Nat → Option En} {L : List Rn} (h : Tw w base T R c E L) (x : Sp) (hw : x.what = 2) : DoesTo w base T R c E x := by
  unfold DoesTo
  obtain ⟨V, hV⟩ : ∃ V, V = w.alloc (spO x) := ⟨_, rfl⟩
  have hb0 : Below w.heap.size w V := by rw [hV]; exact below_one w _
  have HS0 : Hid (V.heap[w.heap.size]? = some (spO x)) := hid (by rw [hV]; exact heap_last w _)
  have HT0 : Hid (Tw V base T R c E L) := h.below hb0
  have hlo : base ≤ w.heap.size := h.r.los
  have HF0 : Hid (FD base w V) := Fr.of_below _ hb0 hlo
  have HUP : Hid (∀ U : World, U.heap[w.heap.size]? = some (spO x) → (U.cell? ⟨w.heap.size, 1, none⟩ = some (i64 x.env) ∧ U.cell? ⟨w.heap.size, 2, none⟩ = some (i64 x.ver) ∧ U.cell? ⟨w.heap.size, 3, none⟩ = some (i64 x.k) ∧ U.cell? ⟨w.heap.size, 4, none⟩ = some (i64 x.x))) := fun U hU => ⟨blk_cell hU 1, blk_cell hU 2, blk_cell hU 3, blk_cell hU 4⟩
  have k0 : V.cell? ⟨w.heap.size, 0, none⟩ = some (i64 2) := by rw [← hw]; exact blk_cell HS0.out 0
  obtain ⟨k1, k2, k3, k4⟩ := HUP.out V HS0.out
  have HVW : Hid (w.alloc (Obj.cells #[i64 2, i64 x.env, i64 x.ver, i64 x.k, i64 x.x] 33) = V) := hid (by rw [hV, ← hw])
  rw [hw]
  clear h hV hb0 hw
  obtain ⟨X, hX⟩ : ∃ X, X = chN x.ver (stE E x.env) := ⟨_, rfl⟩
  have HX := hid hX.symm
  clear hX
  go_enter Try.func10, Try.ntmps10
  go_wp2_with fail
  first | rw [HVW.out] | skip
  go_region_held3 (fun U => U.cell? ⟨w.heap.size, 1, none⟩ = some (i64 x.env) ∧ U.cell? ⟨w.heap.size, 2, none⟩ = some (i64 x.ver) ∧ U.cell? ⟨w.heap.size, 3, none⟩ = some (i64 x.k) ∧ U.cell? ⟨w.heap.size, 4, none⟩ = some (i64 x.x)) (first | exact HUP.out _ HS0.out | exact HUP.out _ HS3.out | exact HUP.out _ HS4.out)
    ((first
      | (go_at_call 21; refine (change_ok (HT0.out.t.keep (fun _ _ _ h _ => h) : Tb V.drew base T E) x.env x.ver).mono ?_; rintro e w3 ⟨he, hk3, hf3⟩; rw [HX.out] at he; subst he; have HS3 : Hid (w3.heap[w.heap.size]? = some (spO x)) := hf3.kept _ _ HS0.out (by rfl); have HK3 := hid hk3; have HR3 : Hid (Rb w3 base R L) := HT0.out.r.fr (w' := w3) (Fr.of_drew hf3) (by rfl) (by rfl) (by rfl); have HF3 : Hid (FD base w w3) := HF0.out.trans (fd_p (Fr.of_drew hf3)); clear hk3 hf3)
      | (go_at_call 24; refine (rchange_rel HR3.out HT0.out.e x.env x.ver).mono ?_; rintro e w4 ⟨he, L4, hb4, hr4, hf4⟩; rw [HX.out] at he; subst he; have HS4 : Hid (w4.heap[w.heap.size]? = some (spO x)) := hf4.kept _ _ HS3.out (by rfl); have HF4 : Hid (FD base w w4) := HF3.out.trans (fd_r hf4); have HT4 : Hid (Tw w4 base T R (c + 1) _ L4) := ⟨HK3.out.fr hf4 (by rfl) (by rfl), hb4, hr4.mono (by omega)⟩; clear hr4 hb4 hf4)))
  all_goals go_wp2_with fail
  go_ret
  exact ⟨by simp, _, _, HT4.out, ch_ne E x.env x.ver, HF4.out⟩
set_option maxRecDepth 100000 in
set_option maxHeartbeats 4000000 in
theorem does3 {w : World} {base T R c : Nat} {E : Nat → Option En} {L : List Rn} (h : Tw w base T R c E L) (hc : c ≤ 1000) (x : Sp) (hw : x.what = 3) : DoesTo w base T R c E x := by
  unfold DoesTo
  obtain ⟨V, hV⟩ : ∃ V, V = w.alloc (spO x) := ⟨_, rfl⟩
  have hb0 : Below w.heap.size w V := by rw [hV]; exact below_one w _
  have HS0 : Hid (V.heap[w.heap.size]? = some (spO x)) := hid (by rw [hV]; exact heap_last w _)
  have HT0 : Hid (Tw V base T R c E L) := h.below hb0
  have hlo : base ≤ w.heap.size := h.r.los
  have HF0 : Hid (FD base w V) := Fr.of_below _ hb0 hlo
  have HUP : Hid (∀ U : World, U.heap[w.heap.size]? = some (spO x) → (U.cell? ⟨w.heap.size, 1, none⟩ = some (i64 x.env) ∧ U.cell? ⟨w.heap.size, 2, none⟩ = some (i64 x.ver) ∧ U.cell? ⟨w.heap.size, 3, none⟩ = some (i64 x.k) ∧ U.cell? ⟨w.heap.size, 4, none⟩ = some (i64 x.x))) := fun U hU => ⟨blk_cell hU 1, blk_cell hU 2, blk_cell hU 3, blk_cell hU 4⟩
  have k0 : V.cell? ⟨w.heap.size, 0, none⟩ = some (i64 3) := by rw [← hw]; exact blk_cell HS0.out 0
  obtain ⟨k1, k2, k3, k4⟩ := HUP.out V HS0.out
  have HVW : Hid (w.alloc (Obj.cells #[i64 3, i64 x.env, i64 x.ver, i64 x.k, i64 x.x] 33) = V) := hid (by rw [hV, ← hw])
  rw [hw]
  clear h hV hb0 hw
  obtain ⟨X, hX⟩ : ∃ X, X = poN x.k (stE E x.env) := ⟨_, rfl⟩
  have HX := hid hX.symm
  clear hX
  go_enter Try.func10, Try.ntmps10
  go_wp2_with fail
  first | rw [HVW.out] | skip
  go_region_held3 (fun U => U.cell? ⟨w.heap.size, 1, none⟩ = some (i64 x.env) ∧ U.cell? ⟨w.heap.size, 2, none⟩ = some (i64 x.ver) ∧ U.cell? ⟨w.heap.size, 3, none⟩ = some (i64 x.k) ∧ U.cell? ⟨w.heap.size, 4, none⟩ = some (i64 x.x)) (first | exact HUP.out _ HS0.out | exact HUP.out _ HS3.out | exact HUP.out _ HS4.out)
    ((first
      | (go_at_call 18; refine (post_ok (HT0.out.t.keep (fun _ _ _ h _ => h) : Tb V.drew base T E) x.env x.k x.x (HT0.out.e.lost hc x.env)).mono ?_; rintro e w3 ⟨he, hk3, hf3⟩; rw [HX.out] at he; subst he; have HS3 : Hid (w3.heap[w.heap.size]? = some (spO x)) := hf3.kept _ _ HS0.out (by rfl); have HK3 := hid hk3; have HR3 : Hid (Rb w3 base R L) := HT0.out.r.fr (w' := w3) (Fr.of_drew hf3) (by rfl) (by rfl) (by rfl); have HF3 : Hid (FD base w w3) := HF0.out.trans (fd_p (Fr.of_drew hf3)); clear hk3 hf3)
      | (go_at_call 25; refine (rpost_rel HR3.out HT0.out.e hc x.env x.k x.x).mono ?_; rintro e w4 ⟨he, L4, hb4, hr4, hf4⟩; rw [HX.out] at he; subst he; have HS4 : Hid (w4.heap[w.heap.size]? = some (spO x)) := hf4.kept _ _ HS3.out (by rfl); have HF4 : Hid (FD base w w4) := HF3.out.trans (fd_r hf4); have HT4 : Hid (Tw w4 base T R (c + 1) _ L4) := ⟨HK3.out.fr hf4 (by rfl) (by rfl), hb4, hr4⟩; clear hr4 hb4 hf4)))
  all_goals go_wp2_with fail
  go_ret
  exact ⟨by simp, _, _, HT4.out, po_ne E x.env x.k x.x, HF4.out⟩
set_option maxRecDepth 100000 in
set_option maxHeartbeats 4000000 in
theorem does4 {w : World} {base T R c : Nat} {E : Nat → Option En} {L : List Rn} (h : Tw w base T R c E L) (hc : c ≤ 1000) (x : Sp) (hw : x.what = 4) : DoesTo w base T R c E x := by
  unfold DoesTo
  obtain ⟨V, hV⟩ : ∃ V, V = w.alloc (spO x) := ⟨_, rfl⟩
  have hb0 : Below w.heap.size w V := by rw [hV]; exact below_one w _
  have HS0 : Hid (V.heap[w.heap.size]? = some (spO x)) := hid (by rw [hV]; exact heap_last w _)
  have HT0 : Hid (Tw V base T R c E L) := h.below hb0
  have hlo : base ≤ w.heap.size := h.r.los
  have HF0 : Hid (FD base w V) := Fr.of_below _ hb0 hlo
  have HUP : Hid (∀ U : World, U.heap[w.heap.size]? = some (spO x) → (U.cell? ⟨w.heap.size, 1, none⟩ = some (i64 x.env) ∧ U.cell? ⟨w.heap.size, 2, none⟩ = some (i64 x.ver) ∧ U.cell? ⟨w.heap.size, 3, none⟩ = some (i64 x.k) ∧ U.cell? ⟨w.heap.size, 4, none⟩ = some (i64 x.x))) := fun U hU => ⟨blk_cell hU 1, blk_cell hU 2, blk_cell hU 3, blk_cell hU 4⟩
  have k0 : V.cell? ⟨w.heap.size, 0, none⟩ = some (i64 4) := by rw [← hw]; exact blk_cell HS0.out 0
  obtain ⟨k1, k2, k3, k4⟩ := HUP.out V HS0.out
  have HVW : Hid (w.alloc (Obj.cells #[i64 4, i64 x.env, i64 x.ver, i64 x.k, i64 x.x] 33) = V) := hid (by rw [hV, ← hw])
  rw [hw]
  clear h hV hb0 hw
  obtain ⟨X, hX⟩ : ∃ X, X = poN x.k (stE E x.env) := ⟨_, rfl⟩
  have HX := hid hX.symm
  clear hX
  go_enter Try.func10, Try.ntmps10
  go_wp2_with fail
  first | rw [HVW.out] | skip
  go_region_held3 (fun U => U.cell? ⟨w.heap.size, 1, none⟩ = some (i64 x.env) ∧ U.cell? ⟨w.heap.size, 2, none⟩ = some (i64 x.ver) ∧ U.cell? ⟨w.heap.size, 3, none⟩ = some (i64 x.k) ∧ U.cell? ⟨w.heap.size, 4, none⟩ = some (i64 x.x)) (first | exact HUP.out _ HS0.out | exact HUP.out _ HS3.out | exact HUP.out _ HS4.out)
    ((first
      | (go_at_call 18; refine (post_ok (HT0.out.t.keep (fun _ _ _ h _ => h) : Tb V.drew base T E) x.env x.k x.x (HT0.out.e.lost hc x.env)).mono ?_; rintro e w3 ⟨he, hk3, hf3⟩; rw [HX.out] at he; subst he; have HS3 : Hid (w3.heap[w.heap.size]? = some (spO x)) := hf3.kept _ _ HS0.out (by rfl); have HK3 := hid hk3; have HR3 : Hid (Rb w3 base R L) := HT0.out.r.fr (w' := w3) (Fr.of_drew hf3) (by rfl) (by rfl) (by rfl); have HF3 : Hid (FD base w w3) := HF0.out.trans (fd_p (Fr.of_drew hf3)); clear hk3 hf3)
      | (go_at_call 25; refine (rpost_rel HR3.out HT0.out.e hc x.env x.k x.x).mono ?_; rintro e w4 ⟨he, L4, hb4, hr4, hf4⟩; rw [HX.out] at he; subst he; have HS4 : Hid (w4.heap[w.heap.size]? = some (spO x)) := hf4.kept _ _ HS3.out (by rfl); have HF4 : Hid (FD base w w4) := HF3.out.trans (fd_r hf4); have HT4 : Hid (Tw w4 base T R (c + 1) _ L4) := ⟨HK3.out.fr hf4 (by rfl) (by rfl), hb4, hr4⟩; clear hr4 hb4 hf4)))
  all_goals go_wp2_with fail
  go_ret
  exact ⟨by simp, _, _, HT4.out, po_ne E x.env x.k x.x, HF4.out⟩
set_option maxRecDepth 100000 in
set_option maxHeartbeats 4000000 in
theorem does5 {w : World} {base T R c : Nat} {E : Nat → Option En} {L : List Rn} (h : Tw w base T R c E L) (hc : c ≤ 1000) (x : Sp) (hw : x.what = 5) : DoesTo w base T R c E x := by
  unfold DoesTo
  obtain ⟨V, hV⟩ : ∃ V, V = w.alloc (spO x) := ⟨_, rfl⟩
  have hb0 : Below w.heap.size w V := by rw [hV]; exact below_one w _
  have HS0 : Hid (V.heap[w.heap.size]? = some (spO x)) := hid (by rw [hV]; exact heap_last w _)
  have HT0 : Hid (Tw V base T R c E L) := h.below hb0
  have hlo : base ≤ w.heap.size := h.r.los
  have HF0 : Hid (FD base w V) := Fr.of_below _ hb0 hlo
  have HUP : Hid (∀ U : World, U.heap[w.heap.size]? = some (spO x) → (U.cell? ⟨w.heap.size, 1, none⟩ = some (i64 x.env) ∧ U.cell? ⟨w.heap.size, 2, none⟩ = some (i64 x.ver) ∧ U.cell? ⟨w.heap.size, 3, none⟩ = some (i64 x.k) ∧ U.cell? ⟨w.heap.size, 4, none⟩ = some (i64 x.x))) := fun U hU => ⟨blk_cell hU 1, blk_cell hU 2, blk_cell hU 3, blk_cell hU 4⟩
  have k0 : V.cell? ⟨w.heap.size, 0, none⟩ = some (i64 5) := by rw [← hw]; exact blk_cell HS0.out 0
  obtain ⟨k1, k2, k3, k4⟩ := HUP.out V HS0.out
  have HVW : Hid (w.alloc (Obj.cells #[i64 5, i64 x.env, i64 x.ver, i64 x.k, i64 x.x] 33) = V) := hid (by rw [hV, ← hw])
  rw [hw]
  clear h hV hb0 hw
  obtain ⟨X, hX⟩ : ∃ X, X = poN x.k (stE E x.env) := ⟨_, rfl⟩
  have HX := hid hX.symm
  clear hX
  go_enter Try.func10, Try.ntmps10
  go_wp2_with fail
  first | rw [HVW.out] | skip
  go_region_held3 (fun U => U.cell? ⟨w.heap.size, 1, none⟩ = some (i64 x.env) ∧ U.cell? ⟨w.heap.size, 2, none⟩ = some (i64 x.ver) ∧ U.cell? ⟨w.heap.size, 3, none⟩ = some (i64 x.k) ∧ U.cell? ⟨w.heap.size, 4, none⟩ = some (i64 x.x)) (first | exact HUP.out _ HS0.out | exact HUP.out _ HS3.out | exact HUP.out _ HS4.out)
    ((first
      | (go_at_call 18; refine (post_ok (HT0.out.t.keep (fun _ _ _ h _ => h) : Tb V.drew base T E) x.env x.k x.x (HT0.out.e.lost hc x.env)).mono ?_; rintro e w3 ⟨he, hk3, hf3⟩; rw [HX.out] at he; subst he; have HS3 : Hid (w3.heap[w.heap.size]? = some (spO x)) := hf3.kept _ _ HS0.out (by rfl); have HK3 := hid hk3; have HR3 : Hid (Rb w3 base R L) := HT0.out.r.fr (w' := w3) (Fr.of_drew hf3) (by rfl) (by rfl) (by rfl); have HF3 : Hid (FD base w w3) := HF0.out.trans (fd_p (Fr.of_drew hf3)); clear hk3 hf3)
      | (go_at_call 25; refine (rpost_rel HR3.out HT0.out.e hc x.env x.k x.x).mono ?_; rintro e w4 ⟨he, L4, hb4, hr4, hf4⟩; rw [HX.out] at he; subst he; have HS4 : Hid (w4.heap[w.heap.size]? = some (spO x)) := hf4.kept _ _ HS3.out (by rfl); have HF4 : Hid (FD base w w4) := HF3.out.trans (fd_r hf4); have HT4 : Hid (Tw w4 base T R (c + 1) _ L4) := ⟨HK3.out.fr hf4 (by rfl) (by rfl), hb4, hr4⟩; clear hr4 hb4 hf4)))
  all_goals go_wp2_with fail
  go_ret
  exact ⟨by simp, _, _, HT4.out, po_ne E x.env x.k x.x, HF4.out⟩
set_option maxRecDepth 100000 in
set_option maxHeartbeats 4000000 in
theorem does6 {w : World} {base T R c : Nat} {E : Nat → Option En} {L : List Rn} (h : Tw w base T R c E L) (hc : c ≤ 1000) (x : Sp) (hw : x.what = 6) : DoesTo w base T R c E x := by
  unfold DoesTo
  obtain ⟨V, hV⟩ : ∃ V, V = w.alloc (spO x) := ⟨_, rfl⟩
  have hb0 : Below w.heap.size w V := by rw [hV]; exact below_one w _
  have HS0 : Hid (V.heap[w.heap.size]? = some (spO x)) := hid (by rw [hV]; exact heap_last w _)
  have HT0 : Hid (Tw V base T R c E L) := h.below hb0
  have hlo : base ≤ w.heap.size := h.r.los
  have HF0 : Hid (FD base w V) := Fr.of_below _ hb0 hlo
  have HUP : Hid (∀ U : World, U.heap[w.heap.size]? = some (spO x) → (U.cell? ⟨w.heap.size, 1, none⟩ = some (i64 x.env) ∧ U.cell? ⟨w.heap.size, 2, none⟩ = some (i64 x.ver) ∧ U.cell? ⟨w.heap.size, 3, none⟩ = some (i64 x.k) ∧ U.cell? ⟨w.heap.size, 4, none⟩ = some (i64 x.x))) := fun U hU => ⟨blk_cell hU 1, blk_cell hU 2, blk_cell hU 3, blk_cell hU 4⟩
  have k0 : V.cell? ⟨w.heap.size, 0, none⟩ = some (i64 6) := by rw [← hw]; exact blk_cell HS0.out 0
  obtain ⟨k1, k2, k3, k4⟩ := HUP.out V HS0.out
  have HVW : Hid (w.alloc (Obj.cells #[i64 6, i64 x.env, i64 x.ver, i64 x.k, i64 x.x] 33) = V) := hid (by rw [hV, ← hw])
  rw [hw]
  clear h hV hb0 hw
  obtain ⟨X, hX⟩ : ∃ X, X = poN x.k (stE E x.env) := ⟨_, rfl⟩
  have HX := hid hX.symm
  clear hX
  go_enter Try.func10, Try.ntmps10
  go_wp2_with fail
  first | rw [HVW.out] | skip
  go_region_held3 (fun U => U.cell? ⟨w.heap.size, 1, none⟩ = some (i64 x.env) ∧ U.cell? ⟨w.heap.size, 2, none⟩ = some (i64 x.ver) ∧ U.cell? ⟨w.heap.size, 3, none⟩ = some (i64 x.k) ∧ U.cell? ⟨w.heap.size, 4, none⟩ = some (i64 x.x)) (first | exact HUP.out _ HS0.out | exact HUP.out _ HS3.out | exact HUP.out _ HS4.out)
    ((first
      | (go_at_call 18; refine (post_ok (HT0.out.t.keep (fun _ _ _ h _ => h) : Tb V.drew base T E) x.env x.k x.x (HT0.out.e.lost hc x.env)).mono ?_; rintro e w3 ⟨he, hk3, hf3⟩; rw [HX.out] at he; subst he; have HS3 : Hid (w3.heap[w.heap.size]? = some (spO x)) := hf3.kept _ _ HS0.out (by rfl); have HK3 := hid hk3; have HR3 : Hid (Rb w3 base R L) := HT0.out.r.fr (w' := w3) (Fr.of_drew hf3) (by rfl) (by rfl) (by rfl); have HF3 : Hid (FD base w w3) := HF0.out.trans (fd_p (Fr.of_drew hf3)); clear hk3 hf3)
      | (go_at_call 25; refine (rpost_rel HR3.out HT0.out.e hc x.env x.k x.x).mono ?_; rintro e w4 ⟨he, L4, hb4, hr4, hf4⟩; rw [HX.out] at he; subst he; have HS4 : Hid (w4.heap[w.heap.size]? = some (spO x)) := hf4.kept _ _ HS3.out (by rfl); have HF4 : Hid (FD base w w4) := HF3.out.trans (fd_r hf4); have HT4 : Hid (Tw w4 base T R (c + 1) _ L4) := ⟨HK3.out.fr hf4 (by rfl) (by rfl), hb4, hr4⟩; clear hr4 hb4 hf4)))
  all_goals go_wp2_with fail
  go_ret
  exact ⟨by simp, _, _, HT4.out, po_ne E x.env x.k x.x, HF4.out⟩
theorem tkV_form (y : Option En) : ∃ a b r : Int, tkV y = .tuple #[upV a b, i64 r] := by
  unfold tkV
  split
  · exact ⟨_, _, _, rfl⟩
  · split <;> exact ⟨_, _, _, rfl⟩
set_option maxRecDepth 100000 in
set_option maxHeartbeats 4000000 in
theorem does7 {w : World} {base T R c : Nat} {E : Nat → Option En} {L : List Rn} (h : Tw w base T R c E L) (hc : c ≤ 1000) (x : Sp) (hw : x.what = 7) : DoesTo w base T R c E x := by
  unfold DoesTo
  obtain ⟨V, hV⟩ : ∃ V, V = w.alloc (spO x) := ⟨_, rfl⟩
  have hb0 : Below w.heap.size w V := by rw [hV]; exact below_one w _
  have HS0 : Hid (V.heap[w.heap.size]? = some (spO x)) := hid (by rw [hV]; exact heap_last w _)
  have HT0 : Hid (Tw V base T R c E L) := h.below hb0
  have hlo : base ≤ w.heap.size := h.r.los
  have HF0 : Hid (FD base w V) := Fr.of_below _ hb0 hlo
  have HUP : Hid (∀ U : World, U.heap[w.heap.size]? = some (spO x) → (U.cell? ⟨w.heap.size, 1, none⟩ = some (i64 x.env) ∧ U.cell? ⟨w.heap.size, 2, none⟩ = some (i64 x.ver) ∧ U.cell? ⟨w.heap.size, 3, none⟩ = some (i64 x.k) ∧ U.cell? ⟨w.heap.size, 4, none⟩ = some (i64 x.x))) := fun U hU => ⟨blk_cell hU 1, blk_cell hU 2, blk_cell hU 3, blk_cell hU 4⟩
  have k0 : V.cell? ⟨w.heap.size, 0, none⟩ = some (i64 7) := by rw [← hw]; exact blk_cell HS0.out 0
  obtain ⟨k1, k2, k3, k4⟩ := HUP.out V HS0.out
  have HVW : Hid (w.alloc (Obj.cells #[i64 7, i64 x.env, i64 x.ver, i64 x.k, i64 x.x] 33) = V) := hid (by rw [hV, ← hw])
  rw [hw]
  clear h hV hb0 hw
  obtain ⟨a, b, r, hX⟩ := tkV_form (stE E x.env)
  have HX := hid hX
  clear hX
  go_enter Try.func10, Try.ntmps10
  go_upto_region 1 with fail
  rw [HVW.out]
  go_wp2_with fail
  refine (take_ok HT0.out.t x.env).mono ?_
  rintro e w3 ⟨he, hk3, hf3⟩
  rw [HX.out] at he
  subst he
  have hl3 : base ≤ w3.heap.size := by have := hk3.lt; have := hk3.lo; omega
  have HS3 : Hid ((w3.alloc (upO a b)).heap[w.heap.size]? = some (spO x)) := blk_alloc (hf3.kept _ _ HS0.out (by rfl)) _
  have HU3 : Hid ((w3.alloc (upO a b)).heap[w3.heap.size]? = some (upO a b)) := heap_last w3 _
  have HK3 := hid (hk3.below (below_one w3 (upO a b)))
  have HR3 : Hid (Rb (w3.alloc (upO a b)) base R L) := (HT0.out.r.fr (w' := w3) hf3 (by rfl) (by rfl) (by rfl)).below (below_one w3 _)
  have HF3 : Hid (FD base w (w3.alloc (upO a b))) := (HF0.out.trans (fd_p hf3)).trans (Fr.of_below _ (below_one w3 _) hl3)
  clear hk3 hf3 k0 k1 k2 k3 k4
  go_upto_region 16 with fail
  generalize w3.alloc (upO a b) = U at *
  have hZ3 := hid (blk_lt HU3.out)
  have k1 : U.cell? ⟨w.heap.size, 1, none⟩ = some (i64 x.env) := (HUP.out U HS3.out).1
  go_wp2_with fail
  refine (rtake_rel HR3.out HT0.out.e hc x.env).mono ?_
  rintro e w4 ⟨he, L4, hb4, hr4, hf4⟩
  rw [HX.out] at he
  subst he
  have HU4 : Hid ((w4.alloc (ruO a b)).heap[w3.heap.size]? = some (upO a b)) := blk_alloc (hf4.kept _ _ HU3.out (by rfl)) _
  have HV4 : Hid ((w4.alloc (ruO a b)).heap[w4.heap.size]? = some (ruO a b)) := heap_last w4 _
  have HF4 : Hid (FD base w (w4.alloc (ruO a b))) := (HF3.out.trans (fd_r hf4)).trans (Fr.of_below _ (below_one w4 _) hb4.los)
  have HT4 : Hid (Tw (w4.alloc (ruO a b)) base T R (c + 1) (tkT E x.env) L4) := Tw.below ⟨HK3.out.fr hf4 (by rfl) (by rfl), hb4, hr4.mono (by omega)⟩ (below_one w4 _)
  clear hr4 hb4 hf4 k1
  go_upto_region 17 with fail
  generalize w4.alloc (ruO a b) = Y at *
  have u0 : Y.cell? ⟨w3.heap.size, 0, none⟩ = some (i64 a) := blk_cell HU4.out 0
  have u1 : Y.cell? ⟨w3.heap.size, 1, none⟩ = some (i64 b) := blk_cell HU4.out 1
  have v0 : Y.cell? ⟨w4.heap.size, 0, none⟩ = some (i64 a) := blk_cell HV4.out 0
  have v1 : Y.cell? ⟨w4.heap.size, 1, none⟩ = some (i64 b) := blk_cell HV4.out 1
  go_wp2_with fail
  go_ret
  exact ⟨by simp, _, _, HT4.out, tk_ne E x.env, HF4.out⟩
set_option maxRecDepth 100000 in
set_option maxHeartbeats 4000000 in
theorem does8 {w : World} {base T R c : Nat} {E : Nat → Option En} {L : List Rn} (h : Tw w base T R c E L) (hc : c ≤ 1000) (x : Sp) (hw : x.what = 8) : DoesTo w base T R c E x := by
  unfold DoesTo
  obtain ⟨V, hV⟩ : ∃ V, V = w.alloc (spO x) := ⟨_, rfl⟩
  have hb0 : Below w.heap.size w V := by rw [hV]; exact below_one w _
  have HS0 : Hid (V.heap[w.heap.size]? = some (spO x)) := hid (by rw [hV]; exact heap_last w _)
  have HT0 : Hid (Tw V base T R c E L) := h.below hb0
  have hlo : base ≤ w.heap.size := h.r.los
  have HF0 : Hid (FD base w V) := Fr.of_below _ hb0 hlo
  have HUP : Hid (∀ U : World, U.heap[w.heap.size]? = some (spO x) → (U.cell? ⟨w.heap.size, 1, none⟩ = some (i64 x.env) ∧ U.cell? ⟨w.heap.size, 2, none⟩ = some (i64 x.ver) ∧ U.cell? ⟨w.heap.size, 3, none⟩ = some (i64 x.k) ∧ U.cell? ⟨w.heap.size, 4, none⟩ = some (i64 x.x))) := fun U hU => ⟨blk_cell hU 1, blk_cell hU 2, blk_cell hU 3, blk_cell hU 4⟩
  have k0 : V.cell? ⟨w.heap.size, 0, none⟩ = some (i64 8) := by rw [← hw]; exact blk_cell HS0.out 0
  obtain ⟨k1, k2, k3, k4⟩ := HUP.out V HS0.out
  have HVW : Hid (w.alloc (Obj.cells #[i64 8, i64 x.env, i64 x.ver, i64 x.k, i64 x.x] 33) = V) := hid (by rw [hV, ← hw])
  rw [hw]
  clear h hV hb0 hw
  obtain ⟨a, b, r, hX⟩ := tkV_form (stE E x.env)
  have HX := hid hX
  clear hX
  go_enter Try.func10, Try.ntmps10
  go_upto_region 1 with fail
  rw [HVW.out]
  go_wp2_with fail
  refine (take_ok HT0.out.t x.env).mono ?_
  rintro e w3 ⟨he, hk3, hf3⟩
  rw [HX.out] at he
  subst he
  have hl3 : base ≤ w3.heap.size := by have := hk3.lt; have := hk3.lo; omega
  have HS3 : Hid ((w3.alloc (upO a b)).heap[w.heap.size]? = some (spO x)) := blk_alloc (hf3.kept _ _ HS0.out (by rfl)) _
  have HU3 : Hid ((w3.alloc (upO a b)).heap[w3.heap.size]? = some (upO a b)) := heap_last w3 _
  have HK3 := hid (hk3.below (below_one w3 (upO a b)))
  have HR3 : Hid (Rb (w3.alloc (upO a b)) base R L) := (HT0.out.r.fr (w' := w3) hf3 (by rfl) (by rfl) (by rfl)).below (below_one w3 _)
  have HF3 : Hid (FD base w (w3.alloc (upO a b))) := (HF0.out.trans (fd_p hf3)).trans (Fr.of_below _ (below_one w3 _) hl3)
  clear hk3 hf3 k0 k1 k2 k3 k4
  go_upto_region 16 with fail
  generalize w3.alloc (upO a b) = U at *
  have hZ3 := hid (blk_lt HU3.out)
  have k1 : U.cell? ⟨w.heap.size, 1, none⟩ = some (i64 x.env) := (HUP.out U HS3.out).1
  go_wp2_with fail
  refine (rtake_rel HR3.out HT0.out.e hc x.env).mono ?_
  rintro e w4 ⟨he, L4, hb4, hr4, hf4⟩
  rw [HX.out] at he
  subst he
  have HU4 : Hid ((w4.alloc (ruO a b)).heap[w3.heap.size]? = some (upO a b)) := blk_alloc (hf4.kept _ _ HU3.out (by rfl)) _
  have HV4 : Hid ((w4.alloc (ruO a b)).heap[w4.heap.size]? = some (ruO a b)) := heap_last w4 _
  have HF4 : Hid (FD base w (w4.alloc (ruO a b))) := (HF3.out.trans (fd_r hf4)).trans (Fr.of_below _ (below_one w4 _) hb4.los)
  have HT4 : Hid (Tw (w4.alloc (ruO a b)) base T R (c + 1) (tkT E x.env) L4) := Tw.below ⟨HK3.out.fr hf4 (by rfl) (by rfl), hb4, hr4.mono (by omega)⟩ (below_one w4 _)
  clear hr4 hb4 hf4 k1
  go_upto_region 17 with fail
  generalize w4.alloc (ruO a b) = Y at *
  have u0 : Y.cell? ⟨w3.heap.size, 0, none⟩ = some (i64 a) := blk_cell HU4.out 0
  have u1 : Y.cell? ⟨w3.heap.size, 1, none⟩ = some (i64 b) := blk_cell HU4.out 1
  have v0 : Y.cell? ⟨w4.heap.size, 0, none⟩ = some (i64 a) := blk_cell HV4.out 0
  have v1 : Y.cell? ⟨w4.heap.size, 1, none⟩ = some (i64 b) := blk_cell HV4.out 1
  go_wp2_with fail
  go_ret
  exact ⟨by simp, _, _, HT4.out, tk_ne E x.env, HF4.out⟩
set_option maxRecDepth 100000 in
set_option maxHeartbeats 4000000 in
theorem does_else {w : World} {base T R c : Nat} {E : Nat → Option En} {L : List Rn} (h : Tw w base T R c E L) (x : Sp) (hw : ∀ i : Nat, i ≤ 8 → x.what ≠ i) : DoesTo w base T R c E x := by
  unfold DoesTo
  have HT0 : Hid (Tw (w.alloc (spO x)) base T R c E L) := h.below (below_one w _)
  have hlo : base ≤ w.heap.size := h.r.los
  have HF0 : Hid (FD base w (w.alloc (spO x))) := Fr.of_below _ (below_one w _) hlo
  have e0 : (x.what == 0) = false := by have := hw 0 (by omega); simpa using this
  have e1 : (x.what == 1) = false := by have := hw 1 (by omega); simpa using this
  have e2 : (x.what == 2) = false := by have := hw 2 (by omega); simpa using this
  have e3 : (x.what == 3) = false := by have := hw 3 (by omega); simpa using this
  have e4 : (x.what == 4) = false := by have := hw 4 (by omega); simpa using this
  have e5 : (x.what == 5) = false := by have := hw 5 (by omega); simpa using this
  have e6 : (x.what == 6) = false := by have := hw 6 (by omega); simpa using this
  have e7 : (x.what == 7) = false := by have := hw 7 (by omega); simpa using this
  have e8 : (x.what == 8) = false := by have := hw 8 (by omega); simpa using this
  clear h hw
  go_enter Try.func10, Try.ntmps10
  go_wp2_with fail
  go_ret
  exact ⟨rfl, _, _, ⟨HT0.out.t, HT0.out.r, HT0.out.e.mono (by omega)⟩, fun _ _ => rfl, HF0.out⟩
theorem does_ok {w : World} {base T R c : Nat} {E : Nat → Option En} {L : List Rn} (h : Tw w base T R c E L) (hc : c ≤ 1000) (x : Sp) : DoesTo w base T R c E x := by
  by_cases h0 : x.what = 0
  · exact does0 h x h0
  by_cases h1 : x.what = 1
  · exact does1 h x h1
  by_cases h2 : x.what = 2
  · exact does2 h x h2
  by_cases h3 : x.what = 3
  · exact does3 h hc x h3
  by_cases h4 : x.what = 4
  · exact does4 h hc x h4
  by_cases h5 : x.what = 5
  · exact does5 h hc x h5
  by_cases h6 : x.what = 6
  · exact does6 h hc x h6
  by_cases h7 : x.what = 7
  · exact does7 h hc x h7
  by_cases h8 : x.what = 8
  · exact does8 h hc x h8
  refine does_else h x (fun i hi => ?_)
  rcases (show i = 0 ∨ i = 1 ∨ i = 2 ∨ i = 3 ∨ i = 4 ∨ i = 5 ∨ i = 6 ∨ i = 7 ∨ i = 8 by omega) with rfl | rfl | rfl | rfl | rfl | rfl | rfl | rfl | rfl <;> assumption
end Go.Proofs.Ytopbgeoledocaaa
