/- ipc.Send, Receive: what else is as it was; no statement is proved in this text. -/
import Derived.Test.YtmijjgpelihhnaaRecv
namespace Go.Proofs.Ytmijjgpelihhnaa
open Go.ChangeShapes Go.WideShapes Go.ChangeAt Go.RowKit Go.Deep
attribute [local go_sem ↓] Go.wp_at_zero Go.wp_at_succ

theorem fr_up {base : Nat} {w w' : World} (h : Fr base [39] w w') : Fr base [54, 39] w w' := h.mono (fun o ho => by
    cases o with
    | cells C t fr => simp [keeps] at ho ⊢; exact ho.2
    | _ => rfl)
theorem Fr.of_tq {base P : Nat} {w w' : World} {C : Array Value} (h : Tq w.heap.size P w w') (hP : w.heap[P]? = some (.cells C 54)) (hb : base ≤ P) : Fr base [54, 39] w w' :=
  Fr.of_touch (q := P) ⟨h.os, h.tape, h.output, h.size, fun k hk hne => h.block k hk hne⟩ hP (by rfl) hb
set_option maxRecDepth 100000 in
set_option maxHeartbeats 1600000 in
theorem sendF0 {w : World} {base P : Nat} {Q : Nat → List Ms} (h : Pt w base P Q) (f d : Int) (hs : sdB f 1 d = true) (hl : (Q 0).length < 4) : Calls Try.prog 9 #[pq P, i64 f, i64 1, i64 d] w fun e w' => e = .returned (i64 0) ∧ Pt w' base P (upQ Q 0 (f, d)) ∧ Fr base [54, 39] w w' := by
  have hlt := h.lt
  have hlo := h.lo
  obtain ⟨a0, a1, a2, hP, hO⟩ := h.blk
  obtain ⟨ao2, cap2, w3, hrun, hown, hfr, hfar, hnew⟩ := app_far (te := 39) under51 info39x rfl (by omega) (by omega) hO.o0 [i64 f, u16v d] rfl (msl_one (f, d)) (by omega) (by omega)
  have hP3 : w3.heap[P]? = some (.cells #[a0, a1, a2] 54) := hfr.kept _ _ hP (by rfl)
  have hk3 : ∀ (k : Nat) (C : Array Value), w3.heap[k]? = some (.cells C 39) → (w3.setCell ⟨P, 0, none⟩ (.slice ao2 ((Q 0).length + 1) cap2)).heap[k]? = some (.cells C 39) := fun k C hC => by
    rw [Below.heap_setCell _ _ _ _ (fun e => by have hC' := hC; rw [show k = P from e, hP3] at hC'; simp at hC')]
    exact hC
  have rI : (w3.setCell ⟨P, 0, none⟩ (.slice ao2 ((Q 0).length + 1) cap2)).ownsRow base 39 2 (.slice ao2 ((Q 0).length + 1) cap2) (upQ Q 0 (f, d) 0).length (mcn (upQ Q 0 (f, d) 0)) := by
    have e : upQ Q 0 (f, d) 0 = Q 0 ++ [(f, d)] := by simp [upQ]
    rw [e, List.length_append, mcn_app]
    exact own_keep hown hk3
  have e1 : upQ Q 0 (f, d) 1 = Q 1 := by simp [upQ]
  have r1 : (w3.setCell ⟨P, 0, none⟩ (.slice ao2 ((Q 0).length + 1) cap2)).ownsRow base 39 2 a1 (upQ Q 0 (f, d) 1).length (mcn (upQ Q 0 (f, d) 1)) := by
    rw [e1]
    exact own_keep (own_keep1 hO.o1 (fun k hk => hfar k (hO.o1.lt k hk).2 (fun e => (fun k h1 h2 => hO.d01 k h2 h1) k hk e.symm))) hk3
  have dN1 : ∀ k, (Value.slice ao2 ((Q 0).length + 1) cap2).ownBlock = some k → a1.ownBlock ≠ some k := fun k h1 h2 => by
    rcases hnew with hn | hn
    · exact hO.d01 k (hn.symm.trans h1) h2
    · rw [hn] at h1
      have := (hO.o1.lt k h2).2
      cases h1
      omega
  have e2 : upQ Q 0 (f, d) 2 = Q 2 := by simp [upQ]
  have r2 : (w3.setCell ⟨P, 0, none⟩ (.slice ao2 ((Q 0).length + 1) cap2)).ownsRow base 39 2 a2 (upQ Q 0 (f, d) 2).length (mcn (upQ Q 0 (f, d) 2)) := by
    rw [e2]
    exact own_keep (own_keep1 hO.o2 (fun k hk => hfar k (hO.o2.lt k hk).2 (fun e => (fun k h1 h2 => hO.d02 k h2 h1) k hk e.symm))) hk3
  have dN2 : ∀ k, (Value.slice ao2 ((Q 0).length + 1) cap2).ownBlock = some k → a2.ownBlock ≠ some k := fun k h1 h2 => by
    rcases hnew with hn | hn
    · exact hO.d02 k (hn.symm.trans h1) h2
    · rw [hn] at h1
      have := (hO.o2.lt k h2).2
      cases h1
      omega
  have HU : Hid (Pt (w3.setCell ⟨P, 0, none⟩ (.slice ao2 ((Q 0).length + 1) cap2)) base P (upQ Q 0 (f, d)) ∧ Fr base [54, 39] w (w3.setCell ⟨P, 0, none⟩ (.slice ao2 ((Q 0).length + 1) cap2))) := by
    refine ⟨⟨hlo, fun i => ?_, (.slice ao2 ((Q 0).length + 1) cap2), a1, a2, ?_, rI, r1, r2, dN1, dN2, hO.d12⟩, (fr_up hfr).trans (Fr.of_touch ((Touch.refl P w3).setCell rfl _) hP3 (by rfl) hlo)⟩
    · by_cases hi : i = 0
      · subst hi; simp [upQ]; omega
      · simp [upQ, hi]; exact h.le i
    · have := heap_setCell_same w3 P 0 _ 54 (.slice ao2 ((Q 0).length + 1) cap2) hP3
      simpa using this
  obtain ⟨ao, cap, ha, _⟩ := own_slice hO.o0
  have p0 : w.cell? ⟨P, 0, none⟩ = some a0 := blk_cell hP 0
  have p3 : w3.cell? ⟨P, 0, none⟩ = some a0 := blk_cell hP3 0
  have pf : w3.frozen? ⟨P, 0, none⟩ = false := blk_frozen hP3 0
  rw [ha] at p0 p3 hrun
  have HRUN := hid hrun
  have HE := isEnv_ok w f
  have HF := isEnv_ok w 1
  unfold sdB at hs
  simp only [Bool.and_eq_true, decide_eq_true_eq] at hs
  obtain ⟨⟨⟨h1, h2⟩, h3⟩, h4⟩ := hs
  rw [h1] at HE
  rw [h2] at HF
  have HE := hid HE
  have HF := hid HF
  have hw := wrap_u16 h3 h4
  have hlI : ((Q 0).length : Int) < 4 := by omega
  clear hO hP h ha h1 h2 hrun hown hfr hfar hnew hP3 hk3 rI r1 r2 e1 e2 dN1 dN2
  generalize (Q 0).length = n at *
  go_enter Try.func9, Try.ntmps9
  go_wp2_with (first | (go_at_call 18; first | (refine HE.out.mono ?_; rintro e v1 ⟨rfl, hv⟩; replace hv := hv.symm; subst hv) | (refine HF.out.mono ?_; rintro e v1 ⟨rfl, hv⟩; replace hv := hv.symm; subst hv)) | (at_builtin; refine wpList_app_run rfl (.tmp 42) (.tmp 47) 51 rfl _ _ rfl rfl 51 rfl _ _ HRUN.out ?_))
  go_ret
  exact ⟨rfl, HU.out⟩
set_option maxRecDepth 100000 in
set_option maxHeartbeats 1600000 in
theorem sendF1 {w : World} {base P : Nat} {Q : Nat → List Ms} (h : Pt w base P Q) (f d : Int) (hs : sdB f 2 d = true) (hl : (Q 1).length < 4) : Calls Try.prog 9 #[pq P, i64 f, i64 2, i64 d] w fun e w' => e = .returned (i64 0) ∧ Pt w' base P (upQ Q 1 (f, d)) ∧ Fr base [54, 39] w w' := by
  have hlt := h.lt
  have hlo := h.lo
  obtain ⟨a0, a1, a2, hP, hO⟩ := h.blk
  obtain ⟨ao2, cap2, w3, hrun, hown, hfr, hfar, hnew⟩ := app_far (te := 39) under51 info39x rfl (by omega) (by omega) hO.o1 [i64 f, u16v d] rfl (msl_one (f, d)) (by omega) (by omega)
  have hP3 : w3.heap[P]? = some (.cells #[a0, a1, a2] 54) := hfr.kept _ _ hP (by rfl)
  have hk3 : ∀ (k : Nat) (C : Array Value), w3.heap[k]? = some (.cells C 39) → (w3.setCell ⟨P, 1, none⟩ (.slice ao2 ((Q 1).length + 1) cap2)).heap[k]? = some (.cells C 39) := fun k C hC => by
    rw [Below.heap_setCell _ _ _ _ (fun e => by have hC' := hC; rw [show k = P from e, hP3] at hC'; simp at hC')]
    exact hC
  have rI : (w3.setCell ⟨P, 1, none⟩ (.slice ao2 ((Q 1).length + 1) cap2)).ownsRow base 39 2 (.slice ao2 ((Q 1).length + 1) cap2) (upQ Q 1 (f, d) 1).length (mcn (upQ Q 1 (f, d) 1)) := by
    have e : upQ Q 1 (f, d) 1 = Q 1 ++ [(f, d)] := by simp [upQ]
    rw [e, List.length_append, mcn_app]
    exact own_keep hown hk3
  have e0 : upQ Q 1 (f, d) 0 = Q 0 := by simp [upQ]
  have r0 : (w3.setCell ⟨P, 1, none⟩ (.slice ao2 ((Q 1).length + 1) cap2)).ownsRow base 39 2 a0 (upQ Q 1 (f, d) 0).length (mcn (upQ Q 1 (f, d) 0)) := by
    rw [e0]
    exact own_keep (own_keep1 hO.o0 (fun k hk => hfar k (hO.o0.lt k hk).2 (fun e => hO.d01 k hk e.symm))) hk3
  have dN0 : ∀ k, (Value.slice ao2 ((Q 1).length + 1) cap2).ownBlock = some k → a0.ownBlock ≠ some k := fun k h1 h2 => by
    rcases hnew with hn | hn
    · exact (fun k h1 h2 => hO.d01 k h2 h1) k (hn.symm.trans h1) h2
    · rw [hn] at h1
      have := (hO.o0.lt k h2).2
      cases h1
      omega
  have e2 : upQ Q 1 (f, d) 2 = Q 2 := by simp [upQ]
  have r2 : (w3.setCell ⟨P, 1, none⟩ (.slice ao2 ((Q 1).length + 1) cap2)).ownsRow base 39 2 a2 (upQ Q 1 (f, d) 2).length (mcn (upQ Q 1 (f, d) 2)) := by
    rw [e2]
    exact own_keep (own_keep1 hO.o2 (fun k hk => hfar k (hO.o2.lt k hk).2 (fun e => (fun k h1 h2 => hO.d12 k h2 h1) k hk e.symm))) hk3
  have dN2 : ∀ k, (Value.slice ao2 ((Q 1).length + 1) cap2).ownBlock = some k → a2.ownBlock ≠ some k := fun k h1 h2 => by
    rcases hnew with hn | hn
    · exact hO.d12 k (hn.symm.trans h1) h2
    · rw [hn] at h1
      have := (hO.o2.lt k h2).2
      cases h1
      omega
  have HU : Hid (Pt (w3.setCell ⟨P, 1, none⟩ (.slice ao2 ((Q 1).length + 1) cap2)) base P (upQ Q 1 (f, d)) ∧ Fr base [54, 39] w (w3.setCell ⟨P, 1, none⟩ (.slice ao2 ((Q 1).length + 1) cap2))) := by
    refine ⟨⟨hlo, fun i => ?_, a0, (.slice ao2 ((Q 1).length + 1) cap2), a2, ?_, r0, rI, r2, (fun k h1 h2 => dN0 k h2 h1), hO.d02, dN2⟩, (fr_up hfr).trans (Fr.of_touch ((Touch.refl P w3).setCell rfl _) hP3 (by rfl) hlo)⟩
    · by_cases hi : i = 1
      · subst hi; simp [upQ]; omega
      · simp [upQ, hi]; exact h.le i
    · have := heap_setCell_same w3 P 1 _ 54 (.slice ao2 ((Q 1).length + 1) cap2) hP3
      simpa using this
  obtain ⟨ao, cap, ha, _⟩ := own_slice hO.o1
  have p0 : w.cell? ⟨P, 1, none⟩ = some a1 := blk_cell hP 1
  have p3 : w3.cell? ⟨P, 1, none⟩ = some a1 := blk_cell hP3 1
  have pf : w3.frozen? ⟨P, 1, none⟩ = false := blk_frozen hP3 1
  rw [ha] at p0 p3 hrun
  have HRUN := hid hrun
  have HE := isEnv_ok w f
  have HF := isEnv_ok w 2
  unfold sdB at hs
  simp only [Bool.and_eq_true, decide_eq_true_eq] at hs
  obtain ⟨⟨⟨h1, h2⟩, h3⟩, h4⟩ := hs
  rw [h1] at HE
  rw [h2] at HF
  have HE := hid HE
  have HF := hid HF
  have hw := wrap_u16 h3 h4
  have hlI : ((Q 1).length : Int) < 4 := by omega
  clear hO hP h ha h1 h2 hrun hown hfr hfar hnew hP3 hk3 rI r0 r2 e0 e2 dN0 dN2
  generalize (Q 1).length = n at *
  go_enter Try.func9, Try.ntmps9
  go_wp2_with (first | (go_at_call 18; first | (refine HE.out.mono ?_; rintro e v1 ⟨rfl, hv⟩; replace hv := hv.symm; subst hv) | (refine HF.out.mono ?_; rintro e v1 ⟨rfl, hv⟩; replace hv := hv.symm; subst hv)) | (at_builtin; refine wpList_app_run rfl (.tmp 42) (.tmp 47) 51 rfl _ _ rfl rfl 51 rfl _ _ HRUN.out ?_))
  go_ret
  exact ⟨rfl, HU.out⟩
set_option maxRecDepth 100000 in
set_option maxHeartbeats 1600000 in
theorem sendF2 {w : World} {base P : Nat} {Q : Nat → List Ms} (h : Pt w base P Q) (f d : Int) (hs : sdB f 3 d = true) (hl : (Q 2).length < 4) : Calls Try.prog 9 #[pq P, i64 f, i64 3, i64 d] w fun e w' => e = .returned (i64 0) ∧ Pt w' base P (upQ Q 2 (f, d)) ∧ Fr base [54, 39] w w' := by
  have hlt := h.lt
  have hlo := h.lo
  obtain ⟨a0, a1, a2, hP, hO⟩ := h.blk
  obtain ⟨ao2, cap2, w3, hrun, hown, hfr, hfar, hnew⟩ := app_far (te := 39) under51 info39x rfl (by omega) (by omega) hO.o2 [i64 f, u16v d] rfl (msl_one (f, d)) (by omega) (by omega)
  have hP3 : w3.heap[P]? = some (.cells #[a0, a1, a2] 54) := hfr.kept _ _ hP (by rfl)
  have hk3 : ∀ (k : Nat) (C : Array Value), w3.heap[k]? = some (.cells C 39) → (w3.setCell ⟨P, 2, none⟩ (.slice ao2 ((Q 2).length + 1) cap2)).heap[k]? = some (.cells C 39) := fun k C hC => by
    rw [Below.heap_setCell _ _ _ _ (fun e => by have hC' := hC; rw [show k = P from e, hP3] at hC'; simp at hC')]
    exact hC
  have rI : (w3.setCell ⟨P, 2, none⟩ (.slice ao2 ((Q 2).length + 1) cap2)).ownsRow base 39 2 (.slice ao2 ((Q 2).length + 1) cap2) (upQ Q 2 (f, d) 2).length (mcn (upQ Q 2 (f, d) 2)) := by
    have e : upQ Q 2 (f, d) 2 = Q 2 ++ [(f, d)] := by simp [upQ]
    rw [e, List.length_append, mcn_app]
    exact own_keep hown hk3
  have e0 : upQ Q 2 (f, d) 0 = Q 0 := by simp [upQ]
  have r0 : (w3.setCell ⟨P, 2, none⟩ (.slice ao2 ((Q 2).length + 1) cap2)).ownsRow base 39 2 a0 (upQ Q 2 (f, d) 0).length (mcn (upQ Q 2 (f, d) 0)) := by
    rw [e0]
    exact own_keep (own_keep1 hO.o0 (fun k hk => hfar k (hO.o0.lt k hk).2 (fun e => hO.d02 k hk e.symm))) hk3
  have dN0 : ∀ k, (Value.slice ao2 ((Q 2).length + 1) cap2).ownBlock = some k → a0.ownBlock ≠ some k := fun k h1 h2 => by
    rcases hnew with hn | hn
    · exact (fun k h1 h2 => hO.d02 k h2 h1) k (hn.symm.trans h1) h2
    · rw [hn] at h1
      have := (hO.o0.lt k h2).2
      cases h1
      omega
  have e1 : upQ Q 2 (f, d) 1 = Q 1 := by simp [upQ]
  have r1 : (w3.setCell ⟨P, 2, none⟩ (.slice ao2 ((Q 2).length + 1) cap2)).ownsRow base 39 2 a1 (upQ Q 2 (f, d) 1).length (mcn (upQ Q 2 (f, d) 1)) := by
    rw [e1]
    exact own_keep (own_keep1 hO.o1 (fun k hk => hfar k (hO.o1.lt k hk).2 (fun e => hO.d12 k hk e.symm))) hk3
  have dN1 : ∀ k, (Value.slice ao2 ((Q 2).length + 1) cap2).ownBlock = some k → a1.ownBlock ≠ some k := fun k h1 h2 => by
    rcases hnew with hn | hn
    · exact (fun k h1 h2 => hO.d12 k h2 h1) k (hn.symm.trans h1) h2
    · rw [hn] at h1
      have := (hO.o1.lt k h2).2
      cases h1
      omega
  have HU : Hid (Pt (w3.setCell ⟨P, 2, none⟩ (.slice ao2 ((Q 2).length + 1) cap2)) base P (upQ Q 2 (f, d)) ∧ Fr base [54, 39] w (w3.setCell ⟨P, 2, none⟩ (.slice ao2 ((Q 2).length + 1) cap2))) := by
    refine ⟨⟨hlo, fun i => ?_, a0, a1, (.slice ao2 ((Q 2).length + 1) cap2), ?_, r0, r1, rI, hO.d01, (fun k h1 h2 => dN0 k h2 h1), (fun k h1 h2 => dN1 k h2 h1)⟩, (fr_up hfr).trans (Fr.of_touch ((Touch.refl P w3).setCell rfl _) hP3 (by rfl) hlo)⟩
    · by_cases hi : i = 2
      · subst hi; simp [upQ]; omega
      · simp [upQ, hi]; exact h.le i
    · have := heap_setCell_same w3 P 2 _ 54 (.slice ao2 ((Q 2).length + 1) cap2) hP3
      simpa using this
  obtain ⟨ao, cap, ha, _⟩ := own_slice hO.o2
  have p0 : w.cell? ⟨P, 2, none⟩ = some a2 := blk_cell hP 2
  have p3 : w3.cell? ⟨P, 2, none⟩ = some a2 := blk_cell hP3 2
  have pf : w3.frozen? ⟨P, 2, none⟩ = false := blk_frozen hP3 2
  rw [ha] at p0 p3 hrun
  have HRUN := hid hrun
  have HE := isEnv_ok w f
  have HF := isEnv_ok w 3
  unfold sdB at hs
  simp only [Bool.and_eq_true, decide_eq_true_eq] at hs
  obtain ⟨⟨⟨h1, h2⟩, h3⟩, h4⟩ := hs
  rw [h1] at HE
  rw [h2] at HF
  have HE := hid HE
  have HF := hid HF
  have hw := wrap_u16 h3 h4
  have hlI : ((Q 2).length : Int) < 4 := by omega
  clear hO hP h ha h1 h2 hrun hown hfr hfar hnew hP3 hk3 rI r0 r1 e0 e1 dN0 dN1
  generalize (Q 2).length = n at *
  go_enter Try.func9, Try.ntmps9
  go_wp2_with (first | (go_at_call 18; first | (refine HE.out.mono ?_; rintro e v1 ⟨rfl, hv⟩; replace hv := hv.symm; subst hv) | (refine HF.out.mono ?_; rintro e v1 ⟨rfl, hv⟩; replace hv := hv.symm; subst hv)) | (at_builtin; refine wpList_app_run rfl (.tmp 42) (.tmp 47) 51 rfl _ _ rfl rfl 51 rfl _ _ HRUN.out ?_))
  go_ret
  exact ⟨rfl, HU.out⟩
set_option maxRecDepth 100000 in
set_option maxHeartbeats 3200000 in
theorem recvF0 {w : World} {base P : Nat} {Q : Nat → List Ms} (h : Pt w base P Q) (f d : Int) (r : List Ms) (hq : Q 0 = (f, d) :: r) : Calls Try.prog 11 #[pq P, i64 1] w fun e w' => e = .returned (.tuple #[msV (f, d), i64 0]) ∧ Pt w' base P (cutQ20 1 Q) ∧ Tq w.heap.size P w w' := by
  have hPl := h.lt
  obtain ⟨n, hn⟩ : ∃ n : Int, n = 1 := ⟨_, rfl⟩
  obtain ⟨hBV, hK1, hK2, hsz⟩ := two_em w n
  obtain ⟨V, hV⟩ : ∃ V, V = (w.alloc (.cells #[i64 n] 3)).alloc (msO (0, 0)) := ⟨_, rfl⟩
  have HVe : Hid ((w.alloc (.cells #[i64 n] 3)).alloc (.cells #[i64 0, u16v 0] 39) = V) := hV.symm
  rw [← hV] at hBV hK1 hK2 hsz
  have HB := hid hBV
  have HK1 := hid hK1
  have HK2 := hid hK2
  have x0 : V.cell? ⟨w.heap.size, 0, none⟩ = some (i64 n) := blk_cell hK1 0
  have k0 : V.cell? ⟨w.heap.size + 1, 0, none⟩ = some (i64 0) := blk_cell hK2 0
  have k1 : V.cell? ⟨w.heap.size + 1, 1, none⟩ = some (u16v 0) := blk_cell hK2 1
  have kf : ∀ j, V.frozen? ⟨w.heap.size + 1, j, none⟩ = false := blk_frozen hK2
  rw [hn] at x0 hK1
  have hpt := h.below hBV
  have HE := isEnv_ok V 1
  rw [show envB 1 = true by decide] at HE
  have HE := hid HE
  have HW := hid (waits0 hpt)
  obtain ⟨a0, a1, a2, hP, hO⟩ := hpt.blk
  have hrow := hO.o0
  have hll := hpt.le 0
  obtain ⟨N, hN⟩ : ∃ N, N = (Q 0).length := ⟨_, rfl⟩
  rw [← hN] at hrow HW hll
  have hN0 : 0 < N := by rw [hN, hq]; simp
  rcases hrow.2 with ⟨_, hnil⟩ | ⟨g, cap, cur, hv, hbg, hgg, _⟩
  · exfalso; omega
  subst hv
  have c0 : V.cell? ⟨g, 0, none⟩ = some (i64 f) := by rw [hrow.cellAt 0 (by omega), hq]; rfl
  have c1 : V.cell? ⟨g, 1, none⟩ = some (u16v d) := by rw [hrow.cellAt 1 (by omega), hq]; rfl
  have HS : Hid (SqV w.heap.size P 0 g 1 (.slice (some ⟨g, 0, none⟩) N cap) f d V.drew) := ⟨x0, blk_cell hP 0, c0, c1⟩
  have HPU : Hid (Pt (V.alloc (msO (f, d))).drew base P Q) := by
    obtain ⟨q0, q1, q2⟩ := hpt.below (below_one V (msO (f, d)))
    exact ⟨q0, q1, by obtain ⟨b0, b1, b2, h1, h2⟩ := q2; exact ⟨b0, b1, b2, h1, h2.o0, h2.o1, h2.o2, h2.d01, h2.d02, h2.d12⟩⟩
  have HC := hid (cut20 HPU.out w.heap.size 1 (blk_alloc hK1 _))
  have hNI : (N : Int) ≤ 4 := by omega
  have hNI0 : (0 : Int) < N := by omega
  have hNe : ((N : Int) == 0) = false := by simp; omega
  have hXV : w.heap.size < V.heap.size := by omega
  have hPV : P < V.heap.size := by omega
  have hgV : g < V.heap.size := blk_lt hgg
  obtain rfl := hn
  clear hV hBV hK1 hK2 hpt hP hO hrow hN hbg hgg c0 c1 hq h
  go_enter Try.func11, Try.ntmps11
  go_upto_region 1 with fail
  rw [HVe.out]
  go_wp2_with fail
  refine HE.out.mono ?_
  rintro e v1 ⟨rfl, hv⟩
  replace hv := hv.symm
  subst hv
  go_wp2_with fail
  refine HW.out.mono ?_
  rintro e v1 ⟨rfl, hv⟩
  replace hv := hv.symm
  subst hv
  go_upto_region 5 with fail
  refine wp_region_noPanic ?_
  refine wp_region_last (SqV w.heap.size P 0 g 1 (.slice (some ⟨g, 0, none⟩) N cap) f d) 10 (by kernel_rfl) ?_
  refine wpL_take 0 16 (pq P) [] rfl rfl (by kernel_rfl) (by decide) (by kernel_rfl) (by kernel_rfl) (by kernel_rfl) (fun _ _ _ h => h) HS.out (by rfl) (fun W hW => by obtain ⟨x0, p0, g0, g1⟩ := hW; go_simp) ?_
  simp only [Act.put, List.setIfInBounds_toArray, List.set_cons_zero, List.set_cons_succ]
  refine wpL_take 1 17 (i64 1) [] rfl rfl (by kernel_rfl) (by decide) (by kernel_rfl) (by kernel_rfl) (by kernel_rfl) (fun _ _ _ h => h) HS.out (by rfl) (fun W hW => by obtain ⟨x0, p0, g0, g1⟩ := hW; go_simp) ?_
  simp only [Act.put, List.setIfInBounds_toArray, List.set_cons_zero, List.set_cons_succ]
  refine wpL_take 2 18 (i64 0) [] rfl rfl (by kernel_rfl) (by decide) (by kernel_rfl) (by kernel_rfl) (by kernel_rfl) (fun _ _ _ h => h) HS.out (by rfl) (fun W hW => by obtain ⟨x0, p0, g0, g1⟩ := hW; go_simp; rfl) ?_
  simp only [Act.put, List.setIfInBounds_toArray, List.set_cons_zero, List.set_cons_succ]
  refine wpL_take 3 19 (pq P) [] rfl rfl (by kernel_rfl) (by decide) (by kernel_rfl) (by kernel_rfl) (by kernel_rfl) (fun _ _ _ h => h) HS.out (by rfl) (fun W hW => by obtain ⟨x0, p0, g0, g1⟩ := hW; go_simp) ?_
  simp only [Act.put, List.setIfInBounds_toArray, List.set_cons_zero, List.set_cons_succ]
  refine wpL_take 4 20 (pq P) [] rfl rfl (by kernel_rfl) (by decide) (by kernel_rfl) (by kernel_rfl) (by kernel_rfl) (fun _ _ _ h => h) HS.out (by rfl) (fun W hW => by obtain ⟨x0, p0, g0, g1⟩ := hW; go_simp) ?_
  simp only [Act.put, List.setIfInBounds_toArray, List.set_cons_zero, List.set_cons_succ]
  refine wpL_take 5 21 (.pointer (some ⟨P, 0, none⟩)) [] rfl rfl (by kernel_rfl) (by decide) (by kernel_rfl) (by kernel_rfl) (by kernel_rfl) (fun _ _ _ h => h) HS.out (by rfl) (fun W hW => by obtain ⟨x0, p0, g0, g1⟩ := hW; go_simp) ?_
  simp only [Act.put, List.setIfInBounds_toArray, List.set_cons_zero, List.set_cons_succ]
  refine wpL_take 6 22 (.slice (some ⟨g, 0, none⟩) N cap) [] rfl rfl (by kernel_rfl) (by decide) (by kernel_rfl) (by kernel_rfl) (by kernel_rfl) (fun _ _ _ h => h) HS.out (by rfl) (fun W hW => by obtain ⟨x0, p0, g0, g1⟩ := hW; go_simp) ?_
  simp only [Act.put, List.setIfInBounds_toArray, List.set_cons_zero, List.set_cons_succ]
  refine wpL_take 7 23 (pq g) [] rfl rfl (by kernel_rfl) (by decide) (by kernel_rfl) (by kernel_rfl) (by kernel_rfl) (fun _ _ _ h => h) HS.out (by rfl) (fun W hW => by obtain ⟨x0, p0, g0, g1⟩ := hW; go_simp) ?_
  simp only [Act.put, List.setIfInBounds_toArray, List.set_cons_zero, List.set_cons_succ]
  refine wpL_take 8 24 (.agg #[i64 f, u16v d]) [] rfl rfl (by kernel_rfl) (by decide) (by kernel_rfl) (by kernel_rfl) (by kernel_rfl) (fun _ _ _ h => h) HS.out (by rfl) (fun W hW => by obtain ⟨x0, p0, g0, g1⟩ := hW; go_simp) ?_
  simp only [Act.put, List.setIfInBounds_toArray, List.set_cons_zero, List.set_cons_succ]
  refine wpL_one 9 rfl (by kernel_rfl) (by rfl) (fun K hK => ?_)
  go_simp
  refine hK.out _ _ (fun _ => ⟨cell_keep (w := V) HS.out.x _, cell_keep (w := V) HS.out.p _, cell_keep (w := V) HS.out.g0 _, cell_keep (w := V) HS.out.g1 _⟩) ?_
  clear hK K
  refine wpL_one 10 rfl (by kernel_rfl) (by rfl) (fun K hK => ?_)
  go_simp
  refine hK.out _ _ (fun h => absurd rfl h) ?_
  clear hK K
  refine wpL_done (by kernel_rfl) ?_
  refine NoPanic.normal ?_
  have HU1 : Hid ((V.alloc (msO (f, d))).drew.heap[w.heap.size + 2]? = some (msO (f, d))) := by rw [← hsz]; exact heap_last V _
  have HU2 : Hid ((V.alloc (msO (f, d))).drew.heap[w.heap.size + 1]? = some (msO (0, 0))) := blk_alloc HK2.out _
  have HUs : Hid ((V.alloc (msO (f, d))).drew.heap.size = w.heap.size + 3) := by show (V.alloc (msO (f, d))).heap.size = _; simp [hsz]
  have HUb : Hid (Below w.heap.size w (V.alloc (msO (f, d))).drew) := (HB.out.alloc HB.out.size _).drew
  go_wp2_with fail
  refine HC.out.mono ?_
  rintro e w5 ⟨rfl, hf, htq⟩
  rw [HUs.out] at htq
  have e1 : w5.heap[w.heap.size + 2]? = some (msO (f, d)) := (htq.block _ (by omega) (by omega)).trans HU1.out
  have e2 : w5.heap[w.heap.size + 1]? = some (msO (0, 0)) := (htq.block _ (by omega) (by omega)).trans HU2.out
  have y0 : w5.cell? ⟨w.heap.size + 2, 0, none⟩ = some (i64 f) := blk_cell e1 0
  have y1 : w5.cell? ⟨w.heap.size + 2, 1, none⟩ = some (u16v d) := blk_cell e1 1
  have z0 : w5.cell? ⟨w.heap.size + 1, 0, none⟩ = some (i64 0) := blk_cell e2 0
  have z1 : w5.cell? ⟨w.heap.size + 1, 1, none⟩ = some (u16v 0) := blk_cell e2 1
  have zf : ∀ j, w5.frozen? ⟨w.heap.size + 1, j, none⟩ = false := blk_frozen e2
  have HE2 := hid e2
  have HF : Hid (Pt ((w5.setCell ⟨w.heap.size + 1, 0, none⟩ (i64 f)).setCell ⟨w.heap.size + 1, 1, none⟩ (u16v d)) base P (cutQ20 1 Q) ∧ Tq w.heap.size P w ((w5.setCell ⟨w.heap.size + 1, 0, none⟩ (i64 f)).setCell ⟨w.heap.size + 1, 1, none⟩ (u16v d))) := by
    refine ⟨hf _ (fun k hk => ?_) ?_, by have t1 : Tq w.heap.size P w w5 := (Tq.of_below HUb.out).trans (htq.mono (by omega)); exact ⟨t1.os, t1.tape, t1.output, by have := t1.size; simpa [World.setCell] using this, fun k hk hne => by rw [Below.heap_setCell _ _ _ _ (by show k ≠ w.heap.size + 1; omega), Below.heap_setCell _ _ _ _ (by show k ≠ w.heap.size + 1; omega)]; exact t1.block k hk hne⟩⟩
    · rw [HUs.out] at hk
      rw [Below.heap_setCell _ _ _ _ (by show k ≠ w.heap.size + 1; omega), Below.heap_setCell _ _ _ _ (by show k ≠ w.heap.size + 1; omega)]
    · rw [Below.heap_setCell _ _ _ _ (by show P ≠ w.heap.size + 1; omega), Below.heap_setCell _ _ _ _ (by show P ≠ w.heap.size + 1; omega)]
  clear hf htq e1 e2
  generalize gc Q (cutQ20 1 Q) 3 = G at *
  go_wp2_with fail
  exact bodyPost_ret (results_cell Try.results11 rfl rfl (load39 (m := (f, d)) (set2 HE2.out _ _))) rfl ⟨rfl, HF.out⟩
set_option maxRecDepth 100000 in
set_option maxHeartbeats 3200000 in
theorem recvF1 {w : World} {base P : Nat} {Q : Nat → List Ms} (h : Pt w base P Q) (f d : Int) (r : List Ms) (hq : Q 1 = (f, d) :: r) : Calls Try.prog 11 #[pq P, i64 2] w fun e w' => e = .returned (.tuple #[msV (f, d), i64 0]) ∧ Pt w' base P (cutQ20 2 Q) ∧ Tq w.heap.size P w w' := by
  have hPl := h.lt
  obtain ⟨n, hn⟩ : ∃ n : Int, n = 2 := ⟨_, rfl⟩
  obtain ⟨hBV, hK1, hK2, hsz⟩ := two_em w n
  obtain ⟨V, hV⟩ : ∃ V, V = (w.alloc (.cells #[i64 n] 3)).alloc (msO (0, 0)) := ⟨_, rfl⟩
  have HVe : Hid ((w.alloc (.cells #[i64 n] 3)).alloc (.cells #[i64 0, u16v 0] 39) = V) := hV.symm
  rw [← hV] at hBV hK1 hK2 hsz
  have HB := hid hBV
  have HK1 := hid hK1
  have HK2 := hid hK2
  have x0 : V.cell? ⟨w.heap.size, 0, none⟩ = some (i64 n) := blk_cell hK1 0
  have k0 : V.cell? ⟨w.heap.size + 1, 0, none⟩ = some (i64 0) := blk_cell hK2 0
  have k1 : V.cell? ⟨w.heap.size + 1, 1, none⟩ = some (u16v 0) := blk_cell hK2 1
  have kf : ∀ j, V.frozen? ⟨w.heap.size + 1, j, none⟩ = false := blk_frozen hK2
  rw [hn] at x0 hK1
  have hpt := h.below hBV
  have HE := isEnv_ok V 2
  rw [show envB 2 = true by decide] at HE
  have HE := hid HE
  have HW := hid (waits1 hpt)
  obtain ⟨a0, a1, a2, hP, hO⟩ := hpt.blk
  have hrow := hO.o1
  have hll := hpt.le 1
  obtain ⟨N, hN⟩ : ∃ N, N = (Q 1).length := ⟨_, rfl⟩
  rw [← hN] at hrow HW hll
  have hN0 : 0 < N := by rw [hN, hq]; simp
  rcases hrow.2 with ⟨_, hnil⟩ | ⟨g, cap, cur, hv, hbg, hgg, _⟩
  · exfalso; omega
  subst hv
  have c0 : V.cell? ⟨g, 0, none⟩ = some (i64 f) := by rw [hrow.cellAt 0 (by omega), hq]; rfl
  have c1 : V.cell? ⟨g, 1, none⟩ = some (u16v d) := by rw [hrow.cellAt 1 (by omega), hq]; rfl
  have HS : Hid (SqV w.heap.size P 1 g 2 (.slice (some ⟨g, 0, none⟩) N cap) f d V.drew) := ⟨x0, blk_cell hP 1, c0, c1⟩
  have HPU : Hid (Pt (V.alloc (msO (f, d))).drew base P Q) := by
    obtain ⟨q0, q1, q2⟩ := hpt.below (below_one V (msO (f, d)))
    exact ⟨q0, q1, by obtain ⟨b0, b1, b2, h1, h2⟩ := q2; exact ⟨b0, b1, b2, h1, h2.o0, h2.o1, h2.o2, h2.d01, h2.d02, h2.d12⟩⟩
  have HC := hid (cut20 HPU.out w.heap.size 2 (blk_alloc hK1 _))
  have hNI : (N : Int) ≤ 4 := by omega
  have hNI0 : (0 : Int) < N := by omega
  have hNe : ((N : Int) == 0) = false := by simp; omega
  have hXV : w.heap.size < V.heap.size := by omega
  have hPV : P < V.heap.size := by omega
  have hgV : g < V.heap.size := blk_lt hgg
  obtain rfl := hn
  clear hV hBV hK1 hK2 hpt hP hO hrow hN hbg hgg c0 c1 hq h
  go_enter Try.func11, Try.ntmps11
  go_upto_region 1 with fail
  rw [HVe.out]
  go_wp2_with fail
  refine HE.out.mono ?_
  rintro e v1 ⟨rfl, hv⟩
  replace hv := hv.symm
  subst hv
  go_wp2_with fail
  refine HW.out.mono ?_
  rintro e v1 ⟨rfl, hv⟩
  replace hv := hv.symm
  subst hv
  go_upto_region 5 with fail
  refine wp_region_noPanic ?_
  refine wp_region_last (SqV w.heap.size P 1 g 2 (.slice (some ⟨g, 0, none⟩) N cap) f d) 10 (by kernel_rfl) ?_
  refine wpL_take 0 16 (pq P) [] rfl rfl (by kernel_rfl) (by decide) (by kernel_rfl) (by kernel_rfl) (by kernel_rfl) (fun _ _ _ h => h) HS.out (by rfl) (fun W hW => by obtain ⟨x0, p0, g0, g1⟩ := hW; go_simp) ?_
  simp only [Act.put, List.setIfInBounds_toArray, List.set_cons_zero, List.set_cons_succ]
  refine wpL_take 1 17 (i64 2) [] rfl rfl (by kernel_rfl) (by decide) (by kernel_rfl) (by kernel_rfl) (by kernel_rfl) (fun _ _ _ h => h) HS.out (by rfl) (fun W hW => by obtain ⟨x0, p0, g0, g1⟩ := hW; go_simp) ?_
  simp only [Act.put, List.setIfInBounds_toArray, List.set_cons_zero, List.set_cons_succ]
  refine wpL_take 2 18 (i64 1) [] rfl rfl (by kernel_rfl) (by decide) (by kernel_rfl) (by kernel_rfl) (by kernel_rfl) (fun _ _ _ h => h) HS.out (by rfl) (fun W hW => by obtain ⟨x0, p0, g0, g1⟩ := hW; go_simp; rfl) ?_
  simp only [Act.put, List.setIfInBounds_toArray, List.set_cons_zero, List.set_cons_succ]
  refine wpL_take 3 19 (pq P) [] rfl rfl (by kernel_rfl) (by decide) (by kernel_rfl) (by kernel_rfl) (by kernel_rfl) (fun _ _ _ h => h) HS.out (by rfl) (fun W hW => by obtain ⟨x0, p0, g0, g1⟩ := hW; go_simp) ?_
  simp only [Act.put, List.setIfInBounds_toArray, List.set_cons_zero, List.set_cons_succ]
  refine wpL_take 4 20 (pq P) [] rfl rfl (by kernel_rfl) (by decide) (by kernel_rfl) (by kernel_rfl) (by kernel_rfl) (fun _ _ _ h => h) HS.out (by rfl) (fun W hW => by obtain ⟨x0, p0, g0, g1⟩ := hW; go_simp) ?_
  simp only [Act.put, List.setIfInBounds_toArray, List.set_cons_zero, List.set_cons_succ]
  refine wpL_take 5 21 (.pointer (some ⟨P, 1, none⟩)) [] rfl rfl (by kernel_rfl) (by decide) (by kernel_rfl) (by kernel_rfl) (by kernel_rfl) (fun _ _ _ h => h) HS.out (by rfl) (fun W hW => by obtain ⟨x0, p0, g0, g1⟩ := hW; go_simp) ?_
  simp only [Act.put, List.setIfInBounds_toArray, List.set_cons_zero, List.set_cons_succ]
  refine wpL_take 6 22 (.slice (some ⟨g, 0, none⟩) N cap) [] rfl rfl (by kernel_rfl) (by decide) (by kernel_rfl) (by kernel_rfl) (by kernel_rfl) (fun _ _ _ h => h) HS.out (by rfl) (fun W hW => by obtain ⟨x0, p0, g0, g1⟩ := hW; go_simp) ?_
  simp only [Act.put, List.setIfInBounds_toArray, List.set_cons_zero, List.set_cons_succ]
  refine wpL_take 7 23 (pq g) [] rfl rfl (by kernel_rfl) (by decide) (by kernel_rfl) (by kernel_rfl) (by kernel_rfl) (fun _ _ _ h => h) HS.out (by rfl) (fun W hW => by obtain ⟨x0, p0, g0, g1⟩ := hW; go_simp) ?_
  simp only [Act.put, List.setIfInBounds_toArray, List.set_cons_zero, List.set_cons_succ]
  refine wpL_take 8 24 (.agg #[i64 f, u16v d]) [] rfl rfl (by kernel_rfl) (by decide) (by kernel_rfl) (by kernel_rfl) (by kernel_rfl) (fun _ _ _ h => h) HS.out (by rfl) (fun W hW => by obtain ⟨x0, p0, g0, g1⟩ := hW; go_simp) ?_
  simp only [Act.put, List.setIfInBounds_toArray, List.set_cons_zero, List.set_cons_succ]
  refine wpL_one 9 rfl (by kernel_rfl) (by rfl) (fun K hK => ?_)
  go_simp
  refine hK.out _ _ (fun _ => ⟨cell_keep (w := V) HS.out.x _, cell_keep (w := V) HS.out.p _, cell_keep (w := V) HS.out.g0 _, cell_keep (w := V) HS.out.g1 _⟩) ?_
  clear hK K
  refine wpL_one 10 rfl (by kernel_rfl) (by rfl) (fun K hK => ?_)
  go_simp
  refine hK.out _ _ (fun h => absurd rfl h) ?_
  clear hK K
  refine wpL_done (by kernel_rfl) ?_
  refine NoPanic.normal ?_
  have HU1 : Hid ((V.alloc (msO (f, d))).drew.heap[w.heap.size + 2]? = some (msO (f, d))) := by rw [← hsz]; exact heap_last V _
  have HU2 : Hid ((V.alloc (msO (f, d))).drew.heap[w.heap.size + 1]? = some (msO (0, 0))) := blk_alloc HK2.out _
  have HUs : Hid ((V.alloc (msO (f, d))).drew.heap.size = w.heap.size + 3) := by show (V.alloc (msO (f, d))).heap.size = _; simp [hsz]
  have HUb : Hid (Below w.heap.size w (V.alloc (msO (f, d))).drew) := (HB.out.alloc HB.out.size _).drew
  go_wp2_with fail
  refine HC.out.mono ?_
  rintro e w5 ⟨rfl, hf, htq⟩
  rw [HUs.out] at htq
  have e1 : w5.heap[w.heap.size + 2]? = some (msO (f, d)) := (htq.block _ (by omega) (by omega)).trans HU1.out
  have e2 : w5.heap[w.heap.size + 1]? = some (msO (0, 0)) := (htq.block _ (by omega) (by omega)).trans HU2.out
  have y0 : w5.cell? ⟨w.heap.size + 2, 0, none⟩ = some (i64 f) := blk_cell e1 0
  have y1 : w5.cell? ⟨w.heap.size + 2, 1, none⟩ = some (u16v d) := blk_cell e1 1
  have z0 : w5.cell? ⟨w.heap.size + 1, 0, none⟩ = some (i64 0) := blk_cell e2 0
  have z1 : w5.cell? ⟨w.heap.size + 1, 1, none⟩ = some (u16v 0) := blk_cell e2 1
  have zf : ∀ j, w5.frozen? ⟨w.heap.size + 1, j, none⟩ = false := blk_frozen e2
  have HE2 := hid e2
  have HF : Hid (Pt ((w5.setCell ⟨w.heap.size + 1, 0, none⟩ (i64 f)).setCell ⟨w.heap.size + 1, 1, none⟩ (u16v d)) base P (cutQ20 2 Q) ∧ Tq w.heap.size P w ((w5.setCell ⟨w.heap.size + 1, 0, none⟩ (i64 f)).setCell ⟨w.heap.size + 1, 1, none⟩ (u16v d))) := by
    refine ⟨hf _ (fun k hk => ?_) ?_, by have t1 : Tq w.heap.size P w w5 := (Tq.of_below HUb.out).trans (htq.mono (by omega)); exact ⟨t1.os, t1.tape, t1.output, by have := t1.size; simpa [World.setCell] using this, fun k hk hne => by rw [Below.heap_setCell _ _ _ _ (by show k ≠ w.heap.size + 1; omega), Below.heap_setCell _ _ _ _ (by show k ≠ w.heap.size + 1; omega)]; exact t1.block k hk hne⟩⟩
    · rw [HUs.out] at hk
      rw [Below.heap_setCell _ _ _ _ (by show k ≠ w.heap.size + 1; omega), Below.heap_setCell _ _ _ _ (by show k ≠ w.heap.size + 1; omega)]
    · rw [Below.heap_setCell _ _ _ _ (by show P ≠ w.heap.size + 1; omega), Below.heap_setCell _ _ _ _ (by show P ≠ w.heap.size + 1; omega)]
  clear hf htq e1 e2
  generalize gc Q (cutQ20 2 Q) 3 = G at *
  go_wp2_with fail
  exact bodyPost_ret (results_cell Try.results11 rfl rfl (load39 (m := (f, d)) (set2 HE2.out _ _))) rfl ⟨rfl, HF.out⟩
set_option maxRecDepth 100000 in
set_option maxHeartbeats 3200000 in
theorem recvF2 {w : World} {base P : Nat} {Q : Nat → List Ms} (h : Pt w base P Q) (f d : Int) (r : List Ms) (hq : Q 2 = (f, d) :: r) : Calls Try.prog 11 #[pq P, i64 3] w fun e w' => e = .returned (.tuple #[msV (f, d), i64 0]) ∧ Pt w' base P (cutQ20 3 Q) ∧ Tq w.heap.size P w w' := by
  have hPl := h.lt
  obtain ⟨n, hn⟩ : ∃ n : Int, n = 3 := ⟨_, rfl⟩
  obtain ⟨hBV, hK1, hK2, hsz⟩ := two_em w n
  obtain ⟨V, hV⟩ : ∃ V, V = (w.alloc (.cells #[i64 n] 3)).alloc (msO (0, 0)) := ⟨_, rfl⟩
  have HVe : Hid ((w.alloc (.cells #[i64 n] 3)).alloc (.cells #[i64 0, u16v 0] 39) = V) := hV.symm
  rw [← hV] at hBV hK1 hK2 hsz
  have HB := hid hBV
  have HK1 := hid hK1
  have HK2 := hid hK2
  have x0 : V.cell? ⟨w.heap.size, 0, none⟩ = some (i64 n) := blk_cell hK1 0
  have k0 : V.cell? ⟨w.heap.size + 1, 0, none⟩ = some (i64 0) := blk_cell hK2 0
  have k1 : V.cell? ⟨w.heap.size + 1, 1, none⟩ = some (u16v 0) := blk_cell hK2 1
  have kf : ∀ j, V.frozen? ⟨w.heap.size + 1, j, none⟩ = false := blk_frozen hK2
  rw [hn] at x0 hK1
  have hpt := h.below hBV
  have HE := isEnv_ok V 3
  rw [show envB 3 = true by decide] at HE
  have HE := hid HE
  have HW := hid (waits2 hpt)
  obtain ⟨a0, a1, a2, hP, hO⟩ := hpt.blk
  have hrow := hO.o2
  have hll := hpt.le 2
  obtain ⟨N, hN⟩ : ∃ N, N = (Q 2).length := ⟨_, rfl⟩
  rw [← hN] at hrow HW hll
  have hN0 : 0 < N := by rw [hN, hq]; simp
  rcases hrow.2 with ⟨_, hnil⟩ | ⟨g, cap, cur, hv, hbg, hgg, _⟩
  · exfalso; omega
  subst hv
  have c0 : V.cell? ⟨g, 0, none⟩ = some (i64 f) := by rw [hrow.cellAt 0 (by omega), hq]; rfl
  have c1 : V.cell? ⟨g, 1, none⟩ = some (u16v d) := by rw [hrow.cellAt 1 (by omega), hq]; rfl
  have HS : Hid (SqV w.heap.size P 2 g 3 (.slice (some ⟨g, 0, none⟩) N cap) f d V.drew) := ⟨x0, blk_cell hP 2, c0, c1⟩
  have HPU : Hid (Pt (V.alloc (msO (f, d))).drew base P Q) := by
    obtain ⟨q0, q1, q2⟩ := hpt.below (below_one V (msO (f, d)))
    exact ⟨q0, q1, by obtain ⟨b0, b1, b2, h1, h2⟩ := q2; exact ⟨b0, b1, b2, h1, h2.o0, h2.o1, h2.o2, h2.d01, h2.d02, h2.d12⟩⟩
  have HC := hid (cut20 HPU.out w.heap.size 3 (blk_alloc hK1 _))
  have hNI : (N : Int) ≤ 4 := by omega
  have hNI0 : (0 : Int) < N := by omega
  have hNe : ((N : Int) == 0) = false := by simp; omega
  have hXV : w.heap.size < V.heap.size := by omega
  have hPV : P < V.heap.size := by omega
  have hgV : g < V.heap.size := blk_lt hgg
  obtain rfl := hn
  clear hV hBV hK1 hK2 hpt hP hO hrow hN hbg hgg c0 c1 hq h
  go_enter Try.func11, Try.ntmps11
  go_upto_region 1 with fail
  rw [HVe.out]
  go_wp2_with fail
  refine HE.out.mono ?_
  rintro e v1 ⟨rfl, hv⟩
  replace hv := hv.symm
  subst hv
  go_wp2_with fail
  refine HW.out.mono ?_
  rintro e v1 ⟨rfl, hv⟩
  replace hv := hv.symm
  subst hv
  go_upto_region 5 with fail
  refine wp_region_noPanic ?_
  refine wp_region_last (SqV w.heap.size P 2 g 3 (.slice (some ⟨g, 0, none⟩) N cap) f d) 10 (by kernel_rfl) ?_
  refine wpL_take 0 16 (pq P) [] rfl rfl (by kernel_rfl) (by decide) (by kernel_rfl) (by kernel_rfl) (by kernel_rfl) (fun _ _ _ h => h) HS.out (by rfl) (fun W hW => by obtain ⟨x0, p0, g0, g1⟩ := hW; go_simp) ?_
  simp only [Act.put, List.setIfInBounds_toArray, List.set_cons_zero, List.set_cons_succ]
  refine wpL_take 1 17 (i64 3) [] rfl rfl (by kernel_rfl) (by decide) (by kernel_rfl) (by kernel_rfl) (by kernel_rfl) (fun _ _ _ h => h) HS.out (by rfl) (fun W hW => by obtain ⟨x0, p0, g0, g1⟩ := hW; go_simp) ?_
  simp only [Act.put, List.setIfInBounds_toArray, List.set_cons_zero, List.set_cons_succ]
  refine wpL_take 2 18 (i64 2) [] rfl rfl (by kernel_rfl) (by decide) (by kernel_rfl) (by kernel_rfl) (by kernel_rfl) (fun _ _ _ h => h) HS.out (by rfl) (fun W hW => by obtain ⟨x0, p0, g0, g1⟩ := hW; go_simp; rfl) ?_
  simp only [Act.put, List.setIfInBounds_toArray, List.set_cons_zero, List.set_cons_succ]
  refine wpL_take 3 19 (pq P) [] rfl rfl (by kernel_rfl) (by decide) (by kernel_rfl) (by kernel_rfl) (by kernel_rfl) (fun _ _ _ h => h) HS.out (by rfl) (fun W hW => by obtain ⟨x0, p0, g0, g1⟩ := hW; go_simp) ?_
  simp only [Act.put, List.setIfInBounds_toArray, List.set_cons_zero, List.set_cons_succ]
  refine wpL_take 4 20 (pq P) [] rfl rfl (by kernel_rfl) (by decide) (by kernel_rfl) (by kernel_rfl) (by kernel_rfl) (fun _ _ _ h => h) HS.out (by rfl) (fun W hW => by obtain ⟨x0, p0, g0, g1⟩ := hW; go_simp) ?_
  simp only [Act.put, List.setIfInBounds_toArray, List.set_cons_zero, List.set_cons_succ]
  refine wpL_take 5 21 (.pointer (some ⟨P, 2, none⟩)) [] rfl rfl (by kernel_rfl) (by decide) (by kernel_rfl) (by kernel_rfl) (by kernel_rfl) (fun _ _ _ h => h) HS.out (by rfl) (fun W hW => by obtain ⟨x0, p0, g0, g1⟩ := hW; go_simp) ?_
  simp only [Act.put, List.setIfInBounds_toArray, List.set_cons_zero, List.set_cons_succ]
  refine wpL_take 6 22 (.slice (some ⟨g, 0, none⟩) N cap) [] rfl rfl (by kernel_rfl) (by decide) (by kernel_rfl) (by kernel_rfl) (by kernel_rfl) (fun _ _ _ h => h) HS.out (by rfl) (fun W hW => by obtain ⟨x0, p0, g0, g1⟩ := hW; go_simp) ?_
  simp only [Act.put, List.setIfInBounds_toArray, List.set_cons_zero, List.set_cons_succ]
  refine wpL_take 7 23 (pq g) [] rfl rfl (by kernel_rfl) (by decide) (by kernel_rfl) (by kernel_rfl) (by kernel_rfl) (fun _ _ _ h => h) HS.out (by rfl) (fun W hW => by obtain ⟨x0, p0, g0, g1⟩ := hW; go_simp) ?_
  simp only [Act.put, List.setIfInBounds_toArray, List.set_cons_zero, List.set_cons_succ]
  refine wpL_take 8 24 (.agg #[i64 f, u16v d]) [] rfl rfl (by kernel_rfl) (by decide) (by kernel_rfl) (by kernel_rfl) (by kernel_rfl) (fun _ _ _ h => h) HS.out (by rfl) (fun W hW => by obtain ⟨x0, p0, g0, g1⟩ := hW; go_simp) ?_
  simp only [Act.put, List.setIfInBounds_toArray, List.set_cons_zero, List.set_cons_succ]
  refine wpL_one 9 rfl (by kernel_rfl) (by rfl) (fun K hK => ?_)
  go_simp
  refine hK.out _ _ (fun _ => ⟨cell_keep (w := V) HS.out.x _, cell_keep (w := V) HS.out.p _, cell_keep (w := V) HS.out.g0 _, cell_keep (w := V) HS.out.g1 _⟩) ?_
  clear hK K
  refine wpL_one 10 rfl (by kernel_rfl) (by rfl) (fun K hK => ?_)
  go_simp
  refine hK.out _ _ (fun h => absurd rfl h) ?_
  clear hK K
  refine wpL_done (by kernel_rfl) ?_
  refine NoPanic.normal ?_
  have HU1 : Hid ((V.alloc (msO (f, d))).drew.heap[w.heap.size + 2]? = some (msO (f, d))) := by rw [← hsz]; exact heap_last V _
  have HU2 : Hid ((V.alloc (msO (f, d))).drew.heap[w.heap.size + 1]? = some (msO (0, 0))) := blk_alloc HK2.out _
  have HUs : Hid ((V.alloc (msO (f, d))).drew.heap.size = w.heap.size + 3) := by show (V.alloc (msO (f, d))).heap.size = _; simp [hsz]
  have HUb : Hid (Below w.heap.size w (V.alloc (msO (f, d))).drew) := (HB.out.alloc HB.out.size _).drew
  go_wp2_with fail
  refine HC.out.mono ?_
  rintro e w5 ⟨rfl, hf, htq⟩
  rw [HUs.out] at htq
  have e1 : w5.heap[w.heap.size + 2]? = some (msO (f, d)) := (htq.block _ (by omega) (by omega)).trans HU1.out
  have e2 : w5.heap[w.heap.size + 1]? = some (msO (0, 0)) := (htq.block _ (by omega) (by omega)).trans HU2.out
  have y0 : w5.cell? ⟨w.heap.size + 2, 0, none⟩ = some (i64 f) := blk_cell e1 0
  have y1 : w5.cell? ⟨w.heap.size + 2, 1, none⟩ = some (u16v d) := blk_cell e1 1
  have z0 : w5.cell? ⟨w.heap.size + 1, 0, none⟩ = some (i64 0) := blk_cell e2 0
  have z1 : w5.cell? ⟨w.heap.size + 1, 1, none⟩ = some (u16v 0) := blk_cell e2 1
  have zf : ∀ j, w5.frozen? ⟨w.heap.size + 1, j, none⟩ = false := blk_frozen e2
  have HE2 := hid e2
  have HF : Hid (Pt ((w5.setCell ⟨w.heap.size + 1, 0, none⟩ (i64 f)).setCell ⟨w.heap.size + 1, 1, none⟩ (u16v d)) base P (cutQ20 3 Q) ∧ Tq w.heap.size P w ((w5.setCell ⟨w.heap.size + 1, 0, none⟩ (i64 f)).setCell ⟨w.heap.size + 1, 1, none⟩ (u16v d))) := by
    refine ⟨hf _ (fun k hk => ?_) ?_, by have t1 : Tq w.heap.size P w w5 := (Tq.of_below HUb.out).trans (htq.mono (by omega)); exact ⟨t1.os, t1.tape, t1.output, by have := t1.size; simpa [World.setCell] using this, fun k hk hne => by rw [Below.heap_setCell _ _ _ _ (by show k ≠ w.heap.size + 1; omega), Below.heap_setCell _ _ _ _ (by show k ≠ w.heap.size + 1; omega)]; exact t1.block k hk hne⟩⟩
    · rw [HUs.out] at hk
      rw [Below.heap_setCell _ _ _ _ (by show k ≠ w.heap.size + 1; omega), Below.heap_setCell _ _ _ _ (by show k ≠ w.heap.size + 1; omega)]
    · rw [Below.heap_setCell _ _ _ _ (by show P ≠ w.heap.size + 1; omega), Below.heap_setCell _ _ _ _ (by show P ≠ w.heap.size + 1; omega)]
  clear hf htq e1 e2
  generalize gc Q (cutQ20 3 Q) 3 = G at *
  go_wp2_with fail
  exact bodyPost_ret (results_cell Try.results11 rfl rfl (load39 (m := (f, d)) (set2 HE2.out _ _))) rfl ⟨rfl, HF.out⟩
end Go.Proofs.Ytmijjgpelihhnaa
