/- ipc.Waits, Send: contracts; no statement is proved in this text. -/
import Derived.Test.YtmijjgpelihhnaaApp
namespace Go.Proofs.Ytmijjgpelihhnaa
open Go.ChangeShapes Go.WideShapes Go.ChangeAt Go.RowKit Go.Deep
attribute [local go_sem ↓] Go.wp_at_zero Go.wp_at_succ

theorem envB_false {n : Int} (h : envB n = false) : n < 1 ∨ 3 < n := by
  unfold envB at h
  simp at h
  omega
theorem envB_true {n : Int} (h : envB n = true) : n = 1 ∨ n = 2 ∨ n = 3 := by
  unfold envB at h
  simp at h
  omega
def wtF (Q : Nat → List Ms) (n : Int) : Int := if n = 1 then (Q 0).length else if n = 2 then (Q 1).length else if n = 3 then (Q 2).length else 0
theorem waits_nil (w : World) (n : Int) : Calls Try.prog 15 #[.pointer none, i64 n] w fun e w' => e = .returned (i64 0) ∧ w' = w := by
  go_enter Try.func15, Try.ntmps15
  go_wp2_with fail
  go_ret
  exact ⟨rfl, rfl⟩
theorem waits_out (w : World) (P : Nat) (n : Int) (h : envB n = false) : Calls Try.prog 15 #[pq P, i64 n] w fun e w' => e = .returned (i64 0) ∧ w' = w := by
  have HE := isEnv_ok w n
  rw [h] at HE
  have HE := hid HE
  clear h
  go_enter Try.func15, Try.ntmps15
  go_wp2_with (go_at_call 18; refine HE.out.mono ?_; rintro e v1 ⟨rfl, hv⟩; replace hv := hv.symm; subst hv)
  go_ret
  exact ⟨rfl, rfl⟩
theorem waits0 {w : World} {base P : Nat} {Q : Nat → List Ms} (h : Pt w base P Q) : Calls Try.prog 15 #[pq P, i64 1] w fun e w' => e = .returned (i64 (Q 0).length) ∧ w' = w := by
  obtain ⟨a0, a1, a2, hP, hO⟩ := h.blk
  have hl := h.le 0
  obtain ⟨ao, cap, ha, _⟩ := own_slice hO.o0
  have p0 : w.cell? ⟨P, 0, none⟩ = some a0 := blk_cell hP 0
  rw [ha] at p0
  have HE := hid (isEnv_ok w 1)
  clear hO hP h ha
  generalize (Q 0).length = n at *
  have he : envB 1 = true := by decide
  rw [he] at HE
  go_enter Try.func15, Try.ntmps15
  go_wp2_with (go_at_call 18; refine HE.out.mono ?_; rintro e v1 ⟨rfl, hv⟩; replace hv := hv.symm; subst hv)
  go_ret
  exact ⟨rfl, rfl⟩
theorem waits1 {w : World} {base P : Nat} {Q : Nat → List Ms} (h : Pt w base P Q) : Calls Try.prog 15 #[pq P, i64 2] w fun e w' => e = .returned (i64 (Q 1).length) ∧ w' = w := by
  obtain ⟨a0, a1, a2, hP, hO⟩ := h.blk
  have hl := h.le 1
  obtain ⟨ao, cap, ha, _⟩ := own_slice hO.o1
  have p0 : w.cell? ⟨P, 1, none⟩ = some a1 := blk_cell hP 1
  rw [ha] at p0
  have HE := hid (isEnv_ok w 2)
  clear hO hP h ha
  generalize (Q 1).length = n at *
  have he : envB 2 = true := by decide
  rw [he] at HE
  go_enter Try.func15, Try.ntmps15
  go_wp2_with (go_at_call 18; refine HE.out.mono ?_; rintro e v1 ⟨rfl, hv⟩; replace hv := hv.symm; subst hv)
  go_ret
  exact ⟨rfl, rfl⟩
theorem waits2 {w : World} {base P : Nat} {Q : Nat → List Ms} (h : Pt w base P Q) : Calls Try.prog 15 #[pq P, i64 3] w fun e w' => e = .returned (i64 (Q 2).length) ∧ w' = w := by
  obtain ⟨a0, a1, a2, hP, hO⟩ := h.blk
  have hl := h.le 2
  obtain ⟨ao, cap, ha, _⟩ := own_slice hO.o2
  have p0 : w.cell? ⟨P, 2, none⟩ = some a2 := blk_cell hP 2
  rw [ha] at p0
  have HE := hid (isEnv_ok w 3)
  clear hO hP h ha
  generalize (Q 2).length = n at *
  have he : envB 3 = true := by decide
  rw [he] at HE
  go_enter Try.func15, Try.ntmps15
  go_wp2_with (go_at_call 18; refine HE.out.mono ?_; rintro e v1 ⟨rfl, hv⟩; replace hv := hv.symm; subst hv)
  go_ret
  exact ⟨rfl, rfl⟩
theorem waits_ok {w : World} {base P : Nat} {Q : Nat → List Ms} (h : Pt w base P Q) (n : Int) : Calls Try.prog 15 #[pq P, i64 n] w fun e w' => e = .returned (i64 (wtF Q n)) ∧ w' = w := by
  cases he : envB n with
  | false =>
    have := envB_false he
    rw [show wtF Q n = 0 by unfold wtF; rw [if_neg (by omega), if_neg (by omega), if_neg (by omega)]]
    exact waits_out w P n he
  | true =>
    rcases envB_true he with rfl | rfl | rfl
    · exact waits0 h
    · exact waits1 h
    · exact waits2 h
def sdB (f t d : Int) : Bool := envB f && envB t && decide (0 ≤ d) && decide (d ≤ 65535)
def upQ (Q : Nat → List Ms) (i : Nat) (m : Ms) : Nat → List Ms := fun j => if j = i then Q j ++ [m] else Q j
set_option maxRecDepth 100000 in
set_option maxHeartbeats 1600000 in
theorem send_arg1 (w : World) (v0 : Value) (f t d : Int) (hA : envB f = false) : Calls Try.prog 9 #[v0, i64 f, i64 t, i64 d] w fun e w' => e = .returned (i64 1) ∧ w' = w := by
  have HA := isEnv_ok w f
  rw [hA] at HA
  have HA := hid HA
  clear hA
  go_enter Try.func9, Try.ntmps9
  go_wp2_with fail
  refine HA.out.mono ?_
  rintro e v1 ⟨rfl, hv⟩
  replace hv := hv.symm
  subst hv
  go_wp2_with fail
  go_ret
  exact ⟨rfl, rfl⟩
set_option maxRecDepth 100000 in
set_option maxHeartbeats 1600000 in
theorem send_arg2 (w : World) (v0 : Value) (f t d : Int) (hA : envB f = true) (hB : envB t = false) : Calls Try.prog 9 #[v0, i64 f, i64 t, i64 d] w fun e w' => e = .returned (i64 1) ∧ w' = w := by
  have HA := isEnv_ok w f
  rw [hA] at HA
  have HA := hid HA
  clear hA
  have HB := isEnv_ok w t
  rw [hB] at HB
  have HB := hid HB
  clear hB
  go_enter Try.func9, Try.ntmps9
  go_wp2_with fail
  refine HA.out.mono ?_
  rintro e v1 ⟨rfl, hv⟩
  replace hv := hv.symm
  subst hv
  go_wp2_with fail
  refine HB.out.mono ?_
  rintro e v1 ⟨rfl, hv⟩
  replace hv := hv.symm
  subst hv
  go_wp2_with fail
  go_ret
  exact ⟨rfl, rfl⟩
set_option maxRecDepth 100000 in
set_option maxHeartbeats 1600000 in
theorem send_arg3 (w : World) (v0 : Value) (f t d : Int) (hA : envB f = true) (hB : envB t = true) (hd : d < 0) : Calls Try.prog 9 #[v0, i64 f, i64 t, i64 d] w fun e w' => e = .returned (i64 1) ∧ w' = w := by
  have HA := isEnv_ok w f
  rw [hA] at HA
  have HA := hid HA
  clear hA
  have HB := isEnv_ok w t
  rw [hB] at HB
  have HB := hid HB
  clear hB
  go_enter Try.func9, Try.ntmps9
  go_wp2_with fail
  refine HA.out.mono ?_
  rintro e v1 ⟨rfl, hv⟩
  replace hv := hv.symm
  subst hv
  go_wp2_with fail
  refine HB.out.mono ?_
  rintro e v1 ⟨rfl, hv⟩
  replace hv := hv.symm
  subst hv
  go_wp2_with fail
  go_ret
  exact ⟨rfl, rfl⟩
set_option maxRecDepth 100000 in
set_option maxHeartbeats 1600000 in
theorem send_arg4 (w : World) (v0 : Value) (f t d : Int) (hA : envB f = true) (hB : envB t = true) (hd0 : 0 ≤ d) (hd : 65535 < d) : Calls Try.prog 9 #[v0, i64 f, i64 t, i64 d] w fun e w' => e = .returned (i64 1) ∧ w' = w := by
  have HA := isEnv_ok w f
  rw [hA] at HA
  have HA := hid HA
  clear hA
  have HB := isEnv_ok w t
  rw [hB] at HB
  have HB := hid HB
  clear hB
  go_enter Try.func9, Try.ntmps9
  go_wp2_with fail
  refine HA.out.mono ?_
  rintro e v1 ⟨rfl, hv⟩
  replace hv := hv.symm
  subst hv
  go_wp2_with fail
  refine HB.out.mono ?_
  rintro e v1 ⟨rfl, hv⟩
  replace hv := hv.symm
  subst hv
  go_wp2_with fail
  go_ret
  exact ⟨rfl, rfl⟩
set_option maxRecDepth 100000 in
set_option maxHeartbeats 1600000 in
theorem send_nil1 (w : World) (f t d : Int) (hA : envB f = true) (hB : envB t = true) (hd0 : 0 ≤ d) (hd : d ≤ 65535) : Calls Try.prog 9 #[.pointer none, i64 f, i64 t, i64 d] w fun e w' => e = .returned (i64 7) ∧ w' = w := by
  have HA := isEnv_ok w f
  rw [hA] at HA
  have HA := hid HA
  clear hA
  have HB := isEnv_ok w t
  rw [hB] at HB
  have HB := hid HB
  clear hB
  go_enter Try.func9, Try.ntmps9
  go_wp2_with fail
  refine HA.out.mono ?_
  rintro e v1 ⟨rfl, hv⟩
  replace hv := hv.symm
  subst hv
  go_wp2_with fail
  refine HB.out.mono ?_
  rintro e v1 ⟨rfl, hv⟩
  replace hv := hv.symm
  subst hv
  go_wp2_with fail
  go_ret
  exact ⟨rfl, rfl⟩
theorem send_arg (w : World) (v0 : Value) (f t d : Int) (h : sdB f t d = false) : Calls Try.prog 9 #[v0, i64 f, i64 t, i64 d] w fun e w' => e = .returned (i64 1) ∧ w' = w := by
  unfold sdB at h
  cases hA : envB f with
  | false => exact send_arg1 w v0 f t d hA
  | true =>
    cases hB : envB t with
    | false => exact send_arg2 w v0 f t d hA hB
    | true =>
      simp [hA, hB] at h
      by_cases h0 : d < 0
      · exact send_arg3 w v0 f t d hA hB h0
      · exact send_arg4 w v0 f t d hA hB (by omega) (by omega)
theorem send_nil (w : World) (f t d : Int) (h : sdB f t d = true) : Calls Try.prog 9 #[.pointer none, i64 f, i64 t, i64 d] w fun e w' => e = .returned (i64 7) ∧ w' = w := by
  unfold sdB at h
  simp only [Bool.and_eq_true, decide_eq_true_eq] at h
  exact send_nil1 w f t d h.1.1.1 h.1.1.2 h.1.2 h.2
set_option maxRecDepth 100000 in
set_option maxHeartbeats 1600000 in
theorem send0full {w : World} {base P : Nat} {Q : Nat → List Ms} (h : Pt w base P Q) (f d : Int) (hs : sdB f 1 d = true) (hl : (Q 0).length = 4) : Calls Try.prog 9 #[pq P, i64 f, i64 1, i64 d] w fun e w' => e = .returned (i64 5) ∧ w' = w := by
  obtain ⟨a0, a1, a2, hP, hO⟩ := h.blk
  obtain ⟨ao, cap, ha, _⟩ := own_slice hO.o0
  have p0 : w.cell? ⟨P, 0, none⟩ = some a0 := blk_cell hP 0
  rw [ha, hl] at p0
  have HE := isEnv_ok w f
  have HF := isEnv_ok w 1
  unfold sdB at hs
  simp only [Bool.and_eq_true, decide_eq_true_eq] at hs
  obtain ⟨⟨⟨h1, h2⟩, h3⟩, h4⟩ := hs
  rw [h1] at HE
  rw [h2] at HF
  have HE := hid HE
  have HF := hid HF
  clear hO hP h ha h1 h2 hl
  go_enter Try.func9, Try.ntmps9
  go_wp2_with (go_at_call 18; first | (refine HE.out.mono ?_; rintro e v1 ⟨rfl, hv⟩; replace hv := hv.symm; subst hv) | (refine HF.out.mono ?_; rintro e v1 ⟨rfl, hv⟩; replace hv := hv.symm; subst hv))
  go_ret
  exact ⟨rfl, rfl⟩
set_option maxRecDepth 100000 in
set_option maxHeartbeats 1600000 in
theorem send0 {w : World} {base P : Nat} {Q : Nat → List Ms} (h : Pt w base P Q) (f d : Int) (hs : sdB f 1 d = true) (hl : (Q 0).length < 4) : Calls Try.prog 9 #[pq P, i64 f, i64 1, i64 d] w fun e w' => e = .returned (i64 0) ∧ Pt w' base P (upQ Q 0 (f, d)) ∧ Below base w w' := by
  have hlt := h.lt
  have hlo := h.lo
  obtain ⟨a0, a1, a2, hP, hO⟩ := h.blk
  obtain ⟨ao2, cap2, w3, hrun, hown, hfr, hfar, hnew⟩ := app_far (te := 39) under51 info39x rfl (by omega) (by omega) hO.o0 [i64 f, u16v d] rfl (msl_one (f, d)) (by omega) (by omega)
  have hP3 : w3.heap[P]? = some (.cells #[a0, a1, a2] 54) := hfr.kept _ _ hP (by rfl)
  have hk3 : ∀ (k : Nat) (C : Array Value), w3.heap[k]? = some (.cells C 39) → (w3.setCell ⟨P, 0, none⟩ (.slice ao2 ((Q 0).length + 1) cap2)).heap[k]? = some (.cells C 39) := fun k C hC => by
    rw [Below.heap_setCell _ _ _ _ (fun e => by have hC' := hC; rw [show k = P from e, hP3] at hC'; simp at hC')]
    exact hC
  have rI : (w3.setCell ⟨P, 0, none⟩ (.slice ao2 ((Q 0).length + 1) cap2)).ownsRow base 39 2 (.slice ao2 ((Q 0).length + 1) cap2) (upQ Q 0 (f, d) 0).length (mcn (upQ Q 0 (f, d) 0)) := by
    have e : upQ Q 0 (f, d) 0 = Q 0 ++ [(f, d)] := by simp [upQ]
    rw [e, List.length_append, mcn_app]
    exact own_keep hown hk3
  have e1 : upQ Q 0 (f, d) 1 = Q 1 := by simp [upQ]
  have r1 : (w3.setCell ⟨P, 0, none⟩ (.slice ao2 ((Q 0).length + 1) cap2)).ownsRow base 39 2 a1 (upQ Q 0 (f, d) 1).length (mcn (upQ Q 0 (f, d) 1)) := by
    rw [e1]
    exact own_keep (own_keep1 hO.o1 (fun k hk => hfar k (hO.o1.lt k hk).2 (fun e => (fun k h1 h2 => hO.d01 k h2 h1) k hk e.symm))) hk3
  have dN1 : ∀ k, (Value.slice ao2 ((Q 0).length + 1) cap2).ownBlock = some k → a1.ownBlock ≠ some k := fun k h1 h2 => by
    rcases hnew with hn | hn
    · exact hO.d01 k (hn.symm.trans h1) h2
    · rw [hn] at h1
      have := (hO.o1.lt k h2).2
      cases h1
      omega
  have e2 : upQ Q 0 (f, d) 2 = Q 2 := by simp [upQ]
  have r2 : (w3.setCell ⟨P, 0, none⟩ (.slice ao2 ((Q 0).length + 1) cap2)).ownsRow base 39 2 a2 (upQ Q 0 (f, d) 2).length (mcn (upQ Q 0 (f, d) 2)) := by
    rw [e2]
    exact own_keep (own_keep1 hO.o2 (fun k hk => hfar k (hO.o2.lt k hk).2 (fun e => (fun k h1 h2 => hO.d02 k h2 h1) k hk e.symm))) hk3
  have dN2 : ∀ k, (Value.slice ao2 ((Q 0).length + 1) cap2).ownBlock = some k → a2.ownBlock ≠ some k := fun k h1 h2 => by
    rcases hnew with hn | hn
    · exact hO.d02 k (hn.symm.trans h1) h2
    · rw [hn] at h1
      have := (hO.o2.lt k h2).2
      cases h1
      omega
  have HU : Hid (Pt (w3.setCell ⟨P, 0, none⟩ (.slice ao2 ((Q 0).length + 1) cap2)) base P (upQ Q 0 (f, d)) ∧ Below base w (w3.setCell ⟨P, 0, none⟩ (.slice ao2 ((Q 0).length + 1) cap2))) := by
    refine ⟨⟨hlo, fun i => ?_, (.slice ao2 ((Q 0).length + 1) cap2), a1, a2, ?_, rI, r1, r2, dN1, dN2, hO.d12⟩, hfr.below.setCell hlo _⟩
    · by_cases hi : i = 0
      · subst hi; simp [upQ]; omega
      · simp [upQ, hi]; exact h.le i
    · have := heap_setCell_same w3 P 0 _ 54 (.slice ao2 ((Q 0).length + 1) cap2) hP3
      simpa using this
  obtain ⟨ao, cap, ha, _⟩ := own_slice hO.o0
  have p0 : w.cell? ⟨P, 0, none⟩ = some a0 := blk_cell hP 0
  have p3 : w3.cell? ⟨P, 0, none⟩ = some a0 := blk_cell hP3 0
  have pf : w3.frozen? ⟨P, 0, none⟩ = false := blk_frozen hP3 0
  rw [ha] at p0 p3 hrun
  have HRUN := hid hrun
  have HE := isEnv_ok w f
  have HF := isEnv_ok w 1
  unfold sdB at hs
  simp only [Bool.and_eq_true, decide_eq_true_eq] at hs
  obtain ⟨⟨⟨h1, h2⟩, h3⟩, h4⟩ := hs
  rw [h1] at HE
  rw [h2] at HF
  have HE := hid HE
  have HF := hid HF
  have hw := wrap_u16 h3 h4
  have hlI : ((Q 0).length : Int) < 4 := by omega
  clear hO hP h ha h1 h2 hrun hown hfr hfar hnew hP3 hk3 rI r1 r2 e1 e2 dN1 dN2
  generalize (Q 0).length = n at *
  go_enter Try.func9, Try.ntmps9
  go_wp2_with (first | (go_at_call 18; first | (refine HE.out.mono ?_; rintro e v1 ⟨rfl, hv⟩; replace hv := hv.symm; subst hv) | (refine HF.out.mono ?_; rintro e v1 ⟨rfl, hv⟩; replace hv := hv.symm; subst hv)) | (at_builtin; refine wpList_app_run rfl (.tmp 42) (.tmp 47) 51 rfl _ _ rfl rfl 51 rfl _ _ HRUN.out ?_))
  go_ret
  exact ⟨rfl, HU.out⟩
set_option maxRecDepth 100000 in
set_option maxHeartbeats 1600000 in
theorem send1full {w : World} {base P : Nat} {Q : Nat → List Ms} (h : Pt w base P Q) (f d : Int) (hs : sdB f 2 d = true) (hl : (Q 1).length = 4) : Calls Try.prog 9 #[pq P, i64 f, i64 2, i64 d] w fun e w' => e = .returned (i64 5) ∧ w' = w := by
  obtain ⟨a0, a1, a2, hP, hO⟩ := h.blk
  obtain ⟨ao, cap, ha, _⟩ := own_slice hO.o1
  have p0 : w.cell? ⟨P, 1, none⟩ = some a1 := blk_cell hP 1
  rw [ha, hl] at p0
  have HE := isEnv_ok w f
  have HF := isEnv_ok w 2
  unfold sdB at hs
  simp only [Bool.and_eq_true, decide_eq_true_eq] at hs
  obtain ⟨⟨⟨h1, h2⟩, h3⟩, h4⟩ := hs
  rw [h1] at HE
  rw [h2] at HF
  have HE := hid HE
  have HF := hid HF
  clear hO hP h ha h1 h2 hl
  go_enter Try.func9, Try.ntmps9
  go_wp2_with (go_at_call 18; first | (refine HE.out.mono ?_; rintro e v1 ⟨rfl, hv⟩; replace hv := hv.symm; subst hv) | (refine HF.out.mono ?_; rintro e v1 ⟨rfl, hv⟩; replace hv := hv.symm; subst hv))
  go_ret
  exact ⟨rfl, rfl⟩
set_option maxRecDepth 100000 in
set_option maxHeartbeats 1600000 in
theorem send1 {w : World} {base P : Nat} {Q : Nat → List Ms} (h : Pt w base P Q) (f d : Int) (hs : sdB f 2 d = true) (hl : (Q 1).length < 4) : Calls Try.prog 9 #[pq P, i64 f, i64 2, i64 d] w fun e w' => e = .returned (i64 0) ∧ Pt w' base P (upQ Q 1 (f, d)) ∧ Below base w w' := by
  have hlt := h.lt
  have hlo := h.lo
  obtain ⟨a0, a1, a2, hP, hO⟩ := h.blk
  obtain ⟨ao2, cap2, w3, hrun, hown, hfr, hfar, hnew⟩ := app_far (te := 39) under51 info39x rfl (by omega) (by omega) hO.o1 [i64 f, u16v d] rfl (msl_one (f, d)) (by omega) (by omega)
  have hP3 : w3.heap[P]? = some (.cells #[a0, a1, a2] 54) := hfr.kept _ _ hP (by rfl)
  have hk3 : ∀ (k : Nat) (C : Array Value), w3.heap[k]? = some (.cells C 39) → (w3.setCell ⟨P, 1, none⟩ (.slice ao2 ((Q 1).length + 1) cap2)).heap[k]? = some (.cells C 39) := fun k C hC => by
    rw [Below.heap_setCell _ _ _ _ (fun e => by have hC' := hC; rw [show k = P from e, hP3] at hC'; simp at hC')]
    exact hC
  have rI : (w3.setCell ⟨P, 1, none⟩ (.slice ao2 ((Q 1).length + 1) cap2)).ownsRow base 39 2 (.slice ao2 ((Q 1).length + 1) cap2) (upQ Q 1 (f, d) 1).length (mcn (upQ Q 1 (f, d) 1)) := by
    have e : upQ Q 1 (f, d) 1 = Q 1 ++ [(f, d)] := by simp [upQ]
    rw [e, List.length_append, mcn_app]
    exact own_keep hown hk3
  have e0 : upQ Q 1 (f, d) 0 = Q 0 := by simp [upQ]
  have r0 : (w3.setCell ⟨P, 1, none⟩ (.slice ao2 ((Q 1).length + 1) cap2)).ownsRow base 39 2 a0 (upQ Q 1 (f, d) 0).length (mcn (upQ Q 1 (f, d) 0)) := by
    rw [e0]
    exact own_keep (own_keep1 hO.o0 (fun k hk => hfar k (hO.o0.lt k hk).2 (fun e => hO.d01 k hk e.symm))) hk3
  have dN0 : ∀ k, (Value.slice ao2 ((Q 1).length + 1) cap2).ownBlock = some k → a0.ownBlock ≠ some k := fun k h1 h2 => by
    rcases hnew with hn | hn
    · exact (fun k h1 h2 => hO.d01 k h2 h1) k (hn.symm.trans h1) h2
    · rw [hn] at h1
      have := (hO.o0.lt k h2).2
      cases h1
      omega
  have e2 : upQ Q 1 (f, d) 2 = Q 2 := by simp [upQ]
  have r2 : (w3.setCell ⟨P, 1, none⟩ (.slice ao2 ((Q 1).length + 1) cap2)).ownsRow base 39 2 a2 (upQ Q 1 (f, d) 2).length (mcn (upQ Q 1 (f, d) 2)) := by
    rw [e2]
    exact own_keep (own_keep1 hO.o2 (fun k hk => hfar k (hO.o2.lt k hk).2 (fun e => (fun k h1 h2 => hO.d12 k h2 h1) k hk e.symm))) hk3
  have dN2 : ∀ k, (Value.slice ao2 ((Q 1).length + 1) cap2).ownBlock = some k → a2.ownBlock ≠ some k := fun k h1 h2 => by
    rcases hnew with hn | hn
    · exact hO.d12 k (hn.symm.trans h1) h2
    · rw [hn] at h1
      have := (hO.o2.lt k h2).2
      cases h1
      omega
  have HU : Hid (Pt (w3.setCell ⟨P, 1, none⟩ (.slice ao2 ((Q 1).length + 1) cap2)) base P (upQ Q 1 (f, d)) ∧ Below base w (w3.setCell ⟨P, 1, none⟩ (.slice ao2 ((Q 1).length + 1) cap2))) := by
    refine ⟨⟨hlo, fun i => ?_, a0, (.slice ao2 ((Q 1).length + 1) cap2), a2, ?_, r0, rI, r2, (fun k h1 h2 => dN0 k h2 h1), hO.d02, dN2⟩, hfr.below.setCell hlo _⟩
    · by_cases hi : i = 1
      · subst hi; simp [upQ]; omega
      · simp [upQ, hi]; exact h.le i
    · have := heap_setCell_same w3 P 1 _ 54 (.slice ao2 ((Q 1).length + 1) cap2) hP3
      simpa using this
  obtain ⟨ao, cap, ha, _⟩ := own_slice hO.o1
  have p0 : w.cell? ⟨P, 1, none⟩ = some a1 := blk_cell hP 1
  have p3 : w3.cell? ⟨P, 1, none⟩ = some a1 := blk_cell hP3 1
  have pf : w3.frozen? ⟨P, 1, none⟩ = false := blk_frozen hP3 1
  rw [ha] at p0 p3 hrun
  have HRUN := hid hrun
  have HE := isEnv_ok w f
  have HF := isEnv_ok w 2
  unfold sdB at hs
  simp only [Bool.and_eq_true, decide_eq_true_eq] at hs
  obtain ⟨⟨⟨h1, h2⟩, h3⟩, h4⟩ := hs
  rw [h1] at HE
  rw [h2] at HF
  have HE := hid HE
  have HF := hid HF
  have hw := wrap_u16 h3 h4
  have hlI : ((Q 1).length : Int) < 4 := by omega
  clear hO hP h ha h1 h2 hrun hown hfr hfar hnew hP3 hk3 rI r0 r2 e0 e2 dN0 dN2
  generalize (Q 1).length = n at *
  go_enter Try.func9, Try.ntmps9
  go_wp2_with (first | (go_at_call 18; first | (refine HE.out.mono ?_; rintro e v1 ⟨rfl, hv⟩; replace hv := hv.symm; subst hv) | (refine HF.out.mono ?_; rintro e v1 ⟨rfl, hv⟩; replace hv := hv.symm; subst hv)) | (at_builtin; refine wpList_app_run rfl (.tmp 42) (.tmp 47) 51 rfl _ _ rfl rfl 51 rfl _ _ HRUN.out ?_))
  go_ret
  exact ⟨rfl, HU.out⟩
set_option maxRecDepth 100000 in
set_option maxHeartbeats 1600000 in
theorem send2full {w : World} {base P : Nat} {Q : Nat → List Ms} (h : Pt w base P Q) (f d : Int) (hs : sdB f 3 d = true) (hl : (Q 2).length = 4) : Calls Try.prog 9 #[pq P, i64 f, i64 3, i64 d] w fun e w' => e = .returned (i64 5) ∧ w' = w := by
  obtain ⟨a0, a1, a2, hP, hO⟩ := h.blk
  obtain ⟨ao, cap, ha, _⟩ := own_slice hO.o2
  have p0 : w.cell? ⟨P, 2, none⟩ = some a2 := blk_cell hP 2
  rw [ha, hl] at p0
  have HE := isEnv_ok w f
  have HF := isEnv_ok w 3
  unfold sdB at hs
  simp only [Bool.and_eq_true, decide_eq_true_eq] at hs
  obtain ⟨⟨⟨h1, h2⟩, h3⟩, h4⟩ := hs
  rw [h1] at HE
  rw [h2] at HF
  have HE := hid HE
  have HF := hid HF
  clear hO hP h ha h1 h2 hl
  go_enter Try.func9, Try.ntmps9
  go_wp2_with (go_at_call 18; first | (refine HE.out.mono ?_; rintro e v1 ⟨rfl, hv⟩; replace hv := hv.symm; subst hv) | (refine HF.out.mono ?_; rintro e v1 ⟨rfl, hv⟩; replace hv := hv.symm; subst hv))
  go_ret
  exact ⟨rfl, rfl⟩
set_option maxRecDepth 100000 in
set_option maxHeartbeats 1600000 in
theorem send2 {w : World} {base P : Nat} {Q : Nat → List Ms} (h : Pt w base P Q) (f d : Int) (hs : sdB f 3 d = true) (hl : (Q 2).length < 4) : Calls Try.prog 9 #[pq P, i64 f, i64 3, i64 d] w fun e w' => e = .returned (i64 0) ∧ Pt w' base P (upQ Q 2 (f, d)) ∧ Below base w w' := by
  have hlt := h.lt
  have hlo := h.lo
  obtain ⟨a0, a1, a2, hP, hO⟩ := h.blk
  obtain ⟨ao2, cap2, w3, hrun, hown, hfr, hfar, hnew⟩ := app_far (te := 39) under51 info39x rfl (by omega) (by omega) hO.o2 [i64 f, u16v d] rfl (msl_one (f, d)) (by omega) (by omega)
  have hP3 : w3.heap[P]? = some (.cells #[a0, a1, a2] 54) := hfr.kept _ _ hP (by rfl)
  have hk3 : ∀ (k : Nat) (C : Array Value), w3.heap[k]? = some (.cells C 39) → (w3.setCell ⟨P, 2, none⟩ (.slice ao2 ((Q 2).length + 1) cap2)).heap[k]? = some (.cells C 39) := fun k C hC => by
    rw [Below.heap_setCell _ _ _ _ (fun e => by have hC' := hC; rw [show k = P from e, hP3] at hC'; simp at hC')]
    exact hC
  have rI : (w3.setCell ⟨P, 2, none⟩ (.slice ao2 ((Q 2).length + 1) cap2)).ownsRow base 39 2 (.slice ao2 ((Q 2).length + 1) cap2) (upQ Q 2 (f, d) 2).length (mcn (upQ Q 2 (f, d) 2)) := by
    have e : upQ Q 2 (f, d) 2 = Q 2 ++ [(f, d)] := by simp [upQ]
    rw [e, List.length_append, mcn_app]
    exact own_keep hown hk3
  have e0 : upQ Q 2 (f, d) 0 = Q 0 := by simp [upQ]
  have r0 : (w3.setCell ⟨P, 2, none⟩ (.slice ao2 ((Q 2).length + 1) cap2)).ownsRow base 39 2 a0 (upQ Q 2 (f, d) 0).length (mcn (upQ Q 2 (f, d) 0)) := by
    rw [e0]
    exact own_keep (own_keep1 hO.o0 (fun k hk => hfar k (hO.o0.lt k hk).2 (fun e => hO.d02 k hk e.symm))) hk3
  have dN0 : ∀ k, (Value.slice ao2 ((Q 2).length + 1) cap2).ownBlock = some k → a0.ownBlock ≠ some k := fun k h1 h2 => by
    rcases hnew with hn | hn
    · exact (fun k h1 h2 => hO.d02 k h2 h1) k (hn.symm.trans h1) h2
    · rw [hn] at h1
      have := (hO.o0.lt k h2).2
      cases h1
      omega
  have e1 : upQ Q 2 (f, d) 1 = Q 1 := by simp [upQ]
  have r1 : (w3.setCell ⟨P, 2, none⟩ (.slice ao2 ((Q 2).length + 1) cap2)).ownsRow base 39 2 a1 (upQ Q 2 (f, d) 1).length (mcn (upQ Q 2 (f, d) 1)) := by
    rw [e1]
    exact own_keep (own_keep1 hO.o1 (fun k hk => hfar k (hO.o1.lt k hk).2 (fun e => hO.d12 k hk e.symm))) hk3
  have dN1 : ∀ k, (Value.slice ao2 ((Q 2).length + 1) cap2).ownBlock = some k → a1.ownBlock ≠ some k := fun k h1 h2 => by
    rcases hnew with hn | hn
    · exact (fun k h1 h2 => hO.d12 k h2 h1) k (hn.symm.trans h1) h2
    · rw [hn] at h1
      have := (hO.o1.lt k h2).2
      cases h1
      omega
  have HU : Hid (Pt (w3.setCell ⟨P, 2, none⟩ (.slice ao2 ((Q 2).length + 1) cap2)) base P (upQ Q 2 (f, d)) ∧ Below base w (w3.setCell ⟨P, 2, none⟩ (.slice ao2 ((Q 2).length + 1) cap2))) := by
    refine ⟨⟨hlo, fun i => ?_, a0, a1, (.slice ao2 ((Q 2).length + 1) cap2), ?_, r0, r1, rI, hO.d01, (fun k h1 h2 => dN0 k h2 h1), (fun k h1 h2 => dN1 k h2 h1)⟩, hfr.below.setCell hlo _⟩
    · by_cases hi : i = 2
      · subst hi; simp [upQ]; omega
      · simp [upQ, hi]; exact h.le i
    · have := heap_setCell_same w3 P 2 _ 54 (.slice ao2 ((Q 2).length + 1) cap2) hP3
      simpa using this
  obtain ⟨ao, cap, ha, _⟩ := own_slice hO.o2
  have p0 : w.cell? ⟨P, 2, none⟩ = some a2 := blk_cell hP 2
  have p3 : w3.cell? ⟨P, 2, none⟩ = some a2 := blk_cell hP3 2
  have pf : w3.frozen? ⟨P, 2, none⟩ = false := blk_frozen hP3 2
  rw [ha] at p0 p3 hrun
  have HRUN := hid hrun
  have HE := isEnv_ok w f
  have HF := isEnv_ok w 3
  unfold sdB at hs
  simp only [Bool.and_eq_true, decide_eq_true_eq] at hs
  obtain ⟨⟨⟨h1, h2⟩, h3⟩, h4⟩ := hs
  rw [h1] at HE
  rw [h2] at HF
  have HE := hid HE
  have HF := hid HF
  have hw := wrap_u16 h3 h4
  have hlI : ((Q 2).length : Int) < 4 := by omega
  clear hO hP h ha h1 h2 hrun hown hfr hfar hnew hP3 hk3 rI r0 r1 e0 e1 dN0 dN1
  generalize (Q 2).length = n at *
  go_enter Try.func9, Try.ntmps9
  go_wp2_with (first | (go_at_call 18; first | (refine HE.out.mono ?_; rintro e v1 ⟨rfl, hv⟩; replace hv := hv.symm; subst hv) | (refine HF.out.mono ?_; rintro e v1 ⟨rfl, hv⟩; replace hv := hv.symm; subst hv)) | (at_builtin; refine wpList_app_run rfl (.tmp 42) (.tmp 47) 51 rfl _ _ rfl rfl 51 rfl _ _ HRUN.out ?_))
  go_ret
  exact ⟨rfl, HU.out⟩
end Go.Proofs.Ytmijjgpelihhnaa
