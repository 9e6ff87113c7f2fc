/- The post and the document's, side by side; no statement is proved in this text. -/
import Derived.Test.YtmijjgpelihhnaaQRecv
namespace Go.Proofs.Ytmijjgpelihhnaa
open Go.ChangeShapes Go.WideShapes Go.ChangeAt Go.RowKit Go.Deep
attribute [local go_sem ↓] Go.wp_at_zero Go.wp_at_succ

abbrev FP (base : Nat) (w w' : World) : Prop := Fr base [54, 39] w w'
abbrev FR (base : Nat) (w w' : World) : Prop := Fr base [29, 36] w w'
abbrev FD (base : Nat) (w w' : World) : Prop := Fr base [54, 39, 29, 36] w w'
theorem fd_p {base : Nat} {w w' : World} (h : FP base w w') : FD base w w' := h.mono (fun o ho => by
  cases o with
  | cells C t fr => simp [keeps] at ho ⊢; exact ⟨ho.1, ho.2.1⟩
  | _ => rfl)
theorem fd_r {base : Nat} {w w' : World} (h : FR base w w') : FD base w w' := h.mono (fun o ho => by
  cases o with
  | cells C t fr => simp [keeps] at ho ⊢; exact ⟨ho.2.2.1, ho.2.2.2⟩
  | _ => rfl)
theorem Fr.of_drew {base : Nat} {ts : List TypeId} {w w' : World} (h : Fr base ts w.drew w') : Fr base ts w w' := ⟨below_of_drewN (n := 1) h.below, h.kept⟩
theorem Pt.keep {w w' : World} {base P : Nat} {Q : Nat → List Ms} (h : Pt w base P Q) (hk : ∀ (k : Nat) (C : Array Value) (t : TypeId), w.heap[k]? = some (.cells C t) → (t = 54 ∨ t = 39) → w'.heap[k]? = some (.cells C t)) : Pt w' base P Q := by
  obtain ⟨a0, a1, a2, hP, ho⟩ := h.blk
  exact ⟨h.lo, h.le, a0, a1, a2, hk _ _ 54 hP (.inl rfl), own_keep ho.o0 (fun k C hC => hk k C 39 hC (.inr rfl)), own_keep ho.o1 (fun k C hC => hk k C 39 hC (.inr rfl)), own_keep ho.o2 (fun k C hC => hk k C 39 hC (.inr rfl)), ho.d01, ho.d02, ho.d12⟩
theorem Pt.fr {w w' : World} {base P : Nat} {Q : Nat → List Ms} {bs : Nat} {ts : List TypeId} (h : Pt w base P Q) (hb : Fr bs ts w w') (h1 : ts.contains 54 = false) (h2 : ts.contains 39 = false) : Pt w' base P Q :=
  h.keep (fun k C t hk ht => hb.kept k _ hk (by rcases ht with rfl | rfl <;> simp only [keeps, h1, h2, Bool.not_false]))
theorem Pt.los {w : World} {base P : Nat} {Q : Nat → List Ms} (h : Pt w base P Q) : base ≤ w.heap.size := by have := h.lo; have := h.lt; omega
/-- Both in memory. -/
structure Tw (w : World) (base P R : Nat) (L : List Mg) : Prop where
  t : Pt w base P (qF L)
  r : Rb w base R L
  ok : okM L
theorem Tw.below {w w' : World} {base P R : Nat} {L : List Mg} (h : Tw w base P R L) (hb : Below w.heap.size w w') : Tw w' base P R L := ⟨h.t.below hb, h.r.below hb, h.ok⟩
theorem Tw.len {w : World} {base P R : Nat} {L : List Mg} (h : Tw w base P R L) : L.length ≤ 12 := by
  have h1 := len3 h.ok
  have a := h.t.le 0
  have b := h.t.le 1
  have c := h.t.le 2
  omega
set_option maxRecDepth 100000 in
set_option maxHeartbeats 1600000 in
theorem clearF {w : World} {base P : Nat} {Q : Nat → List Ms} (h : Pt w base P Q) (n : Int) : Calls Try.prog 13 #[pq P, i64 n] w fun e w' => e = .returned (i64 (gc Q (cutQ21 n Q) 3)) ∧ Pt w' base P (cutQ21 n Q) ∧ FP base w w' := by
  have hb0 := below_one w (.cells #[i64 n] 3)
  have HC := hid (cut21 (h.below hb0) w.heap.size n (heap_last w _))
  have HB0 := hid hb0
  have hlo := h.los
  have HPt := hid h
  obtain ⟨G, hG⟩ : ∃ G, G = gc Q (cutQ21 n Q) 3 := ⟨_, rfl⟩
  rw [← hG] at HC ⊢
  clear h hb0 hG
  go_enter Try.func13, Try.ntmps13
  go_wp2_with fail
  refine HC.out.mono ?_
  rintro e w1 ⟨rfl, hf, htq⟩
  have HF : Hid (Pt w1 base P (cutQ21 n Q) ∧ FP base w w1) := by
    obtain ⟨a0, a1, a2, hP, _⟩ := HPt.out.blk
    exact ⟨hf.pt, (Fr.of_below _ HB0.out hlo).trans (Fr.of_tq htq (blk_alloc hP _) HPt.out.lo)⟩
  clear hf htq
  go_wp2_with fail
  go_ret
  exact ⟨rfl, HF.out⟩
/-- A call of either side whose answers are the same. -/
theorem send_both {w : World} {base P R : Nat} {L : List Mg} (h : Tw w base P R L) (f t d : Int) : ∃ (X : Int) (L' : List Mg), okM L' ∧ (∀ W, Pt W base P (qF L) → Calls Try.prog 9 #[pq P, i64 f, i64 t, i64 d] W fun e w' => e = .returned (i64 X) ∧ Pt w' base P (qF L') ∧ FP base W w') ∧ (∀ W, Rb W base R L → Calls Try.prog 10 #[pq R, .agg #[i64 f, i64 t, i64 d]] W fun e w' => e = .returned (i64 X) ∧ Rb w' base R L' ∧ FR base W w') := by
  have hlen := h.len
  cases hs : sdB f t d with
  | false =>
    refine ⟨1, L, h.ok, fun W hW => (send_arg W _ f t d hs).mono fun _ _ ⟨h1, h2⟩ => ?_, fun W hW => (rsend_arg W R ⟨f, t, d⟩ hs).mono fun _ _ ⟨h1, h2⟩ => ⟨h1, hW.below h2, Fr.of_below _ h2 hW.los⟩⟩
    subst h2
    exact ⟨h1, hW, Fr.refl _ _ _⟩
  | true =>
    obtain ⟨hA, hB, hd0, hd1⟩ := sdB_1 hs
    by_cases h4 : 3 < cntM L t
    · refine ⟨5, L, h.ok, fun W hW => ?_, fun W hW => (rsend_full hW hlen ⟨f, t, d⟩ hs h4).mono fun _ _ ⟨h1, h2⟩ => ⟨h1, hW.below h2, Fr.of_below _ h2 hW.los⟩⟩
      rcases envB_true hB with rfl | rfl | rfl
      · have hl := hW.le 0
        rw [qF_len] at hl
        exact (send0full hW f d hs (by rw [qF_len]; exact Nat.le_antisymm hl h4)).mono fun _ _ ⟨h1, h2⟩ => by subst h2; exact ⟨h1, hW, Fr.refl _ _ _⟩
      · have hl := hW.le 1
        rw [qF_len] at hl
        exact (send1full hW f d hs (by rw [qF_len]; exact Nat.le_antisymm hl h4)).mono fun _ _ ⟨h1, h2⟩ => by subst h2; exact ⟨h1, hW, Fr.refl _ _ _⟩
      · have hl := hW.le 2
        rw [qF_len] at hl
        exact (send2full hW f d hs (by rw [qF_len]; exact Nat.le_antisymm hl h4)).mono fun _ _ ⟨h1, h2⟩ => by subst h2; exact ⟨h1, hW, Fr.refl _ _ _⟩
    · refine ⟨0, L ++ [⟨f, t, d⟩], ?_, fun W hW => ?_, fun W hW => rsend_in hW hlen ⟨f, t, d⟩ hs h4⟩
      · intro m hm
        rcases List.mem_append.1 hm with hm | hm
        · exact h.ok m hm
        · rw [List.mem_singleton.1 hm]
          have e1 := envB_true hA
          have e2 := envB_true hB
          exact ⟨⟨by show 1 ≤ f; omega, by show f ≤ 3; omega⟩, ⟨by show 1 ≤ t; omega, by show t ≤ 3; omega⟩, hd0, hd1⟩
      · rcases envB_true hB with rfl | rfl | rfl
        · rw [qF_send L 0 ⟨f, 1, d⟩ rfl]
          exact sendF0 hW f d hs (by rw [qF_len]; exact Nat.lt_of_le_of_lt (Nat.le_of_not_lt h4) (by omega))
        · rw [qF_send L 1 ⟨f, 2, d⟩ rfl]
          exact sendF1 hW f d hs (by rw [qF_len]; exact Nat.lt_of_le_of_lt (Nat.le_of_not_lt h4) (by omega))
        · rw [qF_send L 2 ⟨f, 3, d⟩ rfl]
          exact sendF2 hW f d hs (by rw [qF_len]; exact Nat.lt_of_le_of_lt (Nat.le_of_not_lt h4) (by omega))
theorem clear_both {w : World} {base P R : Nat} {L : List Mg} (h : Tw w base P R L) (n : Int) : ∃ (X : Int) (L' : List Mg), okM L' ∧ (∀ W, Pt W base P (qF L) → Calls Try.prog 13 #[pq P, i64 n] W fun e w' => e = .returned (i64 X) ∧ Pt w' base P (qF L') ∧ FP base W w') ∧ (∀ W, Rb W base R L → Calls Try.prog 14 #[pq R, i64 n] W fun e w' => e = .returned (i64 X) ∧ Rb w' base R L' ∧ FR base W w') := by
  refine ⟨_, L.filter (stayB n), fun m hm => h.ok m (List.mem_filter.1 hm).1, fun W hW => ?_, fun W hW => rclear_ok hW h.len n⟩
  have := clearF hW n
  rw [gc_clear h.ok, ← qF_clear] at this
  exact this
theorem first_cases (L : List Mg) (n : Int) : fstB L n L.length ∨ ∃ (k : Nat) (m : Mg), L[k]? = some m ∧ m.tt = n ∧ fstB L n k := by
  cases hf : L.findIdx? (toB n) with
  | none =>
    left
    rw [List.findIdx?_eq_none_iff] at hf
    intro j x _ hx
    have := hf x (List.mem_of_getElem? hx)
    simpa [toB] using this
  | some k =>
    right
    rw [List.findIdx?_eq_some_iff_getElem] at hf
    obtain ⟨hk, h1, h2⟩ := hf
    refine ⟨k, L[k], List.getElem?_eq_getElem hk, by simpa [toB] using h1, fun j x hj hx => ?_⟩
    have := h2 j hj
    have hxx : L[j] = x := (List.getElem?_eq_some_iff.1 hx).2
    rw [hxx] at this
    simpa [toB] using this
theorem recv_both {w : World} {base P R : Nat} {L : List Mg} (h : Tw w base P R L) (n : Int) : ∃ (F D X T : Int) (L' : List Mg), okM L' ∧ 0 ≤ D ∧ D ≤ 65535 ∧ (∀ W, Pt W base P (qF L) → Calls Try.prog 11 #[pq P, i64 n] W fun e w' => e = .returned (.tuple #[msV (F, D), i64 X]) ∧ Pt w' base P (qF L') ∧ FP base W w') ∧ (∀ W, Rb W base R L → Calls Try.prog 12 #[pq R, i64 n] W fun e w' => e = .returned (.tuple #[.agg #[i64 F, i64 T, i64 D], i64 X]) ∧ Rb w' base R L' ∧ FR base W w') := by
  have hlen := h.len
  cases hn : envB n with
  | false =>
    exact ⟨0, 0, 1, 0, L, h.ok, by omega, by omega, fun W hW => (recv_arg W _ n hn).mono fun _ _ ⟨h1, h2⟩ => ⟨h1, hW.below h2, Fr.of_below _ h2 hW.los⟩, fun W hW => (rrecv_arg W R n hn).mono fun _ _ ⟨h1, h2⟩ => ⟨h1, hW.below h2, Fr.of_below _ h2 hW.los⟩⟩
  | true =>
    rcases first_cases L n with hno | ⟨k, m, hp, hm, hf⟩
    · have hc : cntM L n = 0 := by
        unfold cntM
        rw [List.length_eq_zero_iff, List.filter_eq_nil_iff]
        intro x hx
        obtain ⟨j, hj⟩ := List.getElem?_of_mem hx
        have := hno j x (List.getElem?_eq_some_iff.1 hj).1 hj
        simpa [toB] using this
      refine ⟨0, 0, 6, 0, L, h.ok, by omega, by omega, fun W hW => (recv_none W _ n hn (fun U hU => ?_)).mono fun _ _ ⟨h1, h2⟩ => ⟨h1, hW.below h2, Fr.of_below _ h2 hW.los⟩, fun W hW => (rrecv_ok hW hlen n hn).mono fun _ _ hv => ?_⟩
      · have := waits_ok (hW.below hU) n
        rw [wt_cnt h.ok, hc] at this
        exact this
      · rcases hv with ⟨_, h1, h2, h3⟩ | ⟨k, m, hp, hm, _⟩
        · exact ⟨h1, h2, h3⟩
        · exact absurd hm (hno k m (List.getElem?_eq_some_iff.1 hp).1 hp)
    · have hmo := h.ok m (List.mem_of_getElem? hp)
      have hok' : okM (L.take k ++ L.drop (k + 1)) := fun x hx => by
        rcases List.mem_append.1 hx with hx | hx
        · exact h.ok x (List.mem_of_mem_take hx)
        · exact h.ok x (List.mem_of_mem_drop hx)
      refine ⟨m.fr, m.wd, 0, m.tt, L.take k ++ L.drop (k + 1), hok', hmo.2.2.1, hmo.2.2.2, fun W hW => ?_, fun W hW => (rrecv_ok hW hlen n hn).mono fun _ _ hv => ?_⟩
      · obtain ⟨a0, a1, a2, hP, _⟩ := hW.blk
        rcases envB_true hn with rfl | rfl | rfl
        · obtain ⟨⟨q, hq⟩, hq2⟩ := qF_recv (i := 0) hp hm hf
          rw [hq2]
          exact (recvF0 hW m.fr m.wd q hq).mono fun _ _ ⟨h1, h2, h3⟩ => ⟨h1, h2, Fr.of_tq h3 hP hW.lo⟩
        · obtain ⟨⟨q, hq⟩, hq2⟩ := qF_recv (i := 1) hp hm hf
          rw [hq2]
          exact (recvF1 hW m.fr m.wd q hq).mono fun _ _ ⟨h1, h2, h3⟩ => ⟨h1, h2, Fr.of_tq h3 hP hW.lo⟩
        · obtain ⟨⟨q, hq⟩, hq2⟩ := qF_recv (i := 2) hp hm hf
          rw [hq2]
          exact (recvF2 hW m.fr m.wd q hq).mono fun _ _ ⟨h1, h2, h3⟩ => ⟨h1, h2, Fr.of_tq h3 hP hW.lo⟩
      · rcases hv with ⟨hno, _⟩ | ⟨k2, m2, hp2, hm2, hf2, h1, h2, h3⟩
        · exact absurd hm (hno k m (List.getElem?_eq_some_iff.1 hp).1 hp)
        · have hkk : k2 = k := by
            rcases Nat.lt_trichotomy k2 k with hlt | heq | hlt
            · exact absurd hm2 (hf k2 m2 hlt hp2)
            · exact heq
            · exact absurd hm (hf2 k m hlt hp)
          subst hkk
          rw [hp] at hp2
          cases hp2
          exact ⟨h1, h2, h3⟩
theorem waits_both {w : World} {base P R : Nat} {L : List Mg} (h : Tw w base P R L) (n : Int) : ∃ X : Int, (∀ W, Pt W base P (qF L) → Calls Try.prog 15 #[pq P, i64 n] W fun e w' => e = .returned (i64 X) ∧ w' = W) ∧ (∀ W, Rb W base R L → Calls Try.prog 16 #[pq R, i64 n] W fun e w' => e = .returned (i64 X) ∧ Below W.heap.size W w') := by
  refine ⟨(cntM L n : Nat), fun W hW => ?_, fun W hW => rwaits_ok hW h.len n⟩
  have := waits_ok hW n
  rw [wt_cnt h.ok] at this
  exact this
end Go.Proofs.Ytmijjgpelihhnaa
