/- Load's closures, byPlace; no statement is proved in this text. -/
import Derived.Test.YtaapiffglfppnaaAs
import Derived.Test.YtaapiffglfppnaaEa
namespace Go.Proofs.Ytaapiffglfppnaa
open Go.ChangeShapes Go.WideShapes Go.ChangeAt Go.RowKit Go.Deep
attribute [local go_sem ↓] Go.wp_at_zero Go.wp_at_succ

abbrev nfn : Value := .func (.func 45) #[] #[]
abbrev mfn : Value := .func (.func 46) #[] #[]
set_option maxRecDepth 100000 in
set_option maxHeartbeats 800000 in
theorem noOpen_ok (w : World) (x : Op4) : Calls Try.prog 45 #[ov x] w fun e w' => e = .returned (.bool (!openB x)) ∧ Below w.heap.size w w' := by
  have HX := hid (heap_last w (oO x 54))
  have HB := hid (below_one w (oO x 54))
  obtain ⟨x0, x1, x2, x3⟩ := four_cells HX.out
  have hxl := blk_lt HX.out
  have HO := hid (isOpen_ok (w.alloc (oO x 54)) x)
  generalize openB x = B at HO ⊢
  go_enter Try.func45, Try.ntmps45
  go_wp2_with fail
  refine HO.out.mono ?_
  rintro e w2 ⟨rfl, hb⟩
  have HB2 : Hid (Below w.heap.size w w2) := HB.out.trans (hb.mono HB.out.size)
  clear hb HO
  cases B
  · go_wp2_with fail
    go_ret
    exact ⟨rfl, HB2.out⟩
  · go_wp2_with fail
    go_ret
    exact ⟨rfl, HB2.out⟩
def slotB (x : Sl3) : Bool := decide (1 ≤ x.1 ∧ x.1 ≤ 6) && decide (0 ≤ x.2.1 ∧ x.2.1 < 6)
set_option maxRecDepth 100000 in
set_option maxHeartbeats 800000 in
theorem noSlot_ok (w : World) (x : Sl3) : Calls Try.prog 46 #[lv x] w fun e w' => e = .returned (.bool (!slotB x)) ∧ Below w.heap.size w w' := by
  have HX := hid (heap_last w (lO x 48))
  have HB := hid (below_one w (lO x 48))
  obtain ⟨x0, x1, x2⟩ := three_cells HX.out
  have hxl := blk_lt HX.out
  have HP := hid (proc_ok (w.alloc (lO x 48)) x.1)
  have HQ := hid fun W => slot_ok W x.2.1
  have HS : Hid (slotB x = (decide (1 ≤ x.1 ∧ x.1 ≤ 6) && decide (0 ≤ x.2.1 ∧ x.2.1 < 6))) := rfl
  rw [HS.out]
  clear HS
  generalize decide (1 ≤ x.1 ∧ x.1 ≤ 6) = B at HP ⊢
  generalize decide (0 ≤ x.2.1 ∧ x.2.1 < 6) = C at HQ ⊢
  go_enter Try.func46, Try.ntmps46
  go_wp2_with fail
  refine HP.out.mono ?_
  rintro e w2 ⟨rfl, hv⟩
  replace hv := hv.symm
  subst hv
  have HC := hid (HQ.out (w.alloc (lO x 48)))
  clear HP HQ
  cases B
  · go_wp2_with fail
    go_ret
    exact ⟨rfl, HB.out⟩
  · go_wp2_with fail
    refine HC.out.mono ?_
    rintro e w3 ⟨rfl, hv⟩
    replace hv := hv.symm
    subst hv
    clear HC
    cases C
    · go_wp2_with fail
      go_ret
      exact ⟨rfl, HB.out⟩
    · go_wp2_with fail
      go_ret
      exact ⟨rfl, HB.out⟩
set_option maxRecDepth 100000 in
set_option maxHeartbeats 1600000 in
theorem nidx_ok (w : World) (ao : Option Addr) (cap : Nat) (X : List Op4) (f : Op4 → Bool) (hX : X.length ≤ 1000) (hR : Rd4 w ao X) (hf : ∀ (W : World) (y : Op4), y ∈ X → Below w.heap.size w W → Calls Try.prog 45 #[ov y] W fun e w' => e = .returned (.bool (f y)) ∧ Below W.heap.size W w') : Calls Try.prog 64 #[.slice ao X.length cap, nfn] w fun e w' => (∃ i : Int, e = .returned (i64 i) ∧ decide (0 ≤ i) = X.any f) ∧ Below w.heap.size w w' := by
  have HR := hid hR
  have HF := hid hf
  obtain ⟨N, hN⟩ : ∃ N, N = X.length := ⟨_, rfl⟩
  have HN := hid hN
  rw [← hN] at hX ⊢
  obtain ⟨Q, hQ⟩ : ∃ Q : Ending → Prop, Q = fun e => ∃ i : Int, e = .returned (i64 i) ∧ decide (0 ≤ i) = X.any f := ⟨_, rfl⟩
  have HQ : Hid (∀ i : Int, decide (0 ≤ i) = X.any f → Q (.returned (i64 i))) := fun i hi => by rw [hQ]; exact ⟨i, rfl, hi⟩
  suffices h : Calls Try.prog 64 #[.slice ao N cap, nfn] w fun e w' => Q e ∧ Below w.heap.size w w' by rw [hQ] at h; exact h
  clear hR hf hN hQ
  go_enter Try.func64, Try.ntmps64
  go_wp2_with fail
  go_loopw [8] (fun i wr => ∃ k : Nat, k ≤ N ∧ i = i64 k ∧ Hid ((X.take k).any f = false) ∧ Hid (Below w.heap.size w wr)) (fun i _ => N - (intOf i).toNat)
  case atStart => exact ⟨0, by omega, rfl, rfl, Below.refl _ _⟩
  case round =>
    obtain ⟨k, hk, rfl, HA, HB⟩ := hrel
    by_cases hlt : k < N
    · have hkI : (k : Int) < N := by omega
      obtain ⟨y, hy⟩ : ∃ y, X[k]? = some y := ⟨_, List.getElem?_eq_getElem (by rw [← HN.out]; exact hlt)⟩
      obtain ⟨g, o, rfl, hgl, c0, c1, c2, c3⟩ := HR.out.below HB.out k y hy
      have HC := hid (HF.out wr y (List.mem_of_getElem? hy) HB.out)
      have hk0 : (0 : Int) ≤ k := by omega
      cases hfy : f y
      · rw [hfy] at HC
        have HA2 : Hid ((X.take (k + 1)).any f = false) := by
          rw [Hid, takeL hy, List.any_append, HA.out]
          simp [hfy]
        clear hy hfy
        go_wp2_with fail
        refine HC.out.mono ?_
        rintro e w2 ⟨rfl, hb2⟩
        have HB2 : Hid (Below w.heap.size w w2) := HB.out.trans (hb2.mono HB.out.size)
        clear hb2 HC
        go_wp2_with fail
        exact ⟨⟨k + 1, by omega, by go_num, HA2, HB2⟩, by simp [intOf]; omega⟩
      · rw [hfy] at HC
        have HA2 : Hid (decide ((0 : Int) ≤ k) = X.any f) := by
          rw [Hid, decide_eq_true hk0, eq_comm, List.any_eq_true]
          exact ⟨y, List.mem_of_getElem? hy, hfy⟩
        clear hy hfy
        go_wp2_with fail
        refine HC.out.mono ?_
        rintro e w2 ⟨rfl, hb2⟩
        have HB2 : Hid (Below w.heap.size w w2) := HB.out.trans (hb2.mono HB.out.size)
        clear hb2 HC
        go_wp2_with fail
        go_ret
        exact ⟨HQ.out _ HA2.out, HB2.out⟩
    · have HA2 : Hid (decide ((0 : Int) ≤ -1) = X.any f) := by
        have := HA.out
        rw [List.take_of_length_le (by rw [← HN.out]; omega)] at this
        rw [Hid, this]; rfl
      go_wp2_with fail
      go_ret
      exact ⟨HQ.out _ HA2.out, HB.out⟩
set_option maxRecDepth 100000 in
set_option maxHeartbeats 1600000 in
theorem ncont_ok (w : World) (ao : Option Addr) (cap : Nat) (X : List Op4) (f : Op4 → Bool) (hX : X.length ≤ 1000) (hR : Rd4 w ao X) (hf : ∀ (W : World) (y : Op4), y ∈ X → Below w.heap.size w W → Calls Try.prog 45 #[ov y] W fun e w' => e = .returned (.bool (f y)) ∧ Below W.heap.size W w') : Calls Try.prog 49 #[.slice ao X.length cap, nfn] w fun e w' => e = .returned (.bool (X.any f)) ∧ Below w.heap.size w w' := by
  have HI := hid (nidx_ok w ao cap X f hX hR hf)
  generalize X.any f = B at HI ⊢
  generalize X.length = N at HI ⊢
  clear hR hf hX
  go_enter Try.func49, Try.ntmps49
  go_wp2_with fail
  refine HI.out.mono ?_
  rintro e w2 ⟨⟨i, rfl, hi⟩, hb2⟩
  have HB2 := hid hb2
  have HI2 := hid hi
  clear hb2 HI
  clear hi
  go_wp2_with fail
  go_ret
  exact ⟨congrArg (fun b => Ending.returned (Value.bool b)) HI2.out, HB2.out⟩
set_option maxRecDepth 100000 in
set_option maxHeartbeats 1600000 in
theorem midx_ok (w : World) (ao : Option Addr) (cap : Nat) (X : List Sl3) (f : Sl3 → Bool) (hX : X.length ≤ 1000) (hR : Rd3 w ao X) (hf : ∀ (W : World) (y : Sl3), y ∈ X → Below w.heap.size w W → Calls Try.prog 46 #[lv y] W fun e w' => e = .returned (.bool (f y)) ∧ Below W.heap.size W w') : Calls Try.prog 65 #[.slice ao X.length cap, mfn] w fun e w' => (∃ i : Int, e = .returned (i64 i) ∧ decide (0 ≤ i) = X.any f) ∧ Below w.heap.size w w' := by
  have HR := hid hR
  have HF := hid hf
  obtain ⟨N, hN⟩ : ∃ N, N = X.length := ⟨_, rfl⟩
  have HN := hid hN
  rw [← hN] at hX ⊢
  obtain ⟨Q, hQ⟩ : ∃ Q : Ending → Prop, Q = fun e => ∃ i : Int, e = .returned (i64 i) ∧ decide (0 ≤ i) = X.any f := ⟨_, rfl⟩
  have HQ : Hid (∀ i : Int, decide (0 ≤ i) = X.any f → Q (.returned (i64 i))) := fun i hi => by rw [hQ]; exact ⟨i, rfl, hi⟩
  suffices h : Calls Try.prog 65 #[.slice ao N cap, mfn] w fun e w' => Q e ∧ Below w.heap.size w w' by rw [hQ] at h; exact h
  clear hR hf hN hQ
  go_enter Try.func65, Try.ntmps65
  go_wp2_with fail
  go_loopw [8] (fun i wr => ∃ k : Nat, k ≤ N ∧ i = i64 k ∧ Hid ((X.take k).any f = false) ∧ Hid (Below w.heap.size w wr)) (fun i _ => N - (intOf i).toNat)
  case atStart => exact ⟨0, by omega, rfl, rfl, Below.refl _ _⟩
  case round =>
    obtain ⟨k, hk, rfl, HA, HB⟩ := hrel
    by_cases hlt : k < N
    · have hkI : (k : Int) < N := by omega
      obtain ⟨y, hy⟩ : ∃ y, X[k]? = some y := ⟨_, List.getElem?_eq_getElem (by rw [← HN.out]; exact hlt)⟩
      obtain ⟨g, o, rfl, hgl, c0, c1, c2⟩ := HR.out.below HB.out k y hy
      have HC := hid (HF.out wr y (List.mem_of_getElem? hy) HB.out)
      have hk0 : (0 : Int) ≤ k := by omega
      cases hfy : f y
      · rw [hfy] at HC
        have HA2 : Hid ((X.take (k + 1)).any f = false) := by
          rw [Hid, takeL hy, List.any_append, HA.out]
          simp [hfy]
        clear hy hfy
        go_wp2_with fail
        refine HC.out.mono ?_
        rintro e w2 ⟨rfl, hb2⟩
        have HB2 : Hid (Below w.heap.size w w2) := HB.out.trans (hb2.mono HB.out.size)
        clear hb2 HC
        go_wp2_with fail
        exact ⟨⟨k + 1, by omega, by go_num, HA2, HB2⟩, by simp [intOf]; omega⟩
      · rw [hfy] at HC
        have HA2 : Hid (decide ((0 : Int) ≤ k) = X.any f) := by
          rw [Hid, decide_eq_true hk0, eq_comm, List.any_eq_true]
          exact ⟨y, List.mem_of_getElem? hy, hfy⟩
        clear hy hfy
        go_wp2_with fail
        refine HC.out.mono ?_
        rintro e w2 ⟨rfl, hb2⟩
        have HB2 : Hid (Below w.heap.size w w2) := HB.out.trans (hb2.mono HB.out.size)
        clear hb2 HC
        go_wp2_with fail
        go_ret
        exact ⟨HQ.out _ HA2.out, HB2.out⟩
    · have HA2 : Hid (decide ((0 : Int) ≤ -1) = X.any f) := by
        have := HA.out
        rw [List.take_of_length_le (by rw [← HN.out]; omega)] at this
        rw [Hid, this]; rfl
      go_wp2_with fail
      go_ret
      exact ⟨HQ.out _ HA2.out, HB.out⟩
set_option maxRecDepth 100000 in
set_option maxHeartbeats 1600000 in
theorem mcont_ok (w : World) (ao : Option Addr) (cap : Nat) (X : List Sl3) (f : Sl3 → Bool) (hX : X.length ≤ 1000) (hR : Rd3 w ao X) (hf : ∀ (W : World) (y : Sl3), y ∈ X → Below w.heap.size w W → Calls Try.prog 46 #[lv y] W fun e w' => e = .returned (.bool (f y)) ∧ Below W.heap.size W w') : Calls Try.prog 50 #[.slice ao X.length cap, mfn] w fun e w' => e = .returned (.bool (X.any f)) ∧ Below w.heap.size w w' := by
  have HI := hid (midx_ok w ao cap X f hX hR hf)
  generalize X.any f = B at HI ⊢
  generalize X.length = N at HI ⊢
  clear hR hf hX
  go_enter Try.func50, Try.ntmps50
  go_wp2_with fail
  refine HI.out.mono ?_
  rintro e w2 ⟨⟨i, rfl, hi⟩, hb2⟩
  have HB2 := hid hb2
  have HI2 := hid hi
  clear hb2 HI
  clear hi
  go_wp2_with fail
  go_ret
  exact ⟨congrArg (fun b => Ending.returned (Value.bool b)) HI2.out, HB2.out⟩
set_option maxRecDepth 100000 in
set_option maxHeartbeats 800000 in
theorem byPlace_ok (w : World) (ao : Option Addr) (cap : Nat) (X : List Sl3) (hX : X.length ≤ 100) (hR : Rd3 w ao X) : Calls Try.prog 51 #[.slice ao X.length cap] w fun e w' => GotL w w' e (apLs X) ∧ Below w.heap.size w w' := by
  have HA := hid (sapart_ok w ao cap X hX hR)
  generalize X.length = n at HA ⊢
  generalize apLs X = Y at HA ⊢
  unfold GotL at HA
  obtain ⟨G, hG⟩ : ∃ G : World → Ending → Prop, G = fun w' e => GotL w w' e Y := ⟨_, rfl⟩
  have HG := hid hG
  suffices hh : Calls Try.prog 51 #[.slice ao n cap] w fun e w' => G w' e ∧ Below w.heap.size w w' by rw [hG] at hh; exact hh
  clear hX hR hG
  go_enter Try.func51, Try.ntmps51
  go_wp2_with fail
  refine HA.out.mono ?_
  rintro e w2 ⟨⟨ao2, cap2, rfl, hown⟩, hb⟩
  have HB := hid hb
  have HO := hid hown
  clear hb hown HA
  go_wp2_with fail
  go_ret
  refine ⟨?_, HB.out⟩
  rw [HG.out]
  exact ⟨ao2, cap2, rfl, HO.out⟩
end Go.Proofs.Ytaapiffglfppnaa
