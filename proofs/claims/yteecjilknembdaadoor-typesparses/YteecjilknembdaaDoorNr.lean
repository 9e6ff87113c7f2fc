/- imagoref15's number: its contract; no statement is proved in this text. -/
import Derived.Test.YteecjilknembdaaDoorNd
namespace Go.Proofs.YteecjilknembdaaDoor
open Go.ChangeShapes Go.WideShapes Go.ChangeAt Go.RowKit Go.Deep
attribute [local go_sem ↓] Go.wp_at_zero Go.wp_at_succ

theorem tw_dig (l : Bs) (j : Nat) (hp : ∀ c ∈ l.take j, isDig c = true) (h : j < l.length) (hd : isDig l[j] = true) : j + 1 ≤ (l.takeWhile isDig).length := by
  refine tw_len isDig l (j + 1) (fun c hc => ?_) (by omega)
  rw [List.take_succ_eq_append_getElem h] at hc
  rcases List.mem_append.1 hc with hc | hc
  · exact hp c hc
  · rw [List.mem_singleton.1 hc]; exact hd
theorem tw_head (l : Bs) (h : 1 ≤ (l.takeWhile isDig).length) : (l.takeWhile isDig).head? = l.head? := by
  cases l with
  | nil => rfl
  | cons b r =>
    rw [List.takeWhile_cons] at h ⊢
    split at h
    · rename_i hb; rw [if_pos hb]; rfl
    · simp at h
theorem num_long {l : Bs} {size j : Nat} (hp : ∀ c ∈ l.take j, isDig c = true) (h : j < l.length) (hd : isDig l[j] = true) (h3 : 3 ≤ j) : numV l size = (0, -1) := by
  refine numV_no (fun e => ?_)
  have := tw_dig l j hp h hd
  omega
theorem num_zero {l : Bs} {size j : Nat} (hp : ∀ c ∈ l.take j, isDig c = true) (h : j < l.length) (hd : isDig l[j] = true) (h1 : 1 ≤ j) (h0 : valD (l.take j) = 0) : numV l size = (0, -1) := by
  refine numV_no (fun e => ?_)
  have h2 := tw_dig l j hp h hd
  have e1 := e.1
  unfold numOk at e1
  rw [tw_head l (by omega), decide_eq_false (show ¬ (l.takeWhile isDig).length = 1 by omega)] at e1
  have hne : l.head? ≠ some 48 := by
    intro e48
    rw [e48] at e1
    simp at e1
  have := valD_pos (d := l.take j) hp (by rw [List.length_take]; omega) (by rw [List.head?_take, if_neg (by omega)]; exact hne)
  omega
theorem num_none {l : Bs} {size : Nat} (he : l = [] ∨ ∃ h : 0 < l.length, isDig l[0] = false) : numV l size = (0, -1) := by
  have : l.takeWhile isDig = [] := by
    have := tw_exact l 0 (by simp) (by omega) (by rcases he with rfl | he; exact Or.inl rfl; exact Or.inr he)
    simpa using this
  refine numV_no (fun e => ?_)
  rw [this] at e
  have := e.1
  simp [numOk] at this
theorem num_some {l : Bs} {size j a : Nat} (hp : ∀ c ∈ l.take j, isDig c = true) (hl : j ≤ l.length) (he : j = l.length ∨ ∃ h : j < l.length, isDig l[j] = false) (h1 : 1 ≤ j) (h3 : j ≤ 3) (h48 : 1 < j → l.head? ≠ some 48) (hs : l.length + a = size) : numV l size = (((valD (l.take j) : Nat) : Int), ((a + j : Nat) : Int)) := by
  have ht := tw_exact l j hp hl he
  have hlen : (l.take j).length = j := by rw [List.length_take]; omega
  have hok : numOk (l.takeWhile isDig) = true := by
    unfold numOk
    rw [tw_head l (by rw [ht, hlen]; exact h1), ht, hlen]
    by_cases e : j = 1
    · simp [e]
    · have := h48 (by omega)
      rw [decide_eq_true (show 1 < j by omega)]
      simp [this]
  rw [numV_yes hok (by rw [ht, hlen]; exact h3), ht, hlen]
  congr 2
  omega
set_option maxRecDepth 100000 in
set_option maxHeartbeats 6400000 in
theorem rnum_s (s : ByteArray) (a0 : Nat) (w : World) (hs : s.size ≤ 1000000) (ha : a0 ≤ s.size) : Calls Tryd.prog 46 #[.string s, i64 a0] w fun e w' => e = .returned (.agg #[i64 (numV (s.data.toList.drop a0) s.size).1, i64 (numV (s.data.toList.drop a0) s.size).2]) ∧ Below w.heap.size w w' := by
  obtain ⟨l, hl⟩ : ∃ l, l = s.data.toList.drop a0 := ⟨_, rfl⟩
  have hlen : l.length = s.size - a0 := by rw [hl, List.length_drop, Array.length_toList]; rfl
  have HG : Hid (∀ (k p : Nat) (h : k < l.length) (h2 : p < s.size), p = a0 + k → l[k] = s[p]) := by
    intro k p h h2 e
    subst e
    subst hl
    rw [List.getElem_drop]; rfl
  rw [← hl]
  obtain ⟨R, hR⟩ : ∃ R, R = numV l s.size := ⟨_, rfl⟩
  have HR := hid hR
  have HL := hid hlen
  rw [← hR]
  have HX : Hid ((w.alloc (.cells #[i64 0, i64 0] 76)).heap[w.heap.size]? = some (.cells #[i64 0, i64 0] 76)) := heap_last w _
  have HBV : Hid (Below w.heap.size w (w.alloc (.cells #[i64 0, i64 0] 76))) := below_one w _
  clear hl hR hlen
  go_enter Tryd.func46, Tryd.ntmps46
  go_upto_region 1 with fail
  obtain ⟨Z, hZ⟩ : ∃ Z, Z = w.heap.size := ⟨_, rfl⟩
  have HZ : Hid (w.heap.size ≤ Z) := by show _ ≤ _; omega
  rw [← hZ] at HX ⊢
  clear hZ
  generalize w.alloc (.cells #[i64 0, i64 0] 76) = V at *
  have yc0 : V.cell? ⟨Z, 0, none⟩ = some (i64 0) := blk_cell HX.out 0
  have yf0 : V.frozen? ⟨Z, 0, none⟩ = false := blk_frozen HX.out 0
  have yc1 : V.cell? ⟨Z, 1, none⟩ = some (i64 0) := blk_cell HX.out 1
  have yf1 : V.frozen? ⟨Z, 1, none⟩ = false := blk_frozen HX.out 1
  go_wp2_with fail
  go_loop [5, 6] (fun a u => ∃ (k p : Nat), k ≤ 3 ∧ p ≤ a0 + k ∧ a0 + k ≤ p ∧ p ≤ s.size ∧ u = i64 p ∧ a = i64 (valD (l.take k) : Nat) ∧ Hid (∀ c ∈ l.take k, isDig c = true) ∧ Hid (1 < k → l.head? ≠ some 48)) (fun _ u => s.size + 1 - (intOf u).toNat)
  case atStart => exact ⟨0, a0, by omega, by omega, by omega, ha, rfl, rfl, by intro c hc; simp at hc, by intro h; omega⟩
  case round =>
    obtain ⟨k, p, hk3, hpk1, hpk2, hps, rfl, rfl, HA, HN⟩ := hrel
    have hv : valD (l.take k) < 1000 := by
      have := valD_lt 3 (l.take k) (by rw [List.length_take]; omega) HA.out
      simpa using this
    have HKL : Hid (k ≤ l.length) := by show _ ≤ _; have := HL.out; omega
    by_cases hgo : ∃ h : p < s.size, (47 : Int) < s[p].toNat ∧ (s[p].toNat : Int) < 58
    · obtain ⟨h1, h3, h4⟩ := hgo
      have hkl : k < l.length := by have := HL.out; omega
      have hlk := HG.out k p hkl h1 (by omega)
      have hdg : isDig l[k] = true := by rw [hlk]; exact dig_of (by omega) (by omega)
      by_cases h5 : 3 ≤ k
      · have HF : Hid (R = (0, -1)) := by show _ = _; rw [HR.out]; exact num_long HA.out hkl hdg h5
        clear hlk hdg hkl
        generalize valD (l.take k) = v0 at *
        go_wp2_with fail
        refine bodyPost_ret (v := .agg #[i64 0, i64 (-1)]) (results_one Tryd.results46 rfl (load76 (set2c HX.out _ _))) rfl ?_
        exact ⟨by rw [HF.out], (HBV.out.setCell (p := ⟨Z, 0, none⟩) HZ.out _).setCell (p := ⟨Z, 1, none⟩) HZ.out _⟩
      · by_cases h6 : 1 ≤ k ∧ valD (l.take k) = 0
        · have HF : Hid (R = (0, -1)) := by show _ = _; rw [HR.out]; exact num_zero HA.out hkl hdg h6.1 h6.2
          clear hlk hdg hkl
          obtain ⟨h7, h8⟩ := h6
          rw [h8]
          clear h8 hv
          go_wp2_with fail
          refine bodyPost_ret (v := .agg #[i64 0, i64 (-1)]) (results_one Tryd.results46 rfl (load76 (set2c HX.out _ _))) rfl ?_
          exact ⟨by rw [HF.out], (HBV.out.setCell (p := ⟨Z, 0, none⟩) HZ.out _).setCell (p := ⟨Z, 1, none⟩) HZ.out _⟩
        · have HA2 : Hid (∀ c ∈ l.take (k + 1), isDig c = true) := by
            intro c hc
            rw [List.take_succ_eq_append_getElem hkl] at hc
            rcases List.mem_append.1 hc with hc | hc
            · exact HA.out c hc
            · rw [List.mem_singleton.1 hc]; exact hdg
          have HV2 : Hid (valD (l.take (k + 1)) = 10 * valD (l.take k) + (s[p].toNat - 48)) := by show _ = _; rw [List.take_succ_eq_append_getElem hkl, valD_snoc, hlk]
          have HN2 : Hid (1 < k + 1 → l.head? ≠ some 48) := by
            intro hk1 e48
            by_cases e : 1 < k
            · exact HN.out e e48
            · have e1 : k = 1 := by omega
              refine h6 ⟨by omega, ?_⟩
              rw [e1]
              cases l with
              | nil => cases e48
              | cons b r => have : b = 48 := by simpa using e48
                            rw [this]; rfl
          have h9 : ¬ (1 ≤ k) ∨ valD (l.take k) ≠ 0 := by
            by_cases e : 1 ≤ k
            · exact Or.inr (fun e0 => h6 ⟨e, e0⟩)
            · exact Or.inl e
          clear hlk hdg hkl h6
          generalize valD (l.take k) = v0 at *
          by_cases h7 : 1 ≤ k
          · have h8 : v0 ≠ 0 := by rcases h9 with h9 | h9; exact absurd h7 h9; exact h9
            have q1 : ((v0 : Int) == 0) = false := by simp; omega
            have q2 : (v0 == 0) = false := by simpa using h8
            clear h9
            go_wp2_with fail
            go_round
            case rel => exact ⟨k + 1, p + 1, by omega, by omega, by omega, by omega, by go_num, by rw [HV2.out]; go_num, HA2, HN2⟩
            case measure => simp [intOf]; omega
          · clear h9
            go_wp2_with fail
            go_round
            case rel => exact ⟨k + 1, p + 1, by omega, by omega, by omega, by omega, by go_num, by rw [HV2.out]; go_num, HA2, HN2⟩
            case measure => simp [intOf]; omega
    · have HE : Hid (k = l.length ∨ ∃ h : k < l.length, isDig l[k] = false) := by
        by_cases e2 : p = s.size
        · exact Or.inl (by have := HL.out; omega)
        · have hkl : k < l.length := by have := HL.out; omega
          refine Or.inr ⟨hkl, ?_⟩
          have hp2 : p < s.size := by omega
          rw [HG.out k p hkl hp2 (by omega)]
          refine dig_no ?_
          by_cases e3 : (48 : Int) ≤ s[p].toNat
          · exact Or.inr (fun e4 => hgo ⟨hp2, by omega, by omega⟩)
          · exact Or.inl e3
      have HF0 : Hid (k = 0 → R = (0, -1)) := by
        intro e
        rw [HR.out]
        refine num_none ?_
        have := HE.out
        subst e
        rcases this with h | h
        · exact Or.inl (List.eq_nil_of_length_eq_zero h.symm)
        · exact Or.inr h
      have HF1 : Hid (1 ≤ k → R = (((valD (l.take k) : Nat) : Int), ((p : Nat) : Int))) := by
        intro e
        rw [HR.out, num_some (a := a0) HA.out HKL.out HE.out e hk3 HN.out (by have := HL.out; omega), show a0 + k = p by omega]
      generalize valD (l.take k) = v0 at *
      have HGO := hid hgo
      by_cases g1 : p < s.size
      · by_cases g3 : (47 : Int) < s[p].toNat
        · have g4 : ¬ (s[p].toNat : Int) < 58 := fun g4 => hgo ⟨g1, g3, g4⟩
          clear hgo
          by_cases h0 : k = 0
          · have HF := hid (HF0.out h0)
            go_wp2_with fail
            refine bodyPost_ret (v := .agg #[i64 0, i64 (-1)]) (results_one Tryd.results46 rfl (load76 (set2c HX.out _ _))) rfl ?_
            exact ⟨by rw [HF.out], (HBV.out.setCell (p := ⟨Z, 0, none⟩) HZ.out _).setCell (p := ⟨Z, 1, none⟩) HZ.out _⟩
          · have HF := hid (HF1.out (by omega))
            go_wp2_with fail
            refine bodyPost_ret (v := .agg #[i64 v0, i64 p]) (results_one Tryd.results46 rfl (load76 (set2c HX.out _ _))) rfl ?_
            exact ⟨by rw [HF.out], (HBV.out.setCell (p := ⟨Z, 0, none⟩) HZ.out _).setCell (p := ⟨Z, 1, none⟩) HZ.out _⟩
        · clear hgo
          by_cases h0 : k = 0
          · have HF := hid (HF0.out h0)
            go_wp2_with fail
            refine bodyPost_ret (v := .agg #[i64 0, i64 (-1)]) (results_one Tryd.results46 rfl (load76 (set2c HX.out _ _))) rfl ?_
            exact ⟨by rw [HF.out], (HBV.out.setCell (p := ⟨Z, 0, none⟩) HZ.out _).setCell (p := ⟨Z, 1, none⟩) HZ.out _⟩
          · have HF := hid (HF1.out (by omega))
            go_wp2_with fail
            refine bodyPost_ret (v := .agg #[i64 v0, i64 p]) (results_one Tryd.results46 rfl (load76 (set2c HX.out _ _))) rfl ?_
            exact ⟨by rw [HF.out], (HBV.out.setCell (p := ⟨Z, 0, none⟩) HZ.out _).setCell (p := ⟨Z, 1, none⟩) HZ.out _⟩
      · clear hgo
        by_cases h0 : k = 0
        · have HF := hid (HF0.out h0)
          go_wp2_with fail
          refine bodyPost_ret (v := .agg #[i64 0, i64 (-1)]) (results_one Tryd.results46 rfl (load76 (set2c HX.out _ _))) rfl ?_
          exact ⟨by rw [HF.out], (HBV.out.setCell (p := ⟨Z, 0, none⟩) HZ.out _).setCell (p := ⟨Z, 1, none⟩) HZ.out _⟩
        · have HF := hid (HF1.out (by omega))
          go_wp2_with fail
          refine bodyPost_ret (v := .agg #[i64 v0, i64 p]) (results_one Tryd.results46 rfl (load76 (set2c HX.out _ _))) rfl ?_
          exact ⟨by rw [HF.out], (HBV.out.setCell (p := ⟨Z, 0, none⟩) HZ.out _).setCell (p := ⟨Z, 1, none⟩) HZ.out _⟩
end Go.Proofs.YteecjilknembdaaDoor
