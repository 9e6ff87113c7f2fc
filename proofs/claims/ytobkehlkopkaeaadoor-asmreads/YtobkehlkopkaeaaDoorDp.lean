/- Both Reads are one; no statement is proved in this text. -/
import Derived.Test.YtobkehlkopkaeaaDoorDo
namespace Go.Proofs.YtobkehlkopkaeaaDoor
set_option maxRecDepth 100000

theorem pzW_pz {R : List (List Bs)} {ws : List Bs} {i : Nat} (h : wrW R ws i = false) : pzW ws = (pz ws : Nat) := by
  unfold pzW
  rcases ws with _ | ⟨x, t⟩
  · rw [if_neg (fun h => h.1 rfl)]; decide
  · cases hl : labF (x :: t) with
    | some y =>
      have hn : nmD (x :: t) = y := by unfold nmD; rw [hl]; rfl
      rw [if_neg (fun h => (labF_lab hl).2 (by rw [← hn]; exact h.2))]
      unfold pz
      rw [hl]; rfl
    | none =>
      have hn : nmD (x :: t) = [] := by unfold nmD; rw [hl]; rfl
      rw [if_pos ⟨by simp, hn⟩]
      have hok := (wr_no h (by simp) hn).1
      cases hop : opOf x with
      | none =>
        have hof : ofD (x :: t) = zeroD := by unfold ofD; rw [List.headD_cons, hop]
        rw [hof] at hok; cases hok
      | some k =>
        have hk := opOf_lt hop
        rw [pz_op hl hop, ← szI_nat hk]
        congr 1
        rw [ofD_some hop] at hok ⊢
        by_cases hlen : (shpF k).length = t.length
        · rw [if_pos hlen] at hok ⊢
          cases hlp : lpD ((shpF k).zip t) 0 (⟨k, 0, 0, 0⟩, []) with
          | none => rw [hlp] at hok; cases hok
          | some s =>
            rw [hlp] at hok
            simp only at hok ⊢
            by_cases hisI : isI s.1 = true
            · rw [if_pos hisI]
              exact (lp_inv _ _ _ _ hlp).1
            · rw [if_neg hisI] at hok; cases hok
        · rw [if_neg hlen] at hok; cases hok
theorem fwF_none {R : List (List Bs)} : ∀ (l : List (List Bs)) (i : Nat), fwF R l i = none → ∀ j ws, l[j]? = some ws → wrW R ws (i + j) = false
  | [], _, _, j, ws, h => by simp at h
  | us :: l, i, hn, j, ws, h => by
    unfold fwF at hn
    by_cases hw : wrW R us i = true
    · rw [if_pos hw] at hn; cases hn
    · rw [if_neg hw] at hn
      cases j with
      | zero =>
        simp at h
        subst h
        simpa using hw
      | succ j =>
        have := fwF_none l (i + 1) hn j ws (by simpa using h)
        rw [show i + 1 + j = i + (j + 1) by omega] at this
        exact this
theorem plS_psum {R : List (List Bs)} (hw : ∀ j (h : j < R.length), wrW R R[j] j = false) : ∀ n, n ≤ R.length → plS (R.take n) = (psum (R.take n) : Nat)
  | 0, _ => by simp [plS, psum]
  | n + 1, h => by
    have hn : n < R.length := by omega
    rw [plS_snoc R hn, psum_snoc R hn, plS_psum hw n (by omega), pzW_pz (hw n hn)]
    omega
theorem drop_get {R : List (List Bs)} {i : Nat} {ws : List Bs} {l : List (List Bs)} (h : R.drop i = ws :: l) : ∃ hi : i < R.length, R[i] = ws ∧ R.drop (i + 1) = l := by
  have hi : i < R.length := by
    rcases Nat.lt_or_ge i R.length with h2 | h2
    · exact h2
    · rw [List.drop_eq_nil_of_le h2] at h; cases h
  rw [List.drop_eq_getElem_cons hi] at h
  exact ⟨hi, (List.cons.inj h).1, (List.cons.inj h).2⟩
theorem wrong_read {R : List (List Bs)} {M : Labs} (hM : LabsOk R M) : ∀ (l : List (List Bs)) (i : Nat) (out : Bs), R.drop i = l → out.length = psum (R.take i) → ∀ j, fwF R l i = some j → rdF M (l.map (·.take 4)) (i + 1) out = .inr (j + 1)
  | [], _, _, _, _, j, h => by cases h
  | ws :: l, i, out, hd, ho, j, h => by
    obtain ⟨hi, rfl, hl⟩ := drop_get hd
    unfold fwF at h
    rw [List.map_cons]
    rcases line_ok hM (l.map (·.take 4)) i hi out ho with ⟨h1, h2⟩ | ⟨h1, b, h2, h3, _⟩
    · rw [if_pos h1] at h
      cases h
      exact h2
    · rw [if_neg (by rw [h1]; simp)] at h
      rw [h2]
      exact wrong_read hM l (i + 1) (out ++ b) hl (by rw [List.length_append, ho, h3, psum_snoc R hi]) j h
theorem right_read {R : List (List Bs)} {M : Labs} (hM : LabsOk R M) (hw : ∀ j (h : j < R.length), wrW R R[j] j = false) : ∀ (l : List (List Bs)) (i : Nat) (out : Bs), R.drop i = l → out.length = psum (R.take i) →
    ∃ fin, rdF M (l.map (·.take 4)) (i + 1) out = .inl fin ∧ (out.length ≤ 256 → outF R l i out = if lgF l (i + 1) (psum (R.take i)) = 0 then (fin, 0) else ([], lgF l (i + 1) (psum (R.take i))))
  | [], i, out, _, _ => ⟨out, rfl, fun _ => rfl⟩
  | ws :: l, i, out, hd, ho => by
    obtain ⟨hi, rfl, hl⟩ := drop_get hd
    have hps := psum_snoc R hi
    have hno := hw i hi
    rw [List.map_cons]
    rcases line_ok hM (l.map (·.take 4)) i hi out ho with ⟨h1, h2⟩ | ⟨h1, b, h2, h3, h4, h5⟩
    · rw [hno] at h1; cases h1
    · obtain ⟨fin, f1, f2⟩ := right_read hM hw l (i + 1) (out ++ b) hl (by rw [List.length_append, ho, h3, hps])
      refine ⟨fin, by rw [h2]; exact f1, fun hle => ?_⟩
      have hlg : lgF (R[i] :: l) (i + 1) (psum (R.take i)) = if 256 < psum (R.take i) + pz R[i] then i + 1 else lgF l (i + 1 + 1) (psum (R.take i) + pz R[i]) := rfl
      have hof : outF R (R[i] :: l) i out = if R[i] = [] ∨ nmD R[i] ≠ [] then outF R l (i + 1) out else if 256 < (out ++ plain (instD R R[i] i)).length then ([], i + 1) else outF R l (i + 1) (out ++ plain (instD R R[i] i)) := rfl
      rw [hlg, hof]
      by_cases hq : R[i] = [] ∨ nmD R[i] ≠ []
      · have hb := h4 hq
        subst hb
        have hz : pz R[i] = 0 := h3.symm
        rw [if_pos hq, if_neg (show ¬ 256 < psum (R.take i) + pz R[i] by omega)]
        rw [List.append_nil] at f2
        rw [f2 hle, hps]
      · have hq1 : R[i] ≠ [] := fun e => hq (Or.inl e)
        have hq2 : nmD R[i] = [] := Classical.byContradiction fun e => hq (Or.inr e)
        have hb := h5 hq1 hq2 (plS_psum hw)
        rw [if_neg hq, ← hb]
        have hlen : (out ++ b).length = psum (R.take i) + pz R[i] := by rw [List.length_append, ho, h3]
        by_cases hlong : 256 < (out ++ b).length
        · rw [if_pos hlong, if_pos (show 256 < psum (R.take i) + pz R[i] by omega), if_neg (by omega)]
        · rw [if_neg hlong, if_neg (show ¬ 256 < psum (R.take i) + pz R[i] by omega), f2 (by omega), hps]
theorem read_same (t : Bs) : readD t = readR t := by
  obtain ⟨hM, hL⟩ := svT_ok t
  unfold readD readR
  rw [hL, rowsF_eq]
  generalize (svT t).M = M at *
  generalize rowsD t = R at *
  cases hf : fwF R R 0 with
  | some i =>
    have := wrong_read hM R 0 [] rfl (by simp [psum]) i hf
    rw [show (0 + 1 : Nat) = 1 from rfl] at this
    rw [this]
  | none =>
    have hw : ∀ j (h : j < R.length), wrW R R[j] j = false := fun j h => by
      have := fwF_none R 0 hf j R[j] (List.getElem?_eq_getElem h)
      rwa [Nat.zero_add] at this
    obtain ⟨fin, f1, f2⟩ := right_read hM hw R 0 [] rfl (by simp [psum])
    rw [show (0 + 1 : Nat) = 1 from rfl] at f1 f2
    rw [f1]
    simp only
    have h3 := f2 (by simp)
    rw [show psum (R.take 0) = 0 by simp [psum]] at h3
    rw [h3]
    by_cases hz : lgF R 1 0 = 0
    · rw [if_pos hz, if_neg (by omega)]
    · rw [if_neg hz, if_pos (by omega)]
end Go.Proofs.YtobkehlkopkaeaaDoor
