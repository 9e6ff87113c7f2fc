/- Both Reads as plain functions are one; no statement is proved in this text. -/
import Derived.Test.YtobkehlkopkaeaaDoorDn
namespace Go.Proofs.YtobkehlkopkaeaaDoor
set_option maxRecDepth 100000

theorem atF_le : ∀ (R : List (List Bs)) (y : Bs) (i j : Nat) (ws : List Bs), R[j]? = some ws → nmD ws = y → ∃ q : Nat, q ≤ j ∧ atF R y i = (i + q : Nat)
  | [], _, _, _, _, h, _ => by simp at h
  | us :: r, y, i, j, ws, h, hn => by
    unfold atF
    by_cases hu : nmD us = y
    · rw [if_pos hu]; exact ⟨0, by omega, by simp⟩
    · rw [if_neg hu]
      cases j with
      | zero => simp at h; rw [h] at hu; exact absurd hn hu
      | succ j =>
        obtain ⟨q, h1, h2⟩ := atF_le r y (i + 1) j ws (by simpa using h) hn
        exact ⟨q + 1, by omega, by rw [h2]; congr 1; omega⟩
theorem opOf_lt {x : Bs} {k : Nat} (h : opOf x = some k) : k < 21 := by
  unfold opOf at h
  exact List.mem_range.1 (List.mem_of_find?_eq_some h)
theorem shp_sum : ∀ k : Nat, k < 21 → (shpF k).length = rg k + fNums k := by decide +kernel
theorem szI_nat {k : Nat} (hk : k < 21) : szI (k : Int) = (sz k : Nat) := by
  unfold szI
  rw [if_pos (by omega), Int.toNat_natCast]
theorem pz_op {x : Bs} {t : List Bs} {k : Nat} (hl : labF (x :: t) = none) (ho : opOf x = some k) : pz (x :: t) = sz k := by
  unfold pz szOf
  rw [hl]
  simp only [List.headD_cons, ho]
theorem ofD_some {x : Bs} {t : List Bs} {k : Nat} (ho : opOf x = some k) : ofD (x :: t) = if (shpF k).length = t.length then (match lpD ((shpF k).zip t) 0 (⟨k, 0, 0, 0⟩, []) with
  | none => zeroD
  | some s => if isI s.1 then (s.1, s.2, true) else zeroD) else zeroD := by
  unfold ofD
  rw [List.headD_cons, ho]
  rfl
theorem wrW_ins {R : List (List Bs)} {ws : List Bs} {i : Nat} (h1 : ws ≠ []) (h2 : nmD ws = []) : wrW R ws i = (!(ofD ws).2.2 || (!(ofD ws).2.1.isEmpty && decide (atD R (ofD ws).2.1 < 0))) := by
  unfold wrW
  rw [if_neg h1, if_neg (by simp [h2])]
/-- A line by both. -/
def LineOk (R : List (List Bs)) (M : Labs) (r : List (List Bs)) (ws : List Bs) (i : Nat) (out : Bs) : Prop :=
  (wrW R ws i = true ∧ rdF M (ws.take 4 :: r) (i + 1) out = .inr (i + 1)) ∨
  (wrW R ws i = false ∧ ∃ b, rdF M (ws.take 4 :: r) (i + 1) out = rdF M r (i + 1 + 1) (out ++ b) ∧ b.length = pz ws ∧ (ws = [] ∨ nmD ws ≠ [] → b = []) ∧
    (ws ≠ [] → nmD ws = [] → (∀ n, n ≤ R.length → plS (R.take n) = psum (R.take n)) → b = plain (instD R ws i)))
theorem line_ok {R : List (List Bs)} {M : Labs} (hM : LabsOk R M) (r : List (List Bs)) (i : Nat) (hi : i < R.length) (out : Bs) (ho : out.length = psum (R.take i)) : LineOk R M r R[i] i out := by
  have hgi : R[i]? = some R[i] := List.getElem?_eq_getElem hi
  have hps := psum_snoc R hi
  unfold LineOk
  generalize R[i] = ws at *
  rcases ws with _ | ⟨x, t⟩
  · refine Or.inr ⟨by unfold wrW; simp, [], ?_, by decide, fun _ => rfl, fun h => absurd rfl h⟩
    rw [List.append_nil]
    show rdF M ([] :: r) (i + 1) out = _
    conv => lhs; unfold rdF
  · have htk : (x :: t).take 4 = x :: t.take 3 := rfl
    have hlt : labF (x :: t.take 3) = labF (x :: t) := by rw [← htk]; exact labF_take _
    rw [htk]
    cases hl : labF (x :: t) with
    | some y =>
      rw [hl] at hlt
      have hn : nmD (x :: t) = y := by unfold nmD; rw [hl]; rfl
      have hy : y ≠ [] := (labF_lab hl).2
      have hpz : pz (x :: t) = 0 := by unfold pz; rw [hl]
      obtain ⟨q, hq1, hq2⟩ := atF_le R y 0 i _ hgi hn
      have hq3 : atD R y = (q : Nat) := by unfold atD; rw [hq2]; simp
      have hw : wrW R (x :: t) i = decide (atD R y < i) := by
        unfold wrW
        rw [if_neg (by simp), if_pos (by rw [hn]; exact hy), hn]
      rw [rdF_lab hlt, hw, hq3]
      have hlook : lineOf M y = q + 1 := by
        rcases hM y with ⟨_, h2⟩ | ⟨_, _, q', _, h3, h4⟩
        · have := h2 hy; rw [hq3] at this; omega
        · unfold lineOf
          rw [h4]
          rw [hq3] at h3
          have : q = q' := by omega
          simp [this]
      rw [hlook]
      by_cases hqi : q = i
      · refine Or.inr ⟨by simp; omega, [], ?_, by rw [hpz]; rfl, fun _ => rfl, fun _ h => absurd (by rw [← hn, h]) hy⟩
        rw [if_pos (by omega), List.append_nil]
      · refine Or.inl ⟨by simp; omega, ?_⟩
        rw [if_neg (by omega)]
    | none =>
      rw [hl] at hlt
      have hn : nmD (x :: t) = [] := by unfold nmD; rw [hl]; rfl
      rw [rdF_op hlt, wrW_ins (by simp) hn]
      cases hop : opOf x with
      | none =>
        have hof : ofD (x :: t) = zeroD := by unfold ofD; rw [List.headD_cons, hop]
        rw [hof]
        exact Or.inl ⟨rfl, rfl⟩
      | some k =>
        have hk := opOf_lt hop
        have hsum := shp_sum k hk
        have hs2 := shp_len (k : Int)
        have hpz := pz_op hl hop
        have hinst : instD R (x :: t) i = if (ofD (x :: t)).2.1 = [] then (ofD (x :: t)).1 else ⟨(ofD (x :: t)).1.op, (ofD (x :: t)).1.a, (ofD (x :: t)).1.b, (plS (R.take (atD R (ofD (x :: t)).2.1).toNat) - plS (R.take (i + 1))) % 65536⟩ := rfl
        obtain ⟨o3, ho3⟩ : ∃ o3, o3 = ofD (x :: t) := ⟨_, rfl⟩
        rw [← ho3] at hinst ⊢
        rw [ofD_some hop] at ho3
        simp only
        by_cases hlen : (shpF k).length = t.length
        · have ht3 : t.take 3 = t := List.take_of_length_le (by omega)
          rw [if_pos hlen] at ho3
          rw [ht3]
          have hsame := same1 hM k out.length hk t hlen.symm
          unfold Same1 at hsame
          cases hlp : lpD ((shpF k).zip t) 0 (⟨k, 0, 0, 0⟩, []) with
          | none =>
            rw [hlp] at hsame ho3
            subst ho3
            refine Or.inl ⟨rfl, ?_⟩
            have he : encF k t out.length M = none := by
              unfold encF
              cases hq : encI k t out.length M with
              | none => rfl
              | some i' => simp only; rw [if_neg (by rw [hsame i' hq]; simp)]
            rw [he]
          | some s =>
            rw [hlp] at hsame ho3
            simp only at hsame ho3
            obtain ⟨hs1, hs3, hs4⟩ := hsame
            have hlab : s.2 ≠ [] → (s.1.op = 17 ∨ s.1.op = 18 ∨ s.1.op = 19) := fun hne => by
              obtain ⟨_, e2⟩ := lp_inv _ _ _ _ hlp
              rcases e2 with e2 | ⟨p, hp, hp2⟩
              · exact absurd e2 hne
              · have hm : (108 : UInt8) ∈ shpF k := by rw [← hp2]; exact (List.of_mem_zip hp).1
                rw [hs3]; exact shp_lab hm
            have hpl : ∀ I : In, I.op = k → (plain I).length = pz (x :: t) := fun I hI => by rw [plain_len, hI, hpz, Int.toNat_natCast]
            by_cases hisI : isI s.1 = true
            · rw [if_pos hisI] at ho3
              subst ho3
              simp only at hinst ⊢
              by_cases hlb : s.2 = []
              · have he : encF k t out.length M = some (plain s.1) := by
                  unfold encF
                  rw [hs1]; unfold fitI; rw [if_pos hlb]
                  simp only; rw [if_pos hisI]
                rw [he]
                refine Or.inr ⟨by simp [hlb], plain s.1, rfl, hpl _ hs3, fun h => ?_, fun _ _ _ => by rw [hinst, if_pos hlb]⟩
                rcases h with h | h
                · cases h
                · exact absurd hn h
              · rcases hM s.2 with ⟨h2, h3⟩ | ⟨_, _, q, h3, h4, h5⟩
                · have he : encF k t out.length M = none := by
                    unfold encF
                    rw [hs1]; unfold fitI; rw [if_neg hlb, h2]
                  rw [he]
                  refine Or.inl ⟨?_, rfl⟩
                  have := h3 hlb
                  simp [hlb, this]
                · have hd0 : (0 : Int) ≤ ((psum (R.take q) : Int) - ((out.length + sz k : Nat) : Int)) % 65536 := Int.emod_nonneg _ (by omega)
                  have hd1 : ((psum (R.take q) : Int) - ((out.length + sz k : Nat) : Int)) % 65536 < 65536 := Int.emod_lt_of_pos _ (by omega)
                  have hdv : ((dist (out.length + sz k : Nat) (psum (R.take q) : Nat) : Nat) : Int) = ((psum (R.take q) : Int) - ((out.length + sz k : Nat) : Int)) % 65536 := by
                    unfold dist
                    exact Int.toNat_of_nonneg hd0
                  have hI2 := isI_num hisI (hlab hlb) hd0 hd1
                  have he : encF k t out.length M = some (plain ⟨s.1.op, s.1.a, s.1.b, ((psum (R.take q) : Int) - ((out.length + sz k : Nat) : Int)) % 65536⟩) := by
                    unfold encF
                    rw [hs1]; unfold fitI; rw [if_neg hlb, h5]
                    simp only
                    rw [hdv, if_pos hI2]
                  rw [he]
                  refine Or.inr ⟨by simp [h4], _, rfl, hpl _ hs3, fun h => ?_, fun _ _ hP => ?_⟩
                  · rcases h with h | h
                    · cases h
                    · exact absurd hn h
                  · rw [hinst, if_neg hlb, h4, Int.toNat_natCast, hP q (by omega), hP (i + 1) (by omega), hps, ho, hpz]
            · rw [if_neg hisI] at ho3
              subst ho3
              refine Or.inl ⟨rfl, ?_⟩
              have he : encF k t out.length M = none := by
                unfold encF
                rw [hs1]; unfold fitI
                by_cases hlb : s.2 = []
                · rw [if_pos hlb]; simp only; rw [if_neg hisI]
                · rw [if_neg hlb]
                  cases hq : lookL M s.2 with
                  | none => rfl
                  | some p =>
                    simp only
                    rw [if_neg]
                    intro hI
                    have h0 := (hs4 hlb).1
                    have := isI_num (v := s.1.n) hI (hlab hlb) (by omega) (by omega)
                    exact hisI this
              rw [he]
        · rw [if_neg hlen] at ho3
          subst ho3
          refine Or.inl ⟨rfl, ?_⟩
          have he : encF k (t.take 3) out.length M = none := by
            unfold encF encI
            rw [if_neg (by rw [List.length_take]; omega)]
          rw [he]
end Go.Proofs.YtobkehlkopkaeaaDoor
