/- A chain of capabilities, in plain lists; no statement is proved in this text. -/
import Derived.Test.YtcffodkpflfeoaaArgs
namespace Go.Proofs.Ytcffodkpflfeoaa

theorem tkB_yes {T : List Pl} {s : Nat} {p : Pl} (h : T[s]? = some p) (hc : p.c ≠ zC) : tkB T s = true := by simp [tkB, h, hc]
theorem tkB_not {T : List Pl} {s : Nat} {p : Pl} (h : T[s]? = some p) (hc : p.c = zC) : tkB T s = false := by simp [tkB, h, hc]
def ownF (f : Nat → Int) : Nat → Int
  | 0 => 1
  | k + 1 => f k
def chC (f : Nat → Int) (k : Nat) : Cp := ⟨ownF f k, 3, 63, 3⟩
def chP (f : Nat → Int) (k : Nat) : Pl := ⟨chC f k, (k : Int) - 1, 1⟩
def chT (f : Nat → Int) (n : Nat) : List Pl := (List.range 128).map fun i => if i ≤ n then chP f i else ⟨zC, 0, 0⟩
theorem chT_len (f : Nat → Int) (n : Nat) : (chT f n).length = 128 := by simp [chT]
theorem chT_get (f : Nat → Int) (n i : Nat) (hi : i < 128) : (chT f n)[i]? = some (if i ≤ n then chP f i else ⟨zC, 0, 0⟩) := by
  unfold chT
  rw [List.getElem?_map, List.getElem?_range hi]
  rfl
theorem chT_in {f : Nat → Int} {n i : Nat} {p : Pl} (h : (chT f n)[i]? = some p) : i < 128 := by
  have := (List.getElem?_eq_some_iff.1 h).1
  rwa [chT_len] at this
theorem chC_ne (f : Nat → Int) (k : Nat) : chC f k ≠ zC := fun h => by
  have : (3 : Int) = 0 := congrArg Cp.kind h
  omega
theorem chT_zero (f : Nat → Int) : z128.set 0 ⟨⟨1, 3, 63, 3⟩, -1, 1⟩ = chT f 0 := by
  apply List.ext_getElem?
  intro i
  by_cases hi : i < 128
  · rw [chT_get f 0 i hi]
    by_cases h0 : i = 0
    · subst h0
      rw [List.getElem?_set_self (by simp [z128])]
      rfl
    · rw [List.getElem?_set_ne (fun e => h0 e.symm), z128, List.getElem?_replicate, if_pos hi, if_neg (by omega)]
  · rw [List.getElem?_eq_none (by simp [z128]; omega), List.getElem?_eq_none (by rw [chT_len]; omega)]
theorem chT_succ (f : Nat → Int) (n : Nat) (hn : n + 1 < 128) : (chT f n).set (n + 1) ⟨⟨f n, 3, 63, 3⟩, (n : Int), 1⟩ = chT f (n + 1) := by
  apply List.ext_getElem?
  intro i
  by_cases hi : i < 128
  · rw [chT_get f (n + 1) i hi]
    by_cases h0 : i = n + 1
    · subst h0
      rw [List.getElem?_set_self (by rw [chT_len]; exact hn), if_pos (Nat.le_refl _)]
      simp [chP, chC, ownF]
    · rw [List.getElem?_set_ne (fun e => h0 e.symm), chT_get f n i hi]
      by_cases h : i ≤ n
      · rw [if_pos h, if_pos (by omega)]
      · rw [if_neg h, if_neg (by omega)]
  · rw [List.getElem?_eq_none (by rw [List.length_set, chT_len]; omega), List.getElem?_eq_none (by rw [chT_len]; omega)]
theorem chT_look (f : Nat → Int) (n k : Nat) (hk : k ≤ n) (hn : n < 128) : lookF (chT f n) (ownF f k) k 1 = some (chC f k) := by
  have := lookF_at (T := chT f n) (env := ownF f k) (gn := 1) (s := k) (p := chP f k) (by rw [chT_get f n k (by omega), if_pos hk]) (chC_ne f k) rfl rfl
  exact this
theorem chT_free (f : Nat → Int) (n : Nat) (hn : n + 1 < 128) : (chT f n)[n + 1]? = some ⟨zC, 0, 0⟩ := by
  rw [chT_get f n (n + 1) hn, if_neg (by omega)]
theorem chT_no (f : Nat → Int) (n : Nat) : ∀ j q, j < n + 1 → (chT f n)[j]? = some q → q.c ≠ zC := fun j q hj hq => by
  rw [chT_get f n j (chT_in hq), if_pos (by omega)] at hq
  cases hq
  exact chC_ne f j
theorem chT_rk (f : Nat → Int) (n : Nat) : Rk (chT f n) rk7 := ⟨fun s p hp hc => by
  have hs := chT_in hp
  rw [chT_get f n s hs] at hp
  by_cases h : s ≤ n
  · rw [if_pos h] at hp
    cases hp
    cases s with
    | zero => exact Or.inl rfl
    | succ s =>
      refine Or.inr ⟨s, chP f s, ?_, ?_, chC_ne f s, ?_⟩
      · show ((s + 1 : Nat) : Int) - 1 = s; omega
      · rw [chT_get f n s (by omega), if_pos (by omega)]
      · unfold rk7; omega
  · rw [if_neg h] at hp
    cases hp
    exact absurd rfl hc⟩
theorem chT_hg (f : Nat → Int) (n d : Nat) : ∀ (s N : Nat), s ≤ n → s < 128 → s + 2 ≤ N → hgF (chT f n) (mDrop (d : Nat)) N s = decide (d ≤ s)
  | 0, N, hs, _, hN => by
    obtain ⟨N', rfl⟩ : ∃ N', N = N' + 2 := ⟨N - 2, by omega⟩
    by_cases h : d = 0
    · subst h
      rw [hgF_yes _ _ _ _ (by simp [mDrop])]
      simp
    · have hp : (chT f n)[0]? = some (chP f 0) := by rw [chT_get f n 0 (by omega), if_pos (by omega)]
      rw [hgF_no _ _ _ 0 _ hp (by simp [mDrop]; omega)]
      have : (chP f 0).fr = -1 := rfl
      rw [this, hgF_end, decide_eq_false (by omega)]
  | s + 1, N, hs, h1, hN => by
    obtain ⟨N', rfl⟩ : ∃ N', N = N' + 1 := ⟨N - 1, by omega⟩
    by_cases h : d = s + 1
    · subst h
      rw [hgF_yes _ _ _ _ (by simp [mDrop])]
      simp
    · have hp : (chT f n)[s + 1]? = some (chP f (s + 1)) := by rw [chT_get f n (s + 1) h1, if_pos hs]
      rw [hgF_no _ _ _ (s + 1) _ hp (by simp [mDrop]; omega)]
      have : (chP f (s + 1)).fr = (s : Int) := by show ((s + 1 : Nat) : Int) - 1 = s; omega
      rw [this, chT_hg f n d s N' (by omega) (by omega) (by omega)]
      exact decide_eq_decide.2 (by omega)
theorem chT_gn (f : Nat → Int) (n d s : Nat) (hs : s < 128) : gnB (chT f n) (mDrop (d : Nat)) 130 s = decide (d ≤ s ∧ s ≤ n) := by
  unfold gnB
  have hg := chT_get f n s hs
  by_cases h : s ≤ n
  · rw [if_pos h] at hg
    rw [tkB_yes hg (chC_ne f s), chT_hg f n d s 130 h hs (by omega), Bool.true_and]
    exact decide_eq_decide.2 (by omega)
  · rw [if_neg h] at hg
    rw [tkB_not hg rfl, Bool.false_and, decide_eq_false (by omega)]
theorem filter_count (d n : Nat) : ∀ m : Nat, ((List.range m).filter fun s => decide (d ≤ s ∧ s ≤ n)).length = min m (n + 1) - min m d
  | 0 => by simp
  | m + 1 => by
    rw [List.range_succ, List.filter_append, List.length_append, filter_count d n m]
    by_cases h : d ≤ m ∧ m ≤ n
    · rw [List.filter_cons_of_pos (by simpa using h)]
      simp
      omega
    · rw [List.filter_cons_of_neg (by simpa using h)]
      simp
      omega
theorem chT_gnL (f : Nat → Int) (n d : Nat) : gnL (chT f n) (mDrop (d : Nat)) 130 128 = (List.range 128).filter fun s => decide (d ≤ s ∧ s ≤ n) := by
  unfold gnL
  apply List.filter_congr
  intro s hs
  exact chT_gn f n d s (by simpa using hs)
theorem chT_count (f : Nat → Int) (n d : Nat) (hn : n < 128) (hd : d ≤ n) : (gnL (chT f n) (mDrop (d : Nat)) 130 128).length = n + 1 - d := by
  rw [chT_gnL f n d, filter_count]
  omega
def dnT (f : Nat → Int) (n d : Nat) : List Pl := clr (chT f n) (gnL (chT f n) (mDrop (d : Nat)) 130 128)
theorem dnT_get (f : Nat → Int) (n d s : Nat) (hs : s < 128) (_hn : n < 128) : (dnT f n d)[s]? = some (if d ≤ s ∧ s ≤ n then clP (chP f s) else if s ≤ n then chP f s else ⟨zC, 0, 0⟩) := by
  unfold dnT
  rw [clr_get, chT_get f n s hs, chT_gnL f n d]
  simp only [Option.map_some, List.mem_filter, List.mem_range, decide_eq_true_eq, hs, true_and]
  by_cases h : d ≤ s ∧ s ≤ n
  · rw [if_pos h, if_pos h, if_pos h.2]
  · rw [if_neg h, if_neg h]
theorem dnT_tk (f : Nat → Int) (n d s : Nat) (hs : s < 128) (hn : n < 128) (hd : d ≤ n) : tkB (dnT f n d) s = decide (0 ≤ s ∧ s + 1 ≤ d) := by
  have hg := dnT_get f n d s hs hn
  by_cases h : d ≤ s ∧ s ≤ n
  · rw [if_pos h] at hg
    rw [tkB_not hg rfl]
    exact (decide_eq_false (by omega)).symm
  · rw [if_neg h] at hg
    by_cases h2 : s ≤ n
    · rw [if_pos h2] at hg
      rw [tkB_yes hg (chC_ne f s)]
      exact (decide_eq_true (by omega)).symm
    · rw [if_neg h2] at hg
      rw [tkB_not hg rfl]
      exact (decide_eq_false (by omega)).symm
theorem dnT_live (f : Nat → Int) (n d : Nat) (hn : n < 128) (hd : d ≤ n) : (lvL (dnT f n (d + 1)) 128).length = d + 1 ∨ n < d + 1 := by
  by_cases h : d + 1 ≤ n
  · left
    have e : lvL (dnT f n (d + 1)) 128 = (List.range 128).filter fun s => decide (0 ≤ s ∧ s ≤ d) := by
      unfold lvL
      apply List.filter_congr
      intro s hs
      rw [dnT_tk f n (d + 1) s (by simpa using hs) hn h]
      exact decide_eq_decide.2 (by omega)
    rw [e, filter_count]
    omega
  · right; omega
theorem dnT_look (f : Nat → Int) (n d i : Nat) (hn : n < 128) (hi : i < n) : chE (lookF (dnT f n d) (f i) ((i + 1 : Nat) : Int) 1) 2 = if i + 1 < d then 0 else 90 := by
  have hg := dnT_get f n d (i + 1) (by omega) hn
  by_cases h : i + 1 < d
  · rw [if_pos h]
    rw [if_neg (by omega), if_pos (by omega)] at hg
    rw [lookF_at (T := dnT f n d) (env := f i) (gn := 1) (s := i + 1) hg (chC_ne f (i + 1)) rfl rfl]
    rfl
  · rw [if_neg h]
    rw [if_pos (by omega)] at hg
    have : lookF (dnT f n d) (f i) ((i + 1 : Nat) : Int) 1 = none := by
      unfold lookF
      rw [if_pos (by omega), Int.toNat_natCast, hg]
      simp [clP]
    rw [this]
    rfl
theorem dnT_rts (f : Nat → Int) (n d : Nat) (hn : n < 128) (he : ∀ i, i < n → envB (f i) = true) : Rts (dnT f n d) := fun i p hp hc => by
  have hi : i < 128 := by
    have := (List.getElem?_eq_some_iff.1 hp).1
    unfold dnT at this
    rwa [clr_len, chT_len] at this
  rw [dnT_get f n d i hi hn] at hp
  by_cases h : d ≤ i ∧ i ≤ n
  · rw [if_pos h] at hp; cases hp; exact absurd rfl hc
  · rw [if_neg h] at hp
    by_cases h2 : i ≤ n
    · rw [if_pos h2] at hp
      cases hp
      show rightB (chC f i) = true
      cases i with
      | zero => rfl
      | succ i =>
        have := he i (by omega)
        unfold envB at this
        unfold rightB
        rw [decide_eq_true_iff] at this ⊢
        simp only [chC, ownF]
        omega
    · rw [if_neg h2] at hp; cases hp; exact absurd rfl hc
def hdc (k : Nat) : List Hd := (List.range k).map fun i => (i, (1 : Int))
theorem hdc_succ (k : Nat) : hdc (k + 1) = hdc k ++ [(k, 1)] := by simp [hdc, List.range_succ]
theorem hdc_len (k : Nat) : (hdc k).length = k := by simp [hdc]
theorem hcn_get : ∀ (l : List Hd) (i : Nat) (h : Hd), l[i]? = some h → (hcn l)[i * 2]? = some (i64 (h.1 : Nat)) ∧ (hcn l)[i * 2 + 1]? = some (i64 h.2)
  | [], i, h, hi => by simp at hi
  | x :: l, 0, h, hi => by
    simp at hi
    subst hi
    exact ⟨rfl, rfl⟩
  | x :: l, i + 1, h, hi => by
    have := hcn_get l i h (by simpa using hi)
    have e : hcn (x :: l) = i64 (x.1 : Nat) :: i64 x.2 :: hcn l := rfl
    rw [e, show (i + 1) * 2 = i * 2 + 1 + 1 by omega]
    simpa using this
theorem hdc_get (k i : Nat) (h : i < k) : (hdc k)[i]? = some (i, 1) := by simp [hdc, h]
end Go.Proofs.Ytcffodkpflfeoaa
