/- The document's Fork; no statement is proved in this text. -/
import Derived.Test.YtaapiffglfppnaaDi
namespace Go.Proofs.Ytaapiffglfppnaa
open Go.ChangeShapes Go.WideShapes Go.ChangeAt Go.RowKit Go.Deep
attribute [local go_sem ↓] Go.wp_at_zero Go.wp_at_succ

/-- A slot put in its place. -/
def ltB (a b : Int × Int) : Bool := decide (a.1 < b.1 ∨ a.1 = b.1 ∧ a.2 < b.2)
def insS (S : List Sl3) (x : Sl3) : List Sl3 := S.filter (fun e => ltB (pk e) (pk x)) ++ x :: S.filter (fun e => !ltB (pk e) (pk x))
theorem insS_spl {S A B : List Sl3} {x : Sl3} (h : Spl S x A B) : insS S x = A ++ x :: B := by
  obtain ⟨rfl, hA, hB⟩ := h
  have hA2 : ∀ e ∈ A, ltB (pk e) (pk x) = true := fun e he => decide_eq_true (hA e he)
  have hB2 : ∀ e ∈ B, ltB (pk e) (pk x) = false := fun e he => by
    have h1 := hB e he
    unfold lt2 at h1
    refine decide_eq_false ?_
    omega
  unfold insS
  rw [List.filter_append, List.filter_append, List.filter_eq_self.2 hA2, List.filter_eq_nil_iff.2 (fun e he => by rw [hB2 e he]; simp), List.filter_eq_nil_iff.2 (fun e he => by rw [hA2 e he]; simp), List.filter_eq_self.2 (fun e he => by rw [hB2 e he]; rfl)]
  simp
theorem insS_len (S : List Sl3) (x : Sl3) : (insS S x).length = S.length + 1 := by
  unfold insS
  rw [List.length_append, List.length_cons]
  have : (S.filter (fun e => ltB (pk e) (pk x))).length + (S.filter (fun e => !ltB (pk e) (pk x))).length = S.length := by
    induction S with
    | nil => rfl
    | cons y S ih =>
      rw [List.filter_cons, List.filter_cons]
      cases ltB (pk y) (pk x)
      · simp only [Bool.not_false, if_true, if_false, Bool.false_eq_true, List.length_cons]; omega
      · simp only [Bool.not_true, if_true, if_false, Bool.false_eq_true, List.length_cons]; omega
  omega
/-- A child's slots put in, one by one. -/
def fkT (p c : Int) (S : List Sl3) (k : Nat) : List Sl3 := (S.take k).foldl (fun T s => if s.1 == p then insS T (c, s.2.1, s.2.2) else T) S
theorem fkT_succ {p c : Int} {S : List Sl3} {k : Nat} {s : Sl3} (h : S[k]? = some s) : fkT p c S (k + 1) = if s.1 == p then insS (fkT p c S k) (c, s.2.1, s.2.2) else fkT p c S k := by
  unfold fkT
  rw [takeL h, List.foldl_append]
  rfl
theorem fkT_len {p c : Int} {S : List Sl3} : ∀ k, k ≤ S.length → (fkT p c S k).length ≤ S.length + k
  | 0, _ => by simp [fkT]
  | k + 1, hk => by
    have ih := fkT_len (p := p) (c := c) (S := S) k (by omega)
    rw [fkT_succ (List.getElem?_eq_getElem (show k < S.length by omega))]
    split
    · rw [insS_len]; omega
    · omega
def ForkSpl (p c : Int) (S : List Sl3) : Prop := ∀ k s, S[k]? = some s → s.1 = p → ∃ A B, Spl (fkT p c S k) (c, s.2.1, s.2.2) A B
set_option maxRecDepth 100000 in
set_option maxHeartbeats 1600000 in
theorem rfork_arg (w : World) (r : Nat) (p c : Int) (h : ¬ (1 ≤ p ∧ p ≤ 6 ∧ 1 ≤ c ∧ c ≤ 6 ∧ p ≠ c)) : Calls Try.prog 34 #[pq r, i64 p, i64 c] w fun e w' => e = .returned (i64 1) ∧ w' = w := by
  by_cases h1 : p < 1
  · clear h
    go_enter Try.func34, Try.ntmps34
    go_wp2_with fail
    go_ret
    exact ⟨rfl, rfl⟩
  · by_cases h2 : 6 < p
    · clear h
      go_enter Try.func34, Try.ntmps34
      go_wp2_with fail
      go_ret
      exact ⟨rfl, rfl⟩
    · by_cases h3 : c < 1
      · clear h
        go_enter Try.func34, Try.ntmps34
        go_wp2_with fail
        go_ret
        exact ⟨rfl, rfl⟩
      · by_cases h4 : 6 < c
        · clear h
          go_enter Try.func34, Try.ntmps34
          go_wp2_with fail
          go_ret
          exact ⟨rfl, rfl⟩
        · have h5 : p = c := by omega
          have q1 : (p == c) = true := beq_iff_eq.2 h5
          clear h h5
          go_enter Try.func34, Try.ntmps34
          go_wp2_with fail
          go_ret
          exact ⟨rfl, rfl⟩
set_option maxRecDepth 100000 in
set_option maxHeartbeats 3200000 in
theorem rfork_state {w : World} {base r : Nat} {O : List Op4} {S : List Sl3} (p c : Int) (h : Rt w base r O S) (hl : S.length ≤ 400) (hp : 1 ≤ p ∧ p ≤ 6 ∧ 1 ≤ c ∧ c ≤ 6 ∧ p ≠ c) (hlt : (lfL S c (-1)).length < S.length) : Calls Try.prog 34 #[pq r, i64 p, i64 c] w fun e w' => e = .returned (i64 7) ∧ Below w.heap.size w w' := by
  obtain ⟨h1, h2, h3, h4, h5⟩ := hp
  have hr1 : ¬ p < 1 := by omega
  have hr2 : ¬ (6 : Int) < p := by omega
  have hr3 : ¬ c < 1 := by omega
  have hr4 : ¬ (6 : Int) < c := by omega
  have q1 : (p == c) = false := beq_false_of_ne h5
  have HRw := hid h
  have HL0 := hid fun W (hW : Rt W base r O S) => rleft_ok c (-1) hW (by omega)
  have hrl := h.lt
  obtain ⟨t1, a2, c2, hbk, hcS⟩ : ∃ t1 a2 c2, w.heap[r]? = some (.cells #[t1, .slice a2 S.length c2] 30) ∧ S.length ≤ c2 := by
    obtain ⟨_, a1, c1, a2, c2, hbk, _, hown⟩ := h
    exact ⟨_, a2, c2, hbk, own_capK hown⟩
  have hle := lfL_le S c (-1)
  obtain ⟨M, hM⟩ : ∃ M, M = S.length := ⟨_, rfl⟩
  obtain ⟨m, hm⟩ : ∃ m, m = (lfL S c (-1)).length := ⟨_, rfl⟩
  have HM := hid hM
  have HM2 := hid hm
  have HBk := hid hbk
  rw [← hM] at HBk hcS hl hle
  rw [← hM, ← hm] at hlt
  rw [← hm] at hle
  have HMm : Hid (m ≤ M) := hle
  have hltI : (m : Int) < M := by omega
  clear h hM hm hbk h1 h2 h3 h4 h5 hle hlt
  go_enter Try.func34, Try.ntmps34
  go_upto_region 3 with fail
  have HS0 : Hid (w.drew.heap[r]? = some (.cells #[t1, .slice a2 M c2] 30)) := HBk.out
  have HB0 : Hid (Below w.heap.size w w.drew) := (Below.refl _ _).drew
  have HL := hid (HL0.out w.drew HRw.out.drew)
  clear HL0
  refine wp_region_noPanic ?_
  refine wp_region_last (fun W => W.heap[r]? = some (.cells #[t1, .slice a2 M c2] 30)) 9 (by kernel_rfl) ?_
  refine wpL_take 0 28 (pq r) [2, 3] rfl rfl (by kernel_rfl) (by decide) (by kernel_rfl) (by kernel_rfl) (by kernel_rfl) (fun _ _ _ h => h) HS0.out (by rfl) (fun W hW => by have e1 := blk_cell hW 1; simp only [List.getElem?_toArray, List.getElem?_cons_zero, List.getElem?_cons_succ] at e1; go_simp) ?_
  simp only [Act.put, List.setIfInBounds_toArray, List.set_cons_zero, List.set_cons_succ]
  refine wpL_take 1 29 (i64 c) [2, 3] rfl rfl (by kernel_rfl) (by decide) (by kernel_rfl) (by kernel_rfl) (by kernel_rfl) (fun _ _ _ h => h) HS0.out (by rfl) (fun W hW => by have e1 := blk_cell hW 1; simp only [List.getElem?_toArray, List.getElem?_cons_zero, List.getElem?_cons_succ] at e1; go_simp) ?_
  simp only [Act.put, List.setIfInBounds_toArray, List.set_cons_zero, List.set_cons_succ]
  refine wpL_take 4 32 (pq r) [5, 6, 7, 8] rfl rfl (by kernel_rfl) (by decide) (by kernel_rfl) (by kernel_rfl) (by kernel_rfl) (fun _ _ _ h => h) HS0.out (by rfl) (fun W hW => by have e1 := blk_cell hW 1; simp only [List.getElem?_toArray, List.getElem?_cons_zero, List.getElem?_cons_succ] at e1; go_simp) ?_
  simp only [Act.put, List.setIfInBounds_toArray, List.set_cons_zero, List.set_cons_succ]
  refine wpL_take 5 33 (pq r) [6, 7, 8] rfl rfl (by kernel_rfl) (by decide) (by kernel_rfl) (by kernel_rfl) (by kernel_rfl) (fun _ _ _ h => h) HS0.out (by rfl) (fun W hW => by have e1 := blk_cell hW 1; simp only [List.getElem?_toArray, List.getElem?_cons_zero, List.getElem?_cons_succ] at e1; go_simp) ?_
  simp only [Act.put, List.setIfInBounds_toArray, List.set_cons_zero, List.set_cons_succ]
  refine wpL_take 6 34 (.pointer (some ⟨r, 1, none⟩)) [7, 8] rfl rfl (by kernel_rfl) (by decide) (by kernel_rfl) (by kernel_rfl) (by kernel_rfl) (fun _ _ _ h => h) HS0.out (by rfl) (fun W hW => by have e1 := blk_cell hW 1; simp only [List.getElem?_toArray, List.getElem?_cons_zero, List.getElem?_cons_succ] at e1; go_simp) ?_
  simp only [Act.put, List.setIfInBounds_toArray, List.set_cons_zero, List.set_cons_succ]
  refine wpL_take 7 35 (.slice a2 M c2) [8] rfl rfl (by kernel_rfl) (by decide) (by kernel_rfl) (by kernel_rfl) (by kernel_rfl) (fun _ _ _ h => h) HS0.out (by rfl) (fun W hW => by have e1 := blk_cell hW 1; simp only [List.getElem?_toArray, List.getElem?_cons_zero, List.getElem?_cons_succ] at e1; go_simp) ?_
  simp only [Act.put, List.setIfInBounds_toArray, List.set_cons_zero, List.set_cons_succ]
  refine wpL_take 8 36 (i64 M) [] rfl rfl (by kernel_rfl) (by decide) (by kernel_rfl) (by kernel_rfl) (by kernel_rfl) (fun _ _ _ h => h) HS0.out (by rfl) (fun W hW => by have e1 := blk_cell hW 1; simp only [List.getElem?_toArray, List.getElem?_cons_zero, List.getElem?_cons_succ] at e1; go_simp) ?_
  simp only [Act.put, List.setIfInBounds_toArray, List.set_cons_zero, List.set_cons_succ]
  refine wpL_one 2 rfl (by kernel_rfl) (by rfl) (fun K' hK => ?_)
  go_simp
  refine HL.out.mono ?_
  rintro e w2 ⟨⟨ao, cap, rfl, hown⟩, hb⟩
  have hcm := own_capK hown
  rw [← HM2.out] at hcm
  rw [← HM2.out]
  have HS1 : Hid (w2.heap[r]? = some (.cells #[t1, .slice a2 M c2] 30)) := blk_below HS0.out hb
  have HB2 : Hid (Below w.heap.size w w2) := HB0.out.trans (hb.mono HB0.out.size)
  clear hb hown HL
  go_simp
  refine hK.out _ _ (fun _ => HS1.out) ?_
  clear hK K'
  refine wpL_take 3 31 (i64 m) [] rfl rfl (by kernel_rfl) (by decide) (by kernel_rfl) (by kernel_rfl) (by kernel_rfl) (fun _ _ _ h => h) HS1.out (by rfl) (fun W hW => by have e1 := blk_cell hW 1; simp only [List.getElem?_toArray, List.getElem?_cons_zero, List.getElem?_cons_succ] at e1; go_simp) ?_
  simp only [Act.put, List.setIfInBounds_toArray, List.set_cons_zero, List.set_cons_succ]
  refine wpL_one 9 rfl (by kernel_rfl) (by rfl) (fun K' hK => ?_)
  go_simp
  refine hK.out _ _ (fun h => absurd rfl h) ?_
  clear hK K'
  refine wpL_done (by kernel_rfl) ?_
  refine NoPanic.normal ?_
  go_wp2_with fail
  go_ret
  exact ⟨rfl, HB2.out⟩
set_option maxRecDepth 100000 in
set_option maxHeartbeats 3200000 in
theorem rfork_yes {w : World} {base r : Nat} {O : List Op4} {S : List Sl3} (p c : Int) (h : Rt w base r O S) (hl : S.length ≤ 400) (hp : 1 ≤ p ∧ p ≤ 6 ∧ 1 ≤ c ∧ c ≤ 6 ∧ p ≠ c) (hlt : ¬ (lfL S c (-1)).length < S.length) (hf : ForkSpl p c S) : Calls Try.prog 34 #[pq r, i64 p, i64 c] w fun e w' => e = .returned (i64 0) ∧ Rt w' base r O (fkT p c S S.length) ∧ Touch r w w' := by
  obtain ⟨h1, h2, h3, h4, h5⟩ := hp
  have hr1 : ¬ p < 1 := by omega
  have hr2 : ¬ (6 : Int) < p := by omega
  have hr3 : ¬ c < 1 := by omega
  have hr4 : ¬ (6 : Int) < c := by omega
  have q1 : (p == c) = false := beq_false_of_ne h5
  have HRw := hid h
  have HL0 := hid fun W (hW : Rt W base r O S) => rleft_ok c (-1) hW (by omega)
  have hrl := h.lt
  obtain ⟨t1, a2, c2, hbk, hcS⟩ : ∃ t1 a2 c2, w.heap[r]? = some (.cells #[t1, .slice a2 S.length c2] 30) ∧ S.length ≤ c2 := by
    obtain ⟨_, a1, c1, a2, c2, hbk, _, hown⟩ := h
    exact ⟨_, a2, c2, hbk, own_capK hown⟩
  have hle := lfL_le S c (-1)
  obtain ⟨M, hM⟩ : ∃ M, M = S.length := ⟨_, rfl⟩
  obtain ⟨m, hm⟩ : ∃ m, m = (lfL S c (-1)).length := ⟨_, rfl⟩
  have HM := hid hM
  have HM2 := hid hm
  have HBk := hid hbk
  rw [← hM] at HBk hcS hl hle
  rw [← hM, ← hm] at hlt
  rw [← hm] at hle
  have HFk := hid hf
  have HI := hid fun W k s (hk : k ≤ M) (hs : S[k]? = some s) (hsp : s.1 = p) (hW : Rt W base r O (fkT p c S k)) => by
    obtain ⟨A, B, hAB⟩ := hf k s hs hsp
    have := fkT_len (p := p) (c := c) k (by rw [← hM]; exact hk)
    have h1 := rins_at hW (by omega) hAB
    rw [← insS_spl hAB] at h1
    exact h1
  have HRd : Hid (∀ W, Touch r w W → Rd3 W a2 S) := fun W hT => by
    obtain ⟨_, a1', c1', a2', c2', hbk', _, hown⟩ := HRw.out
    have he := hbk.symm.trans hbk'
    simp only [Option.some.injEq, Obj.cells.injEq, List.cons.injEq, Array.mk.injEq, Value.slice.injEq, true_and, and_true] at he
    obtain ⟨_, rfl, rfl⟩ := he
    refine Rd3.own (base := base) (t := 57) (cap := c2) (own_keep hown fun k C hk => ?_)
    have hne : k ≠ r := fun e => by rw [e, hbk'] at hk; simp at hk
    exact (hT.block k (blk_lt hk) hne).trans hk
  have HMm : Hid (m ≤ M) := hle
  have hltI : ¬ (m : Int) < M := by omega
  clear h hf hM hm hbk h1 h2 h3 h4 h5 hle hlt
  go_enter Try.func34, Try.ntmps34
  go_upto_region 3 with fail
  have HS0 : Hid (w.drew.heap[r]? = some (.cells #[t1, .slice a2 M c2] 30)) := HBk.out
  have HB0 : Hid (Below w.heap.size w w.drew) := (Below.refl _ _).drew
  have HL := hid (HL0.out w.drew HRw.out.drew)
  clear HL0
  refine wp_region_noPanic ?_
  refine wp_region_last (fun W => W.heap[r]? = some (.cells #[t1, .slice a2 M c2] 30)) 9 (by kernel_rfl) ?_
  refine wpL_take 0 28 (pq r) [2, 3] rfl rfl (by kernel_rfl) (by decide) (by kernel_rfl) (by kernel_rfl) (by kernel_rfl) (fun _ _ _ h => h) HS0.out (by rfl) (fun W hW => by have e1 := blk_cell hW 1; simp only [List.getElem?_toArray, List.getElem?_cons_zero, List.getElem?_cons_succ] at e1; go_simp) ?_
  simp only [Act.put, List.setIfInBounds_toArray, List.set_cons_zero, List.set_cons_succ]
  refine wpL_take 1 29 (i64 c) [2, 3] rfl rfl (by kernel_rfl) (by decide) (by kernel_rfl) (by kernel_rfl) (by kernel_rfl) (fun _ _ _ h => h) HS0.out (by rfl) (fun W hW => by have e1 := blk_cell hW 1; simp only [List.getElem?_toArray, List.getElem?_cons_zero, List.getElem?_cons_succ] at e1; go_simp) ?_
  simp only [Act.put, List.setIfInBounds_toArray, List.set_cons_zero, List.set_cons_succ]
  refine wpL_take 4 32 (pq r) [5, 6, 7, 8] rfl rfl (by kernel_rfl) (by decide) (by kernel_rfl) (by kernel_rfl) (by kernel_rfl) (fun _ _ _ h => h) HS0.out (by rfl) (fun W hW => by have e1 := blk_cell hW 1; simp only [List.getElem?_toArray, List.getElem?_cons_zero, List.getElem?_cons_succ] at e1; go_simp) ?_
  simp only [Act.put, List.setIfInBounds_toArray, List.set_cons_zero, List.set_cons_succ]
  refine wpL_take 5 33 (pq r) [6, 7, 8] rfl rfl (by kernel_rfl) (by decide) (by kernel_rfl) (by kernel_rfl) (by kernel_rfl) (fun _ _ _ h => h) HS0.out (by rfl) (fun W hW => by have e1 := blk_cell hW 1; simp only [List.getElem?_toArray, List.getElem?_cons_zero, List.getElem?_cons_succ] at e1; go_simp) ?_
  simp only [Act.put, List.setIfInBounds_toArray, List.set_cons_zero, List.set_cons_succ]
  refine wpL_take 6 34 (.pointer (some ⟨r, 1, none⟩)) [7, 8] rfl rfl (by kernel_rfl) (by decide) (by kernel_rfl) (by kernel_rfl) (by kernel_rfl) (fun _ _ _ h => h) HS0.out (by rfl) (fun W hW => by have e1 := blk_cell hW 1; simp only [List.getElem?_toArray, List.getElem?_cons_zero, List.getElem?_cons_succ] at e1; go_simp) ?_
  simp only [Act.put, List.setIfInBounds_toArray, List.set_cons_zero, List.set_cons_succ]
  refine wpL_take 7 35 (.slice a2 M c2) [8] rfl rfl (by kernel_rfl) (by decide) (by kernel_rfl) (by kernel_rfl) (by kernel_rfl) (fun _ _ _ h => h) HS0.out (by rfl) (fun W hW => by have e1 := blk_cell hW 1; simp only [List.getElem?_toArray, List.getElem?_cons_zero, List.getElem?_cons_succ] at e1; go_simp) ?_
  simp only [Act.put, List.setIfInBounds_toArray, List.set_cons_zero, List.set_cons_succ]
  refine wpL_take 8 36 (i64 M) [] rfl rfl (by kernel_rfl) (by decide) (by kernel_rfl) (by kernel_rfl) (by kernel_rfl) (fun _ _ _ h => h) HS0.out (by rfl) (fun W hW => by have e1 := blk_cell hW 1; simp only [List.getElem?_toArray, List.getElem?_cons_zero, List.getElem?_cons_succ] at e1; go_simp) ?_
  simp only [Act.put, List.setIfInBounds_toArray, List.set_cons_zero, List.set_cons_succ]
  refine wpL_one 2 rfl (by kernel_rfl) (by rfl) (fun K' hK => ?_)
  go_simp
  refine HL.out.mono ?_
  rintro e w2 ⟨⟨ao, cap, rfl, hown⟩, hb⟩
  have hcm := own_capK hown
  rw [← HM2.out] at hcm
  rw [← HM2.out]
  have HS1 : Hid (w2.heap[r]? = some (.cells #[t1, .slice a2 M c2] 30)) := blk_below HS0.out hb
  have HB2 : Hid (Below w.heap.size w w2) := HB0.out.trans (hb.mono HB0.out.size)
  clear hb hown HL
  go_simp
  refine hK.out _ _ (fun _ => HS1.out) ?_
  clear hK K'
  refine wpL_take 3 31 (i64 m) [] rfl rfl (by kernel_rfl) (by decide) (by kernel_rfl) (by kernel_rfl) (by kernel_rfl) (fun _ _ _ h => h) HS1.out (by rfl) (fun W hW => by have e1 := blk_cell hW 1; simp only [List.getElem?_toArray, List.getElem?_cons_zero, List.getElem?_cons_succ] at e1; go_simp) ?_
  simp only [Act.put, List.setIfInBounds_toArray, List.set_cons_zero, List.set_cons_succ]
  refine wpL_one 9 rfl (by kernel_rfl) (by rfl) (fun K' hK => ?_)
  go_simp
  refine hK.out _ _ (fun h => absurd rfl h) ?_
  clear hK K'
  refine wpL_done (by kernel_rfl) ?_
  refine NoPanic.normal ?_
  have HT2 : Hid (Touch r w w2) := Touch.of_below HB2.out
  have HR2 := hid (HRw.out.below HB2.out)
  have e2 : w2.cell? ⟨r, 1, none⟩ = some (.slice a2 M c2) := blk_cell HS1.out 1
  clear hcm hltI
  go_wp2_with fail
  go_loopw [43] (fun u wr => ∃ (k : Nat), k ≤ M ∧ u = i64 k ∧ Hid (Rt wr base r O (fkT p c S k)) ∧ Hid (Touch r w wr)) (fun u _ => M - (intOf u).toNat)
  case atStart => exact ⟨0, by omega, rfl, HR2.out, HT2⟩
  case round =>
    obtain ⟨k, hk, rfl, HR, HT⟩ := hrel
    by_cases hlt : k < M
    · have hkI : (k : Int) < M := by omega
      obtain ⟨s, hs⟩ : ∃ s, S[k]? = some s := ⟨_, List.getElem?_eq_getElem (by rw [← HM.out]; exact hlt)⟩
      obtain ⟨g, o, rfl, hgl, c0, c1, d2⟩ := HRd.out wr HT.out k s hs
      have HRx : Hid (Rt (wr.alloc (lO s 57)) base r O (fkT p c S k)) := HR.out.below (below_one wr _)
      have HTx : Hid (Touch r w (wr.alloc (lO s 57))) := HT.out.alloc _
      have HU := hid (fkT_succ (p := p) (c := c) hs)
      by_cases h1 : s.1 = p
      · have q2 : (s.1 == p) = true := beq_iff_eq.2 h1
        have HC := hid (HI.out _ k s (by omega) hs h1 HRx.out)
        have HU2 : Hid (fkT p c S (k + 1) = insS (fkT p c S k) (c, s.2.1, s.2.2)) := by rw [Hid, HU.out, q2]; rfl
        clear hs h1
        go_wp2_with fail
        refine HC.out.mono ?_
        rintro e w4 ⟨rfl, hRt, hT⟩
        have HR4 : Hid (Rt w4 base r O (fkT p c S (k + 1))) := by rw [HU2.out]; exact hRt
        have HT4 : Hid (Touch r w w4) := HTx.out.trans hT
        clear hRt hT HC c0 c1 d2
        go_wp2_with fail
        exact ⟨⟨k + 1, by omega, by go_num, HR4, HT4⟩, by simp [intOf]; omega⟩
      · have q2 : (s.1 == p) = false := beq_false_of_ne h1
        have HR4 : Hid (Rt (wr.alloc (lO s 57)) base r O (fkT p c S (k + 1))) := by
          rw [HU.out, q2]
          exact HRx.out
        clear hs h1
        go_wp2_with fail
        exact ⟨⟨k + 1, by omega, by go_num, HR4, HTx⟩, by simp [intOf]; omega⟩
    · have HRe : Hid (Rt wr base r O (fkT p c S S.length)) := by
        have hkM : k = S.length := by rw [← HM.out]; omega
        rw [← hkM]
        exact HR.out
      go_wp2_with fail
      go_ret
      exact ⟨rfl, HRe.out, HT.out⟩
end Go.Proofs.Ytaapiffglfppnaa
