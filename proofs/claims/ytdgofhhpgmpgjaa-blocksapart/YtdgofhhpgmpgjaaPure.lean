/- Lists, their runs and the runs' numbers, by plain arithmetic, without the program; no statement is proved in this text. -/
import Derived.WalkKit
namespace Go.Proofs.Ytdgofhhpgmpgjaa

abbrev Rn := Int × Int

/-- A number behind the runs. -/
def goOn (rs : List Rn) (n : Int) : List Rn :=
  match rs.getLast? with
  | some (f, l) => if f + l = n then rs.dropLast ++ [(f, l + 1)] else rs ++ [(n, 1)]
  | none => [(n, 1)]
theorem goOn_nil (n : Int) : goOn [] n = [(n, 1)] := rfl
theorem goOn_snoc (rs : List Rn) (f l n : Int) : goOn (rs ++ [(f, l)]) n = if f + l = n then rs ++ [(f, l + 1)] else (rs ++ [(f, l)]) ++ [(n, 1)] := by
  unfold goOn
  simp

def runF (xs : List Int) : List Rn := xs.foldl goOn []
theorem runF_snoc (xs : List Int) (x : Int) : runF (xs ++ [x]) = goOn (runF xs) x := by simp [runF]

/-- The last run ends behind the last number. -/
theorem runF_last (xs : List Int) (x : Int) : ∃ rs f l, runF (xs ++ [x]) = rs ++ [(f, l)] ∧ f + l = x + 1 := by
  rw [runF_snoc]
  rcases List.eq_nil_or_concat (runF xs) with h | ⟨rs, ⟨f, l⟩, h⟩
  · rw [h]; exact ⟨[], x, 1, rfl, rfl⟩
  · rw [h, List.concat_eq_append, goOn_snoc]
    by_cases he : f + l = x
    · rw [if_pos he]; exact ⟨rs, f, l + 1, rfl, by omega⟩
    · rw [if_neg he]; exact ⟨_, x, 1, rfl, rfl⟩

theorem goOn_len (rs : List Rn) (n : Int) : (goOn rs n).length ≤ rs.length + 1 := by
  rcases List.eq_nil_or_concat rs with rfl | ⟨rs, ⟨f, l⟩, rfl⟩
  · simp [goOn_nil]
  · rw [List.concat_eq_append, goOn_snoc]
    split <;> simp

theorem runF_len (xs : List Int) : (runF xs).length ≤ xs.length := by
  suffices ∀ (ys : List Int) (rs : List Rn), (ys.foldl goOn rs).length ≤ rs.length + ys.length by
    have := this xs []; simpa [runF] using this
  intro ys
  induction ys with
  | nil => intro rs; simp
  | cons y ys ih =>
    intro rs
    have h1 := ih (goOn rs y)
    have h2 := goOn_len rs y
    simp only [List.foldl_cons, List.length_cons]
    omega

/-- Each run has a number. -/
theorem runF_pos (xs : List Int) : ∀ r ∈ runF xs, 1 ≤ r.2 := by
  suffices ∀ (ys : List Int) (rs : List Rn), (∀ r ∈ rs, 1 ≤ r.2) → ∀ r ∈ ys.foldl goOn rs, 1 ≤ r.2 by
    exact this xs [] (fun r h => by cases h)
  intro ys
  induction ys with
  | nil => intro rs h; exact h
  | cons y ys ih =>
    intro rs h
    refine ih _ ?_
    rcases List.eq_nil_or_concat rs with rfl | ⟨rs, ⟨f, l⟩, rfl⟩
    · intro r hr; simp [goOn_nil] at hr; subst hr; simp
    · rw [List.concat_eq_append] at h ⊢
      rw [goOn_snoc]
      have hl : 1 ≤ l := h (f, l) (by simp)
      split
      · intro r hr
        rcases List.mem_append.1 hr with hr | hr
        · exact h r (by simp [hr])
        · simp at hr; subst hr; show 1 ≤ l + 1; omega
      · intro r hr
        rcases List.mem_append.1 hr with hr | hr
        · exact h r hr
        · simp at hr; subst hr; simp

/-- The numbers of a run, of runs. -/
def oneF (r : Rn) : List Int := (List.range r.2.toNat).map (fun i : Nat => r.1 + i)
def flatF (rs : List Rn) : List Int := rs.flatMap oneF
theorem flatF_app (a b : List Rn) : flatF (a ++ b) = flatF a ++ flatF b := by simp [flatF]
theorem flatF_one (r : Rn) : flatF [r] = oneF r := by simp [flatF]
theorem oneF_len (r : Rn) : (oneF r).length = r.2.toNat := by simp [oneF]
theorem oneF_succ (f l : Int) (h : 0 ≤ l) : oneF (f, l + 1) = oneF (f, l) ++ [f + l] := by
  unfold oneF
  have e : (l + 1).toNat = l.toNat + 1 := by omega
  have e2 : ((l.toNat : Nat) : Int) = l := by omega
  simp only [e, List.range_succ, List.map_append, List.map_cons, List.map_nil, e2]
theorem flat_goOn (rs : List Rn) (n : Int) (h : ∀ r ∈ rs, 1 ≤ r.2) : flatF (goOn rs n) = flatF rs ++ [n] := by
  have one : oneF (n, 1) = [n] := by simp [oneF]
  rcases List.eq_nil_or_concat rs with rfl | ⟨rs, ⟨f, l⟩, rfl⟩
  · rw [goOn_nil, flatF_one, one]; rfl
  · rw [List.concat_eq_append] at h ⊢
    have hl : 1 ≤ l := h (f, l) (by simp)
    rw [goOn_snoc]
    split
    · rename_i he
      rw [flatF_app, flatF_app, flatF_one, flatF_one, oneF_succ f l (by omega), he, List.append_assoc]
    · rw [flatF_app, flatF_one, one]
theorem flat_runF (xs : List Int) : flatF (runF xs) = xs := by
  suffices ∀ n (ys : List Int), ys.length = n → flatF (runF ys) = ys by exact this _ xs rfl
  intro n
  induction n with
  | zero => intro ys h; rw [List.eq_nil_of_length_eq_zero h]; rfl
  | succ n ih =>
    intro ys h
    rcases List.eq_nil_or_concat ys with rfl | ⟨ys, y, rfl⟩
    · simp at h
    · rw [List.concat_eq_append] at h ⊢
      rw [runF_snoc, flat_goOn _ _ (runF_pos ys), ih ys (by simpa using h)]

def okN (x : Int) : Prop := 0 ≤ x ∧ x < 64
instance (x : Int) : Decidable (okN x) := by unfold okN; infer_instance
def allOk (xs : List Int) : Prop := ∀ x ∈ xs, okN x
instance (xs : List Int) : Decidable (allOk xs) := by unfold allOk; infer_instance

theorem mem_oneF {r : Rn} {x : Int} : x ∈ oneF r ↔ r.1 ≤ x ∧ x < r.1 + r.2 := by
  unfold oneF
  simp only [List.mem_map, List.mem_range]
  constructor
  · rintro ⟨i, hi, rfl⟩; omega
  · rintro ⟨h1, h2⟩; exact ⟨(x - r.1).toNat, by omega, by omega⟩
/-- The runs of right numbers are right. -/
theorem runF_right {xs : List Int} (h : allOk xs) : ∀ r ∈ runF xs, 0 ≤ r.1 ∧ r.1 < 64 ∧ 1 ≤ r.2 ∧ r.1 + r.2 ≤ 64 := by
  intro r hr
  have h1 := runF_pos xs r hr
  have hin : ∀ x, x ∈ oneF r → okN x := fun x hx => h x (by rw [← flat_runF xs]; exact List.mem_flatMap.2 ⟨r, hr, hx⟩)
  have a := hin r.1 (mem_oneF.2 ⟨by omega, by omega⟩)
  have b := hin (r.1 + r.2 - 1) (mem_oneF.2 ⟨by omega, by omega⟩)
  unfold okN at a b
  omega

/-- No two neighbours could be one. -/
def Apart2 : List Rn → Prop
  | a :: b :: r => a.1 + a.2 ≠ b.1 ∧ Apart2 (b :: r)
  | _ => True
theorem apart2_snoc : ∀ (rs : List Rn) (a b : Rn), Apart2 (rs ++ [a]) → a.1 + a.2 ≠ b.1 → Apart2 (rs ++ [a] ++ [b])
  | [], _a, _b, _, h => ⟨h, trivial⟩
  | [_c], _a, _b, h, h2 => ⟨h.1, h2, trivial⟩
  | _c :: d :: rs, a, b, h, h2 => ⟨h.1, apart2_snoc (d :: rs) a b h.2 h2⟩
theorem apart2_last : ∀ (rs : List Rn) (f l l' : Int), Apart2 (rs ++ [(f, l)]) → Apart2 (rs ++ [(f, l')])
  | [], _f, _l, _l', _ => trivial
  | [_c], _f, _l, _l', h => ⟨h.1, trivial⟩
  | _c :: d :: rs, f, l, l', h => ⟨h.1, apart2_last (d :: rs) f l l' h.2⟩
theorem runF_apart (xs : List Int) : Apart2 (runF xs) := by
  suffices ∀ (ys : List Int) (rs : List Rn), Apart2 rs → Apart2 (ys.foldl goOn rs) by exact this xs [] trivial
  intro ys
  induction ys with
  | nil => intro rs h; exact h
  | cons y ys ih =>
    intro rs h
    refine ih _ ?_
    rcases List.eq_nil_or_concat rs with rfl | ⟨rs, ⟨f, l⟩, rfl⟩
    · exact trivial
    · rw [List.concat_eq_append] at h ⊢
      rw [goOn_snoc]
      split
      · exact apart2_last rs f l (l + 1) h
      · rename_i he; exact apart2_snoc rs (f, l) (y, 1) h he
theorem apart2_get : ∀ (rs : List Rn) (i : Nat) (h : i + 1 < rs.length), Apart2 rs → rs[i].1 + rs[i].2 ≠ rs[i + 1].1
  | a :: b :: r, 0, _, hA => hA.1
  | a :: b :: r, i + 1, h, hA => apart2_get (b :: r) i (by simpa using h) hA.2

/-! ### The document's way: how far a run goes on -/
def cont (p : Int) : List Int → Nat
  | [] => 0
  | y :: ys => if 0 < y ∧ y < 64 ∧ y - 1 = p then cont y ys + 1 else 0
theorem cont_le : ∀ (p : Int) (ys : List Int), cont p ys ≤ ys.length
  | _, [] => Nat.le_refl _
  | p, y :: ys => by
    unfold cont
    split
    · simpa using cont_le y ys
    · omega
/-- Where the run of the last number ends. -/
def ext (xs : List Int) (i : Nat) : Nat := if h : 0 < i ∧ i ≤ xs.length then i + cont (xs[i - 1]'(by omega)) (xs.drop i) else i
theorem ext_zero (xs : List Int) : ext xs 0 = 0 := by simp [ext]
theorem ext_end (xs : List Int) : ext xs xs.length = xs.length := by
  unfold ext
  split
  · simp [cont]
  · rfl
theorem drop_cons (xs : List Int) (i : Nat) (h : i < xs.length) : xs.drop i = xs[i] :: xs.drop (i + 1) := by simp
theorem ext_succ (xs : List Int) (i : Nat) (h : i < xs.length) : ext xs (i + 1) = i + 1 + cont xs[i] (xs.drop (i + 1)) := by
  unfold ext
  rw [dif_pos ⟨by omega, by omega⟩]
  simp
/-- The number goes on the run. -/
theorem ext_on (xs : List Int) (i : Nat) (h : i < xs.length) (h0 : 0 < i) (hx : okN xs[i]) (hp : okN xs[i - 1]) (he : xs[i - 1] = xs[i] - 1) : ext xs (i + 1) = ext xs i := by
  rw [ext_succ xs i h]
  unfold ext
  rw [dif_pos ⟨h0, by omega⟩, drop_cons xs i h]
  unfold okN at hx hp
  have hc : 0 < xs[i] ∧ xs[i] < 64 ∧ xs[i] - 1 = xs[i - 1] := ⟨by omega, by omega, by omega⟩
  rw [cont, if_pos hc]
  omega
/-- The number begins a run. -/
theorem ext_off (xs : List Int) (i : Nat) (h : i < xs.length) (he : ∀ h0 : 0 < i, xs[i - 1] ≠ xs[i] - 1) : ext xs i = i := by
  unfold ext
  split
  · rename_i hh
    rw [drop_cons xs i h, cont, if_neg (fun hc => he hh.1 hc.2.2.symm)]
    omega
  · rfl
theorem fold_cont : ∀ (ys : List Int) (rs : List Rn) (f l : Int), (ys.take (cont (f + l - 1) ys)).foldl goOn (rs ++ [(f, l)]) = rs ++ [(f, l + cont (f + l - 1) ys)]
  | [], rs, f, l => by simp [cont]
  | y :: ys, rs, f, l => by
    unfold cont
    by_cases hc : 0 < y ∧ y < 64 ∧ y - 1 = f + l - 1
    · rw [if_pos hc, List.take_succ_cons, List.foldl_cons, goOn_snoc, if_pos (by omega)]
      have := fold_cont ys rs f (l + 1)
      rw [show f + (l + 1) - 1 = y by omega] at this
      rw [this]
      simp only [List.append_cancel_left_eq, List.cons.injEq, Prod.mk.injEq, true_and, and_true]
      omega
    · rw [if_neg hc]; simp
/-- What is behind the run that begins here. -/
theorem run_off (xs : List Int) (i : Nat) (h : i < xs.length) (he : ∀ h0 : 0 < i, xs[i - 1] ≠ xs[i] - 1) :
    runF (xs.take (i + 1 + cont xs[i] (xs.drop (i + 1)))) = runF (xs.take i) ++ [((xs[i], 1 + (cont xs[i] (xs.drop (i + 1)) : Int)) : Rn)] := by
  have e1 : xs.take (i + 1 + cont xs[i] (xs.drop (i + 1))) = (xs.take i ++ [xs[i]]) ++ (xs.drop (i + 1)).take (cont xs[i] (xs.drop (i + 1))) := by
    rw [List.take_add, List.take_append_getElem h]
  have e2 : runF (xs.take i ++ [xs[i]]) = runF (xs.take i) ++ [(xs[i], 1)] := by
    rw [runF_snoc]
    by_cases h0 : 0 < i
    · have e3 : xs.take i = xs.take (i - 1) ++ [xs[i - 1]] := by
        rw [List.take_append_getElem (by omega)]
        congr 1
        omega
      obtain ⟨rs, f, l, hr, hfl⟩ := runF_last (xs.take (i - 1)) xs[i - 1]
      rw [e3, hr, goOn_snoc, if_neg]
      have := he h0
      omega
    · obtain rfl : i = 0 := by omega
      rfl
  rw [e1]
  unfold runF
  rw [List.foldl_append]
  change List.foldl goOn (runF (xs.take i ++ [xs[i]])) _ = runF (xs.take i) ++ _
  rw [e2]
  have := fold_cont (xs.drop (i + 1)) (runF (xs.take i)) xs[i] 1
  rw [show xs[i] + 1 - 1 = xs[i] by omega] at this
  exact this
end Go.Proofs.Ytdgofhhpgmpgjaa
