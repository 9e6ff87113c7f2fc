/- Both Reads as plain functions: lines, labels' places, the length; no statement is proved in this text. -/
import Derived.Test.YtobkehlkopkaeaaDoorDk
namespace Go.Proofs.YtobkehlkopkaeaaDoor
set_option maxRecDepth 100000

theorem lnS_lns : ∀ (l x : Bs), lnS l x = match lns l with | y :: ys => (x ++ y) :: ys | [] => [x]
  | [], x => by simp [lnS, lns]
  | c :: r, x => by
    rw [lnS_cons]
    have h0 := lnS_lns r []
    have h1 := lnS_lns r (x ++ [c])
    have hn := lns_ne r
    conv => rhs; unfold lns
    cases hq : lns r with
    | nil => exact absurd hq hn
    | cons y ys =>
      rw [hq] at h0 h1
      by_cases hc : c = 10
      · rw [if_pos hc, if_pos hc, h0]; simp
      · rw [if_neg hc, if_neg hc, h1]; simp
theorem lnS_eq (l : Bs) : lnS l [] = lns l := by
  rw [lnS_lns]
  cases hq : lns l with
  | nil => exact absurd hq (lns_ne l)
  | cons y ys => simp
theorem rowsF_eq (t : Bs) : rowsF t = (rowsD t).map (·.take 4) := by
  unfold rowsF rowsD
  rw [lnS_eq, List.map_map]
  exact List.map_congr_left fun l _ => split_take l
/-- How many bytes a line takes, as the program's survey reckons. -/
def pz (ws : List Bs) : Nat := match labF ws with
  | some _ => 0
  | none => szOf (ws.headD [])
theorem szOf_nil : szOf [] = 0 := by decide
theorem pz_take (ws : List Bs) : pz (ws.take 4) = pz ws := by
  unfold pz
  rw [labF_take]
  cases ws <;> rfl
def psum : List (List Bs) → Nat
  | [] => 0
  | ws :: r => pz ws + psum r
theorem psum_app (l r : List (List Bs)) : psum (l ++ r) = psum l + psum r := by
  induction l with
  | nil => simp [psum]
  | cons a l ih => simp only [List.cons_append, psum, ih]; omega
theorem psum_snoc (R : List (List Bs)) {i : Nat} (hi : i < R.length) : psum (R.take (i + 1)) = psum (R.take i) + pz R[i] := by
  rw [← List.take_append_getElem hi, psum_app]; simp [psum]
theorem svAdd_pl (num : Nat) (ws : List Bs) (s : Sv) : (svAdd num ws s).place = s.place + pz ws ∧ (svAdd num ws s).long = s.long := by
  unfold svAdd pz
  cases labF ws with
  | some x => simp only; split <;> simp
  | none => cases ws with
    | nil => simp [szOf_nil]
    | cons x r => simp
theorem svLong_M (num : Nat) (s : Sv) : (svLong num s).M = s.M ∧ (svLong num s).place = s.place ∧ (svLong num s).long = if s.long = 0 ∧ 256 < s.place then num else s.long := by
  unfold svLong
  split <;> simp [*]
theorem lookL_snoc (M : Labs) (y : Bs) (v : Nat × Nat) (x : Bs) : lookL (M ++ [(y, v)]) x = match lookL M x with | some u => some u | none => if y = x then some v else none := by
  unfold lookL
  rw [List.find?_append]
  cases hq : M.find? (fun p => p.1 == x) with
  | some u => simp
  | none =>
    by_cases h : y = x
    · simp [h]
    · simp [h]
theorem svAdd_look (num : Nat) (ws : List Bs) (s : Sv) (x : Bs) : lookL (svAdd num ws s).M x = match lookL s.M x with | some u => some u | none => if labF ws = some x then some (num, s.place) else none := by
  unfold svAdd
  cases hl : labF ws with
  | none => cases ws <;> (simp only; cases lookL s.M x <;> simp)
  | some y =>
    simp only
    by_cases hq : (lookL s.M y).isSome = true
    · rw [if_pos hq]
      cases hx : lookL s.M x with
      | some u => rfl
      | none =>
        have hyx : ¬ some y = some x := fun e => by
          cases e
          rw [hx] at hq
          cases hq
        simp only
        rw [if_neg hyx]
    · rw [if_neg hq]
      simp only
      rw [lookL_snoc]
      cases lookL s.M x with
      | some u => rfl
      | none => simp
def lkF : List (List Bs) → Nat → Nat → Bs → Option (Nat × Nat)
  | [], _, _, _ => none
  | ws :: r, num, p, x => if labF ws = some x then some (num, p) else lkF r (num + 1) (p + pz ws) x
theorem svF_look : ∀ (r : List (List Bs)) (num : Nat) (s : Sv) (x : Bs), lookL (svF r num s).M x = match lookL s.M x with | some u => some u | none => lkF r num s.place x
  | [], num, s, x => by unfold svF lkF; cases lookL s.M x <;> rfl
  | ws :: r, num, s, x => by
    unfold svF
    rw [svF_look r (num + 1) _ x, (svLong_M _ _).1, (svLong_M _ _).2.1, (svAdd_pl _ _ _).1, svAdd_look]
    conv => rhs; unfold lkF
    cases lookL s.M x with
    | some u => rfl
    | none =>
      simp only
      by_cases h : labF ws = some x
      · rw [if_pos h, if_pos h]
      · rw [if_neg h, if_neg h]
theorem lkF_at : ∀ (r : List (List Bs)) (num p : Nat) (x : Bs) (i : Nat), x ≠ [] → (lkF r num p x = none ∧ atF r x i < 0) ∨ ∃ q : Nat, q < r.length ∧ atF r x i = (i + q : Nat) ∧ lkF r num p x = some (num + q, p + psum (r.take q))
  | [], _, _, _, _, _ => Or.inl ⟨rfl, by unfold atF; omega⟩
  | ws :: r, num, p, x, i, hx => by
    unfold lkF atF
    by_cases h : labF ws = some x
    · have h2 : nmD ws = x := by unfold nmD; rw [h]; rfl
      rw [if_pos h, if_pos h2]
      exact Or.inr ⟨0, by simp, by simp, by simp [psum]⟩
    · have h2 : ¬ nmD ws = x := fun e => h (by rw [← e]; exact nmD_ne.1 (by rw [e]; exact hx))
      rw [if_neg h, if_neg h2]
      rcases lkF_at r (num + 1) (p + pz ws) x (i + 1) hx with h3 | ⟨q, h3, h4, h5⟩
      · exact Or.inl h3
      · exact Or.inr ⟨q + 1, by simp; omega, by rw [h4]; congr 1; omega, by rw [h5, List.take_succ_cons, psum]; congr 2 <;> omega⟩
theorem lkF_lab : ∀ (r : List (List Bs)) (num p : Nat) (x : Bs) (u : Nat × Nat), lkF r num p x = some u → labB x = true ∧ x ≠ []
  | [], _, _, _, _, h => by cases h
  | ws :: r, num, p, x, u, h => by
    unfold lkF at h
    split at h
    · rename_i hl
      exact labF_lab hl
    · exact lkF_lab r _ _ x u h
def lgF : List (List Bs) → Nat → Nat → Nat
  | [], _, _ => 0
  | ws :: r, num, p => if 256 < p + pz ws then num else lgF r (num + 1) (p + pz ws)
theorem svF_long : ∀ (r : List (List Bs)) (num : Nat) (s : Sv), 0 < num → (svF r num s).long = if s.long = 0 then lgF r num s.place else s.long
  | [], num, s, _ => by unfold svF lgF; split <;> simp [*]
  | ws :: r, num, s, hn => by
    unfold svF
    rw [svF_long r (num + 1) _ (by omega), (svLong_M _ _).2.2, (svLong_M _ _).2.1, (svAdd_pl _ _ _).1, (svAdd_pl _ _ _).2]
    conv => rhs; unfold lgF
    by_cases hl : s.long = 0
    · by_cases hp : 256 < s.place + pz ws
      · simp [hl, hp]; omega
      · simp [hl, hp]
    · simp [hl]
theorem lkF_take : ∀ (r : List (List Bs)) (num p : Nat) (x : Bs), lkF (r.map (·.take 4)) num p x = lkF r num p x
  | [], _, _, _ => rfl
  | ws :: r, num, p, x => by
    rw [List.map_cons]
    unfold lkF
    rw [labF_take, pz_take, lkF_take]
theorem lgF_take : ∀ (r : List (List Bs)) (num p : Nat), lgF (r.map (·.take 4)) num p = lgF r num p
  | [], _, _ => rfl
  | ws :: r, num, p => by
    rw [List.map_cons]
    unfold lgF
    rw [pz_take, lgF_take]
/-- What the program's labels are, told by the document's rows. -/
def LabsOk (R : List (List Bs)) (M : Labs) : Prop := ∀ x, (lookL M x = none ∧ (x ≠ [] → atD R x < 0)) ∨ (labB x = true ∧ x ≠ [] ∧ ∃ q : Nat, q < R.length ∧ atD R x = q ∧ lookL M x = some (q + 1, psum (R.take q)))
theorem svT_ok (t : Bs) : LabsOk (rowsD t) (svT t).M ∧ (svT t).long = lgF (rowsD t) 1 0 := by
  unfold svT
  rw [rowsF_eq]
  refine ⟨fun x => ?_, by rw [svF_long _ _ _ (by omega)]; simp [lgF_take]⟩
  rw [svF_look]
  have hl : lookL ([] : Labs) x = none := rfl
  rw [hl]
  simp only
  rw [lkF_take]
  by_cases hx : x = []
  · cases hq : lkF (rowsD t) 1 0 x with
    | none => exact Or.inl ⟨rfl, fun h => absurd hx h⟩
    | some u => exact absurd hx (lkF_lab _ _ _ _ _ hq).2
  · rcases lkF_at (rowsD t) 1 0 x 0 hx with ⟨h1, h2⟩ | ⟨q, h1, h2, h3⟩
    · exact Or.inl ⟨h1, fun _ => h2⟩
    · exact Or.inr ⟨(lkF_lab _ _ _ _ _ h3).1, hx, q, h1, by unfold atD; rw [h2]; simp, by rw [h3]; congr 2 <;> omega⟩
end Go.Proofs.YtobkehlkopkaeaaDoor
