/- The program's book and the document's, held against one another: plain; no statement is proved in this text. -/
import Derived.Test.YtfnhiefngbcnaaaROpen2
namespace Go.Proofs.Ytfnhiefngbcnaaa

structure Rel (s : St) (L : List Pr) : Prop where
  nd : (L.map Pr.env).Pairwise (· ≠ ·)
  a : ∀ p ∈ L, ∃ x, at_ s p.env = some x ∧ x.q = p.q ∧ x.h = p.h
  b : ∀ env x, at_ s env = some x → ∃ p ∈ L, p.env = env
  len : L.length = (told s (·.q) 3).length
  sh : sum (L.map Pr.h) = sum (told s (·.h) 3)
  sq : sum (L.map Pr.q) = sum (told s (·.q) 3)
theorem Rel.le3 {s : St} {L : List Pr} (h : Rel s L) : L.length ≤ 3 := by rw [h.len]; exact told_le s _ 3
theorem rel_nil : Rel (fun _ => none) [] :=
  ⟨List.Pairwise.nil, fun p hp => (by cases hp), fun env x hx => (by unfold at_ at hx; split at hx <;> cases hx), rfl, rfl, rfl⟩
theorem idx_get {L : List Pr} {env : Int} (h : ∃ p ∈ L, p.env = env) : ∃ (k : Nat) (p : Pr), L[k]? = some p ∧ p.env = env ∧ idx L env = k := by
  cases hf : L.findIdx? (fun p => p.env == env) with
  | none =>
    rw [List.findIdx?_eq_none_iff] at hf
    obtain ⟨p, hp, he⟩ := h
    have := hf p hp
    simp [he] at this
  | some k =>
    obtain ⟨hk, he, _⟩ := List.findIdx?_eq_some_iff_getElem.1 hf
    exact ⟨k, L[k], List.getElem?_eq_getElem hk, by simpa using he, by unfold idx; rw [hf]⟩
theorem Rel.not {s : St} {L : List Pr} (h : Rel s L) {env : Int} (hx : at_ s env = none) : idx L env = -1 :=
  idx_none fun i p hp e => by
    obtain ⟨x, h1, _⟩ := h.a p (List.mem_of_getElem? hp)
    rw [e, hx] at h1
    cases h1
theorem Rel.has {s : St} {L : List Pr} (h : Rel s L) {env : Int} {x : Pge} (hx : at_ s env = some x) : ∃ (k : Nat), L[k]? = some ⟨env, x.q, x.h⟩ ∧ idx L env = k := by
  obtain ⟨k, p, hp, he, hi⟩ := idx_get (h.b env x hx)
  obtain ⟨y, h1, h2, h3⟩ := h.a p (List.mem_of_getElem? hp)
  rw [he, hx] at h1
  cases h1
  refine ⟨k, ?_, hi⟩
  rw [hp, h2, h3, ← he]
theorem cut {α : Type} {L : List α} {k : Nat} {p : α} (h : L[k]? = some p) : L = L.take k ++ p :: L.drop (k + 1) := by
  have hk : k < L.length := (List.getElem?_eq_some_iff.1 h).1
  have hp : L[k] = p := by rw [List.getElem?_eq_getElem hk] at h; cases h; rfl
  conv => lhs; rw [← List.take_append_drop k L, List.drop_eq_getElem_cons hk, hp]
theorem cut_set {α : Type} {L : List α} {k : Nat} {p p' : α} (h : L[k]? = some p) : L.set k p' = L.take k ++ p' :: L.drop (k + 1) := by
  have hk : k < L.length := (List.getElem?_eq_some_iff.1 h).1
  rw [List.set_eq_take_append_cons_drop, if_pos hk]
theorem at_upd {s : St} {env : Int} (h1 : 1 ≤ env) (h2 : env ≤ 3) (y : Option Pge) (e : Int) : at_ (upd s (env - 1).toNat y) e = if e = env then y else at_ s e := by
  unfold at_ upd
  by_cases he : e = env
  · rw [if_pos he, if_pos ⟨by omega, by omega⟩, if_pos (by rw [he])]
  · rw [if_neg he]
    by_cases hc : 1 ≤ e ∧ e ≤ 3
    · rw [if_pos hc, if_pos hc, if_neg (by omega)]
    · rw [if_neg hc, if_neg hc]
def pick (f : Pge → T) : Option Pge → T
  | none => zT
  | some x => f x
theorem sum_pick (s : St) (f : Pge → T) : sum (told s f 3) = add (add (pick f (s 0)) (pick f (s 1))) (pick f (s 2)) := by
  rw [sum_told]
  cases s 0 <;> cases s 1 <;> cases s 2 <;> rfl
/-- A sum of pages, one of them turned. -/
theorem sum_upd (s : St) (f : Pge → T) (e : Nat) (he : e < 3) (y : Option Pge) : add (sum (told (upd s e y) f 3)) (pick f (s e)) = add (sum (told s f 3)) (pick f y) := by
  rw [sum_pick, sum_pick]
  obtain rfl | rfl | rfl : e = 0 ∨ e = 1 ∨ e = 2 := by omega
  all_goals
    simp [upd, add]
    omega
theorem len_upd (s : St) (f : Pge → T) (e : Nat) (he : e < 3) (y : Option Pge) : (told (upd s e y) f 3).length + (s e).toList.length = (told s f 3).length + y.toList.length := by
  have hl : ∀ s : St, (told s f 3).length = (s 0).toList.length + (s 1).toList.length + (s 2).toList.length := fun s => by
    unfold told told told told
    cases s 0 <;> cases s 1 <;> cases s 2 <;> rfl
  rw [hl, hl]
  obtain rfl | rfl | rfl : e = 0 ∨ e = 1 ∨ e = 2 := by omega
  all_goals
    simp [upd]
    omega
theorem add_cancel {a b c : T} (h : add a b = add c b) : a = c := by
  rcases a with ⟨a1, a2, a3⟩
  rcases b with ⟨b1, b2, b3⟩
  rcases c with ⟨c1, c2, c3⟩
  simp only [add, T.mk.injEq] at h ⊢
  omega
theorem sum_cut (A B : List T) (x : T) : sum (A ++ x :: B) = add (sum (A ++ B)) x := by
  rw [sum_app, sum_app]
  simp only [sum, add, T.mk.injEq]
  omega
/-- Open. -/
theorem Rel.enter {s : St} {L : List Pr} (h : Rel s L) {env : Int} (h1 : 1 ≤ env) (h2 : env ≤ 3) (hx : at_ s env = none) (q : T) (p : Nat) : Rel (upd s (env - 1).toNat (some ⟨p, q, zT⟩)) (L ++ [⟨env, q, zT⟩]) := by
  have hs : s (env - 1).toNat = none := by unfold at_ at hx; rw [if_pos ⟨h1, h2⟩] at hx; exact hx
  have hn : ∀ x ∈ L, x.env ≠ env := fun x hxL e => by
    obtain ⟨y, hy, _⟩ := h.a x hxL
    rw [e, hx] at hy
    cases hy
  refine ⟨?_, fun x hxL => ?_, fun e y hy => ?_, ?_, ?_, ?_⟩
  · rw [List.map_append, List.pairwise_append]
    refine ⟨h.nd, by simp, fun a ha b hb => ?_⟩
    obtain ⟨x, hxL, rfl⟩ := List.mem_map.1 ha
    simp at hb
    rw [hb]
    exact hn x hxL
  · rw [at_upd h1 h2]
    rw [List.mem_append] at hxL
    rcases hxL with hxL | hxL
    · rw [if_neg (hn x hxL)]
      exact h.a x hxL
    · simp at hxL
      subst hxL
      rw [if_pos rfl]
      exact ⟨_, rfl, rfl, rfl⟩
  · rw [at_upd h1 h2] at hy
    by_cases he : e = env
    · exact ⟨⟨env, q, zT⟩, by simp, he.symm⟩
    · rw [if_neg he] at hy
      obtain ⟨x, hxL, hxe⟩ := h.b e y hy
      exact ⟨x, by simp [hxL], hxe⟩
  · have := len_upd s (·.q) (env - 1).toNat (by omega) (some ⟨p, q, zT⟩)
    rw [hs] at this
    rw [List.length_append, h.len]
    simpa using this.symm
  · have := sum_upd s (·.h) (env - 1).toNat (by omega) (some ⟨p, q, zT⟩)
    rw [hs] at this
    rw [List.map_append, sum_app, h.sh]
    have h0 : ∀ t : T, add t (pick (·.h) none) = t := fun t => by simp [add, pick, zT]
    rw [h0] at this
    rw [this]
    simp [sum, pick, add, zT]
  · have := sum_upd s (·.q) (env - 1).toNat (by omega) (some ⟨p, q, zT⟩)
    rw [hs] at this
    rw [List.map_append, sum_app, h.sq]
    have h0 : ∀ t : T, add t (pick (·.q) none) = t := fun t => by simp [add, pick, zT]
    rw [h0] at this
    rw [this]
    simp [sum, pick, add, zT]
theorem Rel.apart {s : St} {L : List Pr} (h : Rel s L) {k : Nat} {p : Pr} (hp : L[k]? = some p) : ∀ x ∈ L.take k ++ L.drop (k + 1), x ∈ L ∧ x.env ≠ p.env := fun x hx => by
  have hL := cut hp
  have hnd := h.nd
  rw [hL, List.map_append, List.map_cons, List.pairwise_append] at hnd
  obtain ⟨_, h2, h3⟩ := hnd
  rw [List.pairwise_cons] at h2
  rw [List.mem_append] at hx
  rcases hx with hx | hx
  · exact ⟨List.mem_of_mem_take hx, h3 x.env (List.mem_map.2 ⟨x, hx, rfl⟩) p.env (by simp)⟩
  · exact ⟨List.mem_of_mem_drop hx, fun e => h2.1 x.env (List.mem_map.2 ⟨x, hx, rfl⟩) e.symm⟩
/-- Take, Give. -/
theorem Rel.set {s : St} {L : List Pr} (h : Rel s L) {env : Int} {x : Pge} (hx : at_ s env = some x) {k : Nat} (hp : L[k]? = some ⟨env, x.q, x.h⟩) (h' : T) : Rel (upd s (env - 1).toNat (some ⟨x.p, x.q, h'⟩)) (L.set k ⟨env, x.q, h'⟩) := by
  obtain ⟨h1, h2, hs⟩ := at_some hx
  have hL := cut hp
  have hS := cut_set (p' := (⟨env, x.q, h'⟩ : Pr)) hp
  have hap := h.apart hp
  refine ⟨?_, fun y hy => ?_, fun e y hy => ?_, ?_, ?_, ?_⟩
  · have : (L.set k ⟨env, x.q, h'⟩).map Pr.env = L.map Pr.env := by
      rw [hS]
      conv => rhs; rw [hL]
      simp
    rw [this]
    exact h.nd
  · rw [at_upd h1 h2]
    rw [hS, List.mem_append, List.mem_cons] at hy
    have hcase : y = ⟨env, x.q, h'⟩ ∨ y ∈ L.take k ++ L.drop (k + 1) := by
      rw [List.mem_append]
      rcases hy with hy | hy | hy
      · exact Or.inr (Or.inl hy)
      · exact Or.inl hy
      · exact Or.inr (Or.inr hy)
    rcases hcase with rfl | hy'
    · rw [if_pos rfl]; exact ⟨_, rfl, rfl, rfl⟩
    · obtain ⟨hyL, hne⟩ := hap y hy'
      rw [if_neg hne]
      exact h.a y hyL
  · rw [at_upd h1 h2] at hy
    by_cases he : e = env
    · exact ⟨⟨env, x.q, h'⟩, by rw [hS]; simp, he.symm⟩
    · rw [if_neg he] at hy
      obtain ⟨z, hz, hze⟩ := h.b e y hy
      refine ⟨z, ?_, hze⟩
      rw [hL, List.mem_append, List.mem_cons] at hz
      rw [hS, List.mem_append, List.mem_cons]
      rcases hz with hz | rfl | hz
      · exact Or.inl hz
      · exact absurd hze.symm he
      · exact Or.inr (Or.inr hz)
  · have := len_upd s (·.q) (env - 1).toNat (by omega) (some ⟨x.p, x.q, h'⟩)
    rw [hs] at this
    rw [List.length_set, h.len]
    simpa using this.symm
  · have h3 := sum_upd s (·.h) (env - 1).toNat (by omega) (some ⟨x.p, x.q, h'⟩)
    rw [hs] at h3
    have h4 := h.sh
    rw [hL, List.map_append, List.map_cons, sum_cut] at h4
    rw [hS, List.map_append, List.map_cons, sum_cut]
    rw [← h4] at h3
    generalize sum (told (upd s (env - 1).toNat (some ⟨x.p, x.q, h'⟩)) (·.h) 3) = S at *
    generalize sum (List.map Pr.h (List.take k L) ++ List.map Pr.h (List.drop (k + 1) L)) = R at *
    simp only [add, pick, T.mk.injEq] at h3 ⊢
    rcases S with ⟨S1, S2, S3⟩
    simp only [T.mk.injEq] at h3 ⊢
    omega
  · have h3 := sum_upd s (·.q) (env - 1).toNat (by omega) (some ⟨x.p, x.q, h'⟩)
    rw [hs] at h3
    have h4 := h.sq
    rw [hL, List.map_append, List.map_cons, sum_cut] at h4
    rw [hS, List.map_append, List.map_cons, sum_cut]
    rw [← h4] at h3
    exact (add_cancel h3).symm
/-- Close. -/
theorem Rel.drop {s : St} {L : List Pr} (h : Rel s L) {env : Int} {x : Pge} (hx : at_ s env = some x) {k : Nat} (hp : L[k]? = some ⟨env, x.q, x.h⟩) : Rel (upd s (env - 1).toNat none) (L.take k ++ L.drop (k + 1)) := by
  obtain ⟨h1, h2, hs⟩ := at_some hx
  have hL := cut hp
  have hap := h.apart hp
  refine ⟨?_, fun y hy => ?_, fun e y hy => ?_, ?_, ?_, ?_⟩
  · have hsub : (L.take k ++ L.drop (k + 1)).Sublist L := by
      conv => rhs; rw [hL]
      exact List.Sublist.append (List.Sublist.refl _) (List.sublist_cons_self _ _)
    exact h.nd.sublist (hsub.map _)
  · obtain ⟨hyL, hne⟩ := hap y hy
    rw [at_upd h1 h2, if_neg hne]
    exact h.a y hyL
  · rw [at_upd h1 h2] at hy
    by_cases he : e = env
    · rw [if_pos he] at hy; cases hy
    · rw [if_neg he] at hy
      obtain ⟨z, hz, hze⟩ := h.b e y hy
      refine ⟨z, ?_, hze⟩
      rw [hL, List.mem_append, List.mem_cons] at hz
      rw [List.mem_append]
      rcases hz with hz | rfl | hz
      · exact Or.inl hz
      · exact absurd hze.symm he
      · exact Or.inr hz
  · have := len_upd s (·.q) (env - 1).toNat (by omega) none
    rw [hs] at this
    have hl := h.len
    rw [hL, List.length_append, List.length_cons] at hl
    rw [List.length_append]
    generalize (told (upd s (env - 1).toNat none) (·.q) 3).length = X at *
    simp at this
    omega
  · have h3 := sum_upd s (·.h) (env - 1).toNat (by omega) none
    rw [hs] at h3
    have h4 := h.sh
    rw [hL, List.map_append, List.map_cons, sum_cut] at h4
    rw [List.map_append]
    rw [← h4] at h3
    have h0 : ∀ t : T, add t (pick (·.h) none) = t := fun t => by simp [add, pick, zT]
    rw [h0] at h3
    exact (add_cancel h3).symm
  · have h3 := sum_upd s (·.q) (env - 1).toNat (by omega) none
    rw [hs] at h3
    have h4 := h.sq
    rw [hL, List.map_append, List.map_cons, sum_cut] at h4
    rw [List.map_append]
    rw [← h4] at h3
    have h0 : ∀ t : T, add t (pick (·.q) none) = t := fun t => by simp [add, pick, zT]
    rw [h0] at h3
    exact (add_cancel h3).symm
end Go.Proofs.Ytfnhiefngbcnaaa
