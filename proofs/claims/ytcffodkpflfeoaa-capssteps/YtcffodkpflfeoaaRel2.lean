/- The program's table held against the document's: what is put, counted, told; no statement is proved in this text. -/
import Derived.Test.YtcffodkpflfeoaaRel
namespace Go.Proofs.Ytcffodkpflfeoaa

theorem fm_congr {α β : Type} {f g : α → Option β} : ∀ {l : List α}, (∀ a ∈ l, f a = g a) → l.filterMap f = l.filterMap g
  | [], _ => rfl
  | a :: l, h => by
    rw [List.filterMap_cons, List.filterMap_cons, h a (by simp), fm_congr (l := l) (fun b hb => h b (by simp [hb]))]
theorem snoc_get {α : Type} {L : List α} {x q : α} {i : Nat} (h : (L ++ [x])[i]? = some q) : L[i]? = some q ∧ i < L.length ∨ i = L.length ∧ q = x := by
  by_cases hi : i < L.length
  · rw [List.getElem?_append_left hi] at h
    exact Or.inl ⟨h, hi⟩
  · rw [List.getElem?_append_right (by omega)] at h
    right
    by_cases h0 : i = L.length
    · rw [h0, Nat.sub_self] at h
      simp at h
      exact ⟨h0, h.symm⟩
    · rw [List.getElem?_eq_none (by simp; omega)] at h
      cases h
theorem cnS_snoc (L : List Rw) (x : Rw) (s : Int) : cnS (L ++ [x]) s = cnS L s + if x.sl = s then 1 else 0 := by
  unfold cnS
  rw [List.filter_append, List.length_append]
  by_cases h : x.sl = s <;> simp [h]
theorem psl_snoc {L : List Rw} (x : Rw) {f : Int} (h : f = -1 ∨ ∃ k : Nat, f = k ∧ k < L.length) : psl (L ++ [x]) f = psl L f := by
  unfold psl
  rcases h with h | ⟨k, h1, h2⟩
  · rw [if_pos h, if_pos h]
  · rw [h1, if_neg (by omega), if_neg (by omega), Int.toNat_natCast, List.getElem?_append_left h2]
theorem Rel.frok {T : List Pl} {L : List Rw} (h : Rel T L) {i : Nat} {q : Rw} (hq : L[i]? = some q) : q.fr = -1 ∨ ∃ k : Nat, q.fr = k ∧ k < L.length := by
  have := (List.getElem?_eq_some_iff.1 hq).1
  rcases h.fw i q hq with h1 | ⟨k, h1, h2⟩
  · exact Or.inl h1
  · exact Or.inr ⟨k, h1, by omega⟩
theorem Rel.put {T : List Pl} {L : List Rw} (h : Rel T L) {s : Nat} {p : Pl} (hs : s < 128) (hp : T[s]? = some p) (hz : p.c = zC) {c : Cp} (hc : rightB c = true) {fr : Int} (hf : fr = -1 ∨ ∃ (k : Nat) (q : Rw), fr = k ∧ L[k]? = some q ∧ q.lv = true) :
    Rel (T.set s ⟨c, psl L fr, p.gen + 1⟩) (L ++ [⟨c, (s : Nat), (cnS L (s : Nat) : Int) + 1, fr, true⟩]) := by
  have hfok : fr = -1 ∨ ∃ k : Nat, fr = k ∧ k < L.length := by
    rcases hf with hf | ⟨k, q, h1, h2, _⟩
    · exact Or.inl hf
    · exact Or.inr ⟨k, h1, (List.getElem?_eq_some_iff.1 h2).1⟩
  have hno : ∀ (i : Nat) q, L[i]? = some q → q.lv = true → q.sl ≠ (s : Nat) := fun i q hq hl e => by
    have := (h.tk i q s p hq hl e hp).1
    rw [hz] at this
    exact right_ne (h.rt i q hq hl) this.symm
  refine ⟨by rw [List.length_set]; exact h.len, fun i q hq => ?_, fun i q hq hl => ?_, fun i q hq => ?_, fun i q k r hq hl hfq hr => ?_, fun i j r q hr hq hrl hql hsl => ?_, fun i q s' t hq hl hsl ht => ?_, fun s' t ht htc => ?_, fun s' t ht => ?_⟩
  · rcases snoc_get hq with ⟨h1, _⟩ | ⟨_, rfl⟩
    · exact h.sl i q h1
    · exact ⟨s, hs, rfl⟩
  · rcases snoc_get hq with ⟨h1, _⟩ | ⟨_, rfl⟩
    · exact h.rt i q h1 hl
    · exact hc
  · rcases snoc_get hq with ⟨h1, _⟩ | ⟨rfl, rfl⟩
    · exact h.fw i q h1
    · exact hfok
  · rcases snoc_get hq with ⟨h1, h1l⟩ | ⟨rfl, rfl⟩
    · rcases h.frok h1 with h2 | ⟨k', h2, h3⟩
      · omega
      · have hkk : k = k' := by omega
        subst hkk
        rw [List.getElem?_append_left h3] at hr
        exact h.par i q k r h1 hl hfq hr
    · rcases hf with hf | ⟨k', q', h1, h2, h3⟩
      · simp only at hfq; omega
      · have hkk : k = k' := by simp only at hfq; omega
        subst hkk
        rw [List.getElem?_append_left (List.getElem?_eq_some_iff.1 h2).1, h2] at hr
        cases hr
        exact h3
  · rcases snoc_get hr with ⟨h1, _⟩ | ⟨rfl, rfl⟩ <;> rcases snoc_get hq with ⟨h2, _⟩ | ⟨rfl, rfl⟩
    · exact h.one i j r q h1 h2 hrl hql hsl
    · exact absurd hsl (hno i r h1 hrl)
    · exact absurd hsl.symm (hno j q h2 hql)
    · rfl
  · rcases snoc_get hq with ⟨h1, _⟩ | ⟨rfl, rfl⟩
    · have hne : s ≠ s' := fun e => by subst e; exact hno i q h1 hl hsl
      rw [List.getElem?_set_ne hne] at ht
      rw [psl_snoc _ (h.frok h1)]
      exact h.tk i q s' t h1 hl hsl ht
    · have hss : s = s' := by simp only at hsl; omega
      subst hss
      rw [List.getElem?_set_self (by rw [h.len]; exact hs)] at ht
      cases ht
      exact ⟨rfl, by rw [h.gen s p hp], by rw [psl_snoc _ hfok]⟩
  · by_cases hne : s = s'
    · subst hne
      exact ⟨L.length, ⟨c, (s : Nat), (cnS L (s : Nat) : Int) + 1, fr, true⟩, by rw [List.getElem?_append_right (Nat.le_refl _)]; simp, rfl, rfl⟩
    · rw [List.getElem?_set_ne hne] at ht
      obtain ⟨i, q, hq, hl, hsq⟩ := h.ex s' t ht htc
      exact ⟨i, q, by rw [List.getElem?_append_left (List.getElem?_eq_some_iff.1 hq).1]; exact hq, hl, hsq⟩
  · rw [cnS_snoc]
    by_cases hne : s = s'
    · subst hne
      rw [List.getElem?_set_self (by rw [h.len]; exact hs)] at ht
      cases ht
      rw [if_pos rfl, h.gen s p hp]
      simp
    · rw [List.getElem?_set_ne hne] at ht
      rw [if_neg (by simp only; omega), h.gen s' t ht]
      simp
theorem lvR_cnt (L : List Rw) : ∀ k, k ≤ L.length → lvR (L.take k) = cnt k (lvA L)
  | 0, _ => rfl
  | k + 1, hk => by
    have hp : L[k]? = some L[k] := List.getElem?_eq_getElem (by omega)
    rw [lvR_succ hp, cnt_succ, lvR_cnt L k (by omega)]
    unfold lvA
    rw [hp]
theorem Rel.live {T : List Pl} {L : List Rw} (h : Rel T L) : (lvL T 128).length = lvR L := by
  have e := lvR_cnt L L.length (Nat.le_refl _)
  rw [List.take_length] at e
  rw [e]
  refine count_eq (f := slN L) (List.Pairwise.filter _ List.nodup_range) (fun j hj hk => ?_) (fun s hs => ?_) (fun i j hi hj hki hkj e => ?_)
  · obtain ⟨q, hq, hl⟩ := lvA_get hk
    have hs := slN_of h hq
    obtain ⟨p, hp⟩ := h.get hs.2
    have := h.tk j q (slN L j) p hq hl hs.1 hp
    unfold lvL
    rw [List.mem_filter, List.mem_range]
    exact ⟨hs.2, tkB_yes hp (by rw [this.1]; exact right_ne (h.rt j q hq hl))⟩
  · unfold lvL at hs
    rw [List.mem_filter, List.mem_range] at hs
    obtain ⟨p, hp⟩ := h.get hs.1
    have htk := hs.2
    unfold tkB at htk
    rw [hp] at htk
    obtain ⟨i, q, hq, hl, hsq⟩ := h.ex s p hp (by simpa using htk)
    have hsl := slN_of h hq
    exact ⟨i, (List.getElem?_eq_some_iff.1 hq).1, by unfold lvA; rw [hq]; exact hl, by omega⟩
  · obtain ⟨p, hp, hpl⟩ := lvA_get hki
    obtain ⟨q, hq, hql⟩ := lvA_get hkj
    have h1 := slN_of h hp
    have h2 := slN_of h hq
    exact h.one i j p q hp hq hpl hql (by omega)
theorem Rel.handles {T : List Pl} {L : List Rw} (h : Rel T L) (env : Int) : hdL T env 128 = rhL L env 128 := by
  unfold hdL rhL
  apply fm_congr
  intro s hs
  rw [List.mem_range] at hs
  obtain ⟨p, hp⟩ := h.get hs
  unfold hdA rhA
  rw [hp]
  rcases h.at hp with ⟨h1, h2⟩ | ⟨k, q, h0, h1, h2, h3, h4, e1, e2, _⟩
  · rw [h2]
    simp [h1]
  · rw [h1, if_neg (by omega), Int.toNat_natCast, h2]
    simp only
    by_cases he : q.c.env = env
    · rw [if_pos ⟨h0, by rw [e1]; exact he⟩, if_pos he, e2]
    · rw [if_neg (fun hx => he (by rw [← e1]; exact hx.2)), if_neg he]
theorem Rel.first {T : List Pl} {L : List Rw} (h : Rel T L) (hl : L.length < 128) : ∃ (s : Nat) (p : Pl), s < 128 ∧ T[s]? = some p ∧ p.c = zC ∧ (∀ j q, j < s → T[j]? = some q → q.c ≠ zC) ∧ atI L (s : Nat) = -1 ∧ ∀ j : Nat, j < s → ∃ k : Nat, atI L (j : Nat) = k := by
  have hA : ∀ n, n ≤ 128 → (∀ j, j < n → tkB T j = true) ∨ ∃ s, s < n ∧ tkB T s = false ∧ ∀ j, j < s → tkB T j = true := by
    intro n
    induction n with
    | zero => intro _; exact Or.inl (fun j hj => by omega)
    | succ n ih =>
      intro hn
      rcases ih (by omega) with h1 | ⟨s, hs, h2, h3⟩
      · cases ht : tkB T n with
        | true => exact Or.inl (fun j hj => by by_cases hjn : j = n; rw [hjn]; exact ht; exact h1 j (by omega))
        | false => exact Or.inr ⟨n, by omega, ht, h1⟩
      · exact Or.inr ⟨s, by omega, h2, h3⟩
  rcases hA 128 (Nat.le_refl _) with hall | ⟨s, hs, h2, h3⟩
  · exfalso
    have e : lvL T 128 = List.range 128 := by
      unfold lvL
      exact List.filter_eq_self.2 (fun a ha => hall a (by simpa using ha))
    have := h.live
    rw [e, List.length_range] at this
    have := lvR_le L
    omega
  · obtain ⟨p, hp⟩ := h.get hs
    have hz : p.c = zC := by unfold tkB at h2; rw [hp] at h2; simpa using h2
    have hjs : ∀ j q, j < s → T[j]? = some q → q.c ≠ zC := fun j q hj hq => by have := h3 j hj; unfold tkB at this; rw [hq] at this; simpa using this
    refine ⟨s, p, hs, hp, hz, hjs, ?_, fun j hj => ?_⟩
    · rcases h.at hp with ⟨_, h'⟩ | ⟨k, q, h0, _⟩
      · exact h'
      · exact absurd hz h0
    · obtain ⟨q, hq⟩ := h.get (s := j) (by omega)
      rcases h.at hq with ⟨h', _⟩ | ⟨k, r, _, h1, _⟩
      · exact absurd h' (hjs j q hj hq)
      · exact ⟨k, h1⟩
theorem Rel.gen_le {T : List Pl} {L : List Rw} (h : Rel T L) {s : Nat} {p : Pl} (hp : T[s]? = some p) : 0 ≤ p.gen ∧ p.gen ≤ L.length := by
  rw [h.gen s p hp]
  have := cnS_le L (s : Nat)
  omega
end Go.Proofs.Ytcffodkpflfeoaa
