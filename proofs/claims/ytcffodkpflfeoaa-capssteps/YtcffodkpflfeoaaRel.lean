/- The program's table held against the document's, in plain lists; no statement is proved in this text. -/
import Derived.Test.YtcffodkpflfeoaaRHand
import Derived.Test.YtcffodkpflfeoaaBelowP
namespace Go.Proofs.Ytcffodkpflfeoaa

def psl (L : List Rw) (f : Int) : Int := if f = -1 then -1 else match L[f.toNat]? with
  | some p => p.sl
  | none => -1
structure Rel (T : List Pl) (L : List Rw) : Prop where
  len : T.length = 128
  sl : ∀ (i : Nat) q, L[i]? = some q → ∃ s : Nat, s < 128 ∧ q.sl = s
  rt : ∀ (i : Nat) q, L[i]? = some q → q.lv = true → rightB q.c = true
  fw : Fw L
  par : ∀ (i : Nat) q (k : Nat) p, L[i]? = some q → q.lv = true → q.fr = k → L[k]? = some p → p.lv = true
  one : ∀ (i j : Nat) p q, L[i]? = some p → L[j]? = some q → p.lv = true → q.lv = true → p.sl = q.sl → i = j
  tk : ∀ (i : Nat) q (s : Nat) p, L[i]? = some q → q.lv = true → q.sl = s → T[s]? = some p → p.c = q.c ∧ p.gen = q.gn ∧ p.fr = psl L q.fr
  ex : ∀ (s : Nat) p, T[s]? = some p → p.c ≠ zC → ∃ (i : Nat) (q : Rw), L[i]? = some q ∧ q.lv = true ∧ q.sl = s
  gen : ∀ (s : Nat) p, T[s]? = some p → p.gen = (cnS L (s : Nat) : Int)
theorem right_ne {c : Cp} (h : rightB c = true) : c ≠ zC := fun e => by rw [e] at h; exact absurd h (by decide)
theorem rel_nil : Rel z128 [] where
  len := by simp [z128]
  sl := fun i q h => by simp at h
  rt := fun i q h => by simp at h
  fw := fun i q h => by simp at h
  par := fun i q k p h => by simp at h
  one := fun i j p q h => by simp at h
  tk := fun i q s p h => by simp at h
  ex := fun s p h hc => by
    unfold z128 at h
    rw [List.getElem?_replicate] at h
    split at h
    · cases h; exact absurd rfl hc
    · cases h
  gen := fun s p h => by
    unfold z128 at h
    rw [List.getElem?_replicate] at h
    split at h
    · cases h; rfl
    · cases h
theorem Rel.get {T : List Pl} {L : List Rw} (h : Rel T L) {s : Nat} (hs : s < 128) : ∃ p, T[s]? = some p := ⟨_, List.getElem?_eq_getElem (by rw [h.len]; exact hs)⟩
theorem Rel.atLive {T : List Pl} {L : List Rw} (h : Rel T L) {k : Nat} {q : Rw} (hq : L[k]? = some q) (hl : q.lv = true) : atI L q.sl = k := by
  rcases atI_cases L q.sl with ⟨_, h2⟩ | ⟨i, p, h1, h2, h3, h4⟩
  · have := h2 k q hq
    simp [atB, hl] at this
  · rw [h1, h.one i k p q h2 hq h3 hl h4]
theorem Rel.at {T : List Pl} {L : List Rw} (h : Rel T L) {s : Nat} {p : Pl} (hp : T[s]? = some p) : (p.c = zC ∧ atI L (s : Nat) = -1) ∨ ∃ (k : Nat) (q : Rw), p.c ≠ zC ∧ atI L (s : Nat) = k ∧ L[k]? = some q ∧ q.lv = true ∧ q.sl = s ∧ p.c = q.c ∧ p.gen = q.gn ∧ p.fr = psl L q.fr := by
  rcases atI_cases L (s : Nat) with ⟨h1, h2⟩ | ⟨k, q, h1, h2, h3, h4⟩
  · left
    refine ⟨Classical.byContradiction fun hc => ?_, h1⟩
    obtain ⟨i, q, hq, hl, hs⟩ := h.ex s p hp hc
    have := h2 i q hq
    simp [atB, hl, hs] at this
  · right
    obtain ⟨e1, e2, e3⟩ := h.tk k q s p h2 h3 h4 hp
    exact ⟨k, q, by rw [e1]; exact right_ne (h.rt k q h2 h3), h1, h2, h3, h4, e1, e2, e3⟩
theorem Rel.atOut {T : List Pl} {L : List Rw} (h : Rel T L) {sl : Int} (hs : sl < 0 ∨ 128 ≤ sl) : atI L sl = -1 := by
  rcases atI_cases L sl with ⟨h1, _⟩ | ⟨k, q, h1, h2, h3, h4⟩
  · exact h1
  · obtain ⟨s, hs1, hs2⟩ := h.sl k q h2
    omega
theorem lookF_out {T : List Pl} (hl : T.length = 128) {env sl gn : Int} (hs : sl < 0 ∨ 128 ≤ sl) : lookF T env sl gn = none := by
  unfold lookF
  by_cases h0 : 0 ≤ sl
  · rw [if_pos h0, List.getElem?_eq_none (by omega)]
  · rw [if_neg h0]
/-- Look and Find tell the same. -/
theorem Rel.look {T : List Pl} {L : List Rw} (h : Rel T L) (env sl gn : Int) : (lookF T env sl gn = none ∧ fdI L env sl gn = -1) ∨ ∃ (k : Nat) (q : Rw) (s : Nat), lookF T env sl gn = some q.c ∧ fdI L env sl gn = k ∧ L[k]? = some q ∧ q.lv = true ∧ sl = s ∧ s < 128 ∧ q.sl = sl ∧ q.gn = gn ∧ q.c.env = env := by
  by_cases hs : sl < 0 ∨ 128 ≤ sl
  · left
    refine ⟨lookF_out h.len hs, ?_⟩
    unfold fdI
    rw [h.atOut hs]
    rfl
  · obtain ⟨s, rfl⟩ : ∃ s : Nat, sl = s := ⟨sl.toNat, by omega⟩
    obtain ⟨p, hp⟩ := h.get (s := s) (by omega)
    rcases h.at hp with ⟨h1, h2⟩ | ⟨k, q, h0, h1, h2, h3, h4, e1, e2, _⟩
    · left
      constructor
      · unfold lookF
        rw [if_pos (by omega), Int.toNat_natCast, hp]
        simp [h1]
      · unfold fdI
        rw [h2]
        rfl
    · have e : fdI L env (s : Nat) gn = if q.gn = gn ∧ q.c.env = env then (k : Int) else -1 := by
        unfold fdI
        rw [h1, if_neg (by omega), Int.toNat_natCast, h2]
      by_cases hc : q.gn = gn ∧ q.c.env = env
      · right
        refine ⟨k, q, s, ?_, by rw [e, if_pos hc], h2, h3, rfl, by omega, h4, hc.1, hc.2⟩
        have := lookF_at (T := T) (env := env) (gn := gn) hp h0 (by rw [e2]; exact hc.1) (by rw [e1]; exact hc.2)
        rw [this, e1]
      · left
        refine ⟨?_, by rw [e, if_neg hc]⟩
        unfold lookF
        rw [if_pos (by omega), Int.toNat_natCast, hp]
        simp only
        rw [if_pos]
        by_cases hg : q.gn = gn
        · right; right; rw [e1]; exact fun he => hc ⟨hg, he⟩
        · right; left; rw [e2]; exact hg
theorem Rel.rts {T : List Pl} {L : List Rw} (h : Rel T L) : Rts T := fun i p hp hc => by
  obtain ⟨j, q, hq, hl, hs⟩ := h.ex i p hp hc
  rw [(h.tk j q i p hq hl hs hp).1]
  exact h.rt j q hq hl
def rkR (L : List Rw) (s : Nat) : Nat := (atI L (s : Nat)).toNat
theorem rkR_le (L : List Rw) (s : Nat) : rkR L s + 2 ≤ L.length + 2 := by
  unfold rkR
  rcases atI_cases L (s : Nat) with ⟨h1, _⟩ | ⟨k, q, h1, h2, _⟩
  · rw [h1]; simp
  · have := (List.getElem?_eq_some_iff.1 h2).1
    rw [h1, Int.toNat_natCast]; omega
theorem Rel.rk {T : List Pl} {L : List Rw} (h : Rel T L) : Rk T (rkR L) := ⟨fun s p hp hc => by
  rcases h.at hp with ⟨h1, _⟩ | ⟨k, q, _, h1, h2, h3, h4, e1, e2, e3⟩
  · exact absurd h1 hc
  · rcases h.fw k q h2 with hf | ⟨j, hf, hj⟩
    · left; rw [e3, hf]; rfl
    · right
      have hkL := (List.getElem?_eq_some_iff.1 h2).1
      obtain ⟨q', hq'⟩ : ∃ q', L[j]? = some q' := ⟨_, List.getElem?_eq_getElem (by omega)⟩
      have hl' := h.par k q j q' h2 h3 hf hq'
      obtain ⟨s', hs1, hs2⟩ := h.sl j q' hq'
      obtain ⟨p', hp'⟩ := h.get hs1
      have ht := h.tk j q' s' p' hq' hl' hs2 hp'
      refine ⟨s', p', ?_, hp', ?_, ?_⟩
      · rw [e3, hf]; unfold psl; rw [if_neg (by omega), Int.toNat_natCast, hq']; exact hs2
      · rw [ht.1]; exact right_ne (h.rt j q' hq' hl')
      · unfold rkR
        have := h.atLive hq' hl'
        rw [hs2] at this
        rw [this, h1, Int.toNat_natCast, Int.toNat_natCast]
        exact hj⟩
/-- What is met on the way up. -/
theorem Rel.hg {T : List Pl} {L : List Rw} (h : Rel T L) (m : Nat → Bool) : ∀ (j N : Nat) (q : Rw) (s : Nat), L[j]? = some q → q.lv = true → q.sl = s → j + 2 ≤ N → (hgF T m N (s : Nat) = true ↔ ∃ (i : Nat) (p : Rw), Up L j i ∧ L[i]? = some p ∧ m p.sl.toNat = true) := by
  intro j
  induction j using Nat.strongRecOn with
  | _ j ih =>
    intro N q s hq hl hs hN
    obtain ⟨N', rfl⟩ : ∃ N', N = N' + 1 := ⟨N - 1, by omega⟩
    obtain ⟨s2, hs1, hs2⟩ := h.sl j q hq
    obtain rfl : s = s2 := by omega
    obtain ⟨p, hp⟩ := h.get hs1
    obtain ⟨e1, e2, e3⟩ := h.tk j q s p hq hl hs hp
    cases hm : m s with
    | true =>
      rw [hgF_yes _ _ _ _ hm]
      exact ⟨fun _ => ⟨j, q, .refl j, hq, by rw [hs, Int.toNat_natCast]; exact hm⟩, fun _ => rfl⟩
    | false =>
      rw [hgF_no _ _ _ _ p hp hm, e3]
      rcases h.fw j q hq with hf | ⟨k, hf, hk⟩
      · rw [hf, show psl L (-1) = -1 from rfl]
        obtain ⟨N2, rfl⟩ : ∃ N2, N' = N2 + 1 := ⟨N' - 1, by omega⟩
        rw [hgF_end]
        refine ⟨fun h' => (by cases h'), fun ⟨i, p', hu, hp', hm'⟩ => ?_⟩
        cases hu with
        | refl =>
          rw [hq] at hp'
          cases hp'
          rw [hs, Int.toNat_natCast, hm] at hm'
          exact hm'
        | step h3 h4 _ => rw [hq] at h3; cases h3; omega
      · have hjL := (List.getElem?_eq_some_iff.1 hq).1
        obtain ⟨q', hq'⟩ : ∃ q', L[k]? = some q' := ⟨_, List.getElem?_eq_getElem (by omega)⟩
        have hl' := h.par j q k q' hq hl hf hq'
        obtain ⟨s', hs1', hs2'⟩ := h.sl k q' hq'
        have e4 : psl L q.fr = (s' : Nat) := by rw [hf]; unfold psl; rw [if_neg (by omega), Int.toNat_natCast, hq']; exact hs2'
        rw [e4, ih k hk N' q' s' hq' hl' hs2' (by omega)]
        constructor
        · rintro ⟨i, p', hu, hp', hm'⟩
          exact ⟨i, p', .step hq hf hu, hp', hm'⟩
        · rintro ⟨i, p', hu, hp', hm'⟩
          cases hu with
          | refl =>
            rw [hq] at hp'
            cases hp'
            rw [hs, Int.toNat_natCast, hm] at hm'
            cases hm'
          | step h3 h4 h5 =>
            rw [hq] at h3
            cases h3
            rw [hf] at h4
            have hkk := Int.ofNat_inj.1 h4
            rw [hkk]
            exact ⟨i, p', h5, hp', hm'⟩
theorem Up.live {T : List Pl} {L : List Rw} (h : Rel T L) {j i : Nat} (hu : Up L j i) : ∀ {q p : Rw}, L[j]? = some q → q.lv = true → L[i]? = some p → p.lv = true := by
  induction hu with
  | refl => intro q p hq hl hp; rw [hq] at hp; cases hp; exact hl
  | step h1 h2 _ ih =>
    intro q p hq hl hp
    rw [hq] at h1
    cases h1
    rename_i j' k' i' _ _
    rcases h.fw _ _ hq with hf | ⟨k, hf, hk⟩
    · omega
    · have hjL := (List.getElem?_eq_some_iff.1 hq).1
      obtain ⟨q', hq'⟩ : ∃ q', L[k']? = some q' := ⟨_, List.getElem?_eq_getElem (by omega)⟩
      exact ih hq' (h.par _ _ k' q' hq hl h2 hq') hp
theorem Up.has {L : List Rw} (hf : Fw L) {j i : Nat} (hu : Up L j i) {q : Rw} (hq : L[j]? = some q) : ∃ p, L[i]? = some p := by
  have := hu.le hf
  have := (List.getElem?_eq_some_iff.1 hq).1
  exact ⟨_, List.getElem?_eq_getElem (by omega)⟩
/-- As many slots of a set as places. -/
theorem count_eq {n : Nat} {G : List Nat} {K : Nat → Bool} {f : Nat → Nat} (hG : G.Nodup) (h1 : ∀ j, j < n → K j = true → f j ∈ G) (h2 : ∀ s, s ∈ G → ∃ j, j < n ∧ K j = true ∧ f j = s) (h3 : ∀ i j, i < n → j < n → K i = true → K j = true → f i = f j → i = j) : G.length = cnt n K := by
  unfold cnt
  have hn : ((List.range n).filter K).Nodup := List.Pairwise.filter _ List.nodup_range
  have hm : (((List.range n).filter K).map f).Nodup := by
    unfold List.Nodup at hn ⊢
    rw [List.pairwise_map]
    refine List.Pairwise.imp_of_mem ?_ hn
    intro a b ha hb hab e
    rw [List.mem_filter, List.mem_range] at ha hb
    exact hab (h3 a b ha.1 hb.1 ha.2 hb.2 e)
  have hp : G.Perm (((List.range n).filter K).map f) := by
    rw [List.perm_ext_iff_of_nodup hG hm]
    intro s
    constructor
    · intro hs
      obtain ⟨j, hj, hk, e⟩ := h2 s hs
      rw [List.mem_map]
      exact ⟨j, by rw [List.mem_filter, List.mem_range]; exact ⟨hj, hk⟩, e⟩
    · intro hs
      rw [List.mem_map] at hs
      obtain ⟨j, hj, rfl⟩ := hs
      rw [List.mem_filter, List.mem_range] at hj
      exact h1 j hj.1 hj.2
  rw [hp.length_eq, List.length_map]
theorem lvA_get {L : List Rw} {j : Nat} (h : lvA L j = true) : ∃ q, L[j]? = some q ∧ q.lv = true := by
  unfold lvA at h
  cases hq : L[j]? with
  | none => rw [hq] at h; cases h
  | some q => rw [hq] at h; exact ⟨q, rfl, h⟩
def slN (L : List Rw) (j : Nat) : Nat := match L[j]? with
  | some q => q.sl.toNat
  | none => 0
theorem slN_of {T : List Pl} {L : List Rw} (h : Rel T L) {j : Nat} {q : Rw} (hq : L[j]? = some q) : q.sl = (slN L j : Nat) ∧ slN L j < 128 := by
  obtain ⟨s, hs1, hs2⟩ := h.sl j q hq
  have : slN L j = s := by unfold slN; rw [hq]; simp [hs2]
  rw [this]
  exact ⟨hs2, hs1⟩
/-- What is dropped of the one is killed of the other. -/
theorem Rel.off {T : List Pl} {L : List Rw} (h : Rel T L) {G : List Nat} {K : Nat → Bool} (hG : G.Nodup) (hGt : ∀ s, s ∈ G → tkB T s = true) (hK : ∀ j, K j = true → lvA L j = true) (hGK : ∀ (j : Nat) q, L[j]? = some q → q.lv = true → (slN L j ∈ G ↔ K j = true)) (hd : ∀ (j : Nat) q (k : Nat), L[j]? = some q → q.lv = true → q.fr = k → K k = true → K j = true) : Rel (clr T G) (offs K L) ∧ G.length = cnt L.length K := by
  have hoff : ∀ (i : Nat) q, (offs K L)[i]? = some q → ∃ p, L[i]? = some p ∧ q.c = p.c ∧ q.sl = p.sl ∧ q.gn = p.gn ∧ q.fr = p.fr ∧ (q.lv = true → p.lv = true ∧ K i = false ∧ q = p) := fun i q hq => by
    rw [offs_get] at hq
    cases hp : L[i]? with
    | none => rw [hp] at hq; cases hq
    | some p =>
      rw [hp] at hq
      simp only [Option.map_some, Option.some.injEq] at hq
      cases hk : K i with
      | true => rw [hk, if_pos rfl] at hq; subst hq; exact ⟨p, rfl, rfl, rfl, rfl, rfl, fun h' => by cases h'⟩
      | false => rw [hk, if_neg (by simp)] at hq; subst hq; exact ⟨p, rfl, rfl, rfl, rfl, rfl, fun h' => ⟨h', rfl, rfl⟩⟩
  have hpsl : ∀ f, psl (offs K L) f = psl L f := fun f => by
    unfold psl
    by_cases hf : f = -1
    · rw [if_pos hf, if_pos hf]
    · rw [if_neg hf, if_neg hf, offs_get]
      cases L[f.toNat]? with
      | none => rfl
      | some p => by_cases hk : K f.toNat = true <;> simp [hk, offR]
  have hcn : ∀ s : Int, cnS (offs K L) s = cnS L s := fun s => by
    unfold cnS offs
    have e : ∀ (M : List Rw) (o : Nat), ((M.mapIdx fun i p => if K (i + o) = true then offR p else p).filter fun r => decide (r.sl = s)).length = (M.filter fun r => decide (r.sl = s)).length := by
      intro M
      induction M with
      | nil => intro o; rfl
      | cons p M ih =>
        intro o
        rw [List.mapIdx_cons]
        have e2 : (fun (i : Nat) (p : Rw) => if K (i + 1 + o) = true then offR p else p) = fun i p => if K (i + (o + 1)) = true then offR p else p := by
          funext i p
          rw [show i + 1 + o = i + (o + 1) by omega]
        have e3 : (if K (0 + o) = true then offR p else p).sl = p.sl := by split <;> rfl
        rw [e2]
        have := ih (o + 1)
        by_cases hs : p.sl = s
        · rw [List.filter_cons_of_pos (by rw [e3]; simpa using hs), List.filter_cons_of_pos (by simpa using hs), List.length_cons, List.length_cons, this]
        · rw [List.filter_cons_of_neg (by rw [e3]; simpa using hs), List.filter_cons_of_neg (by simpa using hs), this]
    exact e L 0
  refine ⟨⟨by rw [clr_len]; exact h.len, fun i q hq => ?_, fun i q hq hl => ?_, offs_fw h.fw, fun i q k p hq hl hf hp => ?_, fun i j p q hp hq hpl hql hs => ?_, fun i q s p hq hl hs hp => ?_, fun s p hp hc => ?_, fun s p hp => ?_⟩, ?_⟩
  · obtain ⟨p, hp, _, e2, _⟩ := hoff i q hq
    rw [e2]; exact h.sl i p hp
  · obtain ⟨p, hp, _, _, _, _, e5⟩ := hoff i q hq
    obtain ⟨h1, _, rfl⟩ := e5 hl
    exact h.rt i q hp h1
  · obtain ⟨q0, hq0, _, _, _, _, e5⟩ := hoff i q hq
    obtain ⟨h1, h2, rfl⟩ := e5 hl
    obtain ⟨p0, hp0, _, _, _, _, _⟩ := hoff k p hp
    have hpl := h.par i q k p0 hq0 h1 hf hp0
    rw [offs_get, hp0] at hp
    simp only [Option.map_some, Option.some.injEq] at hp
    cases hk : K k with
    | true => have := hd i q k hq0 h1 hf hk; rw [h2] at this; cases this
    | false => rw [hk, if_neg (by simp)] at hp; subst hp; exact hpl
  · obtain ⟨p0, hp0, _, _, _, _, e5⟩ := hoff i p hp
    obtain ⟨h1, _, rfl⟩ := e5 hpl
    obtain ⟨q0, hq0, _, _, _, _, e6⟩ := hoff j q hq
    obtain ⟨h2, _, rfl⟩ := e6 hql
    exact h.one i j p q hp0 hq0 h1 h2 hs
  · obtain ⟨q0, hq0, _, _, _, _, e5⟩ := hoff i q hq
    obtain ⟨h1, h2, rfl⟩ := e5 hl
    rw [clr_get] at hp
    obtain ⟨hsl, hsl2⟩ := slN_of h hq0
    obtain rfl : s = slN L i := by omega
    have hnG : slN L i ∉ G := fun hg => by have := (hGK i q hq0 h1).1 hg; rw [h2] at this; cases this
    cases hT : T[slN L i]? with
    | none => rw [hT] at hp; cases hp
    | some p0 =>
      rw [hT] at hp
      simp only [Option.map_some, Option.some.injEq, if_neg hnG] at hp
      subst hp
      rw [hpsl]
      exact h.tk i q _ p0 hq0 h1 hs hT
  · rw [clr_get] at hp
    cases hT : T[s]? with
    | none => rw [hT] at hp; cases hp
    | some p0 =>
      rw [hT] at hp
      simp only [Option.map_some, Option.some.injEq] at hp
      by_cases hg : s ∈ G
      · rw [if_pos hg] at hp; subst hp; exact absurd rfl hc
      · rw [if_neg hg] at hp
        subst hp
        obtain ⟨i, q, hq, hl, hs⟩ := h.ex s p0 hT hc
        have hsl := slN_of h hq
        have hss : slN L i = s := by omega
        have hk : K i = false := by
          cases hk : K i with
          | false => rfl
          | true => exact absurd (by rw [← hss]; exact (hGK i q hq hl).2 hk) hg
        exact ⟨i, q, by rw [offs_get, hq]; simp [hk], hl, hs⟩
  · rw [hcn]
    rw [clr_get] at hp
    cases hT : T[s]? with
    | none => rw [hT] at hp; cases hp
    | some p0 =>
      rw [hT] at hp
      simp only [Option.map_some, Option.some.injEq] at hp
      rw [← h.gen s p0 hT, ← hp]
      by_cases hg : s ∈ G <;> simp [hg, clP]
  · refine count_eq (f := slN L) hG (fun j hj hk => ?_) (fun s hs => ?_) (fun i j hi hj hki hkj e => ?_)
    · obtain ⟨q, hq, hl⟩ := lvA_get (hK j hk)
      exact (hGK j q hq hl).2 hk
    · have htk := hGt s hs
      unfold tkB at htk
      cases hT : T[s]? with
      | none => rw [hT] at htk; cases htk
      | some p0 =>
        rw [hT] at htk
        obtain ⟨i, q, hq, hl, hsq⟩ := h.ex s p0 hT (by simpa using htk)
        have hsl := slN_of h hq
        have hss : slN L i = s := by omega
        exact ⟨i, (List.getElem?_eq_some_iff.1 hq).1, (hGK i q hq hl).1 (by rw [hss]; exact hs), hss⟩
    · obtain ⟨p, hp, hpl⟩ := lvA_get (hK i hki)
      obtain ⟨q, hq, hql⟩ := lvA_get (hK j hkj)
      have h1 := slN_of h hp
      have h2 := slN_of h hq
      exact h.one i j p q hp hq hpl hql (by omega)
theorem gnL_nodup (T : List Pl) (m : Nat → Bool) (N k : Nat) : (gnL T m N k).Nodup := List.Pairwise.filter _ List.nodup_range
theorem gnB_tk {T : List Pl} {m : Nat → Bool} {N s : Nat} (h : gnB T m N s = true) : tkB T s = true := by
  unfold gnB at h
  rw [Bool.and_eq_true] at h
  exact h.1
theorem Rel.gn {T : List Pl} {L : List Rw} (h : Rel T L) (m : Nat → Bool) {j : Nat} {q : Rw} (hq : L[j]? = some q) (hl : q.lv = true) : slN L j ∈ gnL T m (L.length + 2) 128 ↔ ∃ (i : Nat) (p : Rw), Up L j i ∧ L[i]? = some p ∧ m p.sl.toNat = true := by
  have hs := slN_of h hq
  have hj := (List.getElem?_eq_some_iff.1 hq).1
  rw [← h.hg m j (L.length + 2) q (slN L j) hq hl hs.1 (by omega)]
  unfold gnL
  rw [List.mem_filter, List.mem_range]
  unfold gnB
  obtain ⟨p, hp⟩ := h.get hs.2
  have := h.tk j q (slN L j) p hq hl hs.1 hp
  rw [tkB_yes hp (by rw [this.1]; exact right_ne (h.rt j q hq hl)), Bool.true_and]
  exact ⟨fun h' => h'.2, fun h' => ⟨hs.2, h'⟩⟩
/-- Drop. -/
theorem Rel.drop {T : List Pl} {L : List Rw} (h : Rel T L) {k : Nat} {q : Rw} (hq : L[k]? = some q) (hl : q.lv = true) : Rel (clr T (gnL T (mDrop q.sl) (L.length + 2) 128)) (offs (klB L k true) L) ∧ (gnL T (mDrop q.sl) (L.length + 2) 128).length = cnt L.length (klB L k true) := by
  have hkb : ∀ (j : Nat) p, L[j]? = some p → p.lv = true → (klB L k true j = true ↔ Up L j k) := fun j p hp hpl => by
    unfold klB lvA
    rw [hp]
    simp only [hpl, Bool.true_and]
    exact upb_iff h.fw hp k
  refine h.off (gnL_nodup _ _ _ _) (fun s hs => gnB_tk (gnL_lt hs).2) (fun j hk => by unfold klB at hk; rw [Bool.and_eq_true] at hk; exact hk.1) (fun j p hp hpl => ?_) (fun j p i hp hpl hf hk => ?_)
  · rw [h.gn _ hp hpl, hkb j p hp hpl]
    constructor
    · rintro ⟨i, r, hu, hr, hm⟩
      unfold mDrop at hm
      rw [decide_eq_true_iff] at hm
      have hs := slN_of h hr
      have := h.one i k r q hr hq (hu.live h hp hpl hr) hl (by omega)
      rw [← this]
      exact hu
    · intro hu
      refine ⟨k, q, hu, hq, ?_⟩
      have hs := slN_of h hq
      unfold mDrop
      rw [decide_eq_true_iff]
      omega
  · have hjL := (List.getElem?_eq_some_iff.1 hp).1
    have hlt : i < L.length := by rcases h.fw j p hp with h' | ⟨j', h1, h2⟩ <;> omega
    obtain ⟨r, hr⟩ : ∃ r, L[i]? = some r := ⟨_, List.getElem?_eq_getElem hlt⟩
    have hrl := h.par j p i r hp hpl hf hr
    exact (hkb j p hp hpl).2 (.step hp hf ((hkb i r hr hrl).1 hk))
/-- Revoke. -/
theorem Rel.revoke {T : List Pl} {L : List Rw} (h : Rel T L) {k : Nat} {q : Rw} (hq : L[k]? = some q) (hl : q.lv = true) : Rel (clr T (gnL T (mRev T q.sl) (L.length + 2) 128)) (offs (klB L k false) L) ∧ (gnL T (mRev T q.sl) (L.length + 2) 128).length = cnt L.length (klB L k false) := by
  have hkb : ∀ (j : Nat) p, L[j]? = some p → p.lv = true → (klB L k false j = true ↔ ∃ i : Nat, p.fr = i ∧ Up L i k) := fun j p hp hpl => by
    unfold klB lvA
    rw [hp]
    simp only [hpl, Bool.true_and, Bool.false_and, Bool.false_or]
    exact bl_iff h.fw hp k
  have hfrA : ∀ (i : Nat) r, L[i]? = some r → r.lv = true → frA T r.sl.toNat = psl L r.fr := fun i r hr hrl => by
    have hs := slN_of h hr
    obtain ⟨p, hp⟩ := h.get hs.2
    have := (h.tk i r (slN L i) p hr hrl hs.1 hp).2.2
    unfold frA
    rw [hs.1, Int.toNat_natCast, hp]
    exact this
  refine h.off (gnL_nodup _ _ _ _) (fun s hs => gnB_tk (gnL_lt hs).2) (fun j hk => by unfold klB at hk; rw [Bool.and_eq_true] at hk; exact hk.1) (fun j p hp hpl => ?_) (fun j p i hp hpl hf hk => ?_)
  · rw [h.gn _ hp hpl, hkb j p hp hpl]
    constructor
    · rintro ⟨i, r, hu, hr, hm⟩
      unfold mRev at hm
      rw [decide_eq_true_iff, hfrA i r hr (hu.live h hp hpl hr)] at hm
      have hrl := hu.live h hp hpl hr
      have hqs := slN_of h hq
      rcases h.fw i r hr with hf | ⟨i', hf, hi'⟩
      · rw [hf] at hm
        have : psl L (-1) = -1 := rfl
        omega
      · have hiL := (List.getElem?_eq_some_iff.1 hr).1
        obtain ⟨r', hr'⟩ : ∃ r', L[i']? = some r' := ⟨_, List.getElem?_eq_getElem (by omega)⟩
        have hrl' := h.par i r i' r' hr hrl hf hr'
        have hps : psl L r.fr = r'.sl := by rw [hf]; unfold psl; rw [if_neg (by omega), Int.toNat_natCast, hr']
        have hik := h.one i' k r' q hr' hq hrl' hl (by omega)
        subst hik
        have hui : Up L i i' := .step hr hf (.refl _)
        cases hu with
        | refl => rw [hp] at hr; cases hr; exact ⟨i', hf, .refl _⟩
        | step h3 h4 h5 =>
          rw [hp] at h3
          cases h3
          exact ⟨_, h4, h5.trans hui⟩
    · rintro ⟨i, hf, hu⟩
      -- the last one on the way whose parent is k
      have key : ∀ {a b : Nat}, Up L a b → ∀ {c : Nat} {rc : Rw}, L[c]? = some rc → rc.lv = true → rc.fr = (a : Nat) → b = k → ∃ (x : Nat) (rx : Rw), Up L c x ∧ L[x]? = some rx ∧ rx.fr = (k : Nat) := by
        intro a b hab
        induction hab with
        | refl => intro c rc hc _ hfc hb; subst hb; exact ⟨c, rc, .refl c, hc, hfc⟩
        | step g1 g2 _ ih =>
          intro c rc hc hcl hfc hb
          have hal := h.par c rc _ _ hc hcl hfc g1
          obtain ⟨x, rx, hux, hx1, hx2⟩ := ih g1 hal g2 hb
          exact ⟨x, rx, .step hc hfc hux, hx1, hx2⟩
      obtain ⟨x, rx, hux, hx1, hx2⟩ := key hu hp hpl hf rfl
      refine ⟨x, rx, hux, hx1, ?_⟩
      unfold mRev
      rw [decide_eq_true_iff, hfrA x rx hx1 (hux.live h hp hpl hx1), hx2]
      unfold psl
      rw [if_neg (by omega), Int.toNat_natCast, hq]
  · have hjL := (List.getElem?_eq_some_iff.1 hp).1
    have hlt : i < L.length := by rcases h.fw j p hp with h' | ⟨j', h1, h2⟩ <;> omega
    obtain ⟨r, hr⟩ : ∃ r, L[i]? = some r := ⟨_, List.getElem?_eq_getElem hlt⟩
    have hrl := h.par j p i r hp hpl hf hr
    obtain ⟨i', hf', hu'⟩ := (hkb i r hr hrl).1 hk
    exact (hkb j p hp hpl).2 ⟨i, hf, .step hr hf' hu'⟩
/-- DropEnv. -/
theorem Rel.dropEnv {T : List Pl} {L : List Rw} (h : Rel T L) (env : Int) : Rel (clr T (gnL T (mEnv T env) (L.length + 2) 128)) (offs (deB L env L.length) L) ∧ (gnL T (mEnv T env) (L.length + 2) 128).length = cnt L.length (deB L env L.length) := by
  have hde : ∀ (j : Nat) p, L[j]? = some p → p.lv = true → (deB L env L.length j = true ↔ ∃ (i : Nat) (r : Rw), Up L j i ∧ L[i]? = some r ∧ r.c.env = env) := fun j p hp hpl => by
    have hj := (List.getElem?_eq_some_iff.1 hp).1
    unfold deB
    rw [Bool.and_eq_true, List.any_eq_true]
    constructor
    · rintro ⟨_, i, _, h3⟩
      simp only [Bool.and_eq_true, decide_eq_true_eq] at h3
      obtain ⟨r, hr, _⟩ := lvA_get h3.1
      refine ⟨i, r, (upb_iff h.fw hp i).1 h3.2.2, hr, ?_⟩
      have := h3.2.1
      unfold enR at this
      rw [hr] at this
      exact this
    · rintro ⟨i, r, hu, hr, he⟩
      refine ⟨by unfold lvA; rw [hp]; exact hpl, i, ?_, ?_⟩
      · have := (List.getElem?_eq_some_iff.1 hr).1
        simpa using this
      · simp only [Bool.and_eq_true, decide_eq_true_eq]
        refine ⟨by unfold lvA; rw [hr]; exact hu.live h hp hpl hr, by unfold enR; rw [hr]; exact he, (upb_iff h.fw hp i).2 hu⟩
  refine h.off (gnL_nodup _ _ _ _) (fun s hs => gnB_tk (gnL_lt hs).2) (fun j hk => by unfold deB at hk; rw [Bool.and_eq_true] at hk; exact hk.1) (fun j p hp hpl => ?_) (fun j p i hp hpl hf hk => ?_)
  · rw [h.gn _ hp hpl, hde j p hp hpl]
    constructor
    · rintro ⟨i, r, hu, hr, hm⟩
      have hs := slN_of h hr
      obtain ⟨t, ht⟩ := h.get hs.2
      have := (h.tk i r (slN L i) t hr (hu.live h hp hpl hr) hs.1 ht).1
      unfold mEnv enA at hm
      rw [decide_eq_true_iff, hs.1, Int.toNat_natCast, ht] at hm
      exact ⟨i, r, hu, hr, by rw [← this]; exact hm⟩
    · rintro ⟨i, r, hu, hr, he⟩
      have hs := slN_of h hr
      obtain ⟨t, ht⟩ := h.get hs.2
      have := (h.tk i r (slN L i) t hr (hu.live h hp hpl hr) hs.1 ht).1
      refine ⟨i, r, hu, hr, ?_⟩
      unfold mEnv enA
      rw [decide_eq_true_iff, hs.1, Int.toNat_natCast, ht]
      simp only
      rw [this]
      exact he
  · have hjL := (List.getElem?_eq_some_iff.1 hp).1
    have hlt : i < L.length := by rcases h.fw j p hp with h' | ⟨j', h1, h2⟩ <;> omega
    obtain ⟨r, hr⟩ : ∃ r, L[i]? = some r := ⟨_, List.getElem?_eq_getElem hlt⟩
    have hrl := h.par j p i r hp hpl hf hr
    obtain ⟨a, ra, hua, hra, hea⟩ := (hde i r hr hrl).1 hk
    exact (hde j p hp hpl).2 ⟨a, ra, .step hp hf hua, hra, hea⟩
end Go.Proofs.Ytcffodkpflfeoaa
