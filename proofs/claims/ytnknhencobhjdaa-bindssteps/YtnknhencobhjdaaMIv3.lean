/- No statement here. -/
import Derived.Test.YtnknhencobhjdaaMDs
import Derived.Test.YtnknhencobhjdaaMSk0
import Derived.Test.YtnknhencobhjdaaMBi
namespace Go.Proofs.Ytnknhencobhjdaa
open Go.Proofs.Ytnknhencobhjdaa.Cp (zC)
theorem countP_split {α : Type} (p q r : α → Bool) (h : ∀ a, p a = (q a || r a)) (hd : ∀ a, (q a && r a) = false) : ∀ l : List α, l.countP p = l.countP q + l.countP r
  | [] => rfl
  | a :: l => by
    have ih := countP_split p q r h hd l
    have h1 := h a
    have h2 := hd a
    rw [List.countP_cons, List.countP_cons, List.countP_cons, ih, h1]
    cases hq : q a <;> cases hr : r a <;> simp [hq, hr] at h2 ⊢ <;> omega
theorem countP_zero {α : Type} {p : α → Bool} {l : List α} (h : ∀ a ∈ l, p a = false) : l.countP p = 0 := by
  rw [List.countP_eq_zero]
  intro a ha
  rw [h a ha]
  simp
theorem countP_one {α : Type} {p : α → Bool} {R : α → α → Prop} (hR : ∀ a b, p a = true → p b = true → ¬ R a b) : ∀ {l : List α}, l.Pairwise R → (∃ a ∈ l, p a = true) → l.countP p = 1
  | [], _, ⟨a, ha, _⟩ => by cases ha
  | a :: l, hp, h => by
    rw [List.pairwise_cons] at hp
    rw [List.countP_cons]
    by_cases ha : p a = true
    · have : l.countP p = 0 := countP_zero fun b hb => by
        cases hb2 : p b with
        | false => rfl
        | true => exact absurd (hp.1 b hb) (hR a b ha hb2)
      rw [this, if_pos ha]
    · obtain ⟨b, hb, hpb⟩ := h
      rcases List.mem_cons.1 hb with rfl | hb
      · exact absurd hpb ha
      · rw [countP_one hR hp.2 ⟨b, hb, hpb⟩, if_neg ha]
theorem filter_one' {α : Type} {p : α → Bool} {R : α → α → Prop} (hR : ∀ a, ¬ R a a) : ∀ {l : List α}, l.Pairwise R → ∀ {a : α}, a ∈ l → p a = true → (∀ b ∈ l, p b = true → b = a) → l.filter p = [a]
  | [], _, a, ha, _, _ => by cases ha
  | b :: l, hp, a, ha, hpa, h => by
    rw [List.pairwise_cons] at hp
    rcases List.mem_cons.1 ha with rfl | ha'
    · rw [List.filter_cons_of_pos hpa]
      have : l.filter p = [] := by
        rw [List.filter_eq_nil_iff]
        intro c hc hpc
        have := h c (List.mem_cons.2 (Or.inr hc)) hpc
        subst this
        exact hR _ (hp.1 c hc)
      rw [this]
    · have hb : p b = false := by
        cases hb : p b with
        | false => rfl
        | true =>
          have := h b (List.mem_cons.2 (Or.inl rfl)) hb
          subst this
          exact absurd (hp.1 b ha') (hR b)
      rw [List.filter_cons_of_neg (by rw [hb]; simp)]
      exact filter_one' hR hp.2 ha' hpa (fun c hc hpc => h c (List.mem_cons.2 (Or.inr hc)) hpc)
def blsF (C : List Cp.Rw) (P : List Int) (i : Nat) : Option Bl := match C[i]?, P[i]? with
  | some q, some p => if q.lv = true then some ((q.sl, q.gn), (q.c.env, p)) else none
  | _, _ => none
def bls (C : List Cp.Rw) (P : List Int) : Ls := (List.range C.length).filterMap (blsF C P)
theorem mem_bls {C : List Cp.Rw} {P : List Int} {b : Bl} : b ∈ bls C P ↔ ∃ (i : Nat) (q : Cp.Rw) (p : Int), C[i]? = some q ∧ P[i]? = some p ∧ q.lv = true ∧ b = ((q.sl, q.gn), (q.c.env, p)) := by
  unfold bls
  rw [List.mem_filterMap]
  constructor
  · rintro ⟨i, hi, h⟩
    unfold blsF at h
    cases hq : C[i]? with
    | none => rw [hq] at h; cases h
    | some q =>
      cases hp : P[i]? with
      | none => rw [hq, hp] at h; cases h
      | some p =>
        rw [hq, hp] at h
        simp only at h
        by_cases hl : q.lv = true
        · rw [if_pos hl] at h
          exact ⟨i, q, p, hq, hp, hl, (Option.some.inj h).symm⟩
        · rw [if_neg hl] at h; cases h
  · rintro ⟨i, q, p, hq, hp, hl, rfl⟩
    refine ⟨i, by rw [List.mem_range]; exact (List.getElem?_eq_some_iff.1 hq).1, ?_⟩
    unfold blsF
    rw [hq, hp]
    simp [hl]
theorem fm_congr' {α β : Type} {f g : α → Option β} : ∀ {l : List α}, (∀ a ∈ l, f a = g a) → l.filterMap f = l.filterMap g
  | [], _ => rfl
  | a :: l, h => by
    rw [List.filterMap_cons, List.filterMap_cons, h a (by simp), fm_congr' (l := l) (fun b hb => h b (by simp [hb]))]
theorem bls_snoc {C : List Cp.Rw} {P : List Int} (hpl : P.length = C.length) (q : Cp.Rw) (p : Int) (hl : q.lv = true) : bls (C ++ [q]) (P ++ [p]) = bls C P ++ [((q.sl, q.gn), (q.c.env, p))] := by
  unfold bls
  rw [List.length_append, show [q].length = 1 from rfl, List.range_succ, List.filterMap_append]
  have h1 : (List.range C.length).filterMap (blsF (C ++ [q]) (P ++ [p])) = (List.range C.length).filterMap (blsF C P) := fm_congr' fun i hi => by
    rw [List.mem_range] at hi
    unfold blsF
    rw [List.getElem?_append_left hi, List.getElem?_append_left (by omega)]
  have h2 : blsF (C ++ [q]) (P ++ [p]) C.length = some ((q.sl, q.gn), (q.c.env, p)) := by
    unfold blsF
    rw [List.getElem?_append_right (Nat.le_refl _), List.getElem?_append_right (by omega), hpl]
    simp [hl]
  rw [h1]
  simp [h2]
theorem bls_len (C : List Cp.Rw) (P : List Int) : (bls C P).length ≤ C.length := by
  unfold bls
  have := List.length_filterMap_le (blsF C P) (List.range C.length)
  simpa using this
theorem cnt_fm {f : Nat → Option Bl} {g : Nat → Bool} {env : Int} (h : ∀ i, (match f i with | some b => decide (b.2.2 = env) | none => false) = g i) : ∀ n, cnt ((List.range n).filterMap f) env = Cp.cnt n g
  | 0 => rfl
  | n + 1 => by
    rw [Cp.cnt_succ, ← cnt_fm h n, List.range_succ, List.filterMap_append]
    unfold cnt
    rw [List.countP_append]
    have := h n
    cases hf : f n with
    | none => rw [hf] at this; simp [hf, ← this]
    | some b => rw [hf] at this; simp only at this; rw [← this]; simp [hf, List.countP_cons]
theorem cnt_bls {C : List Cp.Rw} {P : List Int} (hpl : P.length = C.length) (env : Int) : cnt (bls C P) env = pdN C P env := by
  unfold bls pdN
  rw [hpl]
  refine cnt_fm (fun i => ?_) _
  unfold blsF pdB
  cases hq : C[i]? with
  | none => cases hp : P[i]? <;> rfl
  | some q =>
    cases hp : P[i]? with
    | none => rfl
    | some p =>
      simp only
      cases hl : q.lv with
      | true => simp
      | false => simp
def crN (Rs : List Rt) (env k : Int) : Nat := Rs.countP fun r => decide (r.env = env) && decide (r.kind = k)
structure Inv (t : Qt.T) (s : Qt.St) (T : List Cp.Pl) (L : Ls) (R : Nat → List Hn) (C : List Cp.Rw) (Rs : List Rt) (P : List Int) : Prop where
  cr : Cp.Rel T C
  pl : P.length = C.length
  bl : L = bls C P
  rl : ∀ k : Nat, k < 3 → ((R k).length : Int) = t.g ((k : Int) + 1)
  rr : ∀ r ∈ Rs, ∃ (k n i : Nat) (q : Cp.Rw), k < 3 ∧ r.kind = (k : Int) + 1 ∧ r.num = (n : Int) ∧ r.cap = (i : Int) ∧ C[i]? = some q ∧ q.lv = true ∧ q.c = ⟨r.env, r.kind, r.num, 3⟩ ∧ q.fr = -1 ∧ (R k)[n]? = some (q.sl, q.gn)
  rz : ∀ (k n : Nat) (h : Hn), k < 3 → (R k)[n]? = some h → h ≠ (0, 0) → ∃ r ∈ Rs, r.kind = (k : Int) + 1 ∧ r.num = (n : Int)
  rd : Rs.Pairwise fun a b => ¬ (a.kind = b.kind ∧ a.num = b.num)
  rt : ∀ (i : Nat) q, C[i]? = some q → q.lv = true → q.fr = -1 → ∃ r ∈ Rs, r.cap = (i : Int)
  hs : ∀ (env : Int) x (k : Int), Qt.at_ s env = some x → 1 ≤ k → k ≤ 3 → x.h.g k = (crN Rs env k : Nat)
  op : ∀ r ∈ Rs, ∃ x, Qt.at_ s r.env = some x
  oc : ∀ (i : Nat) q, C[i]? = some q → q.lv = true → ∃ x, Qt.at_ s q.c.env = some x
section
variable {t : Qt.T} {s s' : Qt.St} {T T' : List Cp.Pl} {L : Ls} {R : Nat → List Hn} {C C' : List Cp.Rw} {Rs : List Rt} {P : List Int}
theorem gn_pos (h : Cp.Rel T C) {i : Nat} {q : Cp.Rw} (hq : C[i]? = some q) (hl : q.lv = true) : 1 ≤ q.gn := by
  obtain ⟨sl, hs1, hs2⟩ := h.sl i q hq
  obtain ⟨p, hp⟩ := h.get hs1
  obtain ⟨_, e2, _⟩ := h.tk i q sl p hq hl hs2 hp
  rw [← e2, h.gen sl p hp]
  have : 0 < Cp.cnS C (sl : Nat) := by
    unfold Cp.cnS
    exact List.length_pos_of_mem (List.mem_filter.2 ⟨List.mem_of_getElem? hq, by simpa using hs2⟩)
  omega
theorem bls_nd (h : Cp.Rel T C) : ND (bls C P) := by
  unfold ND bls
  have : ∀ n, (((List.range n).filterMap (blsF C P)).map (·.1)).Nodup := by
    intro n
    induction n with
    | zero => exact List.nodup_nil
    | succ n ih =>
      rw [List.range_succ, List.filterMap_append, List.map_append, List.nodup_append]
      refine ⟨ih, ?_, fun a ha b hb => ?_⟩
      · cases hf : blsF C P n <;> simp [hf]
      · rintro rfl
        rw [List.mem_map] at ha hb
        obtain ⟨x, hx, rfl⟩ := ha
        obtain ⟨z, hz, he⟩ := hb
        rw [List.mem_filterMap] at hx hz
        obtain ⟨i, hi, hxi⟩ := hx
        obtain ⟨j, hj, hzj⟩ := hz
        have hjn : j = n := by simpa using hj
        have hin : i < n := by simpa using hi
        have key : ∀ (i : Nat) (x : Bl), blsF C P i = some x → ∃ q, C[i]? = some q ∧ q.lv = true ∧ x.1 = (q.sl, q.gn) := fun i x hx => by
          unfold blsF at hx
          cases hq : C[i]? with
          | none => rw [hq] at hx; cases hx
          | some q =>
            cases hp : P[i]? with
            | none => rw [hq, hp] at hx; cases hx
            | some p =>
              rw [hq, hp] at hx
              simp only at hx
              by_cases hl : q.lv = true
              · rw [if_pos hl] at hx
                have := Option.some.inj hx
                exact ⟨q, rfl, hl, by rw [← this]⟩
              · rw [if_neg hl] at hx; cases hx
        obtain ⟨p, hp, hpl, hpe⟩ := key i x hxi
        obtain ⟨q, hq, hql, hqe⟩ := key j z hzj
        have hsl : p.sl = q.sl := by
          have : (q.sl, q.gn) = (p.sl, p.gn) := by rw [← hqe, ← hpe, he]
          exact (congrArg Prod.fst this).symm
        have := h.one i j p q hp hq hpl hql hsl
        omega
  exact this _
theorem bil_live (h : Cp.Rel T C) (hpl : P.length = C.length) {i : Nat} {q : Cp.Rw} (hq : C[i]? = some q) (hl : q.lv = true) : ∃ p, P[i]? = some p ∧ bil (bls C P) (q.sl, q.gn) = some (q.c.env, p) := by
  obtain ⟨p, hp⟩ : ∃ p, P[i]? = some p := ⟨_, List.getElem?_eq_getElem (by rw [hpl]; exact (List.getElem?_eq_some_iff.1 hq).1)⟩
  exact ⟨p, hp, bil_some (p := ((q.sl, q.gn), (q.c.env, p))) (bls_nd h) (mem_bls.2 ⟨i, q, p, hq, hp, hl, rfl⟩)⟩
theorem bil_of {h : Hn} {e : Hn} (hb : bil (bls C P) h = some e) : ∃ (i : Nat) (q : Cp.Rw) (p : Int), C[i]? = some q ∧ P[i]? = some p ∧ q.lv = true ∧ h = (q.sl, q.gn) ∧ e = (q.c.env, p) := by
  obtain ⟨i, q, p, h1, h2, h3, h4⟩ := mem_bls.1 (mem_of_bil hb)
  exact ⟨i, q, p, h1, h2, h3, congrArg Prod.fst h4, congrArg Prod.snd h4⟩
theorem bil_zero (h : Cp.Rel T C) : bil (bls C P) (0, 0) = none := by
  cases hb : bil (bls C P) (0, 0) with
  | none => rfl
  | some e =>
    obtain ⟨i, q, p, h1, _, h3, h4, _⟩ := bil_of hb
    have := gn_pos h h1 h3
    have h5 : (0 : Int) = q.gn := congrArg Prod.snd h4
    omega
theorem offs_get' {K : Nat → Bool} {i : Nat} {q : Cp.Rw} (h : (Cp.offs K C)[i]? = some q) : ∃ p, C[i]? = some p ∧ q.c = p.c ∧ q.sl = p.sl ∧ q.gn = p.gn ∧ q.fr = p.fr ∧ (q.lv = true → p.lv = true ∧ K i = false ∧ q = p) := by
  rw [Cp.offs_get] at h
  cases hp : C[i]? with
  | none => rw [hp] at h; cases h
  | some p =>
    rw [hp] at h
    simp only [Option.map_some, Option.some.injEq] at h
    cases hk : K i with
    | true => rw [hk, if_pos rfl] at h; subst h; exact ⟨p, rfl, rfl, rfl, rfl, rfl, fun h' => by cases h'⟩
    | false => rw [hk, if_neg (by simp)] at h; subst h; exact ⟨p, rfl, rfl, rfl, rfl, rfl, fun h' => ⟨h', rfl, rfl⟩⟩
theorem offs_live {K : Nat → Bool} {i : Nat} {q : Cp.Rw} (h : C[i]? = some q) (hk : K i = false) : (Cp.offs K C)[i]? = some q := by
  rw [Cp.offs_get, h]
  simp [hk]
theorem offs_dead {K : Nat → Bool} {i : Nat} {q : Cp.Rw} (h : C[i]? = some q) (hk : K i = true) : ∃ p, (Cp.offs K C)[i]? = some p ∧ p.lv = false := ⟨Cp.offR q, by rw [Cp.offs_get, h]; simp [hk], rfl⟩
theorem str_bls {K : Nat → Bool} (h : Cp.Rel T C) (h' : Cp.Rel T' (Cp.offs K C)) (hpl : P.length = C.length) : strL T' (bls C P) = bls (Cp.offs K C) P := by
  unfold strL bls
  rw [Cp.offs_len, List.filter_filterMap]
  refine fm_congr' fun i _ => ?_
  unfold blsF
  cases hq : C[i]? with
  | none =>
    have : (Cp.offs K C)[i]? = none := by rw [Cp.offs_get, hq]; rfl
    rw [this]
    rfl
  | some q =>
    obtain ⟨p, hp⟩ : ∃ p, P[i]? = some p := ⟨_, List.getElem?_eq_getElem (by rw [hpl]; exact (List.getElem?_eq_some_iff.1 hq).1)⟩
    rw [hp]
    cases hl : q.lv with
    | false =>
      cases hk : K i with
      | false => rw [offs_live hq hk]; simp [hl]
      | true =>
        obtain ⟨z, hz, hzl⟩ := offs_dead hq hk
        rw [hz]
        simp [hl, hzl]
    | true =>
      cases hk : K i with
      | false =>
        have hz := offs_live hq hk
        rw [hz]
        simp only [hl, if_true, Option.filter_some]
        have ha : alv T' ((q.sl, q.gn), (q.c.env, p)) = true := by
          unfold alv
          rcases h'.look q.c.env q.sl q.gn with ⟨_, h2⟩ | ⟨k, z, sl, h1, _⟩
          · exfalso
            have hat := h'.atLive hz hl
            unfold Cp.fdI at h2
            rw [hat, if_neg (by omega), Int.toNat_natCast, hz] at h2
            simp at h2
          · rw [h1]; rfl
        rw [ha]
        simp
      | true =>
        obtain ⟨z, hz, hzl⟩ := offs_dead hq hk
        rw [hz]
        simp only [hl, if_true, Option.filter_some, hzl]
        have ha : alv T' ((q.sl, q.gn), (q.c.env, p)) = false := by
          unfold alv
          rcases h'.look q.c.env q.sl q.gn with ⟨h1, _⟩ | ⟨k, u, sl, _, _, h3, h4, _, _, h7, _, _⟩
          · rw [h1]; rfl
          · exfalso
            obtain ⟨u0, hu0, _, hsl, _, _, hliv⟩ := offs_get' h3
            obtain ⟨hu1, hu2, _⟩ := hliv h4
            have := h.one k i u0 q hu0 hq hu1 hl (by rw [← hsl]; exact h7)
            rw [this, hk] at hu2
            cases hu2
        rw [ha]
        simp
theorem alvR_of {r : Rt} {i : Nat} {q : Cp.Rw} (hc : r.cap = (i : Int)) (hq : C[i]? = some q) : alvR C r = q.lv := by unfold alvR; rw [hc, Int.toNat_natCast, hq]
theorem mix_get {R : Nat → List Hn} {L : Ls} {k n : Nat} (hk : k < 3) : (mixR R L 3 k)[n]? = ((R k)[n]?).map (strR L) := by
  unfold mixR
  rw [if_pos hk, List.getElem?_map]
theorem Inv.off (h : Inv t s T L R C Rs P) {K : Nat → Bool} (h' : Cp.Rel T' (Cp.offs K C)) (hhs : ∀ (env : Int) x (k : Int), Qt.at_ s' env = some x → 1 ≤ k → k ≤ 3 → x.h.g k = (crN (Rs.filter (alvR (Cp.offs K C))) env k : Nat)) (hop : ∀ r ∈ Rs, alvR (Cp.offs K C) r = true → ∃ x, Qt.at_ s' r.env = some x) (hoc : ∀ (i : Nat) q, C[i]? = some q → q.lv = true → K i = false → ∃ x, Qt.at_ s' q.c.env = some x) :
    Inv t s' T' (strL T' L) (mixR R (strL T' L) 3) (Cp.offs K C) (Rs.filter (alvR (Cp.offs K C))) P := by
  have hbl : strL T' L = bls (Cp.offs K C) P := by rw [h.bl]; exact str_bls h.cr h' h.pl
  rw [hbl]
  refine ⟨h', by rw [Cp.offs_len]; exact h.pl, rfl, fun k hk => by rw [mixR_len]; exact h.rl k hk, fun r hr => ?_, fun k n u hk hu hu0 => ?_, h.rd.filter _, fun i q hq hl hf => ?_, hhs, fun r hr => ?_, fun i q hq hl => ?_⟩
  · obtain ⟨hr, ha⟩ := List.mem_filter.1 hr
    obtain ⟨k, n, i, q, hk, h1, h2, h3, h4, h5, h6, h7, h8⟩ := h.rr r hr
    have hKi : K i = false := by
      cases hKi : K i with
      | false => rfl
      | true =>
        obtain ⟨z, hz, hzl⟩ := offs_dead h4 hKi
        rw [alvR_of h3 hz, hzl] at ha
        cases ha
    have hz := offs_live h4 hKi
    refine ⟨k, n, i, q, hk, h1, h2, h3, hz, h5, h6, h7, ?_⟩
    rw [mix_get hk, h8]
    obtain ⟨p, _, hb⟩ := bil_live h' (by rw [Cp.offs_len]; exact h.pl) hz h5
    simp [strR, hb]
  · rw [mix_get hk] at hu
    cases hv : (R k)[n]? with
    | none => rw [hv] at hu; cases hu
    | some v =>
      rw [hv] at hu
      simp only [Option.map_some, Option.some.injEq] at hu
      unfold strR at hu
      cases hb : bil (bls (Cp.offs K C) P) v with
      | none => rw [hb] at hu; simp at hu; exact absurd hu.symm hu0
      | some e =>
        rw [hb] at hu
        simp at hu
        subst hu
        obtain ⟨r, hr, hk1, hn1⟩ := h.rz k n v hk hv hu0
        obtain ⟨k', n', i', q', hk', e1, e2, e3, e4, e5, e6, e7, e8⟩ := h.rr r hr
        have hkk : k' = k := by omega
        have hnn : n' = n := by omega
        subst hkk hnn
        rw [hv] at e8
        have hve := Option.some.inj e8
        obtain ⟨i, q, p, a1, a2, a3, a4, a5⟩ := bil_of hb
        obtain ⟨q0, b1, _, b3, b4, _, b6⟩ := offs_get' a1
        obtain ⟨c1, c2, c3⟩ := b6 a3
        have hsl : q0.sl = q'.sl := by
          have := a4.symm.trans hve
          have := congrArg Prod.fst this
          simp at this
          rw [← b3]
          exact this
        have hii := h.cr.one i i' q0 q' b1 e4 c1 e5 hsl
        subst hii
        exact ⟨r, List.mem_filter.2 ⟨hr, by rw [alvR_of e3 a1]; exact a3⟩, hk1, hn1⟩
  · obtain ⟨p, hp, _, _, _, hfr, hliv⟩ := offs_get' hq
    obtain ⟨hpl, hKi, _⟩ := hliv hl
    obtain ⟨r, hr, hc⟩ := h.rt i p hp hpl (by rw [← hfr]; exact hf)
    exact ⟨r, List.mem_filter.2 ⟨hr, by rw [alvR_of hc hq]; exact hl⟩, hc⟩
  · obtain ⟨hr, ha⟩ := List.mem_filter.1 hr
    exact hop r hr ha
  · obtain ⟨p, hp, hc, _, _, _, hliv⟩ := offs_get' hq
    obtain ⟨hpl, hKi, _⟩ := hliv hl
    rw [hc]
    exact hoc i p hp hpl hKi
end
end Go.Proofs.Ytnknhencobhjdaa
namespace Go.Proofs.Ytnknhencobhjdaa
open Go.Proofs.Ytnknhencobhjdaa.Cp (zC)
def nzB (h : Hn) : Bool := decide (h ≠ (0, 0))
section
variable {t : Qt.T} {s s' : Qt.St} {T T' : List Cp.Pl} {L : Ls} {R : Nat → List Hn} {C C' : List Cp.Rw} {Rs : List Rt} {P : List Int}
theorem Inv.cnt_lt (h : Inv t s T L R C Rs P) {k : Nat} (hk : k < 3) : ∀ n, n ≤ (R k).length → Rs.countP (fun r => decide (r.kind = (k : Int) + 1) && decide (r.num < (n : Int))) = ((R k).take n).countP nzB
  | 0, _ => by
    rw [List.take_zero, List.countP_nil]
    refine countP_zero fun r hr => ?_
    obtain ⟨_, n, _, _, _, _, h2, _⟩ := h.rr r hr
    simp
    omega
  | n + 1, hn => by
    have ih := Inv.cnt_lt h hk n (by omega)
    obtain ⟨v, hv⟩ : ∃ v, (R k)[n]? = some v := ⟨_, List.getElem?_eq_getElem (by omega)⟩
    rw [countP_split (fun r : Rt => decide (r.kind = (k : Int) + 1) && decide (r.num < ((n + 1 : Nat) : Int))) (fun r => decide (r.kind = (k : Int) + 1) && decide (r.num < (n : Int))) (fun r => decide (r.kind = (k : Int) + 1) && decide (r.num = (n : Int))) (fun r => by
      by_cases e1 : r.kind = (k : Int) + 1
      · by_cases e2 : r.num < (n : Int)
        · simp [e1, e2]
          omega
        · by_cases e3 : r.num = (n : Int)
          · simp [e1, e3]
            omega
          · simp [e1, e2, e3]
            omega
      · simp [e1]) (fun r => by
      by_cases e3 : r.num = (n : Int)
      · have : ¬ r.num < (n : Int) := by omega
        simp [this]
      · simp [e3]), ih, List.take_add_one, hv, List.countP_append]
    congr 1
    by_cases hz : v = (0, 0)
    · rw [countP_zero (fun r hr => ?_)]
      · subst hz; simp [nzB]
      · obtain ⟨k', n', i, q, hk', h1, h2, h3, h4, h5, h6, h7, h8⟩ := h.rr r hr
        by_cases e1 : r.kind = (k : Int) + 1
        · by_cases e2 : r.num = (n : Int)
          · exfalso
            have ek : k' = k := by omega
            have en : n' = n := by omega
            rw [ek, en, hv, hz] at h8
            have := gn_pos h.cr h4 h5
            have h9 := congrArg Prod.snd (Option.some.inj h8)
            simp at h9
            omega
          · simp [e2]
        · simp [e1]
    · obtain ⟨r, hr, e1, e2⟩ := h.rz k n v hk hv hz
      rw [countP_one (R := fun a b : Rt => ¬ (a.kind = b.kind ∧ a.num = b.num)) (fun a b ha hb hn => by
        simp at ha hb
        exact hn ⟨by omega, by omega⟩) h.rd ⟨r, hr, by simp [e1, e2]⟩]
      simp [nzB, hz]
theorem Inv.cnt_all (h : Inv t s T L R C Rs P) {k : Nat} (hk : k < 3) : Rs.countP (fun r => decide (r.kind = (k : Int) + 1)) = (R k).countP nzB := by
  have := h.cnt_lt hk (R k).length (Nat.le_refl _)
  rw [List.take_length] at this
  rw [← this]
  refine List.countP_congr fun r hr => ?_
  obtain ⟨k', n', i, q, hk', h1, h2, h3, h4, h5, h6, h7, h8⟩ := h.rr r hr
  simp
  intro e
  have ek : k' = k := by omega
  rw [ek] at h8
  have := (List.getElem?_eq_some_iff.1 h8).1
  omega
theorem g_zero (k : Int) : (Qt.zT).g k = 0 := by
  unfold Qt.T.g Qt.zT
  split
  · rfl
  · split <;> rfl
theorem Inv.env_cnt (h : Inv t s T L R C Rs P) {k : Int} (h1 : 1 ≤ k) (h3 : k ≤ 3) (e : Nat) (he : e < 3) : (crN Rs ((e : Int) + 1) k : Int) = (Qt.hT (s e)).g k := by
  have hat : Qt.at_ s ((e : Int) + 1) = s e := by
    unfold Qt.at_
    rw [if_pos ⟨by omega, by omega⟩]
    congr 1
    omega
  cases hx : s e with
  | none =>
    rw [hx] at hat
    have : crN Rs ((e : Int) + 1) k = 0 := countP_zero fun r hr => by
      obtain ⟨x, hx⟩ := h.op r hr
      by_cases e1 : r.env = (e : Int) + 1
      · rw [e1, hat] at hx; cases hx
      · simp [e1]
    rw [this]
    show (0 : Int) = (Qt.zT).g k
    rw [g_zero]
  | some x =>
    rw [hx] at hat
    exact (h.hs _ x k hat h1 h3).symm
theorem Inv.sum (h : Inv t s T L R C Rs P) {k : Int} (h1 : 1 ≤ k) (h3 : k ≤ 3) : (Rs.countP (fun r => decide (r.kind = k)) : Int) = (Qt.hT (s 0)).g k + (Qt.hT (s 1)).g k + (Qt.hT (s 2)).g k := by
  rw [← h.env_cnt h1 h3 0 (by omega), ← h.env_cnt h1 h3 1 (by omega), ← h.env_cnt h1 h3 2 (by omega)]
  have e1 := countP_split (fun r : Rt => decide (r.kind = k)) (fun r => decide (r.env = 1) && decide (r.kind = k)) (fun r => !decide (r.env = 1) && decide (r.kind = k)) (fun r => by by_cases e : r.env = 1 <;> simp [e]) (fun r => by by_cases e : r.env = 1 <;> simp [e]) Rs
  have e2 := countP_split (fun r : Rt => !decide (r.env = 1) && decide (r.kind = k)) (fun r => decide (r.env = 2) && decide (r.kind = k)) (fun r => (!decide (r.env = 1) && !decide (r.env = 2)) && decide (r.kind = k)) (fun r => by by_cases e : r.env = 2 <;> simp [e]) (fun r => by by_cases e : r.env = 2 <;> simp [e]) Rs
  have e3 : Rs.countP (fun r => (!decide (r.env = 1) && !decide (r.env = 2)) && decide (r.kind = k)) = Rs.countP (fun r => decide (r.env = 3) && decide (r.kind = k)) := List.countP_congr fun r hr => by
    obtain ⟨x, hx⟩ := h.op r hr
    have := Qt.at_some hx
    simp
    intro _
    omega
  rw [e3] at e2
  show (_ : Int) = (crN Rs 1 k : Int) + (crN Rs 2 k : Int) + (crN Rs 3 k : Int)
  unfold crN
  omega
theorem qsum (hw : Qt.Wf t s) {k : Int} : (Qt.qT (s 0)).g k + (Qt.qT (s 1)).g k + (Qt.qT (s 2)).g k ≤ t.g k := by
  have := hw.sa; have := hw.sb; have := hw.sc
  unfold Qt.T.g
  by_cases e1 : k = 1
  · simp only [if_pos e1]; omega
  · simp only [if_neg e1]
    by_cases e2 : k = 2
    · simp only [if_pos e2]; omega
    · simp only [if_neg e2]; omega
theorem tk_some {env kind : Int} (htk : Qt.tkE (Qt.at_ s env) kind 1 = 0) : ∃ x, Qt.at_ s env = some x ∧ 1 ≤ kind ∧ kind ≤ 3 ∧ 1 ≤ x.q.g kind - x.h.g kind := by
  rcases tk_cases htk with ⟨_, h2⟩ | ⟨x, h1, h2⟩
  · cases h2
  · rcases h2 with ⟨_, h2⟩ | ⟨_, h2⟩ | ⟨_, _, _, h2⟩ | ⟨h3, h4, h5, _⟩
    · cases h2
    · cases h2
    · cases h2
    · exact ⟨x, h1, h3, h4, h5⟩
theorem Inv.room (h : Inv t s T L R C Rs P) (hw : Qt.Wf t s) {env kind : Int} (htk : Qt.tkE (Qt.at_ s env) kind 1 = 0) {k : Nat} (hk : k < 3) (hkind : kind = (k : Int) + 1) : ∃ nn : Nat, (R k)[nn]? = some (0, 0) ∧ ∀ j, j < nn → (R k)[j]? ≠ some (0, 0) := by
  obtain ⟨x, hx, h1, h3, hq⟩ := tk_some htk
  obtain ⟨g1, g2, hxs⟩ := Qt.at_some hx
  have hlt : (R k).countP nzB < (R k).length := by
    have hc := h.cnt_all hk
    have hsum := h.sum h1 h3
    rw [hkind, hc] at hsum
    have hl := h.rl k hk
    have hqs := qsum (k := (k : Int) + 1) hw
    have l0 := g_le (hw.le 0) ((k : Int) + 1)
    have l1 := g_le (hw.le 1) ((k : Int) + 1)
    have l2 := g_le (hw.le 2) ((k : Int) + 1)
    have hcase : (env - 1).toNat = 0 ∨ (env - 1).toNat = 1 ∨ (env - 1).toNat = 2 := by omega
    have hxl : (Qt.hT (s (env - 1).toNat)).g kind < (Qt.qT (s (env - 1).toNat)).g kind := by
      rw [hxs]
      show x.h.g kind < x.q.g kind
      omega
    rw [hkind] at hxl
    rcases hcase with e | e | e
    · rw [e] at hxl; omega
    · rw [e] at hxl; omega
    · rw [e] at hxl; omega
  cases hf : (R k).findIdx? (fun h => decide (h = (0, 0))) with
  | none =>
    exfalso
    have hall : ∀ a ∈ R k, nzB a = true := fun a ha => by
      have := List.findIdx?_eq_none_iff.1 hf a ha
      simpa [nzB] using this
    have := List.countP_eq_length.2 hall
    omega
  | some n =>
    obtain ⟨hn, he, hb⟩ := List.findIdx?_eq_some_iff_getElem.1 hf
    refine ⟨n, by rw [List.getElem?_eq_getElem hn]; simpa using he, fun j hj e => ?_⟩
    obtain ⟨hj', e'⟩ := List.getElem?_eq_some_iff.1 e
    have := hb j hj
    simp [e'] at this
theorem Inv.find (h : Inv t s T L R C Rs P) {k : Nat} (hk : k < 3) {nn : Nat} (h0 : (R k)[nn]? = some (0, 0)) (hno : ∀ j, j < nn → (R k)[j]? ≠ some (0, 0)) : fnI Rs ((k : Int) + 1) (nn : Nat) = -1 ∧ ∀ j : Nat, j < nn → ∃ i : Nat, fnI Rs ((k : Int) + 1) (j : Nat) = i := by
  constructor
  · rcases fnI_cases Rs ((k : Int) + 1) (nn : Nat) with ⟨e, _⟩ | ⟨i, r, _, hr, e1, e2⟩
    · exact e
    · exfalso
      obtain ⟨k', n', i, q, hk', h1, h2, h3, h4, h5, h6, h7, h8⟩ := h.rr r (List.mem_of_getElem? hr)
      have ek : k' = k := by omega
      have en : n' = nn := by omega
      rw [ek, en, h0] at h8
      have := gn_pos h.cr h4 h5
      have h9 := congrArg Prod.snd (Option.some.inj h8)
      simp at h9
      omega
  · intro j hj
    have hjl : j < (R k).length := by have := (List.getElem?_eq_some_iff.1 h0).1; omega
    have hv := List.getElem?_eq_getElem hjl
    obtain ⟨r, hr, e1, e2⟩ := h.rz k j _ hk hv (fun e => hno j hj (by rw [hv, e]))
    rcases fnI_cases Rs ((k : Int) + 1) (j : Nat) with ⟨_, e⟩ | ⟨i, _, e, _⟩
    · exact absurd ⟨e1, e2⟩ (e r hr)
    · exact ⟨i, e⟩
theorem put_g (h : Qt.T) (kind k v : Int) (h1 : 1 ≤ kind) (h3 : kind ≤ 3) (k1 : 1 ≤ k) (k3 : k ≤ 3) : (h.put kind v).g k = if k = kind then v else h.g k := by
  obtain rfl | rfl | rfl : kind = 1 ∨ kind = 2 ∨ kind = 3 := by omega
  all_goals
    obtain rfl | rfl | rfl : k = 1 ∨ k = 2 ∨ k = 3 := by omega
    all_goals simp [Qt.T.put, Qt.T.g]
theorem at_tk {env kind : Int} (htk : Qt.tkE (Qt.at_ s env) kind 1 = 0) (x : Qt.Pge) (hx : Qt.at_ s env = some x) (e : Int) : Qt.at_ (Qt.tkS s env kind 1) e = if e = env then some ⟨x.p, x.q, x.h.put kind (x.h.g kind + 1)⟩ else Qt.at_ s e := by
  obtain ⟨x', hx', h1, h3, hq⟩ := tk_some htk
  rw [hx] at hx'
  cases hx'
  unfold Qt.tkS
  rw [hx]
  simp only
  rw [if_neg (by rintro (h | h); unfold Qt.wrongB at h; simp at h; omega; omega)]
  obtain ⟨g1, g2, _⟩ := Qt.at_some hx
  exact Qt.at_upd g1 g2 _ e
theorem crN_snoc (Rs : List Rt) (r : Rt) (env k : Int) : crN (Rs ++ [r]) env k = crN Rs env k + if r.env = env ∧ r.kind = k then 1 else 0 := by
  unfold crN
  rw [List.countP_append]
  congr 1
  by_cases e : r.env = env ∧ r.kind = k
  · simp [e]
  · rw [if_neg e]
    have : (decide (r.env = env) && decide (r.kind = k)) = false := by
      cases h1 : decide (r.env = env) <;> cases h2 : decide (r.kind = k) <;> simp at h1 h2 ⊢
      exact e ⟨h1, h2⟩
    simp [this]
theorem Inv.bind (h : Inv t s T L R C Rs P) {env kind : Int} (htk : Qt.tkE (Qt.at_ s env) kind 1 = 0) {k : Nat} (hk : k < 3) (hkind : kind = (k : Int) + 1) {nn : Nat} (h0 : (R k)[nn]? = some (0, 0)) {sl : Nat} {p : Cp.Pl} (hsl : sl < 128) (hp : T[sl]? = some p) (hz : p.c = zC) (hc : Cp.rightB ⟨env, kind, (nn : Nat), 3⟩ = true) :
    Inv t (Qt.tkS s env kind 1) (T.set sl ⟨⟨env, kind, (nn : Nat), 3⟩, -1, p.gen + 1⟩) (L ++ [(((sl : Int), p.gen + 1), (env, env))]) (rset R k nn ((sl : Int), p.gen + 1)) (C ++ [⟨⟨env, kind, (nn : Nat), 3⟩, (sl : Nat), p.gen + 1, -1, true⟩]) (Rs ++ [⟨kind, (nn : Nat), env, (C.length : Nat)⟩]) (P ++ [env]) := by
  obtain ⟨x, hx, h1, h3, hq⟩ := tk_some htk
  have hput := h.cr.put hsl hp hz hc (fr := -1) (Or.inl rfl)
  rw [← h.cr.gen sl p hp] at hput
  have hnl : nn < (R k).length := (List.getElem?_eq_some_iff.1 h0).1
  have hgp : 0 ≤ p.gen := by rw [h.cr.gen sl p hp]; omega
  have hrs : ∀ (k' n' : Nat), (rset R k nn ((sl : Int), p.gen + 1) k')[n']? = if k' = k ∧ n' = nn then some ((sl : Int), p.gen + 1) else (R k')[n']? := fun k' n' => by
    unfold rset
    by_cases e : k' = k
    · subst e
      rw [if_pos rfl]
      by_cases e2 : n' = nn
      · subst e2; rw [List.getElem?_set_self hnl, if_pos ⟨rfl, rfl⟩]
      · rw [List.getElem?_set_ne (fun e' => e2 e'.symm), if_neg (fun e' => e2 e'.2)]
    · rw [if_neg e, if_neg (fun e' => e e'.1)]
  have hnew : ∀ r ∈ Rs, ¬ (r.kind = kind ∧ r.num = (nn : Int)) := fun r hr e => by
    obtain ⟨k', n', i, q, hk', e1, e2, e3, e4, e5, e6, e7, e8⟩ := h.rr r hr
    have ek : k' = k := by omega
    have en : n' = nn := by omega
    rw [ek, en, h0] at e8
    have := gn_pos h.cr e4 e5
    have h9 := congrArg Prod.snd (Option.some.inj e8)
    simp at h9
    omega
  refine ⟨hput, by rw [List.length_append, List.length_append, h.pl]; rfl, by rw [h.bl, bls_snoc h.pl _ _ rfl], fun k' hk' => by rw [rset_len]; exact h.rl k' hk', fun r hr => ?_, fun k' n' u hk' hu hu0 => ?_, ?_, fun i q hq hl hf => ?_, fun e x' k' hx' k1 k3 => ?_, fun r hr => ?_, fun i q hq hl => ?_⟩
  · rcases List.mem_append.1 hr with hr | hr
    · obtain ⟨k', n', i, q, hk', e1, e2, e3, e4, e5, e6, e7, e8⟩ := h.rr r hr
      refine ⟨k', n', i, q, hk', e1, e2, e3, by rw [List.getElem?_append_left (List.getElem?_eq_some_iff.1 e4).1]; exact e4, e5, e6, e7, ?_⟩
      rw [hrs, if_neg (fun e => hnew r hr ⟨by omega, by omega⟩)]
      exact e8
    · simp at hr
      subst hr
      refine ⟨k, nn, C.length, ⟨⟨env, kind, (nn : Nat), 3⟩, (sl : Nat), p.gen + 1, -1, true⟩, hk, hkind, rfl, rfl, by rw [List.getElem?_append_right (Nat.le_refl _)]; simp, rfl, rfl, rfl, ?_⟩
      rw [hrs, if_pos ⟨rfl, rfl⟩]
  · rw [hrs] at hu
    by_cases e : k' = k ∧ n' = nn
    · exact ⟨_, List.mem_append.2 (Or.inr (List.mem_singleton.2 rfl)), by rw [e.1]; exact hkind, by rw [e.2]⟩
    · rw [if_neg e] at hu
      obtain ⟨r, hr, e1, e2⟩ := h.rz k' n' u hk' hu hu0
      exact ⟨r, List.mem_append.2 (Or.inl hr), e1, e2⟩
  · rw [List.pairwise_append]
    refine ⟨h.rd, by simp, fun a ha b hb => ?_⟩
    simp at hb
    subst hb
    exact hnew a ha
  · rcases Cp.snoc_get hq with ⟨hq, hi⟩ | ⟨rfl, rfl⟩
    · obtain ⟨r, hr, e⟩ := h.rt i q hq hl hf
      exact ⟨r, List.mem_append.2 (Or.inl hr), e⟩
    · exact ⟨_, List.mem_append.2 (Or.inr (List.mem_singleton.2 rfl)), rfl⟩
  · rw [at_tk htk x hx] at hx'
    rw [crN_snoc]
    by_cases ee : e = env
    · rw [if_pos ee] at hx'
      cases hx'
      simp only
      rw [put_g _ _ _ _ h1 h3 k1 k3, ee]
      have hh := h.hs env x k' hx k1 k3
      by_cases ek : k' = kind
      · rw [if_pos ek, if_pos ⟨rfl, ek.symm⟩]
        rw [ek] at hh ⊢
        omega
      · rw [if_neg ek, if_neg (fun e' => ek e'.2.symm)]
        omega
    · rw [if_neg ee] at hx'
      rw [if_neg (fun e' => ee e'.1.symm)]
      exact h.hs e x' k' hx' k1 k3
  · rcases List.mem_append.1 hr with hr | hr
    · obtain ⟨x', hx'⟩ := h.op r hr
      rw [at_tk htk x hx]
      by_cases ee : r.env = env
      · rw [if_pos ee]; exact ⟨_, rfl⟩
      · rw [if_neg ee]; exact ⟨x', hx'⟩
    · simp at hr
      subst hr
      rw [at_tk htk x hx, if_pos rfl]
      exact ⟨_, rfl⟩
  · rw [at_tk htk x hx]
    rcases Cp.snoc_get hq with ⟨hq, hi⟩ | ⟨rfl, rfl⟩
    · obtain ⟨x', hx'⟩ := h.oc i q hq hl
      by_cases ee : q.c.env = env
      · rw [if_pos ee]; exact ⟨_, rfl⟩
      · rw [if_neg ee]; exact ⟨x', hx'⟩
    · rw [if_pos rfl]; exact ⟨_, rfl⟩
theorem Inv.share (h : Inv t s T L R C Rs P) {k : Nat} {q : Cp.Rw} (hq : C[k]? = some q) (hl : q.lv = true) {sl : Nat} {p : Cp.Pl} (hsl : sl < 128) (hp : T[sl]? = some p) (hz : p.c = zC) {c : Cp.Cp} (hc : Cp.rightB c = true) (env : Int) (hoc : ∃ x, Qt.at_ s c.env = some x) :
    Inv t s (T.set sl ⟨c, q.sl, p.gen + 1⟩) (L ++ [(((sl : Int), p.gen + 1), (c.env, env))]) R (C ++ [⟨c, (sl : Nat), p.gen + 1, (k : Nat), true⟩]) Rs (P ++ [env]) := by
  have hput := h.cr.put hsl hp hz hc (fr := (k : Nat)) (Or.inr ⟨k, q, rfl, hq, hl⟩)
  rw [← h.cr.gen sl p hp] at hput
  have hps : Cp.psl C (k : Nat) = q.sl := by
    unfold Cp.psl
    rw [if_neg (by omega), Int.toNat_natCast, hq]
  rw [hps] at hput
  refine ⟨hput, by rw [List.length_append, List.length_append, h.pl]; rfl, by rw [h.bl, bls_snoc h.pl _ _ rfl], h.rl, fun r hr => ?_, h.rz, h.rd, fun i q' hq' hl' hf => ?_, h.hs, h.op, fun i q' hq' hl' => ?_⟩
  · obtain ⟨k', n', i, q', hk', e1, e2, e3, e4, e5, e6, e7, e8⟩ := h.rr r hr
    exact ⟨k', n', i, q', hk', e1, e2, e3, by rw [List.getElem?_append_left (List.getElem?_eq_some_iff.1 e4).1]; exact e4, e5, e6, e7, e8⟩
  · rcases Cp.snoc_get hq' with ⟨hq', hi⟩ | ⟨rfl, rfl⟩
    · exact h.rt i q' hq' hl' hf
    · exfalso
      simp only at hf
      omega
  · rcases Cp.snoc_get hq' with ⟨hq', hi⟩ | ⟨rfl, rfl⟩
    · exact h.oc i q' hq' hl'
    · exact hoc
theorem Inv.fresh (h : Inv t s T L R C Rs P) {sl : Nat} {p : Cp.Pl} (hp : T[sl]? = some p) (hz : p.c = zC) (g : Int) : ∀ r ∈ L, r.1 ≠ ((sl : Int), g) := fun r hr e => by
  rw [h.bl] at hr
  obtain ⟨i, q, p', h1, _, h3, h4⟩ := mem_bls.1 hr
  rw [h4] at e
  have e1 : q.sl = (sl : Int) := congrArg Prod.fst e
  have := (h.cr.tk i q sl p h1 h3 e1 hp).1
  rw [hz] at this
  exact Cp.right_ne (h.cr.rt i q h1 h3) this.symm
theorem root_bl {i : Nat} {q : Cp.Rw} (hfw : Cp.Fw C) (hq : C[i]? = some q) (hf : q.fr = -1) (top : Nat) : Cp.blR C i (top : Nat) = false := by
  cases hb : Cp.blR C i (top : Nat) with
  | false => rfl
  | true =>
    obtain ⟨k, hk, _⟩ := (Cp.bl_iff hfw hq top).1 hb
    omega
theorem lvA_of {i : Nat} {q : Cp.Rw} (hq : C[i]? = some q) : Cp.lvA C i = q.lv := by unfold Cp.lvA; rw [hq]
theorem crN_filter {p : Rt → Bool} {env k : Int} (h : ∀ r ∈ Rs, r.env = env → p r = true) : crN (Rs.filter p) env k = crN Rs env k := by
  unfold crN
  rw [List.countP_filter]
  refine List.countP_congr fun r hr => ?_
  simp
  intro e _
  exact h r hr e
end
end Go.Proofs.Ytnknhencobhjdaa
namespace Go.Proofs.Ytnknhencobhjdaa
open Go.Proofs.Ytnknhencobhjdaa.Cp (zC)
theorem nodup_lt : ∀ (n : Nat) {l : List Nat}, l.Nodup → (∀ x ∈ l, x < n) → l.length ≤ n
  | 0, l, _, h => by
    cases l with
    | nil => simp
    | cons a l => exact absurd (h a (by simp)) (by omega)
  | n + 1, l, hn, h => by
    by_cases hm : n ∈ l
    · have h1 := nodup_lt n (l := l.erase n) (hn.erase n) (fun x hx => by
        have := (hn.mem_erase_iff).1 hx
        have := h x this.2
        omega)
      rw [List.length_erase_of_mem hm] at h1
      have := List.length_pos_of_mem hm
      omega
    · have := nodup_lt n hn (fun x hx => by
        have h1 := h x hx
        have h2 : x ≠ n := fun e => hm (e ▸ hx)
        omega)
      omega
section
variable {t : Qt.T} {s s' : Qt.St} {T T' : List Cp.Pl} {L : Ls} {R : Nat → List Hn} {C C' : List Cp.Rw} {Rs : List Rt} {P : List Int}
theorem at_gv {env kind : Int} {x : Qt.Pge} (hx : Qt.at_ s env = some x) (h1 : 1 ≤ kind) (h3 : kind ≤ 3) (hg : 1 ≤ x.h.g kind) (e : Int) : Qt.at_ (Qt.gvS s env kind 1) e = if e = env then some ⟨x.p, x.q, x.h.put kind (x.h.g kind - 1)⟩ else Qt.at_ s e := by
  unfold Qt.gvS
  rw [hx]
  simp only
  rw [if_neg (by rintro (h | h); unfold Qt.wrongB at h; simp at h; omega; omega)]
  obtain ⟨g1, g2, _⟩ := Qt.at_some hx
  exact Qt.at_upd g1 g2 _ e
theorem Inv.caps (h : Inv t s T L R C Rs P) : ∀ r ∈ Rs, ∃ (i : Nat) (q : Cp.Rw), r.cap = i ∧ C[i]? = some q := fun r hr => by
  obtain ⟨_, _, i, q, _, _, _, h3, h4, _⟩ := h.rr r hr
  exact ⟨i, q, h3, h4⟩
theorem Inv.rs_le (h : Inv t s T L R C Rs P) : Rs.length ≤ C.length := by
  have hinj : (Rs.map fun r => r.cap.toNat).Nodup := by
    rw [List.Nodup, List.pairwise_map]
    refine List.Pairwise.imp_of_mem ?_ h.rd
    intro a b ha hb hne e
    obtain ⟨_, _, i, q, _, _, _, h3, h4, _, h6, _⟩ := h.rr a ha
    obtain ⟨_, _, j, q', _, _, _, g3, g4, _, g6, _⟩ := h.rr b hb
    rw [h3, g3] at e
    simp at e
    subst e
    rw [h4] at g4
    cases g4
    rw [h6] at g6
    simp only [Cp.Cp.mk.injEq] at g6
    exact hne ⟨g6.2.1, g6.2.2.1⟩
  have hsub : ∀ n ∈ Rs.map fun r => r.cap.toNat, n < C.length := fun n hn => by
    obtain ⟨r, hr, rfl⟩ := List.mem_map.1 hn
    obtain ⟨i, q, h3, h4⟩ := h.caps r hr
    rw [h3]
    simpa using (List.getElem?_eq_some_iff.1 h4).1
  have := nodup_lt _ hinj hsub
  simpa using this
theorem Inv.noroot (h : Inv t s T L R C Rs P) {i : Nat} {q : Cp.Rw} (hq : C[i]? = some q) (hl : q.lv = true) {j : Nat} (hf : q.fr = (j : Int)) (k n : Nat) (hk : k < 3) (v : Hn) (hv : (R k)[n]? = some v) : v ≠ (q.sl, q.gn) := fun e => by
  have hgn := gn_pos h.cr hq hl
  obtain ⟨r, hr, e1, e2⟩ := h.rz k n v hk hv (fun e0 => by rw [e0] at e; have := congrArg Prod.snd e; simp at this; omega)
  obtain ⟨k', n', i', q', hk', h1, h2, h3, h4, h5, h6, h7, h8⟩ := h.rr r hr
  have ek : k' = k := by omega
  have en : n' = n := by omega
  rw [ek, en, hv, e] at h8
  have hsl := congrArg Prod.fst (Option.some.inj h8)
  simp at hsl
  have := h.cr.one i i' q q' hq h4 hl h5 hsl
  subst this
  rw [hq] at h4
  cases h4
  omega
theorem Inv.root (h : Inv t s T L R C Rs P) {i : Nat} {q : Cp.Rw} (hq : C[i]? = some q) (hl : q.lv = true) (hf : q.fr = -1) : ∃ r ∈ Rs, r.cap = (i : Int) ∧ ∃ (k n : Nat), k < 3 ∧ q.c.kind = (k : Int) + 1 ∧ q.c.num = (n : Int) ∧ r.kind = q.c.kind ∧ r.num = q.c.num ∧ r.env = q.c.env ∧ (R k)[n]? = some (q.sl, q.gn) := by
  obtain ⟨r, hr, hc⟩ := h.rt i q hq hl hf
  obtain ⟨k, n, i', q', hk, h1, h2, h3, h4, h5, h6, h7, h8⟩ := h.rr r hr
  have : i' = i := by omega
  subst this
  rw [hq] at h4
  cases h4
  exact ⟨r, hr, hc, k, n, hk, by rw [h6]; exact h1, by rw [h6]; exact h2, by rw [h6], by rw [h6], by rw [h6], h8⟩
theorem Inv.rsNe (h : Inv t s T L R C Rs P) {i : Nat} {a b : Rt} (ha : a ∈ Rs) (hb : b ∈ Rs) (ea : a.cap = (i : Int)) (eb : b.cap = (i : Int)) : a.kind = b.kind ∧ a.num = b.num ∧ a.env = b.env := by
  obtain ⟨_, _, i1, q, _, _, _, h3, h4, _, h6, _⟩ := h.rr a ha
  obtain ⟨_, _, j, q', _, _, _, g3, g4, _, g6, _⟩ := h.rr b hb
  have : i1 = j := by omega
  subst this
  rw [h4] at g4
  cases g4
  rw [h6] at g6
  simp only [Cp.Cp.mk.injEq] at g6
  exact ⟨g6.2.1, g6.2.2.1, g6.1⟩
theorem rt_ext {a b : Rt} (h : a.kind = b.kind ∧ a.num = b.num ∧ a.env = b.env) (hc : a.cap = b.cap) : a = b := by
  cases a; cases b
  simp at h hc ⊢
  exact ⟨h.1, h.2.1, h.2.2, hc⟩
theorem Inv.free (h : Inv t s T L R C Rs P) {i : Nat} {q : Cp.Rw} (hq : C[i]? = some q) (hl : q.lv = true) (hf : q.fr = -1) (h' : Cp.Rel T' (Cp.offs (Cp.klB C i true) C)) :
    swS s (Rs.filter fun r => !alvR (Cp.offs (Cp.klB C i true) C) r) = Qt.gvS s q.c.env q.c.kind 1 ∧ Inv t (Qt.gvS s q.c.env q.c.kind 1) T' (strL T' L) (mixR R (strL T' L) 3) (Cp.offs (Cp.klB C i true) C) (Rs.filter (alvR (Cp.offs (Cp.klB C i true) C))) P := by
  obtain ⟨r0, hr0, hc0, k, n, hk, hk1, hn1, e1, e2, e3, hR⟩ := h.root hq hl hf
  have hdead : ∀ r ∈ Rs, (!alvR (Cp.offs (Cp.klB C i true) C) r) = true ↔ r = r0 := fun r hr => by
    obtain ⟨k', n', i', q', hk', g1, g2, g3, g4, g5, g6, g7, g8⟩ := h.rr r hr
    have hkl : Cp.klB C i true i' = decide (i' = i) := by
      unfold Cp.klB
      rw [lvA_of g4, g5, root_bl h.cr.fw g4 g7]
      simp
    constructor
    · intro ha
      by_cases e : i' = i
      · rw [e] at g3
        exact rt_ext (h.rsNe hr hr0 g3 hc0) (by rw [g3, hc0])
      · have hz := offs_live g4 (K := Cp.klB C i true) (by rw [hkl]; simp [e])
        rw [alvR_of g3 hz, g5] at ha
        cases ha
    · intro e
      have hi : i' = i := by rw [e, hc0] at g3; omega
      obtain ⟨z, hz, hzl⟩ := offs_dead g4 (K := Cp.klB C i true) (by rw [hkl]; simp [hi])
      rw [alvR_of g3 hz, hzl]
      rfl
  have hfl : (Rs.filter fun r => !alvR (Cp.offs (Cp.klB C i true) C) r) = [r0] := filter_one' (R := fun a b : Rt => ¬ (a.kind = b.kind ∧ a.num = b.num)) (fun a ha => ha ⟨rfl, rfl⟩) h.rd hr0 ((hdead r0 hr0).2 rfl) (fun b hb hpb => (hdead b hb).1 hpb)
  have hkind1 : 1 ≤ q.c.kind := by omega
  have hkind3 : q.c.kind ≤ 3 := by omega
  obtain ⟨x, hx⟩ := h.op r0 hr0
  rw [e3] at hx
  have hcr := h.hs _ x q.c.kind hx hkind1 hkind3
  have hpos : 1 ≤ crN Rs q.c.env q.c.kind := by
    unfold crN
    exact List.countP_pos_iff.2 ⟨r0, hr0, by simp [e1, e3]⟩
  have hg : 1 ≤ x.h.g q.c.kind := by omega
  refine ⟨by rw [hfl]; show Qt.gvS s r0.env r0.kind 1 = _; rw [e1, e3], h.off h' (fun e x' k' hx' k1 k3 => ?_) (fun r hr _ => ?_) (fun j q' hq' hl' _ => ?_)⟩
  · rw [at_gv hx hkind1 hkind3 hg] at hx'
    have hcf : crN Rs e k' = crN (Rs.filter (alvR (Cp.offs (Cp.klB C i true) C))) e k' + (if e = q.c.env ∧ k' = q.c.kind then 1 else 0) := by
      have hsp : ∀ l : List Rt, crN l e k' = crN (l.filter (alvR (Cp.offs (Cp.klB C i true) C))) e k' + crN (l.filter fun r => !alvR (Cp.offs (Cp.klB C i true) C) r) e k' := fun l => by
        unfold crN
        rw [List.countP_filter, List.countP_filter]
        refine countP_split _ _ _ (fun a => ?_) (fun a => ?_) l
        · cases alvR (Cp.offs (Cp.klB C i true) C) a <;> simp
        · cases alvR (Cp.offs (Cp.klB C i true) C) a <;> simp
      rw [hsp Rs, hfl]
      congr 1
      unfold crN
      by_cases ee : e = q.c.env ∧ k' = q.c.kind
      · rw [if_pos ee]; simp [e1, e3, ee]
      · rw [if_neg ee]
        have : (decide (r0.env = e) && decide (r0.kind = k')) = false := by
          cases h1 : decide (r0.env = e) <;> cases h2 : decide (r0.kind = k') <;> simp at h1 h2 ⊢
          exact ee ⟨by rw [← h1, e3], by rw [← h2, e1]⟩
        simp [this]
    by_cases ee : e = q.c.env
    · rw [if_pos ee] at hx'
      cases hx'
      simp only
      rw [put_g _ _ _ _ hkind1 hkind3 k1 k3]
      have hh := h.hs _ x k' hx k1 k3
      rw [ee] at hcf ⊢
      by_cases ek : k' = q.c.kind
      · rw [if_pos ek]
        rw [if_pos ⟨rfl, ek⟩] at hcf
        rw [ek] at hh hcf ⊢
        omega
      · rw [if_neg ek]
        rw [if_neg (fun e' => ek e'.2)] at hcf
        omega
    · rw [if_neg ee] at hx'
      have hh := h.hs e x' k' hx' k1 k3
      rw [if_neg (fun e' => ee e'.1)] at hcf
      omega
  · obtain ⟨x', hx'⟩ := h.op r hr
    rw [at_gv hx hkind1 hkind3 hg]
    by_cases ee : r.env = q.c.env
    · rw [if_pos ee]; exact ⟨_, rfl⟩
    · rw [if_neg ee]; exact ⟨x', hx'⟩
  · obtain ⟨x', hx'⟩ := h.oc j q' hq' hl'
    rw [at_gv hx hkind1 hkind3 hg]
    by_cases ee : q'.c.env = q.c.env
    · rw [if_pos ee]; exact ⟨_, rfl⟩
    · rw [if_neg ee]; exact ⟨x', hx'⟩
theorem Inv.revoke (h : Inv t s T L R C Rs P) {K : Nat → Bool} (hK : ∀ (i : Nat) q, C[i]? = some q → q.fr = -1 → K i = false) (h' : Cp.Rel T' (Cp.offs K C)) :
    Inv t s T' (strL T' L) (mixR R (strL T' L) 3) (Cp.offs K C) Rs P := by
  have hfl : Rs.filter (alvR (Cp.offs K C)) = Rs := List.filter_eq_self.2 fun r hr => by
    obtain ⟨k', n', i', q', hk', g1, g2, g3, g4, g5, g6, g7, g8⟩ := h.rr r hr
    rw [alvR_of g3 (offs_live g4 (hK i' q' g4 g7))]
    exact g5
  have := h.off (s' := s) h' (fun e x' k' hx' k1 k3 => by rw [hfl]; exact h.hs e x' k' hx' k1 k3) (fun r hr _ => h.op r hr) (fun i q hq hl _ => h.oc i q hq hl)
  rw [hfl] at this
  exact this
theorem at_cl {env : Int} {x : Qt.Pge} (hx : Qt.at_ s env = some x) (e : Int) : Qt.at_ (Qt.clS s env) e = if e = env then none else Qt.at_ s e := by
  unfold Qt.clS
  rw [hx]
  obtain ⟨g1, g2, _⟩ := Qt.at_some hx
  exact Qt.at_upd g1 g2 _ e
theorem at_gv_some {env kind n e : Int} : (Qt.at_ (Qt.gvS s env kind n) e).isSome = (Qt.at_ s e).isSome := by
  unfold Qt.gvS
  cases hx : Qt.at_ s env with
  | none => rfl
  | some x =>
    simp only
    by_cases hc : Qt.wrongB kind n = true ∨ x.h.g kind < n
    · rw [if_pos hc]
    · rw [if_neg hc]
      obtain ⟨g1, g2, _⟩ := Qt.at_some hx
      rw [Qt.at_upd g1 g2]
      by_cases ee : e = env
      · rw [if_pos ee, ee, hx]; rfl
      · rw [if_neg ee]
theorem upd_upd (s : Qt.St) (e : Nat) (a b : Option Qt.Pge) : Qt.upd (Qt.upd s e a) e b = Qt.upd s e b := by
  funext i
  unfold Qt.upd
  by_cases hi : i = e
  · rw [if_pos hi, if_pos hi]
  · rw [if_neg hi, if_neg hi, if_neg hi]
theorem cl_gv (env kind n : Int) : Qt.clS (Qt.gvS s env kind n) env = Qt.clS s env := by
  have h1 : (Qt.at_ (Qt.gvS s env kind n) env).isSome = (Qt.at_ s env).isSome := at_gv_some
  unfold Qt.clS
  cases hx : Qt.at_ s env with
  | none =>
    rw [hx] at h1
    have : Qt.at_ (Qt.gvS s env kind n) env = none := by cases h2 : Qt.at_ (Qt.gvS s env kind n) env with
      | none => rfl
      | some z => rw [h2] at h1; cases h1
    rw [this]
    simp only
    unfold Qt.gvS
    rw [hx]
  | some x =>
    rw [hx] at h1
    obtain ⟨z, hz⟩ : ∃ z, Qt.at_ (Qt.gvS s env kind n) env = some z := by
      cases h2 : Qt.at_ (Qt.gvS s env kind n) env with
      | none => rw [h2] at h1; cases h1
      | some z => exact ⟨z, rfl⟩
    rw [hz]
    simp only
    unfold Qt.gvS
    rw [hx]
    simp only
    by_cases hc : Qt.wrongB kind n = true ∨ x.h.g kind < n
    · rw [if_pos hc]
    · rw [if_neg hc, upd_upd]
theorem cl_sw (env : Int) : ∀ (l : List Rt) (s : Qt.St), (∀ r ∈ l, r.env = env) → Qt.clS (swS s l) env = Qt.clS s env ∧ (Qt.at_ (swS s l) env).isSome = (Qt.at_ s env).isSome
  | [], _, _ => ⟨rfl, rfl⟩
  | r :: l, s, h => by
    have ih := cl_sw env l (Qt.gvS s r.env r.kind 1) (fun r' hr' => h r' (by simp [hr']))
    have he := h r (by simp)
    refine ⟨ih.1.trans ?_, ih.2.trans at_gv_some⟩
    rw [he]
    exact cl_gv env _ _
theorem Inv.close (h : Inv t s T L R C Rs P) {env : Int} {x : Qt.Pge} (hx : Qt.at_ s env = some x) (h' : Cp.Rel T' (Cp.offs (Cp.deB C env C.length) C)) :
    Qt.clE (Qt.at_ (swS s (Rs.filter fun r => !alvR (Cp.offs (Cp.deB C env C.length) C) r)) env) = 0 ∧ Qt.clS (swS s (Rs.filter fun r => !alvR (Cp.offs (Cp.deB C env C.length) C) r)) env = Qt.clS s env ∧ Inv t (Qt.clS s env) T' (strL T' L) (mixR R (strL T' L) 3) (Cp.offs (Cp.deB C env C.length) C) (Rs.filter (alvR (Cp.offs (Cp.deB C env C.length) C))) P := by
  have hde : ∀ r ∈ Rs, alvR (Cp.offs (Cp.deB C env C.length) C) r = !decide (r.env = env) := fun r hr => by
    obtain ⟨k', n', i', q', hk', g1, g2, g3, g4, g5, g6, g7, g8⟩ := h.rr r hr
    have henv : q'.c.env = r.env := by rw [g6]
    have hil := (List.getElem?_eq_some_iff.1 g4).1
    have hdb : Cp.deB C env C.length i' = decide (r.env = env) := by
      unfold Cp.deB
      rw [lvA_of g4, g5, Bool.true_and]
      by_cases e : r.env = env
      · rw [decide_eq_true e, List.any_eq_true]
        refine ⟨i', by simpa using hil, ?_⟩
        rw [lvA_of g4, g5]
        unfold Cp.enR Cp.upB
        rw [g4]
        simp [henv, e]
      · rw [decide_eq_false e, List.any_eq_false]
        intro j hj
        unfold Cp.upB
        rw [root_bl h.cr.fw g4 g7]
        by_cases ej : i' = j
        · subst ej
          unfold Cp.enR
          rw [g4]
          simp [henv, e]
        · simp [ej]
    by_cases e : r.env = env
    · obtain ⟨z, hz, hzl⟩ := offs_dead g4 (K := Cp.deB C env C.length) (by rw [hdb]; simp [e])
      rw [alvR_of g3 hz, hzl]
      simp [e]
    · have hz := offs_live g4 (K := Cp.deB C env C.length) (by rw [hdb]; simp [e])
      rw [alvR_of g3 hz, g5]
      simp [e]
  have hcl := cl_sw env (Rs.filter fun r => !alvR (Cp.offs (Cp.deB C env C.length) C) r) s (fun r hr => by
    obtain ⟨hr, ha⟩ := List.mem_filter.1 hr
    rw [hde r hr] at ha
    simpa using ha)
  refine ⟨?_, hcl.1, h.off h' (fun e x' k' hx' k1 k3 => ?_) (fun r hr ha => ?_) (fun j q' hq' hl' hK => ?_)⟩
  · have := hcl.2
    rw [hx] at this
    unfold Qt.clE Qt.pE
    cases hz : Qt.at_ (swS s (Rs.filter fun r => !alvR (Cp.offs (Cp.deB C env C.length) C) r)) env with
    | none => rw [hz] at this; cases this
    | some z => rfl
  · rw [at_cl hx] at hx'
    by_cases ee : e = env
    · rw [if_pos ee] at hx'; cases hx'
    · rw [if_neg ee] at hx'
      rw [crN_filter (fun r hr er => by rw [hde r hr]; simp; omega)]
      exact h.hs e x' k' hx' k1 k3
  · rw [hde r hr] at ha
    have hne : r.env ≠ env := by simpa using ha
    rw [at_cl hx, if_neg hne]
    exact h.op r hr
  · have hne : q'.c.env ≠ env := fun e => by
      have : Cp.deB C env C.length j = true := by
        unfold Cp.deB
        rw [lvA_of hq', hl', Bool.true_and, List.any_eq_true]
        refine ⟨j, by simpa using (List.getElem?_eq_some_iff.1 hq').1, ?_⟩
        rw [lvA_of hq', hl']
        unfold Cp.enR Cp.upB
        rw [hq']
        simp [e]
      rw [this] at hK
      cases hK
    rw [at_cl hx, if_neg hne]
    exact h.oc j q' hq' hl'
theorem Inv.enter (h : Inv t s T L R C Rs P) {env : Int} {q : Qt.T} (ho : Qt.OpS t s s' env q) : Inv t s' T L R C Rs P := by
  unfold Qt.OpS at ho
  by_cases h0 : Qt.opE t s env q = 0
  · rw [if_pos h0] at ho
    obtain ⟨p, rfl⟩ := ho
    have hx : Qt.at_ s env = none ∧ Qt.badB env q = false := by
      unfold Qt.opE at h0
      by_cases hb : Qt.badB env q = true
      · rw [if_pos hb] at h0; cases h0
      · rw [if_neg hb] at h0
        cases hx : Qt.at_ s env with
        | none => exact ⟨rfl, by simpa using hb⟩
        | some x => rw [hx] at h0; cases h0
    have hr : 1 ≤ env ∧ env ≤ 3 := by
      have := hx.2
      unfold Qt.badB Qt.outB at this
      simp at this
      omega
    have hat := fun e => Qt.at_upd (s := s) hr.1 hr.2 (some ⟨p, q, Qt.zT⟩) e
    refine ⟨h.cr, h.pl, h.bl, h.rl, h.rr, h.rz, h.rd, h.rt, fun e x k hx' k1 k3 => ?_, fun r hr' => ?_, fun i q' hq' hl' => ?_⟩
    · rw [hat] at hx'
      by_cases ee : e = env
      · rw [if_pos ee] at hx'
        cases hx'
        have : crN Rs e k = 0 := countP_zero fun r hr' => by
          obtain ⟨z, hz⟩ := h.op r hr'
          by_cases er : r.env = e
          · rw [er, ee, hx.1] at hz; cases hz
          · simp [er]
        rw [this]
        exact g_zero k
      · rw [if_neg ee] at hx'
        exact h.hs e x k hx' k1 k3
    · obtain ⟨z, hz⟩ := h.op r hr'
      rw [hat]
      by_cases er : r.env = env
      · rw [if_pos er]; exact ⟨_, rfl⟩
      · rw [if_neg er]; exact ⟨z, hz⟩
    · obtain ⟨z, hz⟩ := h.oc i q' hq' hl'
      rw [hat]
      by_cases er : q'.c.env = env
      · rw [if_pos er]; exact ⟨_, rfl⟩
      · rw [if_neg er]; exact ⟨z, hz⟩
  · rw [if_neg h0] at ho
    rw [ho]
    exact h
theorem tk_no {env kind E : Int} (h : Qt.tkE (Qt.at_ s env) kind 1 = E) (hne : ¬ E = 0) : Qt.tkS s env kind 1 = s := by
  unfold Qt.tkS
  cases hx : Qt.at_ s env with
  | none => rfl
  | some x =>
    rw [hx] at h
    unfold Qt.tkE at h
    simp only at h ⊢
    by_cases hw : Qt.wrongB kind 1 = true
    · rw [if_pos (Or.inl hw)]
    · rw [if_neg hw] at h
      by_cases hg : x.q.g kind - x.h.g kind < 1
      · rw [if_pos (Or.inr hg)]
      · rw [if_neg hg] at h; exact absurd h.symm hne
theorem cl_no {env : Int} (h : Qt.at_ s env = none) : Qt.clS s env = s := by unfold Qt.clS; rw [h]
theorem put_put (h : Qt.T) (kind : Int) : (h.put kind (h.g kind + 1)).put kind (h.g kind) = h := by
  unfold Qt.T.put Qt.T.g
  by_cases e1 : kind = 1
  · simp [e1]
  · by_cases e2 : kind = 2
    · simp [e2]
    · simp [e1, e2]
theorem gv_tk {env kind : Int} (htk : Qt.tkE (Qt.at_ s env) kind 1 = 0) (hpos : ∀ x, Qt.at_ s env = some x → 0 ≤ x.h.g kind) : Qt.gvS (Qt.tkS s env kind 1) env kind 1 = s := by
  obtain ⟨x, hx, h1, h3, hq⟩ := tk_some htk
  have hp := hpos x hx
  have h2 := at_tk htk x hx env
  rw [if_pos rfl] at h2
  have hgp : (x.h.put kind (x.h.g kind + 1)).g kind = x.h.g kind + 1 := by rw [put_g _ _ _ _ h1 h3 h1 h3, if_pos rfl]
  obtain ⟨g1, g2, hs⟩ := Qt.at_some hx
  unfold Qt.gvS
  rw [h2]
  simp only
  rw [hgp, if_neg (by rintro (h | h); unfold Qt.wrongB at h; simp at h; omega; omega), show x.h.g kind + 1 - 1 = x.h.g kind by omega, put_put]
  unfold Qt.tkS
  rw [hx]
  simp only
  rw [if_neg (by rintro (h | h); unfold Qt.wrongB at h; simp at h; omega; omega), upd_upd]
  funext i
  unfold Qt.upd
  by_cases hi : i = (env - 1).toNat
  · rw [if_pos hi, hi, hs]
  · rw [if_neg hi]
end
end Go.Proofs.Ytnknhencobhjdaa
