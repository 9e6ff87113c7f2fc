/- What was written is read, and nothing else is read as the same, plainly; no statement is proved in this text. -/
import Derived.Test.YtihbbgcpdgnhoaaGreatDoorWp
namespace Go.Proofs.YtihbbgcpdgnhoaaGreatDoor

def fitV (V : Vl) (T : Ty) : Prop := (firstF V T).length = 0
def fitL (l : List Vl) (i : Nat) (T : Ty) : Prop := (firstL l i T).length = 0
theorem fitV_iff (V : Vl) (T : Ty) : fitV V T ↔ aloneB V T = true ∧ fitL V.kids 0 T := by
  unfold fitV fitL
  rw [firstF_eq]
  by_cases h : aloneB V T = true
  · rw [if_pos h]; exact ⟨fun h1 => ⟨h, h1⟩, fun h1 => h1.2⟩
  · rw [if_neg h]; constructor
    · intro h1; simp at h1
    · intro h1; exact absurd h1.1 h
theorem fitL_cons (v : Vl) (r : List Vl) (i : Nat) (T : Ty) : fitL (v :: r) i T ↔ fitV v (kidT T i) ∧ fitL r (i + 1) T := by
  unfold fitV fitL
  rw [firstL]
  by_cases h : (firstF v (kidT T i)).length = 0
  · rw [if_pos h]; exact ⟨fun h1 => ⟨h, h1⟩, fun h1 => h1.2⟩
  · rw [if_neg h]; constructor
    · intro h1; simp at h1
    · intro h1; exact absurd h1.1 h
theorem kid_depth {T : Ty} {i : Nat} (h3 : T.kind = 3 → 0 < T.kids.length) (h4 : T.kind ≠ 3 → i < T.kids.length) : (kidT T i).depth + 1 ≤ T.depth := by
  have e : T.depth = 1 + depthL T.kids := by cases T; rfl
  unfold kidT
  split
  · rename_i h
    rw [getD_lt _ _ _ (h3 h)]
    have := depthL_mem (List.getElem_mem (h3 h))
    omega
  · rename_i h
    rw [getD_lt _ _ _ (h4 h)]
    have := depthL_mem (List.getElem_mem (h4 h))
    omega
theorem alone_1 {V : Vl} {T : Ty} (h : aloneB V T = true) (hk : T.kind = 1) : V.s = [] ∧ 0 ≤ V.num ∧ V.num < 2 ^ T.num.toNat ∧ V.kids = [] := by
  have hV := alone_kind h
  unfold aloneB alB at h
  rw [if_neg (by simp [hV]), if_pos (by omega)] at h
  simp only [Bool.and_eq_true, decide_eq_true_eq] at h
  exact ⟨h.1.1.1, h.1.1.2, h.1.2, List.eq_nil_of_length_eq_zero h.2⟩
theorem alone_2 {V : Vl} {T : Ty} (h : aloneB V T = true) (hk : T.kind = 2) : V.num = 0 ∧ (V.s.length : Int) ≤ T.num ∧ V.kids = [] := by
  have hV := alone_kind h
  unfold aloneB alB at h
  rw [if_neg (by simp [hV]), if_neg (by omega), if_pos (by omega)] at h
  simp only [Bool.and_eq_true, decide_eq_true_eq] at h
  exact ⟨h.1.1, h.1.2, List.eq_nil_of_length_eq_zero h.2⟩
theorem alone_3 {V : Vl} {T : Ty} (h : aloneB V T = true) (hk : T.kind = 3) : V.num = 0 ∧ V.s = [] ∧ (V.kids.length : Int) ≤ T.num := by
  have hV := alone_kind h
  unfold aloneB alB at h
  rw [if_neg (by simp [hV]), if_neg (by omega), if_neg (by omega), if_pos (by omega)] at h
  simp only [Bool.and_eq_true, decide_eq_true_eq] at h
  exact ⟨h.1.1, h.1.2, h.2⟩
theorem alone_4 {V : Vl} {T : Ty} (h : aloneB V T = true) (hk : T.kind = 4) : V.num = 0 ∧ V.s = [] ∧ V.kids.length = T.kids.length := by
  have hV := alone_kind h
  unfold aloneB alB at h
  rw [if_neg (by simp [hV]), if_neg (by omega), if_neg (by omega), if_neg (by omega)] at h
  simp only [Bool.and_eq_true, decide_eq_true_eq] at h
  exact ⟨h.1.1, h.1.2, h.2⟩
theorem wrtV_1 (V : Vl) (T : Ty) (h : V.kind = 1) : wrtV V T = b8 1 :: tb V.num.toNat (T.num / 8).toNat := by
  cases V with | mk k n s l => simp only [Vl.kind] at h; subst h; rfl
theorem wrtV_2 (V : Vl) (T : Ty) (h : V.kind = 2) : wrtV V T = b8 2 :: b8 V.s.length :: V.s := by
  cases V with | mk k n s l => simp only [Vl.kind] at h; subst h; rfl
theorem wrtV_3 (V : Vl) (T : Ty) (h1 : V.kind ≠ 1) (h2 : V.kind ≠ 2) : wrtV V T = b8 V.kind :: b8 V.kids.length :: wrtL V.kids 0 T := by
  cases V with
  | mk k n s l =>
    simp only [Vl.kind] at h1 h2
    rw [wrtV, if_neg h1, if_neg h2]
    rfl
theorem vl_eta (V : Vl) : V = .mk V.kind V.num V.s V.kids := by cases V; rfl
theorem rdL_fwd {f : Nat} (ih : ∀ (V : Vl) (T : Ty) (r : Bs), T.depth ≤ f → T.formed = true → fitV V T → rdV f T (wrtV V T ++ r) = some (V, r)) (T : Ty) (hd : T.depth ≤ f + 1) (hf : T.formed = true) :
    ∀ (l : List Vl) (i : Nat) (r : Bs), (T.kind = 3 → 0 < T.kids.length) → (T.kind ≠ 3 → i + l.length ≤ T.kids.length) → fitL l i T → rdL (rdV f) T i l.length (wrtL l i T ++ r) = some (l, r)
  | [], i, r, _, _, _ => rfl
  | v :: l, i, r, h3, h4, hL => by
    obtain ⟨h1, h2⟩ := (fitL_cons v l i T).1 hL
    have h4' : T.kind ≠ 3 → i < T.kids.length := fun h => by have := h4 h; simp only [List.length_cons] at this; omega
    have hd' := kid_depth (T := T) (i := i) h3 h4'
    have hkf := kidT_formed hf i h3 h4'
    rw [List.length_cons, rdL, wrtL, List.append_assoc, ih v (kidT T i) (wrtL l (i + 1) T ++ r) (by omega) hkf h1]
    simp only []
    rw [rdL_fwd ih T hd hf l (i + 1) r h3 (fun h => by have := h4 h; simp only [List.length_cons] at this; omega) h2]
theorem pow_bytes {n : Int} {m : Nat} (hm : n = 8 ∧ m = 1 ∨ n = 16 ∧ m = 2 ∨ n = 32 ∧ m = 4) {v : Int} (h0 : 0 ≤ v) (h : v < 2 ^ n.toNat) : v.toNat < 256 ^ m := by
  rcases hm with ⟨rfl, rfl⟩ | ⟨rfl, rfl⟩ | ⟨rfl, rfl⟩
  · have : v < 256 := h
    show v.toNat < 256
    omega
  · have : v < 65536 := h
    show v.toNat < 65536
    omega
  · have : v < 4294967296 := h
    show v.toNat < 4294967296
    omega
theorem num_bytes {T : Ty} (hf : T.formed = true) (hk : T.kind = 1) : T.num = 8 ∧ (T.num / 8).toNat = 1 ∨ T.num = 16 ∧ (T.num / 8).toNat = 2 ∨ T.num = 32 ∧ (T.num / 8).toNat = 4 := by
  rcases node_1 hf hk with h | h | h
  · exact .inl ⟨h, by rw [h]; rfl⟩
  · exact .inr (.inl ⟨h, by rw [h]; rfl⟩)
  · exact .inr (.inr ⟨h, by rw [h]; rfl⟩)
theorem rdV_fwd : ∀ (f : Nat) (V : Vl) (T : Ty) (r : Bs), T.depth ≤ f → T.formed = true → fitV V T → rdV f T (wrtV V T ++ r) = some (V, r)
  | 0, V, T, r, hd, _, _ => by cases T; simp only [Ty.depth] at hd; omega
  | f + 1, V, T, r, hd, hf, hV => by
    obtain ⟨ha, hL⟩ := (fitV_iff V T).1 hV
    have hk := alone_kind ha
    rcases node_kind hf with h1 | h2 | h3 | h4
    · obtain ⟨e1, e2, e3, e4⟩ := alone_1 ha h1
      have hnb := num_bytes hf h1
      rw [wrtV_1 V T (by omega), rdV, List.cons_append, rdN_one]
      simp only []
      rw [if_neg (by rw [h1]; simp [b8]), if_pos h1, rdN_tb _ _ _ (by omega) (by omega) (pow_bytes hnb e2 e3)]
      simp only []
      have hV' : V = .mk 1 V.num [] [] := by
        have := vl_eta V
        rw [e1, e4, hk, h1] at this
        exact this
      rw [Int.toNat_of_nonneg e2]
      exact congrArg (fun v => some (v, r)) hV'.symm
    · obtain ⟨e1, e2, e3⟩ := alone_2 ha h2
      have hn := node_2 hf h2
      rw [wrtV_2 V T (by omega), rdV, List.cons_append, rdN_one]
      simp only []
      rw [if_neg (by rw [h2]; simp [b8]), if_neg (by omega), if_pos h2, rdC_fwd _ _ (by omega)]
      simp only []
      rw [vl_eta V, e1, e3, hk, h2]
      rfl
    · obtain ⟨e1, e2, e3⟩ := alone_3 ha h3
      have hn := node_3 hf h3
      rw [wrtV_3 V T (by omega) (by omega), rdV, List.cons_append, List.cons_append, rdN_one]
      simp only []
      rw [if_neg (by rw [hk, h3]; simp [b8]), if_neg (by omega), if_neg (by omega), rdN_one, b8_nat (by omega)]
      simp only []
      rw [if_neg (by omega), rdL_fwd (rdV_fwd f) T hd hf V.kids 0 r (fun _ => by omega) (fun h => absurd h3 h) hL]
      simp only []
      rw [vl_eta V, e1, e2, hk]
      rfl
    · obtain ⟨e1, e2, e3⟩ := alone_4 ha h4
      have hn := node_4 hf h4
      rw [wrtV_3 V T (by omega) (by omega), rdV, List.cons_append, List.cons_append, rdN_one]
      simp only []
      rw [if_neg (by rw [hk, h4]; simp [b8]), if_neg (by omega), if_neg (by omega), rdN_one, b8_nat (by omega)]
      simp only []
      rw [if_neg (by omega), rdL_fwd (rdV_fwd f) T hd hf V.kids 0 r (fun h => by omega) (fun _ => by omega) hL]
      simp only []
      rw [vl_eta V, e1, e2, hk]
      rfl
theorem rdL_back {f : Nat} (ih : ∀ (V : Vl) (T : Ty) (b r : Bs), rdV f T b = some (V, r) → b = wrtV V T ++ r) (T : Ty) :
    ∀ (m i : Nat) (b r : Bs) (l : List Vl), rdL (rdV f) T i m b = some (l, r) → b = wrtL l i T ++ r ∧ l.length = m
  | 0, i, b, r, l, h => by
    simp only [rdL, Option.some.injEq, Prod.mk.injEq] at h
    obtain ⟨rfl, rfl⟩ := h
    exact ⟨rfl, rfl⟩
  | m + 1, i, b, r, l, h => by
    rw [rdL] at h
    split at h
    · cases h
    · rename_i v q hv
      split at h
      · cases h
      · rename_i l' p hl
        simp only [Option.some.injEq, Prod.mk.injEq] at h
        obtain ⟨rfl, rfl⟩ := h
        obtain ⟨h1, h2⟩ := rdL_back ih T m (i + 1) q p l' hl
        have := ih v (kidT T i) b q hv
        exact ⟨by rw [wrtL, List.append_assoc, ← h1]; exact this, by rw [List.length_cons, h2]⟩
theorem tag_eq {c : UInt8} {k : Int} (h : ¬ ((c.toNat : Nat) : Int) ≠ k) : c = b8 k := by
  have h : (c.toNat : Int) = k := Classical.byContradiction h
  unfold b8
  rw [← h, Int.toNat_natCast, UInt8.ofNat_toNat]
theorem rdV_back : ∀ (f : Nat) (V : Vl) (T : Ty) (b r : Bs), rdV f T b = some (V, r) → b = wrtV V T ++ r
  | 0, _, _, _, _, h => by cases h
  | f + 1, V, T, b, r, h => by
    rw [rdV] at h
    split at h
    · cases h
    · rename_i tag q hq
      obtain ⟨hb, ht, _⟩ := rdN_back hq
      rw [tb_one] at hb
      split at h
      · cases h
      · rename_i hk
        have hk : (tag : Int) = T.kind := Classical.byContradiction hk
        have hc : UInt8.ofNat tag = b8 T.kind := by unfold b8; rw [← hk, Int.toNat_natCast]
        split at h
        · rename_i h1
          split at h
          · cases h
          · rename_i n p hn
            simp only [Option.some.injEq, Prod.mk.injEq] at h
            obtain ⟨rfl, rfl⟩ := h
            obtain ⟨hq2, _⟩ := rdN_back hn
            rw [wrtV_1 _ T rfl, hb, hc, h1, hq2]
            rfl
        · split at h
          · rename_i h1 h2
            split at h
            · cases h
            · rename_i s p hs
              simp only [Option.some.injEq, Prod.mk.injEq] at h
              obtain ⟨rfl, rfl⟩ := h
              obtain ⟨hq2, _⟩ := rdC_back hs
              rw [wrtV_2 _ T rfl, hb, hc, h2, hq2]
              rfl
          · rename_i h1 h2
            split at h
            · cases h
            · rename_i m p hm
              split at h
              · cases h
              · split at h
                · cases h
                · rename_i l x hl
                  simp only [Option.some.injEq, Prod.mk.injEq] at h
                  obtain ⟨rfl, rfl⟩ := h
                  obtain ⟨hq2, hm2, _⟩ := rdN_back hm
                  obtain ⟨h3, h4⟩ := rdL_back (rdV_back f) T m 0 p x l hl
                  rw [wrtV_3 (.mk T.kind 0 [] l) T h1 h2, hb, hc, hq2, tb_one, h3]
                  show _ = b8 T.kind :: b8 (l.length : Int) :: wrtL l 0 T ++ x
                  rw [h4]
                  unfold b8
                  rw [Int.toNat_natCast]
                  rfl
end Go.Proofs.YtihbbgcpdgnhoaaGreatDoor
