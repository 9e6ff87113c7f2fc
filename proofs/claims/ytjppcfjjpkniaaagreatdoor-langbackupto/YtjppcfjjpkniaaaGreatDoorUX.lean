/- Texts Bb Bc Be Bf Bg in one; no statement is proved in this text. -/
import Derived.Test.YtjppcfjjpkniaaaGreatDoorUJ
import Derived.Test.YtjppcfjjpkniaaaGreatDoorUF
import Derived.Test.YtjppcfjjpkniaaaGreatDoorUD
import Derived.Lib.ItoaLen
import Derived.Test.YtjppcfjjpkniaaaGreatDoorUL
namespace Go.Proofs.YtjppcfjjpkniaaaGreatDoor
set_option maxRecDepth 100000

theorem valD_snoc2 (d : Bs) (c : UInt8) : valD (d ++ [c]) = 10 * valD d + (c.toNat - 48) := by simp [valD]
theorem dig_one (n : Nat) (h : n < 10) : isDig (UInt8.ofNat (48 + n)) = true ∧ (UInt8.ofNat (48 + n)).toNat - 48 = n := by
  have : ∀ n, n < 10 → isDig (UInt8.ofNat (48 + n)) = true ∧ (UInt8.ofNat (48 + n)).toNat - 48 = n := by decide
  exact this n h
theorem dec_all : ∀ (k n : Nat), n < 10 ^ (k + 1) → (Lib.decDigits n).all isDig = true ∧ valD (Lib.decDigits n) = n ∧ Lib.decDigits n ≠ [] ∧ (Lib.decDigits n).length ≤ k + 1
  | 0, n, h => by
    have h10 : n < 10 := by simpa using h
    have := dig_one n h10
    rw [Lib.decDigits_one h10]
    exact ⟨by rw [List.all_cons, this.1]; rfl, by show 10 * 0 + _ = _; omega, by simp, by simp⟩
  | k + 1, n, h => by
    by_cases h10 : n < 10
    · have := dec_all 0 n (by simpa using h10)
      exact ⟨this.1, this.2.1, this.2.2.1, by omega⟩
    · have hk : n / 10 < 10 ^ (k + 1) := by rw [Nat.div_lt_iff_lt_mul (by omega)]; rw [Nat.pow_succ] at h; exact h
      have ih := dec_all k (n / 10) hk
      have h1 := dig_one (n % 10) (by omega)
      rw [Lib.decDigits, dif_neg h10]
      refine ⟨by rw [List.all_append, ih.1, List.all_cons, h1.1]; rfl, ?_, by simp, by rw [List.length_append]; simp; omega⟩
      rw [valD_snoc2, ih.2.1, h1.2]; omega
theorem itoa_nat (n : Nat) : Lib.itoa (n : Int) = Lib.decDigits n := by unfold Lib.itoa; rw [if_neg (by omega)]; simp
theorem numW_itoa (n : Nat) (h : n ≤ 4294967295) : numW (Lib.itoa (n : Int)) = some n := by
  have := dec_all 9 n (by omega)
  rw [itoa_nat]
  unfold numW
  rw [if_pos ⟨this.2.2.2, this.2.2.1, this.1, by omega⟩, this.2.1]
/-- A word that is told: not empty, no space, no ; and no end of a line in it. -/
def plC (c : UInt8) : Bool := c != 32 && c != 59 && c != 10
def PlW (w : Bs) : Prop := w ≠ [] ∧ ∀ c ∈ w, plC c = true
theorem plC_low {c : UInt8} (h : isLow c = true) : plC c = true := by
  have : ∀ c : UInt8, isLow c = true → plC c = true := by
    intro c hc
    unfold isLow at hc
    simp only [Bool.and_eq_true, decide_eq_true_eq] at hc
    have e : ∀ k : UInt8, k.toNat < 97 → c ≠ k := fun k hk e => by rw [e] at hc; omega
    unfold plC
    simp [e 32 (by decide), e 59 (by decide), e 10 (by decide)]
  exact this c h
theorem plC_dig {c : UInt8} (h : isDig c = true) : plC c = true := by
  unfold isDig at h
  simp only [Bool.and_eq_true, decide_eq_true_eq] at h
  have e1 : c ≠ 32 := fun e => by rw [e] at h; exact absurd h.1 (by decide)
  have e2 : c ≠ 59 := fun e => by rw [e] at h; exact absurd h.2 (by decide)
  have e3 : c ≠ 10 := fun e => by rw [e] at h; exact absurd h.1 (by decide)
  unfold plC
  simp [e1, e2, e3]
theorem PlW.name {a : Bs} (h : nameB a = true) : PlW a := by
  refine ⟨fun e => ?_, fun c hc => plC_low (nameB_low h c hc)⟩
  subst e
  simp [nameB] at h
theorem PlW.op {k : Nat} (h1 : 1 ≤ k) (h2 : k ≤ 9) : PlW (opNm k) := by
  have : ∀ k, k < 10 → 1 ≤ k → opNm k ≠ [] ∧ (opNm k).all plC = true := by decide
  have h := this k (by omega) h1
  exact ⟨h.1, List.all_eq_true.1 h.2⟩
theorem PlW.num (n : Nat) (h : n ≤ 4294967295) : PlW (Lib.itoa (n : Int)) := by
  have := dec_all 9 n (by omega)
  rw [itoa_nat]
  exact ⟨this.2.2.1, fun c hc => plC_dig (List.all_eq_true.1 this.1 c hc)⟩
theorem itoa_plC {n : Int} (h0 : 0 ≤ n) (h1 : n ≤ 255) : ∀ c ∈ Lib.itoa n, plC c = true := by
  have e : n = ((n.toNat : Nat) : Int) := by omega
  rw [e]
  exact (PlW.num n.toNat (by omega)).2
theorem fieldT_plC : ∀ (a : List Bs) (ks : List Bs), (∀ x ∈ a, ∀ c ∈ x, plC c = true) → (∀ x ∈ ks, ∀ c ∈ x, plC c = true) → ∀ c ∈ fieldT a ks, plC c = true
  | [], _, _, _, c, hc => by simp [fieldT] at hc
  | [a], [], _, _, c, hc => by simp [fieldT] at hc
  | [a], [x], h1, h2, c, hc => by
    simp only [fieldT, List.mem_append, List.mem_cons] at hc
    rcases hc with hc | hc | hc
    · exact h1 a (by simp) c hc
    · subst hc; decide
    · exact h2 x (by simp) c hc
  | [a], x :: y :: s, _, _, c, hc => by simp [fieldT] at hc
  | a :: b :: r, [], _, _, c, hc => by simp [fieldT] at hc
  | a :: b :: r, [x], _, _, c, hc => by simp [fieldT] at hc
  | a :: b :: r, x :: y :: s, h1, h2, c, hc => by
    simp only [fieldT, List.mem_append, List.mem_cons] at hc
    rcases hc with hc | hc | hc | hc | hc
    · exact h1 a (by simp) c hc
    · subst hc; decide
    · exact h2 x (by simp) c hc
    · subst hc; decide
    · exact fieldT_plC (b :: r) (y :: s) (fun x hx => h1 x (List.mem_cons_of_mem _ hx)) (fun x hx => h2 x (List.mem_cons_of_mem _ hx)) c hc
mutual
theorem txt_plC : ∀ (t : Ty), t.formed = true → ∀ c ∈ t.txt, plC c = true
  | .mk k n names kids, hf, c, hc => by
    simp only [Ty.formed, Bool.and_eq_true] at hf
    have hkids := txtL_plC kids hf.2
    have hnode := nodeB_node hf.1
    generalize hkn : kids.length = kn at hnode
    cases hnode with
    | int h0 h1 =>
      obtain rfl := List.eq_nil_of_length_eq_zero hkn
      rw [txt_1] at hc
      rcases List.mem_cons.1 hc with hc | hc
      · subst hc; decide
      · exact itoa_plC h0 h1 c hc
    | text h0 h1 =>
      obtain rfl := List.eq_nil_of_length_eq_zero hkn
      rw [txt_2] at hc
      rcases List.mem_cons.1 hc with hc | hc
      · subst hc; decide
      · exact itoa_plC h0 h1 c hc
    | list h0 h1 =>
      obtain ⟨T, rfl⟩ : ∃ T, kids = [T] := by cases kids with
        | nil => simp at hkn
        | cons T r => have : r = [] := by simpa using hkn
                      exact ⟨T, by rw [this]⟩
      rw [txt_3] at hc
      simp only [List.mem_cons, List.mem_append, List.not_mem_nil, or_false] at hc
      rcases hc with hc | hc | hc | hc | hc
      · subst hc; decide
      · exact itoa_plC h0 h1 c hc
      · subst hc; decide
      · exact hkids T.txt (by simp [txtL]) c hc
      · subst hc; decide
    | rc h0 h1 h2 h3 =>
      rw [txt_4] at hc
      simp only [List.mem_cons, List.mem_append, List.not_mem_nil, or_false] at hc
      rcases hc with hc | hc | hc | hc
      · subst hc; decide
      · subst hc; decide
      · exact fieldT_plC names (txtL kids) (fun x hx c hc => plC_low (nameB_low (namesTo_mem h3 hx) c hc)) hkids c hc
      · subst hc; decide
theorem txtL_plC : ∀ (l : List Ty), formedL l = true → ∀ x ∈ txtL l, ∀ c ∈ x, plC c = true
  | [], _, x, hx => by simp [txtL] at hx
  | t :: r, hf, x, hx => by
    simp only [formedL, Bool.and_eq_true] at hf
    rcases List.mem_cons.1 (show x ∈ t.txt :: txtL r from hx) with hx | hx
    · subst hx; exact txt_plC t hf.1
    · exact txtL_plC r hf.2 x hx
end
theorem txt_ne (t : Ty) : t.txt ≠ [] := by
  cases t
  unfold Ty.txt
  repeat' split
  all_goals simp
theorem PlW.txt {t : Ty} (h : t.right = true) : PlW t.txt := ⟨txt_ne t, txt_plC t (right_formed h).1⟩

/-! ### Words joined -/
theorem join_two (x y : Bs) (r : List Bs) (sep : Bs) : Lib.join (x :: y :: r) sep = x ++ (sep ++ Lib.join (y :: r) sep) := by
  simp [Lib.join, List.intercalate, List.intersperse]
theorem PlW.head {w : Bs} (h : PlW w) (r : Bs) : trimL (w ++ r) = w ++ r := by
  obtain ⟨c, s, rfl⟩ : ∃ c s, w = c :: s := by cases w with | nil => exact absurd rfl h.1 | cons c s => exact ⟨c, s, rfl⟩
  have hc := h.2 c (by simp)
  have : (c == 32) = false := by
    unfold plC at hc
    simp only [Bool.and_eq_true, bne_iff_ne] at hc
    simpa using hc.1.1
  simp [trimL, this]
theorem PlW.no32 {w : Bs} (h : PlW w) : 32 ∉ w := fun hm => by have := h.2 32 hm; simp [plC] at this
theorem PlW.no59 {w : Bs} (h : PlW w) : 59 ∉ w := fun hm => by have := h.2 59 hm; simp [plC] at this
theorem PlW.no10 {w : Bs} (h : PlW w) : 10 ∉ w := fun hm => by have := h.2 10 hm; simp [plC] at this
theorem tw32 {x : Bs} (h : 32 ∉ x) (r : Bs) : (x ++ 32 :: r).takeWhile (fun b => b != 32) = x ∧ (x ++ 32 :: r).dropWhile (fun b => b != 32) = 32 :: r := by
  induction x with
  | nil => simp
  | cons c x ih =>
    simp only [List.mem_cons, not_or] at h
    have h2 : (c != 32) = true := by simpa using fun e : c = 32 => h.1 e.symm
    have := ih h.2
    simp [h2, this]
theorem tw32' {x : Bs} (h : 32 ∉ x) : x.takeWhile (fun b => b != 32) = x ∧ x.dropWhile (fun b => b != 32) = [] := by
  induction x with
  | nil => simp
  | cons c x ih =>
    simp only [List.mem_cons, not_or] at h
    have h2 : (c != 32) = true := by simpa using fun e : c = 32 => h.1 e.symm
    have := ih h.2
    simp [h2, this]
theorem join_ne : ∀ (ws : List Bs), ws ≠ [] → (∀ w ∈ ws, PlW w) → Lib.join ws [32] ≠ []
  | [], h, _ => absurd rfl h
  | [x], _, h => by rw [Lib.join_one]; exact (h x (by simp)).1
  | x :: y :: r, _, h => by
    rw [join_two]
    have := (h x (by simp)).1
    simp [this]
theorem words_join : ∀ (ws : List Bs), (∀ w ∈ ws, PlW w) → wordsF (Lib.join ws [32]) = ws
  | [], _ => by rw [Lib.join_nil]; rfl
  | [x], h => by
    have hx := h x (by simp)
    rw [Lib.join_one, wordsF_cons hx.1]
    have h1 := tw32' hx.no32
    have e1 : wd x = x := h1.1
    have e2 : aft x = [] := by unfold aft; rw [h1.2]; rfl
    rw [e1, e2]; rfl
  | x :: y :: r, h => by
    have hx := h x (by simp)
    have hy := h y (by simp)
    rw [join_two, show x ++ ([32] ++ Lib.join (y :: r) [32]) = x ++ 32 :: Lib.join (y :: r) [32] by simp, wordsF_cons (by simp)]
    have h1 := tw32 hx.no32 (Lib.join (y :: r) [32])
    have e1 : wd (x ++ 32 :: Lib.join (y :: r) [32]) = x := h1.1
    have e3 : trimL (Lib.join (y :: r) [32]) = Lib.join (y :: r) [32] := by
      cases r with
      | nil => rw [Lib.join_one]; have := hy.head []; simpa using this
      | cons z s => rw [join_two]; exact hy.head _
    have e2 : aft (x ++ 32 :: Lib.join (y :: r) [32]) = Lib.join (y :: r) [32] := by unfold aft; rw [h1.2, List.tail_cons, e3]
    rw [e1, e2, words_join (y :: r) (fun w hw => h w (List.mem_cons_of_mem _ hw))]
theorem join_no (k : UInt8) (hk : plC k = false) (hk32 : k ≠ 32) : ∀ (ws : List Bs), (∀ w ∈ ws, PlW w) → k ∉ Lib.join ws [32]
  | [], _ => by rw [Lib.join_nil]; simp
  | [x], h => by
    rw [Lib.join_one]
    exact fun hm => by have := (h x (by simp)).2 k hm; rw [hk] at this; cases this
  | x :: y :: r, h => by
    rw [join_two]
    intro hm
    simp only [List.mem_append, List.mem_singleton] at hm
    rcases hm with hm | hm | hm
    · have := (h x (by simp)).2 k hm; rw [hk] at this; cases this
    · exact hk32 hm
    · exact join_no k hk hk32 (y :: r) (fun w hw => h w (List.mem_cons_of_mem _ hw)) hm
theorem trim_sp32 : ∀ (ah s : Bs), (∀ c ∈ ah, c = 32) → trimL (ah ++ s) = trimL s
  | [], s, _ => rfl
  | c :: r, s, h => by
    have : c = 32 := h c (by simp)
    subst this
    have ih := trim_sp32 r s fun c hc => h c (List.mem_cons_of_mem _ hc)
    unfold trimL at ih ⊢
    simpa using ih
/-- A line, told: its words. -/
theorem line_join (ws : List Bs) (h : ∀ w ∈ ws, PlW w) (ah : Bs) (ha : ∀ c ∈ ah, c = 32) : lineT (ah ++ Lib.join ws [32]) = Lib.join ws [32] := by
  unfold lineT
  have h59 : (59 : UInt8) ∉ ah ++ Lib.join ws [32] := by
    intro hm
    rcases List.mem_append.1 hm with hm | hm
    · exact absurd (ha _ hm) (by decide)
    · exact join_no 59 (by decide) (by decide) ws h hm
  rw [semi_all h59, trim_sp32 ah _ ha]
  cases ws with
  | nil => rw [Lib.join_nil]; rfl
  | cons x r =>
    have hx := h x (by simp)
    cases r with
    | nil => rw [Lib.join_one]; have := hx.head []; simpa using this
    | cons y s => rw [join_two]; exact hx.head _
end Go.Proofs.YtjppcfjjpkniaaaGreatDoor
namespace Go.Proofs.YtjppcfjjpkniaaaGreatDoor
set_option maxRecDepth 100000

/-- A statement such as a line tells it. -/
def CanB (op num : Int) (nm ds : Bs) (names : List Bs) (t : Ty) : Prop :=
  nameB nm = true ∧ ((op = 1 ∧ num = 0 ∧ nameB ds = true ∧ names = [] ∧ t = ty0) ∨
    ((op = 2 ∨ op = 5 ∨ op = 9) ∧ num = 0 ∧ ds = [] ∧ names = [] ∧ t = ty0) ∨
    (op = 3 ∧ (∃ n : Nat, num = n ∧ n ≤ 4294967295) ∧ ds = [] ∧ names = [] ∧ t.right = true) ∨
    (op = 4 ∧ (∃ n : Nat, num = n ∧ n ≤ 4294967295) ∧ ds = [] ∧ names = [] ∧ t = ty0) ∨
    (op = 6 ∧ num = 0 ∧ nameB ds = true ∧ 2 ≤ names.length ∧ names.all nameB = true ∧ t = ty0) ∨
    ((op = 7 ∨ op = 8) ∧ num = 0 ∧ ds = [] ∧ 1 ≤ names.length ∧ names.all nameB = true ∧ t = ty0))
theorem numW_le2 {c : Bs} {n : Nat} (h : numW c = some n) : n ≤ 4294967295 := by
  unfold numW at h; split at h
  · cases h; rename_i h; exact h.2.2.2
  · cases h
theorem readR_can {o : Nat} (h1 : 1 ≤ o) (h9 : o ≤ 9) {ws : List Bs} {op num : Int} {nm ds : Bs} {names : List Bs} {t : Ty} {body : List Sm} (h : readR o ws = some (.mk op num nm ds names t body)) : op = o ∧ CanB op num nm ds names t := by
  have ho : o = 1 ∨ o = 2 ∨ o = 3 ∨ o = 4 ∨ o = 5 ∨ o = 6 ∨ o = 7 ∨ o = 8 ∨ o = 9 := by omega
  unfold readR at h
  split at h
  · rename_i h16
    split at h
    · rename_i a b r
      split at h
      · rename_i hc
        cases h
        refine ⟨rfl, hc.1, ?_⟩
        rcases h16 with rfl | rfl
        · have : names = [] := by have := hc.2.2; simpa [namesR, leastF] using this
          exact Or.inl ⟨rfl, rfl, hc.2.1, this, rfl⟩
        · have h2 := hc.2.2
          have h3 : 2 ≤ names.length ∧ names.all nameB = true := by
            by_cases hl : names.length < 2
            · simp only [namesR, leastF, if_pos hl] at h2; cases h2
            · simp only [namesR, leastF, if_neg hl] at h2; exact ⟨by omega, by simpa using h2⟩
          exact Or.inr (Or.inr (Or.inr (Or.inr (Or.inl ⟨rfl, rfl, hc.2.1, h3.1, h3.2, rfl⟩))))
      · cases h
    · cases h
  split at h
  · rename_i h3
    subst h3
    split at h
    · rename_i a b c r
      split at h
      · rename_i hc
        split at h
        · rename_i t2 n2 hp hn
          cases h
          exact ⟨rfl, hc.1, Or.inr (Or.inr (Or.inl ⟨rfl, ⟨n2, rfl, numW_le2 hn⟩, rfl, rfl, (parseF_back hp).1⟩))⟩
        · cases h
      · cases h
    · cases h
  split at h
  · rename_i h4
    subst h4
    split at h
    · rename_i a c r
      split at h
      · rename_i hc
        split at h
        · rename_i n2 hn
          cases h
          exact ⟨rfl, hc.1, Or.inr (Or.inr (Or.inr (Or.inl ⟨rfl, ⟨n2, rfl, numW_le2 hn⟩, rfl, rfl, rfl⟩)))⟩
        · cases h
      · cases h
    · cases h
  rename_i h16 h3 h4
  split at h
  · rename_i a r
    split at h
    · rename_i hc
      cases h
      refine ⟨rfl, hc.1, ?_⟩
      have h2 := hc.2
      by_cases h78 : o = 7 ∨ o = 8
      · have h3 : ¬ names.length < 1 ∧ names.all nameB = true := by
          by_cases hl : names.length < 1
          · rcases h78 with rfl | rfl <;> simp only [namesR, leastF, if_pos hl] at h2 <;> cases h2
          · rcases h78 with rfl | rfl <;> simp only [namesR, leastF, if_neg hl] at h2 <;> exact ⟨hl, by simpa using h2⟩
        exact Or.inr (Or.inr (Or.inr (Or.inr (Or.inr ⟨by omega, rfl, rfl, by omega, h3.2, rfl⟩))))
      · have h259 : o = 2 ∨ o = 5 ∨ o = 9 := by omega
        have : names = [] := by rcases h259 with rfl | rfl | rfl <;> simpa [namesR, leastF] using h2
        exact Or.inr (Or.inl ⟨by omega, rfl, rfl, this, rfl⟩)
    · cases h
  · cases h
theorem readS_can {ws : List Bs} {op num : Int} {nm ds : Bs} {names : List Bs} {t : Ty} {body : List Sm} (h : readS ws = some (.mk op num nm ds names t body)) : CanB op num nm ds names t := by
  unfold readS at h
  split at h
  · cases h
  · rename_i w r
    split at h
    · cases h
    · rename_i ho
      exact (readR_can (by omega) (opF_le w) h).2
theorem CanB.op {op num : Int} {nm ds : Bs} {names : List Bs} {t : Ty} (h : CanB op num nm ds names t) : 1 ≤ op ∧ op ≤ 9 := by
  rcases h.2 with h | h | h | h | h | h <;> omega
theorem err_right {t : Ty} (h : t.right = true) : prT t = t.txt := by unfold prT; rw [if_pos ((right_err t).1 h)]
/-- Its words are told plainly, and read as it. -/
theorem CanB.told {op num : Int} {nm ds : Bs} {names : List Bs} {t : Ty} (h : CanB op num nm ds names t) : (∀ w ∈ toldF op.toNat num nm ds names t, PlW w) ∧ readS (toldF op.toNat num nm ds names t) = some (.mk op num nm ds names t []) := by
  obtain ⟨hnm, h⟩ := h
  have hN : names.all nameB = true → ∀ w ∈ names, PlW w := fun h w hw => PlW.name (List.all_eq_true.1 h w hw)
  have hrd : ∀ (o : Nat) (r : List Bs), 1 ≤ o → o ≤ 9 → readS (opNm o :: r) = readR o r := fun o r h1 h2 => by
    show (if opF (opNm o) = 0 then none else readR (opF (opNm o)) r) = _
    rw [opF_at o h1 h2, if_neg (by omega)]
  rcases h with ⟨rfl, rfl, hd, rfl, rfl⟩ | ⟨ho, rfl, rfl, rfl, rfl⟩ | ⟨rfl, ⟨n, rfl, hn⟩, rfl, rfl, ht⟩ | ⟨rfl, ⟨n, rfl, hn⟩, rfl, rfl, rfl⟩ | ⟨rfl, rfl, hd, hl, ha, rfl⟩ | ⟨ho, rfl, rfl, hl, ha, rfl⟩
  · have e : toldF (1 : Int).toNat 0 nm ds [] ty0 = opNm 1 :: [nm, ds] := rfl
    rw [e]
    refine ⟨fun w hw => ?_, ?_⟩
    · simp only [List.mem_cons, List.not_mem_nil, or_false] at hw
      rcases hw with rfl | rfl | rfl
      · exact PlW.op (by omega) (by omega)
      · exact PlW.name hnm
      · exact PlW.name hd
    · rw [hrd 1 _ (by omega) (by omega)]
      simp [readR, namesR, leastF, hnm, hd]
  · have e : toldF op.toNat 0 nm [] [] ty0 = opNm op.toNat :: [nm] := by rcases ho with rfl | rfl | rfl <;> rfl
    rw [e]
    refine ⟨fun w hw => ?_, ?_⟩
    · simp only [List.mem_cons, List.not_mem_nil, or_false] at hw
      rcases hw with rfl | rfl
      · exact PlW.op (by omega) (by omega)
      · exact PlW.name hnm
    · rw [hrd _ _ (by omega) (by omega)]
      rcases ho with rfl | rfl | rfl <;> simp [readR, namesR, leastF, hnm]
  · have e : toldF (3 : Int).toNat n nm [] [] t = opNm 3 :: [nm, t.txt, Lib.itoa n] := by rw [← err_right ht]; rfl
    rw [e]
    refine ⟨fun w hw => ?_, ?_⟩
    · simp only [List.mem_cons, List.not_mem_nil, or_false] at hw
      rcases hw with rfl | rfl | rfl | rfl
      · exact PlW.op (by omega) (by omega)
      · exact PlW.name hnm
      · exact PlW.txt ht
      · exact PlW.num n hn
    · rw [hrd 3 _ (by omega) (by omega)]
      have e2 : readR 3 [nm, t.txt, Lib.itoa n] = match parseF t.txt, numW (Lib.itoa n) with | some t, some n => some (.mk 3 n nm [] [] t []) | _, _ => none := by
        simp [readR, hnm]; rfl
      rw [e2, parseF_txt ht, numW_itoa n hn]
  · have e : toldF (4 : Int).toNat n nm [] [] ty0 = opNm 4 :: [nm, Lib.itoa n] := rfl
    rw [e]
    refine ⟨fun w hw => ?_, ?_⟩
    · simp only [List.mem_cons, List.not_mem_nil, or_false] at hw
      rcases hw with rfl | rfl | rfl
      · exact PlW.op (by omega) (by omega)
      · exact PlW.name hnm
      · exact PlW.num n hn
    · rw [hrd 4 _ (by omega) (by omega)]
      have e2 : readR 4 [nm, Lib.itoa n] = match numW (Lib.itoa n) with | some n => some (.mk 4 n nm [] [] ty0 []) | none => none := by
        simp [readR, hnm]; rfl
      rw [e2, numW_itoa n hn]
  · have e : toldF (6 : Int).toNat 0 nm ds names ty0 = opNm 6 :: (nm :: ds :: names) := rfl
    rw [e]
    refine ⟨fun w hw => ?_, ?_⟩
    · simp only [List.mem_cons] at hw
      rcases hw with rfl | rfl | rfl | hw
      · exact PlW.op (by omega) (by omega)
      · exact PlW.name hnm
      · exact PlW.name hd
      · exact hN ha w hw
    · rw [hrd 6 _ (by omega) (by omega)]
      have hl2 : ¬ names.length < 2 := by omega
      simp only [readR, namesR, leastF, hnm, hd, ha, if_neg hl2]; simp
  · have e : toldF op.toNat 0 nm [] names ty0 = opNm op.toNat :: (nm :: names) := by rcases ho with rfl | rfl <;> rfl
    rw [e]
    refine ⟨fun w hw => ?_, ?_⟩
    · simp only [List.mem_cons] at hw
      rcases hw with rfl | rfl | hw
      · exact PlW.op (by omega) (by omega)
      · exact PlW.name hnm
      · exact hN ha w hw
    · rw [hrd _ _ (by omega) (by omega)]
      have hl2 : ¬ names.length < 1 := by omega
      have e2 : ∀ o : Nat, o = 7 ∨ o = 8 → readR o (nm :: names) = some (.mk o 0 nm [] names ty0 []) := fun o ho => by
        rcases ho with rfl | rfl <;> simp only [readR, namesR, leastF, hnm, ha, if_neg hl2] <;> simp
      rcases ho with rfl | rfl
      · exact e2 7 (Or.inl rfl)
      · exact e2 8 (Or.inr rfl)
mutual
theorem sameB_to : ∀ {x y : Ty}, sameB x y = true → x = y
  | .mk k n l ks, .mk k' n' l' ks', h => by
    simp only [sameB, Bool.and_eq_true, decide_eq_true_eq] at h
    obtain ⟨⟨⟨⟨h1, h2⟩, h3⟩, _⟩, h4⟩ := h
    rw [h1, h2, h3, sameL_to h4]
theorem sameL_to : ∀ {l m : List Ty}, sameL l m = true → l = m
  | [], [], _ => rfl
  | a :: r, b :: s, h => by
    simp only [sameL, Bool.and_eq_true] at h
    rw [sameB_to h.1, sameL_to h.2]
  | [], _ :: _, h => by simp [sameL] at h
  | _ :: _, [], h => by simp [sameL] at h
end
theorem slB_to {oa ob : Int} {ma mb da db : Bs} {na nb : Int} {la lb : List Bs} {ta tb : Ty} (h : slB oa ob ma mb da db na nb la lb ta tb = true) : oa = ob ∧ ma = mb ∧ da = db ∧ na = nb ∧ la = lb ∧ ta = tb := by
  simp only [slB, Bool.and_eq_true, decide_eq_true_eq] at h
  exact ⟨h.1.1.1.1.1, h.1.1.1.1.2, h.1.1.1.2, h.1.1.2, h.1.2, sameB_to h.2⟩
/-- What has a line is such as a line tells it. -/
theorem okS_can {op num : Int} {nm ds : Bs} {names : List Bs} {t : Ty} {bl : Nat} (h : okS op num nm ds names t bl = true) : CanB op num nm ds names t ∧ (op ≠ 5 → bl = 0) := by
  unfold okS at h
  split at h
  · cases h
  rename_i ho
  refine ⟨?_, fun h5 => by omega⟩
  unfold lnB lnM at h
  split at h
  · cases h
  · rename_i o n m d l y b hr
    obtain ⟨e1, e2, e3, e4, e5, e6⟩ := slB_to h
    have := readS_can hr
    rw [e1, e2, e3, e4, e5, e6, show ((op.toNat : Nat) : Int) = op by omega] at this
    exact this
theorem CanB.okS {op num : Int} {nm ds : Bs} {names : List Bs} {t : Ty} (h : CanB op num nm ds names t) {bl : Nat} (hb : op ≠ 5 → bl = 0) : okS op num nm ds names t bl = true := by
  have ho := h.op
  obtain ⟨h1, h2⟩ := h.told
  unfold Go.Proofs.YtjppcfjjpkniaaaGreatDoor.okS
  rw [if_neg (by
    rintro (h | h | ⟨h, h'⟩)
    · omega
    · omega
    · have := hb h; omega)]
  unfold lnB lineF
  have hl := line_join _ h1 [] (fun c hc => by cases hc)
  rw [List.nil_append] at hl
  rw [hl, words_join _ h1, h2]
  simp only [lnM, slB, sameB_refl, show ((op.toNat : Nat) : Int) = op by omega, decide_true, Bool.and_self]
end Go.Proofs.YtjppcfjjpkniaaaGreatDoor
namespace Go.Proofs.YtjppcfjjpkniaaaGreatDoor
set_option maxRecDepth 100000

mutual
/-- The lines of statements, from their first words on. -/
def rwS : Sm → List Bs
  | .mk op num nm ds names t body => lineF op.toNat num nm ds names t :: (if op = 5 then rwL body ++ [wEnd] else [])
def rwL : List Sm → List Bs
  | [] => []
  | s :: r => rwS s ++ rwL r
end
theorem PlW.wEnd : PlW wEnd := ⟨by decide, List.all_eq_true.1 (by decide)⟩
theorem end_line (ah : Bs) (ha : ∀ c ∈ ah, c = 32) : lineT (ah ++ [101, 110, 100]) = wEnd := by
  have := line_join [wEnd] (fun w hw => by rw [List.mem_singleton.1 hw]; exact PlW.wEnd) ah ha
  rw [Lib.join_one] at this
  exact this
theorem end_words : wordsF wEnd = [wEnd] := by
  have := words_join [wEnd] (fun w hw => by rw [List.mem_singleton.1 hw]; exact PlW.wEnd)
  rwa [Lib.join_one] at this
theorem sp_more {ah : Bs} (ha : ∀ c ∈ ah, c = 32) : ∀ c ∈ ah ++ [32, 32], c = 32 := fun c hc => by
  rcases List.mem_append.1 hc with hc | hc
  · exact ha c hc
  · simpa using hc
theorem sp_no10 {ah : Bs} (ha : ∀ c ∈ ah, c = 32) : (10 : UInt8) ∉ ah := fun h => absurd (ha 10 h) (by decide)
mutual
theorem wrT_rows : ∀ (s : Sm) (ah rest : Bs), (∀ c ∈ ah, c = 32) → wrB s = true → (lns (wrT s ah ++ rest)).map lineT = rwS s ++ (lns rest).map lineT
  | .mk op num nm ds names t body, ah, rest, ha, hw => by
    simp only [wrB, Bool.and_eq_true] at hw
    obtain ⟨hC, hb⟩ := okS_can hw.1
    obtain ⟨h1, h2⟩ := hC.told
    have h10 : (10 : UInt8) ∉ ah ++ lineF op.toNat num nm ds names t := by
      intro hm
      rcases List.mem_append.1 hm with hm | hm
      · exact sp_no10 ha hm
      · exact join_no 10 (by decide) (by decide) _ h1 hm
    have hl : lineT (ah ++ lineF op.toNat num nm ds names t) = lineF op.toNat num nm ds names t := line_join _ h1 ah ha
    by_cases h5 : op = 5
    · subst h5
      have hwb : wrBL body = true := by simpa using hw.2
      have ihb := wrTL_rows body (ah ++ [32, 32]) (ah ++ [101, 110, 100] ++ [10] ++ rest) (sp_more ha) hwb
      have h10e : (10 : UInt8) ∉ ah ++ [101, 110, 100] := by
        intro hm
        rcases List.mem_append.1 hm with hm | hm
        · exact sp_no10 ha hm
        · exact absurd hm (by decide)
      have e : wrT (.mk 5 num nm ds names t body) ah ++ rest = (ah ++ lineF (5 : Int).toNat num nm ds names t) ++ 10 :: (wrTL body (ah ++ [32, 32]) ++ (ah ++ [101, 110, 100] ++ [10] ++ rest)) := by
        simp [wrT]
      have e2 : ah ++ [101, 110, 100] ++ [10] ++ rest = (ah ++ [101, 110, 100]) ++ 10 :: rest := by simp
      rw [e, lns_app, lns_one h10, List.map_append, ihb, e2, lns_app, lns_one h10e, List.map_append, List.map_singleton, List.map_singleton, hl, end_line ah ha]
      simp [rwS]
    · have e : wrT (.mk op num nm ds names t body) ah ++ rest = (ah ++ lineF op.toNat num nm ds names t) ++ 10 :: rest := by
        simp [wrT, h5]
      rw [e, lns_app, lns_one h10, List.map_append, List.map_singleton, hl]
      simp [rwS, h5]
theorem wrTL_rows : ∀ (l : List Sm) (ah rest : Bs), (∀ c ∈ ah, c = 32) → wrBL l = true → (lns (wrTL l ah ++ rest)).map lineT = rwL l ++ (lns rest).map lineT
  | [], ah, rest, _, _ => by simp [wrTL, rwL]
  | s :: r, ah, rest, ha, hw => by
    simp only [wrBL, Bool.and_eq_true] at hw
    have h1 := wrT_rows s ah (wrTL r ah ++ rest) ha hw.1
    have h2 := wrTL_rows r ah rest ha hw.2
    rw [show wrTL (s :: r) ah ++ rest = wrT s ah ++ (wrTL r ah ++ rest) by simp [wrTL], h1, h2]
    simp [rwL]
end
theorem pre_pre (a b : List Sm) (r : Rs) : (r.pre b).pre a = r.pre (a ++ b) := by cases r <;> simp [Rs.pre]
theorem told_two (op : Nat) (num : Int) (nm ds : Bs) (names : List Bs) (t : Ty) : toldF op num nm ds names t ≠ [wEnd] := by
  unfold toldF
  simp
mutual
theorem rwS_blk : ∀ (s : Sm) (rest : List Bs) (i n cnt : Nat), wrB s = true → dpS s (i : Int) = true → cnt + s.count ≤ 60 → blkR (rwS s ++ rest) i n cnt = (blkR rest i (n + (rwS s).length) (cnt + s.count)).cons s
  | .mk op num nm ds names t body, rest, i, n, cnt, hw, hd, hc => by
    simp only [wrB, Bool.and_eq_true] at hw
    obtain ⟨hC, hb⟩ := okS_can hw.1
    obtain ⟨h1, h2⟩ := hC.told
    have hne : lineF op.toNat num nm ds names t ≠ [] := join_ne _ (toldF_ne _ _ _ _ _ _) h1
    have hwd : wordsF (lineF op.toNat num nm ds names t) = toldF op.toNat num nm ds names t := words_join _ h1
    simp only [Sm.count] at hc ⊢
    simp only [dpS, Bool.and_eq_true, decide_eq_true_eq] at hd
    have h60 : ¬ 60 < cnt + 1 := by omega
    by_cases h5 : op = 5
    · subst h5
      have hwb : wrBL body = true := by simpa using hw.2
      have hi : ¬ i = 4 := by have := hd.1; rw [if_pos rfl] at this; omega
      have hdb : dpL body ((i + 1 : Nat) : Int) = true := by have := hd.2; rw [if_pos rfl] at this; exact this
      have ihb := rwL_blk body (wEnd :: rest) (i + 1) (n + 1) (cnt + 1) hwb hdb (by omega)
      have e : rwS (.mk 5 num nm ds names t body) ++ rest = lineF (5 : Int).toNat num nm ds names t :: (rwL body ++ wEnd :: rest) := by simp [rwS]
      have hE : ∀ n' c', blkR (wEnd :: rest) (i + 1) n' c' = .ok [] rest (n' + 1) c' := fun n' c' => by
        rw [blkR_cons, if_neg (by decide)]
        unfold stepR
        rw [end_words, if_pos rfl, if_pos (by omega)]
      rw [e, blkR_cons, if_neg hne]
      unfold stepR
      rw [hwd, if_neg (told_two _ _ _ _ _ _), h2]
      unfold stepS
      simp only
      rw [if_neg h60, if_pos (by rfl), if_neg hi, ihb, hE]
      simp only [Rs.pre, List.append_nil]
      have hlen : (rwS (.mk 5 num nm ds names t body)).length = (rwL body).length + 2 := by simp [rwS]
      rw [hlen, show n + 1 + (rwL body).length + 1 = n + ((rwL body).length + 2) by omega, show cnt + 1 + cntL body = cnt + (1 + cntL body) by omega]
      rfl
    · have hbn : body = [] := List.eq_nil_of_length_eq_zero (hb h5)
      subst hbn
      have e : rwS (.mk op num nm ds names t []) ++ rest = lineF op.toNat num nm ds names t :: rest := by simp [rwS, h5]
      rw [e, blkR_cons, if_neg hne]
      unfold stepR
      rw [hwd, if_neg (told_two _ _ _ _ _ _), h2]
      unfold stepS
      simp only
      rw [if_neg h60, if_neg (by exact h5)]
      have hlen : (rwS (.mk op num nm ds names t [])).length = 1 := by simp [rwS, h5]
      rw [hlen]
      simp [cntL]
theorem rwL_blk : ∀ (l : List Sm) (rest : List Bs) (i n cnt : Nat), wrBL l = true → dpL l (i : Int) = true → cnt + cntL l ≤ 60 → blkR (rwL l ++ rest) i n cnt = (blkR rest i (n + (rwL l).length) (cnt + cntL l)).pre l
  | [], rest, i, n, cnt, _, _, _ => by simp [rwL, cntL, pre_nil]
  | s :: r, rest, i, n, cnt, hw, hd, hc => by
    simp only [wrBL, Bool.and_eq_true] at hw
    simp only [dpL, Bool.and_eq_true] at hd
    simp only [cntL] at hc
    have h1 := rwS_blk s (rwL r ++ rest) i n cnt hw.1 hd.1 (by omega)
    have h2 := rwL_blk r rest i (n + (rwS s).length) (cnt + s.count) hw.2 hd.2 (by omega)
    rw [show rwL (s :: r) ++ rest = rwS s ++ (rwL r ++ rest) by simp [rwL], h1, h2]
    rw [show (rwL (s :: r)).length = (rwS s).length + (rwL r).length by simp [rwL], show cntL (s :: r) = s.count + cntL r by simp [cntL]]
    rw [pre_cons, show n + (rwS s).length + (rwL r).length = n + ((rwS s).length + (rwL r).length) by omega, show cnt + s.count + cntL r = cnt + (s.count + cntL r) by omega]
end
/-- WHAT IS WRITTEN IS READ. -/
theorem parse_write (l : List Sm) (hw : wrBL l = true) (he : evB 0 0 l = true) : parseR (wrTL l []) = (l, 0) := by
  simp only [evB, Bool.and_eq_true, decide_eq_true_eq] at he
  have h1 := wrTL_rows l [] [] (fun c hc => by cases hc) hw
  rw [List.append_nil] at h1
  rw [parseR_blkR, show linesM (wrTL l []) true = (lns (wrTL l [])).map lineT by unfold linesM; rw [if_pos rfl], h1]
  rw [rwL_blk l _ 0 0 0 hw he.2 (by omega)]
  have e : (lns ([] : Bs)).map lineT = [[]] := rfl
  rw [e, blkR_cons, if_pos rfl]
  have e2 : ∀ n c, blkR [] 0 n c = .ok [] [] n c := fun n c => rfl
  rw [e2]
  simp [Rs.pre]
/-- WHAT WAS READ HAS LINES. -/
theorem blk_fine : ∀ (f : Nat) (rows : List Bs) (i line cnt : Nat) (l : List Sm) (rest : List Bs) (a b : Nat), blk f rows i line cnt = .ok l rest a b → i ≤ 4 → wrBL l = true ∧ dpL l (i : Int) = true
  | 0, _, _, _, _, _, _, _, _, h, _ => by simp [blk] at h
  | f + 1, rows, i, line, cnt, l, rest, a, b, h, hi => by
    unfold blk at h
    cases rows with
    | nil =>
      simp only at h
      split at h
      · cases h; exact ⟨rfl, rfl⟩
      · cases h
    | cons x rs =>
      simp only at h
      split at h
      · exact blk_fine f _ _ _ _ _ _ _ _ h hi
      split at h
      · split at h
        · cases h; exact ⟨rfl, rfl⟩
        · cases h
      split at h
      · cases h
      rename_i s hs
      have hb := readS_body hs
      obtain ⟨op, num, nm, ds, names, t, body⟩ := s
      have hC := readS_can hs
      simp only [Sm.body] at hb
      subst hb
      split at h
      · cases h
      split at h
      · rename_i h5
        simp only [Sm.op] at h5
        subst h5
        split at h
        · cases h
        rename_i h4
        split at h
        · cases h
        rename_i B rs' line' cnt' hB
        have h1 := blk_fine f _ _ _ _ _ _ _ _ hB (by omega)
        generalize hR : blk f rs' i line' cnt' = R at h
        cases R with
        | bad k => simp [Rs.cons] at h
        | ok l2 r2 a2 b2 =>
          simp only [Rs.cons] at h
          cases h
          have h2 := blk_fine f _ _ _ _ _ _ _ _ hR hi
          have hok := hC.okS (bl := B.length) (fun h => absurd rfl h)
          refine ⟨?_, ?_⟩
          · simp [wrBL, Sm.withBody, wrB, Sm.op, Sm.num, Sm.nm, Sm.dst, Sm.names, Sm.ty, hok, h1.1, h2.1]
          · have e : ((i : Int) + 1) = ((i + 1 : Nat) : Int) := by omega
            simp only [dpL, Sm.withBody, dpS, Sm.op, if_pos, h2.2, Bool.and_true, e, h1.2]
            simp; omega
      · rename_i h5
        simp only [Sm.op] at h5
        generalize hR : blk f rs i (line + 1) (cnt + 1) = R at h
        cases R with
        | bad k => simp [Rs.cons] at h
        | ok l2 r2 a2 b2 =>
          simp only [Rs.cons] at h
          cases h
          have h2 := blk_fine f _ _ _ _ _ _ _ _ hR hi
          have hok := hC.okS (bl := 0) (fun _ => rfl)
          refine ⟨?_, ?_⟩
          · simp [wrBL, wrB, hok, h5, h2.1]
          · simp only [dpL, dpS, if_neg h5, h2.2, Bool.and_true]
            simp; omega
theorem parse_fine {text : Bs} (h : (parseR text).2 = 0) : evB 0 0 (parseR text).1 = true ∧ wrBL (parseR text).1 = true := by
  rw [parseR_blkR] at h ⊢
  cases hB : blkR (linesM text true) 0 0 0 with
  | bad k =>
    rw [hB] at h
    simp only at h
    have := blk_bad _ _ _ _ _ _ (by omega) (by omega) hB
    omega
  | ok l rest n cnt =>
    have h1 := blk_fine _ _ _ _ _ _ _ _ _ hB (by omega)
    have h2 := blk_cnt _ _ _ _ _ _ _ _ _ hB
    simp only
    refine ⟨?_, h1.1⟩
    simp only [evB, Bool.and_eq_true, decide_eq_true_eq]
    exact ⟨by omega, h1.2⟩
theorem print_fine {l : List Sm} (he : evB 0 0 l = true) (hw : wrBL l = true) : printF l = (wrTL l [], 0) := by
  unfold printF
  rw [if_neg (by rw [he]; simp), if_neg (by rw [hw]; simp)]
theorem print_zero {l : List Sm} (h : (printF l).2 = 0) : evB 0 0 l = true ∧ wrBL l = true := by
  unfold printF at h
  split at h
  · cases h
  · rename_i h1
    split at h
    · cases h
    · rename_i h2
      exact ⟨by simpa using h1, by simpa using h2⟩
end Go.Proofs.YtjppcfjjpkniaaaGreatDoor
namespace Go.Proofs.YtjppcfjjpkniaaaGreatDoor
set_option maxRecDepth 100000

/-- Words with a place behind each. -/
def sumW : List Bs → Nat | [] => 0 | x :: r => x.length + 1 + sumW r
theorem sumW_app : ∀ a b : List Bs, sumW (a ++ b) = sumW a + sumW b
  | [], b => by simp [sumW]
  | x :: a, b => by simp only [List.cons_append, sumW, sumW_app a b]; omega
theorem sumW_len : ∀ a : List Bs, a.length ≤ sumW a
  | [] => by simp [sumW]
  | x :: a => by have := sumW_len a; simp only [sumW, List.length_cons]; omega
theorem join_len : ∀ ws : List Bs, ws ≠ [] → (Lib.join ws [32]).length + 1 = sumW ws
  | [], h => absurd rfl h
  | [x], _ => by rw [Lib.join_one]; rfl
  | x :: y :: r, _ => by
    have := join_len (y :: r) (by simp)
    rw [join_two, List.length_append, List.length_append]
    simp only [List.length_singleton]
    rw [sumW, ← this]; omega
mutual
/-- What a statement's own texts take. -/
def wtS : Sm → Nat | .mk _ _ nm ds names _ body => nm.length + ds.length + sumW names + wtL body
def wtL : List Sm → Nat | [] => 0 | s :: r => wtS s + wtL r
end
mutual
/-- Numbers that are the machine's. -/
def nrS : Sm → Prop | .mk op n _ _ _ _ body => (-9223372036854775808 ≤ op ∧ op ≤ 9223372036854775807) ∧ (-9223372036854775808 ≤ n ∧ n ≤ 9223372036854775807) ∧ nrL body
def nrL : List Sm → Prop | [] => True | s :: r => nrS s ∧ nrL r
end
theorem opNm_le (k : Nat) : (opNm k).length ≤ 6 := by
  by_cases h : k < 10
  · have : ∀ k, k < 10 → (opNm k).length ≤ 6 := by decide
    exact this k h
  · obtain ⟨j, rfl⟩ : ∃ j, k = j + 10 := ⟨k - 10, by omega⟩
    have : opNm (j + 10) = [] := by
      unfold opNm
      simp [opW]
    rw [this]; simp
theorem prT_le (t : Ty) : (prT t).length ≤ 3200 := by
  unfold prT
  split
  · rename_i h
    have hr := (right_err t).2 h
    have hf := right_formed hr
    have hc : t.count ≤ 100 := by
      unfold Ty.right at hr
      simp only [Bool.and_eq_true, decide_eq_true_eq] at hr
      exact hr.1.2
    have := txt_le t.count t (Nat.le_refl _) hf.1
    omega
  · simp
theorem lineF_le (op : Nat) (num : Int) (nm ds : Bs) (names : List Bs) (t : Ty) (h0 : -9223372036854775808 ≤ num) (h1 : num ≤ 9223372036854775807) : (lineF op num nm ds names t).length ≤ nm.length + ds.length + sumW names + 3300 := by
  have hj := join_len (toldF op num nm ds names t) (toldF_ne _ _ _ _ _ _)
  have ho := opNm_le op
  have hp := prT_le t
  have hi := Lib.itoa_length_le num h0 h1
  have hs : sumW (toldF op num nm ds names t) ≤ nm.length + ds.length + sumW names + 3300 := by
    unfold toldF
    rw [sumW_app, sumW_app]
    simp only [sumW]
    split
    · simp only [sumW]; omega
    split
    · simp only [sumW]; omega
    split
    · simp only [sumW]; omega
    · simp only [sumW]; omega
  unfold lineF
  omega
mutual
theorem fineS_of : ∀ (s : Sm), nrS s → wtS s ≤ 1048576 → fineS s
  | .mk op n nm ds names t body, hn, hw => by
    simp only [nrS] at hn
    simp only [wtS] at hw
    have hl := lineF_le op.toNat n nm ds names t hn.2.1.1 hn.2.1.2
    have h2 := sumW_len names
    have h3 := prT_le t
    have h4 := Lib.itoa_length_le n hn.2.1.1 hn.2.1.2
    exact ⟨⟨hn.2.1, by omega, by omega, by omega, by omega, by omega, by omega⟩, fineL_of body hn.2.2 (by omega)⟩
theorem fineL_of : ∀ (l : List Sm), nrL l → wtL l ≤ 1048576 → fineL l
  | [], _, _ => trivial
  | s :: r, hn, hw => by
    simp only [nrL] at hn
    simp only [wtL] at hw
    exact ⟨fineS_of s hn.1 (by omega), fineL_of r hn.2 (by omega)⟩
end
mutual
theorem wrT_le : ∀ (s : Sm) (ah : Bs) (d : Int), nrS s → dpS s d = true → 0 ≤ d → (ah.length : Int) ≤ 2 * d → (wrT s ah).length ≤ wtS s + 3400 * s.count
  | .mk op n nm ds names t body, ah, d, hn, hd, h0, ha => by
    simp only [nrS] at hn
    simp only [dpS, Bool.and_eq_true, decide_eq_true_eq] at hd
    have hl := lineF_le op.toNat n nm ds names t hn.2.1.1 hn.2.1.2
    simp only [wrT, wtS, Sm.count, List.length_append, List.length_singleton]
    by_cases h5 : op = 5
    · rw [if_pos h5] at hd
      have ih := wrTL_le body (ah ++ [32, 32]) (d + 1) hn.2.2 hd.2 (by omega) (by rw [List.length_append]; simp; omega)
      rw [if_pos h5]
      simp only [List.length_append, List.length_cons, List.length_nil]
      omega
    · rw [if_neg h5] at hd ⊢
      simp only [List.length_nil]
      omega
theorem wrTL_le : ∀ (l : List Sm) (ah : Bs) (d : Int), nrL l → dpL l d = true → 0 ≤ d → (ah.length : Int) ≤ 2 * d → (wrTL l ah).length ≤ wtL l + 3400 * cntL l
  | [], _, _, _, _, _, _ => by simp [wrTL]
  | s :: r, ah, d, hn, hd, h0, ha => by
    simp only [nrL] at hn
    simp only [dpL, Bool.and_eq_true] at hd
    have h1 := wrT_le s ah d hn.1 hd.1 h0 ha
    have h2 := wrTL_le r ah d hn.2 hd.2 h0 ha
    simp only [wrTL, wtL, cntL, List.length_append]
    omega
end
theorem print_len {l : List Sm} (hn : nrL l) (hw : wtL l ≤ 1048576) (he : evB 0 0 l = true) : (wrTL l []).length ≤ 1300000 := by
  simp only [evB, Bool.and_eq_true, decide_eq_true_eq] at he
  have := wrTL_le l [] 0 hn he.2 (by omega) (by simp)
  omega
theorem names_len {names : List Bs} (h : names.all nameB = true) : sumW names ≤ 9 * names.length := by
  induction names with
  | nil => simp [sumW]
  | cons x r ih =>
    simp only [List.all_cons, Bool.and_eq_true] at h
    have h1 := nameB_le h.1
    have h2 := ih h.2
    simp only [sumW, List.length_cons]; omega
theorem CanB.le {op num : Int} {nm ds : Bs} {names : List Bs} {t : Ty} (h : CanB op num nm ds names t) : nm.length + ds.length + sumW names ≤ 16 + 9 * names.length ∧ (-9223372036854775808 ≤ op ∧ op ≤ 9223372036854775807) ∧ (-9223372036854775808 ≤ num ∧ num ≤ 9223372036854775807) := by
  have ho := h.op
  obtain ⟨hnm, h⟩ := h
  have h8 := nameB_le hnm
  rcases h with ⟨rfl, rfl, hd, rfl, rfl⟩ | ⟨ho, rfl, rfl, rfl, rfl⟩ | ⟨rfl, ⟨n, rfl, hn⟩, rfl, rfl, ht⟩ | ⟨rfl, ⟨n, rfl, hn⟩, rfl, rfl, rfl⟩ | ⟨rfl, rfl, hd, hl, ha, rfl⟩ | ⟨ho, rfl, rfl, hl, ha, rfl⟩
  · have := nameB_le hd
    simp only [sumW, List.length_nil]; omega
  · simp only [sumW, List.length_nil]; omega
  · simp only [sumW, List.length_nil]; omega
  · simp only [sumW, List.length_nil]; omega
  · have := nameB_le hd
    have := names_len ha
    omega
  · have := names_len ha
    simp only [List.length_nil]; omega
theorem readR_len {o : Nat} {ws : List Bs} {s : Sm} (h : readR o ws = some s) : s.names.length ≤ ws.length := by
  unfold readR at h
  repeat' split at h
  all_goals first | cases h; done | (cases h; simp only [Sm.names, List.length_cons, List.length_nil]; omega)
theorem readS_len {ws : List Bs} {s : Sm} (h : readS ws = some s) : s.names.length ≤ ws.length := by
  unfold readS at h
  split at h
  · cases h
  · split at h
    · cases h
    · have := readR_len h
      simp only [List.length_cons]; omega
def sumR : List Bs → Nat | [] => 0 | x :: r => x.length + sumR r
theorem blk_wt : ∀ (f : Nat) (rows : List Bs) (i line cnt : Nat) (l : List Sm) (rest : List Bs) (a b : Nat), blk f rows i line cnt = .ok l rest a b → nrL l ∧ wtL l + 9 * sumR rest ≤ 16 * cntL l + 9 * sumR rows
  | 0, _, _, _, _, _, _, _, _, h => by simp [blk] at h
  | f + 1, rows, i, line, cnt, l, rest, a, b, h => by
    unfold blk at h
    cases rows with
    | nil =>
      simp only at h
      split at h
      · cases h; exact ⟨trivial, by simp [wtL, cntL]⟩
      · cases h
    | cons x rs =>
      simp only [sumR]
      simp only at h
      split at h
      · have := blk_wt f _ _ _ _ _ _ _ _ h
        exact ⟨this.1, by omega⟩
      split at h
      · split at h
        · cases h; exact ⟨trivial, by simp only [wtL, cntL]; omega⟩
        · cases h
      split at h
      · cases h
      rename_i s hs
      have hb := readS_body hs
      have hl := readS_len hs
      have hx := wordsF_len x.length x (Nat.le_refl _)
      obtain ⟨op, num, nm, ds, names, t, body⟩ := s
      have hC := (readS_can hs).le
      simp only [Sm.body] at hb
      simp only [Sm.names] at hl
      subst hb
      split at h
      · cases h
      split at h
      · split at h
        · cases h
        split at h
        · cases h
        rename_i B rs' line' cnt' hB
        have h1 := blk_wt f _ _ _ _ _ _ _ _ hB
        generalize hR : blk f rs' i line' cnt' = R at h
        cases R with
        | bad k => simp [Rs.cons] at h
        | ok l2 r2 a2 b2 =>
          simp only [Rs.cons] at h
          cases h
          have h2 := blk_wt f _ _ _ _ _ _ _ _ hR
          refine ⟨⟨⟨hC.2.1, hC.2.2, h1.1⟩, h2.1⟩, ?_⟩
          simp only [wtL, wtS, cntL, Sm.count, Sm.withBody, Sm.nm, Sm.dst, Sm.names]
          omega
      · generalize hR : blk f rs i (line + 1) (cnt + 1) = R at h
        cases R with
        | bad k => simp [Rs.cons] at h
        | ok l2 r2 a2 b2 =>
          simp only [Rs.cons] at h
          cases h
          have h2 := blk_wt f _ _ _ _ _ _ _ _ hR
          refine ⟨⟨⟨hC.2.1, hC.2.2, trivial⟩, h2.1⟩, ?_⟩
          simp only [wtL, wtS, cntL, Sm.count]
          omega
theorem lns_sum : ∀ l : Bs, sumR (lns l) ≤ l.length
  | [] => by simp [lns, sumR]
  | c :: r => by
    have ih := lns_sum r
    rw [lns_cons]
    split
    · simp only [sumR, List.length_cons, List.length_nil]; omega
    · cases hr : lns r with
      | nil => exact absurd hr (lns_ne r)
      | cons y ys =>
        rw [hr] at ih
        simp only [sumR, List.length_cons] at ih ⊢
        omega
theorem sumR_line : ∀ l : List Bs, sumR (l.map lineT) ≤ sumR l
  | [] => Nat.le_refl _
  | x :: r => by
    have h1 := sumR_line r
    have h2 : (lineT x).length ≤ x.length := Nat.le_trans (trimL_len _) (List.takeWhile_sublist _).length_le
    simp only [List.map_cons, sumR]; omega
/-- What is read of a text is short. -/
theorem parse_wt {text : Bs} (h : (parseR text).2 = 0) (hl : text.length ≤ 2500) : nrL (parseR text).1 ∧ wtL (parseR text).1 ≤ 1048576 := by
  rw [parseR_blkR] at h ⊢
  have hle : linesM text true = (lns text).map lineT := by unfold linesM; rw [if_pos rfl]
  cases hB : blkR (linesM text true) 0 0 0 with
  | bad k =>
    rw [hB] at h
    simp only at h
    have := blk_bad _ _ _ _ _ _ (by omega) (by omega) hB
    omega
  | ok l rest n cnt =>
    have h1 := blk_wt _ _ _ _ _ _ _ _ _ hB
    have h2 := blk_cnt _ _ _ _ _ _ _ _ _ hB
    have h3 := lns_sum text
    have h4 := sumR_line (lns text)
    rw [hle] at h1
    simp only
    exact ⟨h1.1, by omega⟩
end Go.Proofs.YtjppcfjjpkniaaaGreatDoor
namespace Go.Proofs.YtjppcfjjpkniaaaGreatDoor
open Go.ChangeShapes Go.WideShapes Go.ChangeAt Go.RowKit
set_option maxRecDepth 100000

theorem i64_of {n : Int} (h : (Lit.int .i64 n).wf = true) : -9223372036854775808 ≤ n ∧ n ≤ 9223372036854775807 := by
  have hmin : IntKind.i64.min = -9223372036854775808 := rfl
  have hmax : IntKind.i64.max = 9223372036854775807 := rfl
  simp only [Lit.wf, Bool.and_eq_true, decide_eq_true_eq] at h
  omega
theorem cells23 : Tryz.prog.cellsOf 23 = 1 := by kernel_rfl
theorem cells46 : Tryz.prog.cellsOf 46 = 1 := by kernel_rfl
theorem cells47 : Tryz.prog.cellsOf 47 = 1 := by kernel_rfl
theorem cells49 : Tryz.prog.cellsOf 49 = 4 := by kernel_rfl
theorem cells51 : Tryz.prog.cellsOf 51 = 10 := by kernel_rfl
theorem list4 {α : Type} : ∀ {l : List α}, l.length = 4 → ∃ a b c d, l = [a, b, c, d]
  | [a, b, c, d], _ => ⟨a, b, c, d, rfl⟩
theorem list7 {α : Type} : ∀ {l : List α}, l.length = 7 → ∃ a b c d e f g, l = [a, b, c, d, e, f, g]
  | [a, b, c, d, e, f, g], _ => ⟨a, b, c, d, e, f, g, rfl⟩
theorem list10 {α : Type} : ∀ {l : List α}, l.length = 10 → ∃ a b c d e f g h i j, l = [a, b, c, d, e, f, g, h, i, j]
  | [a, b, c, d, e, f, g, h, i, j], _ => ⟨a, b, c, d, e, f, g, h, i, j, rfl⟩
theorem sumW_bulk {H : Type} (f : Nat → Bs) (D : Nat → DataW H) : ∀ (L : List Nat), (∀ i ∈ L, Rows.uptoBulk (D i) = (f i).length + 1) → sumW (L.map f) = Rows.uptoBulkAll (L.map D)
  | [], _ => rfl
  | i :: L, h => by
    simp only [List.map_cons, sumW, Rows.uptoBulkAll]
    rw [sumW_bulk f D L fun j hj => h j (List.mem_cons_of_mem _ hj), h i (by simp)]
theorem wtL_bulk {H : Type} (f : Nat → Sm) (D : Nat → DataW H) : ∀ (L : List Nat), (∀ i ∈ L, wtS (f i) ≤ Rows.uptoBulk (D i)) → wtL (L.map f) ≤ Rows.uptoBulkAll (L.map D)
  | [], _ => Nat.le_refl _
  | i :: L, h => by
    have h1 := wtL_bulk f D L fun j hj => h j (List.mem_cons_of_mem _ hj)
    have h2 := h i (by simp)
    simp only [List.map_cons, wtL, Rows.uptoBulkAll]; omega
theorem nrL_map (f : Nat → Sm) : ∀ (L : List Nat), (∀ i ∈ L, nrS (f i)) → nrL (L.map f)
  | [], _ => trivial
  | i :: L, h => ⟨h i (by simp), nrL_map f L fun j hj => h j (List.mem_cons_of_mem _ hj)⟩
theorem strs_read {H : Type} {enc : TypeId × Value → H} {W : World} {spare : Nat → Bool} {held : Bool} {fuel : Nat} {v : Value} {x : DataW H × List MemPlace} (h : DataW.trod enc Tryz.prog W 0 spare held fuel 46 [v] = some x) : ∃ l : List Bs, Strs W (fun _ => True) v l ∧ sumW l ≤ Rows.uptoBulk x.1 := by
  rcases Deep.open_slice Tryz.underlying46 h with ⟨hcs, _⟩ | ⟨a, len, cap, m, n, D, Pl, hcs, _, hl, hm, hmm, hx, hel⟩
  · simp at hcs
    subst hcs
    exact ⟨[], ⟨none, 0, rfl, Nat.zero_le _, ⟨Nat.le_refl _, fun x hx => by cases hx⟩, Or.inl rfl⟩, Nat.zero_le _⟩
  · simp at hcs
    subst hcs
    have hlm : len ≤ m := by rw [hmm]; split <;> omega
    have hone : ∀ i, ∃ st : Bs, i < len → (st.length ≤ maxLen ∧ W.cell? (a.add (i * 1)) = some (str st) ∧ Rows.uptoBulk (D i) = st.length + 1) := by
      intro i
      by_cases hi : i < len
      · obtain ⟨cs', hc, hr⟩ := hel i (by omega)
        rw [cells9] at hc
        obtain ⟨s, e0, f0, hw⟩ := DataW.trod_string Tryz.underlying9 hr
        obtain ⟨_, _, hcell⟩ := World.cells?_some hc
        have h0 := hcell 0 (by omega)
        rw [e0] at h0
        refine ⟨s.data.toList, fun _ => ⟨by show s.data.toList.length ≤ maxLen; rw [Array.length_toList]; exact hw, ?_, ?_⟩⟩
        · have e1 : (a.add (i * 1)).add 0 = a.add (i * 1) := by simp [Addr.add]
          rw [e1] at h0
          rw [h0]
          rfl
        · have e2 : D i = .lit (.string s.data.toList) := (Prod.mk.inj f0).1
          rw [e2]; rfl
      · exact ⟨[], fun h => absurd h hi⟩
    obtain ⟨f, hf⟩ := Classical.axiomOfChoice hone
    have hbulk : sumW ((List.range len).map f) ≤ Rows.uptoBulk x.1 := by
      rw [sumW_bulk f D _ fun i hi => (hf i (List.mem_range.1 hi)).2.2, hx]
      simp only [Rows.uptoBulk]; omega
    refine ⟨(List.range len).map f, ⟨some a, cap, by simp, by simp; omega, ⟨by simp; exact hl, fun x hx => ?_⟩, ?_⟩, hbulk⟩
    · obtain ⟨i, hi, rfl⟩ := List.mem_map.1 hx
      exact (hf i (List.mem_range.1 hi)).1
    · by_cases h0 : len = 0
      · subst h0; exact Or.inl rfl
      · right
        obtain ⟨b, off, spot⟩ := a
        have hc := (hf 0 (by omega)).2.1
        have hspot : spot = none := by simpa [Addr.add] using World.cell?_spot hc
        subst hspot
        have hlt := World.block_lt_of_cell? W _ hc
        rw [Addr.add_mid] at hlt
        refine ⟨b, off, rfl, trivial, hlt, fun i x hx => ?_⟩
        rw [List.getElem?_map] at hx
        obtain ⟨j, h1, rfl⟩ := Option.map_eq_some_iff.1 hx
        obtain ⟨h2, h3⟩ := List.getElem?_eq_some_iff.1 h1
        have hi : i < len := by simpa using h2
        have hj : j = i := by simpa using h3.symm
        subst hj
        have := (hf j hi).2.1
        rw [Addr.add_mid, Nat.mul_one] at this
        exact this
theorem type_read {H : Type} {enc : TypeId × Value → H} {W : World} {spare : Nat → Bool} {held : Bool} : ∀ (N : Nat) (d : DataW H), SizeOf.sizeOf d ≤ N → ∀ (fuel : Nat) (cs : List Value) (ps : List MemPlace), DataW.trod enc Tryz.prog W 0 spare held fuel 49 cs = some (d, ps) →
    ∃ (T : Ty) (nv kv : Value), cs = [i64 T.kind, i64 T.num, nv, kv] ∧ Rd W (fun _ => True) T nv kv
  | 0, d, hN, _, _, _, _ => by cases d <;> simp at hN <;> omega
  | N + 1, d, hN, fuel, cs, ps, h => by
    obtain ⟨xs, n, _, hx, hl, hlen, hf⟩ := DataW.trod_struct Tryz.underlying49 h
    obtain ⟨c0, c1, c2, c3, rfl⟩ := list4 (hl.trans cells49)
    obtain ⟨x0, x1, x2, x3, rfl⟩ := list4 (show xs.length = 4 from hlen)
    have g0 : DataW.trod enc Tryz.prog W 0 spare held n 3 (([c0, c1, c2, c3].drop 0).take (Tryz.prog.cellsOf 3)) = some x0 := hf 0 _ rfl
    have g1 : DataW.trod enc Tryz.prog W 0 spare held n 3 (([c0, c1, c2, c3].drop 1).take (Tryz.prog.cellsOf 3)) = some x1 := hf 1 _ rfl
    have g2 : DataW.trod enc Tryz.prog W 0 spare held n 46 (([c0, c1, c2, c3].drop 2).take (Tryz.prog.cellsOf 46)) = some x2 := hf 2 _ rfl
    have g3 : DataW.trod enc Tryz.prog W 0 spare held n 47 (([c0, c1, c2, c3].drop 3).take (Tryz.prog.cellsOf 47)) = some x3 := hf 3 _ rfl
    rw [cells3] at g0 g1
    rw [cells46] at g2
    rw [cells47] at g3
    change DataW.trod enc Tryz.prog W 0 spare held n 3 [c0] = _ at g0
    change DataW.trod enc Tryz.prog W 0 spare held n 3 [c1] = _ at g1
    change DataW.trod enc Tryz.prog W 0 spare held n 46 [c2] = _ at g2
    change DataW.trod enc Tryz.prog W 0 spare held n 47 [c3] = _ at g3
    obtain ⟨k0, e0, _, _⟩ := DataW.trod_int Tryz.underlying3 g0
    obtain ⟨k1, e1, _, _⟩ := DataW.trod_int Tryz.underlying3 g1
    simp only [List.cons.injEq, and_true] at e0 e1
    subst e0 e1
    obtain ⟨names, hn, _⟩ := strs_read g2
    have hd : SizeOf.sizeOf x3.1 < SizeOf.sizeOf d := by
      have e : d = .agg [x0.1, x1.1, x2.1, x3.1] := by simpa using (Prod.mk.inj hx).1
      rw [e]
      simp
      omega
    rcases Deep.open_slice Tryz.underlying47 g3 with ⟨hcs, _⟩ | ⟨a, len, cap, m, n2, D, Pl, hcs, _, hl2, hm, hmm, hx3, hel⟩
    · simp at hcs
      subst hcs
      exact ⟨.mk k0 k1 names [], c2, _, rfl, .mk (kids := []) 0 0 (fun _ => undef) (fun _ => undef) hn (Nat.zero_le _) (Or.inl rfl) (fun i T hT => by simp at hT) (fun i T hT => by simp at hT)⟩
    · simp at hcs
      subst hcs
      have hlm : len ≤ m := by rw [hmm]; split <;> omega
      have hone : ∀ i, ∃ p : Ty × Value × Value, i < len → ((∀ j v, [i64 p.1.kind, i64 p.1.num, p.2.1, p.2.2][j]? = some v → W.cell? ((a.add (i * 4)).add j) = some v) ∧ Rd W (fun _ => True) p.1 p.2.1 p.2.2) := by
        intro i
        by_cases hi : i < len
        · obtain ⟨cs', hc, hr⟩ := hel i (by omega)
          rw [cells49] at hc
          have hdi : SizeOf.sizeOf (D i) < SizeOf.sizeOf d := by
            have : D i ∈ (List.range len).map D := List.mem_map.2 ⟨i, List.mem_range.2 hi, rfl⟩
            have h1 := List.sizeOf_lt_of_mem this
            have h2 : x3.1 = .slice ((List.range len).map D) ((List.range (m - len)).map fun j => D (len + j)) := by rw [hx3]
            rw [h2] at hd
            simp at hd
            omega
          obtain ⟨T, nv, kv, rfl, hR⟩ := type_read N (D i) (by omega) n2 cs' (Pl i) hr
          obtain ⟨_, hlen4, hcell⟩ := World.cells?_some hc
          refine ⟨(T, nv, kv), fun _ => ⟨fun j v hv => ?_, hR⟩⟩
          rw [hcell j (by have := (List.getElem?_eq_some_iff.1 hv).1; simpa using this)]
          exact hv
        · exact ⟨(.mk 0 0 [] [], undef, undef), fun h => absurd h hi⟩
      obtain ⟨f, hf⟩ := Classical.axiomOfChoice hone
      have hlen : ((List.range len).map fun i => (f i).1).length = len := by simp
      refine ⟨.mk k0 k1 names ((List.range len).map fun i => (f i).1), c2, _, rfl, ?_⟩
      have hgoal : Rd W (fun _ => True) (.mk k0 k1 names ((List.range len).map fun i => (f i).1)) c2 (.slice (some a) ((List.range len).map fun i => (f i).1).length cap) := by
        have hget : ∀ (i : Nat) (T : Ty), ((List.range len).map fun i => (f i).1)[i]? = some T → i < len ∧ T = (f i).1 := by
          intro i T h1
          rw [List.getElem?_map] at h1
          obtain ⟨j, h2, rfl⟩ := Option.map_eq_some_iff.1 h1
          obtain ⟨h3, h4⟩ := List.getElem?_eq_some_iff.1 h2
          have hi : i < len := by simpa using h3
          have hj : j = i := by simpa using h4.symm
          subst hj
          exact ⟨hi, rfl⟩
        by_cases h0 : len = 0
        · subst h0
          exact .mk (kids := (List.range 0).map fun i => (f i).1) 0 0 (fun _ => undef) (fun _ => undef) hn (Nat.zero_le _) (Or.inl rfl) (fun i T hT => by simp at hT) (fun i T hT => by simp at hT)
        · obtain ⟨b, off, spot⟩ := a
          have hc := (hf 0 (by omega)).1 0 _ rfl
          have hspot : spot = none := by simpa [Addr.add] using World.cell?_spot hc
          subst hspot
          have hlt := World.block_lt_of_cell? W _ hc
          rw [Addr.add_mid, Addr.add_mid] at hlt
          refine .mk b off (fun i => (f i).2.1) (fun i => (f i).2.2) hn (by rw [hlen]; omega) (Or.inr ⟨rfl, trivial, hlt⟩) ?_ ?_
          · intro i T hT j v hv
            obtain ⟨hi, rfl⟩ := hget i T hT
            have := (hf i hi).1 j v hv
            rw [Addr.add_mid, Addr.add_mid] at this
            exact this
          · intro i T hT
            obtain ⟨hi, rfl⟩ := hget i T hT
            exact (hf i hi).2
      rw [hlen] at hgoal
      exact hgoal
theorem stm_read {H : Type} {enc : TypeId × Value → H} {W : World} {spare : Nat → Bool} {held : Bool} : ∀ (N : Nat) (d : DataW H), SizeOf.sizeOf d ≤ N → ∀ (fuel : Nat) (v : Value) (ps : List MemPlace), DataW.trod enc Tryz.prog W 0 spare held fuel 23 [v] = some (d, ps) →
    ∃ l : List Sm, Sds W (fun _ => True) l v ∧ wtL l ≤ Rows.uptoBulk d ∧ nrL l
  | 0, d, hN, _, _, _, _ => by cases d <;> simp at hN <;> omega
  | N + 1, d, hN, fuel, v, ps, h => by
    rcases Deep.open_slice Tryz.underlying23 h with ⟨hcs, _⟩ | ⟨a, len, cap, m, n2, D, Pl, hcs, _, hl2, hm, hmm, hx3, hel⟩
    · simp at hcs
      subst hcs
      exact ⟨[], Sds.nil _ _, Nat.zero_le _, trivial⟩
    · simp at hcs
      subst hcs
      have hlm : len ≤ m := by rw [hmm]; split <;> omega
      have hd3 : d = .slice ((List.range len).map D) ((List.range (m - len)).map fun j => D (len + j)) := (Prod.mk.inj hx3).1
      have hone : ∀ i, ∃ p : Sm × SV, i < len → ((∀ j u, (sc p.1 p.2)[j]? = some u → W.cell? ((a.add (i * 10)).add j) = some u) ∧ Sd W (fun _ => True) p.1 p.2 ∧ wtS p.1 ≤ Rows.uptoBulk (D i) ∧ nrS p.1) := by
        intro i
        by_cases hi : i < len
        · obtain ⟨cs', hc, hr⟩ := hel i (by omega)
          rw [cells51] at hc
          have hdi : SizeOf.sizeOf (D i) < SizeOf.sizeOf d := by
            have : D i ∈ (List.range len).map D := List.mem_map.2 ⟨i, List.mem_range.2 hi, rfl⟩
            have h1 := List.sizeOf_lt_of_mem this
            rw [hd3]
            simp
            omega
          obtain ⟨xs, n, _, hx, hl, hlen, hf⟩ := DataW.trod_struct Tryz.underlying51 hr
          obtain ⟨c0, c1, c2, c3, c4, c5, c6, c7, c8, c9, rfl⟩ := list10 (hl.trans cells51)
          obtain ⟨x0, x1, x2, x3, x4, x5, x6, rfl⟩ := list7 (show xs.length = 7 from hlen)
          have g0 : DataW.trod enc Tryz.prog W 0 spare held n 3 (([c0, c1, c2, c3, c4, c5, c6, c7, c8, c9].drop 0).take (Tryz.prog.cellsOf 3)) = some x0 := hf 0 _ rfl
          have g1 : DataW.trod enc Tryz.prog W 0 spare held n 9 (([c0, c1, c2, c3, c4, c5, c6, c7, c8, c9].drop 1).take (Tryz.prog.cellsOf 9)) = some x1 := hf 1 _ rfl
          have g2 : DataW.trod enc Tryz.prog W 0 spare held n 9 (([c0, c1, c2, c3, c4, c5, c6, c7, c8, c9].drop 2).take (Tryz.prog.cellsOf 9)) = some x2 := hf 2 _ rfl
          have g3 : DataW.trod enc Tryz.prog W 0 spare held n 46 (([c0, c1, c2, c3, c4, c5, c6, c7, c8, c9].drop 3).take (Tryz.prog.cellsOf 46)) = some x3 := hf 3 _ rfl
          have g4 : DataW.trod enc Tryz.prog W 0 spare held n 49 (([c0, c1, c2, c3, c4, c5, c6, c7, c8, c9].drop 4).take (Tryz.prog.cellsOf 49)) = some x4 := hf 4 _ rfl
          have g5 : DataW.trod enc Tryz.prog W 0 spare held n 3 (([c0, c1, c2, c3, c4, c5, c6, c7, c8, c9].drop 8).take (Tryz.prog.cellsOf 3)) = some x5 := hf 5 _ rfl
          have g6 : DataW.trod enc Tryz.prog W 0 spare held n 23 (([c0, c1, c2, c3, c4, c5, c6, c7, c8, c9].drop 9).take (Tryz.prog.cellsOf 23)) = some x6 := hf 6 _ rfl
          rw [cells3] at g0 g5
          rw [cells9] at g1 g2
          rw [cells46] at g3
          rw [cells49] at g4
          rw [cells23] at g6
          change DataW.trod enc Tryz.prog W 0 spare held n 3 [c0] = _ at g0
          change DataW.trod enc Tryz.prog W 0 spare held n 9 [c1] = _ at g1
          change DataW.trod enc Tryz.prog W 0 spare held n 9 [c2] = _ at g2
          change DataW.trod enc Tryz.prog W 0 spare held n 46 [c3] = _ at g3
          change DataW.trod enc Tryz.prog W 0 spare held n 49 [c4, c5, c6, c7] = _ at g4
          change DataW.trod enc Tryz.prog W 0 spare held n 3 [c8] = _ at g5
          change DataW.trod enc Tryz.prog W 0 spare held n 23 [c9] = _ at g6
          obtain ⟨k0, e0, _, w0⟩ := DataW.trod_int Tryz.underlying3 g0
          obtain ⟨s1, e1, f1, w1⟩ := DataW.trod_string Tryz.underlying9 g1
          obtain ⟨s2, e2, f2, w2⟩ := DataW.trod_string Tryz.underlying9 g2
          obtain ⟨k5, e5, _, w5⟩ := DataW.trod_int Tryz.underlying3 g5
          simp only [List.cons.injEq, and_true] at e0 e1 e2 e5
          subst e0 e1 e2 e5
          obtain ⟨names, hn, hnb⟩ := strs_read g3
          obtain ⟨T, tn, tk, e4, hT⟩ := type_read _ x4.1 (Nat.le_refl _) n _ x4.2 g4
          simp only [List.cons.injEq, and_true] at e4
          obtain ⟨rfl, rfl, rfl, rfl⟩ := e4
          have hdd : D i = .agg [x0.1, x1.1, x2.1, x3.1, x4.1, x5.1, x6.1] := by simpa using (Prod.mk.inj hx).1
          have hd6 : SizeOf.sizeOf x6.1 < SizeOf.sizeOf (D i) := by rw [hdd]; simp; omega
          obtain ⟨body, hB, hbb, hbn⟩ := stm_read N x6.1 (by omega) n c9 x6.2 g6
          obtain ⟨_, hlen10, hcell⟩ := World.cells?_some hc
          have z1 : s1.data.toList.length = s1.size := Array.length_toList
          have z2 : s2.data.toList.length = s2.size := Array.length_toList
          refine ⟨(.mk k0 k5 s1.data.toList s2.data.toList names T body, ⟨c3, c6, c7, c9⟩), fun _ => ⟨fun j u hu => ?_, Sd.of hn hT hB, ?_, i64_of w0, i64_of w5, hbn⟩⟩
          · rw [hcell j (by have := (List.getElem?_eq_some_iff.1 hu).1; simpa using this)]
            exact hu
          · rw [hdd]
            have b1 : Rows.uptoBulk x1.1 = s1.data.toList.length + 1 := by rw [f1]; rfl
            have b2 : Rows.uptoBulk x2.1 = s2.data.toList.length + 1 := by rw [f2]; rfl
            simp only [wtS, Rows.uptoBulk, Rows.uptoBulkAll]
            omega
        · exact ⟨(.mk 0 0 [] [] [] ty0 [], ⟨undef, undef, undef, undef⟩), fun h => absurd h hi⟩
      obtain ⟨f, hf⟩ := Classical.axiomOfChoice hone
      have hlen : ((List.range len).map fun i => (f i).1).length = len := by simp
      refine ⟨(List.range len).map fun i => (f i).1, ?_, ?_, nrL_map (fun i => (f i).1) _ fun i hi => (hf i (List.mem_range.1 hi)).2.2.2⟩
      · by_cases h0 : len = 0
        · subst h0
          exact ⟨some a, cap, rfl, by simp, Or.inl rfl⟩
        · obtain ⟨b, off, spot⟩ := a
          have hc := (hf 0 (by omega)).1 0 _ rfl
          have hspot : spot = none := by simpa [Addr.add] using World.cell?_spot hc
          subst hspot
          have hlt := World.block_lt_of_cell? W _ hc
          rw [Addr.add_mid, Addr.add_mid] at hlt
          refine ⟨_, cap, by rw [hlen], by rw [hlen]; omega, Or.inr ⟨b, off, rfl, trivial, hlt, fun i s hs => ?_⟩⟩
          rw [List.getElem?_map] at hs
          obtain ⟨j, h2, rfl⟩ := Option.map_eq_some_iff.1 hs
          obtain ⟨h3, h4⟩ := List.getElem?_eq_some_iff.1 h2
          have hi : i < len := by simpa using h3
          have hj : j = i := by simpa using h4.symm
          subst hj
          refine ⟨(f j).2, fun k u hu => ?_, (hf j hi).2.1⟩
          have := (hf j hi).1 k u hu
          rw [Addr.add_mid, Addr.add_mid] at this
          exact this
      · have := wtL_bulk (fun i => (f i).1) D (List.range len) fun i hi => (hf i (List.mem_range.1 hi)).2.2.1
        rw [hd3]
        simp only [Rows.uptoBulk]
        omega
theorem stms_arg {H : Type} {enc : TypeId × Value → H} {W : World} {spare : Nat → Bool} {held : Bool} {a : Option Addr} {n c : Nat} {d : DataW H} {ps : List MemPlace} (h : DataW.Trod enc Tryz.prog W 0 spare held 23 (.slice a n c) d ps) : ∃ l : List Sm, Sds W (fun _ => True) l (.slice a n c) ∧ wtL l ≤ Rows.uptoBulk d ∧ nrL l := by
  obtain ⟨fuel, hf⟩ := h
  exact stm_read (SizeOf.sizeOf d) d (Nat.le_refl _) fuel (.slice a n c) ps hf
end Go.Proofs.YtjppcfjjpkniaaaGreatDoor
