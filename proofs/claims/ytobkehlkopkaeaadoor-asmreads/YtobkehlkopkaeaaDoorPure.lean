/- Instructions and their bytes, as plain lists and numbers; no statement is proved in this text. -/
import Derived.Test.YtobkehlkopkaeaaDoorRows
namespace Go.Proofs.YtobkehlkopkaeaaDoor

/-- The last k bytes of a number, the highest first. -/
def tb (v : Nat) : Nat → List UInt8
  | 0 => []
  | k + 1 => UInt8.ofNat (v / 2 ^ (8 * k)) :: tb v k
theorem tb_len (v : Nat) : ∀ k, (tb v k).length = k
  | 0 => rfl
  | k + 1 => by simp [tb, tb_len v k]
/-- The number of bytes, the highest first. -/
def nm (l : List UInt8) : Nat := l.foldl (fun a b => a * 256 + b.toNat) 0
theorem nm_snoc (l : List UInt8) (b : UInt8) : nm (l ++ [b]) = nm l * 256 + b.toNat := by unfold nm; rw [List.foldl_append]; rfl
theorem nm_lt (l : List UInt8) : nm l < 256 ^ l.length := by
  rw [← List.reverse_reverse l]
  generalize l.reverse = r
  induction r with
  | nil => simp [nm]
  | cons b r ih =>
    rw [List.reverse_cons, nm_snoc, List.length_append, List.length_singleton, Nat.pow_succ]
    have := b.toNat_lt
    omega
theorem nm_cons (b : UInt8) (l : List UInt8) : nm (b :: l) = b.toNat * 256 ^ l.length + nm l := by
  rw [← List.reverse_reverse l]
  generalize l.reverse = r
  induction r with
  | nil => simp [nm]
  | cons c r ih =>
    rw [List.reverse_cons, nm_snoc, List.length_append, List.length_singleton, Nat.pow_succ, show b :: (r.reverse ++ [c]) = (b :: r.reverse) ++ [c] from rfl, nm_snoc, ih, Nat.add_mul, Nat.mul_assoc]
    omega
/-- What was written is read. -/
theorem nm_tb (v : Nat) : ∀ k, nm (tb v k) = v % 256 ^ k
  | 0 => by simp [tb, nm, Nat.mod_one]
  | k + 1 => by
    show nm (UInt8.ofNat (v / 2 ^ (8 * k)) :: tb v k) = _
    rw [nm_cons, tb_len, nm_tb v k, Nat.mod_pow_succ, UInt8.toNat_ofNat', show (2 : Nat) ^ (8 * k) = 256 ^ k by rw [Nat.pow_mul], show (2 : Nat) ^ 8 = 256 from rfl]
    rw [Nat.mul_comm]
    omega
theorem ofNat_congr {x y : Nat} (h : x % 256 = y % 256) : UInt8.ofNat x = UInt8.ofNat y := by
  rw [← UInt8.toNat_inj, UInt8.toNat_ofNat', UInt8.toNat_ofNat']
  exact h
theorem tb_add (v c : Nat) : ∀ k m, k ≤ m → tb (v + c * 256 ^ m) k = tb v k
  | 0, _, _ => rfl
  | k + 1, m, h => by
    show UInt8.ofNat _ :: tb _ k = UInt8.ofNat _ :: tb v k
    rw [tb_add v c k m (by omega)]
    congr 1
    refine ofNat_congr ?_
    rw [show (2 : Nat) ^ (8 * k) = 256 ^ k by rw [Nat.pow_mul]]
    obtain ⟨d, rfl⟩ : ∃ d, m = k + 1 + d := ⟨m - (k + 1), by omega⟩
    have hp : 0 < 256 ^ k := Nat.pow_pos (by omega)
    rw [show c * 256 ^ (k + 1 + d) = (c * 256 ^ d * 256) * 256 ^ k by rw [Nat.pow_add, Nat.pow_succ]; ac_rfl]
    rw [Nat.add_mul_div_right _ _ hp]
    omega
theorem tb_nm : ∀ t : List UInt8, tb (nm t) t.length = t
  | [] => rfl
  | b :: t => by
    show UInt8.ofNat _ :: tb _ t.length = _
    rw [nm_cons, Nat.add_comm, tb_add _ _ _ _ (Nat.le_refl _), tb_nm t, show (2 : Nat) ^ (8 * t.length) = 256 ^ t.length by rw [Nat.pow_mul]]
    have hp : 0 < 256 ^ t.length := Nat.pow_pos (by omega)
    rw [Nat.add_mul_div_right _ _ hp, Nat.div_eq_of_lt (nm_lt t), Nat.zero_add, UInt8.ofNat_toNat]

structure In where
  op : Int
  a : Int
  b : Int
  n : Int
deriving DecidableEq
def zI : In := ⟨0, 0, 0, 0⟩
def rg (k : Nat) : Nat := if k = 0 ∨ k = 17 ∨ k = 20 then 0 else if k = 1 ∨ k = 18 ∨ k = 19 then 1 else 2
def nb (k : Nat) : Nat := if k = 1 ∨ k = 17 ∨ k = 18 ∨ k = 19 then 2 else if k = 20 then 1 else 0
theorem rg_le (k : Nat) : rg k ≤ 2 := by unfold rg; split; omega; split <;> omega
theorem nb_le (k : Nat) : nb k ≤ 2 := by unfold nb; split; omega; split <;> omega
def rc (k : Nat) : Nat := if 0 < rg k then 1 else 0
def sz (k : Nat) : Nat := 1 + rc k + nb k
theorem sz_le (k : Nat) : 1 ≤ sz k ∧ sz k ≤ 4 := by
  have := nb_le k
  unfold sz rc
  split <;> omega
def szI (op : Int) : Int := if 0 ≤ op ∧ op ≤ 20 then (sz op.toNat : Int) else 0
def isI (i : In) : Bool := decide ((0 ≤ i.op ∧ i.op ≤ 20) ∧ (0 ≤ i.a ∧ i.a ≤ 7) ∧ (0 ≤ i.b ∧ i.b ≤ 7) ∧ 0 ≤ i.n ∧ (rg i.op.toNat = 0 → i.a = 0) ∧ (rg i.op.toNat ≤ 1 → i.b = 0) ∧ i.n < 256 ^ nb i.op.toNat)
theorem isI_out {i : In} (h : isI i = true) : (0 ≤ i.op ∧ i.op ≤ 20) ∧ (0 ≤ i.a ∧ i.a ≤ 7) ∧ (0 ≤ i.b ∧ i.b ≤ 7) ∧ 0 ≤ i.n ∧ (rg i.op.toNat = 0 → i.a = 0) ∧ (rg i.op.toNat ≤ 1 → i.b = 0) ∧ i.n < 256 ^ nb i.op.toNat := of_decide_eq_true h
def plain (i : In) : List UInt8 := UInt8.ofNat i.op.toNat :: ((if 0 < rg i.op.toNat then [UInt8.ofNat (16 * i.a.toNat + i.b.toNat)] else []) ++ tb i.n.toNat (nb i.op.toNat))
theorem plain_len (i : In) : (plain i).length = sz i.op.toNat := by
  unfold plain sz rc
  split <;> simp [tb_len] <;> omega
def btE (i : In) : Int := if isI i then 0 else 4
def btS (i : In) : List UInt8 := if isI i then plain i else []

def parse : List UInt8 → In
  | [] => zI
  | c :: r => if 0 < rg c.toNat then ⟨c.toNat, ((r.headD 0).toNat / 16 : Nat), ((r.headD 0).toNat % 16 : Nat), nm r.tail⟩ else ⟨c.toNat, 0, 0, nm r⟩
/-- The instruction that a text begins with. -/
def hd (l : List UInt8) : Option In :=
  match l with
  | [] => none
  | c :: _ => if c.toNat ≤ 20 ∧ sz c.toNat ≤ l.length ∧ isI (parse (l.take (sz c.toNat))) = true then some (parse (l.take (sz c.toNat))) else none

theorem byte_back (k : Nat) (h : k ≤ 20) : (UInt8.ofNat k).toNat = k := by
  rw [UInt8.toNat_ofNat']
  omega
theorem parse_cons (c : UInt8) (r : List UInt8) : parse (c :: r) = if 0 < rg c.toNat then ⟨c.toNat, ((r.headD 0).toNat / 16 : Nat), ((r.headD 0).toNat % 16 : Nat), nm r.tail⟩ else ⟨c.toNat, 0, 0, nm r⟩ := rfl
theorem parse_op (c : UInt8) (r : List UInt8) : (parse (c :: r)).op = c.toNat := by rw [parse_cons]; split <;> rfl
theorem parse_plain {i : In} (h : isI i = true) : parse (plain i) = i := by
  obtain ⟨h1, h2, h3, h4, h5, h6, h7⟩ := isI_out h
  obtain ⟨op, a, b, n⟩ := i
  simp only at *
  obtain ⟨k, rfl⟩ := Int.eq_ofNat_of_zero_le h1.1
  obtain ⟨a, rfl⟩ := Int.eq_ofNat_of_zero_le h2.1
  obtain ⟨b, rfl⟩ := Int.eq_ofNat_of_zero_le h3.1
  obtain ⟨n, rfl⟩ := Int.eq_ofNat_of_zero_le h4
  simp only [Int.toNat_natCast] at *
  have hn : nm (tb n (nb k)) = n := by rw [nm_tb]; exact Nat.mod_eq_of_lt (by
    have e : ((256 ^ nb k : Nat) : Int) = (256 : Int) ^ nb k := Int.natCast_pow 256 (nb k)
    omega)
  unfold plain
  simp only [Int.toNat_natCast]
  rw [parse_cons, byte_back k (by omega)]
  by_cases hr : 0 < rg k
  · rw [if_pos hr, if_pos hr]
    simp only [List.cons_append, List.nil_append, List.headD_cons, List.tail_cons, hn, UInt8.toNat_ofNat']
    congr 1 <;> omega
  · rw [if_neg hr, if_neg hr, List.nil_append, hn, h5 (by omega), h6 (by omega)]
/-- What was written is read, with anything behind it. -/
theorem hd_plain {i : In} (h : isI i = true) (t : List UInt8) : hd (plain i ++ t) = some i := by
  have hl := plain_len i
  have hp := parse_plain h
  obtain ⟨h1, _⟩ := isI_out h
  have hb := byte_back i.op.toNat (by omega)
  have e : plain i ++ t = UInt8.ofNat i.op.toNat :: ((plain i).tail ++ t) := rfl
  unfold hd
  rw [e]
  simp only
  rw [← e, hb, List.take_left' hl, hp, if_pos ⟨by omega, by simp [hl], h⟩]
theorem plain_parse (c : UInt8) (r : List UInt8) (hr : (c :: r).length = sz c.toNat) : plain (parse (c :: r)) = c :: r := by
  unfold plain
  rw [parse_op, Int.toNat_natCast, UInt8.ofNat_toNat]
  congr 1
  rw [parse_cons]
  unfold sz rc at hr
  by_cases h : 0 < rg c.toNat
  · rw [if_pos h] at hr ⊢
    rw [if_pos h]
    cases r with
    | nil => simp at hr; omega
    | cons d t =>
      have ht : t.length = nb c.toNat := by simp at hr; omega
      simp only [List.headD_cons, List.tail_cons, Int.toNat_natCast]
      rw [← ht, tb_nm, show 16 * (d.toNat / 16) + d.toNat % 16 = d.toNat by omega, UInt8.ofNat_toNat]
      rfl
  · rw [if_neg h] at hr ⊢
    rw [if_neg h]
    have ht : r.length = nb c.toNat := by simp at hr; omega
    simp only [Int.toNat_natCast, List.nil_append]
    rw [← ht, tb_nm]
/-- What is read is written as it was. -/
theorem hd_some {l : List UInt8} {i : In} (h : hd l = some i) : isI i = true ∧ sz i.op.toNat ≤ l.length ∧ plain i = l.take (sz i.op.toNat) := by
  unfold hd at h
  cases l with
  | nil => cases h
  | cons c r =>
    simp only at h
    split at h
    · rename_i hc
      obtain ⟨h1, h2, h3⟩ := hc
      cases h
      have hs := sz_le c.toNat
      obtain ⟨m, hm⟩ : ∃ m, sz c.toNat = m + 1 := ⟨sz c.toNat - 1, by omega⟩
      have e : (c :: r).take (sz c.toNat) = c :: r.take m := by rw [hm]; rfl
      refine ⟨h3, ?_, ?_⟩
      · rw [e, parse_op, Int.toNat_natCast]; exact h2
      · rw [e, parse_op, Int.toNat_natCast, e]
        refine plain_parse c _ ?_
        rw [← e, List.length_take]
        omega
    · cases h

/-- At, as a list's. -/
def atI (l : List UInt8) (p : Int) : In := if 0 ≤ p ∧ p < l.length then (hd (l.drop p.toNat)).getD zI else zI
def atN (l : List UInt8) (p : Int) : Int := if 0 ≤ p ∧ p < l.length then (match hd (l.drop p.toNat) with | some i => p + (sz i.op.toNat : Int) | none => 0) else 0
def atE (l : List UInt8) (p : Int) : Int := if 0 ≤ p ∧ p < l.length then (if (hd (l.drop p.toNat)).isSome then 0 else 4) else 1

/-- All, as a list's. -/
def allF : Nat → List UInt8 → Option (List In)
  | _, [] => some []
  | 0, _ :: _ => none
  | f + 1, c :: r => match hd (c :: r) with
    | none => none
    | some i => (allF f ((c :: r).drop (sz i.op.toNat))).map (i :: ·)
theorem allF_more : ∀ (f g : Nat) (l : List UInt8), l.length ≤ f → l.length ≤ g → allF f l = allF g l
  | f, g, [], _, _ => by cases f <;> cases g <;> rfl
  | 0, _, _ :: _, h, _ => by simp at h
  | _, 0, _ :: _, _, h => by simp at h
  | f + 1, g + 1, c :: r, hf, hg => by
    unfold allF
    cases he : hd (c :: r) with
    | none => rfl
    | some i =>
      simp only
      have := (sz_le i.op.toNat).1
      rw [allF_more f g _ (by simp at *; omega) (by simp at *; omega)]
def allO (l : List UInt8) : Option (List In) := allF l.length l
theorem allO_nil : allO [] = some [] := rfl
theorem allO_none {l : List UInt8} (hl : l ≠ []) (h : hd l = none) : allO l = none := by
  cases l with
  | nil => exact absurd rfl hl
  | cons c r => unfold allO; simp only [List.length_cons]; unfold allF; rw [h]
theorem allO_some {l : List UInt8} {i : In} (h : hd l = some i) : allO l = (allO (l.drop (sz i.op.toNat))).map (i :: ·) := by
  cases l with
  | nil => cases h
  | cons c r =>
    have := (sz_le i.op.toNat).1
    unfold allO
    conv => lhs; simp only [List.length_cons]; unfold allF
    rw [h]
    simp only
    rw [allF_more r.length _ _ (by simp; omega) (Nat.le_refl _)]
/-- The first p bytes have been gone through: they are xs. -/
def Went (l : List UInt8) (p : Nat) (xs : List In) : Prop := p ≤ l.length ∧ allO l = (allO (l.drop p)).map (xs ++ ·)
theorem Went.start (l : List UInt8) : Went l 0 [] := ⟨Nat.zero_le _, by simp⟩
theorem Went.next {l : List UInt8} {p : Nat} {xs : List In} (h : Went l p xs) {i : In} (hi : hd (l.drop p) = some i) : Went l (p + sz i.op.toNat) (xs ++ [i]) := by
  obtain ⟨_, h2, _⟩ := hd_some hi
  rw [List.length_drop] at h2
  refine ⟨by have := h.1; have := (sz_le i.op.toNat).1; omega, ?_⟩
  rw [h.2, allO_some hi, List.drop_drop]
  cases allO (l.drop (p + sz i.op.toNat)) <;> simp
theorem Went.stop {l : List UInt8} {p : Nat} {xs : List In} (h : Went l p xs) (hp : p < l.length) (hi : hd (l.drop p) = none) : allO l = none := by
  rw [h.2, allO_none (by intro e; have := congrArg List.length e; simp at this; omega) hi]
  rfl
theorem Went.end {l : List UInt8} {p : Nat} {xs : List In} (h : Went l p xs) (hp : l.length ≤ p) : allO l = some xs := by
  rw [h.2, List.drop_eq_nil_of_le hp, allO_nil]
  simp
def alE (l : List UInt8) : Int := if 256 < l.length then 2 else if (allO l).isSome then 0 else 4
def alL (l : List UInt8) : List In := if 256 < l.length then [] else (allO l).getD []

theorem allF_join : ∀ (f : Nat) (l : List UInt8) (xs : List In), allF f l = some xs → (∀ i ∈ xs, isI i = true) ∧ xs.flatMap plain = l
  | f, [], xs, h => by
    have : xs = [] := by cases f <;> simpa [allF] using h.symm
    subst this
    simp
  | 0, _ :: _, xs, h => by simp [allF] at h
  | f + 1, c :: r, xs, h => by
    unfold allF at h
    cases he : hd (c :: r) with
    | none => rw [he] at h; cases h
    | some i =>
      rw [he] at h
      simp only at h
      cases ha : allF f ((c :: r).drop (sz i.op.toNat)) with
      | none => rw [ha] at h; cases h
      | some ys =>
        rw [ha] at h
        obtain rfl : i :: ys = xs := by simpa using h
        obtain ⟨h1, h2⟩ := allF_join f _ ys ha
        obtain ⟨h3, h4, h5⟩ := hd_some he
        refine ⟨fun j hj => ?_, ?_⟩
        · rcases List.mem_cons.1 hj with rfl | hj
          · exact h3
          · exact h1 j hj
        · rw [List.flatMap_cons, h2, h5, List.take_append_drop]
theorem allO_join {l : List UInt8} {xs : List In} (h : allO l = some xs) : (∀ i ∈ xs, isI i = true) ∧ xs.flatMap plain = l := allF_join _ _ _ h
theorem join_allO : ∀ (xs : List In), (∀ i ∈ xs, isI i = true) → allO (xs.flatMap plain) = some xs
  | [], _ => rfl
  | i :: xs, h => by
    rw [List.flatMap_cons, allO_some (hd_plain (h i (by simp)) _), List.drop_left' (plain_len i), join_allO xs (fun j hj => h j (by simp [hj]))]
    rfl
theorem allO_append {s t : List UInt8} {a b : List In} (ha : allO s = some a) (hb : allO t = some b) : allO (s ++ t) = some (a ++ b) := by
  obtain ⟨h1, h2⟩ := allO_join ha
  obtain ⟨h3, h4⟩ := allO_join hb
  rw [← h2, ← h4, ← List.flatMap_append]
  exact join_allO _ (fun i hi => by rcases List.mem_append.1 hi with h | h; exact h1 i h; exact h3 i h)
def okL (xs : List In) : Bool := xs.all isI
def joE (xs : List In) : Int := if okL xs then (if 256 < (xs.flatMap plain).length then 2 else 0) else 4
def joS (xs : List In) : List UInt8 := if joE xs = 0 then xs.flatMap plain else []
theorem flat_len (xs : List In) : (xs.flatMap plain).length ≤ 4 * xs.length := by
  induction xs with
  | nil => simp
  | cons i xs ih => rw [List.flatMap_cons, List.length_append, plain_len, List.length_cons]; have := (sz_le i.op.toNat).2; omega
end Go.Proofs.YtobkehlkopkaeaaDoor
