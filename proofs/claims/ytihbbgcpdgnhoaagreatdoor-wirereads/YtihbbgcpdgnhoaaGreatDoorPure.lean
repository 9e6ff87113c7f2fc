/- Types as trees, their texts, and what reads them, as plain lists; no statement is proved in this text. -/
import Derived.Lib.ItoaNum
namespace Go.Proofs.YtihbbgcpdgnhoaaGreatDoor

abbrev Bs := List UInt8
/-- A type, as a tree. -/
inductive Ty where
  | mk (kind n : Int) (names : List Bs) (kids : List Ty)
def Ty.kind : Ty → Int | .mk k _ _ _ => k
def Ty.num : Ty → Int | .mk _ n _ _ => n
def Ty.names : Ty → List Bs | .mk _ _ l _ => l
def Ty.kids : Ty → List Ty | .mk _ _ _ l => l
mutual
def Ty.count : Ty → Nat | .mk _ _ _ l => 1 + countL l
def countL : List Ty → Nat | [] => 0 | t :: r => t.count + countL r
end
mutual
def Ty.depth : Ty → Nat | .mk _ _ _ l => 1 + depthL l
def depthL : List Ty → Nat | [] => 0 | t :: r => max t.depth (depthL r)
end
def isLow (c : UInt8) : Bool := decide (97 ≤ c.toNat) && decide (c.toNat ≤ 122)
def isDig (c : UInt8) : Bool := decide (48 ≤ c.toNat) && decide (c.toNat ≤ 57)
def nameB (s : Bs) : Bool := s.all isLow && decide (1 ≤ s.length) && decide (s.length ≤ 8)
/-- All names up to a place are names, and unlike ones. -/
def namesTo (l : List Bs) (k : Nat) : Bool := (List.range k).all fun i => nameB (l.getD i []) && !(l.take i).contains (l.getD i [])
def nodeB (k n : Int) (names : List Bs) (kn : Nat) : Bool :=
  if k = 1 then (decide (n = 8) || decide (n = 16) || decide (n = 32)) && decide (names.length = 0) && decide (kn = 0)
  else if k = 2 then decide (0 ≤ n) && decide (n ≤ 255) && decide (names.length = 0) && decide (kn = 0)
  else if k = 3 then decide (0 ≤ n) && decide (n ≤ 96) && decide (names.length = 0) && decide (kn = 1)
  else if k = 4 then decide (n = 0) && decide (1 ≤ kn) && decide (kn ≤ 12) && decide (names.length = kn) && namesTo names names.length
  else false
mutual
def Ty.formed : Ty → Bool | .mk k n names l => nodeB k n names l.length && formedL l
def formedL : List Ty → Bool | [] => true | t :: r => t.formed && formedL r
end
def Ty.right (t : Ty) : Bool := decide (t.depth ≤ 6) && decide (t.count ≤ 100) && t.formed
def Ty.err (t : Ty) : Int := if t.depth ≤ 6 ∧ t.count ≤ 100 then (if t.formed = true then 0 else 4) else 2
theorem right_err (t : Ty) : t.right = true ↔ t.err = 0 := by
  unfold Ty.right Ty.err
  by_cases h : t.depth ≤ 6 ∧ t.count ≤ 100
  · rw [if_pos h]; obtain ⟨h1, h2⟩ := h; cases h3 : t.formed <;> simp [h1, h2]
  · rw [if_neg h]; simp only [Bool.and_eq_true, decide_eq_true_eq]; constructor
    · intro h'; exact absurd h'.1 h
    · intro h'; cases h'
/-- Fields' texts, one behind the other. -/
def fieldT : List Bs → List Bs → Bs
  | a :: [], x :: [] => a ++ 58 :: x
  | a :: b :: r, x :: y :: s => a ++ 58 :: (x ++ 44 :: fieldT (b :: r) (y :: s))
  | _, _ => []
mutual
def Ty.txt : Ty → Bs
  | .mk k n names l => if k = 1 then 105 :: Lib.itoa n else if k = 2 then 116 :: Lib.itoa n
    else if k = 3 then 108 :: (Lib.itoa n ++ 40 :: ((txtL l).headD [] ++ [41])) else 114 :: 40 :: (fieldT names (txtL l) ++ [41])
def txtL : List Ty → List Bs | [] => [] | t :: r => t.txt :: txtL r
end
theorem txtL_len : ∀ l : List Ty, (txtL l).length = l.length
  | [] => rfl
  | _ :: r => by simp [txtL, txtL_len r]
theorem count_pos (t : Ty) : 1 ≤ t.count := by cases t; simp only [Ty.count]; omega
theorem countL_mem : ∀ {l : List Ty} {t : Ty}, t ∈ l → t.count ≤ countL l
  | x :: r, t, h => by
    simp only [countL]
    rcases List.mem_cons.1 h with rfl | h
    · omega
    · have := countL_mem h; omega
theorem depthL_mem : ∀ {l : List Ty} {t : Ty}, t ∈ l → t.depth ≤ depthL l
  | x :: r, t, h => by
    simp only [depthL]
    rcases List.mem_cons.1 h with rfl | h
    · omega
    · have := depthL_mem h; omega
theorem formedL_mem : ∀ {l : List Ty} {t : Ty}, formedL l = true → t ∈ l → t.formed = true
  | x :: r, t, hf, h => by
    simp only [formedL, Bool.and_eq_true] at hf
    rcases List.mem_cons.1 h with rfl | h
    · exact hf.1
    · exact formedL_mem hf.2 h

/-! ### Numbers -/
def valD (d : Bs) : Nat := d.foldl (fun n c => 10 * n + (c.toNat - 48)) 0
/-- So many digits as stand ahead, at most three. -/
def digs3 (s : Bs) : Bs := (s.takeWhile isDig).take 3
def numOk (d : Bs) : Bool := decide (d.length = 1) || (decide (1 < d.length) && !(d.head? == some 48))
/-- The number ahead, as the program takes it. -/
def numP (s : Bs) : Option (Nat × Bs) := if numOk (digs3 s) = true then some (valD (digs3 s), s.drop (digs3 s).length) else none
/-- The number ahead, as the document takes it. -/
def numD (s : Bs) : Option (Nat × Bs) := if numOk (s.takeWhile isDig) = true ∧ (s.takeWhile isDig).length ≤ 3 then some (valD (s.takeWhile isDig), s.drop (s.takeWhile isDig).length) else none
def dec3 (n : Nat) : Bs := if n < 10 then [UInt8.ofNat (48 + n)] else if n < 100 then [UInt8.ofNat (48 + n / 10), UInt8.ofNat (48 + n % 10)] else [UInt8.ofNat (48 + n / 10 / 10), UInt8.ofNat (48 + n / 10 % 10), UInt8.ofNat (48 + n % 10)]
theorem dec3_eq (n : Nat) (h : n < 1000) : Lib.decDigits n = dec3 n := by
  unfold dec3
  by_cases h1 : n < 10
  · rw [if_pos h1, Lib.decDigits, dif_pos h1]
  · rw [if_neg h1]
    by_cases h2 : n < 100
    · rw [if_pos h2, Lib.decDigits, dif_neg h1, Lib.decDigits, dif_pos (by omega)]; rfl
    · rw [if_neg h2, Lib.decDigits, dif_neg h1, Lib.decDigits, dif_neg (by omega), Lib.decDigits, dif_pos (by omega)]; rfl
def itB (n : Nat) : Bool := (dec3 n).all isDig && decide (1 ≤ (dec3 n).length) && decide ((dec3 n).length ≤ 3) && numOk (dec3 n) && decide (valD (dec3 n) = n)
theorem itB_all : ∀ n, n < 256 → itB n = true := by decide +kernel
theorem itoa_dec3 (n : Int) (h0 : 0 ≤ n) (h1 : n ≤ 255) : Lib.itoa n = dec3 n.toNat := by
  unfold Lib.itoa
  rw [if_neg (by omega), dec3_eq _ (by omega)]
structure ItOk (n : Int) : Prop where
  digs : ∀ c ∈ Lib.itoa n, isDig c = true
  pos : 1 ≤ (Lib.itoa n).length
  le : (Lib.itoa n).length ≤ 3
  ok : numOk (Lib.itoa n) = true
  val : valD (Lib.itoa n) = n.toNat
theorem itoa_ok3 (n : Int) (h0 : 0 ≤ n) (h1 : n ≤ 255) : ItOk n := by
  have h := itB_all n.toNat (by omega)
  have e := itoa_dec3 n h0 h1
  unfold itB at h
  rw [← e] at h
  simp only [Bool.and_eq_true, decide_eq_true_eq, List.all_eq_true] at h
  exact ⟨h.1.1.1.1, h.1.1.1.2, h.1.1.2, h.1.2, h.2⟩
theorem u8_back (c : UInt8) {k : Nat} (h : k = c.toNat) : UInt8.ofNat k = c := by subst h; simp
theorem dec3_val (d : Bs) (hd : ∀ c ∈ d, isDig c = true) (hl : d.length ≤ 3) (hk : numOk d = true) : dec3 (valD d) = d ∧ valD d < 1000 := by
  match d, hd, hl, hk with
  | [], _, _, hk => simp [numOk] at hk
  | [a], hd, _, _ =>
    have ha := hd a (by simp)
    simp only [isDig, Bool.and_eq_true, decide_eq_true_eq] at ha
    have hv : valD [a] = a.toNat - 48 := by simp [valD]
    rw [hv]
    unfold dec3
    rw [if_pos (by omega), u8_back a (by omega)]
    exact ⟨rfl, by omega⟩
  | [a, b], hd, _, hk =>
    have ha := hd a (by simp)
    have hb := hd b (by simp)
    simp only [isDig, Bool.and_eq_true, decide_eq_true_eq] at ha hb
    have h0 : a.toNat ≠ 48 := by
      intro e
      have : a = 48 := UInt8.toNat_inj.1 e
      subst this
      simp [numOk] at hk
    have hv : valD [a, b] = 10 * (a.toNat - 48) + (b.toNat - 48) := by simp [valD]
    rw [hv]
    unfold dec3
    rw [if_neg (by omega), if_pos (by omega), u8_back a (by omega), u8_back b (by omega)]
    exact ⟨rfl, by omega⟩
  | [a, b, c], hd, _, hk =>
    have ha := hd a (by simp)
    have hb := hd b (by simp)
    have hc := hd c (by simp)
    simp only [isDig, Bool.and_eq_true, decide_eq_true_eq] at ha hb hc
    have h0 : a.toNat ≠ 48 := by
      intro e
      have : a = 48 := UInt8.toNat_inj.1 e
      subst this
      simp [numOk] at hk
    have hv : valD [a, b, c] = 10 * (10 * (a.toNat - 48) + (b.toNat - 48)) + (c.toNat - 48) := by simp [valD]
    rw [hv]
    unfold dec3
    rw [if_neg (by omega), if_neg (by omega), u8_back a (by omega), u8_back b (by omega), u8_back c (by omega)]
    exact ⟨rfl, by omega⟩
  | _ :: _ :: _ :: _ :: _, _, hl, _ => simp at hl
theorem itoa_val (d : Bs) (hd : ∀ c ∈ d, isDig c = true) (hl : d.length ≤ 3) (hk : numOk d = true) : Lib.itoa ((valD d : Nat) : Int) = d := by
  obtain ⟨h1, h2⟩ := dec3_val d hd hl hk
  unfold Lib.itoa
  rw [if_neg (by omega), Int.toNat_natCast, dec3_eq _ h2, h1]
/-- Nothing that goes on with a digit. -/
def noDig (s : Bs) : Bool := match s with | [] => true | c :: _ => !isDig c
theorem tw_app (p : UInt8 → Bool) : ∀ (d s : Bs), (∀ c ∈ d, p c = true) → (match s with | [] => true | c :: _ => !p c) = true → (d ++ s).takeWhile p = d
  | [], [], _, _ => rfl
  | [], c :: s, _, h => by
    have : p c = false := by simpa using h
    simp [this]
  | c :: d, s, hd, h => by
    rw [List.cons_append, List.takeWhile_cons, if_pos (hd c (by simp)), tw_app p d s (fun x hx => hd x (by simp [hx])) h]
theorem tw_pre (p : UInt8 → Bool) : ∀ (s : Bs) (k : Nat), k ≤ (s.takeWhile p).length → s.take k = (s.takeWhile p).take k
  | [], k, _ => by simp
  | c :: s, 0, _ => by simp
  | c :: s, k + 1, h => by
    rw [List.takeWhile_cons] at h ⊢
    split at h
    · rename_i hc
      rw [List.length_cons] at h
      rw [if_pos hc, List.take_succ_cons, List.take_succ_cons, tw_pre p s k (by omega)]
    · simp at h
theorem tw_mem (p : UInt8 → Bool) : ∀ (s : Bs) (c : UInt8), c ∈ s.takeWhile p → p c = true
  | [], c, h => by simp at h
  | b :: s, c, h => by
    rw [List.takeWhile_cons] at h
    split at h
    · rcases List.mem_cons.1 h with rfl | h
      · assumption
      · exact tw_mem p s c h
    · simp at h
theorem numP_txt (n : Int) (h0 : 0 ≤ n) (h1 : n ≤ 255) (s : Bs) (hs : noDig s = true) : numP (Lib.itoa n ++ s) = some (n.toNat, s) := by
  have o := itoa_ok3 n h0 h1
  have e : digs3 (Lib.itoa n ++ s) = Lib.itoa n := by
    unfold digs3
    rw [tw_app isDig _ _ o.digs hs, List.take_of_length_le o.le]
  unfold numP
  rw [e, if_pos o.ok, o.val, List.drop_left]
theorem numD_txt (n : Int) (h0 : 0 ≤ n) (h1 : n ≤ 255) (s : Bs) (hs : noDig s = true) : numD (Lib.itoa n ++ s) = some (n.toNat, s) := by
  have o := itoa_ok3 n h0 h1
  unfold numD
  rw [tw_app isDig _ _ o.digs hs, if_pos ⟨o.ok, o.le⟩, o.val, List.drop_left]
theorem numP_back {s r : Bs} {n : Nat} (h : numP s = some (n, r)) : s = Lib.itoa (n : Int) ++ r := by
  unfold numP at h
  split at h
  · rename_i hk
    cases h
    have hd : ∀ c ∈ digs3 s, isDig c = true := fun c hc => tw_mem isDig s c (List.mem_of_mem_take hc)
    have hl : (digs3 s).length ≤ 3 := by unfold digs3; rw [List.length_take]; omega
    rw [itoa_val _ hd hl hk]
    have : s.take (digs3 s).length = digs3 s := by
      rw [tw_pre isDig s _ (by unfold digs3; rw [List.length_take]; omega)]
      unfold digs3
      rw [List.length_take, List.take_eq_take_iff]
      omega
    conv => lhs; rw [← List.take_append_drop (digs3 s).length s, this]
  · cases h
theorem numD_back {s r : Bs} {n : Nat} (h : numD s = some (n, r)) : s = Lib.itoa (n : Int) ++ r := by
  unfold numD at h
  split at h
  · rename_i hk
    cases h
    rw [itoa_val _ (fun c hc => tw_mem isDig s c hc) hk.2 hk.1]
    have : s.take (s.takeWhile isDig).length = s.takeWhile isDig := by
      rw [tw_pre isDig s _ (Nat.le_refl _), List.take_of_length_le (Nat.le_refl _)]
    conv => lhs; rw [← List.take_append_drop (s.takeWhile isDig).length s, this]
  · cases h

/-! ### What reads types -/
def recP (read : Bs → Option (Ty × Bs)) : Nat → Bs → List Bs → List Ty → Option (Ty × Bs)
  | 0, _, _, _ => none
  | m + 1, s, names, kids => match read (s.dropWhile (fun b => b != 58)).tail with
    | none => none
    | some (t, r) => match r with
      | [] => none
      | c :: r' => if c = 44 then recP read m r' (names ++ [s.takeWhile (fun b => b != 58)]) (kids ++ [t])
        else if c = 41 then some (.mk 4 0 (names ++ [s.takeWhile (fun b => b != 58)]) (kids ++ [t]), r') else none
/-- A type ahead, as the program takes it; so deep at most. -/
def readP : Nat → Bs → Option (Ty × Bs)
  | 0, _ => none
  | f + 1, s => match s with
    | [] => none
    | c :: r => if c = 105 then (numP r).map fun x => (.mk 1 x.1 [] [], x.2)
      else if c = 116 then (numP r).map fun x => (.mk 2 x.1 [] [], x.2)
      else if c = 108 then match numP r with
        | some (n, 40 :: r2) => match readP f r2 with
          | some (t, 41 :: r3) => some (.mk 3 n [] [t], r3)
          | _ => none
        | _ => none
      else if c = 114 then match r with
        | 40 :: r2 => recP (readP f) 12 r2 [] []
        | _ => none
      else none
def recD (read : Bs → Option (Ty × Bs)) : Nat → Bs → List Bs → List Ty → Option (Ty × Bs)
  | 0, _, _, _ => none
  | m + 1, s, names, kids => match s.dropWhile isLow with
    | [] => none
    | c :: l => if c = 58 then match read l with
        | none => none
        | some (t, r) => match r with
          | [] => none
          | c :: r' => if c = 41 then some (.mk 4 0 (names ++ [s.takeWhile isLow]) (kids ++ [t]), r')
            else if c = 44 then recD read m r' (names ++ [s.takeWhile isLow]) (kids ++ [t]) else none
      else none
/-- A type ahead, as the document takes it. -/
def takeD : Nat → Bs → Option (Ty × Bs)
  | 0, _ => none
  | f + 1, s => match s with
    | [] => none
    | c :: r => if c = 114 ∧ r.head? = some 40 then recD (takeD f) 13 r.tail [] []
      else match numD r with
        | none => none
        | some (n, r2) => if c = 105 then some (.mk 1 n [] [], r2) else if c = 116 then some (.mk 2 n [] [], r2)
          else if c = 108 then match r2 with
            | 40 :: r3 => match takeD f r3 with
              | some (t, 41 :: r4) => some (.mk 3 n [] [t], r4)
              | _ => none
            | _ => none
          else none
end Go.Proofs.YtihbbgcpdgnhoaaGreatDoor
