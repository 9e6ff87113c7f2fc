/- Lines, words, labels and numbers of texts, as plain lists; no statement is proved in this text. -/
import Derived.Test.YtobkehlkopkaeaaDoorPure
import Derived.Lib.IndexMore
import Derived.Lib.IndexAny
import Derived.Lib.SlTrimSet
import Derived.Lib.Strings
namespace Go.Proofs.YtobkehlkopkaeaaDoor

abbrev Bs := List UInt8
def sp : Bs := [32, 9]
def isSp (b : UInt8) : Bool := sp.contains b
/-- So many words of a text that begins with none of the spaces. -/
def wordsF : Nat → Bs → List Bs
  | 0, _ => []
  | _ + 1, [] => []
  | n + 1, c :: r => (c :: r).takeWhile (fun b => !isSp b) :: wordsF n (((c :: r).dropWhile (fun b => !isSp b)).dropWhile isSp)
def semi (l : Bs) : Bs := l.takeWhile (fun b => b != 59)
def splitF (l : Bs) : List Bs := wordsF 4 ((semi l).dropWhile isSp)
theorem index_one (c : UInt8) : ∀ l : Bs, Lib.index l [c] = if c ∈ l then ((l.takeWhile (fun b => b != c)).length : Int) else -1
  | [] => by simp [Lib.index]
  | b :: l => by
    have ih := index_one c l
    unfold Lib.index
    by_cases h : c = b
    · subst h
      simp
    · have h1 : [c].isPrefixOf (b :: l) = false := by simp [List.isPrefixOf, h]
      have h2 : (b != c) = true := by simpa using fun e : b = c => h e.symm
      rw [h1, ih]
      simp only [Bool.false_eq_true, if_false, List.mem_cons, h, false_or, List.takeWhile_cons, h2, if_true, List.length_cons]
      by_cases h3 : c ∈ l
      · rw [if_pos h3, if_pos h3]
        have : ((((l.takeWhile (fun b => b != c)).length : Nat) : Int) == -1) = false := by simp
        rw [this]
        simp
      · rw [if_neg h3, if_neg h3]
        rfl
theorem take_of_tw (p : UInt8 → Bool) : ∀ l : Bs, l.take (l.takeWhile p).length = l.takeWhile p
  | [] => rfl
  | b :: l => by
    rw [List.takeWhile_cons]
    split
    · rw [List.length_cons, List.take_succ_cons, take_of_tw p l]
    · rfl
theorem drop_of_tw (p : UInt8 → Bool) : ∀ l : Bs, l.drop (l.takeWhile p).length = l.dropWhile p
  | [] => rfl
  | b :: l => by
    rw [List.takeWhile_cons, List.dropWhile_cons]
    split
    · rw [List.length_cons, List.drop_succ_cons, drop_of_tw p l]
    · rfl
theorem cut_one (c : UInt8) (l : Bs) : Lib.cut l [c] = if c ∈ l then (l.takeWhile (fun b => b != c), (l.dropWhile (fun b => b != c)).tail, true) else (l, [], false) := by
  unfold Lib.cut
  rw [index_one]
  by_cases h : c ∈ l
  · rw [if_pos h, if_pos h, if_pos (by omega), Int.toNat_natCast, take_of_tw]
    congr 2
    rw [List.length_singleton, ← List.drop_drop, drop_of_tw, List.drop_one]
  · rw [if_neg h, if_neg h, if_neg (by omega)]
theorem tw_all (c : UInt8) : ∀ l : Bs, c ∉ l → l.takeWhile (fun b => b != c) = l
  | [], _ => rfl
  | b :: l, h => by
    simp only [List.mem_cons, not_or] at h
    have h2 : (b != c) = true := by simpa using fun e : b = c => h.1 e.symm
    rw [List.takeWhile_cons, h2, if_pos rfl, tw_all c l h.2]
theorem cut_semi (l : Bs) : (Lib.cut l [59]).1 = semi l := by
  rw [cut_one]
  unfold semi
  split
  · rfl
  · rename_i h
    exact (tw_all 59 l h).symm
theorem indexAny_sp : ∀ l : Bs, (if Lib.indexAny l sp < 0 then (l.length : Int) else Lib.indexAny l sp) = ((l.takeWhile (fun b => !isSp b)).length : Nat) ∧ (0 ≤ Lib.indexAny l sp → Lib.indexAny l sp = ((l.takeWhile (fun b => !isSp b)).length : Nat))
  | [] => by simp [Lib.indexAny]
  | b :: l => by
    obtain ⟨i1, i2⟩ := indexAny_sp l
    have hge := Lib.indexAny_ge sp l
    unfold Lib.indexAny
    by_cases h : sp.contains b = true
    · have h2 : (!isSp b) = false := by unfold isSp; rw [h]; rfl
      rw [if_pos h, List.takeWhile_cons, h2]
      simp
    · have h2 : (!isSp b) = true := by unfold isSp; simpa using h
      rw [if_neg h, List.takeWhile_cons, h2, if_pos rfl]
      by_cases h3 : Lib.indexAny l sp = -1
      · rw [h3] at i1 ⊢
        have e : ((-1 : Int) == -1) = true := by decide
        rw [e, if_pos rfl]
        rw [if_pos (by omega)] at i1
        refine ⟨?_, fun hh => by omega⟩
        rw [if_pos (by omega)]
        simp only [List.length_cons]
        omega
      · have e : (Lib.indexAny l sp == -1) = false := by simpa using h3
        rw [e]
        have h4 := i2 (by omega)
        simp only [Bool.false_eq_true, if_false, List.length_cons]
        rw [if_neg (by omega)]
        refine ⟨by omega, fun _ => by omega⟩

/-- The lines of a text. -/
def lns : Bs → List Bs
  | [] => [[]]
  | c :: r => if c = 10 then [] :: lns r else match lns r with
    | x :: xs => (c :: x) :: xs
    | [] => [[c]]
theorem lns_ne : ∀ l : Bs, lns l ≠ []
  | [] => by simp [lns]
  | c :: r => by
    unfold lns
    split
    · simp
    · split <;> simp
theorem lns_cut : ∀ l : Bs, lns l = if 10 ∈ l then l.takeWhile (fun b => b != 10) :: lns (l.dropWhile (fun b => b != 10)).tail else [l]
  | [] => by simp [lns]
  | c :: r => by
    have ih := lns_cut r
    conv => lhs; unfold lns
    by_cases h : c = 10
    · subst h
      simp
    · have h2 : (c != 10) = true := by simpa using h
      rw [if_neg h, ih]
      have h3 : ¬ (10 : UInt8) = c := fun e => h e.symm
      by_cases h4 : (10 : UInt8) ∈ r
      · rw [if_pos h4, if_pos (by simp [h4]), List.takeWhile_cons, List.dropWhile_cons, h2]
        simp
      · rw [if_neg h4, if_neg (by simp [h3, h4])]
theorem lns_len : ∀ l : Bs, (lns l).length ≤ l.length + 1
  | [] => by simp [lns]
  | c :: r => by
    have ih := lns_len r
    have hne := lns_ne r
    unfold lns
    split
    · simp; omega
    · cases h : lns r with
      | nil => exact absurd h hne
      | cons x xs => rw [h] at ih; simp at ih ⊢; omega

def within (s : Bs) (most lo hi : Nat) : Bool := decide (1 ≤ s.length ∧ s.length ≤ most) && s.all (fun b => decide (lo ≤ b.toNat ∧ b.toNat ≤ hi))
def labF : List Bs → Option Bs
  | [x] => if (Lib.hasSuffix x [58] && within (Lib.trimSuffix x [58]) 12 97 122) = true then some (Lib.trimSuffix x [58]) else none
  | _ => none
def regF (x : Bs) : Option Nat := if (Lib.hasPrefix x [114] && within (Lib.trimPrefix x [114]) 1 48 57) = true then some (((Lib.trimPrefix x [114]).headD 0).toNat - 48) else none
def dgs (l : Bs) : Nat := l.foldl (fun n b => 10 * n + (b.toNat - 48)) 0
def numF (x : Bs) : Option Nat := if within x 5 48 57 = true then some (dgs x) else none
def nmT : List Bs := [[115, 116, 111, 112], [115, 101, 116], [109, 111, 118], [97, 100, 100], [115, 117, 98], [97, 110, 100], [111, 114], [120, 111, 114], [115, 104, 108], [115, 104, 114], [109, 117, 108], [108, 101, 115, 115], [115, 97, 109, 101], [108, 111, 97, 100], [115, 116, 111, 114, 101], [108, 111, 97, 100, 119], [115, 116, 111, 114, 101, 119], [106, 117, 109, 112], [122, 101, 114, 111], [111, 116, 104, 101, 114], [99, 97, 108, 108]]
def nmOf (k : Nat) : Bs := nmT.getD k []
def fNums (k : Nat) : Nat := if 0 < nb k then 1 else 0
def fLab (k : Nat) : Bool := k == 17 || k == 18 || k == 19
def opOf (x : Bs) : Option Nat := (List.range 21).find? (fun k => nmOf k == x)
def szOf (x : Bs) : Nat := match opOf x with
  | some k => sz k
  | none => 0
abbrev Labs := List (Bs × Nat × Nat)
def lookL (M : Labs) (x : Bs) : Option (Nat × Nat) := (M.find? (fun p => p.1 == x)).map (·.2)
def dist (a b : Int) : Nat := ((b - a) % 65536).toNat
def regsF (ws : List Bs) : Option (List Nat) := ws.mapM regF
def numW (M : Labs) (op : Nat) (a : Nat) (x : Bs) : Option Nat := match lookL M x with
  | some s => if fLab op = true then some (dist (a + sz op : Nat) (s.2 : Nat)) else numF x
  | none => numF x
def encI (op : Nat) (ws : List Bs) (a : Nat) (M : Labs) : Option In :=
  if ws.length = rg op + fNums op then
    match regsF (ws.take (rg op)) with
    | none => none
    | some rs => match (if fNums op = 0 then some 0 else numW M op a (ws.getD (rg op) [])) with
      | none => none
      | some n => some ⟨op, rs.getD 0 0, rs.getD 1 0, n⟩
  else none
def encF (op : Nat) (ws : List Bs) (a : Nat) (M : Labs) : Option Bs := match encI op ws a M with
  | none => none
  | some i => if isI i = true then some (plain i) else none

structure Sv where
  M : Labs
  place : Nat
  long : Nat
def svAdd (num : Nat) (ws : List Bs) (s : Sv) : Sv := match labF ws with
  | some x => if (lookL s.M x).isSome then s else ⟨s.M ++ [(x, num, s.place)], s.place, s.long⟩
  | none => match ws with
    | [] => s
    | x :: _ => ⟨s.M, s.place + szOf x, s.long⟩
def svLong (num : Nat) (s : Sv) : Sv := if s.long = 0 ∧ 256 < s.place then ⟨s.M, s.place, num⟩ else s
def svF : List (List Bs) → Nat → Sv → Sv
  | [], _, s => s
  | ws :: r, num, s => svF r (num + 1) (svLong num (svAdd num ws s))
def lineOf (M : Labs) (x : Bs) : Nat := ((lookL M x).getD (0, 0)).1
def rdF (M : Labs) : List (List Bs) → Nat → Bs → Bs ⊕ Nat
  | [], _, out => .inl out
  | ws :: r, num, out => match ws with
    | [] => rdF M r (num + 1) out
    | x :: t => match labF (x :: t) with
      | some y => if lineOf M y = num then rdF M r (num + 1) out else .inr num
      | none => match opOf x with
        | none => .inr num
        | some k => match encF k t out.length M with
          | none => .inr num
          | some b => rdF M r (num + 1) (out ++ b)
def rowsF (text : Bs) : List (List Bs) := (lns text).map splitF
def svT (text : Bs) : Sv := svF (rowsF text) 1 ⟨[], 0, 0⟩
def readR (text : Bs) : Bs × Nat := match rdF (svT text).M (rowsF text) 1 [] with
  | .inr n => ([], n)
  | .inl out => if 0 < (svT text).long then ([], (svT text).long) else (out, 0)
theorem szOf_le (x : Bs) : szOf x ≤ 4 := by
  unfold szOf
  split
  · exact (sz_le _).2
  · omega
theorem wordsF_len : ∀ (n : Nat) (l : Bs), (wordsF n l).length ≤ n
  | 0, _ => by simp [wordsF]
  | n + 1, [] => by simp [wordsF]
  | n + 1, c :: r => by
    have := wordsF_len n (((c :: r).dropWhile (fun b => !isSp b)).dropWhile isSp)
    simp [wordsF]
    omega
/-- The text of the example. -/
def exT : Bs := [115, 101, 116, 32, 114, 49, 32, 51, 10, 108, 111, 111, 112, 58, 32, 59, 32, 97, 103, 97, 105, 110, 10, 115, 117, 98, 32, 114, 49, 32, 114, 50, 10, 111, 116, 104, 101, 114, 32, 114, 49, 32, 108, 111, 111, 112]
theorem exR : readR exT = ([1, 16, 0, 3, 4, 18, 19, 16, 255, 250], 0) := by decide +kernel
end Go.Proofs.YtobkehlkopkaeaaDoor
