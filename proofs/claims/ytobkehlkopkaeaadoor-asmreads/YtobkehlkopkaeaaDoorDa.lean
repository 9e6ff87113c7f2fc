/- The document's reading of lines, as plain lists: words, labels, numbers; no statement is proved in this text. -/
import Derived.Test.YtobkehlkopkaeaaDoorText
namespace Go.Proofs.YtobkehlkopkaeaaDoor

/-- A line's words, letter by letter, with a word begun. -/
def wdS : Bs → Bs → List Bs
  | [], w => if w = [] then [] else [w]
  | c :: r, w => if c = 59 then (if w = [] then [] else [w]) else if isSp c = true then (if w = [] then wdS r [] else w :: wdS r []) else wdS r (w ++ [c])
def wdL (l : Bs) : List Bs := wdS l []
theorem wdS_ne : ∀ (l w : Bs), ∀ x ∈ wdS l w, x ≠ []
  | [], w, x, h => by
    unfold wdS at h
    split at h
    · cases h
    · rename_i hw; rw [List.mem_singleton.1 h]; exact hw
  | c :: r, w, x, h => by
    unfold wdS at h
    split at h
    · split at h
      · cases h
      · rename_i hw; rw [List.mem_singleton.1 h]; exact hw
    split at h
    · split at h
      · exact wdS_ne r [] x h
      · rename_i hw
        rcases List.mem_cons.1 h with h | h
        · rw [h]; exact hw
        · exact wdS_ne r [] x h
    · exact wdS_ne r _ x h
theorem semi_cons (c : UInt8) (r : Bs) : semi (c :: r) = if c = 59 then [] else c :: semi r := by
  unfold semi
  rw [List.takeWhile_cons]
  by_cases h : c = 59
  · simp [h]
  · have : (c != 59) = true := by simpa using h
    rw [if_pos this, if_neg h]
theorem wordsF_one (n : Nat) (s : Bs) (h : s ≠ []) : wordsF (n + 1) s = s.takeWhile (fun b => !isSp b) :: wordsF n ((s.dropWhile (fun b => !isSp b)).dropWhile isSp) := by
  cases s with
  | nil => exact absurd rfl h
  | cons c r => rfl
theorem wordsF_nil2 (n : Nat) : wordsF n [] = [] := by cases n <;> rfl
/-- So many words of a line: both ways of reading. -/
theorem wdS_take : ∀ (l w : Bs) (n : Nat), (∀ c ∈ w, isSp c = false) → (wdS l w).take n = if w = [] then wordsF n ((semi l).dropWhile isSp) else (match n with | 0 => [] | n + 1 => (w ++ (semi l).takeWhile (fun b => !isSp b)) :: wordsF n (((semi l).dropWhile (fun b => !isSp b)).dropWhile isSp))
  | [], w, n, hw => by
    unfold wdS
    have e : semi [] = [] := rfl
    rw [e]
    split
    · simp [wordsF_nil2]
    · cases n with
      | zero => simp
      | succ n => simp [wordsF_nil2]
  | c :: r, w, n, hw => by
    rw [wdS, semi_cons]
    by_cases h59 : c = 59
    · rw [if_pos h59, if_pos h59]
      split
      · simp [wordsF_nil2]
      · cases n with
        | zero => simp
        | succ n => simp [wordsF_nil2]
    rw [if_neg h59, if_neg h59]
    by_cases hs : isSp c = true
    · rw [if_pos hs]
      have ih := fun n => wdS_take r [] n (fun c hc => by cases hc)
      have hd : (c :: semi r).dropWhile isSp = (semi r).dropWhile isSp := by rw [List.dropWhile_cons, if_pos hs]
      have hn : (!isSp c) = false := by rw [hs]; rfl
      split
      · rw [ih n, if_pos rfl, hd]
      · cases n with
        | zero => simp
        | succ n =>
          rw [List.take_succ_cons, ih n, if_pos rfl]
          have e1 : (c :: semi r).takeWhile (fun b => !isSp b) = [] := by rw [List.takeWhile_cons, if_neg (by rw [hn]; simp)]
          have e2 : (c :: semi r).dropWhile (fun b => !isSp b) = c :: semi r := by rw [List.dropWhile_cons, if_neg (by rw [hn]; simp)]
          simp only [e1, e2, hd, List.append_nil]
    · rw [if_neg hs]
      have hs2 : isSp c = false := by simpa using hs
      have hn : (!isSp c) = true := by rw [hs2]; rfl
      have ih := wdS_take r (w ++ [c]) n (fun b hb => by
        rcases List.mem_append.1 hb with hb | hb
        · exact hw b hb
        · rw [List.mem_singleton.1 hb]; exact hs2)
      rw [ih, if_neg (by simp)]
      have hd : (c :: semi r).dropWhile isSp = c :: semi r := by rw [List.dropWhile_cons, if_neg hs]
      have e1 : (c :: semi r).takeWhile (fun b => !isSp b) = c :: (semi r).takeWhile (fun b => !isSp b) := by rw [List.takeWhile_cons, if_pos hn]
      have e2 : (c :: semi r).dropWhile (fun b => !isSp b) = (semi r).dropWhile (fun b => !isSp b) := by rw [List.dropWhile_cons, if_pos hn]
      by_cases hw0 : w = []
      · subst hw0
        rw [if_pos rfl, hd]
        cases n with
        | zero => rfl
        | succ n => rw [wordsF_one n _ (by simp), e1, e2]; rfl
      · rw [if_neg hw0]
        cases n with
        | zero => rfl
        | succ n => rw [e1, e2]; simp
theorem split_take (l : Bs) : splitF l = (wdL l).take 4 := by
  unfold splitF wdL
  rw [wdS_take l [] 4 (fun c hc => by cases hc), if_pos rfl]
/-- Is a word a label? -/
def labB (s : Bs) : Bool := within s 12 97 122
/-- The label of a line; empty: it is none. -/
def nmD (w : List Bs) : Bs := (labF w).getD []
theorem labF_take (w : List Bs) : labF (w.take 4) = labF w := by
  rcases w with _ | ⟨a, _ | ⟨b, r⟩⟩
  · rfl
  · rfl
  · rfl
theorem labF_lab {w : List Bs} {y : Bs} (h : labF w = some y) : labB y = true ∧ y ≠ [] := by
  unfold labF at h
  split at h
  · split at h
    · rename_i hc
      cases h
      simp only [Bool.and_eq_true] at hc
      refine ⟨hc.2, fun e => ?_⟩
      have := hc.2
      rw [e] at this
      simp [within] at this
    · cases h
  · cases h
theorem nmD_ne {w : List Bs} : nmD w ≠ [] ↔ labF w = some (nmD w) := by
  unfold nmD
  cases h : labF w with
  | none => simp
  | some y => simp [(labF_lab h).2]
end Go.Proofs.YtobkehlkopkaeaaDoor
