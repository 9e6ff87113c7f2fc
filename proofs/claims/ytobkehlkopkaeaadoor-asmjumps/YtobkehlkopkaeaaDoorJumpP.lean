/- The text of AsmJumps, and what Read makes of it, for every distance that the law looks at; no statement is proved in this text. -/
import Derived.Test.YtobkehlkopkaeaaDoorReadWalk
namespace Go.Proofs.YtobkehlkopkaeaaDoor
set_option maxRecDepth 100000

def stops : Nat → Bs
  | 0 => []
  | n + 1 => stops n ++ [115, 116, 111, 112, 10]
def jText (a : Nat) : Bs := ((([102, 97, 114, 58, 10] ++ stops a) ++ [106, 117, 109, 112, 32, 102, 97, 114, 10, 106, 117, 109, 112, 32, 110, 101, 97, 114, 10]) ++ stops a) ++ [110, 101, 97, 114, 58, 10, 115, 116, 111, 112]
/-- What the law asks of what Read answers. -/
def jOk (a : Nat) (s : Bs) (bad : Nat) : Bool :=
  if bad ≠ 0 then decide (256 < 2 * a + 7 ∧ bad ≤ 1000 ∧ s = []) else
  decide (atE s (a : Int) = 0 ∧ atE s ((a : Int) + 3) = 0 ∧ (0 ≤ atN s (a : Int) ∧ atN s (a : Int) ≤ 300) ∧ (0 ≤ atN s ((a : Int) + 3) ∧ atN s ((a : Int) + 3) ≤ 300) ∧ (0 ≤ (atI s (a : Int)).n ∧ (atI s (a : Int)).n ≤ 65536) ∧ (0 ≤ (atI s ((a : Int) + 3)).n ∧ (atI s ((a : Int) + 3)).n ≤ 65536) ∧ atN s (a : Int) + (atI s (a : Int)).n = 65536 ∧ atN s ((a : Int) + 3) + (atI s ((a : Int) + 3)).n = 2 * (a : Int) + 6 ∧ s.length ≤ 256)
def jAll (a : Nat) : Bool := match readR (jText a) with
  | (s, bad) => jOk a s bad
theorem stops_asc : ∀ n, (stops n).all (fun b => decide (b.toNat < 128)) = true
  | 0 => rfl
  | n + 1 => by
    unfold stops
    rw [List.all_append, stops_asc n]
    decide
theorem stops_len : ∀ n, (stops n).length = 5 * n
  | 0 => rfl
  | n + 1 => by simp [stops, stops_len n]; omega
theorem lns_mem : ∀ (t l : Bs), l ∈ lns t → ∀ b ∈ l, b ∈ t
  | [], l, h, b, hb => by
    obtain rfl : l = [] := by simpa [lns] using h
    simp at hb
  | c :: r, l, h, b, hb => by
    unfold lns at h
    split at h
    · rcases List.mem_cons.1 h with rfl | h
      · simp at hb
      · exact List.mem_cons_of_mem _ (lns_mem r l h b hb)
    · split at h
      · rename_i x xs hx
        rcases List.mem_cons.1 h with rfl | h
        · rcases List.mem_cons.1 hb with rfl | hb
          · simp
          · exact List.mem_cons_of_mem _ (lns_mem r x (by rw [hx]; simp) b hb)
        · exact List.mem_cons_of_mem _ (lns_mem r l (by rw [hx]; simp [h]) b hb)
      · obtain rfl : l = [c] := by simpa using h
        obtain rfl : b = c := by simpa using hb
        simp
theorem pln_all {t : Bs} (h : t.all (fun b => decide (b.toNat < 128)) = true) : Pln t := fun l hl b hb => by
  have hb2 : b ∈ l := (List.takeWhile_sublist _).subset hb
  exact of_decide_eq_true (List.all_eq_true.1 h b (lns_mem t l hl b hb2))
theorem j_at {a : Nat} (ha : a ≤ 200) (h : jAll a = true) : jOk a (readR (jText a)).1 (readR (jText a)).2 = true ∧ Pln (jText a) ∧ (jText a).length ≤ 3000 := by
  refine ⟨h, pln_all ?_, ?_⟩
  · unfold jText
    simp only [List.all_append, stops_asc]
    decide
  · unfold jText
    simp only [List.length_append, stops_len, List.length_cons, List.length_nil]
    omega
end Go.Proofs.YtobkehlkopkaeaaDoor
