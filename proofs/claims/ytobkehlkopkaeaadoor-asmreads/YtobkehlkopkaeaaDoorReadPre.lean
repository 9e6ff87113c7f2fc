/- What asm's Read wants of encode, words and lines; no statement is proved in this text. -/
import Derived.Test.YtobkehlkopkaeaaDoorEncWalk
import Derived.Test.YtobkehlkopkaeaaDoorSvWalk
namespace Go.Proofs.YtobkehlkopkaeaaDoor
open Go.ChangeShapes Go.WideShapes Go.ChangeAt Go.RowKit Go.ChangeMaps Go.MapKept
set_option maxRecDepth 100000

theorem enc_any (w : World) (he : Env w) (op : Nat) (hop : op < 21) (ws : List Bs) (ao : Option Addr) (cap : Nat) (hs : WSl w ao ws) (hn : ws.length ≤ 100) (hl : ∀ x ∈ ws, x.length ≤ 1000000) (a : Nat) (ha : a ≤ 500000)
    (b : Nat) (M : Labs) (hm : MapS w b M) (hM : ∀ x s, lookL M x = some s → s.2 ≤ 500000 ∧ s.1 ≤ 1000000) :
    Calls Tryd.prog 24 #[i64 op, .slice ao ws.length cap, i64 a, .map (some b)] w fun e w' => e = .returned (.tuple #[str ((encF op ws a M).getD []), .bool (encF op ws a M).isSome]) ∧ Below w.heap.size w w' := by
  by_cases h : ws.length = rg op + fNums op
  · exact enc_ok w he op hop ws ao cap hs hl a ha b M hm hM h
  · exact enc_short w he op hop ws ao cap hn a _ M h
theorem encF_le {op : Nat} {ws : List Bs} {a : Nat} {M : Labs} {b : Bs} (h : encF op ws a M = some b) : b.length ≤ 4 := by
  unfold encF at h
  split at h
  · cases h
  · split at h
    · cases h
      rw [plain_len]
      exact (sz_le _).2
    · cases h
theorem own_words2 {w : World} {base : Nat} {v : Value} {n : Nat} {ws : List Bs} (h : w.ownsRow base 9 1 v n (ws.map str)) : ∃ ao cap, v = .slice ao n cap ∧ WSl w ao ws ∧ ws.length = n ∧ n ≤ cap ∧ cap ≤ maxLen := by
  have hl : ws.length = n := by have := h.1; simpa using this
  rcases h.2 with ⟨rfl, rfl⟩ | ⟨g, cap, cur, rfl, hb, hg, hc1, hc2, _⟩
  · exact ⟨none, 0, rfl, Or.inl (List.eq_nil_of_length_eq_zero hl), hl, Nat.le_refl _, Nat.zero_le _⟩
  · refine ⟨_, cap, rfl, Or.inr ⟨g, 0, rfl, (Array.getElem?_eq_some_iff.1 hg).1, fun j x hx => ?_⟩, hl, hc1, hc2⟩
    have hj : j < n := by have := (List.getElem?_eq_some_iff.1 hx).1; omega
    rw [Nat.zero_add, h.cellAt j (by omega)]
    simp [hx]
theorem WSl.tail {w : World} {b off : Nat} {z : Bs} {t : List Bs} (h : WSl w (some ⟨b, off, none⟩) (z :: t)) : WSl w (some ⟨b, off + 1, none⟩) t := by
  rcases h with h | ⟨b', off', he, hlt, hc⟩
  · cases h
  · cases he
    refine Or.inr ⟨b, off + 1, rfl, hlt, fun j x hx => ?_⟩
    have := hc (j + 1) x (by simpa using hx)
    rw [show off + 1 + j = off + (j + 1) by omega]
    exact this
theorem rdF_nil (M : Labs) (r : List (List Bs)) (num : Nat) (o : Bs) : rdF M ([] :: r) num o = rdF M r (num + 1) o := rfl
theorem rdF_lab {M : Labs} {z : Bs} {t : List Bs} {r : List (List Bs)} {num : Nat} {o y : Bs} (h : labF (z :: t) = some y) : rdF M ((z :: t) :: r) num o = if lineOf M y = num then rdF M r (num + 1) o else .inr num := by
  conv => lhs; unfold rdF
  simp only [h]
theorem rdF_op {M : Labs} {z : Bs} {t : List Bs} {r : List (List Bs)} {num : Nat} {o : Bs} (h : labF (z :: t) = none) : rdF M ((z :: t) :: r) num o = match opOf z with
    | none => .inr num
    | some k => match encF k t o.length M with
      | none => .inr num
      | some b => rdF M r (num + 1) (o ++ b) := by
  conv => lhs; unfold rdF
  simp only [h]
  cases opOf z with
  | none => rfl
  | some k =>
    simp only
    cases encF k t o.length M <;> rfl
end Go.Proofs.YtobkehlkopkaeaaDoor
