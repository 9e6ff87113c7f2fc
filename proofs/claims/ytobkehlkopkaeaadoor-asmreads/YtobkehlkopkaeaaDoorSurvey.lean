/- asm's survey: its contract; no statement is proved in this text. -/
import Derived.Test.YtobkehlkopkaeaaDoorEncode
namespace Go.Proofs.YtobkehlkopkaeaaDoor
open Go.ChangeShapes Go.WideShapes Go.ChangeAt Go.RowKit Go.ChangeMaps Go.MapKept
set_option maxRecDepth 100000

/-- What is cut off a text, and the lines of the rest. -/
theorem cutL (x : Bs) : ∃ c1 c2 c3, Lib.cut x [10] = (c1, c2, c3) ∧ lns x = c1 :: (if c3 = true then lns c2 else []) ∧ c1.length ≤ x.length ∧ (c3 = true → c2.length < x.length) ∧ c2.length ≤ x.length := by
  rw [cut_one, lns_cut]
  by_cases h : (10 : UInt8) ∈ x
  · refine ⟨_, _, _, if_pos h, by rw [if_pos h, if_pos rfl], (List.takeWhile_sublist _).length_le, fun _ => ?_, ?_⟩
    · have hl := (List.dropWhile_sublist (fun b => b != 10) (l := x)).length_le
      have hx : 0 < x.length := List.length_pos_of_mem h
      rw [List.length_tail]
      omega
    · have hl := (List.dropWhile_sublist (fun b => b != 10) (l := x)).length_le
      rw [List.length_tail]
      omega
  · exact ⟨_, _, _, if_neg h, by rw [if_neg h, if_neg (by simp)], Nat.le_refl _, fun e => by simp at e, by simp⟩
def rowsM (x : Bs) (m : Bool) : List (List Bs) := if m = true then rowsF x else []
/-- Plain before a semicolon, on every line. -/
def Pln (x : Bs) : Prop := ∀ l ∈ lns x, ∀ b ∈ semi l, b.toNat < 128
theorem svAdd_long (num : Nat) (ws : List Bs) (s : Sv) : (svAdd num ws s).long = s.long := by
  unfold svAdd
  split
  · split <;> rfl
  · split <;> rfl
theorem svAdd_place (num : Nat) (ws : List Bs) (s : Sv) : s.place ≤ (svAdd num ws s).place ∧ (svAdd num ws s).place ≤ s.place + 4 := by
  unfold svAdd
  split
  · split
    · omega
    · simp
  · split
    · omega
    · rename_i y t _
      have := szOf_le y
      simp
      omega
/-- Where the labels stand is not far. -/
def Near (s : Sv) (n : Nat) : Prop := s.place ≤ 4 * n ∧ s.long ≤ n ∧ ∀ p ∈ s.M, p.2.2 ≤ 4 * n ∧ p.2.1 ≤ n
theorem Near.next {s : Sv} {n : Nat} (h : Near s n) (ws : List Bs) : Near (svLong (n + 1) (svAdd (n + 1) ws s)) (n + 1) := by
  obtain ⟨h1, h2, h3⟩ := h
  have hp := svAdd_place (n + 1) ws s
  have hl := svAdd_long (n + 1) ws s
  have hm : ∀ p ∈ (svAdd (n + 1) ws s).M, p.2.2 ≤ 4 * (n + 1) ∧ p.2.1 ≤ n + 1 := by
    unfold svAdd
    split
    · split
      · intro p hp; have := h3 p hp; omega
      · intro p hp
        simp only [List.mem_append, List.mem_singleton] at hp
        rcases hp with hp | rfl
        · have := h3 p hp; omega
        · simp; omega
    · split
      · intro p hp; have := h3 p hp; omega
      · intro p hp; have := h3 p hp; omega
  unfold svLong
  split
  · exact ⟨by simp; omega, by simp, hm⟩
  · exact ⟨by omega, by omega, hm⟩
theorem svF_near : ∀ (r : List (List Bs)) (n : Nat) (s : Sv), Near s n → Near (svF r (n + 1) s) (n + r.length)
  | [], _, _, h => h
  | ws :: r, n, s, h => by
    have := svF_near r (n + 1) _ (h.next ws)
    simp only [svF, List.length_cons]
    rw [show n + (r.length + 1) = n + 1 + r.length by omega]
    exact this
theorem lookL_mem {M : Labs} {x : Bs} {s : Nat × Nat} (h : lookL M x = some s) : ∃ p ∈ M, p.2 = s := by
  unfold lookL at h
  obtain ⟨p, hp, rfl⟩ := Option.map_eq_some_iff.1 h
  exact ⟨p, List.mem_of_find?_eq_some hp, rfl⟩
theorem svT_near (text : Bs) : Near (svT text) (text.length + 1) := by
  have h : Near (svF (rowsF text) 1 ⟨[], 0, 0⟩) (0 + (rowsF text).length) := svF_near (rowsF text) 0 ⟨[], 0, 0⟩ ⟨by simp, by simp, by simp⟩
  have hl := lns_len text
  have e : (rowsF text).length = (lns text).length := by unfold rowsF; simp
  rw [e] at h
  obtain ⟨h1, h2, h3⟩ := h
  unfold svT
  exact ⟨by omega, by omega, fun p hp => by have := h3 p hp; omega⟩
theorem below_put {w w' : World} {B b : Nat} (hb : B ≤ b) (h1 : w'.os = w.os) (h2 : w'.tape = w.tape) (h3 : w'.output = w.output) (h4 : w'.heap.size = w.heap.size) (h5 : ∀ k, k ≠ b → w'.heap[k]? = w.heap[k]?) : Below B w w' := by
  refine ⟨?_, ?_, ?_, ?_, ?_⟩
  all_goals first
    | exact h1
    | exact h2
    | exact h3
    | omega
    | exact fun k hk => h5 k (by omega)
end Go.Proofs.YtobkehlkopkaeaaDoor
