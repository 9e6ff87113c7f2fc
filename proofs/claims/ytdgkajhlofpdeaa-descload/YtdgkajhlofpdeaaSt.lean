/- A table in memory; New, at, put; no statement is proved in this text. -/
import Derived.Test.YtdgkajhlofpdeaaMp
namespace Go.Proofs.Ytdgkajhlofpdeaa
open Go.ChangeShapes Go.WideShapes Go.ChangeAt Go.RowKit Go.Deep
attribute [local go_sem ↓] Go.wp_at_zero Go.wp_at_succ


def MapV (w : World) (base : Nat) (mv : Value) (S : St) : Prop := (mv = .map none ∧ S = noSt) ∨ ∃ b, mv = .map (some b) ∧ base ≤ b ∧ MapIs w b S
def Tb (w : World) (base P : Nat) (S : St) : Prop := base ≤ P ∧ ∃ mv, w.heap[P]? = some (.cells #[mv] 61) ∧ MapV w base mv S
theorem MapV.lkup {w : World} {base : Nat} {mv : Value} {S : St} (h : MapV w base mv S) (k : K) : (Instr.lookup 59 mv (keyV k) true).run Try.prog w = .ok (lookR S k) w := by
  rcases h with ⟨rfl, rfl⟩ | ⟨b, rfl, _, h⟩
  · exact look_nilmap w k
  · exact h.lkup k
theorem MapV.kept {w w' : World} {base : Nat} {mv : Value} {S : St} (h : MapV w base mv S) (hk : ∀ (b : Nat) (es : Array MapEntry) (c : Nat), w.heap[b]? = some (Obj.map es c) → w'.heap[b]? = w.heap[b]?) : MapV w' base mv S := by
  rcases h with h | ⟨b, rfl, hb, h⟩
  · exact .inl h
  · refine .inr ⟨b, rfl, hb, h.kept ?_⟩
    obtain ⟨es, c, h1, _⟩ := h
    exact hk b es c h1
theorem MapV.below {w w' : World} {base : Nat} {mv : Value} {S : St} (h : MapV w base mv S) (hb : Below w.heap.size w w') : MapV w' base mv S := h.kept fun b _ _ hb' => hb.block b (blk_lt hb')
theorem Tb.lt {w : World} {base P : Nat} {S : St} (h : Tb w base P S) : P < w.heap.size := by
  obtain ⟨_, mv, h1, _⟩ := h
  exact blk_lt h1
theorem Tb.lo {w : World} {base P : Nat} {S : St} (h : Tb w base P S) : base ≤ P := h.1
theorem Tb.below {w w' : World} {base P : Nat} {S : St} (h : Tb w base P S) (hb : Below w.heap.size w w') : Tb w' base P S := by
  obtain ⟨h0, mv, h1, h2⟩ := h
  exact ⟨h0, mv, blk_below h1 hb, h2.below hb⟩
theorem Tb.fr {w w' : World} {base base' P : Nat} {S : St} {ts : List TypeId} (h : Tb w base P S) (hf : Fr base' ts w w') (h61 : ts.contains 61 = false) (h59 : ts.contains 59 = false) : Tb w' base P S := by
  obtain ⟨h0, mv, h1, h2⟩ := h
  refine ⟨h0, mv, hf.kept _ _ h1 (by simp only [keeps, h61]; rfl), h2.kept fun b es c hb => ?_⟩
  rw [hb]
  exact hf.kept _ _ hb (by simp only [keeps, h59]; rfl)
theorem zero61 (w : World) : (zeroValue 61).run Try.prog w = .ok (.agg #[.map none]) w := by kernel_rfl
set_option maxRecDepth 100000 in
set_option maxHeartbeats 400000 in
theorem new_ok (w : World) : Calls Try.prog 9 #[] w fun e w' => e = .returned (pq w.heap.size) ∧ Tb w' w.heap.size w.heap.size noSt ∧ Below w.heap.size w w' := by
  have HP : Hid (Tb (w.alloc (.cells #[.map none] 61)) w.heap.size w.heap.size noSt) := ⟨Nat.le_refl _, .map none, heap_last w _, .inl ⟨rfl, rfl⟩⟩
  have hz := zero61 w
  go_enter Try.func9, Try.ntmps9
  go_wp2_with fail
  go_ret
  exact ⟨rfl, HP.out, below_one w _⟩
theorem five_cells {W : World} {b : Nat} {p s a c d : Value} {t : TypeId} (h : W.heap[b]? = some (.cells #[p, s, a, c, d] t)) : W.cell? ⟨b, 0, none⟩ = some p ∧ W.cell? ⟨b, 1, none⟩ = some s ∧ W.cell? ⟨b, 2, none⟩ = some a ∧ W.cell? ⟨b, 3, none⟩ = some c ∧ W.cell? ⟨b, 4, none⟩ = some d := ⟨blk_cell h 0, blk_cell h 1, blk_cell h 2, blk_cell h 3, blk_cell h 4⟩
theorem load38 {W : World} {b : Nat} {p s a c d : Int} (h : W.heap[b]? = some (.cells #[i64 p, i64 s, i64 a, i64 c, i64 d] 38 (0, 0))) : (loadVar 38 ⟨b, 0, none⟩).run Try.prog W = .ok (ev p s a c d) W := by
  obtain ⟨c0, c1, c2, c3, c4⟩ := five_cells h
  simp [go_sem, c0, c1, c2, c3, c4]
theorem load42 {W : World} {b : Nat} {p s a c d : Int} (h : W.heap[b]? = some (.cells #[i64 p, i64 s, i64 a, i64 c, i64 d] 42 (0, 0))) : (loadVar 42 ⟨b, 0, none⟩).run Try.prog W = .ok (ev p s a c d) W := by
  obtain ⟨c0, c1, c2, c3, c4⟩ := five_cells h
  simp [go_sem, c0, c1, c2, c3, c4]
theorem set5 {V : World} {b : Nat} {x y z u v : Value} {t : TypeId} (h : V.heap[b]? = some (.cells #[x, y, z, u, v] t)) (p q r m n : Value) : (((((V.setCell ⟨b, 0, none⟩ p).setCell ⟨b, 1, none⟩ q).setCell ⟨b, 2, none⟩ r).setCell ⟨b, 3, none⟩ m).setCell ⟨b, 4, none⟩ n).heap[b]? = some (.cells #[p, q, r, m, n] t) := by
  have h1 := heap_setCell_same V b 0 _ t p h
  have h2 := heap_setCell_same _ b 1 _ t q h1
  have h3 := heap_setCell_same _ b 2 _ t r h2
  have h4 := heap_setCell_same _ b 3 _ t m h3
  have h5 := heap_setCell_same _ b 4 _ t n h4
  exact h5
theorem bel5 {w V : World} {B b : Nat} (h : Below B w V) (hb : B ≤ b) (p q r m n : Value) : Below B w (((((V.setCell ⟨b, 0, none⟩ p).setCell ⟨b, 1, none⟩ q).setCell ⟨b, 2, none⟩ r).setCell ⟨b, 3, none⟩ m).setCell ⟨b, 4, none⟩ n) := ((((h.setCell hb _).setCell hb _).setCell hb _).setCell hb _).setCell hb _
abbrev enO (p s a c d : Int) (t : TypeId) : Obj := .cells #[i64 p, i64 s, i64 a, i64 c, i64 d] t
set_option maxRecDepth 100000 in
set_option maxHeartbeats 400000 in
theorem at_nil (w : World) (p s : Int) : Calls Try.prog 36 #[.pointer none, i64 p, i64 s] w fun e w' => e = .returned (.tuple #[ev 0 0 0 0 0, .bool false]) ∧ Below w.heap.size w w' := by
  have hz := zero38
  have HB := hid (below_one w (enO 0 0 0 0 0 38))
  have HL := hid (heap_last w (enO 0 0 0 0 0 38))
  go_enter Try.func36, Try.ntmps36
  go_wp2_with fail
  exact bodyPost_ret (results_cell Try.results36 rfl rfl (load38 HL.out)) rfl ⟨rfl, HB.out⟩
/-- What the table has there. -/
theorem Tb.here {w W : World} {base P : Nat} {S : St} (h : Tb w base P S) (hb : Below w.heap.size w W) (k : K) : ∃ mv, W.cell? ⟨P, 0, none⟩ = some mv ∧ (Instr.lookup 59 mv (keyV k) true).run Try.prog W = .ok (lookR S k) W := by
  obtain ⟨_, mv, h1, h2⟩ := h.below hb
  exact ⟨mv, blk_cell h1 0, h2.lkup k⟩
set_option maxRecDepth 100000 in
set_option maxHeartbeats 400000 in
theorem at_none (w : World) (base P : Nat) (S : St) (p s : Int) (h : Tb w base P S) (hS : S (p, s) = none) : Calls Try.prog 36 #[pq P, i64 p, i64 s] w fun e w' => e = .returned (.tuple #[ev 0 0 0 0 0, .bool false]) ∧ Below w.heap.size w w' := by
  have hB := below_one w (enO 0 0 0 0 0 38)
  obtain ⟨mv, hc, hl⟩ := h.here hB (p, s)
  unfold lookR at hl
  rw [hS] at hl
  replace hl : (Instr.lookup 59 mv (kv p s) true).run Try.prog (w.alloc (enO 0 0 0 0 0 38)) = .ok (.tuple #[ev 0 0 0 0 0, .bool false]) (w.alloc (enO 0 0 0 0 0 38)) := hl
  have HB := hid (hB.alloc (by simp) (enO 0 0 0 0 0 38))
  have HL := hid (blk_alloc (heap_last w (enO 0 0 0 0 0 38)) (enO 0 0 0 0 0 38))
  have hz := zero38
  clear h hS hB
  go_enter Try.func36, Try.ntmps36
  go_wp2_with fail
  exact bodyPost_ret (results_cell Try.results36 rfl rfl (load38 HL.out)) rfl ⟨rfl, HB.out⟩
set_option maxRecDepth 100000 in
set_option maxHeartbeats 400000 in
theorem at_some (w : World) (base P : Nat) (S : St) (p s a b c : Int) (h : Tb w base P S) (hS : S (p, s) = some (a, b, c)) : Calls Try.prog 36 #[pq P, i64 p, i64 s] w fun e w' => e = .returned (.tuple #[ev p s a b c, .bool true]) ∧ Below w.heap.size w w' := by
  have hB := below_one w (enO 0 0 0 0 0 38)
  obtain ⟨mv, hc, hl⟩ := h.here hB (p, s)
  unfold lookR at hl
  rw [hS] at hl
  replace hl : (Instr.lookup 59 mv (kv p s) true).run Try.prog (w.alloc (enO 0 0 0 0 0 38)) = .ok (.tuple #[ev p s a b c, .bool true]) (w.alloc (enO 0 0 0 0 0 38)) := hl
  have HB := hid ((below_one w (enO p s a b c 38)).alloc (by simp) (enO p s a b c 38))
  have HL := hid (blk_alloc (heap_last w (enO p s a b c 38)) (enO p s a b c 38))
  have hz := zero38
  clear h hS hB
  go_enter Try.func36, Try.ntmps36
  go_wp2_with fail
  exact bodyPost_ret (results_cell Try.results36 rfl rfl (load38 HL.out)) rfl ⟨rfl, HB.out⟩
end Go.Proofs.Ytdgkajhlofpdeaa
