/- No statement here. -/
import Derived.Test.YtnknhencobhjdaaMMd
namespace Go.Proofs.Ytnknhencobhjdaa
open Go.ChangeShapes Go.WideShapes Go.ChangeAt Go.RowKit Go.Deep
open Go.Proofs.Ytnknhencobhjdaa.Cp (pq hid bl1 hO)
instance : Inhabited Sb := ⟨⟨0, 0, 0, 0, 0, 0, false, ⟨0, 0, 0⟩⟩⟩
def SSl (w : World) (ao : Option Addr) (len : Nat) (f : Nat → Sb) : Prop := len = 0 ∨ ∃ b off, ao = some ⟨b, off, none⟩ ∧ b < w.heap.size ∧ ∀ i, i < len → w.rangeAt b (off + i * 10) (f i).c
theorem SSl.below {w w' : World} {ao : Option Addr} {len : Nat} {f : Nat → Sb} {B : Nat} (h : SSl w ao len f) (hB : w.heap.size ≤ B) (hb : Below B w w') : SSl w' ao len f := by
  rcases h with h | ⟨b, off, rfl, hlt, hc⟩
  · exact Or.inl h
  · exact Or.inr ⟨b, off, rfl, Nat.lt_of_lt_of_le hlt hb.size, fun i hi j v hv => by
      rw [hb.cell (show b < B by omega)]
      exact hc i hi j v hv⟩
theorem SSl.at {w : World} {ao : Option Addr} {len : Nat} {f : Nat → Sb} (h : SSl w ao len f) {k : Nat} (hk : k < len) : ∃ b off, ao = some ⟨b, off, none⟩ ∧ b < w.heap.size ∧ w.rangeAt b (off + k * 10) (f k).c := by
  rcases h with h | ⟨b, off, rfl, hlt, hc⟩
  · omega
  · exact ⟨b, off, rfl, hlt, hc k hk⟩
theorem steps_read {H : Type} {enc : TypeId × Value → H} {W : World} {spare : Nat → Bool} {held : Bool} {a : Option Addr} {len cap : Nat} {d : DataW H} {ps : List MemPlace}
    (h : DataW.Trod enc Try.prog W 0 spare held 23 (.slice a len cap) d ps) : len ≤ maxLen ∧ ∃ f, SSl W a len f ∧ ∀ i, i < len → (f i).rng := by
  obtain ⟨h1, f, h2, h3⟩ := slice_read (fun s : Sb => s.c) Sb.rng Try.underlying23 cells33 (fun _ => by simp) (fun hr => by
    obtain ⟨s, h1, h2⟩ := step_read hr
    exact ⟨s, h1, h2⟩) h
  exact ⟨h1, f, h3, h2⟩
abbrev z33 : Obj := .cells #[i64 0, i64 0, i64 0, i64 0, i64 0, i64 0, .bool false, i64 0, i64 0, i64 0] 33
theorem zero33 (w : World) : (zeroValue 33).run Try.prog w = .ok (.agg #[i64 0, i64 0, i64 0, i64 0, i64 0, i64 0, .bool false, i64 0, i64 0, i64 0]) w := by kernel_rfl
theorem st33 (w : World) (x : Sb) : ((w.alloc z33).setCells w.heap.size 0 x.c).heap[w.heap.size]? = some (sbO x) ∧ Below w.heap.size w ((w.alloc z33).setCells w.heap.size 0 x.c) ∧ (w.alloc z33).there w.heap.size 0 10 := by
  refine ⟨?_, ?_, ?_⟩
  · have := Cp.heap_mid (t := 33) (b := w.heap.size) [] x.c [i64 0, i64 0, i64 0, i64 0, i64 0, i64 0, .bool false, i64 0, i64 0, i64 0] [] (w.alloc z33) rfl (hlx w _)
    simpa using this
  · exact (Touch.setCells x.c 0 _ (Cp.Touch.of_below (q := w.heap.size) (bl1 w z33))).below (Nat.le_refl _) (Nat.le_refl _)
  · intro j hj
    refine ⟨?_, bkf (hlx w z33) _⟩
    rw [show (w.alloc z33).cell? ⟨w.heap.size, 0 + j, none⟩ = _ from bkc (hlx w z33) (0 + j), Nat.zero_add]
    match j, hj with
    | 0, _ => rfl
    | 1, _ => rfl
    | 2, _ => rfl
    | 3, _ => rfl
    | 4, _ => rfl
    | 5, _ => rfl
    | 6, _ => rfl
    | 7, _ => rfl
    | 8, _ => rfl
    | 9, _ => rfl
theorem sb_one (x : Sb) : x.c.toArray.all (·.oneCell') = true := all_oneCell_toArray (by
  intro v hv
  simp only [List.mem_cons, List.not_mem_nil, or_false] at hv
  rcases hv with rfl | rfl | rfl | rfl | rfl | rfl | rfl | rfl | rfl | rfl <;> rfl)
def At (w : World) (base p : Nat) (t : Qt.T) (k : Nat) : Prop := ∃ z s T L R C Rs P H E, Pp w base p z t s T L R C Rs P H E ∧ C.length ≤ k ∧ H.length ≤ k
theorem At.below {w w' : World} {base p : Nat} {t : Qt.T} {k : Nat} (h : At w base p t k) (hb : Below w.heap.size w w') : At w' base p t k := by
  obtain ⟨z, s, T, L, R, C, Rs, P, H, E, h1, h2⟩ := h
  exact ⟨z, s, T, L, R, C, Rs, P, H, E, h1.below hb, h2⟩
end Go.Proofs.Ytnknhencobhjdaa
