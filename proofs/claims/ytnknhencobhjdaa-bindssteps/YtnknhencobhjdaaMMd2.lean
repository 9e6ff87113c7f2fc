/- No statement here. -/
import Derived.Test.YtnknhencobhjdaaMDo1
namespace Go.Proofs.Ytnknhencobhjdaa
open Go.ChangeShapes Go.WideShapes Go.ChangeAt Go.RowKit Go.Deep
open Go.Proofs.Ytnknhencobhjdaa.Cp (pq hid bl1 hO zC)
section
variable {w W W' : World} {base p X Y : Nat} {z : Px} {x : Sb} {hs hg : Int} {t : Qt.T} {s1 s2 s' : Qt.St} {T T' : List Cp.Pl} {L L' : Ls} {R R' : Nat → List Hn} {C C' : List Cp.Rw} {Rs Rs' : List Rt} {P P' : List Int} {H H' : List Hn} {E E' : List Int}
theorem Md.touch (h : Md W base p X Y z x hs hg t s1 s2 T L R C Rs P H E) {Z : Nat} {A : Array Value} {ty : TypeId} (hZ : W.heap[Z]? = some (.cells A ty)) (hty : (ty = 43 ∧ Y ≠ Z ∧ (∀ i, i < 3 → Z ≠ z.x.g i) ∧ z.hb ≠ some Z) ∨ ty = 83) (hk : ∀ k, k ≠ Z → W'.heap[k]? = W.heap[k]?) : Md W' base p X Y z x hs hg t s1 s2 T L R C Rs P H E := by
  have keep : ∀ {k : Nat} {o : Obj}, W.heap[k]? = some o → (∀ A, o ≠ .cells A 83) → ((∀ A, o ≠ .cells A 43) ∨ k ≠ Z) → W'.heap[k]? = some o := fun {k o} hko h83 h43 => by
    refine (hk k (fun e => ?_)).trans hko
    rw [e, hZ] at hko
    cases hko
    rcases hty with ⟨rfl, _⟩ | rfl
    · rcases h43 with h43 | h43
      · exact h43 _ rfl
      · exact h43 e
    · exact h83 _ rfl
  have n43 : ∀ k, W.heap[k]? = W.heap[k]? → (ty = 43 → k ≠ Z) → ∀ {B : Array Value}, W.heap[k]? = some (.cells B 43) → W'.heap[k]? = some (.cells B 43) := fun k _ hne {B} hB => by
    refine (hk k (fun e => ?_)).trans hB
    rcases hty with ⟨h4, _⟩ | h8
    · exact hne h4 e
    · rw [e, hZ] at hB
      cases hB
      cases h8
  have hbd : Bd W' base z.b z.x t s1 T L R := by
    refine ⟨keep h.bd.row (by simp) (Or.inl (by simp)), h.bd.lo, h.bd.bk.same (fun k o hk ho => ?_), ⟨h.bd.tb.lo, h.bd.tb.len, keep h.bd.tb.row (by simp) (Or.inl (by simp))⟩, ?_, h.bd.mlo, fun k hk => ⟨n43 _ rfl (fun h4 e => ?_) (h.bd.rt k hk).1, (h.bd.rt k hk).2⟩, h.bd.ap, h.bd.len⟩
    · obtain ⟨A, rfl | rfl⟩ := ho
      · exact keep hk (by simp) (Or.inl (by simp))
      · exact keep hk (by simp) (Or.inl (by simp))
    · obtain ⟨es, clock, hb, g⟩ := h.bd.mp
      exact ⟨es, clock, keep hb (by simp) (Or.inl (by simp)), g⟩
    · rcases hty with ⟨_, _, hg, _⟩ | h8
      · exact hg k hk e.symm
      · rw [h8] at h4; cases h4
  have hdd : Dd W' base z.d z.y t s2 C Rs P := h.dd.same fun k o hk ho => by
    cases o with
    | cells B tb fr =>
      refine keep hk (fun B' e => ?_) (Or.inl fun B' e => ?_)
      · cases e; simp [isD] at ho
      · cases e; simp [isD] at ho
    | _ => simp [isD] at ho
  refine ⟨hbd, hdd, h.pk.same (fun B hB => keep hB (by simp) (Or.inl (by simp))) (fun g B hg hB => n43 g rfl (fun h4 e => ?_) hB) (fun g B _ hB => keep hB (by simp) (Or.inl (by simp))), keep h.hx (by simp) (Or.inl (by simp)), n43 Y rfl (fun h4 e => ?_) h.hy, h.he, h.ah, h.ae, h.ny, h.nh⟩
  · rcases hty with ⟨_, _, _, hh⟩ | h8
    · exact hh (by rw [hg, e])
    · rw [h8] at h4; cases h4
  · rcases hty with ⟨_, hy, _⟩ | h8
    · exact hy e
    · rw [h8] at h4; cases h4
theorem ne2 (W : World) (Z : Nat) (u v : Value) : ∀ k, k ≠ Z → ((W.setCell ⟨Z, 0, none⟩ u).setCell ⟨Z, 1, none⟩ v).heap[k]? = W.heap[k]? := fun k hk => by
  rw [Below.heap_setCell _ _ _ _ hk, Below.heap_setCell _ _ _ _ hk]
theorem ne4 (W : World) (Z : Nat) (a b c d : Value) : ∀ k, k ≠ Z → ((((W.setCell ⟨Z, 0, none⟩ a).setCell ⟨Z, 1, none⟩ b).setCell ⟨Z, 2, none⟩ c).setCell ⟨Z, 3, none⟩ d).heap[k]? = W.heap[k]? := fun k hk => by
  rw [Below.heap_setCell _ _ _ _ hk, Below.heap_setCell _ _ _ _ hk, Below.heap_setCell _ _ _ _ hk, Below.heap_setCell _ _ _ _ hk]
theorem Pf.set2 (h : Pf base w W) (hlo : base ≤ w.heap.size) {Z : Nat} (hz : w.heap.size ≤ Z) (u v : Value) : Pf base w ((W.setCell ⟨Z, 0, none⟩ u).setCell ⟨Z, 1, none⟩ v) :=
  ⟨(h.below.setCell (by show base ≤ Z; omega) _).setCell (by show base ≤ Z; omega) _, fun k A ty hty hA => by
    rw [ne2 W Z u v k (by have := blk_lt hA; omega)]
    exact h.kept k A ty hty hA⟩
theorem Pf.set4 (h : Pf base w W) (hlo : base ≤ w.heap.size) {Z : Nat} (hz : w.heap.size ≤ Z) (a b c d : Value) : Pf base w ((((W.setCell ⟨Z, 0, none⟩ a).setCell ⟨Z, 1, none⟩ b).setCell ⟨Z, 2, none⟩ c).setCell ⟨Z, 3, none⟩ d) :=
  ⟨(((h.below.setCell (by show base ≤ Z; omega) _).setCell (by show base ≤ Z; omega) _).setCell (by show base ≤ Z; omega) _).setCell (by show base ≤ Z; omega) _, fun k A ty hty hA => by
    rw [ne4 W Z a b c d k (by have := blk_lt hA; omega)]
    exact h.kept k A ty hty hA⟩
end
end Go.Proofs.Ytnknhencobhjdaa
