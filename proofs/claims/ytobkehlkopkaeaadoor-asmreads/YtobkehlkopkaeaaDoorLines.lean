/- asm's Lines: its contract; no statement is proved in this text. -/
import Derived.Test.YtobkehlkopkaeaaDoorLine
namespace Go.Proofs.YtobkehlkopkaeaaDoor
open Go.ChangeShapes Go.WideShapes Go.ChangeAt Go.RowKit
set_option maxRecDepth 100000

theorem own_mono {w : World} {base base' : Nat} {e : TypeId} {s : Nat} {v : Value} {n : Nat} {xs : List Value} (h : w.ownsRow base e s v n xs) (hb : base' ≤ base) : w.ownsRow base' e s v n xs := by
  refine ⟨h.1, ?_⟩
  rcases h.2 with h | ⟨g, cap, cur, h1, h2, h3⟩
  · exact Or.inl h
  · exact Or.inr ⟨g, cap, cur, h1, Nat.le_trans hb h2, h3⟩
theorem alL_is (l : Bs) : ∀ i ∈ alL l, isI i = true := by
  unfold alL
  split
  · simp
  · cases h : allO l with
    | none => simp
    | some xs =>
      unfold allO at h
      exact (allF_join _ _ _ h).1
theorem alL_len (l : Bs) : (alL l).length ≤ 256 := by
  have h := alL_is l
  unfold alL at h ⊢
  split
  · simp
  · rename_i hl
    rw [if_neg hl] at h
    cases h2 : allO l with
    | none => simp
    | some xs =>
      unfold allO at h2
      have hj := (allF_join _ _ _ h2).2
      have : xs.length ≤ (xs.flatMap plain).length := by
        clear hj h2 h
        induction xs with
        | nil => simp
        | cons x xs ih =>
          simp only [List.flatMap_cons, List.length_append, List.length_cons]
          have := plain_len x
          have := (sz_le x.op.toNat).1
          omega
      rw [hj] at this
      simp
      omega
theorem alE_ne (l : Bs) (h : alE l ≠ 0) : alL l = [] := by
  unfold alE at h
  unfold alL
  split
  · rfl
  · rename_i hl
    rw [if_neg hl] at h
    cases h2 : allO l with
    | none => rfl
    | some xs => rw [h2] at h; simp at h

set_option maxHeartbeats 1600000 in
theorem lines_ok (w : World) (he : Env w) (l : Bs) : Calls Tryd.prog 11 #[str l] w fun e w' => ∃ v, e = .returned (.tuple #[v, i64 (alE l)]) ∧ w'.ownsRow w.heap.size 9 1 v (alL l).length (((alL l).map lineF).map str) ∧ Below w.heap.size w w' := by
  have HA : Hid (Calls Tryd.prog 33 #[str l] w fun e w' => ∃ v, e = .returned (.tuple #[v, i64 (alE l)]) ∧ w'.ownsRow w.heap.size 27 4 v (alL l).length (icells (alL l)) ∧ Below w.heap.size w w') := all_any w he.tab l
  have HE : Hid (Env w) := he
  have HIS : Hid (∀ i ∈ alL l, isI i = true) := alL_is l
  have HNE : Hid (alE l ≠ 0 → alL l = []) := alE_ne l
  obtain ⟨NX, hNX⟩ : ∃ NX, (alL l).length = NX := ⟨_, rfl⟩
  have HNX : Hid ((alL l).length = NX) := hNX
  have hN256 : NX ≤ 256 := by rw [← hNX]; exact alL_len l
  rw [hNX] at HA ⊢
  clear he hNX
  generalize alL l = xs at *
  generalize alE l = E at *
  by_cases hE : E = 0
  · subst hE
    go_enter Tryd.func11, Tryd.ntmps11
    go_wp2_with fail
    refine HA.out.mono ?_
    rintro e w1 ⟨v, rfl, ho, hb⟩
    obtain ⟨ao, cap, rfl, hs, _⟩ := own_isl ho
    have HS : Hid (ISl w1 ao xs) := hs
    have HB1 : Hid (Below w.heap.size w w1) := hb
    have hz1 := hb.size
    clear ho hb hs
    go_wp2_with fail
    go_loopw [6, 21] (fun v i wr => ∃ k : Nat, i = i64 k ∧ k ≤ NX ∧ wr.ownsRow w1.heap.size 9 1 v k (((xs.take k).map lineF).map str) ∧ Below w1.heap.size w1 wr) (fun _ i _ => NX - (intOf i).toNat)
    case atStart => exact ⟨0, rfl, by omega, World.ownsRow_nil _ _ _ _, Below.refl _ _⟩
    case round =>
      obtain ⟨k, rfl, hk, ho, hb⟩ := hrel
      have HO : Hid (wr.ownsRow w1.heap.size 9 1 u6 k (((xs.take k).map lineF).map str)) := ho
      have HB : Hid (Below w1.heap.size w1 wr) := hb
      have hz := hb.size
      by_cases hkN : k < NX
      · have hkx : k < xs.length := by rw [HNX.out]; exact hkN
        obtain ⟨b, off, rfl, hbl, c0, c1, c2, c3⟩ := (HS.out.below hb).at hkx
        have hI := HIS.out _ (List.getElem_mem hkx)
        have HL : Hid (∀ w, Env w → Calls Tryd.prog 13 #[inV xs[k]] w fun e w' => e = .returned (.tuple #[str (lineF xs[k]), i64 0]) ∧ Below w.heap.size w w') := fun w he => by
          have := line_any w he xs[k]
          unfold btE at this
          rw [if_pos hI, if_pos hI] at this
          exact this
        have HT : Hid (((xs.take (k + 1)).map lineF).map str = ((xs.take k).map lineF).map str ++ [str (lineF xs[k])]) := (by rw [← List.take_append_getElem hkx, List.map_append, List.map_append]; rfl : ((xs.take (k + 1)).map lineF).map str = ((xs.take k).map lineF).map str ++ [str (lineF xs[k])])
        have HEr : Hid (Env wr) := HE.out.below (HB1.out.trans (hb.mono hz1))
        clear ho hb hI
        generalize lineF xs[k] = LN at *
        generalize xs[k] = q at *
        obtain ⟨op, a, b2, n⟩ := q
        go_wp2_with (first
          | (go_at_call 13; refine (HL.out _ (HEr.out.alloc _)).mono ?_; rintro e w2 ⟨rfl, hb2⟩; have HB2 : Hid (Below w1.heap.size w1 w2) := (HB.out.alloc hz _).trans (hb2.mono (by simp <;> omega)); have HO2 : Hid (w2.ownsRow w1.heap.size 9 1 u6 k (((xs.take k).map lineF).map str)) := own_below (HO.out.alloc _) hb2; have hz2 := HB2.out.size; clear hb2)
          | (at_builtin; refine app28 rfl (.tmp 33) (.tmp 35) rfl w1.heap.size _ k _ rfl (HO2.out.alloc _) _ _ _ rfl (one_at9 rfl _) (by omega) (by simp <;> omega) ?_; intro v4 w4 ho4 hb4; have HO4 : Hid (w4.ownsRow w1.heap.size 9 1 v4 (k + 1) (((xs.take k).map lineF).map str ++ [str LN])) := ho4; have HB4 : Hid (Below w1.heap.size w1 w4) := (HB2.out.alloc hz2 _).trans hb4; clear ho4 hb4))
        exact ⟨⟨k + 1, by go_num, by omega, by rw [HT.out]; exact HO4.out, HB4.out⟩, by simp [intOf]; omega⟩
      · obtain rfl : k = NX := by omega
        have HT : Hid (xs.take k = xs) := List.take_of_length_le (by rw [HNX.out]; exact Nat.le_refl _)
        clear ho hb
        go_wp2_with fail
        go_ret2
        exact ⟨_, rfl, by rw [← HT.out]; exact own_mono HO.out hz1, HB1.out.trans (HB.out.mono hz1)⟩
  · have HX : Hid (xs = []) := HNE.out hE
    have hEb : (E != 0) = true := by simpa using hE
    clear hE
    go_enter Tryd.func11, Tryd.ntmps11
    go_wp2_with fail
    refine HA.out.mono ?_
    rintro e w1 ⟨v, rfl, ho, hb⟩
    have HB1 : Hid (Below w.heap.size w w1) := hb
    clear ho hb
    go_wp2_with fail
    go_ret2
    exact ⟨_, rfl, by rw [← HNX.out, HX.out]; exact World.ownsRow_nil _ _ _ _, HB1.out⟩
end Go.Proofs.YtobkehlkopkaeaaDoor
