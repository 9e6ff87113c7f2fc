/- same: two lists that read alike; no statement is proved in this text. -/
import Derived.Test.YtdgkajhlofpdeaaDo
namespace Go.Proofs.Ytdgkajhlofpdeaa
open Go.ChangeShapes Go.WideShapes Go.ChangeAt Go.RowKit Go.Deep
attribute [local go_sem ↓] Go.wp_at_zero Go.wp_at_succ

theorem eqE38 (p s a b c p' s' a' b' c' : Int) (w : World) : (Op.equalIn 10000 38 (ev p s a b c) (ev p' s' a' b' c')).run Try.prog w = .ok (decide (p = p' ∧ s = s' ∧ a = a' ∧ b = b' ∧ c = c')) w := by
  rw [run_equalIn_struct w 9999 38 _ _ (by kernel_rfl) (by kernel_rfl)]
  have p0 : ∀ (p s a b c : Int) (w : World), (part 3 #[i64 p, i64 s, i64 a, i64 b, i64 c] 0).run Try.prog w = .ok (i64 p) w := fun _ _ _ _ _ w => by kernel_rfl
  have p1 : ∀ (p s a b c : Int) (w : World), (part 3 #[i64 p, i64 s, i64 a, i64 b, i64 c] 1).run Try.prog w = .ok (i64 s) w := fun _ _ _ _ _ w => by kernel_rfl
  have p2 : ∀ (p s a b c : Int) (w : World), (part 3 #[i64 p, i64 s, i64 a, i64 b, i64 c] 2).run Try.prog w = .ok (i64 a) w := fun _ _ _ _ _ w => by kernel_rfl
  have p3 : ∀ (p s a b c : Int) (w : World), (part 3 #[i64 p, i64 s, i64 a, i64 b, i64 c] 3).run Try.prog w = .ok (i64 b) w := fun _ _ _ _ _ w => by kernel_rfl
  have p4 : ∀ (p s a b c : Int) (w : World), (part 3 #[i64 p, i64 s, i64 a, i64 b, i64 c] 4).run Try.prog w = .ok (i64 c) w := fun _ _ _ _ _ w => by kernel_rfl
  have hq := eqInt 9998
  simp only [Program.fieldsOf, Try.underlying38]
  by_cases h1 : p = p' <;> by_cases h2 : s = s' <;> by_cases h3 : a = a' <;> by_cases h4 : b = b' <;> by_cases h5 : c = c' <;> simp [Op.eqFields, p0, p1, p2, p3, p4, hq, h1, h2, h3, h4, h5, Result.andThen]
theorem same38 (p s a b c : Int) (w : World) : (Op.equalIn 10000 38 (ev p s a b c) (ev p s a b c)).run Try.prog w = .ok true w := by
  rw [eqE38]
  simp
theorem eqE42 (p s a b c p' s' a' b' c' : Int) (w : World) : (Op.equalIn 10000 42 (ev p s a b c) (ev p' s' a' b' c')).run Try.prog w = .ok (decide (p = p' ∧ s = s' ∧ a = a' ∧ b = b' ∧ c = c')) w := by
  rw [run_equalIn_struct w 9999 42 _ _ (by kernel_rfl) (by kernel_rfl)]
  have p0 : ∀ (p s a b c : Int) (w : World), (part 3 #[i64 p, i64 s, i64 a, i64 b, i64 c] 0).run Try.prog w = .ok (i64 p) w := fun _ _ _ _ _ w => by kernel_rfl
  have p1 : ∀ (p s a b c : Int) (w : World), (part 3 #[i64 p, i64 s, i64 a, i64 b, i64 c] 1).run Try.prog w = .ok (i64 s) w := fun _ _ _ _ _ w => by kernel_rfl
  have p2 : ∀ (p s a b c : Int) (w : World), (part 3 #[i64 p, i64 s, i64 a, i64 b, i64 c] 2).run Try.prog w = .ok (i64 a) w := fun _ _ _ _ _ w => by kernel_rfl
  have p3 : ∀ (p s a b c : Int) (w : World), (part 3 #[i64 p, i64 s, i64 a, i64 b, i64 c] 3).run Try.prog w = .ok (i64 b) w := fun _ _ _ _ _ w => by kernel_rfl
  have p4 : ∀ (p s a b c : Int) (w : World), (part 3 #[i64 p, i64 s, i64 a, i64 b, i64 c] 4).run Try.prog w = .ok (i64 c) w := fun _ _ _ _ _ w => by kernel_rfl
  have hq := eqInt 9998
  simp only [Program.fieldsOf, Try.underlying42]
  by_cases h1 : p = p' <;> by_cases h2 : s = s' <;> by_cases h3 : a = a' <;> by_cases h4 : b = b' <;> by_cases h5 : c = c' <;> simp [Op.eqFields, p0, p1, p2, p3, p4, hq, h1, h2, h3, h4, h5, Result.andThen]
theorem same42 (p s a b c : Int) (w : World) : (Op.equalIn 10000 42 (ev p s a b c) (ev p s a b c)).run Try.prog w = .ok true w := by
  rw [eqE42]
  simp
structure SqS (X g o : Nat) (e : En) (W : World) : Prop where
  one : W.heap[X]? = some (enO e.1.1 e.1.2 e.2.1 e.2.2.1 e.2.2.2 38)
  glt : g < W.heap.size
  c0 : W.cell? ⟨g, o, none⟩ = some (i64 e.1.1)
  c1 : W.cell? ⟨g, o + 1, none⟩ = some (i64 e.1.2)
  c2 : W.cell? ⟨g, o + 2, none⟩ = some (i64 e.2.1)
  c3 : W.cell? ⟨g, o + 3, none⟩ = some (i64 e.2.2.1)
  c4 : W.cell? ⟨g, o + 4, none⟩ = some (i64 e.2.2.2)
theorem SqS.below {X g o : Nat} {e : En} {W W' : World} (h : SqS X g o e W) (hb : Below W.heap.size W W') : SqS X g o e W' :=
  ⟨blk_below h.one hb, Nat.lt_of_lt_of_le h.glt hb.size, (hb.cell (p := ⟨g, o, none⟩) h.glt).trans h.c0, (hb.cell (p := ⟨g, o + 1, none⟩) h.glt).trans h.c1, (hb.cell (p := ⟨g, o + 2, none⟩) h.glt).trans h.c2, (hb.cell (p := ⟨g, o + 3, none⟩) h.glt).trans h.c3, (hb.cell (p := ⟨g, o + 4, none⟩) h.glt).trans h.c4⟩
set_option maxRecDepth 100000 in
set_option maxHeartbeats 1600000 in
theorem same_ok (w : World) (a1 a2 : Option Addr) (c1 c2 : Nat) (X : List En) (hX : X.length ≤ 100) (h1 : Rd5 w a1 X) (h2 : Rd5 w a2 X) : Calls Try.prog 12 #[.slice a1 X.length c1, .slice a2 X.length c2] w fun e w' => e = .returned (.bool true) ∧ Below w.heap.size w w' := by
  have H1 := hid h1
  have H2 := hid h2
  obtain ⟨n, hn⟩ : ∃ n, n = X.length := ⟨_, rfl⟩
  have HN := hid hn
  rw [← hn] at hX ⊢
  have hnI : (n : Int) ≤ 100 := by omega
  clear h1 h2 hn
  go_enter Try.func12, Try.ntmps12
  go_wp2_with fail
  go_loopw [9] (fun u wr => ∃ k : Nat, k ≤ n ∧ u = i64 k ∧ Hid (Below w.heap.size w wr)) (fun u _ => n - (intOf u).toNat)
  case atStart => exact ⟨0, by omega, rfl, Below.refl _ _⟩
  case round =>
    obtain ⟨k, hk, rfl, HB⟩ := hrel
    by_cases hlt : k < n
    · obtain ⟨e, he⟩ : ∃ e, X[k]? = some e := ⟨_, List.getElem?_eq_getElem (by rw [← HN.out]; exact hlt)⟩
      obtain ⟨g1, o1, hg1, hl1, c10, c11, c12, c13, c14⟩ := H1.out.below HB.out k e he
      obtain ⟨g2, o2, hg2, hl2, c20, c21, c22, c23, c24⟩ := H2.out.below HB.out k e he
      subst hg1
      subst hg2
      have hkI : (k : Int) < n := by omega
      have HBV : Hid (Below w.heap.size w (wr.alloc (enO e.1.1 e.1.2 e.2.1 e.2.2.1 e.2.2.2 38))) := HB.out.alloc HB.out.size _
      have HS0 : Hid (SqS wr.heap.size g2 (o2 + k * 5) e (wr.alloc (enO e.1.1 e.1.2 e.2.1 e.2.2.1 e.2.2.2 38))) := ⟨heap_last wr _, by simp; omega, cell_keep c20 _, cell_keep c21 _, cell_keep c22 _, cell_keep c23 _, cell_keep c24 _⟩
      clear he
      go_upto_region 4 with fail
      obtain ⟨Y, hY⟩ : ∃ Y, Y = wr.heap.size := ⟨_, rfl⟩
      rw [← hY] at HS0 ⊢
      clear hY c10 c11 c12 c13 c14 c20 c21 c22 c23 c24
      generalize wr.alloc (enO e.1.1 e.1.2 e.2.1 e.2.2.1 e.2.2.2 38) = V at *
      have HS : Hid (SqS Y g2 (o2 + k * 5) e V.drew) := ⟨HS0.out.1, HS0.out.2, HS0.out.3, HS0.out.4, HS0.out.5, HS0.out.6, HS0.out.7⟩
      refine wp_region_noPanic ?_
      refine wp_region_last (SqS Y g2 (o2 + k * 5) e) 12 (by kernel_rfl) ?_
      refine wpL_take 0 14 (i64 k) [3, 4] rfl rfl (by kernel_rfl) (by decide) (by kernel_rfl) (by kernel_rfl) (by kernel_rfl) (fun _ _ _ h => h) HS.out (by rfl) (fun W hW => by go_simp) ?_
      simp only [Act.put, List.setIfInBounds_toArray, List.set_cons_zero, List.set_cons_succ]
      refine wpL_take 1 15 (.slice (some ⟨g2, o2, none⟩) n c2) [2, 3, 4] rfl rfl (by kernel_rfl) (by decide) (by kernel_rfl) (by kernel_rfl) (by kernel_rfl) (fun _ _ _ h => h) HS.out (by rfl) (fun W hW => by go_simp) ?_
      simp only [Act.put, List.setIfInBounds_toArray, List.set_cons_zero, List.set_cons_succ]
      refine wpL_take 2 16 (i64 n) [3, 4] rfl rfl (by kernel_rfl) (by decide) (by kernel_rfl) (by kernel_rfl) (by kernel_rfl) (fun _ _ _ h => h) HS.out (by rfl) (fun W hW => by go_simp) ?_
      simp only [Act.put, List.setIfInBounds_toArray, List.set_cons_zero, List.set_cons_succ]
      refine wpL_take 3 17 (.bool false) [4] rfl rfl (by kernel_rfl) (by decide) (by kernel_rfl) (by kernel_rfl) (by kernel_rfl) (fun _ _ _ h => h) HS.out (by rfl) (fun W hW => by go_simp) ?_
      simp only [Act.put, List.setIfInBounds_toArray, List.set_cons_zero, List.set_cons_succ]
      refine wpL_take 4 18 (.bool false) [] rfl rfl (by kernel_rfl) (by decide) (by kernel_rfl) (by kernel_rfl) (by kernel_rfl) (fun _ _ _ h => h) HS.out (by rfl) (fun W hW => by go_simp) ?_
      simp only [Act.put, List.setIfInBounds_toArray, List.set_cons_zero, List.set_cons_succ]
      refine wpL_take 5 19 (ev e.1.1 e.1.2 e.2.1 e.2.2.1 e.2.2.2) [6, 11] rfl rfl (by kernel_rfl) (by decide) (by kernel_rfl) (by kernel_rfl) (by kernel_rfl) (fun _ _ _ h => h) HS.out (by rfl) (fun W hW => by obtain ⟨y0, y1, y2, y3, y4⟩ := five_cells hW.one; go_simp) ?_
      simp only [Act.put, List.setIfInBounds_toArray, List.set_cons_zero, List.set_cons_succ]
      refine wpL_take 7 21 (.slice (some ⟨g2, o2, none⟩) n c2) [9, 10, 11] rfl rfl (by kernel_rfl) (by decide) (by kernel_rfl) (by kernel_rfl) (by kernel_rfl) (fun _ _ _ h => h) HS.out (by rfl) (fun W hW => by go_simp) ?_
      simp only [Act.put, List.setIfInBounds_toArray, List.set_cons_zero, List.set_cons_succ]
      refine wpL_take 8 22 (i64 k) [9, 10, 11] rfl rfl (by kernel_rfl) (by decide) (by kernel_rfl) (by kernel_rfl) (by kernel_rfl) (fun _ _ _ h => h) HS.out (by rfl) (fun W hW => by go_simp) ?_
      simp only [Act.put, List.setIfInBounds_toArray, List.set_cons_zero, List.set_cons_succ]
      refine wpL_take 9 23 (.pointer (some ⟨g2, o2 + k * 5, none⟩)) [10, 11] rfl rfl (by kernel_rfl) (by decide) (by kernel_rfl) (by kernel_rfl) (by kernel_rfl) (fun _ _ _ h => h) HS.out (by rfl) (fun W hW => by go_simp) ?_
      simp only [Act.put, List.setIfInBounds_toArray, List.set_cons_zero, List.set_cons_succ]
      refine wpL_take 10 24 (ev e.1.1 e.1.2 e.2.1 e.2.2.1 e.2.2.2) [11] rfl rfl (by kernel_rfl) (by decide) (by kernel_rfl) (by kernel_rfl) (by kernel_rfl) (fun _ _ _ h => h) HS.out (by rfl) (fun W hW => by have z0 := hW.c0; have z1 := hW.c1; have z2 := hW.c2; have z3 := hW.c3; have z4 := hW.c4; go_simp) ?_
      simp only [Act.put, List.setIfInBounds_toArray, List.set_cons_zero, List.set_cons_succ]
      refine wpL_one 6 rfl (by kernel_rfl) (by rfl) (fun K hK => ?_)
      go_simp
      refine (ref_ok V.drew e.1.1 e.1.2 e.2.1 e.2.2.1 e.2.2.2).mono ?_
      rintro e' w1 ⟨rfl, hb1⟩
      have HS1 : Hid (SqS Y g2 (o2 + k * 5) e w1) := HS.out.below hb1
      have HB1 : Hid (Below w.heap.size w w1) := HBV.out.drew.trans (hb1.mono HBV.out.size)
      clear hb1
      go_simp
      refine hK.out _ _ (fun _ => HS1.out) ?_
      clear hK K
      refine wpL_take 11 25 (.bool false) [] rfl rfl (by kernel_rfl) (by decide) (by kernel_rfl) (by kernel_rfl) (by kernel_rfl) (fun _ _ _ h => h) HS1.out (by rfl) (fun W hW => by have q := same42; go_simp) ?_
      simp only [Act.put, List.setIfInBounds_toArray, List.set_cons_zero, List.set_cons_succ]
      refine wpL_one 12 rfl (by kernel_rfl) (by rfl) (fun K hK => ?_)
      go_simp
      refine hK.out _ _ (fun h => absurd rfl h) ?_
      clear hK K
      refine wpL_done (by kernel_rfl) ?_
      refine NoPanic.normal ?_
      go_wp2_with fail
      exact ⟨⟨k + 1, by omega, by go_num, HB1⟩, by simp [intOf]; omega⟩
    · go_wp2_with fail
      go_ret
      exact ⟨rfl, HB.out⟩
end Go.Proofs.Ytdgkajhlofpdeaa
