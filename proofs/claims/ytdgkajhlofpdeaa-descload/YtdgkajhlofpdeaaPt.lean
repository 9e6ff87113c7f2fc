/- put; no statement is proved in this text. -/
import Derived.Test.YtdgkajhlofpdeaaSt
namespace Go.Proofs.Ytdgkajhlofpdeaa
open Go.ChangeShapes Go.WideShapes Go.ChangeAt Go.RowKit Go.Deep
attribute [local go_sem ↓] Go.wp_at_zero Go.wp_at_succ


structure Sq (P X : Nat) (mv : Value) (p s a b c : Int) (W : World) : Prop where
  one : W.heap[P]? = some (.cells #[mv] 61)
  two : W.heap[X]? = some (enO p s a b c 38)
theorem Tb.of_map {w w' : World} {base P b : Nat} {S : St} (hP : w.heap[P]? = some (.cells #[.map (some b)] 61)) (h0 : base ≤ P) (hb : base ≤ b) (hm : MapIs w' b S) (ht : Touch b w w') (hne : P ≠ b) : Tb w' base P S :=
  ⟨h0, .map (some b), (ht.block _ (blk_lt hP) hne).trans hP, .inr ⟨b, rfl, hb, hm⟩⟩
theorem MapIs.ne {w : World} {b P : Nat} {S : St} (h : MapIs w b S) {C : Array Value} {t : TypeId} (hP : w.heap[P]? = some (.cells C t)) : P ≠ b := by
  rintro rfl
  obtain ⟨es, c, h1, _⟩ := h
  rw [h1] at hP
  cases hP
theorem MapIs.fr {w w' : World} {base b : Nat} {S : St} (h : MapIs w b S) (ht : Touch b w w') (hb : base ≤ b) : Fr base [61, 59] w w' := by
  obtain ⟨es, c, h1, _⟩ := h
  exact Fr.of_touch ht h1 rfl hb
theorem eqm0 (w : World) : (binOp .eql 59 (.map none) (.map none)).run Try.prog w = .ok (.bool true) w := by kernel_rfl
theorem eqm1 (w : World) (m : Nat) : (binOp .eql 59 (.map (some m)) (.map none)).run Try.prog w = .ok (.bool false) w := by kernel_rfl
theorem set_alloc (w : World) (p : Addr) (v : Value) (o : Obj) (h : p.block < w.heap.size) : (w.setCell p v).alloc o = (w.alloc o).setCell p v := by
  unfold World.setCell World.alloc
  congr 1
  apply Array.ext
  · simp
  · intro i h1 h2
    by_cases hi : i = w.heap.size
    · subst hi
      simp [Array.getElem_push, Array.getElem_modify]
      intro e
      omega
    · simp only [Array.size_push, Array.size_modify] at h1
      simp [Array.getElem_push, Array.getElem_modify, show i < w.heap.size by omega]
theorem mk59 (w : World) : (Instr.makeMap 59 none).run Try.prog w = .ok (.map (some w.heap.size)) (w.alloc (.map #[] 0)) := by kernel_rfl
set_option maxRecDepth 100000 in
set_option maxHeartbeats 400000 in
theorem put_ok (w : World) (base P : Nat) (S : St) (p s a b c : Int) (h : Tb w base P S) : Calls Try.prog 39 #[pq P, ev p s a b c] w fun e w' => e = .returned (.tuple #[]) ∧ Tb w' base P (upd S (p, s) (some (a, b, c))) ∧ Fr base [61, 59] w w' := by
  have hlt := h.lt
  obtain ⟨h0, mv, h1, h2⟩ := h
  have hb1 := below_one w (enO p s a b c 38)
  have h1' := blk_below h1 hb1
  rcases h2 with ⟨rfl, hN⟩ | ⟨m, rfl, hmb, hm⟩
  · have c0 : (w.alloc (enO p s a b c 38)).cell? ⟨P, 0, none⟩ = some (.map none) := blk_cell h1' 0
    have hb2 : Below w.heap.size w ((w.alloc (enO p s a b c 38)).alloc (.map #[] 0)) := hb1.alloc (by simp) _
    have h2' := blk_below h1 hb2
    have c1 : ((w.alloc (enO p s a b c 38)).alloc (.map #[] 0)).cell? ⟨P, 0, none⟩ = some (.map none) := blk_cell h2' 0
    have f1 : ((w.alloc (enO p s a b c 38)).alloc (.map #[] 0)).frozen? ⟨P, 0, none⟩ = false := blk_frozen h2' 0
    have ht : Touch P ((w.alloc (enO p s a b c 38)).alloc (.map #[] 0)) (((w.alloc (enO p s a b c 38)).alloc (.map #[] 0)).setCell ⟨P, 0, none⟩ (.map (some (w.heap.size + 1)))) := (Touch.refl P _).setCell rfl _
    have e1 : (w.alloc (enO p s a b c 38)).heap.size = w.heap.size + 1 := by simp
    have HP := hid (heap_setCell_same ((w.alloc (enO p s a b c 38)).alloc (.map #[] 0)) P 0 #[.map none] 61 (.map (some (w.heap.size + 1))) h2')
    replace HP : Hid ((((w.alloc (enO p s a b c 38)).alloc (.map #[] 0)).setCell ⟨P, 0, none⟩ (.map (some (w.heap.size + 1)))).heap[P]? = some (.cells #[.map (some (w.heap.size + 1))] 61)) := HP.out
    have HM : Hid (MapIs (((w.alloc (enO p s a b c 38)).alloc (.map #[] 0)).setCell ⟨P, 0, none⟩ (.map (some (w.heap.size + 1)))) (w.heap.size + 1) S) := by
      rw [hN]
      have := MapIs.made (w.alloc (enO p s a b c 38))
      rw [e1] at this
      exact this.kept (ht.block _ (by simp) (by omega))
    have HX : Hid ((((w.alloc (enO p s a b c 38)).alloc (.map #[] 0)).setCell ⟨P, 0, none⟩ (.map (some (w.heap.size + 1)))).heap[w.heap.size]? = some (enO p s a b c 38)) := (ht.block _ (by simp; omega) (by omega)).trans (blk_alloc (heap_last w _) _)
    have HF : Hid (Fr base [61, 59] w (((w.alloc (enO p s a b c 38)).alloc (.map #[] 0)).setCell ⟨P, 0, none⟩ (.map (some (w.heap.size + 1))))) := (Fr.of_below _ hb2 (by omega)).trans (Fr.of_touch ht h2' rfl h0)
    have q := eqm0
    have q2 := mk59
    rw [← set_alloc (w.alloc (enO p s a b c 38)) ⟨P, 0, none⟩ _ _ (by simp; omega), ← set_alloc w ⟨P, 0, none⟩ _ _ hlt] at HP HM HX HF
    clear ht h1 h1' h2' hb1 hb2 e1 hN
    go_enter Try.func39, Try.ntmps39
    go_upto_region 3 with fail
    have hmb : base ≤ w.heap.size + 1 := by omega
    clear c0 c1 f1
    generalize ((w.setCell ⟨P, 0, none⟩ (.map (some (w.heap.size + 1)))).alloc (enO p s a b c 38)).alloc (.map #[] 0) = V at *
    generalize w.heap.size + 1 = m at *
    obtain ⟨w7, hrun, hm7, ht7⟩ := MapIs.put (w := V.drew) HM.out (p, s) (a, b, c)
    have hr7 : (Instr.mapUpdate 59 (.map (some m)) (kv p s) (ev p s a b c)).run Try.prog V.drew = .ok () w7 := hrun
    have HT7 : Hid (Tb w7 base P (upd S (p, s) (some (a, b, c)))) := Tb.of_map (w := V.drew) HP.out h0 hmb hm7 ht7 (HM.out.ne HP.out)
    have HF7 : Hid (Fr base [61, 59] w w7) := HF.out.trans (Fr.of_drewN (n := 1) (MapIs.fr (w := V.drew) HM.out ht7 hmb))
    have HS : Hid (Sq P w.heap.size (.map (some m)) p s a b c V.drew) := ⟨HP.out, HX.out⟩
    clear hrun hm7 ht7 HM HP HX HF
    refine wp_region_noPanic ?_
    refine wp_region_last (Sq P w.heap.size (.map (some m)) p s a b c) 10 (by kernel_rfl) ?_
    refine wpL_take 0 13 (pq P) [] rfl rfl (by kernel_rfl) (by decide) (by kernel_rfl) (by kernel_rfl) (by kernel_rfl) (fun _ _ _ h => h) HS.out (by rfl) (fun W hW => by have o0 : W.cell? ⟨P, 0, none⟩ = some (.map (some m)) := blk_cell hW.one 0; obtain ⟨e0, e1, e2, e3, e4⟩ := five_cells hW.two; go_simp) ?_
    simp only [Act.put, List.setIfInBounds_toArray, List.set_cons_zero, List.set_cons_succ]
    refine wpL_take 1 14 (pq P) [] rfl rfl (by kernel_rfl) (by decide) (by kernel_rfl) (by kernel_rfl) (by kernel_rfl) (fun _ _ _ h => h) HS.out (by rfl) (fun W hW => by have o0 : W.cell? ⟨P, 0, none⟩ = some (.map (some m)) := blk_cell hW.one 0; obtain ⟨e0, e1, e2, e3, e4⟩ := five_cells hW.two; go_simp) ?_
    simp only [Act.put, List.setIfInBounds_toArray, List.set_cons_zero, List.set_cons_succ]
    refine wpL_take 2 15 (.pointer (some ⟨P, 0, none⟩)) [] rfl rfl (by kernel_rfl) (by decide) (by kernel_rfl) (by kernel_rfl) (by kernel_rfl) (fun _ _ _ h => h) HS.out (by rfl) (fun W hW => by have o0 : W.cell? ⟨P, 0, none⟩ = some (.map (some m)) := blk_cell hW.one 0; obtain ⟨e0, e1, e2, e3, e4⟩ := five_cells hW.two; go_simp) ?_
    simp only [Act.put, List.setIfInBounds_toArray, List.set_cons_zero, List.set_cons_succ]
    refine wpL_take 3 16 (.map (some m)) [] rfl rfl (by kernel_rfl) (by decide) (by kernel_rfl) (by kernel_rfl) (by kernel_rfl) (fun _ _ _ h => h) HS.out (by rfl) (fun W hW => by have o0 : W.cell? ⟨P, 0, none⟩ = some (.map (some m)) := blk_cell hW.one 0; obtain ⟨e0, e1, e2, e3, e4⟩ := five_cells hW.two; go_simp) ?_
    simp only [Act.put, List.setIfInBounds_toArray, List.set_cons_zero, List.set_cons_succ]
    refine wpL_take 4 17 (.pointer (some ⟨w.heap.size, 0, none⟩)) [] rfl rfl (by kernel_rfl) (by decide) (by kernel_rfl) (by kernel_rfl) (by kernel_rfl) (fun _ _ _ h => h) HS.out (by rfl) (fun W hW => by have o0 : W.cell? ⟨P, 0, none⟩ = some (.map (some m)) := blk_cell hW.one 0; obtain ⟨e0, e1, e2, e3, e4⟩ := five_cells hW.two; go_simp) ?_
    simp only [Act.put, List.setIfInBounds_toArray, List.set_cons_zero, List.set_cons_succ]
    refine wpL_take 5 18 (i64 p) [] rfl rfl (by kernel_rfl) (by decide) (by kernel_rfl) (by kernel_rfl) (by kernel_rfl) (fun _ _ _ h => h) HS.out (by rfl) (fun W hW => by have o0 : W.cell? ⟨P, 0, none⟩ = some (.map (some m)) := blk_cell hW.one 0; obtain ⟨e0, e1, e2, e3, e4⟩ := five_cells hW.two; go_simp) ?_
    simp only [Act.put, List.setIfInBounds_toArray, List.set_cons_zero, List.set_cons_succ]
    refine wpL_take 6 19 (.pointer (some ⟨w.heap.size, 1, none⟩)) [] rfl rfl (by kernel_rfl) (by decide) (by kernel_rfl) (by kernel_rfl) (by kernel_rfl) (fun _ _ _ h => h) HS.out (by rfl) (fun W hW => by have o0 : W.cell? ⟨P, 0, none⟩ = some (.map (some m)) := blk_cell hW.one 0; obtain ⟨e0, e1, e2, e3, e4⟩ := five_cells hW.two; go_simp) ?_
    simp only [Act.put, List.setIfInBounds_toArray, List.set_cons_zero, List.set_cons_succ]
    refine wpL_take 7 20 (i64 s) [] rfl rfl (by kernel_rfl) (by decide) (by kernel_rfl) (by kernel_rfl) (by kernel_rfl) (fun _ _ _ h => h) HS.out (by rfl) (fun W hW => by have o0 : W.cell? ⟨P, 0, none⟩ = some (.map (some m)) := blk_cell hW.one 0; obtain ⟨e0, e1, e2, e3, e4⟩ := five_cells hW.two; go_simp) ?_
    simp only [Act.put, List.setIfInBounds_toArray, List.set_cons_zero, List.set_cons_succ]
    refine wpL_take 8 21 (kv p s) [] rfl rfl (by kernel_rfl) (by decide) (by kernel_rfl) (by kernel_rfl) (by kernel_rfl) (fun _ _ _ h => h) HS.out (by rfl) (fun W hW => by have o0 : W.cell? ⟨P, 0, none⟩ = some (.map (some m)) := blk_cell hW.one 0; obtain ⟨e0, e1, e2, e3, e4⟩ := five_cells hW.two; go_simp) ?_
    simp only [Act.put, List.setIfInBounds_toArray, List.set_cons_zero, List.set_cons_succ]
    refine wpL_take 9 22 (ev p s a b c) [] rfl rfl (by kernel_rfl) (by decide) (by kernel_rfl) (by kernel_rfl) (by kernel_rfl) (fun _ _ _ h => h) HS.out (by rfl) (fun W hW => by have o0 : W.cell? ⟨P, 0, none⟩ = some (.map (some m)) := blk_cell hW.one 0; obtain ⟨e0, e1, e2, e3, e4⟩ := five_cells hW.two; go_simp) ?_
    simp only [Act.put, List.setIfInBounds_toArray, List.set_cons_zero, List.set_cons_succ]
    refine wpL_one 10 rfl (by kernel_rfl) (by rfl) (fun K hK => ?_)
    go_simp
    refine hK.out _ _ (fun h => absurd rfl h) ?_
    clear hK K
    refine wpL_done (by kernel_rfl) ?_
    refine NoPanic.normal ?_
    go_wp2_with fail
    go_end0
    exact ⟨rfl, HT7.out, HF7.out⟩
  · have c0 : (w.alloc (enO p s a b c 38)).cell? ⟨P, 0, none⟩ = some (.map (some m)) := blk_cell h1' 0
    have HP := hid h1'
    have HM := hid (hm.kept (hb1.block _ hm.lt))
    have HX := hid (heap_last w (enO p s a b c 38))
    have HF : Hid (Fr base [61, 59] w (w.alloc (enO p s a b c 38))) := Fr.of_below _ hb1 (by omega)
    have q := eqm1
    clear h1 h1' hm hb1
    go_enter Try.func39, Try.ntmps39
    go_upto_region 3 with fail
    clear c0
    generalize w.alloc (enO p s a b c 38) = V at *
    obtain ⟨w7, hrun, hm7, ht7⟩ := MapIs.put (w := V.drew) HM.out (p, s) (a, b, c)
    have hr7 : (Instr.mapUpdate 59 (.map (some m)) (kv p s) (ev p s a b c)).run Try.prog V.drew = .ok () w7 := hrun
    have HT7 : Hid (Tb w7 base P (upd S (p, s) (some (a, b, c)))) := Tb.of_map (w := V.drew) HP.out h0 hmb hm7 ht7 (HM.out.ne HP.out)
    have HF7 : Hid (Fr base [61, 59] w w7) := HF.out.trans (Fr.of_drewN (n := 1) (MapIs.fr (w := V.drew) HM.out ht7 hmb))
    have HS : Hid (Sq P w.heap.size (.map (some m)) p s a b c V.drew) := ⟨HP.out, HX.out⟩
    clear hrun hm7 ht7 HM HP HX HF
    refine wp_region_noPanic ?_
    refine wp_region_last (Sq P w.heap.size (.map (some m)) p s a b c) 10 (by kernel_rfl) ?_
    refine wpL_take 0 13 (pq P) [] rfl rfl (by kernel_rfl) (by decide) (by kernel_rfl) (by kernel_rfl) (by kernel_rfl) (fun _ _ _ h => h) HS.out (by rfl) (fun W hW => by have o0 : W.cell? ⟨P, 0, none⟩ = some (.map (some m)) := blk_cell hW.one 0; obtain ⟨e0, e1, e2, e3, e4⟩ := five_cells hW.two; go_simp) ?_
    simp only [Act.put, List.setIfInBounds_toArray, List.set_cons_zero, List.set_cons_succ]
    refine wpL_take 1 14 (pq P) [] rfl rfl (by kernel_rfl) (by decide) (by kernel_rfl) (by kernel_rfl) (by kernel_rfl) (fun _ _ _ h => h) HS.out (by rfl) (fun W hW => by have o0 : W.cell? ⟨P, 0, none⟩ = some (.map (some m)) := blk_cell hW.one 0; obtain ⟨e0, e1, e2, e3, e4⟩ := five_cells hW.two; go_simp) ?_
    simp only [Act.put, List.setIfInBounds_toArray, List.set_cons_zero, List.set_cons_succ]
    refine wpL_take 2 15 (.pointer (some ⟨P, 0, none⟩)) [] rfl rfl (by kernel_rfl) (by decide) (by kernel_rfl) (by kernel_rfl) (by kernel_rfl) (fun _ _ _ h => h) HS.out (by rfl) (fun W hW => by have o0 : W.cell? ⟨P, 0, none⟩ = some (.map (some m)) := blk_cell hW.one 0; obtain ⟨e0, e1, e2, e3, e4⟩ := five_cells hW.two; go_simp) ?_
    simp only [Act.put, List.setIfInBounds_toArray, List.set_cons_zero, List.set_cons_succ]
    refine wpL_take 3 16 (.map (some m)) [] rfl rfl (by kernel_rfl) (by decide) (by kernel_rfl) (by kernel_rfl) (by kernel_rfl) (fun _ _ _ h => h) HS.out (by rfl) (fun W hW => by have o0 : W.cell? ⟨P, 0, none⟩ = some (.map (some m)) := blk_cell hW.one 0; obtain ⟨e0, e1, e2, e3, e4⟩ := five_cells hW.two; go_simp) ?_
    simp only [Act.put, List.setIfInBounds_toArray, List.set_cons_zero, List.set_cons_succ]
    refine wpL_take 4 17 (.pointer (some ⟨w.heap.size, 0, none⟩)) [] rfl rfl (by kernel_rfl) (by decide) (by kernel_rfl) (by kernel_rfl) (by kernel_rfl) (fun _ _ _ h => h) HS.out (by rfl) (fun W hW => by have o0 : W.cell? ⟨P, 0, none⟩ = some (.map (some m)) := blk_cell hW.one 0; obtain ⟨e0, e1, e2, e3, e4⟩ := five_cells hW.two; go_simp) ?_
    simp only [Act.put, List.setIfInBounds_toArray, List.set_cons_zero, List.set_cons_succ]
    refine wpL_take 5 18 (i64 p) [] rfl rfl (by kernel_rfl) (by decide) (by kernel_rfl) (by kernel_rfl) (by kernel_rfl) (fun _ _ _ h => h) HS.out (by rfl) (fun W hW => by have o0 : W.cell? ⟨P, 0, none⟩ = some (.map (some m)) := blk_cell hW.one 0; obtain ⟨e0, e1, e2, e3, e4⟩ := five_cells hW.two; go_simp) ?_
    simp only [Act.put, List.setIfInBounds_toArray, List.set_cons_zero, List.set_cons_succ]
    refine wpL_take 6 19 (.pointer (some ⟨w.heap.size, 1, none⟩)) [] rfl rfl (by kernel_rfl) (by decide) (by kernel_rfl) (by kernel_rfl) (by kernel_rfl) (fun _ _ _ h => h) HS.out (by rfl) (fun W hW => by have o0 : W.cell? ⟨P, 0, none⟩ = some (.map (some m)) := blk_cell hW.one 0; obtain ⟨e0, e1, e2, e3, e4⟩ := five_cells hW.two; go_simp) ?_
    simp only [Act.put, List.setIfInBounds_toArray, List.set_cons_zero, List.set_cons_succ]
    refine wpL_take 7 20 (i64 s) [] rfl rfl (by kernel_rfl) (by decide) (by kernel_rfl) (by kernel_rfl) (by kernel_rfl) (fun _ _ _ h => h) HS.out (by rfl) (fun W hW => by have o0 : W.cell? ⟨P, 0, none⟩ = some (.map (some m)) := blk_cell hW.one 0; obtain ⟨e0, e1, e2, e3, e4⟩ := five_cells hW.two; go_simp) ?_
    simp only [Act.put, List.setIfInBounds_toArray, List.set_cons_zero, List.set_cons_succ]
    refine wpL_take 8 21 (kv p s) [] rfl rfl (by kernel_rfl) (by decide) (by kernel_rfl) (by kernel_rfl) (by kernel_rfl) (fun _ _ _ h => h) HS.out (by rfl) (fun W hW => by have o0 : W.cell? ⟨P, 0, none⟩ = some (.map (some m)) := blk_cell hW.one 0; obtain ⟨e0, e1, e2, e3, e4⟩ := five_cells hW.two; go_simp) ?_
    simp only [Act.put, List.setIfInBounds_toArray, List.set_cons_zero, List.set_cons_succ]
    refine wpL_take 9 22 (ev p s a b c) [] rfl rfl (by kernel_rfl) (by decide) (by kernel_rfl) (by kernel_rfl) (by kernel_rfl) (fun _ _ _ h => h) HS.out (by rfl) (fun W hW => by have o0 : W.cell? ⟨P, 0, none⟩ = some (.map (some m)) := blk_cell hW.one 0; obtain ⟨e0, e1, e2, e3, e4⟩ := five_cells hW.two; go_simp) ?_
    simp only [Act.put, List.setIfInBounds_toArray, List.set_cons_zero, List.set_cons_succ]
    refine wpL_one 10 rfl (by kernel_rfl) (by rfl) (fun K hK => ?_)
    go_simp
    refine hK.out _ _ (fun h => absurd rfl h) ?_
    clear hK K
    refine wpL_done (by kernel_rfl) ?_
    refine NoPanic.normal ?_
    go_wp2_with fail
    go_end0
    exact ⟨rfl, HT7.out, HF7.out⟩
end Go.Proofs.Ytdgkajhlofpdeaa
