/- vals' below, Misfit's closure; ints in memory; no statement is proved in this text. -/
import Derived.Test.YtihbbgcpdgnhoaaGreatDoorFa
namespace Go.Proofs.YtihbbgcpdgnhoaaGreatDoor
open Go.ChangeShapes Go.WideShapes Go.ChangeAt Go.RowKit Go.Deep
attribute [local go_sem ↓] Go.wp_at_zero Go.wp_at_succ

theorem firstF_len : ∀ (N : Nat) (v : Vl), v.size ≤ N → ∀ T, (firstF v T).length ≤ v.size
  | 0, v, h, _ => by have := size_pos v; omega
  | N + 1, .mk k n s l, h, T => by
    rw [firstF_eq]
    have hl : ∀ (l' : List Vl), (∀ x ∈ l', x.size ≤ N) → ∀ i, (firstL l' i T).length ≤ 1 + sizeL l' := by
      intro l'
      induction l' with
      | nil => intro _ i; simp [firstL]
      | cons x r ih =>
        intro hx i
        have h1 := firstF_len N x (hx x (by simp)) (kidT T i)
        have h2 := ih (fun y hy => hx y (by simp [hy])) (i + 1)
        simp only [firstL, sizeL]
        split
        · omega
        · simp only [List.length_cons, List.length_tail]; omega
    simp only [Vl.size] at h ⊢
    split
    · exact hl l (fun x hx => by have := sizeL_mem hx; omega) 0
    · simp
theorem sl_from1 (w : World) (b off n cap : Nat) (h : 1 ≤ n) (hc : n ≤ cap) (hm : cap ≤ 9223372036854775807) : ∃ a' : Addr, (Instr.slice 94 (.slice (some ⟨b, off, none⟩) n cap) (some (i64 1)) none none).run Tryz.prog w = .ok (.slice (some a') (n - 1) (cap - 1)) w ∧ (1 < n → a' = ⟨b, off + 1, none⟩) := by
  by_cases h1 : cap = 1
  · refine ⟨⟨b, off, none⟩, ?_, fun h2 => by omega⟩
    have hn : n = 1 := by omega
    subst h1 hn
    simp [Instr.slice, run_underlying Tryz.underlying94, go_sem]
  · refine ⟨⟨b, off + 1, none⟩, ?_, fun _ => rfl⟩
    have hI : (1 : Int) ≤ n := by omega
    have hb := run_sliceBound (P := Tryz.prog) w .i64 1 n .sliceB (by omega) hI
    have h2 : ¬ cap = 1 := h1
    simp [Instr.slice, run_underlying Tryz.underlying94, Instr.sliceBounds, hb, go_sem, h2]
/-- A slice of ints that reads as l, in blocks of S. -/
def Nls (w : World) (S : Nat → Prop) (v : Value) (l : List Nat) : Prop :=
  ∃ ao cap, v = .slice ao l.length cap ∧ l.length ≤ cap ∧ (l = [] ∨ ∃ b off, ao = some ⟨b, off, none⟩ ∧ S b ∧ b < w.heap.size ∧ ∀ (i x : Nat), l[i]? = some x → w.cell? ⟨b, off + i, none⟩ = some (i64 x))
theorem Nls.move {w w' : World} {S S' : Nat → Prop} {v : Value} {l : List Nat} (h : Nls w S v l) (hz : w.heap.size ≤ w'.heap.size) (hk : ∀ b, S b → b < w.heap.size → S' b ∧ w'.heap[b]? = w.heap[b]?) : Nls w' S' v l := by
  obtain ⟨ao, cap, rfl, h2, h3⟩ := h
  refine ⟨ao, cap, rfl, h2, ?_⟩
  rcases h3 with h3 | ⟨b, off, rfl, hS, hlt, hc⟩
  · exact Or.inl h3
  · exact Or.inr ⟨b, off, rfl, (hk b hS hlt).1, by omega, fun i x hx => by rw [World.cell?_of_block (w := w) (hk b hS hlt).2]; exact hc i x hx⟩
theorem Nls.under {w w' : World} {S : Nat → Prop} {v : Value} {l : List Nat} (h : Nls w S v l) (hb : Below w.heap.size w w') : Nls w' S v l := h.move hb.size fun b hS hlt => ⟨hS, hb.block b hlt⟩
theorem Nls.mono {w : World} {S S' : Nat → Prop} {v : Value} {l : List Nat} (h : Nls w S v l) (hs : ∀ b, S b → b < w.heap.size → S' b) : Nls w S' v l := h.move (Nat.le_refl _) fun b hS hlt => ⟨hs b hS hlt, rfl⟩
theorem info3 : (Tryz.prog.info? 3).map (fun i => (i.zero, i.size, i.bytes)) = some (some (i64 0), 1, 8) := by kernel_rfl
/-- [0, i] and what stands behind the first of another row. -/
theorem way_app {X : World} {lo i : Nat} {b off cap : Nat} {l : List Nat} (h : Nls X (fun b => lo ≤ b) (.slice (some ⟨b, off, none⟩) l.length cap) l) (hlo : lo ≤ X.heap.size) (h1 : 1 ≤ l.length) (hl : l.length ≤ 100000) (a' : Addr) (ha : 1 < l.length → a' = ⟨b, off + 1, none⟩) (c' : Nat) :
    ∃ ao cap' w', (Builtin.append_ #[94, 94] 94 #[.slice (some ⟨X.heap.size, 0, none⟩) 2 2, .slice (some a') (l.length - 1) c']).run Tryz.prog (X.alloc (.cells #[i64 0, i64 i] 3)) = .ok (.slice ao (l.length + 1) cap') w' ∧ Below X.heap.size X w' ∧ cap' ≤ maxLen ∧ Nls w' (fun b => lo ≤ b) (.slice ao (l.length + 1) cap') (0 :: i :: l.tail) := by
  obtain ⟨inf, hi, hz, hs, hb⟩ := info_parts info3
  have hB : Below X.heap.size X (X.alloc (.cells #[i64 0, i64 i] 3)) := below_one X _
  have hown : (X.alloc (.cells #[i64 0, i64 i] 3)).ownsRow lo 3 1 (.slice (some ⟨X.heap.size, 0, none⟩) 2 2) 2 [i64 0, i64 i] := ⟨rfl, Or.inr ⟨X.heap.size, 2, _, rfl, hlo, heap_last X _, Nat.le_refl _, by unfold maxLen; omega, rfl, rfl⟩⟩
  have hnews : ∀ (j : Nat) (u : Value), (l.tail.map fun x : Nat => i64 x)[j]? = some u → (X.alloc (.cells #[i64 0, i64 i] 3)).cell? (a'.add j) = some u := by
    intro j u hu
    rw [List.getElem?_map] at hu
    obtain ⟨x, hx, rfl⟩ := Option.map_eq_some_iff.1 hu
    have hj : j < l.tail.length := (List.getElem?_eq_some_iff.1 hx).1
    rw [List.length_tail] at hj
    obtain ⟨ao, cp, he, _, h3⟩ := h
    cases he
    rcases h3 with h3 | ⟨b', off', he, hS, hlt, hc⟩
    · subst h3; simp at h1
    · cases he
      rw [ha (by omega), Addr.add_mid]
      rw [List.getElem?_tail] at hx
      have := hc (j + 1) x hx
      rw [World.cell?_of_block (w := X) (hB.block b hlt), ← this]
      rw [show off + 1 + j = off + (j + 1) by omega]
  obtain ⟨v', w', hr, h2, h3, h4, h5⟩ := run_append_own_at (P := Tryz.prog) (X.alloc (.cells #[i64 0, i64 i] 3)) lo 94 94 3 inf (i64 0) 1 8 Tryz.underlying94 hi hz hs hb rfl (by omega) _ 2 _ hown a' (l.length - 1) c' (l.tail.map fun x : Nat => i64 x) (by simp) hnews (fun u hu => by obtain ⟨x, _, rfl⟩ := List.mem_map.1 hu; rfl) (by unfold maxLen; omega) (by omega) (by have := hB.size; omega)
  obtain ⟨ao, cap', rfl, _⟩ := own_slice h2
  have hln : 2 + (l.length - 1) = l.length + 1 := by omega
  rw [hln] at hr h2 h4 h5
  refine ⟨ao, cap', w', hr, ⟨h3.os.trans hB.os, h3.tape.trans hB.tape, h3.output.trans hB.output, Nat.le_trans hB.size h3.size, fun k hk => ?_⟩, ?_, ?_⟩
  · rw [h3.block k (by simp; omega) (by simp [Value.ownBlock]; omega)]
    exact hB.block k hk
  · rcases h2.2 with ⟨hv, h0⟩ | ⟨g, cap2, cur, hv, hbg, hg, hc1, hc2, _, _⟩
    · omega
    · cases hv; exact hc2
  · have hlen : (0 :: i :: l.tail).length = l.length + 1 := by simp only [List.length_cons, List.length_tail]; omega
    rcases h2.2 with ⟨hv, h0⟩ | ⟨g, cap2, cur, hv, hbg, hg, hc1, hc2, _, _⟩
    · omega
    · cases hv
      refine ⟨_, cap', by rw [hlen], by rw [hlen]; exact hc1, Or.inr ⟨g, 0, rfl, hbg, blk_lt hg, fun j x hx => ?_⟩⟩
      have hj : j < l.length + 1 := by have := (List.getElem?_eq_some_iff.1 hx).1; omega
      rw [Nat.zero_add, h2.cellAt j (by omega)]
      match j, hx with
      | 0, hx => simp at hx; subst hx; rfl
      | 1, hx => simp at hx; subst hx; rfl
      | j + 2, hx =>
        have hx' : l.tail[j]? = some x := hx
        show ([i64 0, i64 i] ++ l.tail.map fun x : Nat => i64 x)[j + 2]? = _
        rw [List.getElem?_append_right (by simp)]
        show (l.tail.map fun x : Nat => i64 x)[j + 2 - 2]? = _
        rw [Nat.add_sub_cancel, List.getElem?_map, hx']
        rfl
theorem bset4 {w W : World} {lo R : Nat} (h : Below lo w W) (hR : lo ≤ R) (a0 a1 a2 a3 : Value) : Below lo w ((((W.setCell ⟨R, 0, none⟩ a0).setCell ⟨R, 1, none⟩ a1).setCell ⟨R, 2, none⟩ a2).setCell ⟨R, 3, none⟩ a3) :=
  (((h.setCell (p := ⟨R, 0, none⟩) hR _).setCell (p := ⟨R, 1, none⟩) hR _).setCell (p := ⟨R, 2, none⟩) hR _).setCell (p := ⟨R, 3, none⟩) hR _
theorem formed_int {T : Ty} (h : T.formed = true) : T.kind = 1 → T.num = 8 ∨ T.num = 16 ∨ T.num = 32 := by
  intro hk
  have hn := (formed_node h).1
  unfold nodeB at hn
  rw [if_pos hk] at hn
  simp only [Bool.and_eq_true, Bool.or_eq_true, decide_eq_true_eq] at hn
  omega
set_option maxRecDepth 100000 in
set_option maxHeartbeats 3200000 in
theorem below_ok (T : Ty) (i : Nat) (w : World) (S : Nat → Prop) (nv kv : Value) (hR : Rd w S T nv kv) (h3 : T.kind = 3 → 0 < T.kids.length) (h4 : T.kind ≠ 3 → i < T.kids.length) :
    Calls Tryz.prog 80 #[tyV T.kind T.num nv kv, i64 i] w fun e w' => ∃ a1 c1 a2 c2, e = .returned (tyV (kidT T i).kind (kidT T i).num (.slice a1 (kidT T i).names.length c1) (.slice a2 (kidT T i).kids.length c2)) ∧ Below w.heap.size w w' ∧ Rd w' S (kidT T i) (.slice a1 (kidT T i).names.length c1) (.slice a2 (kidT T i).kids.length c2) := by
  have hln := hR.lens.2
  unfold maxLen at hln
  obtain ⟨j, hj, hjl, hji⟩ : ∃ j, kidT T i = T.kids.getD j (.mk 0 0 [] []) ∧ j < T.kids.length ∧ ((T.kind = 3 ∧ j = 0) ∨ (T.kind ≠ 3 ∧ j = i)) := by
    by_cases h : T.kind = 3
    · exact ⟨0, by unfold kidT; rw [if_pos h], h3 h, Or.inl ⟨h, rfl⟩⟩
    · exact ⟨i, by unfold kidT; rw [if_neg h], h4 h, Or.inr ⟨h, rfl⟩⟩
  rw [getD_lt _ _ _ hjl] at hj
  obtain ⟨U, hU⟩ : ∃ U, U = kidT T i := ⟨_, rfl⟩
  rw [← hU] at hj ⊢
  clear hU h3 h4
  have HRd := hid hR
  obtain ⟨an, cn, rfl, at_, ct, rfl⟩ := hR.form
  obtain ⟨b, off, nv2, kv2, rfl, _, hblt, hr, hrd⟩ := hR.kidAt j hjl
  rw [← hj] at hr hrd
  obtain ⟨an2, cn2, rfl, ak2, ck2, rfl⟩ := hrd.form
  have HRU := hid hrd
  have HX : Hid (((w.alloc (.cells #[i64 T.kind, i64 T.num, .slice an T.names.length cn, .slice (some ⟨b, off, none⟩) T.kids.length ct] 25)).alloc (.cells #[i64 0, i64 0, .slice none 0 0, .slice none 0 0] 25)).heap[w.heap.size]? = some (.cells #[i64 T.kind, i64 T.num, .slice an T.names.length cn, .slice (some ⟨b, off, none⟩) T.kids.length ct] 25)) := blk_alloc (heap_last w _) _
  have HR0 : Hid (((w.alloc (.cells #[i64 T.kind, i64 T.num, .slice an T.names.length cn, .slice (some ⟨b, off, none⟩) T.kids.length ct] 25)).alloc (.cells #[i64 0, i64 0, .slice none 0 0, .slice none 0 0] 25)).heap[w.heap.size + 1]? = some (.cells #[i64 0, i64 0, .slice none 0 0, .slice none 0 0] 25)) := heap_at3 _ _ _ (by simp)
  have HBV : Hid (Below w.heap.size w ((w.alloc (.cells #[i64 T.kind, i64 T.num, .slice an T.names.length cn, .slice (some ⟨b, off, none⟩) T.kids.length ct] 25)).alloc (.cells #[i64 0, i64 0, .slice none 0 0, .slice none 0 0] 25))) := (below_one w _).trans ((below_one _ _).mono (by simp))
  have c0 : ((w.alloc (.cells #[i64 T.kind, i64 T.num, .slice an T.names.length cn, .slice (some ⟨b, off, none⟩) T.kids.length ct] 25)).alloc (.cells #[i64 0, i64 0, .slice none 0 0, .slice none 0 0] 25)).cell? ⟨b, off + j * 4, none⟩ = some (i64 U.kind) := (HBV.out.cell (p := ⟨b, off + j * 4, none⟩) hblt).trans (hr 0 _ rfl)
  have c1 : ((w.alloc (.cells #[i64 T.kind, i64 T.num, .slice an T.names.length cn, .slice (some ⟨b, off, none⟩) T.kids.length ct] 25)).alloc (.cells #[i64 0, i64 0, .slice none 0 0, .slice none 0 0] 25)).cell? ⟨b, off + j * 4 + 1, none⟩ = some (i64 U.num) := (HBV.out.cell (p := ⟨b, off + j * 4 + 1, none⟩) hblt).trans (hr 1 _ rfl)
  have c2 : ((w.alloc (.cells #[i64 T.kind, i64 T.num, .slice an T.names.length cn, .slice (some ⟨b, off, none⟩) T.kids.length ct] 25)).alloc (.cells #[i64 0, i64 0, .slice none 0 0, .slice none 0 0] 25)).cell? ⟨b, off + j * 4 + 2, none⟩ = some (.slice an2 U.names.length cn2) := (HBV.out.cell (p := ⟨b, off + j * 4 + 2, none⟩) hblt).trans (hr 2 _ rfl)
  have c3 : ((w.alloc (.cells #[i64 T.kind, i64 T.num, .slice an T.names.length cn, .slice (some ⟨b, off, none⟩) T.kids.length ct] 25)).alloc (.cells #[i64 0, i64 0, .slice none 0 0, .slice none 0 0] 25)).cell? ⟨b, off + j * 4 + 3, none⟩ = some (.slice ak2 U.kids.length ck2) := (HBV.out.cell (p := ⟨b, off + j * 4 + 3, none⟩) hblt).trans (hr 3 _ rfl)
  have HJ := hid hj
  clear hR hr hrd hj
  go_enter Tryz.func80, Tryz.ntmps80
  go_upto_region 1 with fail
  generalize (w.alloc (.cells #[i64 T.kind, i64 T.num, .slice an T.names.length cn, .slice (some ⟨b, off, none⟩) T.kids.length ct] 25)).alloc (.cells #[i64 0, i64 0, .slice none 0 0, .slice none 0 0] 25) = V0 at *
  obtain ⟨Z, hZ⟩ : ∃ Z, Z = w.heap.size := ⟨_, rfl⟩
  obtain ⟨R, hR⟩ : ∃ R, R = w.heap.size + 1 := ⟨_, rfl⟩
  have HRw : Hid (w.heap.size ≤ R) := by show _ ≤ _; omega
  rw [← hZ] at HX
  rw [← hR] at HR0
  rw [← hR, ← hZ]
  clear hZ hR
  have zc0 : V0.cell? ⟨Z, 0, none⟩ = some (i64 T.kind) := blk_cell HX.out 0
  have zc1 : V0.cell? ⟨Z, 1, none⟩ = some (i64 T.num) := blk_cell HX.out 1
  have zc2 : V0.cell? ⟨Z, 2, none⟩ = some (.slice an T.names.length cn) := blk_cell HX.out 2
  have zc3 : V0.cell? ⟨Z, 3, none⟩ = some (.slice (some ⟨b, off, none⟩) T.kids.length ct) := blk_cell HX.out 3
  have rc0 : V0.cell? ⟨R, 0, none⟩ = some (i64 0) := blk_cell HR0.out 0
  have rf0 : V0.frozen? ⟨R, 0, none⟩ = false := blk_frozen HR0.out 0
  have rc1 : V0.cell? ⟨R, 1, none⟩ = some (i64 0) := blk_cell HR0.out 1
  have rf1 : V0.frozen? ⟨R, 1, none⟩ = false := blk_frozen HR0.out 1
  have rc2 : V0.cell? ⟨R, 2, none⟩ = some (.slice none 0 0) := blk_cell HR0.out 2
  have rf2 : V0.frozen? ⟨R, 2, none⟩ = false := blk_frozen HR0.out 2
  have rc3 : V0.cell? ⟨R, 3, none⟩ = some (.slice none 0 0) := blk_cell HR0.out 3
  have rf3 : V0.frozen? ⟨R, 3, none⟩ = false := blk_frozen HR0.out 3
  have hjI : (j : Int) < T.kids.length := by omega
  rcases hji with ⟨hk, rfl⟩ | ⟨hk, rfl⟩
  · have hkq : (T.kind == 3) = true := by simpa using hk
    have HK := hid hk
    clear hk
    simp only [Nat.zero_mul, Nat.add_zero] at c0 c1 c2 c3
    go_wp2_with fail
    refine bodyPost_ret (v := tyV U.kind U.num (.slice an2 U.names.length cn2) (.slice ak2 U.kids.length ck2)) (results_one Tryz.results80 rfl (load25 (set4 HR0.out _ _ _ _))) rfl ?_
    exact ⟨an2, cn2, ak2, ck2, rfl, bset4 HBV.out HRw.out _ _ _ _, HRU.out.under (bset4 HBV.out HRw.out _ _ _ _)⟩
  · have hkq : (T.kind == 3) = false := by simpa using hk
    have HK := hid hk
    clear hk
    go_wp2_with fail
    refine bodyPost_ret (v := tyV U.kind U.num (.slice an2 U.names.length cn2) (.slice ak2 U.kids.length ck2)) (results_one Tryz.results80 rfl (load25 (set4 HR0.out _ _ _ _))) rfl ?_
    exact ⟨an2, cn2, ak2, ck2, rfl, bset4 HBV.out HRw.out _ _ _ _, HRU.out.under (bset4 HBV.out HRw.out _ _ _ _)⟩
set_option maxRecDepth 100000 in
set_option maxHeartbeats 3200000 in
theorem mis1_ok (V : Vl) (T : Ty) (w : World) (S S' : Nat → Prop) (kv nv tv : Value) (hV : Vd w S V kv) (hR : Rd w S' T nv tv) (hf : T.formed = true) : Calls Tryz.prog 63 #[vlV V kv, tyV T.kind T.num nv tv] w fun e w' => e = .returned (.bool (!aloneB V T)) ∧ Below w.heap.size w w' := by
  have HFA : Hid (∀ (W : World) ak ck an cn at_ ct, Calls Tryz.prog 64 #[.agg #[i64 V.kind, i64 V.num, str V.s, .slice ak V.kids.length ck], .agg #[i64 T.kind, i64 T.num, .slice an T.names.length cn, .slice at_ T.kids.length ct]] W fun e w' => e = .returned (.bool (aloneB V T)) ∧ Below W.heap.size W w') := fun W ak ck an cn at_ ct => fa_in _ _ _ ak _ ck _ _ an _ cn at_ _ ct W hV.lens.1 hV.lens.2 hR.lens.2 (formed_int hf)
  generalize aloneB V T = A at *
  have HVd := hid hV
  have HRd := hid hR
  obtain ⟨ak, ck, rfl⟩ := hV.form
  obtain ⟨an, cn, rfl, at_, ct, rfl⟩ := hR.form
  have HX : Hid (((w.alloc (.cells #[i64 V.kind, i64 V.num, str V.s, .slice ak V.kids.length ck] 28)).alloc (.cells #[i64 T.kind, i64 T.num, .slice an T.names.length cn, .slice at_ T.kids.length ct] 25)).heap[w.heap.size]? = some (.cells #[i64 V.kind, i64 V.num, str V.s, .slice ak V.kids.length ck] 28)) := blk_alloc (heap_last w _) _
  have HY : Hid (((w.alloc (.cells #[i64 V.kind, i64 V.num, str V.s, .slice ak V.kids.length ck] 28)).alloc (.cells #[i64 T.kind, i64 T.num, .slice an T.names.length cn, .slice at_ T.kids.length ct] 25)).heap[w.heap.size + 1]? = some (.cells #[i64 T.kind, i64 T.num, .slice an T.names.length cn, .slice at_ T.kids.length ct] 25)) := heap_at3 _ _ _ (by simp)
  have HBV : Hid (Below w.heap.size w ((w.alloc (.cells #[i64 V.kind, i64 V.num, str V.s, .slice ak V.kids.length ck] 28)).alloc (.cells #[i64 T.kind, i64 T.num, .slice an T.names.length cn, .slice at_ T.kids.length ct] 25))) := (below_one w _).trans ((below_one _ _).mono (by simp))
  clear hV hR hf
  go_enter Tryz.func63, Tryz.ntmps63
  go_upto_region 1 with fail
  generalize (w.alloc (.cells #[i64 V.kind, i64 V.num, str V.s, .slice ak V.kids.length ck] 28)).alloc (.cells #[i64 T.kind, i64 T.num, .slice an T.names.length cn, .slice at_ T.kids.length ct] 25) = V0 at *
  obtain ⟨Z, hZ⟩ : ∃ Z, Z = w.heap.size := ⟨_, rfl⟩
  obtain ⟨Y, hY⟩ : ∃ Y, Y = w.heap.size + 1 := ⟨_, rfl⟩
  rw [← hZ] at HX
  rw [← hY] at HY
  rw [← hY, ← hZ]
  clear hZ hY
  have zc0 : V0.cell? ⟨Z, 0, none⟩ = some (i64 V.kind) := blk_cell HX.out 0
  have zc1 : V0.cell? ⟨Z, 1, none⟩ = some (i64 V.num) := blk_cell HX.out 1
  have zc2 : V0.cell? ⟨Z, 2, none⟩ = some (str V.s) := blk_cell HX.out 2
  have zc3 : V0.cell? ⟨Z, 3, none⟩ = some (.slice ak V.kids.length ck) := blk_cell HX.out 3
  have yc0 : V0.cell? ⟨Y, 0, none⟩ = some (i64 T.kind) := blk_cell HY.out 0
  have yc1 : V0.cell? ⟨Y, 1, none⟩ = some (i64 T.num) := blk_cell HY.out 1
  have yc2 : V0.cell? ⟨Y, 2, none⟩ = some (.slice an T.names.length cn) := blk_cell HY.out 2
  have yc3 : V0.cell? ⟨Y, 3, none⟩ = some (.slice at_ T.kids.length ct) := blk_cell HY.out 3
  go_wp2_with fail
  refine (HFA.out V0 _ _ _ _ _ _).mono ?_
  rintro e w1 ⟨rfl, hb1⟩
  have HB1 : Hid (Below w.heap.size w w1) := HBV.out.trans (hb1.mono HBV.out.size)
  clear hb1
  go_wp2_with fail
  go_ret
  exact ⟨rfl, HB1.out⟩
end Go.Proofs.YtihbbgcpdgnhoaaGreatDoor
