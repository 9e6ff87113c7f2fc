/- imagoref16's Misfit: its contract; no statement is proved in this text. -/
import Derived.Test.YtgiemijhndanjaaDoorRft
namespace Go.Proofs.YtgiemijhndanjaaDoor
open Go.ChangeShapes Go.WideShapes Go.ChangeAt Go.RowKit Go.Deep
attribute [local go_sem ↓] Go.wp_at_zero Go.wp_at_succ

def misD (V : Vl) (T : Ty) (a : Nat) : List Nat := if (firstF V T).length = 0 then [] else a :: (firstF V T).tail
theorem misD_len (V : Vl) (T : Ty) (a : Nat) : (misD V T a).length ≤ V.size := by
  have := firstF_len _ V (Nat.le_refl _) T
  unfold misD
  split
  · simp
  · simp only [List.length_cons, List.length_tail]; omega
/-- A row of one int, and another row behind it. -/
theorem app_ints {X : World} {S : Nat → Prop} {lo G a : Nat} {b off cap : Nat} {l : List Nat} (hG : X.heap[G]? = some (.cells #[i64 a] 3)) (hlo : lo ≤ G) (h : Nls X S (.slice (some ⟨b, off, none⟩) l.length cap) l) (hl : l.length ≤ 100000) (c' : Nat) :
    ∃ ao cap' w', (Builtin.append_ #[40, 40] 40 #[.slice (some ⟨G, 0, none⟩) 1 1, .slice (some ⟨b, off, none⟩) l.length c']).run Tryd.prog X = .ok (.slice ao (1 + l.length) cap') w' ∧ (∀ k, k < X.heap.size → k ≠ G → w'.heap[k]? = X.heap[k]?) ∧ Below lo X w' ∧ cap' ≤ maxLen ∧ Nls w' (fun b => lo ≤ b) (.slice ao (1 + l.length) cap') (a :: l) := by
  obtain ⟨inf, hi, hz, hs, hb⟩ := info_parts info3
  have hlt := blk_lt hG
  have hown : X.ownsRow lo 3 1 (.slice (some ⟨G, 0, none⟩) 1 1) 1 [i64 a] := ⟨rfl, Or.inr ⟨G, 1, _, rfl, hlo, hG, Nat.le_refl _, by unfold maxLen; omega, rfl, rfl⟩⟩
  have hnews : ∀ (j : Nat) (u : Value), (l.map fun x : Nat => i64 x)[j]? = some u → X.cell? ((⟨b, off, none⟩ : Addr).add j) = some u := by
    intro j u hu
    rw [List.getElem?_map] at hu
    obtain ⟨x, hx, rfl⟩ := Option.map_eq_some_iff.1 hu
    obtain ⟨ao, cp, he, _, h3⟩ := h
    cases he
    rcases h3 with h3 | ⟨b', off', he, hS, hlt, hc⟩
    · subst h3; simp at hx
    · cases he
      rw [Addr.add_mid]
      exact hc j x hx
  obtain ⟨v', w', hr, h2, h3, h4, h5⟩ := run_append_own_at (P := Tryd.prog) X lo 40 40 3 inf (i64 0) 1 8 Tryd.underlying40 hi hz hs hb rfl (by omega) _ 1 _ hown ⟨b, off, none⟩ l.length c' (l.map fun x : Nat => i64 x) (by simp) hnews (fun u hu => by obtain ⟨x, _, rfl⟩ := List.mem_map.1 hu; rfl) (by unfold maxLen; omega) (by omega) (by omega)
  obtain ⟨ao, cap', rfl, _⟩ := own_slice h2
  have hblk : ∀ k, k < X.heap.size → k ≠ G → w'.heap[k]? = X.heap[k]? := fun k hk hne => h3.block k hk (by simp [Value.ownBlock]; omega)
  refine ⟨ao, cap', w', hr, hblk, ⟨h3.os, h3.tape, h3.output, h3.size, fun k hk => hblk k (by omega) (by omega)⟩, ?_, ?_⟩
  · rcases h2.2 with ⟨hv, h0⟩ | ⟨g, cap2, cur, hv, hbg, hg, hc1, hc2, _, _⟩
    · omega
    · cases hv; exact hc2
  · have hlen : (a :: l).length = 1 + l.length := by simp only [List.length_cons]; omega
    rcases h2.2 with ⟨hv, h0⟩ | ⟨g, cap2, cur, hv, hbg, hg, hc1, hc2, _, _⟩
    · omega
    · cases hv
      refine ⟨_, cap', by rw [hlen], by rw [hlen]; exact hc1, Or.inr ⟨g, 0, rfl, hbg, blk_lt hg, fun j x hx => ?_⟩⟩
      have hj : j < 1 + l.length := by have := (List.getElem?_eq_some_iff.1 hx).1; omega
      rw [Nat.zero_add, h2.cellAt j (by omega)]
      cases j with
      | zero => simp at hx; subst hx; rfl
      | succ j =>
        have hx' : l[j]? = some x := hx
        show ([i64 a] ++ l.map fun x : Nat => i64 x)[j + 1]? = _
        rw [List.getElem?_append_right (by simp)]
        show (l.map fun x : Nat => i64 x)[j + 1 - 1]? = _
        rw [Nat.add_sub_cancel, List.getElem?_map, hx']
        rfl
set_option maxRecDepth 100000 in
set_option maxHeartbeats 12800000 in
theorem rmis_in (V : Vl) (T : Ty) (a : Nat) (w : World) (S S' : Nat → Prop) (kv nv tv : Value) (hV : Vd w S V kv) (hR : Rd w S' T nv tv) (hf : T.formed = true) (hsz : V.size ≤ 100000) (ha : a ≤ 1000000)
    (hihm : ∀ U ∈ V.kids, ∀ (P : Ty), P.formed = true → ∀ (i : Nat), i ≤ 1000000 → ∀ (w : World) (kv nv tv : Value), Vd w S U kv → Rd w S' P nv tv → Calls Tryd.prog 18 #[vlV U kv, tyV P.kind P.num nv tv, i64 i] w (FirstOk w (misD U P i))) : Calls Tryd.prog 18 #[vlV V kv, tyV T.kind T.num nv tv, i64 a] w (FirstOk w (misD V T a)) := by
  obtain ⟨L, hL⟩ : ∃ L, L = misD V T a := ⟨_, rfl⟩
  have HLe : Hid (L = if (firstF V T).length = 0 then [] else a :: (firstF V T).tail) := hL
  have hLl : L.length ≤ 100000 := by rw [hL]; exact Nat.le_trans (misD_len V T a) hsz
  rw [← hL]
  clear hL
  have HIHM := hid hihm
  have hih : ∀ U ∈ V.kids, ∀ (P : Ty), P.formed = true → ∀ (w : World) (kv nv tv : Value), Vd w S U kv → Rd w S' P nv tv → Calls Tryd.prog 16 #[vlV U kv, tyV P.kind P.num nv tv] w fun e w' => e = .returned (.bool (decide ((firstF U P).length = 0))) ∧ Below w.heap.size w w' := fun U _ P hP w kv nv tv h1 h2 => rfits_ok _ U (Nat.le_refl _) P hP w S S' kv nv tv h1 h2
  have HFI : Hid (∀ (W : World) kv nv tv, Vd W S V kv → Rd W S' T nv tv → Calls Tryd.prog 16 #[vlV V kv, tyV T.kind T.num nv tv] W fun e w' => e = .returned (.bool (decide ((firstF V T).length = 0))) ∧ Below W.heap.size W w') := fun W kv nv tv h1 h2 => rfits_ok _ V (Nat.le_refl _) T hf W S S' kv nv tv h1 h2
  obtain ⟨FV, hFV⟩ : ∃ FV, FV = decide ((firstF V T).length = 0) := ⟨_, rfl⟩
  rw [← hFV] at HFI
  have HFV := hid hFV
  clear hFV
  have HSzV := hid hsz
  have haI : (a : Int) ≤ 1000000 := by omega
  have hln := hV.lens
  have hlt := hR.lens
  unfold maxLen at hln hlt
  obtain ⟨hln1, hln2⟩ := hln
  obtain ⟨hlt1, hlt2⟩ := hlt
  have HIH := hid hih
  have HF := hid hf
  have HM1 : Hid (∀ (W : World) kv nv tv, Vd W S V kv → Rd W S' T nv tv → Calls Tryd.prog 28 #[vlV V kv, tyV T.kind T.num nv tv] W fun e w' => e = .returned (.bool (aloneB V T)) ∧ Below W.heap.size W w') := fun W kv nv tv h1 h2 => alone_ok V T W S S' kv nv tv h1 h2 hf
  obtain ⟨A, hA⟩ : ∃ A, A = aloneB V T := ⟨_, rfl⟩
  have HAe := hid hA
  rw [← hA] at HM1
  clear hA
  have HVd := hid hV
  have HRd := hid hR
  obtain ⟨ak, ck, rfl⟩ := hV.form
  obtain ⟨an, cn, rfl, at_, ct, rfl⟩ := hR.form
  have HX : Hid (((w.alloc (.cells #[i64 V.kind, i64 V.num, str V.s, .slice ak V.kids.length ck] 33)).alloc (.cells #[i64 T.kind, i64 T.num, .slice an T.names.length cn, .slice at_ T.kids.length ct] 37)).heap[w.heap.size]? = some (.cells #[i64 V.kind, i64 V.num, str V.s, .slice ak V.kids.length ck] 33)) := blk_alloc (heap_last w _) _
  have HY : Hid (((w.alloc (.cells #[i64 V.kind, i64 V.num, str V.s, .slice ak V.kids.length ck] 33)).alloc (.cells #[i64 T.kind, i64 T.num, .slice an T.names.length cn, .slice at_ T.kids.length ct] 37)).heap[w.heap.size + 1]? = some (.cells #[i64 T.kind, i64 T.num, .slice an T.names.length cn, .slice at_ T.kids.length ct] 37)) := heap_at3 _ _ _ (by simp)
  have HBV : Hid (Below w.heap.size w ((w.alloc (.cells #[i64 V.kind, i64 V.num, str V.s, .slice ak V.kids.length ck] 33)).alloc (.cells #[i64 T.kind, i64 T.num, .slice an T.names.length cn, .slice at_ T.kids.length ct] 37))) := (below_one w _).trans ((below_one _ _).mono (by simp))
  clear hV hR hih hf hihm
  go_enter Tryd.func18, Tryd.ntmps18
  go_upto_region 1 with fail
  generalize (w.alloc (.cells #[i64 V.kind, i64 V.num, str V.s, .slice ak V.kids.length ck] 33)).alloc (.cells #[i64 T.kind, i64 T.num, .slice an T.names.length cn, .slice at_ T.kids.length ct] 37) = V0 at *
  obtain ⟨Z, hZ⟩ : ∃ Z, Z = w.heap.size := ⟨_, rfl⟩
  obtain ⟨Y, hY⟩ : ∃ Y, Y = w.heap.size + 1 := ⟨_, rfl⟩
  rw [← hZ] at HX
  rw [← hY] at HY
  rw [← hY, ← hZ]
  clear hZ hY
  have zc0 : V0.cell? ⟨Z, 0, none⟩ = some (i64 V.kind) := blk_cell HX.out 0
  have zc1 : V0.cell? ⟨Z, 1, none⟩ = some (i64 V.num) := blk_cell HX.out 1
  have zc2 : V0.cell? ⟨Z, 2, none⟩ = some (str V.s) := blk_cell HX.out 2
  have zc3 : V0.cell? ⟨Z, 3, none⟩ = some (.slice ak V.kids.length ck) := blk_cell HX.out 3
  have yc0 : V0.cell? ⟨Y, 0, none⟩ = some (i64 T.kind) := blk_cell HY.out 0
  have yc1 : V0.cell? ⟨Y, 1, none⟩ = some (i64 T.num) := blk_cell HY.out 1
  have yc2 : V0.cell? ⟨Y, 2, none⟩ = some (.slice an T.names.length cn) := blk_cell HY.out 2
  have yc3 : V0.cell? ⟨Y, 3, none⟩ = some (.slice at_ T.kids.length ct) := blk_cell HY.out 3
  have HC0 := hid (HFI.out V0 _ _ _ (HVd.out.under HBV.out) (HRd.out.under HBV.out))
  clear HFI
  go_wp2_with fail
  refine HC0.out.mono ?_
  rintro e w0 ⟨rfl, hb0⟩
  have HB0 : Hid (Below w.heap.size w w0) := HBV.out.trans (hb0.mono HBV.out.size)
  have HX0 : Hid (w0.heap[Z]? = some (.cells #[i64 V.kind, i64 V.num, str V.s, .slice ak V.kids.length ck] 33)) := blk_below HX.out hb0
  have HY0 : Hid (w0.heap[Y]? = some (.cells #[i64 T.kind, i64 T.num, .slice an T.names.length cn, .slice at_ T.kids.length ct] 37)) := blk_below HY.out hb0
  clear hb0 HC0 zc0 zc1 zc2 zc3 yc0 yc1 yc2 yc3 HX HY
  cases FV with
  | true =>
    have HL0 : Hid (L = []) := by show _ = _; rw [HLe.out, if_pos (of_decide_eq_true HFV.out.symm)]
    go_wp2_with fail
    refine bodyPost_ret (v := .slice none 0 0) (by simp [results, Tryd.results18, go_sem]) rfl ?_
    refine ⟨none, 0, by rw [HL0.out]; rfl, HB0.out, Nat.zero_le _, ?_⟩
    rw [HL0.out]
    exact ⟨none, 0, rfl, Nat.le_refl _, Or.inl rfl⟩
  | false =>
    have HL1 : Hid (L = a :: (firstF V T).tail ∧ (firstF V T).length ≠ 0) := by
      have h := of_decide_eq_false HFV.out.symm
      exact ⟨by rw [HLe.out, if_neg h], h⟩
    have HB1 : Hid (Below w.heap.size w (w0.alloc (.cells #[i64 a] 3))) := HB0.out.trans ((below_one w0 _).mono HB0.out.size)
    have HX1 : Hid ((w0.alloc (.cells #[i64 a] 3)).heap[Z]? = some (.cells #[i64 V.kind, i64 V.num, str V.s, .slice ak V.kids.length ck] 33)) := blk_alloc HX0.out _
    have HY1 : Hid ((w0.alloc (.cells #[i64 a] 3)).heap[Y]? = some (.cells #[i64 T.kind, i64 T.num, .slice an T.names.length cn, .slice at_ T.kids.length ct] 37)) := blk_alloc HY0.out _
    have HG1 : Hid ((w0.alloc (.cells #[i64 a] 3)).heap[w0.heap.size]? = some (.cells #[i64 a] 3)) := heap_last w0 _
    have HGw : Hid (w.heap.size ≤ w0.heap.size) := HB0.out.size
    clear HLe
    go_upto_region 4 with fail
    obtain ⟨G, hG⟩ : ∃ G, G = w0.heap.size := ⟨_, rfl⟩
    rw [← hG] at HG1 HGw ⊢
    clear hG
    generalize w0.alloc (.cells #[i64 a] 3) = V1 at *
    have zc0 : V1.cell? ⟨Z, 0, none⟩ = some (i64 V.kind) := blk_cell HX1.out 0
    have zc1 : V1.cell? ⟨Z, 1, none⟩ = some (i64 V.num) := blk_cell HX1.out 1
    have zc2 : V1.cell? ⟨Z, 2, none⟩ = some (str V.s) := blk_cell HX1.out 2
    have zc3 : V1.cell? ⟨Z, 3, none⟩ = some (.slice ak V.kids.length ck) := blk_cell HX1.out 3
    have yc0 : V1.cell? ⟨Y, 0, none⟩ = some (i64 T.kind) := blk_cell HY1.out 0
    have yc1 : V1.cell? ⟨Y, 1, none⟩ = some (i64 T.num) := blk_cell HY1.out 1
    have yc2 : V1.cell? ⟨Y, 2, none⟩ = some (.slice an T.names.length cn) := blk_cell HY1.out 2
    have yc3 : V1.cell? ⟨Y, 3, none⟩ = some (.slice at_ T.kids.length ct) := blk_cell HY1.out 3
    have HC1 := hid (HM1.out V1 _ _ _ (HVd.out.under HB1.out) (HRd.out.under HB1.out))
    clear HM1
    go_wp2_with fail
    refine HC1.out.mono ?_
    rintro e w2 ⟨rfl, hb2⟩
    have HB2 : Hid (Below w.heap.size w w2) := HB1.out.trans (hb2.mono HB1.out.size)
    have HX2 : Hid (w2.heap[Z]? = some (.cells #[i64 V.kind, i64 V.num, str V.s, .slice ak V.kids.length ck] 33)) := blk_below HX1.out hb2
    have HY2 : Hid (w2.heap[Y]? = some (.cells #[i64 T.kind, i64 T.num, .slice an T.names.length cn, .slice at_ T.kids.length ct] 37)) := blk_below HY1.out hb2
    have HG2 : Hid (w2.heap[G]? = some (.cells #[i64 a] 3)) := blk_below HG1.out hb2
    clear hb2 HC1 zc0 zc1 zc2 zc3 yc0 yc1 yc2 yc3 HX1 HY1 HG1
    cases A with
    | false =>
      have HL2 : Hid (L = [a]) := by show _ = _; rw [HL1.out.1, firstF_eq, ← HAe.out]; rfl
      go_wp2_with fail
      refine bodyPost_ret (v := .slice (some ⟨G, 0, none⟩) 1 1) (by simp [results, Tryd.results18, go_sem]) rfl ?_
      refine ⟨some ⟨G, 0, none⟩, 1, by rw [HL2.out]; rfl, HB2.out, by unfold maxLen; omega, ?_⟩
      rw [HL2.out]
      refine ⟨_, 1, rfl, Nat.le_refl _, Or.inr ⟨G, 0, rfl, HGw.out, blk_lt HG2.out, fun j x hx => ?_⟩⟩
      have hj : j = 0 := by have := (List.getElem?_eq_some_iff.1 hx).1; simpa using this
      subst hj
      cases hx
      exact blk_cell HG2.out 0
    | true =>
      have HL2 : Hid (L = a :: (firstL (V.kids.drop 0) 0 T).tail ∧ (firstL (V.kids.drop 0) 0 T).length ≠ 0) := by
        have h := HL1.out
        rw [firstF_eq, ← HAe.out] at h
        exact h
      have HRM : Hid (∀ i, i < V.kids.length → (T.kind = 3 → 0 < T.kids.length) ∧ (T.kind ≠ 3 → i < T.kids.length)) := fun i hi => kid_room HF.out HAe.out.symm i hi
      have zc3 : w2.cell? ⟨Z, 3, none⟩ = some (.slice ak V.kids.length ck) := blk_cell HX2.out 3
      go_wp2_with fail
      go_loopw [7, 23] (fun s7 u wr => ∃ i : Nat, i ≤ V.kids.length ∧ s7 = .slice (some ⟨G, 0, none⟩) 1 1 ∧ u = i64 i ∧ Hid (Below w.heap.size w wr) ∧ Hid (wr.heap[Z]? = some (.cells #[i64 V.kind, i64 V.num, str V.s, .slice ak V.kids.length ck] 33)) ∧ Hid (wr.heap[Y]? = some (.cells #[i64 T.kind, i64 T.num, .slice an T.names.length cn, .slice at_ T.kids.length ct] 37)) ∧ Hid (wr.heap[G]? = some (.cells #[i64 a] 3)) ∧ Hid (L = a :: (firstL (V.kids.drop i) i T).tail ∧ (firstL (V.kids.drop i) i T).length ≠ 0)) (fun _ u _ => V.kids.length - (intOf u).toNat)
      case atStart => exact ⟨0, Nat.zero_le _, rfl, rfl, HB2, HX2, HY2, HG2, HL2⟩
      case round =>
        obtain ⟨i, hi, rfl, rfl, HB, HXr, HYr, HGr, HLr⟩ := hrel
        by_cases hlt : i < V.kids.length
        · obtain ⟨b, off, kv2, rfl, _, hblt, hr, hrd⟩ := (HVd.out.under HB.out).kid i hlt
          obtain ⟨U, hU⟩ : ∃ U, U = V.kids[i] := ⟨_, rfl⟩
          rw [← hU] at hr hrd
          have HUm : Hid (U ∈ V.kids) := by show U ∈ _; rw [hU]; exact List.getElem_mem hlt
          have HST : Hid (firstL (V.kids.drop i) i T = if (firstF U (kidT T i)).length = 0 then firstL (V.kids.drop (i + 1)) (i + 1) T else 0 :: i :: (firstF U (kidT T i)).tail) := by show _ = _; rw [firstL_step _ _ _ hlt, ← hU]
          obtain ⟨ak2, ck2, rfl⟩ := hrd.form
          have c0 : wr.cell? ⟨b, off + i * 4, none⟩ = some (i64 U.kind) := hr 0 _ rfl
          have c1 : wr.cell? ⟨b, off + i * 4 + 1, none⟩ = some (i64 U.num) := hr 1 _ rfl
          have c2 : wr.cell? ⟨b, off + i * 4 + 2, none⟩ = some (str U.s) := hr 2 _ rfl
          have c3 : wr.cell? ⟨b, off + i * 4 + 3, none⟩ = some (.slice ak2 U.kids.length ck2) := hr 3 _ rfl
          have HBX : Hid (Below w.heap.size w (wr.alloc (.cells #[i64 U.kind, i64 U.num, str U.s, .slice ak2 U.kids.length ck2] 33))) := HB.out.trans ((below_one wr _).mono HB.out.size)
          have HX2 : Hid ((wr.alloc (.cells #[i64 U.kind, i64 U.num, str U.s, .slice ak2 U.kids.length ck2] 33)).heap[wr.heap.size]? = some (.cells #[i64 U.kind, i64 U.num, str U.s, .slice ak2 U.kids.length ck2] 33)) := heap_last wr _
          have HZ2 : Hid ((wr.alloc (.cells #[i64 U.kind, i64 U.num, str U.s, .slice ak2 U.kids.length ck2] 33)).heap[Z]? = some (.cells #[i64 V.kind, i64 V.num, str V.s, .slice (some ⟨b, off, none⟩) V.kids.length ck] 33)) := blk_alloc HXr.out _
          have HY2 : Hid ((wr.alloc (.cells #[i64 U.kind, i64 U.num, str U.s, .slice ak2 U.kids.length ck2] 33)).heap[Y]? = some (.cells #[i64 T.kind, i64 T.num, .slice an T.names.length cn, .slice at_ T.kids.length ct] 37)) := blk_alloc HYr.out _
          have HUd : Hid (Vd (wr.alloc (.cells #[i64 U.kind, i64 U.num, str U.s, .slice ak2 U.kids.length ck2] 33)) S U (.slice ak2 U.kids.length ck2)) := hrd.under (below_one wr _)
          have HCw : Hid (Below wr.heap.size wr (wr.alloc (.cells #[i64 U.kind, i64 U.num, str U.s, .slice ak2 U.kids.length ck2] 33))) := below_one wr _
          obtain ⟨hr3, hr4⟩ := HRM.out i hlt
          have HFK : Hid ((kidT T i).formed = true) := kidT_formed HF.out i hr3 hr4
          have HR3 := hid hr3
          have HR4 := hid hr4
          clear hU hr hrd hr3 hr4
          go_upto_region 9 with fail
          obtain ⟨Q, hQ⟩ : ∃ Q, Q = wr.heap.size := ⟨_, rfl⟩
          rw [← hQ] at HX2 ⊢
          clear hQ c0 c1 c2 c3
          generalize wr.alloc (.cells #[i64 U.kind, i64 U.num, str U.s, .slice ak2 U.kids.length ck2] 33) = X at *
          have HSd : Hid (So2 Q Y (.cells #[i64 U.kind, i64 U.num, str U.s, .slice ak2 U.kids.length ck2] 33) (.cells #[i64 T.kind, i64 T.num, .slice an T.names.length cn, .slice at_ T.kids.length ct] 37) X.drew) := ⟨HX2.out, HY2.out⟩
          have HBd : Hid (Below w.heap.size w X.drew) := below_drewN HBX.out 1
          have HKD : Hid (∀ W, Below w.heap.size w W → Calls Tryd.prog 29 #[.agg #[i64 T.kind, i64 T.num, .slice an T.names.length cn, .slice at_ T.kids.length ct], i64 i] W fun e w' => ∃ a1 c1 a2 c2, e = .returned (tyV (kidT T i).kind (kidT T i).num (.slice a1 (kidT T i).names.length c1) (.slice a2 (kidT T i).kids.length c2)) ∧ Below W.heap.size W w' ∧ Rd w' S' (kidT T i) (.slice a1 (kidT T i).names.length c1) (.slice a2 (kidT T i).kids.length c2)) := fun W hW => kid_ok T i W S' _ _ (HRd.out.under hW) HR3.out HR4.out
          have HUd2 : Hid (Vd X.drew S U (.slice ak2 U.kids.length ck2)) := HUd.out.under (below_drewN (Below.refl _ X) 1)
          have HCd : Hid (Below wr.heap.size wr X.drew) := below_drewN HCw.out 1
          generalize kidT T i = P at *
          refine wp_region_noPanic ?_
          refine wp_region_last (So2 Q Y (.cells #[i64 U.kind, i64 U.num, str U.s, .slice ak2 U.kids.length ck2] 33) (.cells #[i64 T.kind, i64 T.num, .slice an T.names.length cn, .slice at_ T.kids.length ct] 37)) 5 (by kernel_rfl) ?_
          refine wpL_take 0 28 (.agg #[i64 U.kind, i64 U.num, str U.s, .slice ak2 U.kids.length ck2]) [4] rfl rfl (by kernel_rfl) (by decide) (by kernel_rfl) (by kernel_rfl) (by kernel_rfl) (fun _ _ _ h => h) HSd.out (by rfl) (fun W hW => by have e0 : W.cell? ⟨Q, 0, none⟩ = some (i64 U.kind) := blk_cell hW.z 0; have e1 : W.cell? ⟨Q, 1, none⟩ = some (i64 U.num) := blk_cell hW.z 1; have e2 : W.cell? ⟨Q, 2, none⟩ = some (str U.s) := blk_cell hW.z 2; have e3 : W.cell? ⟨Q, 3, none⟩ = some (.slice ak2 U.kids.length ck2) := blk_cell hW.z 3; go_simp) ?_
          simp only [Act.put, List.setIfInBounds_toArray, List.set_cons_zero, List.set_cons_succ]
          refine wpL_take 1 29 (.agg #[i64 T.kind, i64 T.num, .slice an T.names.length cn, .slice at_ T.kids.length ct]) [3, 4] rfl rfl (by kernel_rfl) (by decide) (by kernel_rfl) (by kernel_rfl) (by kernel_rfl) (fun _ _ _ h => h) HSd.out (by rfl) (fun W hW => by have e0 : W.cell? ⟨Y, 0, none⟩ = some (i64 T.kind) := blk_cell hW.y 0; have e1 : W.cell? ⟨Y, 1, none⟩ = some (i64 T.num) := blk_cell hW.y 1; have e2 : W.cell? ⟨Y, 2, none⟩ = some (.slice an T.names.length cn) := blk_cell hW.y 2; have e3 : W.cell? ⟨Y, 3, none⟩ = some (.slice at_ T.kids.length ct) := blk_cell hW.y 3; go_simp) ?_
          simp only [Act.put, List.setIfInBounds_toArray, List.set_cons_zero, List.set_cons_succ]
          refine wpL_take 2 30 (i64 i) [3, 4] rfl rfl (by kernel_rfl) (by decide) (by kernel_rfl) (by kernel_rfl) (by kernel_rfl) (fun _ _ _ h => h) HSd.out (by rfl) (fun W hW => by go_simp) ?_
          simp only [Act.put, List.setIfInBounds_toArray, List.set_cons_zero, List.set_cons_succ]
          refine wpL_one 3 rfl (by kernel_rfl) (by rfl) (fun K hK => ?_)
          go_simp
          refine (HKD.out X.drew HBd.out).mono ?_
          rintro e w4 ⟨p1, q1, p2, q2, rfl, hb4, hr4⟩
          have HB4 : Hid (Below w.heap.size w w4) := HBd.out.trans (hb4.mono HBd.out.size)
          have HS4 : Hid (So2 Q Y (.cells #[i64 U.kind, i64 U.num, str U.s, .slice ak2 U.kids.length ck2] 33) (.cells #[i64 T.kind, i64 T.num, .slice an T.names.length cn, .slice at_ T.kids.length ct] 37) w4) := ⟨blk_below HSd.out.z hb4, blk_below HSd.out.y hb4⟩
          have HZ4 : Hid (w4.heap[Z]? = some (.cells #[i64 V.kind, i64 V.num, str V.s, .slice (some ⟨b, off, none⟩) V.kids.length ck] 33)) := blk_below (show X.drew.heap[Z]? = some (.cells #[i64 V.kind, i64 V.num, str V.s, .slice (some ⟨b, off, none⟩) V.kids.length ck] 33) from HZ2.out) hb4
          have HU4 := hid (HUd2.out.under hb4)
          have HC4 : Hid (Below wr.heap.size wr w4) := HCd.out.trans (hb4.mono HCd.out.size)
          have HCF := hid (HIH.out U HUm.out P HFK.out w4 _ _ _ HU4.out hr4)
          obtain ⟨FB, hFB⟩ : ∃ FB, FB = decide ((firstF U P).length = 0) := ⟨_, rfl⟩
          rw [← hFB] at HCF
          have HFB := hid hFB
          clear hb4 hr4 hFB
          go_simp
          refine hK.out _ _ (fun _ => HS4.out) ?_
          clear hK K
          refine wpL_one 4 rfl (by kernel_rfl) (by rfl) (fun K hK => ?_)
          go_simp
          refine HCF.out.mono ?_
          rintro e w5 ⟨rfl, hb5⟩
          have HB5 : Hid (Below w.heap.size w w5) := HB4.out.trans (hb5.mono HB4.out.size)
          have HS5 : Hid (So2 Q Y (.cells #[i64 U.kind, i64 U.num, str U.s, .slice ak2 U.kids.length ck2] 33) (.cells #[i64 T.kind, i64 T.num, .slice an T.names.length cn, .slice at_ T.kids.length ct] 37) w5) := ⟨blk_below HS4.out.z hb5, blk_below HS4.out.y hb5⟩
          have HZ5 : Hid (w5.heap[Z]? = some (.cells #[i64 V.kind, i64 V.num, str V.s, .slice (some ⟨b, off, none⟩) V.kids.length ck] 33)) := blk_below HZ4.out hb5
          have HU5 := hid (HU4.out.under hb5)
          have HC5 : Hid (Below wr.heap.size wr w5) := HC4.out.trans (hb5.mono HC4.out.size)
          clear hb5 HCF
          go_simp
          refine hK.out _ _ (fun _ => HS5.out) ?_
          clear hK K
          refine wpL_one 5 rfl (by kernel_rfl) (by rfl) (fun K hK => ?_)
          go_simp
          refine hK.out _ _ (fun h => absurd rfl h) ?_
          clear hK K
          refine wpL_done (by kernel_rfl) ?_
          refine NoPanic.normal ?_
          have HG5 : Hid (w5.heap[G]? = some (.cells #[i64 a] 3)) := blk_below HGr.out HC5.out
          cases FB with
          | true =>
            have h0 : (firstF U P).length = 0 := of_decide_eq_true HFB.out.symm
            have HLn : Hid (L = a :: (firstL (V.kids.drop (i + 1)) (i + 1) T).tail ∧ (firstL (V.kids.drop (i + 1)) (i + 1) T).length ≠ 0) := by
              have h := HLr.out
              rw [HST.out, if_pos h0] at h
              exact h
            have HYy := hid HS5.out.y
            clear HST HLr h0
            go_wp2_with fail
            exact ⟨⟨i + 1, by omega, rfl, by go_num, HB5, HZ5, HYy, HG5, HLn⟩, by simp [intOf]; omega⟩
          | false =>
            have h0 : ¬ (firstF U P).length = 0 := of_decide_eq_false HFB.out.symm
            have HLn : Hid (L = a :: misD U P i ∧ misD U P i ≠ []) := by
              have h := HLr.out.1
              rw [HST.out, if_neg h0] at h
              unfold misD
              rw [if_neg h0]
              exact ⟨h, by simp⟩
            have hMl : (misD U P i).length ≤ 100000 := Nat.le_trans (misD_len U P i) (by have h1 := sizeL_mem HUm.out; have h2 := V.size_eq; have h3 := HSzV.out; omega)
            have HMI : Hid (∀ (W : World) kv nv tv, Vd W S U kv → Rd W S' P nv tv → Calls Tryd.prog 18 #[vlV U kv, tyV P.kind P.num nv tv, i64 i] W (FirstOk W (misD U P i))) := fun W kv nv tv h1 h2 => HIHM.out U HUm.out P HFK.out i (by have g1 := sizeL_len V.kids; have g2 := V.size_eq; have g3 := HSzV.out; omega) W kv nv tv h1 h2
            generalize misD U P i = L2 at *
            clear HST HLr h0 HIH HIHM
            go_upto_region 10 with fail
            have HSe : Hid (So2 Q Y (.cells #[i64 U.kind, i64 U.num, str U.s, .slice ak2 U.kids.length ck2] 33) (.cells #[i64 T.kind, i64 T.num, .slice an T.names.length cn, .slice at_ T.kids.length ct] 37) w5.drew) := ⟨HS5.out.z, HS5.out.y⟩
            have HBe : Hid (Below w.heap.size w w5.drew) := below_drewN HB5.out 1
            have HUe := hid (HU5.out.under (below_drewN (Below.refl _ w5) 1))
            have HGe : Hid (w5.drew.heap[G]? = some (.cells #[i64 a] 3)) := HG5.out
            refine wp_region_noPanic ?_
            refine wp_region_last (So2 Q Y (.cells #[i64 U.kind, i64 U.num, str U.s, .slice ak2 U.kids.length ck2] 33) (.cells #[i64 T.kind, i64 T.num, .slice an T.names.length cn, .slice at_ T.kids.length ct] 37)) 8 (by kernel_rfl) ?_
            refine wpL_take 0 34 (.slice (some ⟨G, 0, none⟩) 1 1) [] rfl rfl (by kernel_rfl) (by decide) (by kernel_rfl) (by kernel_rfl) (by kernel_rfl) (fun _ _ _ h => h) HSe.out (by rfl) (fun W hW => by go_simp) ?_
            simp only [Act.put, List.setIfInBounds_toArray, List.set_cons_zero, List.set_cons_succ]
            refine wpL_take 1 35 (.agg #[i64 U.kind, i64 U.num, str U.s, .slice ak2 U.kids.length ck2]) [] rfl rfl (by kernel_rfl) (by decide) (by kernel_rfl) (by kernel_rfl) (by kernel_rfl) (fun _ _ _ h => h) HSe.out (by rfl) (fun W hW => by have e0 : W.cell? ⟨Q, 0, none⟩ = some (i64 U.kind) := blk_cell hW.z 0; have e1 : W.cell? ⟨Q, 1, none⟩ = some (i64 U.num) := blk_cell hW.z 1; have e2 : W.cell? ⟨Q, 2, none⟩ = some (str U.s) := blk_cell hW.z 2; have e3 : W.cell? ⟨Q, 3, none⟩ = some (.slice ak2 U.kids.length ck2) := blk_cell hW.z 3; go_simp) ?_
            simp only [Act.put, List.setIfInBounds_toArray, List.set_cons_zero, List.set_cons_succ]
            refine wpL_take 2 36 (.agg #[i64 T.kind, i64 T.num, .slice an T.names.length cn, .slice at_ T.kids.length ct]) [] rfl rfl (by kernel_rfl) (by decide) (by kernel_rfl) (by kernel_rfl) (by kernel_rfl) (fun _ _ _ h => h) HSe.out (by rfl) (fun W hW => by have e0 : W.cell? ⟨Y, 0, none⟩ = some (i64 T.kind) := blk_cell hW.y 0; have e1 : W.cell? ⟨Y, 1, none⟩ = some (i64 T.num) := blk_cell hW.y 1; have e2 : W.cell? ⟨Y, 2, none⟩ = some (.slice an T.names.length cn) := blk_cell hW.y 2; have e3 : W.cell? ⟨Y, 3, none⟩ = some (.slice at_ T.kids.length ct) := blk_cell hW.y 3; go_simp) ?_
            simp only [Act.put, List.setIfInBounds_toArray, List.set_cons_zero, List.set_cons_succ]
            refine wpL_take 3 37 (i64 i) [] rfl rfl (by kernel_rfl) (by decide) (by kernel_rfl) (by kernel_rfl) (by kernel_rfl) (fun _ _ _ h => h) HSe.out (by rfl) (fun W hW => by go_simp) ?_
            simp only [Act.put, List.setIfInBounds_toArray, List.set_cons_zero, List.set_cons_succ]
            refine wpL_take 5 39 (i64 i) [] rfl rfl (by kernel_rfl) (by decide) (by kernel_rfl) (by kernel_rfl) (by kernel_rfl) (fun _ _ _ h => h) HSe.out (by rfl) (fun W hW => by go_simp) ?_
            simp only [Act.put, List.setIfInBounds_toArray, List.set_cons_zero, List.set_cons_succ]
            refine wpL_one 4 rfl (by kernel_rfl) (by rfl) (fun K hK => ?_)
            go_simp
            refine (HKD.out w5.drew HBe.out).mono ?_
            rintro e w6 ⟨p3, q3, p4, q4, rfl, hb6, hr6⟩
            have HB6 : Hid (Below w.heap.size w w6) := HBe.out.trans (hb6.mono HBe.out.size)
            have HS6 : Hid (So2 Q Y (.cells #[i64 U.kind, i64 U.num, str U.s, .slice ak2 U.kids.length ck2] 33) (.cells #[i64 T.kind, i64 T.num, .slice an T.names.length cn, .slice at_ T.kids.length ct] 37) w6) := ⟨blk_below HSe.out.z hb6, blk_below HSe.out.y hb6⟩
            have HG6 : Hid (w6.heap[G]? = some (.cells #[i64 a] 3)) := blk_below HGe.out hb6
            have HCM := hid (HMI.out w6 _ _ _ (HUe.out.under hb6) hr6)
            clear hb6 hr6
            go_simp
            refine hK.out _ _ (fun _ => HS6.out) ?_
            clear hK K
            refine wpL_one 6 rfl (by kernel_rfl) (by rfl) (fun K hK => ?_)
            go_simp
            refine HCM.out.mono ?_
            rintro e w7 ⟨wo, wc, rfl, hb7, hcp, hn7⟩
            have HB7 : Hid (Below w.heap.size w w7) := HB6.out.trans (hb7.mono HB6.out.size)
            have HS7 : Hid (So2 Q Y (.cells #[i64 U.kind, i64 U.num, str U.s, .slice ak2 U.kids.length ck2] 33) (.cells #[i64 T.kind, i64 T.num, .slice an T.names.length cn, .slice at_ T.kids.length ct] 37) w7) := ⟨blk_below HS6.out.z hb7, blk_below HS6.out.y hb7⟩
            have HG7 : Hid (w7.heap[G]? = some (.cells #[i64 a] 3)) := blk_below HG6.out hb7
            have HN7 := hid hn7
            clear hb7 hcp hn7 HCM
            go_simp
            refine hK.out _ _ (fun _ => HS7.out) ?_
            clear hK K
            obtain ⟨wb, wof, rfl⟩ : ∃ wb wof, wo = some ⟨wb, wof, none⟩ := by
              obtain ⟨ao, cp, he, _, h3⟩ := HN7.out
              cases he
              rcases h3 with h3 | ⟨b', off', he, _⟩
              · exact absurd h3 HLn.out.2
              · exact ⟨b', off', he⟩
            obtain ⟨ao9, cap9, Y9, hrun, hblk, hb9, hc9, hn9⟩ := app_ints HG7.out HGw.out HN7.out hMl wc
            have HRUN := hid hrun
            have HB9 : Hid (Below w.heap.size w Y9) := HB7.out.trans hb9
            have HC9 := hid hc9
            have HN9 := hid hn9
            have HS9 : Hid (So2 Q Y (.cells #[i64 U.kind, i64 U.num, str U.s, .slice ak2 U.kids.length ck2] 33) (.cells #[i64 T.kind, i64 T.num, .slice an T.names.length cn, .slice at_ T.kids.length ct] 37) Y9) := by
              have hq : Q ≠ G := by rintro rfl; have h := HS7.out.z; rw [HG7.out] at h; have h2 := Option.some.inj h; injection h2 with _ h3; exact absurd h3 (by decide)
              have hy : Y ≠ G := by rintro rfl; have h := HS7.out.y; rw [HG7.out] at h; have h2 := Option.some.inj h; injection h2 with _ h3; exact absurd h3 (by decide)
              exact ⟨by rw [hblk Q (blk_lt HS7.out.z) hq]; exact HS7.out.z, by rw [hblk Y (blk_lt HS7.out.y) hy]; exact HS7.out.y⟩
            clear hrun hblk hb9 hc9 hn9
            refine wpL_one 7 rfl (by kernel_rfl) (by rfl) (fun K hK => ?_)
            refine wp_app_run (.tmp 34) (.tmp 40) 40 rfl _ _ (by rfl) (by rfl) _ rfl _ _ HRUN.out ?_
            refine hK.out _ _ (fun _ => HS9.out) ?_
            clear hK K
            simp only [Act.put, List.setIfInBounds_toArray]
            refine wpL_one 8 rfl (by kernel_rfl) (by rfl) (fun K hK => ?_)
            go_simp
            refine hK.out _ _ (fun h => absurd rfl h) ?_
            clear hK K
            refine wpL_done (by kernel_rfl) ?_
            refine NoPanic.normal ?_
            go_wp2_with fail
            refine bodyPost_ret (v := .slice ao9 (1 + L2.length) cap9) (by simp [results, Tryd.results18, go_sem]) rfl ?_
            have hll : L.length = 1 + L2.length := by rw [HLn.out.1]; simp only [List.length_cons]; omega
            refine ⟨ao9, cap9, by rw [hll], HB9.out, HC9.out, ?_⟩
            rw [hll, HLn.out.1]
            exact HN9.out
        · have he : i = V.kids.length := by omega
          exact absurd (by rw [he, List.drop_length]; rfl) HLr.out.2
theorem rmis_ok : ∀ (M : Nat) (V : Vl), V.size ≤ M → M ≤ 100000 → ∀ (T : Ty), T.formed = true → ∀ (a : Nat), a ≤ 1000000 → ∀ (w : World) (S S' : Nat → Prop) (kv nv tv : Value), Vd w S V kv → Rd w S' T nv tv → Calls Tryd.prog 18 #[vlV V kv, tyV T.kind T.num nv tv, i64 a] w (FirstOk w (misD V T a))
  | 0, V, h, _, _, _, _, _, _, _, _, _, _, _, _, _ => by have := size_pos V; omega
  | M + 1, V, h, hM, T, hf, a, ha, w, S, S', kv, nv, tv, hV, hR => rmis_in V T a w S S' kv nv tv hV hR hf (by omega) ha (fun U hU P hP i hi w kv nv tv hV hR => rmis_ok M U (by have := sizeL_mem hU; have := V.size_eq; omega) (by omega) P hP i hi w S S' kv nv tv hV hR)
end Go.Proofs.YtgiemijhndanjaaDoor
