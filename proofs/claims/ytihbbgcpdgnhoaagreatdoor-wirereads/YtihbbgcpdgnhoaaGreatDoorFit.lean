/- vals' Misfit and Fits: their contracts; no statement is proved in this text. -/
import Derived.Test.YtihbbgcpdgnhoaaGreatDoorFi
import Derived.Test.YtihbbgcpdgnhoaaGreatDoorEv
namespace Go.Proofs.YtihbbgcpdgnhoaaGreatDoor
open Go.ChangeShapes Go.WideShapes Go.ChangeAt Go.RowKit Go.Deep
attribute [local go_sem ↓] Go.wp_at_zero Go.wp_at_succ

def misF (V : Vl) (T : Ty) : List Nat := if T.err = 0 then firstF V T else []
def fitsB (V : Vl) (T : Ty) : Bool := decide (T.err = 0) && decide ((firstF V T).length = 0)
theorem err_formed {T : Ty} (h : T.err = 0) : T.formed = true := by
  have := (right_err T).2 h
  unfold Ty.right at this
  simp only [Bool.and_eq_true] at this
  exact this.2
theorem misF_len (V : Vl) (T : Ty) : (misF V T).length ≤ V.size := by
  unfold misF
  split
  · exact firstF_len _ V (Nat.le_refl _) T
  · simp
set_option maxRecDepth 100000 in
set_option maxHeartbeats 12800000 in
theorem misfit_ok (V : Vl) (T : Ty) (w : World) (S S' : Nat → Prop) (kv nv tv : Value) (hV : Vd w S V kv) (hR : Rd w S' T nv tv) (hsz : V.size ≤ 100000) : Calls Tryz.prog 39 #[vlV V kv, tyV T.kind T.num nv tv] w (FirstOk w (misF V T)) := by
  have HCK : Hid (∀ W nv tv, Rd W S' T nv tv → Calls Tryz.prog 35 #[tyV T.kind T.num nv tv] W fun e w' => e = .returned (i64 T.err) ∧ Below W.heap.size W w') := fun W nv tv h => check_ok T W S' nv tv h
  have HFI : Hid (T.err = 0 → ∀ W kv nv tv, Vd W S V kv → Rd W S' T nv tv → Calls Tryz.prog 62 #[vlV V kv, tyV T.kind T.num nv tv, .func (.func 63) #[] #[]] W (FirstOk W (firstF V T))) := fun h W kv nv tv h1 h2 => first_ok _ V (Nat.le_refl _) hsz T (err_formed h) W S S' kv nv tv h1 h2
  obtain ⟨L, hL⟩ : ∃ L, L = misF V T := ⟨_, rfl⟩
  have HLe : Hid (L = if T.err = 0 then firstF V T else []) := hL
  rw [← hL]
  clear hL
  generalize T.err = E at *
  have HVd := hid hV
  have HRd := hid hR
  obtain ⟨ak, ck, rfl⟩ := hV.form
  obtain ⟨an, cn, rfl, at_, ct, rfl⟩ := hR.form
  have HX : Hid (((w.alloc (.cells #[i64 V.kind, i64 V.num, str V.s, .slice ak V.kids.length ck] 28)).alloc (.cells #[i64 T.kind, i64 T.num, .slice an T.names.length cn, .slice at_ T.kids.length ct] 25)).heap[w.heap.size]? = some (.cells #[i64 V.kind, i64 V.num, str V.s, .slice ak V.kids.length ck] 28)) := blk_alloc (heap_last w _) _
  have HY : Hid (((w.alloc (.cells #[i64 V.kind, i64 V.num, str V.s, .slice ak V.kids.length ck] 28)).alloc (.cells #[i64 T.kind, i64 T.num, .slice an T.names.length cn, .slice at_ T.kids.length ct] 25)).heap[w.heap.size + 1]? = some (.cells #[i64 T.kind, i64 T.num, .slice an T.names.length cn, .slice at_ T.kids.length ct] 25)) := heap_at3 _ _ _ (by simp)
  have HBV : Hid (Below w.heap.size w ((w.alloc (.cells #[i64 V.kind, i64 V.num, str V.s, .slice ak V.kids.length ck] 28)).alloc (.cells #[i64 T.kind, i64 T.num, .slice an T.names.length cn, .slice at_ T.kids.length ct] 25))) := (below_one w _).trans ((below_one _ _).mono (by simp))
  clear hV hR 
  go_enter Tryz.func39, Tryz.ntmps39
  go_upto_region 1 with fail
  generalize (w.alloc (.cells #[i64 V.kind, i64 V.num, str V.s, .slice ak V.kids.length ck] 28)).alloc (.cells #[i64 T.kind, i64 T.num, .slice an T.names.length cn, .slice at_ T.kids.length ct] 25) = V0 at *
  obtain ⟨Z, hZ⟩ : ∃ Z, Z = w.heap.size := ⟨_, rfl⟩
  obtain ⟨Y, hY⟩ : ∃ Y, Y = w.heap.size + 1 := ⟨_, rfl⟩
  rw [← hZ] at HX
  rw [← hY] at HY
  rw [← hY, ← hZ]
  clear hZ hY
  have zc0 : V0.cell? ⟨Z, 0, none⟩ = some (i64 V.kind) := blk_cell HX.out 0
  have zc1 : V0.cell? ⟨Z, 1, none⟩ = some (i64 V.num) := blk_cell HX.out 1
  have zc2 : V0.cell? ⟨Z, 2, none⟩ = some (str V.s) := blk_cell HX.out 2
  have zc3 : V0.cell? ⟨Z, 3, none⟩ = some (.slice ak V.kids.length ck) := blk_cell HX.out 3
  have yc0 : V0.cell? ⟨Y, 0, none⟩ = some (i64 T.kind) := blk_cell HY.out 0
  have yc1 : V0.cell? ⟨Y, 1, none⟩ = some (i64 T.num) := blk_cell HY.out 1
  have yc2 : V0.cell? ⟨Y, 2, none⟩ = some (.slice an T.names.length cn) := blk_cell HY.out 2
  have yc3 : V0.cell? ⟨Y, 3, none⟩ = some (.slice at_ T.kids.length ct) := blk_cell HY.out 3
  have HC1 := hid (HCK.out V0 _ _ (HRd.out.under HBV.out))
  go_wp2_with fail
  refine HC1.out.mono ?_
  rintro e w1 ⟨rfl, hb1⟩
  have HB1 : Hid (Below w.heap.size w w1) := HBV.out.trans (hb1.mono HBV.out.size)
  have HX1 : Hid (w1.heap[Z]? = some (.cells #[i64 V.kind, i64 V.num, str V.s, .slice ak V.kids.length ck] 28)) := blk_below HX.out hb1
  have HY1 : Hid (w1.heap[Y]? = some (.cells #[i64 T.kind, i64 T.num, .slice an T.names.length cn, .slice at_ T.kids.length ct] 25)) := blk_below HY.out hb1
  clear hb1 HC1 zc0 zc1 zc2 zc3 yc0 yc1 yc2 yc3
  by_cases hE : E = 0
  · have HL2 : Hid (L = firstF V T) := by show _ = _; rw [HLe.out, if_pos hE]
    have HFC := hid (HFI.out hE w1 _ _ _ (HVd.out.under HB1.out) (HRd.out.under HB1.out))
    rw [← HL2.out] at HFC
    subst hE
    clear HL2 HLe HFI
    have zc0 : w1.cell? ⟨Z, 0, none⟩ = some (i64 V.kind) := blk_cell HX1.out 0
    have zc1 : w1.cell? ⟨Z, 1, none⟩ = some (i64 V.num) := blk_cell HX1.out 1
    have zc2 : w1.cell? ⟨Z, 2, none⟩ = some (str V.s) := blk_cell HX1.out 2
    have zc3 : w1.cell? ⟨Z, 3, none⟩ = some (.slice ak V.kids.length ck) := blk_cell HX1.out 3
    have yc0 : w1.cell? ⟨Y, 0, none⟩ = some (i64 T.kind) := blk_cell HY1.out 0
    have yc1 : w1.cell? ⟨Y, 1, none⟩ = some (i64 T.num) := blk_cell HY1.out 1
    have yc2 : w1.cell? ⟨Y, 2, none⟩ = some (.slice an T.names.length cn) := blk_cell HY1.out 2
    have yc3 : w1.cell? ⟨Y, 3, none⟩ = some (.slice at_ T.kids.length ct) := blk_cell HY1.out 3
    go_wp2_with fail
    refine HFC.out.mono ?_
    rintro e w2 ⟨ao, cap, rfl, hb2, hc2, hn2⟩
    have HB2 : Hid (Below w.heap.size w w2) := HB1.out.trans (hb2.mono HB1.out.size)
    have HN2 : Hid (Nls w2 (fun b => w.heap.size ≤ b) (.slice ao L.length cap) L) := hn2.mono (fun b hb _ => Nat.le_trans HB1.out.size hb)
    have HC2 := hid hc2
    clear hb2 hc2 hn2
    go_wp2_with fail
    refine bodyPost_ret (v := .slice ao L.length cap) (by simp [results, Tryz.results39, go_sem]) rfl ?_
    exact ⟨ao, cap, rfl, HB2.out, HC2.out, HN2.out⟩
  · have HL2 : Hid (L = []) := by show _ = _; rw [HLe.out, if_neg hE]
    have qE : (E != 0) = true := by simpa using hE
    clear hE HLe HFI
    go_wp2_with fail
    refine bodyPost_ret (v := .slice none 0 0) (by simp [results, Tryz.results39, go_sem]) rfl ?_
    refine ⟨none, 0, by rw [HL2.out]; rfl, HB1.out, Nat.zero_le _, ?_⟩
    rw [HL2.out]
    exact ⟨none, 0, rfl, Nat.le_refl _, Or.inl rfl⟩
set_option maxRecDepth 100000 in
set_option maxHeartbeats 12800000 in
theorem fits_ok (V : Vl) (T : Ty) (w : World) (S S' : Nat → Prop) (kv nv tv : Value) (hV : Vd w S V kv) (hR : Rd w S' T nv tv) (hsz : V.size ≤ 100000) : Calls Tryz.prog 23 #[vlV V kv, tyV T.kind T.num nv tv] w fun e w' => e = .returned (.bool (fitsB V T)) ∧ Below w.heap.size w w' := by
  have HCK : Hid (∀ W nv tv, Rd W S' T nv tv → Calls Tryz.prog 35 #[tyV T.kind T.num nv tv] W fun e w' => e = .returned (i64 T.err) ∧ Below W.heap.size W w') := fun W nv tv h => check_ok T W S' nv tv h
  have HFI : Hid (∀ W kv nv tv, Vd W S V kv → Rd W S' T nv tv → Calls Tryz.prog 39 #[vlV V kv, tyV T.kind T.num nv tv] W (FirstOk W (misF V T))) := fun W kv nv tv h1 h2 => misfit_ok V T W S S' kv nv tv h1 h2 hsz
  have hml : (misF V T).length ≤ 100000 := Nat.le_trans (misF_len V T) hsz
  obtain ⟨B, hB⟩ : ∃ B, B = fitsB V T := ⟨_, rfl⟩
  have HBe : Hid (B = (decide (T.err = 0) && decide ((misF V T).length = 0))) := by
    show _ = _
    rw [hB]
    unfold fitsB misF
    by_cases h : T.err = 0
    · rw [if_pos h]
    · rw [if_neg h, decide_eq_false h]; rfl
  rw [← hB]
  clear hB
  generalize T.err = E at *
  generalize misF V T = L at *
  have HVd := hid hV
  have HRd := hid hR
  obtain ⟨ak, ck, rfl⟩ := hV.form
  obtain ⟨an, cn, rfl, at_, ct, rfl⟩ := hR.form
  have HX : Hid (((w.alloc (.cells #[i64 V.kind, i64 V.num, str V.s, .slice ak V.kids.length ck] 28)).alloc (.cells #[i64 T.kind, i64 T.num, .slice an T.names.length cn, .slice at_ T.kids.length ct] 25)).heap[w.heap.size]? = some (.cells #[i64 V.kind, i64 V.num, str V.s, .slice ak V.kids.length ck] 28)) := blk_alloc (heap_last w _) _
  have HY : Hid (((w.alloc (.cells #[i64 V.kind, i64 V.num, str V.s, .slice ak V.kids.length ck] 28)).alloc (.cells #[i64 T.kind, i64 T.num, .slice an T.names.length cn, .slice at_ T.kids.length ct] 25)).heap[w.heap.size + 1]? = some (.cells #[i64 T.kind, i64 T.num, .slice an T.names.length cn, .slice at_ T.kids.length ct] 25)) := heap_at3 _ _ _ (by simp)
  have HBV : Hid (Below w.heap.size w ((w.alloc (.cells #[i64 V.kind, i64 V.num, str V.s, .slice ak V.kids.length ck] 28)).alloc (.cells #[i64 T.kind, i64 T.num, .slice an T.names.length cn, .slice at_ T.kids.length ct] 25))) := (below_one w _).trans ((below_one _ _).mono (by simp))
  clear hV hR 
  go_enter Tryz.func23, Tryz.ntmps23
  go_upto_region 1 with fail
  generalize (w.alloc (.cells #[i64 V.kind, i64 V.num, str V.s, .slice ak V.kids.length ck] 28)).alloc (.cells #[i64 T.kind, i64 T.num, .slice an T.names.length cn, .slice at_ T.kids.length ct] 25) = V0 at *
  obtain ⟨Z, hZ⟩ : ∃ Z, Z = w.heap.size := ⟨_, rfl⟩
  obtain ⟨Y, hY⟩ : ∃ Y, Y = w.heap.size + 1 := ⟨_, rfl⟩
  rw [← hZ] at HX
  rw [← hY] at HY
  rw [← hY, ← hZ]
  clear hZ hY
  have zc0 : V0.cell? ⟨Z, 0, none⟩ = some (i64 V.kind) := blk_cell HX.out 0
  have zc1 : V0.cell? ⟨Z, 1, none⟩ = some (i64 V.num) := blk_cell HX.out 1
  have zc2 : V0.cell? ⟨Z, 2, none⟩ = some (str V.s) := blk_cell HX.out 2
  have zc3 : V0.cell? ⟨Z, 3, none⟩ = some (.slice ak V.kids.length ck) := blk_cell HX.out 3
  have yc0 : V0.cell? ⟨Y, 0, none⟩ = some (i64 T.kind) := blk_cell HY.out 0
  have yc1 : V0.cell? ⟨Y, 1, none⟩ = some (i64 T.num) := blk_cell HY.out 1
  have yc2 : V0.cell? ⟨Y, 2, none⟩ = some (.slice an T.names.length cn) := blk_cell HY.out 2
  have yc3 : V0.cell? ⟨Y, 3, none⟩ = some (.slice at_ T.kids.length ct) := blk_cell HY.out 3
  have HC1 := hid (HCK.out V0 _ _ (HRd.out.under HBV.out))
  go_wp2_with fail
  refine HC1.out.mono ?_
  rintro e w1 ⟨rfl, hb1⟩
  have HB1 : Hid (Below w.heap.size w w1) := HBV.out.trans (hb1.mono HBV.out.size)
  have HX1 : Hid (w1.heap[Z]? = some (.cells #[i64 V.kind, i64 V.num, str V.s, .slice ak V.kids.length ck] 28)) := blk_below HX.out hb1
  have HY1 : Hid (w1.heap[Y]? = some (.cells #[i64 T.kind, i64 T.num, .slice an T.names.length cn, .slice at_ T.kids.length ct] 25)) := blk_below HY.out hb1
  clear hb1 HC1 zc0 zc1 zc2 zc3 yc0 yc1 yc2 yc3
  by_cases hE : E = 0
  · have HFC := hid (HFI.out w1 _ _ _ (HVd.out.under HB1.out) (HRd.out.under HB1.out))
    have HB3 : Hid (B = decide (L.length = 0)) := by show _ = _; rw [HBe.out, decide_eq_true hE]; rfl
    subst hE
    clear HBe HFI
    have zc0 : w1.cell? ⟨Z, 0, none⟩ = some (i64 V.kind) := blk_cell HX1.out 0
    have zc1 : w1.cell? ⟨Z, 1, none⟩ = some (i64 V.num) := blk_cell HX1.out 1
    have zc2 : w1.cell? ⟨Z, 2, none⟩ = some (str V.s) := blk_cell HX1.out 2
    have zc3 : w1.cell? ⟨Z, 3, none⟩ = some (.slice ak V.kids.length ck) := blk_cell HX1.out 3
    have yc0 : w1.cell? ⟨Y, 0, none⟩ = some (i64 T.kind) := blk_cell HY1.out 0
    have yc1 : w1.cell? ⟨Y, 1, none⟩ = some (i64 T.num) := blk_cell HY1.out 1
    have yc2 : w1.cell? ⟨Y, 2, none⟩ = some (.slice an T.names.length cn) := blk_cell HY1.out 2
    have yc3 : w1.cell? ⟨Y, 3, none⟩ = some (.slice at_ T.kids.length ct) := blk_cell HY1.out 3
    go_wp2_with fail
    refine HFC.out.mono ?_
    rintro e w2 ⟨ao, cap, rfl, hb2, hc2, hn2⟩
    have HB2 : Hid (Below w.heap.size w w2) := HB1.out.trans (hb2.mono HB1.out.size)
    clear hb2 hc2 hn2 HFC
    generalize L.length = M at *
    go_wp2_with fail
    go_ret
    refine ⟨?_, HB2.out⟩
    rw [HB3.out]
    congr 2
    by_cases h : M = 0
    · subst h; rfl
    · rw [decide_eq_false h]; simp; omega
  · have HB3 : Hid (B = false) := by show _ = _; rw [HBe.out, decide_eq_false hE]; rfl
    have qE : (E == 0) = false := by simpa using hE
    clear hE HBe HFI
    go_wp2_with fail
    go_ret
    exact ⟨by rw [HB3.out]; rfl, HB1.out⟩
end Go.Proofs.YtihbbgcpdgnhoaaGreatDoor
