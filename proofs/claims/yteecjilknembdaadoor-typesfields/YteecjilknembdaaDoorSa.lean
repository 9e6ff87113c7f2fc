/- types' sameAlone and Same: their contracts; no statement is proved in this text. -/
import Derived.Test.YteecjilknembdaaDoorSm0
namespace Go.Proofs.YteecjilknembdaaDoor
open Go.ChangeShapes Go.WideShapes Go.ChangeAt Go.RowKit Go.Deep
attribute [local go_sem ↓] Go.wp_at_zero Go.wp_at_succ

theorem heap_at2 (w : World) (o : Obj) (k : Nat) (hk : k = w.heap.size) : (w.alloc o).heap[k]? = some o := by subst hk; exact heap_last w o
set_option maxRecDepth 100000 in
set_option maxHeartbeats 6400000 in
theorem sameAlone_ok (T U : Ty) (w : World) (S : Nat → Prop) (nv kv mv lv : Value) (hR : Rd w S T nv kv) (hQ : Rd w S U mv lv) : Calls Tryd.prog 34 #[tyV T.kind T.num nv kv, tyV U.kind U.num mv lv] w fun e w' => e = .returned (.bool (aloneS T U)) ∧ Below w.heap.size w w' := by
  obtain ⟨R, hRe⟩ : ∃ R, R = aloneS T U := ⟨_, rfl⟩
  have HRe : Hid (R = (decide (T.kind = U.kind) && decide (T.num = U.num) && decide (T.names = U.names) && decide (T.kids.length = U.kids.length))) := hRe
  rw [← hRe]
  clear hRe
  have HEQ : Hid (∀ W, Below w.heap.size w W → Calls Tryd.prog 47 #[nv, mv] W fun e w' => e = .returned (.bool (decide (T.names = U.names))) ∧ ∃ n, w' = W.drewN n) := fun W hW => by
    have h1 := hR.under hW
    have h2 := hQ.under hW
    obtain ⟨k, n, l, ks⟩ := T
    obtain ⟨k', n', l', ks'⟩ := U
    exact eqS_ok h1.kid.1 h2.kid.1
  have hK : T.kids.length ≤ 9223372036854775807 := by obtain ⟨k, n, l, ks⟩ := T; have := hR.kid.2.1; unfold maxLen at this; exact this
  have hL : U.kids.length ≤ 9223372036854775807 := by obtain ⟨k, n, l, ks⟩ := U; have := hQ.kid.2.1; unfold maxLen at this; exact this
  obtain ⟨an, cn, rfl, ak, ck, rfl⟩ := hR.form
  obtain ⟨am, cm, rfl, al, cl, rfl⟩ := hQ.form
  have HX : Hid (((w.alloc (.cells #[i64 T.kind, i64 T.num, .slice an T.names.length cn, .slice ak T.kids.length ck] 25)).alloc (.cells #[i64 U.kind, i64 U.num, .slice am U.names.length cm, .slice al U.kids.length cl] 25)).heap[w.heap.size]? = some (.cells #[i64 T.kind, i64 T.num, .slice an T.names.length cn, .slice ak T.kids.length ck] 25)) := blk_alloc (heap_last w _) _
  have HY : Hid (((w.alloc (.cells #[i64 T.kind, i64 T.num, .slice an T.names.length cn, .slice ak T.kids.length ck] 25)).alloc (.cells #[i64 U.kind, i64 U.num, .slice am U.names.length cm, .slice al U.kids.length cl] 25)).heap[w.heap.size + 1]? = some (.cells #[i64 U.kind, i64 U.num, .slice am U.names.length cm, .slice al U.kids.length cl] 25)) := heap_at2 _ _ _ (by simp)
  have HB : Hid (Below w.heap.size w ((w.alloc (.cells #[i64 T.kind, i64 T.num, .slice an T.names.length cn, .slice ak T.kids.length ck] 25)).alloc (.cells #[i64 U.kind, i64 U.num, .slice am U.names.length cm, .slice al U.kids.length cl] 25))) := (below_one w _).trans ((below_one _ _).mono (by simp))
  clear hR hQ
  go_enter Tryd.func34, Tryd.ntmps34
  go_upto_region 1 with fail
  generalize (w.alloc (.cells #[i64 T.kind, i64 T.num, .slice an T.names.length cn, .slice ak T.kids.length ck] 25)).alloc (.cells #[i64 U.kind, i64 U.num, .slice am U.names.length cm, .slice al U.kids.length cl] 25) = V at *
  obtain ⟨Z, hZ⟩ : ∃ Z, Z = w.heap.size := ⟨_, rfl⟩
  obtain ⟨Y, hY⟩ : ∃ Y, Y = w.heap.size + 1 := ⟨_, rfl⟩
  rw [← hZ] at HX
  rw [← hY] at HY
  rw [← hY, ← hZ]
  clear hZ hY
  have HCE := hid (HEQ.out V HB.out)
  have yc0 : V.cell? ⟨Z, 0, none⟩ = some (i64 T.kind) := blk_cell HX.out 0
  have yc1 : V.cell? ⟨Z, 1, none⟩ = some (i64 T.num) := blk_cell HX.out 1
  have yc2 : V.cell? ⟨Z, 2, none⟩ = some (.slice an T.names.length cn) := blk_cell HX.out 2
  have yc3 : V.cell? ⟨Z, 3, none⟩ = some (.slice ak T.kids.length ck) := blk_cell HX.out 3
  have xc0 : V.cell? ⟨Y, 0, none⟩ = some (i64 U.kind) := blk_cell HY.out 0
  have xc1 : V.cell? ⟨Y, 1, none⟩ = some (i64 U.num) := blk_cell HY.out 1
  have xc2 : V.cell? ⟨Y, 2, none⟩ = some (.slice am U.names.length cm) := blk_cell HY.out 2
  have xc3 : V.cell? ⟨Y, 3, none⟩ = some (.slice al U.kids.length cl) := blk_cell HY.out 3
  generalize decide (T.names = U.names) = NE at *
  generalize T.kids.length = KT at *
  generalize U.kids.length = KU at *
  by_cases h1 : T.kind = U.kind
  · by_cases h2 : T.num = U.num
    · have HR2 : Hid (R = (NE && decide (KT = KU))) := by show _ = _; rw [HRe.out, decide_eq_true h1, decide_eq_true h2]; rfl
      have e1 : (T.kind == U.kind) = true := by simpa using h1
      have e2 : (T.num == U.num) = true := by simpa using h2
      have H1 := hid h1
      have H2 := hid h2
      clear h1 h2 HRe HEQ
      go_wp2_with fail
      refine HCE.out.mono ?_
      rintro e w2 ⟨rfl, nd, rfl⟩
      have HB2 : Hid (Below w.heap.size w (V.drewN nd)) := below_drewN HB.out nd
      have z3 : (V.drewN nd).cell? ⟨Z, 3, none⟩ = some (.slice ak KT ck) := yc3
      have x3 : (V.drewN nd).cell? ⟨Y, 3, none⟩ = some (.slice al KU cl) := xc3
      cases NE with
      | false =>
        go_wp2_with fail
        go_ret
        exact ⟨by rw [HR2.out]; rfl, HB2.out⟩
      | true =>
        by_cases h4 : KT = KU
        · subst h4
          go_wp2_with fail
          go_ret
          exact ⟨by rw [HR2.out]; simp, HB2.out⟩
        · have e4 : ((KT : Int) == KU) = false := by simp; omega
          have HR3 : Hid (R = false) := by show _ = _; rw [HR2.out, decide_eq_false h4]; rfl
          clear h4
          go_wp2_with fail
          go_ret
          exact ⟨by rw [HR3.out]; rfl, HB2.out⟩
    · have e1 : (T.kind == U.kind) = true := by simpa using h1
      have e2 : (T.num == U.num) = false := by simpa using h2
      have HR3 : Hid (R = false) := by show _ = _; rw [HRe.out, decide_eq_false h2]; simp
      have H1 := hid h1
      have H2 := hid h2
      clear h1 h2
      go_wp2_with fail
      go_ret
      exact ⟨by rw [HR3.out]; rfl, HB.out⟩
  · have e1 : (T.kind == U.kind) = false := by simpa using h1
    have HR3 : Hid (R = false) := by show _ = _; rw [HRe.out, decide_eq_false h1]; simp
    have H1 := hid h1
    clear h1
    go_wp2_with fail
    go_ret
    exact ⟨by rw [HR3.out]; rfl, HB.out⟩
end Go.Proofs.YteecjilknembdaaDoor
