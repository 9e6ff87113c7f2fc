/- CpuLoads' walk: a number that was read, a call's arguments and answer; no statement is proved in this text. -/
import Derived.Test.YtdhipmemcjajeaaDoorCpuL
import Derived.Test.YtdhipmemcjajeaaDoorStepsWalk
namespace Go.Proofs.YtdhipmemcjajeaaDoor
open Go.ChangeShapes Go.WideShapes Go.ChangeAt Go.RowKit

theorem wpList_new25 {ops : Array Oper} {rest : List Oper} {op : Oper} {a : Act} {W : World} {Q : Exit → Act → World → Prop} (hgd : op.guard = none) (x y : Operand) (ho : op.op = .store 25 x y) {b : Nat} {C : List Nat} (hC : Rg C) (hx : a.eval x = .pointer (some ⟨b, 0, none⟩)) (hy : a.eval y = cpV C) (ht : W.there b 0 9)
    (h : wpList Tryd.prog ops Q rest (a.put op.dst undef) (W.setCells b 0 (cpC C))) : wpList Tryd.prog ops Q (op :: rest) a W :=
  wpList_store_mid hgd 25 x y ho b 0 (cpC C).toArray hx hy (fin_there ht hC) (cpC_infoA hC) (cpC_one _) h
theorem z9_there (W : World) : (W.alloc Z9).there W.heap.size 0 9 := Row.there (C := z9) ⟨heap_at rfl _⟩ Rg.zero
theorem eqlN25 {C D : List Nat} (hC : C.length = 9) (hD : D.length = 9) (w : World) : (binOp .neq 25 (cpV C) (cpV D)).run Tryd.prog w = .ok (.bool (!decide (C = D))) w := by
  have h := eql25 hC hD w
  rw [run_eql_struct] at h
  rw [run_neq_struct]
  cases hr : (Op.equalIn 10000 25 (cpV C) (cpV D)).run Tryd.prog w with
  | ok b w' =>
    rw [hr] at h
    simp only [Result.andThen_ok, Result.ok.injEq, Value.bool.injEq] at h ⊢
    exact ⟨by rw [h.1], h.2⟩
  | halt x w' => rw [hr] at h; cases h
theorem eqIn25 {C D : List Nat} (hC : C.length = 9) (hD : D.length = 9) (h : C = D) (w : World) : (Op.equalIn 10000 25 (cpV C) (cpV D)).run Tryd.prog w = .ok true w := by
  have h2 := eql25 hC hD w
  rw [run_eql_struct] at h2
  cases hr : (Op.equalIn 10000 25 (cpV C) (cpV D)).run Tryd.prog w with
  | ok b w' =>
    rw [hr] at h2
    simp only [Result.andThen_ok, Result.ok.injEq, Value.bool.injEq] at h2 ⊢
    exact ⟨by rw [h2.1]; simp [h], h2.2⟩
  | halt x w' => rw [hr] at h2; cases h2
abbrev zV : Value := .agg #[u16 0, u16 0, u16 0, u16 0, u16 0, u16 0, u16 0, u16 0, u16 0]
set_option maxRecDepth 100000 in
set_option maxHeartbeats 3200000 in
theorem loads_walk (W : World) (C D : List Nat) (hC : Rg C) (hD : Rg D) (r v er : Int) (m v1 v2 v3 : Nat) (ht : Tab W) (hcase : (0 ≤ r ∧ r ≤ 7 ∧ 0 ≤ v ∧ v ≤ 65535 ∧ er = 0 ∧ D = C.set r.toNat v.toNat) ∨ ((r < 0 ∨ 7 < r ∨ v < 0 ∨ 65535 < v) ∧ er = 1 ∧ D = z9)) (hm : wd v = m) (e1 : C.getD 1 0 = v1) (e2 : C.getD 2 0 = v2) (e3 : C.getD 3 0 = v3)
    (h1 : ∀ w, Calls Tryd.prog 13 #[cpV C, i64 r, i64 v] w fun e w' => e = .returned (.tuple #[cpV D, i64 er]) ∧ Below w.heap.size w w') :
    Calls Tryd.prog 5 #[cpV C, i64 r, i64 v] W fun e w' => e = .returned (.bool true) ∧ Below W.heap.size W w' := by
  have hv1 : v1 < 65536 := by rw [← e1]; exact hC.get 1
  have hv2 : v2 < 65536 := by rw [← e2]; exact hC.get 2
  have hv3 : v3 < 65536 := by rw [← e3]; exact hC.get 3
  have hm16 : m < 65536 := by rw [← hm]; exact wd_lt _
  have hC0 : Rg (C.set 0 m) := hC.set _ _ hm16
  have HT : Hid (Tab W) := ht
  have H1 : Hid (∀ w, Calls Tryd.prog 13 #[cpV C, i64 r, i64 v] w fun e w' => e = .returned (.tuple #[cpV D, i64 er]) ∧ Below w.heap.size w w') := h1
  have H2 : Hid (∀ w, Calls Tryd.prog 14 #[cpV C] w fun e w' => e = .returned (.agg #[i64 v1, i64 v2, i64 v3]) ∧ Below w.heap.size w w') := fun w => args_ok w C hC v1 v2 v3 e1 e2 e3
  have H3 : Hid (∀ w, Calls Tryd.prog 15 #[cpV C, i64 v] w fun e w' => e = .returned (cpV (C.set 0 m)) ∧ Below w.heap.size w w') := fun w => answer_ok w C hC v m hm
  have HM : Hid (v.tmod 65536 = (m : Int) ∨ v.tmod 65536 = (m : Int) - 65536) := by
    have := tmod_two v 65536
    have e : (v % 65536) = (m : Int) := by rw [← hm]; unfold wd; omega
    show _ ∨ _
    omega
  have HE : Hid (C.getD 1 0 = v1 ∧ C.getD 2 0 = v2 ∧ C.getD 3 0 = v3) := ⟨e1, e2, e3⟩
  have HCA : Hid ((0 ≤ r ∧ r ≤ 7 ∧ 0 ≤ v ∧ v ≤ 65535 ∧ er = 0 ∧ D = C.set r.toNat v.toNat) ∨ ((r < 0 ∨ 7 < r ∨ v < 0 ∨ 65535 < v) ∧ er = 1 ∧ D = z9)) := hcase
  clear ht h1 hm e1 e2 e3 hcase
  go_enter Tryd.func5, Tryd.ntmps5
  go_upto_region 1 with fail
  have hr0 : Row (W.alloc (.cells (cpC C).toArray 25)) W.heap.size C := ⟨heap_at rfl _⟩
  have hb0 : Below W.heap.size W (W.alloc (.cells (cpC C).toArray 25)) := below_one W _
  generalize W.alloc (.cells (cpC C).toArray 25) = V at *
  have HR0 := hid hr0
  have HB0 := hid hb0
  clear hr0 hb0
  go_wp2_with (refine wpList_load_mid rfl 25 (.tmp 3) rfl W.heap.size 0 rfl (cpC C) _ (by exact HR0.out.range) Tryd.underlying25 rfl (cpC_info hC) ?_)
  refine (H1.out _).mono ?_
  rintro e w1 ⟨rfl, hb1⟩
  have HR1 : Hid (Row w1 W.heap.size C) := HR0.out.below hb1
  have HB1 : Hid (Below W.heap.size W w1) := HB0.out.trans (hb1.mono HB0.out.size)
  clear hb1 HR0 HB0
  go_upto_region 2 with (refine wpList_new25 rfl (.tmp 7) (.tmp 19) rfl hD rfl rfl (by exact z9_there w1) ?_)
  obtain ⟨n1, n2, -⟩ := new_row w1 hD
  generalize (w1.alloc Z9).setCells w1.heap.size 0 (cpC D) = V1 at *
  have HR2 : Hid (Row V1 W.heap.size C) := HR1.out.below n2
  have HB2 : Hid (Below W.heap.size W V1) := HB1.out.trans (n2.mono HB1.out.size)
  have HP2 : Hid (Row V1 w1.heap.size D) := n1
  generalize w1.heap.size = p at *
  clear n1 n2 HR1 HB1
  go_wp2_with (refine wpList_load_mid rfl 25 (.tmp 3) rfl W.heap.size 0 rfl (cpC C) _ (by exact HR2.out.range) Tryd.underlying25 rfl (cpC_info hC) ?_)
  refine (H2.out _).mono ?_
  rintro e w2 ⟨rfl, hb2⟩
  have HR3 : Hid (Row w2 W.heap.size C) := HR2.out.below hb2
  have HP3 : Hid (Row w2 p D) := HP2.out.below hb2
  have HB3 : Hid (Below W.heap.size W w2) := HB2.out.trans (hb2.mono HB2.out.size)
  clear hb2 HR2 HB2 HP2
  go_upto_region 3 with fail
  have ha := heap_at (w := w2) rfl (.cells #[i64 v1, i64 v2, i64 v3] 45)
  have n2 := below_one w2 (.cells #[i64 v1, i64 v2, i64 v3] 45)
  generalize w2.alloc (.cells #[i64 v1, i64 v2, i64 v3] 45) = V2 at *
  have HR4 : Hid (Row V2 W.heap.size C) := HR3.out.below n2
  have HP4 : Hid (Row V2 p D) := HP3.out.below n2
  have HB4 : Hid (Below W.heap.size W V2) := HB3.out.trans (n2.mono HB3.out.size)
  have HA4 : Hid (V2.heap[w2.heap.size]? = some (.cells #[i64 v1, i64 v2, i64 v3] 45 (0, 0))) := ha
  generalize w2.heap.size = q at *
  clear ha n2 HR3 HP3 HB3
  go_wp2_with (refine wpList_load_mid rfl 25 (.tmp 3) rfl W.heap.size 0 rfl (cpC C) _ (by exact HR4.out.range) Tryd.underlying25 rfl (cpC_info hC) ?_)
  refine (H3.out _).mono ?_
  rintro e w3 ⟨rfl, hb3⟩
  have HR5 : Hid (Row w3 W.heap.size C) := HR4.out.below hb3
  have HP5 : Hid (Row w3 p D) := HP4.out.below hb3
  have HB5 : Hid (Below W.heap.size W w3) := HB4.out.trans (hb3.mono HB4.out.size)
  have HA5 : Hid (w3.heap[q]? = some (.cells #[i64 v1, i64 v2, i64 v3] 45 (0, 0))) := (hb3.block _ (Array.getElem?_eq_some_iff.1 HA4.out).1).trans HA4.out
  clear hb3 HR4 HP4 HB4 HA4
  go_upto_region 4 with (refine wpList_new25 rfl (.tmp 10) (.tmp 25) rfl hC0 rfl rfl (by exact z9_there w3) ?_)
  obtain ⟨n1, n2, -⟩ := new_row w3 hC0
  generalize (w3.alloc Z9).setCells w3.heap.size 0 (cpC (C.set 0 m)) = V3 at *
  have HR6 : Hid (Row V3 W.heap.size C) := HR5.out.below n2
  have HP6 : Hid (Row V3 p D) := HP5.out.below n2
  have HB6 : Hid (Below W.heap.size W V3) := HB5.out.trans (n2.mono HB5.out.size)
  have HA6 : Hid (V3.heap[q]? = some (.cells #[i64 v1, i64 v2, i64 v3] 45 (0, 0))) := (n2.block _ (Array.getElem?_eq_some_iff.1 HA5.out).1).trans HA5.out
  have HX6 : Hid (Row V3 w3.heap.size (C.set 0 m)) := n1
  generalize w3.heap.size = t at *
  clear n1 n2 HR5 HP5 HB5 HA5
  go_upto_region 5 with fail
  go_upto_if 29 with fail
  go_cut [11] (fun u wx => u = i64 m ∧ wx = V3)
  case first =>
    rcases HM.out with hh | hh
    · rw [hh]
      go_wp2_with fail
      go_meet
      exact ⟨rfl, rfl⟩
    · rw [hh]
      go_wp2_with fail
      go_meet
      exact ⟨congrArg i64 (by omega), rfl⟩
  case rest =>
    obtain ⟨rfl, rfl⟩ := hcut
    go_upto_region 8 with (first
      | (refine wpList_load_mid rfl 25 (.tmp 3) rfl W.heap.size 0 rfl (cpC C) _ (by exact HR6.out.range) Tryd.underlying25 rfl (cpC_info hC) ?_)
      | (refine wpList_new25 rfl (.tmp 12) (.tmp 32) rfl hC rfl rfl (by exact z9_there wc) ?_))
    obtain ⟨n1, n2, -⟩ := new_row wc hC
    generalize (wc.alloc Z9).setCells wc.heap.size 0 (cpC C) = V4 at *
    have hrx := n1.set 0 m
    have c0 := n1.cell hC 0 (by omega)
    have f0 := n1.free 0
    have hR7 := HR6.out.below n2
    have hP7 := HP6.out.below n2
    have hX7 := HX6.out.below n2
    have hA7 : V4.heap[q]? = some (.cells #[i64 v1, i64 v2, i64 v3] 45 (0, 0)) := (n2.block _ (Array.getElem?_eq_some_iff.1 HA6.out).1).trans HA6.out
    have hB7 : Below W.heap.size W V4 := HB6.out.trans (n2.mono HB6.out.size)
    have l1 : W.heap.size < wc.heap.size := HR6.out.lt
    have l2 : p < wc.heap.size := HP6.out.lt
    have l3 : t < wc.heap.size := HX6.out.lt
    have l4 : q < wc.heap.size := (Array.getElem?_eq_some_iff.1 HA6.out).1
    generalize wc.heap.size = y at *
    have HR8 := hid (hR7.other (b' := y) (j := 0) (by omega) (.int .u16 m))
    have HP8 := hid (hP7.other (b' := y) (j := 0) (by omega) (.int .u16 m))
    have HX8 := hid (hX7.other (b' := y) (j := 0) (by omega) (.int .u16 m))
    have HA8 := hid ((Below.heap_setCell V4 ⟨y, 0, none⟩ (.int .u16 m) q (by show q ≠ y; omega)).trans hA7)
    have HB8 : Hid (Below W.heap.size W (V4.setCell ⟨y, 0, none⟩ (.int .u16 m))) := hB7.setCell (by show W.heap.size ≤ y; omega) _
    have HY8 := hid hrx
    clear n1 n2 hrx hR7 hP7 hX7 hA7 hB7 HR6 HP6 HX6 HA6 HB6 l1 l2 l3 l4
    go_upto_region 9 with fail
    have hb8 := HB8.out
    have hR8 := HR8.out
    have hP8 := HP8.out
    have hX8 := HX8.out
    have hA8 := HA8.out
    have hY8 := HY8.out
    clear HR8 HP8 HX8 HA8 HY8 HB8 c0 f0
    generalize V4.setCell ⟨y, 0, none⟩ (.int .u16 m) = V5 at *
    have a0 : V5.cell? ⟨q, 0, none⟩ = some (i64 v1) := by rw [cell_of_row _ _ _ _ 45 (0, 0) hA8]; rfl
    have a1 : V5.cell? ⟨q, 1, none⟩ = some (i64 v2) := by rw [cell_of_row _ _ _ _ 45 (0, 0) hA8]; rfl
    have a2 : V5.cell? ⟨q, 2, none⟩ = some (i64 v3) := by rw [cell_of_row _ _ _ _ 45 (0, 0) hA8]; rfl
    have b1 := hR8.cell hC 1 (by omega)
    have b2 := hR8.cell hC 2 (by omega)
    have b3 := hR8.cell hC 3 (by omega)
    rw [HE.out.1] at b1
    rw [HE.out.2.1] at b2
    rw [HE.out.2.2] at b3
    have HR8 := hid hR8
    have HP8 := hid hP8
    have HX8 := hid hX8
    have HY8 := hid hY8
    have HB8 := hid hb8
    have hq0 := fun w => eqIn25 hC0.len hC0.len rfl w
    clear hR8 hP8 hX8 hA8 hY8 hb8
    go_upto_region 11 with (first
      | (refine wpList_load_mid rfl 25 (.tmp 10) rfl t 0 rfl (cpC (C.set 0 m)) _ (by exact HX8.out.range) Tryd.underlying25 rfl (cpC_info hC0) ?_)
      | (refine wpList_load_mid rfl 25 (.tmp 12) rfl y 0 rfl (cpC (C.set 0 m)) _ (by exact HY8.out.range) Tryd.underlying25 rfl (cpC_info hC0) ?_))
    clear a0 a1 a2 b1 b2 b3 hq0 HX8 HY8 H1 H2 H3 HM HE
    have HCB := HCA
    rcases HCA.out with ⟨c1, c2, c3, c4, rfl, hDC⟩ | ⟨hc, rfl, hDC⟩
    · obtain ⟨a, rfl⟩ := Int.eq_ofNat_of_zero_le c1
      obtain ⟨b, rfl⟩ := Int.eq_ofNat_of_zero_le c3
      rw [Int.toNat_natCast, Int.toNat_natCast] at hDC
      have hqd := fun w => eqIn25 hD.len (by rw [← hDC]; exact hD.len) hDC w
      have HDC := hid hDC
      have hCb : Rg (C.set a b) := by rw [← hDC]; exact hD
      clear hDC HCA HCB
      have c2' : (a : Int) < 8 := by omega
      go_upto_region 14 with (first
        | (refine wpList_load_mid rfl 25 (.tmp 3) rfl W.heap.size 0 rfl (cpC C) _ (by exact HR8.out.range) Tryd.underlying25 rfl (cpC_info hC) ?_)
        | (refine wpList_new25 rfl (.tmp 13) (.tmp 91) rfl hC rfl rfl (by exact z9_there V5) ?_))
      obtain ⟨n1, n2, -⟩ := new_row V5 hC
      generalize (V5.alloc Z9).setCells V5.heap.size 0 (cpC C) = V6 at *
      have hra := n1.set a b
      have ca := n1.cell hC a (by omega)
      have fa := n1.free a
      have hP9 := HP8.out.below n2
      have hB9 : Below W.heap.size W V6 := HB8.out.trans (n2.mono HB8.out.size)
      have l1 : W.heap.size < V5.heap.size := HR8.out.lt
      have l2 : p < V5.heap.size := HP8.out.lt
      generalize V5.heap.size = z at *
      have HP10 := hid (hP9.other (b' := z) (j := a) (by omega) (.int .u16 b))
      have HB10 : Hid (Below W.heap.size W (V6.setCell ⟨z, a, none⟩ (.int .u16 b))) := hB9.setCell (by show W.heap.size ≤ z; omega) _
      have HZ10 := hid hra
      clear n1 n2 hra hP9 hB9 l1 l2 HP8 HB8 HR8
      go_upto_region 15 with fail
      have hp10 := HP10.out
      have hb10 := HB10.out
      have hz10 := HZ10.out
      clear HP10 HB10 HZ10 ca fa
      generalize V6.setCell ⟨z, a, none⟩ (.int .u16 b) = V7 at *
      have HP11 := hid hp10
      have HB11 := hid hb10
      have HZ11 := hid hz10
      clear hp10 hb10 hz10
      go_wp2_with (first
        | (refine wpListG_load (by rfl) 25 (.tmp 7) rfl p 0 rfl (cpC D) _ (by exact HP11.out.range) Tryd.underlying25 rfl (cpC_info hD) ?_)
        | (refine wpListG_load (by rfl) 25 (.tmp 13) rfl z 0 rfl (cpC (C.set a b)) _ (by exact HZ11.out.range) Tryd.underlying25 rfl (cpC_info hCb) ?_)
        | (go_at_call 8; refine (sub_ok _ (HT.out.below HB11.out)).mono ?_; rintro e w7 ⟨rfl, hb7⟩; have HB12 := hid hb7; clear hb7))
      go_ret
      exact ⟨rfl, HB11.out.trans (HB12.out.mono HB11.out.size)⟩
    · have hqd : ∀ w, (Op.equalIn 10000 25 (cpV D) zV).run Tryd.prog w = .ok true w := fun w => eqIn25 (D := z9) hD.len rfl hDC w
      have HDC := hid hDC
      clear hDC HCA HCB HR8
      rcases (show r < 0 ∨ (0 ≤ r ∧ 7 < r) ∨ (0 ≤ r ∧ r ≤ 7 ∧ v < 0) ∨ (0 ≤ r ∧ r ≤ 7 ∧ 0 ≤ v ∧ 65535 < v) by omega) with h | ⟨h1, h2⟩ | ⟨h1, h2, h3⟩ | ⟨h1, h2, h3, h4⟩
      all_goals
        clear hc
        go_wp2_with (first
          | (refine wpListG_load (by rfl) 25 (.tmp 7) rfl p 0 rfl (cpC D) _ (by exact HP8.out.range) Tryd.underlying25 rfl (cpC_info hD) ?_)
          | (go_at_call 8; refine (sub_ok _ (HT.out.below HB8.out)).mono ?_; rintro e w7 ⟨rfl, hb7⟩; have HB12 := hid hb7; clear hb7))
        go_ret
        exact ⟨rfl, HB8.out.trans (HB12.out.mono HB8.out.size)⟩
theorem loads_any (W : World) (ht : Tab W) (C : List Nat) (hC : Rg C) (r v : Int) : Calls Tryd.prog 5 #[cpV C, i64 r, i64 v] W fun e w' => e = .returned (.bool true) ∧ Below W.heap.size W w' := by
  have hD : Rg (ldC C r v) := by
    unfold ldC
    split
    · exact hC.set _ _ (by omega)
    · exact Rg.zero
  refine loads_walk W C (ldC C r v) hC hD r v (ldE r v) _ _ _ _ ht ?_ rfl rfl rfl rfl (fun w => loaded_any w C hC r v)
  unfold ldC ldE
  by_cases h : 0 ≤ r ∧ r ≤ 7 ∧ 0 ≤ v ∧ v ≤ 65535
  · left
    rw [if_pos h, if_pos h]
    exact ⟨h.1, h.2.1, h.2.2.1, h.2.2.2, rfl, rfl⟩
  · right
    rw [if_neg h, if_neg h]
    exact ⟨by omega, rfl, rfl⟩
end Go.Proofs.YtdhipmemcjajeaaDoor
