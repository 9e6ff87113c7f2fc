/- imagoref15's Plain and Check: their contracts; no statement is proved in this text. -/
import Derived.Test.YteecjilknembdaaDoorTxr
import Derived.Test.YteecjilknembdaaDoorDg
namespace Go.Proofs.YteecjilknembdaaDoor
open Go.ChangeShapes Go.WideShapes Go.ChangeAt Go.RowKit Go.Deep
attribute [local go_sem ↓] Go.wp_at_zero Go.wp_at_succ

theorem join_snoc : ∀ (l : List Bs) (x : Bs), l ≠ [] → Lib.join (l ++ [x]) [44] = Lib.join l [44] ++ 44 :: x
  | [a], x, _ => by simp [Lib.join, List.intercalate]
  | a :: b :: r, x, _ => by
    have ih := join_snoc (b :: r) x (by simp)
    have e : ∀ s : List Bs, s ≠ [] → Lib.join (a :: s) [44] = a ++ 44 :: Lib.join s [44] := by
      intro s hs
      cases s with
      | nil => exact absurd rfl hs
      | cons y t => simp only [Lib.join, List.intercalate, List.intersperse_cons_cons, List.flatten_cons]; rfl
    rw [List.cons_append, e ((b :: r) ++ [x]) (by simp), e (b :: r) (by simp), ih]
    simp
/-- What Plain has of the first fields. -/
def accT (FL : List Bs) (i : Nat) : Bs := Lib.join (FL.take i) [44]
theorem accT_step (FL : List Bs) (i : Nat) (x : Bs) (h : FL.take (i + 1) = FL.take i ++ [x]) (hi : i ≤ FL.length) : accT FL (i + 1) = if i = 0 then x else accT FL i ++ 44 :: x := by
  unfold accT
  rw [h]
  by_cases h0 : i = 0
  · subst h0; simp [Lib.join_one]
  · rw [if_neg h0]
    exact join_snoc _ x (fun e => h0 (by have := congrArg List.length e; rw [List.length_take, List.length_nil] at this; omega))
structure S3 (Z b off : Nat) (oZ : Obj) (l : List Value) (W : World) : Prop where
  z : W.heap[Z]? = some oZ
  r : W.rangeAt b off l
  lt : b < W.heap.size
theorem S3.below {Z b off : Nat} {oZ : Obj} {l : List Value} {W W' : World} (h : S3 Z b off oZ l W) (hb : Below W.heap.size W W') : S3 Z b off oZ l W' :=
  ⟨blk_below h.z hb, range_keep h.r (hb.block b h.lt), Nat.lt_of_lt_of_le h.lt hb.size⟩
set_option maxRecDepth 100000 in
set_option maxHeartbeats 3200000 in
theorem plain_1 (n : Int) (w : World) (S : Nat → Prop) (nv kv : Value) (h0 : 0 ≤ n) (h1 : n ≤ 255) (hR : Rd w S (.mk 1 n [] []) nv kv) : Calls Tryd.prog 14 #[tyV 1 n nv kv] w fun e w' => e = .returned (str (Ty.mk 1 n [] []).txt) ∧ Below w.heap.size w w' := by
  have HRES : Hid (str (Ty.mk 1 n [] []).txt = .string ((⟨#[105]⟩ : ByteArray) ++ ⟨(Lib.itoa n).toArray⟩)) := by
    show _ = _
    rw [txt_1]
    exact congrArg Value.string (ba_append [105] (Lib.itoa n)).symm
  have hle := (itoa_ok3 n h0 h1).le
  generalize (Ty.mk 1 n [] []).txt = TX at *
  obtain ⟨k, hk⟩ : ∃ k : Int, k = 1 := ⟨_, rfl⟩
  obtain ⟨names, hnm⟩ : ∃ names : List Bs, names = [] := ⟨_, rfl⟩
  obtain ⟨kids, hkd⟩ : ∃ kids : List Ty, kids = [] := ⟨_, rfl⟩
  rw [← hk, ← hnm, ← hkd] at hR
  rw [← hk]
  have HKe := hid hk
  have HNe := hid hnm
  have HKd := hid hkd
  clear hk hnm hkd
  have HRd : Hid (Rd w S (.mk k n names kids) nv kv) := hR
  obtain ⟨⟨an, cn, rfl, hnl, hz1, hz2⟩, hkl, ak, ck, rfl, hz3⟩ := hR.kid
  clear hz1 hz2 hz3
  unfold maxLen at hnl hkl
  have HX : Hid ((w.alloc (.cells #[i64 k, i64 n, .slice an names.length cn, .slice ak kids.length ck] 37)).heap[w.heap.size]? = some (.cells #[i64 k, i64 n, .slice an names.length cn, .slice ak kids.length ck] 37)) := heap_last w _
  have HBV : Hid (Below w.heap.size w (w.alloc (.cells #[i64 k, i64 n, .slice an names.length cn, .slice ak kids.length ck] 37))) := below_one w _
  clear hR 
  go_enter Tryd.func14, Tryd.ntmps14
  go_upto_region 1 with fail
  obtain ⟨Z, hZ⟩ : ∃ Z, Z = w.heap.size := ⟨_, rfl⟩
  rw [← hZ] at HX ⊢
  generalize w.alloc (.cells #[i64 k, i64 n, .slice an names.length cn, .slice ak kids.length ck] 37) = V at *
  have y0 : V.cell? ⟨Z, 0, none⟩ = some (i64 k) := blk_cell HX.out 0
  have y1 : V.cell? ⟨Z, 1, none⟩ = some (i64 n) := blk_cell HX.out 1
  have y2 : V.cell? ⟨Z, 2, none⟩ = some (.slice an names.length cn) := blk_cell HX.out 2
  have y3 : V.cell? ⟨Z, 3, none⟩ = some (.slice ak kids.length ck) := blk_cell HX.out 3
  have hZV : Z < V.heap.size := blk_lt HX.out
  have HZ := hid hZ
  clear hZ
  have HIT := hid (digits_i n h0 h1 V)
  have hbz := bz (Lib.itoa n)
  generalize Lib.itoa n = IT at *
  have hk := HKe.out
  subst hk
  go_wp2_with fail
  refine HIT.out.mono ?_
  rintro e w1 ⟨rfl, hb1⟩
  have HB1 : Hid (Below w.heap.size w w1) := HBV.out.trans (hb1.mono HBV.out.size)
  clear hb1 y0 y1 y2 y3
  go_wp2_with fail
  go_ret
  exact ⟨by rw [HRES.out]; rfl, HB1.out⟩
set_option maxRecDepth 100000 in
set_option maxHeartbeats 3200000 in
theorem plain_2 (n : Int) (w : World) (S : Nat → Prop) (nv kv : Value) (h0 : 0 ≤ n) (h1 : n ≤ 255) (hR : Rd w S (.mk 2 n [] []) nv kv) : Calls Tryd.prog 14 #[tyV 2 n nv kv] w fun e w' => e = .returned (str (Ty.mk 2 n [] []).txt) ∧ Below w.heap.size w w' := by
  have HRES : Hid (str (Ty.mk 2 n [] []).txt = .string ((⟨#[116]⟩ : ByteArray) ++ ⟨(Lib.itoa n).toArray⟩)) := by
    show _ = _
    rw [txt_2]
    exact congrArg Value.string (ba_append [116] (Lib.itoa n)).symm
  have hle := (itoa_ok3 n h0 h1).le
  generalize (Ty.mk 2 n [] []).txt = TX at *
  obtain ⟨k, hk⟩ : ∃ k : Int, k = 2 := ⟨_, rfl⟩
  obtain ⟨names, hnm⟩ : ∃ names : List Bs, names = [] := ⟨_, rfl⟩
  obtain ⟨kids, hkd⟩ : ∃ kids : List Ty, kids = [] := ⟨_, rfl⟩
  rw [← hk, ← hnm, ← hkd] at hR
  rw [← hk]
  have HKe := hid hk
  have HNe := hid hnm
  have HKd := hid hkd
  clear hk hnm hkd
  have HRd : Hid (Rd w S (.mk k n names kids) nv kv) := hR
  obtain ⟨⟨an, cn, rfl, hnl, hz1, hz2⟩, hkl, ak, ck, rfl, hz3⟩ := hR.kid
  clear hz1 hz2 hz3
  unfold maxLen at hnl hkl
  have HX : Hid ((w.alloc (.cells #[i64 k, i64 n, .slice an names.length cn, .slice ak kids.length ck] 37)).heap[w.heap.size]? = some (.cells #[i64 k, i64 n, .slice an names.length cn, .slice ak kids.length ck] 37)) := heap_last w _
  have HBV : Hid (Below w.heap.size w (w.alloc (.cells #[i64 k, i64 n, .slice an names.length cn, .slice ak kids.length ck] 37))) := below_one w _
  clear hR 
  go_enter Tryd.func14, Tryd.ntmps14
  go_upto_region 1 with fail
  obtain ⟨Z, hZ⟩ : ∃ Z, Z = w.heap.size := ⟨_, rfl⟩
  rw [← hZ] at HX ⊢
  generalize w.alloc (.cells #[i64 k, i64 n, .slice an names.length cn, .slice ak kids.length ck] 37) = V at *
  have y0 : V.cell? ⟨Z, 0, none⟩ = some (i64 k) := blk_cell HX.out 0
  have y1 : V.cell? ⟨Z, 1, none⟩ = some (i64 n) := blk_cell HX.out 1
  have y2 : V.cell? ⟨Z, 2, none⟩ = some (.slice an names.length cn) := blk_cell HX.out 2
  have y3 : V.cell? ⟨Z, 3, none⟩ = some (.slice ak kids.length ck) := blk_cell HX.out 3
  have hZV : Z < V.heap.size := blk_lt HX.out
  have HZ := hid hZ
  clear hZ
  have HIT := hid (digits_i n h0 h1 V)
  have hbz := bz (Lib.itoa n)
  generalize Lib.itoa n = IT at *
  have hk := HKe.out
  subst hk
  go_wp2_with fail
  refine HIT.out.mono ?_
  rintro e w1 ⟨rfl, hb1⟩
  have HB1 : Hid (Below w.heap.size w w1) := HBV.out.trans (hb1.mono HBV.out.size)
  clear hb1 y0 y1 y2 y3
  go_wp2_with fail
  go_ret
  exact ⟨by rw [HRES.out]; rfl, HB1.out⟩
set_option maxRecDepth 100000 in
set_option maxHeartbeats 6400000 in
theorem plain_3 (n : Int) (T : Ty) (w : World) (S : Nat → Prop) (nv kv : Value) (h0 : 0 ≤ n) (h1 : n ≤ 255) (hR : Rd w S (.mk 3 n [] [T]) nv kv) (hln : T.txt.length ≤ 100000)
    (hih : ∀ (w : World) (nv kv : Value), Rd w S T nv kv → Calls Tryd.prog 14 #[tyV T.kind T.num nv kv] w fun e w' => e = .returned (str T.txt) ∧ Below w.heap.size w w') : Calls Tryd.prog 14 #[tyV 3 n nv kv] w fun e w' => e = .returned (str (Ty.mk 3 n [] [T]).txt) ∧ Below w.heap.size w w' := by
  have HRES : Hid (str (Ty.mk 3 n [] [T]).txt = .string (((((⟨#[108]⟩ : ByteArray) ++ ⟨(Lib.itoa n).toArray⟩) ++ ⟨#[40]⟩) ++ ⟨T.txt.toArray⟩) ++ ⟨#[41]⟩)) := by
    show _ = _
    rw [txt_3]
    refine congrArg Value.string ?_
    apply ByteArray.ext
    simp
  have HIH := hid hih
  have hle := (itoa_ok3 n h0 h1).le
  generalize (Ty.mk 3 n [] [T]).txt = TX at *
  obtain ⟨names, hnm⟩ : ∃ names : List Bs, names = [] := ⟨_, rfl⟩
  obtain ⟨kids, hkd⟩ : ∃ kids : List Ty, kids = [T] := ⟨_, rfl⟩
  rw [← hnm, ← hkd] at hR
  have HNe := hid hnm
  have HKd := hid hkd
  clear hnm hkd
  have HRd : Hid (Rd w S (.mk 3 n names kids) nv kv) := hR
  obtain ⟨⟨an, cn, rfl, hnl, hz1, hz2⟩, hkl, ak, ck, rfl, hz3⟩ := hR.kid
  clear hz1 hz2 hz3
  unfold maxLen at hnl hkl
  have HX : Hid ((w.alloc (.cells #[i64 3, i64 n, .slice an names.length cn, .slice ak kids.length ck] 37)).heap[w.heap.size]? = some (.cells #[i64 3, i64 n, .slice an names.length cn, .slice ak kids.length ck] 37)) := heap_last w _
  have HBV : Hid (Below w.heap.size w (w.alloc (.cells #[i64 3, i64 n, .slice an names.length cn, .slice ak kids.length ck] 37))) := below_one w _
  clear hR hih
  go_enter Tryd.func14, Tryd.ntmps14
  go_upto_region 1 with fail
  obtain ⟨Z, hZ⟩ : ∃ Z, Z = w.heap.size := ⟨_, rfl⟩
  rw [← hZ] at HX ⊢
  generalize w.alloc (.cells #[i64 3, i64 n, .slice an names.length cn, .slice ak kids.length ck] 37) = V at *
  have y0 : V.cell? ⟨Z, 0, none⟩ = some (i64 3) := blk_cell HX.out 0
  have y1 : V.cell? ⟨Z, 1, none⟩ = some (i64 n) := blk_cell HX.out 1
  have y2 : V.cell? ⟨Z, 2, none⟩ = some (.slice an names.length cn) := blk_cell HX.out 2
  have y3 : V.cell? ⟨Z, 3, none⟩ = some (.slice ak kids.length ck) := blk_cell HX.out 3
  have hZV : Z < V.heap.size := blk_lt HX.out
  have HZ := hid hZ
  clear hZ
  obtain ⟨IT, hIT⟩ : ∃ IT, IT = Lib.itoa n := ⟨_, rfl⟩
  rw [← hIT] at HRES hle
  have HITe : Hid (Lib.itoa n = IT) := hIT.symm
  have hbz := bz IT
  have hbt := bz T.txt
  have hk1 : kids.length = 1 := by rw [HKd.out]; rfl
  have HK1 := hid hk1
  clear hk1
  obtain ⟨_, _, ak1, ck1, he, hkid⟩ := (HRd.out.under HBV.out).kid
  cases he
  obtain ⟨b, off, nv2, kv2, rfl, hbS, hblt, hr, hrd⟩ := hkid 0 (by have := HK1.out; omega)
  have hT0 : kids[0]'(by have := HK1.out; omega) = T := by have := HKd.out; subst this; rfl
  rw [hT0] at hr hrd
  obtain ⟨an2, cn2, rfl, ak2, ck2, rfl⟩ := hrd.form
  have HRTD := hid (hrd.under (w' := V.drew) ⟨rfl, rfl, rfl, Nat.le_refl _, fun _ _ => rfl⟩)
  have hXz := HX.out
  rw [HK1.out] at hXz y3
  have HSX : Hid (S3 Z b off (.cells #[i64 3, i64 n, .slice an names.length cn, .slice (some ⟨b, off, none⟩) 1 ck] 37) [i64 T.kind, i64 T.num, .slice an2 T.names.length cn2, .slice ak2 T.kids.length ck2] V.drew) := ⟨hXz, by intro j v hv; have := hr j v hv; simpa using this, hblt⟩
  clear hIT hT0 hr hrd hkid hbS hXz
  generalize T.txt = TT at *
  go_upto_region 7 with fail
  refine wp_region_noPanic ?_
  refine wp_region_last (S3 Z b off (.cells #[i64 3, i64 n, .slice an names.length cn, .slice (some ⟨b, off, none⟩) 1 ck] 37) [i64 T.kind, i64 T.num, .slice an2 T.names.length cn2, .slice ak2 T.kids.length ck2]) 12 (by kernel_rfl) ?_
  refine wpL_take 0 22 (.pointer (some ⟨Z, 1, none⟩)) [] rfl rfl (by kernel_rfl) (by decide) (by kernel_rfl) (by kernel_rfl) (by kernel_rfl) (fun _ _ _ h => h) HSX.out (by rfl) (fun W hW => by go_simp) ?_
  simp only [Act.put, List.setIfInBounds_toArray, List.set_cons_zero, List.set_cons_succ]
  refine wpL_take 1 23 (i64 n) [] rfl rfl (by kernel_rfl) (by decide) (by kernel_rfl) (by kernel_rfl) (by kernel_rfl) (fun _ _ _ h => h) HSX.out (by rfl) (fun W hW => by have d0 : W.cell? ⟨Z, 1, none⟩ = some (i64 n) := blk_cell hW.z 1; go_simp) ?_
  simp only [Act.put, List.setIfInBounds_toArray, List.set_cons_zero, List.set_cons_succ]
  refine wpL_take 5 27 (.pointer (some ⟨Z, 3, none⟩)) [] rfl rfl (by kernel_rfl) (by decide) (by kernel_rfl) (by kernel_rfl) (by kernel_rfl) (fun _ _ _ h => h) HSX.out (by rfl) (fun W hW => by go_simp) ?_
  simp only [Act.put, List.setIfInBounds_toArray, List.set_cons_zero, List.set_cons_succ]
  refine wpL_take 6 28 (.slice (some ⟨b, off, none⟩) 1 ck) [] rfl rfl (by kernel_rfl) (by decide) (by kernel_rfl) (by kernel_rfl) (by kernel_rfl) (fun _ _ _ h => h) HSX.out (by rfl) (fun W hW => by have d0 : W.cell? ⟨Z, 3, none⟩ = some (.slice (some ⟨b, off, none⟩) 1 ck) := blk_cell hW.z 3; go_simp) ?_
  simp only [Act.put, List.setIfInBounds_toArray, List.set_cons_zero, List.set_cons_succ]
  refine wpL_take 7 29 (.pointer (some ⟨b, off, none⟩)) [] rfl rfl (by kernel_rfl) (by decide) (by kernel_rfl) (by kernel_rfl) (by kernel_rfl) (fun _ _ _ h => h) HSX.out (by rfl) (fun W hW => by go_simp) ?_
  simp only [Act.put, List.setIfInBounds_toArray, List.set_cons_zero, List.set_cons_succ]
  refine wpL_take 8 30 (.agg #[i64 T.kind, i64 T.num, .slice an2 T.names.length cn2, .slice ak2 T.kids.length ck2]) [] rfl rfl (by kernel_rfl) (by decide) (by kernel_rfl) (by kernel_rfl) (by kernel_rfl) (fun _ _ _ h => h) HSX.out (by rfl) (fun W hW => by have d0 : W.cell? ⟨b, off, none⟩ = some (i64 T.kind) := hW.r 0 _ rfl; have d1 : W.cell? ⟨b, off + 1, none⟩ = some (i64 T.num) := hW.r 1 _ rfl; have d2 : W.cell? ⟨b, off + 2, none⟩ = some (.slice an2 T.names.length cn2) := hW.r 2 _ rfl; have d3 : W.cell? ⟨b, off + 3, none⟩ = some (.slice ak2 T.kids.length ck2) := hW.r 3 _ rfl; go_simp) ?_
  simp only [Act.put, List.setIfInBounds_toArray, List.set_cons_zero, List.set_cons_succ]
  refine wpL_one 2 rfl (by kernel_rfl) (by rfl) (fun K hK => ?_)
  go_simp
  refine (digits_i n h0 h1 V.drew).mono ?_
  rintro e w1 ⟨he1, hb1⟩
  rw [HITe.out] at he1
  subst he1
  have HS1 : Hid (S3 Z b off (.cells #[i64 3, i64 n, .slice an names.length cn, .slice (some ⟨b, off, none⟩) 1 ck] 37) [i64 T.kind, i64 T.num, .slice an2 T.names.length cn2, .slice ak2 T.kids.length ck2] w1) := HSX.out.below hb1
  have HB1 : Hid (Below w.heap.size w w1) := (below_drewN HBV.out 1).trans (hb1.mono HBV.out.size)
  have HRT1 := hid (HRTD.out.under hb1)
  clear hb1
  go_simp
  refine hK.out _ _ (fun _ => HS1.out) ?_
  clear hK K
  refine wpL_take 3 25 (.string ((⟨#[108]⟩ : ByteArray) ++ ⟨IT.toArray⟩)) [] rfl rfl (by kernel_rfl) (by decide) (by kernel_rfl) (by kernel_rfl) (by kernel_rfl) (fun _ _ _ h => h) HS1.out (by rfl) (fun W hW => by go_simp; omega) ?_
  simp only [Act.put, List.setIfInBounds_toArray, List.set_cons_zero, List.set_cons_succ]
  refine wpL_take 4 26 (.string (((⟨#[108]⟩ : ByteArray) ++ ⟨IT.toArray⟩) ++ ⟨#[40]⟩)) [] rfl rfl (by kernel_rfl) (by decide) (by kernel_rfl) (by kernel_rfl) (by kernel_rfl) (fun _ _ _ h => h) HS1.out (by rfl) (fun W hW => by go_simp; omega) ?_
  simp only [Act.put, List.setIfInBounds_toArray, List.set_cons_zero, List.set_cons_succ]
  refine wpL_one 9 rfl (by kernel_rfl) (by rfl) (fun K hK => ?_)
  go_simp
  refine (HIH.out w1 _ _ HRT1.out).mono ?_
  rintro e w2 ⟨rfl, hb2⟩
  have HS2 : Hid (S3 Z b off (.cells #[i64 3, i64 n, .slice an names.length cn, .slice (some ⟨b, off, none⟩) 1 ck] 37) [i64 T.kind, i64 T.num, .slice an2 T.names.length cn2, .slice ak2 T.kids.length ck2] w2) := HS1.out.below hb2
  have HB2 : Hid (Below w.heap.size w w2) := HB1.out.trans (hb2.mono HB1.out.size)
  clear hb2
  go_simp
  refine hK.out _ _ (fun _ => HS2.out) ?_
  clear hK K
  refine wpL_take 10 32 (.string ((((⟨#[108]⟩ : ByteArray) ++ ⟨IT.toArray⟩) ++ ⟨#[40]⟩) ++ ⟨TT.toArray⟩)) [] rfl rfl (by kernel_rfl) (by decide) (by kernel_rfl) (by kernel_rfl) (by kernel_rfl) (fun _ _ _ h => h) HS2.out (by rfl) (fun W hW => by go_simp; omega) ?_
  simp only [Act.put, List.setIfInBounds_toArray, List.set_cons_zero, List.set_cons_succ]
  refine wpL_take 11 33 (.string (((((⟨#[108]⟩ : ByteArray) ++ ⟨IT.toArray⟩) ++ ⟨#[40]⟩) ++ ⟨TT.toArray⟩) ++ ⟨#[41]⟩)) [] rfl rfl (by kernel_rfl) (by decide) (by kernel_rfl) (by kernel_rfl) (by kernel_rfl) (fun _ _ _ h => h) HS2.out (by rfl) (fun W hW => by go_simp; omega) ?_
  simp only [Act.put, List.setIfInBounds_toArray, List.set_cons_zero, List.set_cons_succ]
  refine wpL_one 12 rfl (by kernel_rfl) (by rfl) (fun K hK => ?_)
  go_simp
  refine hK.out _ _ (fun h => absurd rfl h) ?_
  clear hK K
  refine wpL_done (by kernel_rfl) ?_
  refine NoPanic.normal ?_
  go_wp2_with fail
  go_ret
  exact ⟨by rw [HRES.out]; rfl, HB2.out⟩
end Go.Proofs.YteecjilknembdaaDoor
