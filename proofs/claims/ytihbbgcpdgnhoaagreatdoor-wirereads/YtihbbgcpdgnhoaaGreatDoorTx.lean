/- types.textOf: its contract; no statement is proved in this text. -/
import Derived.Test.YtihbbgcpdgnhoaaGreatDoorEv
import Derived.Test.YtihbbgcpdgnhoaaGreatDoorGrow
namespace Go.Proofs.YtihbbgcpdgnhoaaGreatDoor
open Go.ChangeShapes Go.WideShapes Go.ChangeAt Go.RowKit Go.Deep
attribute [local go_sem ↓] Go.wp_at_zero Go.wp_at_succ

theorem bz (l : Bs) : (⟨l.toArray⟩ : ByteArray).size = l.length := by show l.toArray.size = _; simp
theorem ba_append (p b : Bs) : (⟨p.toArray⟩ : ByteArray) ++ (⟨b.toArray⟩ : ByteArray) = ⟨(p ++ b).toArray⟩ := by
  apply ByteArray.ext
  simp
/-- What Itoa asks of the world. -/
def Pw (w : World) : Prop := Lib.TabIs Tryz.prog w "internal/strconv.uint64pow10" .u64 Lib.pow10Tab
theorem Pw.below {w w' : World} (h : Pw w) (hb : Below w.heap.size w w') : Pw w' := by
  have hg : Tryz.prog.globalNamed "internal/strconv.uint64pow10" = some 0 := by kernel_rfl
  unfold Pw Lib.TabIs World.var? at *
  rw [hg, Option.bind_some] at h ⊢
  rcases Nat.eq_zero_or_pos w.heap.size with e | e
  · rw [Array.getElem?_eq_none (by omega)] at h; cases h
  · rw [hb.block 0 e]; exact h
theorem grow_below (w : World) (k : Nat) (os : Array Obj) : Below w.heap.size w (Sort.grow (w.drewN k) os) := by
  refine ⟨rfl, rfl, rfl, by simp [Sort.grow], fun j hj => ?_⟩
  show (w.heap ++ os)[j]? = _
  rw [Array.getElem?_append_left hj]
theorem itoa_w (w : World) (hp : Pw w) (n : Int) (h0 : 0 ≤ n) (h1 : n ≤ 65535) : Calls Tryz.prog 59 #[i64 n] w fun e w' => e = .returned (str (Lib.itoa n)) ∧ Below w.heap.size w w' := by
  refine (Tryz.strconv_Itoa n (by omega) (by omega) w hp).mono ?_
  rintro e w' ⟨rfl, k, os, rfl⟩
  exact ⟨rfl, grow_below _ _ _⟩
def fieldL : List Bs → List Bs → List Bs
  | a :: r, x :: s => (a ++ 58 :: x) :: fieldL r s
  | _, _ => []
theorem fieldL_len : ∀ (a x : List Bs), a.length = x.length → (fieldL a x).length = a.length
  | [], [], _ => rfl
  | _ :: r, _ :: s, h => by simp [fieldL, fieldL_len r s (by simpa using h)]
theorem fieldL_get : ∀ (a x : List Bs) (i : Nat) (h1 : i < a.length) (h2 : i < x.length), (fieldL a x)[i]? = some (a[i] ++ 58 :: x[i])
  | _ :: _, _ :: _, 0, _, _ => rfl
  | _ :: r, _ :: s, i + 1, h1, h2 => by
    have := fieldL_get r s i (by simpa using h1) (by simpa using h2)
    simpa [fieldL] using this
theorem join_field : ∀ (a x : List Bs), a.length = x.length → Lib.join (fieldL a x) [44] = fieldT a x
  | [], [], _ => rfl
  | [a], [x], _ => by simp [fieldL, fieldT, Lib.join_one]
  | a :: b :: r, x :: y :: s, h => by
    have ih := join_field (b :: r) (y :: s) (by simpa using h)
    have e : Lib.join (fieldL (a :: b :: r) (x :: y :: s)) [44] = (a ++ 58 :: x) ++ 44 :: Lib.join (fieldL (b :: r) (y :: s)) [44] := by
      show ([44] : Bs).intercalate ((a ++ 58 :: x) :: fieldL (b :: r) (y :: s)) = _
      simp only [fieldL, Lib.join, List.intercalate, List.intersperse_cons_cons, List.flatten_cons]
      rfl
    rw [e, ih]
    simp [fieldT]
theorem txtL_get (l : List Ty) (i : Nat) (h : i < l.length) (h' : i < (txtL l).length) : (txtL l)[i] = l[i].txt := by
  induction l generalizing i with
  | nil => simp at h
  | cons t r ih =>
    cases i with
    | zero => rfl
    | succ i => exact ih i (by simpa using h) (by simpa [txtL] using h')
theorem txt_1 (n : Int) : (Ty.mk 1 n [] []).txt = 105 :: Lib.itoa n := by simp [Ty.txt]
theorem txt_2 (n : Int) : (Ty.mk 2 n [] []).txt = 116 :: Lib.itoa n := by simp [Ty.txt]
theorem txt_3 (n : Int) (T : Ty) : (Ty.mk 3 n [] [T]).txt = 108 :: (Lib.itoa n ++ 40 :: (T.txt ++ [41])) := by simp [Ty.txt, txtL]
theorem txt_4 (names : List Bs) (kids : List Ty) : (Ty.mk 4 0 names kids).txt = 114 :: 40 :: (fieldT names (txtL kids) ++ [41]) := by simp [Ty.txt]
theorem fieldT_le : ∀ (a : List Bs) (ks : List Ty), a.length = ks.length → (∀ x ∈ a, x.length ≤ 8) → (∀ T ∈ ks, T.txt.length + 16 ≤ 32 * T.count) → (fieldT a (txtL ks)).length ≤ 32 * countL ks
  | [], [], _, _, _ => by simp [fieldT]
  | a :: r, T :: s, h, h1, h2 => by
    have ih := fieldT_le r s (by simpa using h) (fun x hx => h1 x (by simp [hx])) (fun T hT => h2 T (by simp [hT]))
    have g1 := h1 a (by simp)
    have g2 := h2 T (by simp)
    rw [txtL, fieldT_cons (by rw [txtL_len]; simpa using h)]
    simp only [countL, List.length_append, List.length_cons]
    split
    · simp; omega
    · simp only [List.length_cons]; omega
theorem nameB_le {a : Bs} (h : nameB a = true) : a.length ≤ 8 := by
  unfold nameB at h
  simp only [Bool.and_eq_true, decide_eq_true_eq] at h
  exact h.2
theorem txt_le : ∀ (M : Nat) (T : Ty), T.count ≤ M → T.formed = true → T.txt.length + 16 ≤ 32 * T.count
  | 0, T, h, _ => by have := count_pos T; omega
  | M + 1, .mk k n names kids, h, hf => by
    simp only [Ty.count] at h ⊢
    simp only [Ty.formed, Bool.and_eq_true] at hf
    obtain ⟨hn, hl⟩ := hf
    have hnode := nodeB_node hn
    generalize hkn : kids.length = kn at hnode
    cases hnode with
    | int h0 h1 =>
      obtain rfl := List.eq_nil_of_length_eq_zero hkn
      have := (itoa_ok3 n h0 h1).le
      rw [txt_1]; simp only [List.length_cons, countL]; omega
    | text h0 h1 =>
      obtain rfl := List.eq_nil_of_length_eq_zero hkn
      have := (itoa_ok3 n h0 h1).le
      rw [txt_2]; simp only [List.length_cons, countL]; omega
    | list h0 h1 =>
      obtain ⟨T, rfl⟩ : ∃ T, kids = [T] := by cases kids with
        | nil => simp at hkn
        | cons T r => have : r = [] := by simpa using hkn
                      exact ⟨T, by rw [this]⟩
      have := (itoa_ok3 n h0 h1).le
      have ih := txt_le M T (by simp [countL] at h; omega) (formedL_mem hl (by simp))
      rw [txt_3]; simp only [List.length_cons, List.length_append, countL, List.length_nil]; omega
    | rc h0 h1 h2 h3 =>
      have := fieldT_le names kids (by omega) (fun x hx => nameB_le (namesTo_mem h3 hx)) (fun T hT => txt_le M T (by have := countL_mem hT; omega) (formedL_mem hl hT))
      rw [txt_4]; simp only [List.length_cons, List.length_append, List.length_nil]; omega
set_option maxRecDepth 100000 in
set_option maxHeartbeats 3200000 in
theorem text_1 (n : Int) (w : World) (S : Nat → Prop) (nv kv : Value) (hP : Pw w) (h0 : 0 ≤ n) (h1 : n ≤ 255) (hR : Rd w S (.mk 1 n [] []) nv kv) : Calls Tryz.prog 36 #[tyV 1 n nv kv] w fun e w' => e = .returned (str (Ty.mk 1 n [] []).txt) ∧ Below w.heap.size w w' := by
  have HRES : Hid (str (Ty.mk 1 n [] []).txt = .string ((⟨#[105]⟩ : ByteArray) ++ ⟨(Lib.itoa n).toArray⟩)) := by
    show _ = _
    rw [txt_1]
    exact congrArg Value.string (ba_append [105] (Lib.itoa n)).symm
  have HP := hid hP
  have hle := (itoa_ok3 n h0 h1).le
  generalize (Ty.mk 1 n [] []).txt = TX at *
  obtain ⟨k, hk⟩ : ∃ k : Int, k = 1 := ⟨_, rfl⟩
  obtain ⟨names, hnm⟩ : ∃ names : List Bs, names = [] := ⟨_, rfl⟩
  obtain ⟨kids, hkd⟩ : ∃ kids : List Ty, kids = [] := ⟨_, rfl⟩
  rw [← hk, ← hnm, ← hkd] at hR
  rw [← hk]
  have HKe := hid hk
  have HNe := hid hnm
  have HKd := hid hkd
  clear hk hnm hkd
  have HRd : Hid (Rd w S (.mk k n names kids) nv kv) := hR
  obtain ⟨⟨an, cn, rfl, hnl, hz1, hz2⟩, hkl, ak, ck, rfl, hz3⟩ := hR.kid
  clear hz1 hz2 hz3
  unfold maxLen at hnl hkl
  have HX : Hid ((w.alloc (.cells #[i64 k, i64 n, .slice an names.length cn, .slice ak kids.length ck] 25)).heap[w.heap.size]? = some (.cells #[i64 k, i64 n, .slice an names.length cn, .slice ak kids.length ck] 25)) := heap_last w _
  have HBV : Hid (Below w.heap.size w (w.alloc (.cells #[i64 k, i64 n, .slice an names.length cn, .slice ak kids.length ck] 25))) := below_one w _
  clear hR hP
  go_enter Tryz.func36, Tryz.ntmps36
  go_upto_region 1 with fail
  obtain ⟨Z, hZ⟩ : ∃ Z, Z = w.heap.size := ⟨_, rfl⟩
  rw [← hZ] at HX ⊢
  generalize w.alloc (.cells #[i64 k, i64 n, .slice an names.length cn, .slice ak kids.length ck] 25) = V at *
  have y0 : V.cell? ⟨Z, 0, none⟩ = some (i64 k) := blk_cell HX.out 0
  have y1 : V.cell? ⟨Z, 1, none⟩ = some (i64 n) := blk_cell HX.out 1
  have y2 : V.cell? ⟨Z, 2, none⟩ = some (.slice an names.length cn) := blk_cell HX.out 2
  have y3 : V.cell? ⟨Z, 3, none⟩ = some (.slice ak kids.length ck) := blk_cell HX.out 3
  have hZV : Z < V.heap.size := blk_lt HX.out
  have HZ := hid hZ
  clear hZ
  have HIT : Hid (Calls Tryz.prog 59 #[i64 n] V fun e w' => e = .returned (str (Lib.itoa n)) ∧ Below V.heap.size V w') := itoa_w V (HP.out.below (HZ.out ▸ HBV.out)) n h0 (by omega)
  have hbz := bz (Lib.itoa n)
  generalize Lib.itoa n = IT at *
  go_wp2_with fail
  refine HIT.out.mono ?_
  rintro e w1 ⟨rfl, hb1⟩
  have HB1 : Hid (Below w.heap.size w w1) := HBV.out.trans (hb1.mono HBV.out.size)
  have HX1 := hid (blk_below HX.out hb1)
  clear hb1 y0 y1 y2 y3
  have y0 : w1.cell? ⟨Z, 0, none⟩ = some (i64 k) := blk_cell HX1.out 0
  have hk := HKe.out
  subst hk
  go_wp2_with fail
  go_ret
  exact ⟨by rw [HRES.out]; rfl, HB1.out⟩
set_option maxRecDepth 100000 in
set_option maxHeartbeats 3200000 in
theorem text_2 (n : Int) (w : World) (S : Nat → Prop) (nv kv : Value) (hP : Pw w) (h0 : 0 ≤ n) (h1 : n ≤ 255) (hR : Rd w S (.mk 2 n [] []) nv kv) : Calls Tryz.prog 36 #[tyV 2 n nv kv] w fun e w' => e = .returned (str (Ty.mk 2 n [] []).txt) ∧ Below w.heap.size w w' := by
  have HRES : Hid (str (Ty.mk 2 n [] []).txt = .string ((⟨#[116]⟩ : ByteArray) ++ ⟨(Lib.itoa n).toArray⟩)) := by
    show _ = _
    rw [txt_2]
    exact congrArg Value.string (ba_append [116] (Lib.itoa n)).symm
  have HP := hid hP
  have hle := (itoa_ok3 n h0 h1).le
  generalize (Ty.mk 2 n [] []).txt = TX at *
  obtain ⟨k, hk⟩ : ∃ k : Int, k = 2 := ⟨_, rfl⟩
  obtain ⟨names, hnm⟩ : ∃ names : List Bs, names = [] := ⟨_, rfl⟩
  obtain ⟨kids, hkd⟩ : ∃ kids : List Ty, kids = [] := ⟨_, rfl⟩
  rw [← hk, ← hnm, ← hkd] at hR
  rw [← hk]
  have HKe := hid hk
  have HNe := hid hnm
  have HKd := hid hkd
  clear hk hnm hkd
  have HRd : Hid (Rd w S (.mk k n names kids) nv kv) := hR
  obtain ⟨⟨an, cn, rfl, hnl, hz1, hz2⟩, hkl, ak, ck, rfl, hz3⟩ := hR.kid
  clear hz1 hz2 hz3
  unfold maxLen at hnl hkl
  have HX : Hid ((w.alloc (.cells #[i64 k, i64 n, .slice an names.length cn, .slice ak kids.length ck] 25)).heap[w.heap.size]? = some (.cells #[i64 k, i64 n, .slice an names.length cn, .slice ak kids.length ck] 25)) := heap_last w _
  have HBV : Hid (Below w.heap.size w (w.alloc (.cells #[i64 k, i64 n, .slice an names.length cn, .slice ak kids.length ck] 25))) := below_one w _
  clear hR hP
  go_enter Tryz.func36, Tryz.ntmps36
  go_upto_region 1 with fail
  obtain ⟨Z, hZ⟩ : ∃ Z, Z = w.heap.size := ⟨_, rfl⟩
  rw [← hZ] at HX ⊢
  generalize w.alloc (.cells #[i64 k, i64 n, .slice an names.length cn, .slice ak kids.length ck] 25) = V at *
  have y0 : V.cell? ⟨Z, 0, none⟩ = some (i64 k) := blk_cell HX.out 0
  have y1 : V.cell? ⟨Z, 1, none⟩ = some (i64 n) := blk_cell HX.out 1
  have y2 : V.cell? ⟨Z, 2, none⟩ = some (.slice an names.length cn) := blk_cell HX.out 2
  have y3 : V.cell? ⟨Z, 3, none⟩ = some (.slice ak kids.length ck) := blk_cell HX.out 3
  have hZV : Z < V.heap.size := blk_lt HX.out
  have HZ := hid hZ
  clear hZ
  have HIT : Hid (Calls Tryz.prog 59 #[i64 n] V fun e w' => e = .returned (str (Lib.itoa n)) ∧ Below V.heap.size V w') := itoa_w V (HP.out.below (HZ.out ▸ HBV.out)) n h0 (by omega)
  have hbz := bz (Lib.itoa n)
  generalize Lib.itoa n = IT at *
  go_wp2_with fail
  refine HIT.out.mono ?_
  rintro e w1 ⟨rfl, hb1⟩
  have HB1 : Hid (Below w.heap.size w w1) := HBV.out.trans (hb1.mono HBV.out.size)
  have HX1 := hid (blk_below HX.out hb1)
  clear hb1 y0 y1 y2 y3
  have y0 : w1.cell? ⟨Z, 0, none⟩ = some (i64 k) := blk_cell HX1.out 0
  have hk := HKe.out
  subst hk
  go_wp2_with fail
  go_ret
  exact ⟨by rw [HRES.out]; rfl, HB1.out⟩
set_option maxRecDepth 100000 in
set_option maxHeartbeats 3200000 in
theorem text_3 (n : Int) (T : Ty) (w : World) (S : Nat → Prop) (nv kv : Value) (hP : Pw w) (h0 : 0 ≤ n) (h1 : n ≤ 255) (hR : Rd w S (.mk 3 n [] [T]) nv kv) (hln : T.txt.length ≤ 100000)
    (hih : ∀ (w : World) (nv kv : Value), Pw w → Rd w S T nv kv → Calls Tryz.prog 36 #[tyV T.kind T.num nv kv] w fun e w' => e = .returned (str T.txt) ∧ Below w.heap.size w w') : Calls Tryz.prog 36 #[tyV 3 n nv kv] w fun e w' => e = .returned (str (Ty.mk 3 n [] [T]).txt) ∧ Below w.heap.size w w' := by
  have HRES : Hid (str (Ty.mk 3 n [] [T]).txt = .string ((((⟨#[108]⟩ : ByteArray) ++ ⟨(Lib.itoa n).toArray⟩) ++ ⟨#[40]⟩) ++ ⟨T.txt.toArray⟩ ++ ⟨#[41]⟩)) := by
    show _ = _
    rw [txt_3]
    refine congrArg Value.string ?_
    apply ByteArray.ext
    simp
  have HP := hid hP
  have HIH := hid hih
  have hle := (itoa_ok3 n h0 h1).le
  generalize (Ty.mk 3 n [] [T]).txt = TX at *
  obtain ⟨k, hk⟩ : ∃ k : Int, k = 3 := ⟨_, rfl⟩
  obtain ⟨names, hnm⟩ : ∃ names : List Bs, names = [] := ⟨_, rfl⟩
  obtain ⟨kids, hkd⟩ : ∃ kids : List Ty, kids = [T] := ⟨_, rfl⟩
  rw [← hk, ← hnm, ← hkd] at hR
  rw [← hk]
  have HKe := hid hk
  have HNe := hid hnm
  have HKd := hid hkd
  clear hk hnm hkd
  have HRd : Hid (Rd w S (.mk k n names kids) nv kv) := hR
  obtain ⟨⟨an, cn, rfl, hnl, hz1, hz2⟩, hkl, ak, ck, rfl, hz3⟩ := hR.kid
  clear hz1 hz2 hz3
  unfold maxLen at hnl hkl
  have HX : Hid ((w.alloc (.cells #[i64 k, i64 n, .slice an names.length cn, .slice ak kids.length ck] 25)).heap[w.heap.size]? = some (.cells #[i64 k, i64 n, .slice an names.length cn, .slice ak kids.length ck] 25)) := heap_last w _
  have HBV : Hid (Below w.heap.size w (w.alloc (.cells #[i64 k, i64 n, .slice an names.length cn, .slice ak kids.length ck] 25))) := below_one w _
  clear hR hP hih
  go_enter Tryz.func36, Tryz.ntmps36
  go_upto_region 1 with fail
  obtain ⟨Z, hZ⟩ : ∃ Z, Z = w.heap.size := ⟨_, rfl⟩
  rw [← hZ] at HX ⊢
  generalize w.alloc (.cells #[i64 k, i64 n, .slice an names.length cn, .slice ak kids.length ck] 25) = V at *
  have y0 : V.cell? ⟨Z, 0, none⟩ = some (i64 k) := blk_cell HX.out 0
  have y1 : V.cell? ⟨Z, 1, none⟩ = some (i64 n) := blk_cell HX.out 1
  have y2 : V.cell? ⟨Z, 2, none⟩ = some (.slice an names.length cn) := blk_cell HX.out 2
  have y3 : V.cell? ⟨Z, 3, none⟩ = some (.slice ak kids.length ck) := blk_cell HX.out 3
  have hZV : Z < V.heap.size := blk_lt HX.out
  have HZ := hid hZ
  clear hZ
  have HIT : Hid (Calls Tryz.prog 59 #[i64 n] V fun e w' => e = .returned (str (Lib.itoa n)) ∧ Below V.heap.size V w') := itoa_w V (HP.out.below (HZ.out ▸ HBV.out)) n h0 (by omega)
  have hbz := bz (Lib.itoa n)
  have hbt := bz T.txt
  have hk1 : kids.length = 1 := by rw [HKd.out]; rfl
  have HK1 := hid hk1
  generalize Lib.itoa n = IT at *
  generalize T.txt = TT at *
  clear hk1
  go_wp2_with fail
  refine HIT.out.mono ?_
  rintro e w1 ⟨rfl, hb1⟩
  have HB1 : Hid (Below w.heap.size w w1) := HBV.out.trans (hb1.mono HBV.out.size)
  have HX1 := hid (blk_below HX.out hb1)
  have HP1 : Hid (Pw w1) := HP.out.below HB1.out
  obtain ⟨_, _, ak1, ck1, he, hkid⟩ := (HRd.out.under HB1.out).kid
  cases he
  obtain ⟨b, off, nv2, kv2, rfl, hbS, hblt, hr, hrd⟩ := hkid 0 (by have := HK1.out; omega)
  have hT0 : kids[0]'(by have := HK1.out; omega) = T := by have := HKd.out; subst this; rfl
  rw [hT0] at hr hrd
  have c0 : w1.cell? ⟨b, off, none⟩ = some (i64 T.kind) := by have := hr 0 _ rfl; simpa using this
  have c1 : w1.cell? ⟨b, off + 1, none⟩ = some (i64 T.num) := by have := hr 1 _ rfl; simpa using this
  have c2 : w1.cell? ⟨b, off + 2, none⟩ = some nv2 := by have := hr 2 _ rfl; simpa using this
  have c3 : w1.cell? ⟨b, off + 3, none⟩ = some kv2 := by have := hr 3 _ rfl; simpa using this
  obtain ⟨an2, cn2, rfl, ak2, ck2, rfl⟩ := hrd.form
  have HCA := hid (HIH.out w1 _ _ HP1.out hrd)
  clear hb1 y0 y1 y2 y3 hT0 hr hrd hkid hbS
  have y0 : w1.cell? ⟨Z, 0, none⟩ = some (i64 k) := blk_cell HX1.out 0
  have y3 : w1.cell? ⟨Z, 3, none⟩ = some (.slice (some ⟨b, off, none⟩) kids.length ck) := blk_cell HX1.out 3
  rw [HK1.out] at y3
  have hk := HKe.out
  subst hk
  go_wp2_with fail
  refine HCA.out.mono ?_
  rintro e w2 ⟨rfl, hb2⟩
  have HB2 : Hid (Below w.heap.size w w2) := HB1.out.trans (hb2.mono HB1.out.size)
  clear hb2
  go_wp2_with fail
  go_ret
  exact ⟨by rw [HRES.out]; rfl, HB2.out⟩
end Go.Proofs.YtihbbgcpdgnhoaaGreatDoor
