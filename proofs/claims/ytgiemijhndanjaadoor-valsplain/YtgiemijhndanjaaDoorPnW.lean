/- ValsPlain's walk; no statement is proved in this text. -/
import Derived.Test.YtgiemijhndanjaaDoorOwW
import Derived.Test.YtgiemijhndanjaaDoorRds
import Derived.Test.YtgiemijhndanjaaDoorDf
import Derived.Test.YtgiemijhndanjaaDoorDfP
import Derived.Test.YtgiemijhndanjaaDoorRck
import Derived.Test.YtgiemijhndanjaaDoorSz
import Derived.Test.YtgiemijhndanjaaDoorDfW
import Derived.Test.YtgiemijhndanjaaDoorVa
namespace Go.Proofs.YtgiemijhndanjaaDoor
open Go.ChangeShapes Go.WideShapes Go.ChangeAt Go.RowKit Go.Deep
attribute [local go_sem ↓] Go.wp_at_zero Go.wp_at_succ

def zV : Vl := .mk 0 0 [] []
/-- What Default answers. -/
def dfO (T : Ty) : Vl := if T.err = 0 then T.dflt else zV
set_option maxRecDepth 100000 in
set_option maxHeartbeats 12800000 in
theorem default_no (T : Ty) (w : World) (S : Nat → Prop) (nv kv : Value) (hV : Rd w S T nv kv) (he : T.err ≠ 0) : Calls Tryd.prog 19 #[tyV T.kind T.num nv kv] w fun e w' => e = .returned (.tuple #[.agg #[i64 0, i64 0, .string ⟨#[]⟩, .slice none 0 0], i64 T.err]) ∧ Below w.heap.size w w' := by
  have HCK : Hid (∀ W nv tv, Rd W S T nv tv → Calls Tryd.prog 35 #[tyV T.kind T.num nv tv] W fun e w' => e = .returned (i64 T.err) ∧ Below W.heap.size W w') := fun W nv tv h => check_ok T W S nv tv h
  have HRd := hid hV
  obtain ⟨an, cn, rfl, at_, ct, rfl⟩ := hV.form
  have HX : Hid (((w.alloc (.cells #[i64 T.kind, i64 T.num, .slice an T.names.length cn, .slice at_ T.kids.length ct] 28)).alloc (zO 24)).heap[w.heap.size]? = some (.cells #[i64 T.kind, i64 T.num, .slice an T.names.length cn, .slice at_ T.kids.length ct] 28)) := blk_alloc (heap_last w _) _
  have HR0 : Hid (((w.alloc (.cells #[i64 T.kind, i64 T.num, .slice an T.names.length cn, .slice at_ T.kids.length ct] 28)).alloc (zO 24)).heap[w.heap.size + 1]? = some (zO 24)) := heap_at3 _ _ _ (by simp)
  have HBV : Hid (Below w.heap.size w ((w.alloc (.cells #[i64 T.kind, i64 T.num, .slice an T.names.length cn, .slice at_ T.kids.length ct] 28)).alloc (zO 24))) := (below_one w _).trans ((below_one _ _).mono (by simp))
  have hq : (T.err != 0) = true := by simpa using he
  clear hV he
  generalize T.err = E at *
  go_enter Tryd.func19, Tryd.ntmps19
  go_upto_region 1 with fail
  generalize (w.alloc (.cells #[i64 T.kind, i64 T.num, .slice an T.names.length cn, .slice at_ T.kids.length ct] 28)).alloc (zO 24) = V0 at *
  obtain ⟨Z, hZ⟩ : ∃ Z, Z = w.heap.size := ⟨_, rfl⟩
  obtain ⟨R, hR⟩ : ∃ R, R = w.heap.size + 1 := ⟨_, rfl⟩
  have HRw : Hid (w.heap.size ≤ R) := by show _ ≤ _; omega
  rw [← hZ] at HX
  rw [← hR] at HR0
  rw [← hR, ← hZ]
  clear hZ hR
  have zc0 : V0.cell? ⟨Z, 0, none⟩ = some (i64 T.kind) := blk_cell HX.out 0
  have zc1 : V0.cell? ⟨Z, 1, none⟩ = some (i64 T.num) := blk_cell HX.out 1
  have zc2 : V0.cell? ⟨Z, 2, none⟩ = some (.slice an T.names.length cn) := blk_cell HX.out 2
  have zc3 : V0.cell? ⟨Z, 3, none⟩ = some (.slice at_ T.kids.length ct) := blk_cell HX.out 3
  have HC1 := hid (HCK.out V0 _ _ (HRd.out.under HBV.out))
  go_wp2_with fail
  refine HC1.out.mono ?_
  rintro e w1 ⟨rfl, hb1⟩
  have HB1 : Hid (Below w.heap.size w w1) := HBV.out.trans (hb1.mono HBV.out.size)
  have HR1 : Hid (w1.heap[R]? = some (zO 24)) := blk_below HR0.out hb1
  clear hb1 HC1 zc0 zc1 zc2 zc3
  have rc0 : w1.cell? ⟨R, 0, none⟩ = some (i64 0) := blk_cell HR1.out 0
  have rf0 : w1.frozen? ⟨R, 0, none⟩ = false := blk_frozen HR1.out 0
  have rc1 : w1.cell? ⟨R, 1, none⟩ = some (i64 0) := blk_cell HR1.out 1
  have rf1 : w1.frozen? ⟨R, 1, none⟩ = false := blk_frozen HR1.out 1
  have rc2 : w1.cell? ⟨R, 2, none⟩ = some (.string ⟨#[]⟩) := blk_cell HR1.out 2
  have rf2 : w1.frozen? ⟨R, 2, none⟩ = false := blk_frozen HR1.out 2
  have rc3 : w1.cell? ⟨R, 3, none⟩ = some (.slice none 0 0) := blk_cell HR1.out 3
  have rf3 : w1.frozen? ⟨R, 3, none⟩ = false := blk_frozen HR1.out 3
  go_wp2_with fail
  exact bodyPost_ret (v := .tuple #[.agg #[i64 0, i64 0, .string ⟨#[]⟩, .slice none 0 0], i64 E]) (results_cell Tryd.results19 rfl rfl (load24 (set4 HR1.out _ _ _ _))) rfl ⟨rfl, bset4 HB1.out HRw.out _ _ _ _⟩
theorem default_any (T : Ty) (w : World) (S : Nat → Prop) (nv kv : Value) (hV : Rd w S T nv kv) (hc : T.count ≤ 1000) : Calls Tryd.prog 19 #[tyV T.kind T.num nv kv] w fun e w' => ∃ a c, e = .returned (.tuple #[vlV (dfO T) (.slice a (dfO T).kids.length c), i64 T.err]) ∧ Below w.heap.size w w' ∧ Vd w' (fun b => w.heap.size ≤ b) (dfO T) (.slice a (dfO T).kids.length c) := by
  unfold dfO
  by_cases he : T.err = 0
  · rw [if_pos he, he]
    exact default_ok T w S nv kv hV he hc
  · rw [if_neg he]
    refine (default_no T w S nv kv hV he).mono ?_
    rintro e w' ⟨rfl, hb⟩
    exact ⟨none, 0, rfl, hb, Vd.leaf _ _ 0 0 [] (Nat.zero_le _) none 0⟩
theorem dfO_size (T : Ty) (h : T.count ≤ 200) : (dfO T).size ≤ 200 := by
  unfold dfO
  split
  · have := dflt_cnt _ T (Nat.le_refl _)
    omega
  · simp [zV, Vl.size, sizeL]
theorem load28 {W : World} {b : Nat} {k n : Int} {s kv : Value} (h : W.heap[b]? = some (.cells #[i64 k, i64 n, s, kv] 28)) : (loadVar 28 ⟨b, 0, none⟩).run Tryd.prog W = .ok (.agg #[i64 k, i64 n, s, kv]) W := by
  refine run_loadVar_mid _ _ 0 28 [i64 k, i64 n, s, kv] _ (fun j v hv => ?_) Tryd.underlying28 rfl (by kernel_rfl)
  rw [Nat.zero_add, cell_of_row _ _ _ _ 28 (0, 0) h]
  simpa using hv
theorem zero33 (W : World) : (zeroValue 33).run Tryd.prog W = .ok (.agg #[i64 0, i64 0, .string ⟨#[]⟩, .slice none 0 0]) W := by kernel_rfl
/-- Four boxes. -/
structure Bx4 (Z Y Q D : Nat) (a b c d : Obj) (W : World) : Prop where
  z : W.heap[Z]? = some a
  y : W.heap[Y]? = some b
  q : W.heap[Q]? = some c
  d : W.heap[D]? = some d
theorem Bx4.under {Z Y Q D : Nat} {a b c d : Obj} {W W' : World} (h : Bx4 Z Y Q D a b c d W) (hb : Below W.heap.size W W') : Bx4 Z Y Q D a b c d W' := ⟨blk_below h.z hb, blk_below h.y hb, blk_below h.q hb, blk_below h.d hb⟩
theorem dr_below (w : World) : Below w.heap.size w w.drew := ⟨rfl, rfl, rfl, Nat.le_refl _, fun _ _ => rfl⟩
theorem vrsame_refl (V : Vl) (w : World) (kv lv : Value) (h1 : Vd w (fun _ => True) V kv) (h2 : Vd w (fun _ => True) V lv) : Calls Tryd.prog 20 #[vlV V kv, vlV V lv] w fun e w' => e = .returned (.bool true) ∧ Below w.heap.size w w' := by
  have := vrsame_ok _ V (Nat.le_refl _) V w (fun _ => True) kv lv h1 h2
  rw [sameV_refl] at this
  exact this
theorem typ_any (T : Ty) (w : World) (nv kv : Value) (h : Rd w (fun _ => True) T nv kv) (hc : T.count ≤ 1000) : Calls Tryd.prog 12 #[tyV T.kind T.num nv kv] w fun e w' => ∃ a n c, e = .returned (tyV T.kind T.num nv (.slice a n c)) ∧ Below w.heap.size w w' ∧ Rd w' (fun _ => True) T nv (.slice a n c) := by
  refine (ref_ok _ T (Nat.le_refl _) hc w.heap.size w nv kv (Nat.le_refl _) (h.mono (fun b _ hb => hb))).mono ?_
  rintro e w' ⟨a, n, c, rfl, hb, hr⟩
  exact ⟨a, n, c, rfl, hb, hr.mono (fun _ _ _ => trivial)⟩
theorem rplainD (T : Ty) (D : Vl) (hD : T.err = 0 ∧ D = T.dflt) (w : World) (nv kv : Value) (h : Rd w (fun _ => True) T nv kv) (hc : T.count ≤ 1000) : Calls Tryd.prog 21 #[tyV T.kind T.num nv kv] w (MkOk w D) := by
  rw [hD.2]
  exact rplain_ok _ T (Nat.le_refl _) hc w (fun _ => True) nv kv h
theorem vrsame_zero (D : Vl) (hD : D = zV) (w : World) (kv : Value) (h1 : Vd w (fun _ => True) D kv) : Calls Tryd.prog 20 #[vlV D kv, .agg #[i64 0, i64 0, .string ⟨#[]⟩, .slice none 0 0]] w fun e w' => e = .returned (.bool true) ∧ Below w.heap.size w w' := by
  have := vrsame_refl D w kv (.slice none 0 0) h1 (by rw [hD]; exact Vd.leaf _ _ 0 0 [] (Nat.zero_le _) none 0)
  rw [hD] at this ⊢
  exact this
set_option maxRecDepth 100000 in
set_option maxHeartbeats 25600000 in
theorem plain_walk (w : World) (hE : Env w) (V U : Vl) (kv lv : Value) (hV : Vd w (fun _ => True) V kv) (hU : Vd w (fun _ => True) U lv) (T : Ty) (nv tv : Value) (hR : Rd w (fun _ => True) T nv tv) : Calls Tryd.prog 4 #[vlV V kv, vlV U lv, tyV T.kind T.num nv tv] w fun e w' => e = .returned (.bool true) ∧ Below w.heap.size w w' := by
  have HFV : Hid (∀ W, Below w.heap.size w W → Calls Tryd.prog 10 #[] W fun e w' => e = .returned (.bool true) ∧ Below W.heap.size W w') := fun W hW => five_ok W (hE.below hW)
  have HVd := hid hV
  have HUd := hid hU
  have HRd := hid hR
  obtain ⟨ak, ck, rfl⟩ := hV.form
  obtain ⟨al, cl, rfl⟩ := hU.form
  obtain ⟨an, cn, rfl, at_, ct, rfl⟩ := hR.form
  have HX : Hid ((((w.alloc (.cells #[i64 V.kind, i64 V.num, str V.s, .slice ak V.kids.length ck] 24)).alloc (.cells #[i64 U.kind, i64 U.num, str U.s, .slice al U.kids.length cl] 24)).alloc (.cells #[i64 T.kind, i64 T.num, .slice an T.names.length cn, .slice at_ T.kids.length ct] 28)).heap[w.heap.size]? = some (.cells #[i64 V.kind, i64 V.num, str V.s, .slice ak V.kids.length ck] 24)) := blk_alloc (blk_alloc (heap_last w _) _) _
  have HY : Hid ((((w.alloc (.cells #[i64 V.kind, i64 V.num, str V.s, .slice ak V.kids.length ck] 24)).alloc (.cells #[i64 U.kind, i64 U.num, str U.s, .slice al U.kids.length cl] 24)).alloc (.cells #[i64 T.kind, i64 T.num, .slice an T.names.length cn, .slice at_ T.kids.length ct] 28)).heap[w.heap.size + 1]? = some (.cells #[i64 U.kind, i64 U.num, str U.s, .slice al U.kids.length cl] 24)) := blk_alloc (heap_at3 _ _ _ (by simp)) _
  have HQ : Hid ((((w.alloc (.cells #[i64 V.kind, i64 V.num, str V.s, .slice ak V.kids.length ck] 24)).alloc (.cells #[i64 U.kind, i64 U.num, str U.s, .slice al U.kids.length cl] 24)).alloc (.cells #[i64 T.kind, i64 T.num, .slice an T.names.length cn, .slice at_ T.kids.length ct] 28)).heap[w.heap.size + 2]? = some (.cells #[i64 T.kind, i64 T.num, .slice an T.names.length cn, .slice at_ T.kids.length ct] 28)) := heap_at3 _ _ _ (by simp)
  have HBV : Hid (Below w.heap.size w (((w.alloc (.cells #[i64 V.kind, i64 V.num, str V.s, .slice ak V.kids.length ck] 24)).alloc (.cells #[i64 U.kind, i64 U.num, str U.s, .slice al U.kids.length cl] 24)).alloc (.cells #[i64 T.kind, i64 T.num, .slice an T.names.length cn, .slice at_ T.kids.length ct] 28))) := ((below_one w _).trans ((below_one _ _).mono (by simp))).trans ((below_one _ _).mono (by simp; omega))
  clear hV hU hR hE
  go_enter Tryd.func4, Tryd.ntmps4
  go_upto_region 1 with fail
  obtain ⟨Z, hZ⟩ : ∃ Z, Z = w.heap.size := ⟨_, rfl⟩
  obtain ⟨Y, hY⟩ : ∃ Y, Y = w.heap.size + 1 := ⟨_, rfl⟩
  obtain ⟨Q, hQ⟩ : ∃ Q, Q = w.heap.size + 2 := ⟨_, rfl⟩
  generalize (((w.alloc (.cells #[i64 V.kind, i64 V.num, str V.s, .slice ak V.kids.length ck] 24)).alloc (.cells #[i64 U.kind, i64 U.num, str U.s, .slice al U.kids.length cl] 24)).alloc (.cells #[i64 T.kind, i64 T.num, .slice an T.names.length cn, .slice at_ T.kids.length ct] 28)) = V0 at *
  rw [← hZ] at HX
  rw [← hY] at HY
  rw [← hQ] at HQ
  try rw [show w.heap.size + 1 + 1 = w.heap.size + 2 by omega]
  rw [← hQ, ← hY, ← hZ]
  clear hZ hY hQ
  have zc0 : V0.cell? ⟨Z, 0, none⟩ = some (i64 V.kind) := blk_cell HX.out 0
  have zc1 : V0.cell? ⟨Z, 1, none⟩ = some (i64 V.num) := blk_cell HX.out 1
  have zc2 : V0.cell? ⟨Z, 2, none⟩ = some (str V.s) := blk_cell HX.out 2
  have zc3 : V0.cell? ⟨Z, 3, none⟩ = some (.slice ak V.kids.length ck) := blk_cell HX.out 3
  have qc0 : V0.cell? ⟨Q, 0, none⟩ = some (i64 T.kind) := blk_cell HQ.out 0
  have qc1 : V0.cell? ⟨Q, 1, none⟩ = some (i64 T.num) := blk_cell HQ.out 1
  have qc2 : V0.cell? ⟨Q, 2, none⟩ = some (.slice an T.names.length cn) := blk_cell HQ.out 2
  have qc3 : V0.cell? ⟨Q, 3, none⟩ = some (.slice at_ T.kids.length ct) := blk_cell HQ.out 3
  have HMU := hid (much_ok V T V0 _ _ _ (HVd.out.under HBV.out) (HRd.out.under HBV.out))
  go_wp2_with fail
  refine HMU.out.mono ?_
  rintro e w1 ⟨b0, rfl, hb1, hf1⟩
  have HB1 : Hid (Below w.heap.size w w1) := HBV.out.trans (hb1.mono HBV.out.size)
  have HX1 : Hid (w1.heap[Z]? = some (.cells #[i64 V.kind, i64 V.num, str V.s, .slice ak V.kids.length ck] 24)) := blk_below HX.out hb1
  have HY1 : Hid (w1.heap[Y]? = some (.cells #[i64 U.kind, i64 U.num, str U.s, .slice al U.kids.length cl] 24)) := blk_below HY.out hb1
  have HQ1 : Hid (w1.heap[Q]? = some (.cells #[i64 T.kind, i64 T.num, .slice an T.names.length cn, .slice at_ T.kids.length ct] 28)) := blk_below HQ.out hb1
  have HF1 := hid hf1
  clear hb1 hf1 HMU zc0 zc1 zc2 zc3 qc0 qc1 qc2 qc3 HX HY HQ HBV
  cases b0 with
  | true =>
    clear HF1
    go_wp2_with fail
    refine (HFV.out w1 HB1.out).mono ?_
    rintro e w9 ⟨rfl, hb9⟩
    have HB9 : Hid (Below w.heap.size w w9) := HB1.out.trans (hb9.mono HB1.out.size)
    clear hb9
    go_wp2_with fail
    go_ret
    exact ⟨rfl, HB9.out⟩
  | false =>
    obtain ⟨hs1, hs2, hs3⟩ := HF1.out rfl
    have HS3 := hid hs3
    clear HF1 hs3
    have yc0 : w1.cell? ⟨Y, 0, none⟩ = some (i64 U.kind) := blk_cell HY1.out 0
    have yc1 : w1.cell? ⟨Y, 1, none⟩ = some (i64 U.num) := blk_cell HY1.out 1
    have yc2 : w1.cell? ⟨Y, 2, none⟩ = some (str U.s) := blk_cell HY1.out 2
    have yc3 : w1.cell? ⟨Y, 3, none⟩ = some (.slice al U.kids.length cl) := blk_cell HY1.out 3
    have qc0 : w1.cell? ⟨Q, 0, none⟩ = some (i64 T.kind) := blk_cell HQ1.out 0
    have qc1 : w1.cell? ⟨Q, 1, none⟩ = some (i64 T.num) := blk_cell HQ1.out 1
    have qc2 : w1.cell? ⟨Q, 2, none⟩ = some (.slice an T.names.length cn) := blk_cell HQ1.out 2
    have qc3 : w1.cell? ⟨Q, 3, none⟩ = some (.slice at_ T.kids.length ct) := blk_cell HQ1.out 3
    have HMU := hid (much_ok U T w1 _ _ _ (HUd.out.under HB1.out) (HRd.out.under HB1.out))
    go_wp2_with fail
    refine HMU.out.mono ?_
    rintro e w2 ⟨b0, rfl, hb2, hf2⟩
    have HB2 : Hid (Below w.heap.size w w2) := HB1.out.trans (hb2.mono HB1.out.size)
    have HX2 : Hid (w2.heap[Z]? = some (.cells #[i64 V.kind, i64 V.num, str V.s, .slice ak V.kids.length ck] 24)) := blk_below HX1.out hb2
    have HY2 : Hid (w2.heap[Y]? = some (.cells #[i64 U.kind, i64 U.num, str U.s, .slice al U.kids.length cl] 24)) := blk_below HY1.out hb2
    have HQ2 : Hid (w2.heap[Q]? = some (.cells #[i64 T.kind, i64 T.num, .slice an T.names.length cn, .slice at_ T.kids.length ct] 28)) := blk_below HQ1.out hb2
    have HF2 := hid hf2
    clear hb2 hf2 HMU yc0 yc1 yc2 yc3 qc0 qc1 qc2 qc3 HX1 HY1 HQ1
    cases b0 with
    | true =>
      clear HF2
      go_wp2_with fail
      refine (HFV.out w2 HB2.out).mono ?_
      rintro e w9 ⟨rfl, hb9⟩
      have HB9 : Hid (Below w.heap.size w w9) := HB2.out.trans (hb9.mono HB2.out.size)
      clear hb9
      go_wp2_with fail
      go_ret
      exact ⟨rfl, HB9.out⟩
    | false =>
      obtain ⟨ht1, _, _⟩ := HF2.out rfl
      clear HF2
      have qc0 : w2.cell? ⟨Q, 0, none⟩ = some (i64 T.kind) := blk_cell HQ2.out 0
      have qc1 : w2.cell? ⟨Q, 1, none⟩ = some (i64 T.num) := blk_cell HQ2.out 1
      have qc2 : w2.cell? ⟨Q, 2, none⟩ = some (.slice an T.names.length cn) := blk_cell HQ2.out 2
      have qc3 : w2.cell? ⟨Q, 3, none⟩ = some (.slice at_ T.kids.length ct) := blk_cell HQ2.out 3
      have HDF := hid (default_any T w2 _ _ _ (HRd.out.under HB2.out) (by omega))
      have HDz : Hid ((dfO T).size ≤ 200) := dfO_size T hs2
      have HDo : Hid (∀ D, D = dfO T → (T.err = 0 → T.err = 0 ∧ D = T.dflt) ∧ (T.err ≠ 0 → D = zV)) := fun D hD => ⟨fun h => ⟨h, by rw [hD]; unfold dfO; rw [if_pos h]⟩, fun h => by rw [hD]; unfold dfO; rw [if_neg h]⟩
      obtain ⟨D, hD⟩ : ∃ D, D = dfO T := ⟨_, rfl⟩
      have HD1 := hid (HDo.out D hD)
      rw [← hD] at HDF HDz
      clear hD HDo
      go_wp2_with fail
      refine HDF.out.mono ?_
      rintro e w3 ⟨a9, c9, rfl, hb3, hr3⟩
      have HB3 : Hid (Below w.heap.size w (w3.alloc (.cells #[i64 D.kind, i64 D.num, str D.s, .slice a9 D.kids.length c9] 24))) := (HB2.out.trans (hb3.mono HB2.out.size)).trans ((below_one w3 _).mono (Nat.le_trans HB2.out.size hb3.size))
      have HS3' : Hid (Bx4 Z Y Q w3.heap.size (.cells #[i64 V.kind, i64 V.num, str V.s, .slice ak V.kids.length ck] 24) (.cells #[i64 U.kind, i64 U.num, str U.s, .slice al U.kids.length cl] 24) (.cells #[i64 T.kind, i64 T.num, .slice an T.names.length cn, .slice at_ T.kids.length ct] 28) (.cells #[i64 D.kind, i64 D.num, str D.s, .slice a9 D.kids.length c9] 24) (w3.alloc (.cells #[i64 D.kind, i64 D.num, str D.s, .slice a9 D.kids.length c9] 24))) := ⟨blk_alloc (blk_below HX2.out hb3) _, blk_alloc (blk_below HY2.out hb3) _, blk_alloc (blk_below HQ2.out hb3) _, heap_last w3 _⟩
      have HD3 : Hid (Vd (w3.alloc (.cells #[i64 D.kind, i64 D.num, str D.s, .slice a9 D.kids.length c9] 24)) (fun _ => True) D (.slice a9 D.kids.length c9)) := (hr3.mono (S' := fun _ => True) (fun _ _ _ => trivial)).under (below_one w3 _)
      clear hb3 hr3 HDF qc0 qc1 qc2 qc3 HX2 HY2 HQ2 HB2
      go_upto_region 4 with fail
      obtain ⟨Db, hDb⟩ : ∃ Db, Db = w3.heap.size := ⟨_, rfl⟩
      rw [← hDb] at HS3' ⊢
      clear hDb
      generalize w3.alloc (.cells #[i64 D.kind, i64 D.num, str D.s, .slice a9 D.kids.length c9] 24) = w4 at *
      have qc0 : w4.cell? ⟨Q, 0, none⟩ = some (i64 T.kind) := blk_cell HS3'.out.q 0
      have qc1 : w4.cell? ⟨Q, 1, none⟩ = some (i64 T.num) := blk_cell HS3'.out.q 1
      have qc2 : w4.cell? ⟨Q, 2, none⟩ = some (.slice an T.names.length cn) := blk_cell HS3'.out.q 2
      have qc3 : w4.cell? ⟨Q, 3, none⟩ = some (.slice at_ T.kids.length ct) := blk_cell HS3'.out.q 3
      have HTY := hid (typ_any T w4 _ _ (HRd.out.under HB3.out) (by omega))
      go_wp2_with fail
      refine HTY.out.mono ?_
      rintro e w4b ⟨a2, n2, c2, rfl, hb4, hr4⟩
      have HB4 : Hid (Below w.heap.size w w4b) := HB3.out.trans (hb4.mono HB3.out.size)
      have HS4 : Hid (Bx4 Z Y Q Db (.cells #[i64 V.kind, i64 V.num, str V.s, .slice ak V.kids.length ck] 24) (.cells #[i64 U.kind, i64 U.num, str U.s, .slice al U.kids.length cl] 24) (.cells #[i64 T.kind, i64 T.num, .slice an T.names.length cn, .slice at_ T.kids.length ct] 28) (.cells #[i64 D.kind, i64 D.num, str D.s, .slice a9 D.kids.length c9] 24) w4b) := HS3'.out.under hb4
      have HD4 := hid (HD3.out.under hb4)
      have HCK := hid (rcheck_ok T w4b _ _ _ hr4 (by omega) HS3.out)
      clear hb4 hr4 HTY qc0 qc1 qc2 qc3
      obtain ⟨E, hEr⟩ : ∃ E, E = T.err := ⟨_, rfl⟩
      rw [← hEr] at HCK ⊢
      have HEr := hid hEr
      clear hEr
      have hDz : D.size ≤ 200 := HDz.out
      go_wp2_with fail
      refine HCK.out.mono ?_
      rintro e w5 ⟨rfl, hb5⟩
      have HB5 : Hid (Below w.heap.size w w5) := HB4.out.trans (hb5.mono HB4.out.size)
      have HS5 : Hid (Bx4 Z Y Q Db (.cells #[i64 V.kind, i64 V.num, str V.s, .slice ak V.kids.length ck] 24) (.cells #[i64 U.kind, i64 U.num, str U.s, .slice al U.kids.length cl] 24) (.cells #[i64 T.kind, i64 T.num, .slice an T.names.length cn, .slice at_ T.kids.length ct] 28) (.cells #[i64 D.kind, i64 D.num, str D.s, .slice a9 D.kids.length c9] 24) w5) := HS4.out.under hb5
      have HDd := hid (HD4.out.under hb5)
      clear hb5 HCK HB4 HS4 HD4 HB3 HS3' HD3
      by_cases hE0 : E = 0
      · have HDe : Hid (T.err = 0 ∧ D = T.dflt) := HD1.out.1 (by rw [← HEr.out]; exact hE0)
        have f1 : (E != E) = false := by simp
        have f2 : (E == 0) = true := by simpa using hE0
        have f3 : (E != 0) = false := by simpa using hE0
        clear hE0 HEr
        have HB5d : Hid (Below w.heap.size w w5.drew) := HB5.out.trans ((dr_below w5).mono HB5.out.size)
        have HS5d : Hid (Bx4 Z Y Q Db (.cells #[i64 V.kind, i64 V.num, str V.s, .slice ak V.kids.length ck] 24) (.cells #[i64 U.kind, i64 U.num, str U.s, .slice al U.kids.length cl] 24) (.cells #[i64 T.kind, i64 T.num, .slice an T.names.length cn, .slice at_ T.kids.length ct] 28) (.cells #[i64 D.kind, i64 D.num, str D.s, .slice a9 D.kids.length c9] 24) w5.drew) := HS5.out.under (dr_below w5)
        have HVa : Hid (Vd w5.drew (fun _ => True) V (.slice ak V.kids.length ck)) := HVd.out.under HB5d.out
        have HVb : Hid (Vd w5.drew (fun _ => True) U (.slice al U.kids.length cl)) := HUd.out.under HB5d.out
        have HVd_ : Hid (Vd w5.drew (fun _ => True) D (.slice a9 D.kids.length c9)) := HDd.out.under (dr_below w5)
        have HRt : Hid (Rd w5.drew (fun _ => True) T (.slice an T.names.length cn) (.slice at_ T.kids.length ct)) := HRd.out.under HB5d.out
        go_upto_region 5 with fail
        refine wp_region_noPanic ?_
        refine wp_region_last (Bx4 Z Y Q Db (.cells #[i64 V.kind, i64 V.num, str V.s, .slice ak V.kids.length ck] 24) (.cells #[i64 U.kind, i64 U.num, str U.s, .slice al U.kids.length cl] 24) (.cells #[i64 T.kind, i64 T.num, .slice an T.names.length cn, .slice at_ T.kids.length ct] 28) (.cells #[i64 D.kind, i64 D.num, str D.s, .slice a9 D.kids.length c9] 24)) 26 (by kernel_rfl) ?_
        refine wpL_take 0 27 (i64 E) [2, 3, 15, 16] rfl rfl (by kernel_rfl) (by decide) (by kernel_rfl) (by kernel_rfl) (by kernel_rfl) (fun _ _ _ h => h) HS5d.out (by rfl) (fun W hW => by go_simp) ?_
        simp only [Act.put, List.setIfInBounds_toArray, List.set_cons_zero, List.set_cons_succ]
        refine wpL_take 1 28 (i64 E) [2, 3, 15, 16] rfl rfl (by kernel_rfl) (by decide) (by kernel_rfl) (by kernel_rfl) (by kernel_rfl) (fun _ _ _ h => h) HS5d.out (by rfl) (fun W hW => by go_simp) ?_
        simp only [Act.put, List.setIfInBounds_toArray, List.set_cons_zero, List.set_cons_succ]
        refine wpL_take 2 29 (.bool false) [3, 15, 16] rfl rfl (by kernel_rfl) (by decide) (by kernel_rfl) (by kernel_rfl) (by kernel_rfl) (fun _ _ _ h => h) HS5d.out (by rfl) (fun W hW => by go_simp) ?_
        simp only [Act.put, List.setIfInBounds_toArray, List.set_cons_zero, List.set_cons_succ]
        refine wpL_take 3 30 (.bool false) [15, 16] rfl rfl (by kernel_rfl) (by decide) (by kernel_rfl) (by kernel_rfl) (by kernel_rfl) (fun _ _ _ h => h) HS5d.out (by rfl) (fun W hW => by go_simp) ?_
        simp only [Act.put, List.setIfInBounds_toArray, List.set_cons_zero, List.set_cons_succ]
        refine wpL_take 4 31 (i64 E) [5, 6, 12, 16] rfl rfl (by kernel_rfl) (by decide) (by kernel_rfl) (by kernel_rfl) (by kernel_rfl) (fun _ _ _ h => h) HS5d.out (by rfl) (fun W hW => by go_simp) ?_
        simp only [Act.put, List.setIfInBounds_toArray, List.set_cons_zero, List.set_cons_succ]
        refine wpL_take 5 32 (.bool true) [6, 12, 16] rfl rfl (by kernel_rfl) (by decide) (by kernel_rfl) (by kernel_rfl) (by kernel_rfl) (fun _ _ _ h => h) HS5d.out (by rfl) (fun W hW => by go_simp) ?_
        simp only [Act.put, List.setIfInBounds_toArray, List.set_cons_zero, List.set_cons_succ]
        refine wpL_take 6 33 (.bool true) [12, 16] rfl rfl (by kernel_rfl) (by decide) (by kernel_rfl) (by kernel_rfl) (by kernel_rfl) (fun _ _ _ h => h) HS5d.out (by rfl) (fun W hW => by go_simp) ?_
        simp only [Act.put, List.setIfInBounds_toArray, List.set_cons_zero, List.set_cons_succ]
        refine wpL_take 7 34 (.agg #[i64 D.kind, i64 D.num, str D.s, .slice a9 D.kids.length c9]) [8, 12, 16] rfl rfl (by kernel_rfl) (by decide) (by kernel_rfl) (by kernel_rfl) (by kernel_rfl) (fun _ _ _ h => h) HS5d.out (by rfl) (fun W hW => by exact exec_load 24 (.tmp 7) rfl rfl (load24 hW.d)) ?_
        simp only [Act.put, List.setIfInBounds_toArray, List.set_cons_zero, List.set_cons_succ]
        refine wpL_take 9 36 (.agg #[i64 T.kind, i64 T.num, .slice an T.names.length cn, .slice at_ T.kids.length ct]) [10, 11, 12, 16] rfl rfl (by kernel_rfl) (by decide) (by kernel_rfl) (by kernel_rfl) (by kernel_rfl) (fun _ _ _ h => h) HS5d.out (by rfl) (fun W hW => by exact exec_load 28 (.tmp 5) rfl rfl (load28 hW.q)) ?_
        simp only [Act.put, List.setIfInBounds_toArray, List.set_cons_zero, List.set_cons_succ]
        refine wpL_one 8 rfl (by kernel_rfl) (by rfl) (fun K hK => ?_)
        go_simp
        refine (val_ok _ D (Nat.le_refl _) (by omega) w5.drew (fun _ => True) _ (HVd_.out)).mono ?_
        rintro e x1 ⟨b1, d1, rfl, hb, hd⟩
        have HXB1 : Hid (Below w.heap.size w x1) := HB5d.out.trans (hb.mono HB5d.out.size)
        have HXS1 : Hid (Bx4 Z Y Q Db (.cells #[i64 V.kind, i64 V.num, str V.s, .slice ak V.kids.length ck] 24) (.cells #[i64 U.kind, i64 U.num, str U.s, .slice al U.kids.length cl] 24) (.cells #[i64 T.kind, i64 T.num, .slice an T.names.length cn, .slice at_ T.kids.length ct] 28) (.cells #[i64 D.kind, i64 D.num, str D.s, .slice a9 D.kids.length c9] 24) x1) := HS5d.out.under hb
        have HVa_1 : Hid (Vd x1 (fun _ => True) V (.slice ak V.kids.length ck)) := HVa.out.under hb
        have HVb_1 : Hid (Vd x1 (fun _ => True) U (.slice al U.kids.length cl)) := HVb.out.under hb
        have HVd_1 : Hid (Vd x1 (fun _ => True) D (.slice a9 D.kids.length c9)) := HVd_.out.under hb
        have HRt_1 : Hid (Rd x1 (fun _ => True) T (.slice an T.names.length cn) (.slice at_ T.kids.length ct)) := HRt.out.under hb
        have HD1_1 : Hid (Vd x1 (fun _ => True) D (.slice b1 D.kids.length d1)) := hd.mono (fun _ _ _ => trivial)
        clear hb hd
        go_simp
        refine hK.out _ _ (fun _ => HXS1.out) ?_
        clear hK K
        refine wpL_one 10 rfl (by kernel_rfl) (by rfl) (fun K hK => ?_)
        go_simp
        refine (typ_any T x1 _ _ (HRt_1.out) (by omega)).mono ?_
        rintro e x2 ⟨t1, n1, u1, rfl, hb, hd⟩
        have HXB2 : Hid (Below w.heap.size w x2) := HXB1.out.trans (hb.mono HXB1.out.size)
        have HXS2 : Hid (Bx4 Z Y Q Db (.cells #[i64 V.kind, i64 V.num, str V.s, .slice ak V.kids.length ck] 24) (.cells #[i64 U.kind, i64 U.num, str U.s, .slice al U.kids.length cl] 24) (.cells #[i64 T.kind, i64 T.num, .slice an T.names.length cn, .slice at_ T.kids.length ct] 28) (.cells #[i64 D.kind, i64 D.num, str D.s, .slice a9 D.kids.length c9] 24) x2) := HXS1.out.under hb
        have HVa_2 : Hid (Vd x2 (fun _ => True) V (.slice ak V.kids.length ck)) := HVa_1.out.under hb
        have HVb_2 : Hid (Vd x2 (fun _ => True) U (.slice al U.kids.length cl)) := HVb_1.out.under hb
        have HVd_2 : Hid (Vd x2 (fun _ => True) D (.slice a9 D.kids.length c9)) := HVd_1.out.under hb
        have HRt_2 : Hid (Rd x2 (fun _ => True) T (.slice an T.names.length cn) (.slice at_ T.kids.length ct)) := HRt_1.out.under hb
        have HD1_2 : Hid (Vd x2 (fun _ => True) D (.slice b1 D.kids.length d1)) := HD1_1.out.under hb
        have HT1_2 : Hid (Rd x2 (fun _ => True) T (.slice an T.names.length cn) (.slice t1 n1 u1)) := hd
        clear hb hd
        go_simp
        refine hK.out _ _ (fun _ => HXS2.out) ?_
        clear hK K
        refine wpL_one 11 rfl (by kernel_rfl) (by rfl) (fun K hK => ?_)
        go_simp
        refine (rplainD T D HDe.out x2 _ _ (HT1_2.out) (by omega)).mono ?_
        rintro e x3 ⟨b2, d2, rfl, hb, hd⟩
        have HXB3 : Hid (Below w.heap.size w x3) := HXB2.out.trans (hb.mono HXB2.out.size)
        have HXS3 : Hid (Bx4 Z Y Q Db (.cells #[i64 V.kind, i64 V.num, str V.s, .slice ak V.kids.length ck] 24) (.cells #[i64 U.kind, i64 U.num, str U.s, .slice al U.kids.length cl] 24) (.cells #[i64 T.kind, i64 T.num, .slice an T.names.length cn, .slice at_ T.kids.length ct] 28) (.cells #[i64 D.kind, i64 D.num, str D.s, .slice a9 D.kids.length c9] 24) x3) := HXS2.out.under hb
        have HVa_3 : Hid (Vd x3 (fun _ => True) V (.slice ak V.kids.length ck)) := HVa_2.out.under hb
        have HVb_3 : Hid (Vd x3 (fun _ => True) U (.slice al U.kids.length cl)) := HVb_2.out.under hb
        have HVd_3 : Hid (Vd x3 (fun _ => True) D (.slice a9 D.kids.length c9)) := HVd_2.out.under hb
        have HRt_3 : Hid (Rd x3 (fun _ => True) T (.slice an T.names.length cn) (.slice at_ T.kids.length ct)) := HRt_2.out.under hb
        have HD1_3 : Hid (Vd x3 (fun _ => True) D (.slice b1 D.kids.length d1)) := HD1_2.out.under hb
        have HT1_3 : Hid (Rd x3 (fun _ => True) T (.slice an T.names.length cn) (.slice t1 n1 u1)) := HT1_2.out.under hb
        have HD2_3 : Hid (Vd x3 (fun _ => True) D (.slice b2 D.kids.length d2)) := hd.mono (fun _ _ _ => trivial)
        clear hb hd
        go_simp
        refine hK.out _ _ (fun _ => HXS3.out) ?_
        clear hK K
        refine wpL_one 12 rfl (by kernel_rfl) (by rfl) (fun K hK => ?_)
        go_simp
        refine (hid (vrsame_refl D x3 _ _ (HD1_3.out) (HD2_3.out)) |>.out).mono ?_
        rintro e x4 ⟨rfl, hb⟩
        have HXB4 : Hid (Below w.heap.size w x4) := HXB3.out.trans (hb.mono HXB3.out.size)
        have HXS4 : Hid (Bx4 Z Y Q Db (.cells #[i64 V.kind, i64 V.num, str V.s, .slice ak V.kids.length ck] 24) (.cells #[i64 U.kind, i64 U.num, str U.s, .slice al U.kids.length cl] 24) (.cells #[i64 T.kind, i64 T.num, .slice an T.names.length cn, .slice at_ T.kids.length ct] 28) (.cells #[i64 D.kind, i64 D.num, str D.s, .slice a9 D.kids.length c9] 24) x4) := HXS3.out.under hb
        have HVa_4 : Hid (Vd x4 (fun _ => True) V (.slice ak V.kids.length ck)) := HVa_3.out.under hb
        have HVb_4 : Hid (Vd x4 (fun _ => True) U (.slice al U.kids.length cl)) := HVb_3.out.under hb
        have HVd_4 : Hid (Vd x4 (fun _ => True) D (.slice a9 D.kids.length c9)) := HVd_3.out.under hb
        have HRt_4 : Hid (Rd x4 (fun _ => True) T (.slice an T.names.length cn) (.slice at_ T.kids.length ct)) := HRt_3.out.under hb
        have HD1_4 : Hid (Vd x4 (fun _ => True) D (.slice b1 D.kids.length d1)) := HD1_3.out.under hb
        have HT1_4 : Hid (Rd x4 (fun _ => True) T (.slice an T.names.length cn) (.slice t1 n1 u1)) := HT1_3.out.under hb
        have HD2_4 : Hid (Vd x4 (fun _ => True) D (.slice b2 D.kids.length d2)) := HD2_3.out.under hb
        clear hb
        go_simp
        refine hK.out _ _ (fun _ => HXS4.out) ?_
        clear hK K
        refine wpL_take 13 40 (.bool false) [14, 15, 16] rfl rfl (by kernel_rfl) (by decide) (by kernel_rfl) (by kernel_rfl) (by kernel_rfl) (fun _ _ _ h => h) HXS4.out (by rfl) (fun W hW => by go_simp) ?_
        simp only [Act.put, List.setIfInBounds_toArray, List.set_cons_zero, List.set_cons_succ]
        refine wpL_take 14 41 (.bool false) [15, 16] rfl rfl (by kernel_rfl) (by decide) (by kernel_rfl) (by kernel_rfl) (by kernel_rfl) (fun _ _ _ h => h) HXS4.out (by rfl) (fun W hW => by go_simp) ?_
        simp only [Act.put, List.setIfInBounds_toArray, List.set_cons_zero, List.set_cons_succ]
        refine wpL_take 15 42 (.bool false) [16] rfl rfl (by kernel_rfl) (by decide) (by kernel_rfl) (by kernel_rfl) (by kernel_rfl) (fun _ _ _ h => h) HXS4.out (by rfl) (fun W hW => by go_simp) ?_
        simp only [Act.put, List.setIfInBounds_toArray, List.set_cons_zero, List.set_cons_succ]
        refine wpL_take 16 43 (.bool false) [] rfl rfl (by kernel_rfl) (by decide) (by kernel_rfl) (by kernel_rfl) (by kernel_rfl) (fun _ _ _ h => h) HXS4.out (by rfl) (fun W hW => by go_simp) ?_
        simp only [Act.put, List.setIfInBounds_toArray, List.set_cons_zero, List.set_cons_succ]
        refine wpL_take 17 44 (i64 E) [18, 19, 25] rfl rfl (by kernel_rfl) (by decide) (by kernel_rfl) (by kernel_rfl) (by kernel_rfl) (fun _ _ _ h => h) HXS4.out (by rfl) (fun W hW => by go_simp) ?_
        simp only [Act.put, List.setIfInBounds_toArray, List.set_cons_zero, List.set_cons_succ]
        refine wpL_take 18 45 (.bool false) [19, 25] rfl rfl (by kernel_rfl) (by decide) (by kernel_rfl) (by kernel_rfl) (by kernel_rfl) (fun _ _ _ h => h) HXS4.out (by rfl) (fun W hW => by go_simp) ?_
        simp only [Act.put, List.setIfInBounds_toArray, List.set_cons_zero, List.set_cons_succ]
        refine wpL_take 19 46 (.bool false) [25] rfl rfl (by kernel_rfl) (by decide) (by kernel_rfl) (by kernel_rfl) (by kernel_rfl) (fun _ _ _ h => h) HXS4.out (by rfl) (fun W hW => by go_simp) ?_
        simp only [Act.put, List.setIfInBounds_toArray, List.set_cons_zero, List.set_cons_succ]
        refine wpL_skip 20 47 [21, 23, 24, 25] rfl rfl (by kernel_rfl) (by decide) (by kernel_rfl) (by kernel_rfl) (by kernel_rfl) (fun _ _ _ h => h) HXS4.out (by rfl) ?_
        simp only [Act.put, List.setIfInBounds_toArray, List.set_cons_zero, List.set_cons_succ]
        refine wpL_skip 21 48 [23, 24, 25] rfl rfl (by kernel_rfl) (by decide) (by kernel_rfl) (by kernel_rfl) (by kernel_rfl) (fun _ _ _ h => h) HXS4.out (by rfl) ?_
        simp only [Act.put, List.setIfInBounds_toArray, List.set_cons_zero, List.set_cons_succ]
        refine wpL_skip 22 49 [23, 24, 25] rfl rfl (by kernel_rfl) (by decide) (by kernel_rfl) (by kernel_rfl) (by kernel_rfl) (fun _ _ _ h => h) HXS4.out (by rfl) ?_
        simp only [Act.put, List.setIfInBounds_toArray, List.set_cons_zero, List.set_cons_succ]
        refine wpL_skip 23 50 [24, 25] rfl rfl (by kernel_rfl) (by decide) (by kernel_rfl) (by kernel_rfl) (by kernel_rfl) (fun _ _ _ h => h) HXS4.out (by rfl) ?_
        simp only [Act.put, List.setIfInBounds_toArray, List.set_cons_zero, List.set_cons_succ]
        refine wpL_skip 24 51 [25] rfl rfl (by kernel_rfl) (by decide) (by kernel_rfl) (by kernel_rfl) (by kernel_rfl) (fun _ _ _ h => h) HXS4.out (by rfl) ?_
        simp only [Act.put, List.setIfInBounds_toArray, List.set_cons_zero, List.set_cons_succ]
        refine wpL_take 25 52 (.bool false) [] rfl rfl (by kernel_rfl) (by decide) (by kernel_rfl) (by kernel_rfl) (by kernel_rfl) (fun _ _ _ h => h) HXS4.out (by rfl) (fun W hW => by go_simp) ?_
        simp only [Act.put, List.setIfInBounds_toArray, List.set_cons_zero, List.set_cons_succ]
        refine wpL_one 26 rfl (by kernel_rfl) (by rfl) (fun K hK => ?_)
        go_simp
        refine hK.out _ _ (fun h => absurd rfl h) ?_
        clear hK K
        refine wpL_done (by kernel_rfl) ?_
        refine NoPanic.normal ?_
        go_wp2_with fail
        have HB6 := HXB4
        have HS6 := HXS4
        generalize x4 = w6 at *
        go_upto_region 7 with fail
        have HB6d : Hid (Below w.heap.size w w6.drew) := HB6.out.trans ((dr_below w6).mono HB6.out.size)
        have HS6d : Hid (Bx4 Z Y Q Db (.cells #[i64 V.kind, i64 V.num, str V.s, .slice ak V.kids.length ck] 24) (.cells #[i64 U.kind, i64 U.num, str U.s, .slice al U.kids.length cl] 24) (.cells #[i64 T.kind, i64 T.num, .slice an T.names.length cn, .slice at_ T.kids.length ct] 28) (.cells #[i64 D.kind, i64 D.num, str D.s, .slice a9 D.kids.length c9] 24) w6.drew) := HS6.out.under (dr_below w6)
        have HVa_0 : Hid (Vd w6.drew (fun _ => True) V (.slice ak V.kids.length ck)) := HVd.out.under HB6d.out
        have HVb_0 : Hid (Vd w6.drew (fun _ => True) U (.slice al U.kids.length cl)) := HUd.out.under HB6d.out
        have HVa := HVa_0
        have HVb := HVb_0
        refine wp_region_noPanic ?_
        refine wp_region_last (Bx4 Z Y Q Db (.cells #[i64 V.kind, i64 V.num, str V.s, .slice ak V.kids.length ck] 24) (.cells #[i64 U.kind, i64 U.num, str U.s, .slice al U.kids.length cl] 24) (.cells #[i64 T.kind, i64 T.num, .slice an T.names.length cn, .slice at_ T.kids.length ct] 28) (.cells #[i64 D.kind, i64 D.num, str D.s, .slice a9 D.kids.length c9] 24)) 28 (by kernel_rfl) ?_
        refine wpL_take 0 54 (.agg #[i64 V.kind, i64 V.num, str V.s, .slice ak V.kids.length ck]) [] rfl rfl (by kernel_rfl) (by decide) (by kernel_rfl) (by kernel_rfl) (by kernel_rfl) (fun _ _ _ h => h) HS6d.out (by rfl) (fun W hW => by exact exec_load 24 (.tmp 3) rfl rfl (load24 hW.z)) ?_
        simp only [Act.put, List.setIfInBounds_toArray, List.set_cons_zero, List.set_cons_succ]
        refine wpL_take 1 55 (.agg #[i64 U.kind, i64 U.num, str U.s, .slice al U.kids.length cl]) [] rfl rfl (by kernel_rfl) (by decide) (by kernel_rfl) (by kernel_rfl) (by kernel_rfl) (fun _ _ _ h => h) HS6d.out (by rfl) (fun W hW => by exact exec_load 24 (.tmp 4) rfl rfl (load24 hW.y)) ?_
        simp only [Act.put, List.setIfInBounds_toArray, List.set_cons_zero, List.set_cons_succ]
        refine wpL_take 3 57 (.agg #[i64 V.kind, i64 V.num, str V.s, .slice ak V.kids.length ck]) [] rfl rfl (by kernel_rfl) (by decide) (by kernel_rfl) (by kernel_rfl) (by kernel_rfl) (fun _ _ _ h => h) HS6d.out (by rfl) (fun W hW => by exact exec_load 24 (.tmp 3) rfl rfl (load24 hW.z)) ?_
        simp only [Act.put, List.setIfInBounds_toArray, List.set_cons_zero, List.set_cons_succ]
        refine wpL_take 5 59 (.agg #[i64 U.kind, i64 U.num, str U.s, .slice al U.kids.length cl]) [] rfl rfl (by kernel_rfl) (by decide) (by kernel_rfl) (by kernel_rfl) (by kernel_rfl) (fun _ _ _ h => h) HS6d.out (by rfl) (fun W hW => by exact exec_load 24 (.tmp 4) rfl rfl (load24 hW.y)) ?_
        simp only [Act.put, List.setIfInBounds_toArray, List.set_cons_zero, List.set_cons_succ]
        refine wpL_one 2 rfl (by kernel_rfl) (by rfl) (fun K hK => ?_)
        go_simp
        refine (hid (vsame_ok V U w6.drew (fun _ => True) _ _ (HVa.out) (HVb.out) (by omega)) |>.out).mono ?_
        rintro e x1 ⟨rfl, hb⟩
        have HXB1 : Hid (Below w.heap.size w x1) := HB6d.out.trans (hb.mono HB6d.out.size)
        have HXS1 : Hid (Bx4 Z Y Q Db (.cells #[i64 V.kind, i64 V.num, str V.s, .slice ak V.kids.length ck] 24) (.cells #[i64 U.kind, i64 U.num, str U.s, .slice al U.kids.length cl] 24) (.cells #[i64 T.kind, i64 T.num, .slice an T.names.length cn, .slice at_ T.kids.length ct] 28) (.cells #[i64 D.kind, i64 D.num, str D.s, .slice a9 D.kids.length c9] 24) x1) := HS6d.out.under hb
        have HVa_1 : Hid (Vd x1 (fun _ => True) V (.slice ak V.kids.length ck)) := HVa.out.under hb
        have HVb_1 : Hid (Vd x1 (fun _ => True) U (.slice al U.kids.length cl)) := HVb.out.under hb
        clear hb
        go_simp
        refine hK.out _ _ (fun _ => HXS1.out) ?_
        clear hK K
        refine wpL_one 4 rfl (by kernel_rfl) (by rfl) (fun K hK => ?_)
        go_simp
        refine (val_ok _ V (Nat.le_refl _) (by omega) x1 (fun _ => True) _ (HVa_1.out)).mono ?_
        rintro e x2 ⟨p1, q1, rfl, hb, hd⟩
        have HXB2 : Hid (Below w.heap.size w x2) := HXB1.out.trans (hb.mono HXB1.out.size)
        have HXS2 : Hid (Bx4 Z Y Q Db (.cells #[i64 V.kind, i64 V.num, str V.s, .slice ak V.kids.length ck] 24) (.cells #[i64 U.kind, i64 U.num, str U.s, .slice al U.kids.length cl] 24) (.cells #[i64 T.kind, i64 T.num, .slice an T.names.length cn, .slice at_ T.kids.length ct] 28) (.cells #[i64 D.kind, i64 D.num, str D.s, .slice a9 D.kids.length c9] 24) x2) := HXS1.out.under hb
        have HVa_2 : Hid (Vd x2 (fun _ => True) V (.slice ak V.kids.length ck)) := HVa_1.out.under hb
        have HVb_2 : Hid (Vd x2 (fun _ => True) U (.slice al U.kids.length cl)) := HVb_1.out.under hb
        have HA1_2 : Hid (Vd x2 (fun _ => True) V (.slice p1 V.kids.length q1)) := hd.mono (fun _ _ _ => trivial)
        clear hb hd
        go_simp
        refine hK.out _ _ (fun _ => HXS2.out) ?_
        clear hK K
        refine wpL_one 6 rfl (by kernel_rfl) (by rfl) (fun K hK => ?_)
        go_simp
        refine (val_ok _ U (Nat.le_refl _) (by omega) x2 (fun _ => True) _ (HVb_2.out)).mono ?_
        rintro e x3 ⟨p2, q2, rfl, hb, hd⟩
        have HXB3 : Hid (Below w.heap.size w x3) := HXB2.out.trans (hb.mono HXB2.out.size)
        have HXS3 : Hid (Bx4 Z Y Q Db (.cells #[i64 V.kind, i64 V.num, str V.s, .slice ak V.kids.length ck] 24) (.cells #[i64 U.kind, i64 U.num, str U.s, .slice al U.kids.length cl] 24) (.cells #[i64 T.kind, i64 T.num, .slice an T.names.length cn, .slice at_ T.kids.length ct] 28) (.cells #[i64 D.kind, i64 D.num, str D.s, .slice a9 D.kids.length c9] 24) x3) := HXS2.out.under hb
        have HVa_3 : Hid (Vd x3 (fun _ => True) V (.slice ak V.kids.length ck)) := HVa_2.out.under hb
        have HVb_3 : Hid (Vd x3 (fun _ => True) U (.slice al U.kids.length cl)) := HVb_2.out.under hb
        have HA1_3 : Hid (Vd x3 (fun _ => True) V (.slice p1 V.kids.length q1)) := HA1_2.out.under hb
        have HU1_3 : Hid (Vd x3 (fun _ => True) U (.slice p2 U.kids.length q2)) := hd.mono (fun _ _ _ => trivial)
        clear hb hd
        go_simp
        refine hK.out _ _ (fun _ => HXS3.out) ?_
        clear hK K
        refine wpL_one 7 rfl (by kernel_rfl) (by rfl) (fun K hK => ?_)
        go_simp
        refine (vrsame_ok _ V (Nat.le_refl _) U x3 (fun _ => True) _ _ (HA1_3.out) (HU1_3.out)).mono ?_
        rintro e x4 ⟨rfl, hb⟩
        have HXB4 : Hid (Below w.heap.size w x4) := HXB3.out.trans (hb.mono HXB3.out.size)
        have HXS4 : Hid (Bx4 Z Y Q Db (.cells #[i64 V.kind, i64 V.num, str V.s, .slice ak V.kids.length ck] 24) (.cells #[i64 U.kind, i64 U.num, str U.s, .slice al U.kids.length cl] 24) (.cells #[i64 T.kind, i64 T.num, .slice an T.names.length cn, .slice at_ T.kids.length ct] 28) (.cells #[i64 D.kind, i64 D.num, str D.s, .slice a9 D.kids.length c9] 24) x4) := HXS3.out.under hb
        have HVa_4 : Hid (Vd x4 (fun _ => True) V (.slice ak V.kids.length ck)) := HVa_3.out.under hb
        have HVb_4 : Hid (Vd x4 (fun _ => True) U (.slice al U.kids.length cl)) := HVb_3.out.under hb
        have HA1_4 : Hid (Vd x4 (fun _ => True) V (.slice p1 V.kids.length q1)) := HA1_3.out.under hb
        have HU1_4 : Hid (Vd x4 (fun _ => True) U (.slice p2 U.kids.length q2)) := HU1_3.out.under hb
        clear hb
        go_simp
        refine hK.out _ _ (fun _ => HXS4.out) ?_
        clear hK K
        refine wpL_take 8 62 (.bool true) [] rfl rfl (by kernel_rfl) (by decide) (by kernel_rfl) (by kernel_rfl) (by kernel_rfl) (fun _ _ _ h => h) HXS4.out (by rfl) (fun W hW => by go_simp) ?_
        simp only [Act.put, List.setIfInBounds_toArray, List.set_cons_zero, List.set_cons_succ]
        refine wpL_take 9 63 (.bool true) [] rfl rfl (by kernel_rfl) (by decide) (by kernel_rfl) (by kernel_rfl) (by kernel_rfl) (fun _ _ _ h => h) HXS4.out (by rfl) (fun W hW => by go_simp) ?_
        simp only [Act.put, List.setIfInBounds_toArray, List.set_cons_zero, List.set_cons_succ]
        refine wpL_take 10 64 (.agg #[i64 V.kind, i64 V.num, str V.s, .slice ak V.kids.length ck]) [] rfl rfl (by kernel_rfl) (by decide) (by kernel_rfl) (by kernel_rfl) (by kernel_rfl) (fun _ _ _ h => h) HXS4.out (by rfl) (fun W hW => by exact exec_load 24 (.tmp 3) rfl rfl (load24 hW.z)) ?_
        simp only [Act.put, List.setIfInBounds_toArray, List.set_cons_zero, List.set_cons_succ]
        refine wpL_take 12 66 (.agg #[i64 V.kind, i64 V.num, str V.s, .slice ak V.kids.length ck]) [] rfl rfl (by kernel_rfl) (by decide) (by kernel_rfl) (by kernel_rfl) (by kernel_rfl) (fun _ _ _ h => h) HXS4.out (by rfl) (fun W hW => by exact exec_load 24 (.tmp 3) rfl rfl (load24 hW.z)) ?_
        simp only [Act.put, List.setIfInBounds_toArray, List.set_cons_zero, List.set_cons_succ]
        refine wpL_one 11 rfl (by kernel_rfl) (by rfl) (fun K hK => ?_)
        go_simp
        refine (size_ok V x4 (fun _ => True) _ (HVa_4.out) (by omega)).mono ?_
        rintro e x5 ⟨rfl, hb⟩
        have HXB5 : Hid (Below w.heap.size w x5) := HXB4.out.trans (hb.mono HXB4.out.size)
        have HXS5 : Hid (Bx4 Z Y Q Db (.cells #[i64 V.kind, i64 V.num, str V.s, .slice ak V.kids.length ck] 24) (.cells #[i64 U.kind, i64 U.num, str U.s, .slice al U.kids.length cl] 24) (.cells #[i64 T.kind, i64 T.num, .slice an T.names.length cn, .slice at_ T.kids.length ct] 28) (.cells #[i64 D.kind, i64 D.num, str D.s, .slice a9 D.kids.length c9] 24) x5) := HXS4.out.under hb
        have HVa_5 : Hid (Vd x5 (fun _ => True) V (.slice ak V.kids.length ck)) := HVa_4.out.under hb
        have HVb_5 : Hid (Vd x5 (fun _ => True) U (.slice al U.kids.length cl)) := HVb_4.out.under hb
        have HA1_5 : Hid (Vd x5 (fun _ => True) V (.slice p1 V.kids.length q1)) := HA1_4.out.under hb
        have HU1_5 : Hid (Vd x5 (fun _ => True) U (.slice p2 U.kids.length q2)) := HU1_4.out.under hb
        clear hb
        go_simp
        refine hK.out _ _ (fun _ => HXS5.out) ?_
        clear hK K
        refine wpL_one 13 rfl (by kernel_rfl) (by rfl) (fun K hK => ?_)
        go_simp
        refine (val_ok _ V (Nat.le_refl _) (by omega) x5 (fun _ => True) _ (HVa_5.out)).mono ?_
        rintro e x6 ⟨p3, q3, rfl, hb, hd⟩
        have HXB6 : Hid (Below w.heap.size w x6) := HXB5.out.trans (hb.mono HXB5.out.size)
        have HXS6 : Hid (Bx4 Z Y Q Db (.cells #[i64 V.kind, i64 V.num, str V.s, .slice ak V.kids.length ck] 24) (.cells #[i64 U.kind, i64 U.num, str U.s, .slice al U.kids.length cl] 24) (.cells #[i64 T.kind, i64 T.num, .slice an T.names.length cn, .slice at_ T.kids.length ct] 28) (.cells #[i64 D.kind, i64 D.num, str D.s, .slice a9 D.kids.length c9] 24) x6) := HXS5.out.under hb
        have HVa_6 : Hid (Vd x6 (fun _ => True) V (.slice ak V.kids.length ck)) := HVa_5.out.under hb
        have HVb_6 : Hid (Vd x6 (fun _ => True) U (.slice al U.kids.length cl)) := HVb_5.out.under hb
        have HA1_6 : Hid (Vd x6 (fun _ => True) V (.slice p1 V.kids.length q1)) := HA1_5.out.under hb
        have HU1_6 : Hid (Vd x6 (fun _ => True) U (.slice p2 U.kids.length q2)) := HU1_5.out.under hb
        have HA2_6 : Hid (Vd x6 (fun _ => True) V (.slice p3 V.kids.length q3)) := hd.mono (fun _ _ _ => trivial)
        clear hb hd
        go_simp
        refine hK.out _ _ (fun _ => HXS6.out) ?_
        clear hK K
        refine wpL_one 14 rfl (by kernel_rfl) (by rfl) (fun K hK => ?_)
        go_simp
        refine (rsize_ok _ V (Nat.le_refl _) (by omega) x6 (fun _ => True) _ (HA2_6.out)).mono ?_
        rintro e x7 ⟨rfl, hb⟩
        have HXB7 : Hid (Below w.heap.size w x7) := HXB6.out.trans (hb.mono HXB6.out.size)
        have HXS7 : Hid (Bx4 Z Y Q Db (.cells #[i64 V.kind, i64 V.num, str V.s, .slice ak V.kids.length ck] 24) (.cells #[i64 U.kind, i64 U.num, str U.s, .slice al U.kids.length cl] 24) (.cells #[i64 T.kind, i64 T.num, .slice an T.names.length cn, .slice at_ T.kids.length ct] 28) (.cells #[i64 D.kind, i64 D.num, str D.s, .slice a9 D.kids.length c9] 24) x7) := HXS6.out.under hb
        have HVa_7 : Hid (Vd x7 (fun _ => True) V (.slice ak V.kids.length ck)) := HVa_6.out.under hb
        have HVb_7 : Hid (Vd x7 (fun _ => True) U (.slice al U.kids.length cl)) := HVb_6.out.under hb
        have HA1_7 : Hid (Vd x7 (fun _ => True) V (.slice p1 V.kids.length q1)) := HA1_6.out.under hb
        have HU1_7 : Hid (Vd x7 (fun _ => True) U (.slice p2 U.kids.length q2)) := HU1_6.out.under hb
        have HA2_7 : Hid (Vd x7 (fun _ => True) V (.slice p3 V.kids.length q3)) := HA2_6.out.under hb
        clear hb
        go_simp
        refine hK.out _ _ (fun _ => HXS7.out) ?_
        clear hK K
        refine wpL_take 15 69 (.bool true) [] rfl rfl (by kernel_rfl) (by decide) (by kernel_rfl) (by kernel_rfl) (by kernel_rfl) (fun _ _ _ h => h) HXS7.out (by rfl) (fun W hW => by go_simp) ?_
        simp only [Act.put, List.setIfInBounds_toArray, List.set_cons_zero, List.set_cons_succ]
        refine wpL_take 16 70 (.bool true) [] rfl rfl (by kernel_rfl) (by decide) (by kernel_rfl) (by kernel_rfl) (by kernel_rfl) (fun _ _ _ h => h) HXS7.out (by rfl) (fun W hW => by go_simp) ?_
        simp only [Act.put, List.setIfInBounds_toArray, List.set_cons_zero, List.set_cons_succ]
        refine wpL_take 17 71 (.bool true) [] rfl rfl (by kernel_rfl) (by decide) (by kernel_rfl) (by kernel_rfl) (by kernel_rfl) (fun _ _ _ h => h) HXS7.out (by rfl) (fun W hW => by go_simp) ?_
        simp only [Act.put, List.setIfInBounds_toArray, List.set_cons_zero, List.set_cons_succ]
        refine wpL_take 18 72 (.agg #[i64 V.kind, i64 V.num, str V.s, .slice ak V.kids.length ck]) [] rfl rfl (by kernel_rfl) (by decide) (by kernel_rfl) (by kernel_rfl) (by kernel_rfl) (fun _ _ _ h => h) HXS7.out (by rfl) (fun W hW => by exact exec_load 24 (.tmp 3) rfl rfl (load24 hW.z)) ?_
        simp only [Act.put, List.setIfInBounds_toArray, List.set_cons_zero, List.set_cons_succ]
        refine wpL_take 21 75 (.agg #[i64 V.kind, i64 V.num, str V.s, .slice ak V.kids.length ck]) [] rfl rfl (by kernel_rfl) (by decide) (by kernel_rfl) (by kernel_rfl) (by kernel_rfl) (fun _ _ _ h => h) HXS7.out (by rfl) (fun W hW => by exact exec_load 24 (.tmp 3) rfl rfl (load24 hW.z)) ?_
        simp only [Act.put, List.setIfInBounds_toArray, List.set_cons_zero, List.set_cons_succ]
        refine wpL_one 19 rfl (by kernel_rfl) (by rfl) (fun K hK => ?_)
        go_simp
        refine (copy_ok V x7 (fun _ => True) _ (HVa_7.out) (by omega)).mono ?_
        rintro e x8 ⟨p4, q4, rfl, hb, hd⟩
        have HXB8 : Hid (Below w.heap.size w x8) := HXB7.out.trans (hb.mono HXB7.out.size)
        have HXS8 : Hid (Bx4 Z Y Q Db (.cells #[i64 V.kind, i64 V.num, str V.s, .slice ak V.kids.length ck] 24) (.cells #[i64 U.kind, i64 U.num, str U.s, .slice al U.kids.length cl] 24) (.cells #[i64 T.kind, i64 T.num, .slice an T.names.length cn, .slice at_ T.kids.length ct] 28) (.cells #[i64 D.kind, i64 D.num, str D.s, .slice a9 D.kids.length c9] 24) x8) := HXS7.out.under hb
        have HVa_8 : Hid (Vd x8 (fun _ => True) V (.slice ak V.kids.length ck)) := HVa_7.out.under hb
        have HVb_8 : Hid (Vd x8 (fun _ => True) U (.slice al U.kids.length cl)) := HVb_7.out.under hb
        have HA1_8 : Hid (Vd x8 (fun _ => True) V (.slice p1 V.kids.length q1)) := HA1_7.out.under hb
        have HU1_8 : Hid (Vd x8 (fun _ => True) U (.slice p2 U.kids.length q2)) := HU1_7.out.under hb
        have HA2_8 : Hid (Vd x8 (fun _ => True) V (.slice p3 V.kids.length q3)) := HA2_7.out.under hb
        have HA3_8 : Hid (Vd x8 (fun _ => True) V (.slice p4 V.kids.length q4)) := hd.mono (fun _ _ _ => trivial)
        clear hb hd
        go_simp
        refine hK.out _ _ (fun _ => HXS8.out) ?_
        clear hK K
        refine wpL_one 20 rfl (by kernel_rfl) (by rfl) (fun K hK => ?_)
        go_simp
        refine (val_ok _ V (Nat.le_refl _) (by omega) x8 (fun _ => True) _ (HA3_8.out)).mono ?_
        rintro e x9 ⟨p5, q5, rfl, hb, hd⟩
        have HXB9 : Hid (Below w.heap.size w x9) := HXB8.out.trans (hb.mono HXB8.out.size)
        have HXS9 : Hid (Bx4 Z Y Q Db (.cells #[i64 V.kind, i64 V.num, str V.s, .slice ak V.kids.length ck] 24) (.cells #[i64 U.kind, i64 U.num, str U.s, .slice al U.kids.length cl] 24) (.cells #[i64 T.kind, i64 T.num, .slice an T.names.length cn, .slice at_ T.kids.length ct] 28) (.cells #[i64 D.kind, i64 D.num, str D.s, .slice a9 D.kids.length c9] 24) x9) := HXS8.out.under hb
        have HVa_9 : Hid (Vd x9 (fun _ => True) V (.slice ak V.kids.length ck)) := HVa_8.out.under hb
        have HVb_9 : Hid (Vd x9 (fun _ => True) U (.slice al U.kids.length cl)) := HVb_8.out.under hb
        have HA1_9 : Hid (Vd x9 (fun _ => True) V (.slice p1 V.kids.length q1)) := HA1_8.out.under hb
        have HU1_9 : Hid (Vd x9 (fun _ => True) U (.slice p2 U.kids.length q2)) := HU1_8.out.under hb
        have HA2_9 : Hid (Vd x9 (fun _ => True) V (.slice p3 V.kids.length q3)) := HA2_8.out.under hb
        have HA3_9 : Hid (Vd x9 (fun _ => True) V (.slice p4 V.kids.length q4)) := HA3_8.out.under hb
        have HA4_9 : Hid (Vd x9 (fun _ => True) V (.slice p5 V.kids.length q5)) := hd.mono (fun _ _ _ => trivial)
        clear hb hd
        go_simp
        refine hK.out _ _ (fun _ => HXS9.out) ?_
        clear hK K
        refine wpL_one 22 rfl (by kernel_rfl) (by rfl) (fun K hK => ?_)
        go_simp
        refine (val_ok _ V (Nat.le_refl _) (by omega) x9 (fun _ => True) _ (HVa_9.out)).mono ?_
        rintro e x10 ⟨p6, q6, rfl, hb, hd⟩
        have HXB10 : Hid (Below w.heap.size w x10) := HXB9.out.trans (hb.mono HXB9.out.size)
        have HXS10 : Hid (Bx4 Z Y Q Db (.cells #[i64 V.kind, i64 V.num, str V.s, .slice ak V.kids.length ck] 24) (.cells #[i64 U.kind, i64 U.num, str U.s, .slice al U.kids.length cl] 24) (.cells #[i64 T.kind, i64 T.num, .slice an T.names.length cn, .slice at_ T.kids.length ct] 28) (.cells #[i64 D.kind, i64 D.num, str D.s, .slice a9 D.kids.length c9] 24) x10) := HXS9.out.under hb
        have HVa_10 : Hid (Vd x10 (fun _ => True) V (.slice ak V.kids.length ck)) := HVa_9.out.under hb
        have HVb_10 : Hid (Vd x10 (fun _ => True) U (.slice al U.kids.length cl)) := HVb_9.out.under hb
        have HA1_10 : Hid (Vd x10 (fun _ => True) V (.slice p1 V.kids.length q1)) := HA1_9.out.under hb
        have HU1_10 : Hid (Vd x10 (fun _ => True) U (.slice p2 U.kids.length q2)) := HU1_9.out.under hb
        have HA2_10 : Hid (Vd x10 (fun _ => True) V (.slice p3 V.kids.length q3)) := HA2_9.out.under hb
        have HA3_10 : Hid (Vd x10 (fun _ => True) V (.slice p4 V.kids.length q4)) := HA3_9.out.under hb
        have HA4_10 : Hid (Vd x10 (fun _ => True) V (.slice p5 V.kids.length q5)) := HA4_9.out.under hb
        have HA5_10 : Hid (Vd x10 (fun _ => True) V (.slice p6 V.kids.length q6)) := hd.mono (fun _ _ _ => trivial)
        clear hb hd
        go_simp
        refine hK.out _ _ (fun _ => HXS10.out) ?_
        clear hK K
        refine wpL_one 23 rfl (by kernel_rfl) (by rfl) (fun K hK => ?_)
        go_simp
        refine (hid (vrsame_refl V x10 _ _ (HA4_10.out) (HA5_10.out)) |>.out).mono ?_
        rintro e x11 ⟨rfl, hb⟩
        have HXB11 : Hid (Below w.heap.size w x11) := HXB10.out.trans (hb.mono HXB10.out.size)
        have HXS11 : Hid (Bx4 Z Y Q Db (.cells #[i64 V.kind, i64 V.num, str V.s, .slice ak V.kids.length ck] 24) (.cells #[i64 U.kind, i64 U.num, str U.s, .slice al U.kids.length cl] 24) (.cells #[i64 T.kind, i64 T.num, .slice an T.names.length cn, .slice at_ T.kids.length ct] 28) (.cells #[i64 D.kind, i64 D.num, str D.s, .slice a9 D.kids.length c9] 24) x11) := HXS10.out.under hb
        have HVa_11 : Hid (Vd x11 (fun _ => True) V (.slice ak V.kids.length ck)) := HVa_10.out.under hb
        have HVb_11 : Hid (Vd x11 (fun _ => True) U (.slice al U.kids.length cl)) := HVb_10.out.under hb
        have HA1_11 : Hid (Vd x11 (fun _ => True) V (.slice p1 V.kids.length q1)) := HA1_10.out.under hb
        have HU1_11 : Hid (Vd x11 (fun _ => True) U (.slice p2 U.kids.length q2)) := HU1_10.out.under hb
        have HA2_11 : Hid (Vd x11 (fun _ => True) V (.slice p3 V.kids.length q3)) := HA2_10.out.under hb
        have HA3_11 : Hid (Vd x11 (fun _ => True) V (.slice p4 V.kids.length q4)) := HA3_10.out.under hb
        have HA4_11 : Hid (Vd x11 (fun _ => True) V (.slice p5 V.kids.length q5)) := HA4_10.out.under hb
        have HA5_11 : Hid (Vd x11 (fun _ => True) V (.slice p6 V.kids.length q6)) := HA5_10.out.under hb
        clear hb
        go_simp
        refine hK.out _ _ (fun _ => HXS11.out) ?_
        clear hK K
        refine wpL_take 24 78 (.bool true) [] rfl rfl (by kernel_rfl) (by decide) (by kernel_rfl) (by kernel_rfl) (by kernel_rfl) (fun _ _ _ h => h) HXS11.out (by rfl) (fun W hW => by go_simp) ?_
        simp only [Act.put, List.setIfInBounds_toArray, List.set_cons_zero, List.set_cons_succ]
        refine wpL_take 25 79 (.bool true) [] rfl rfl (by kernel_rfl) (by decide) (by kernel_rfl) (by kernel_rfl) (by kernel_rfl) (fun _ _ _ h => h) HXS11.out (by rfl) (fun W hW => by go_simp) ?_
        simp only [Act.put, List.setIfInBounds_toArray, List.set_cons_zero, List.set_cons_succ]
        refine wpL_one 26 rfl (by kernel_rfl) (by rfl) (fun K hK => ?_)
        go_simp
        refine (HFV.out x11 HXB11.out).mono ?_
        rintro e x12 ⟨rfl, hb⟩
        have HXB12 : Hid (Below w.heap.size w x12) := HXB11.out.trans (hb.mono HXB11.out.size)
        have HXS12 : Hid (Bx4 Z Y Q Db (.cells #[i64 V.kind, i64 V.num, str V.s, .slice ak V.kids.length ck] 24) (.cells #[i64 U.kind, i64 U.num, str U.s, .slice al U.kids.length cl] 24) (.cells #[i64 T.kind, i64 T.num, .slice an T.names.length cn, .slice at_ T.kids.length ct] 28) (.cells #[i64 D.kind, i64 D.num, str D.s, .slice a9 D.kids.length c9] 24) x12) := HXS11.out.under hb
        have HVa_12 : Hid (Vd x12 (fun _ => True) V (.slice ak V.kids.length ck)) := HVa_11.out.under hb
        have HVb_12 : Hid (Vd x12 (fun _ => True) U (.slice al U.kids.length cl)) := HVb_11.out.under hb
        have HA1_12 : Hid (Vd x12 (fun _ => True) V (.slice p1 V.kids.length q1)) := HA1_11.out.under hb
        have HU1_12 : Hid (Vd x12 (fun _ => True) U (.slice p2 U.kids.length q2)) := HU1_11.out.under hb
        have HA2_12 : Hid (Vd x12 (fun _ => True) V (.slice p3 V.kids.length q3)) := HA2_11.out.under hb
        have HA3_12 : Hid (Vd x12 (fun _ => True) V (.slice p4 V.kids.length q4)) := HA3_11.out.under hb
        have HA4_12 : Hid (Vd x12 (fun _ => True) V (.slice p5 V.kids.length q5)) := HA4_11.out.under hb
        have HA5_12 : Hid (Vd x12 (fun _ => True) V (.slice p6 V.kids.length q6)) := HA5_11.out.under hb
        clear hb
        go_simp
        refine hK.out _ _ (fun _ => HXS12.out) ?_
        clear hK K
        refine wpL_take 27 81 (.bool true) [] rfl rfl (by kernel_rfl) (by decide) (by kernel_rfl) (by kernel_rfl) (by kernel_rfl) (fun _ _ _ h => h) HXS12.out (by rfl) (fun W hW => by go_simp) ?_
        simp only [Act.put, List.setIfInBounds_toArray, List.set_cons_zero, List.set_cons_succ]
        refine wpL_one 28 rfl (by kernel_rfl) (by rfl) (fun K hK => ?_)
        go_simp
        refine hK.out _ _ (fun h => absurd rfl h) ?_
        clear hK K
        refine wpL_done (by kernel_rfl) ?_
        refine NoPanic.normal ?_
        go_wp2_with fail
        go_ret
        exact ⟨rfl, HXB12.out⟩
      · have HDe : Hid (D = zV) := HD1.out.2 (by rw [← HEr.out]; exact hE0)
        have f1 : (E != E) = false := by simp
        have f2 : (E == 0) = false := by simpa using hE0
        have f3 : (E != 0) = true := by simpa using hE0
        clear hE0 HEr
        have HB5d : Hid (Below w.heap.size w w5.drew) := HB5.out.trans ((dr_below w5).mono HB5.out.size)
        have HS5d : Hid (Bx4 Z Y Q Db (.cells #[i64 V.kind, i64 V.num, str V.s, .slice ak V.kids.length ck] 24) (.cells #[i64 U.kind, i64 U.num, str U.s, .slice al U.kids.length cl] 24) (.cells #[i64 T.kind, i64 T.num, .slice an T.names.length cn, .slice at_ T.kids.length ct] 28) (.cells #[i64 D.kind, i64 D.num, str D.s, .slice a9 D.kids.length c9] 24) w5.drew) := HS5.out.under (dr_below w5)
        have HVa : Hid (Vd w5.drew (fun _ => True) V (.slice ak V.kids.length ck)) := HVd.out.under HB5d.out
        have HVb : Hid (Vd w5.drew (fun _ => True) U (.slice al U.kids.length cl)) := HUd.out.under HB5d.out
        have HVd_ : Hid (Vd w5.drew (fun _ => True) D (.slice a9 D.kids.length c9)) := HDd.out.under (dr_below w5)
        have HRt : Hid (Rd w5.drew (fun _ => True) T (.slice an T.names.length cn) (.slice at_ T.kids.length ct)) := HRd.out.under HB5d.out
        go_upto_region 5 with fail
        refine wp_region_noPanic ?_
        refine wp_region_last (Bx4 Z Y Q Db (.cells #[i64 V.kind, i64 V.num, str V.s, .slice ak V.kids.length ck] 24) (.cells #[i64 U.kind, i64 U.num, str U.s, .slice al U.kids.length cl] 24) (.cells #[i64 T.kind, i64 T.num, .slice an T.names.length cn, .slice at_ T.kids.length ct] 28) (.cells #[i64 D.kind, i64 D.num, str D.s, .slice a9 D.kids.length c9] 24)) 26 (by kernel_rfl) ?_
        refine wpL_take 0 27 (i64 E) [2, 3, 15, 16] rfl rfl (by kernel_rfl) (by decide) (by kernel_rfl) (by kernel_rfl) (by kernel_rfl) (fun _ _ _ h => h) HS5d.out (by rfl) (fun W hW => by go_simp) ?_
        simp only [Act.put, List.setIfInBounds_toArray, List.set_cons_zero, List.set_cons_succ]
        refine wpL_take 1 28 (i64 E) [2, 3, 15, 16] rfl rfl (by kernel_rfl) (by decide) (by kernel_rfl) (by kernel_rfl) (by kernel_rfl) (fun _ _ _ h => h) HS5d.out (by rfl) (fun W hW => by go_simp) ?_
        simp only [Act.put, List.setIfInBounds_toArray, List.set_cons_zero, List.set_cons_succ]
        refine wpL_take 2 29 (.bool false) [3, 15, 16] rfl rfl (by kernel_rfl) (by decide) (by kernel_rfl) (by kernel_rfl) (by kernel_rfl) (fun _ _ _ h => h) HS5d.out (by rfl) (fun W hW => by go_simp) ?_
        simp only [Act.put, List.setIfInBounds_toArray, List.set_cons_zero, List.set_cons_succ]
        refine wpL_take 3 30 (.bool false) [15, 16] rfl rfl (by kernel_rfl) (by decide) (by kernel_rfl) (by kernel_rfl) (by kernel_rfl) (fun _ _ _ h => h) HS5d.out (by rfl) (fun W hW => by go_simp) ?_
        simp only [Act.put, List.setIfInBounds_toArray, List.set_cons_zero, List.set_cons_succ]
        refine wpL_take 4 31 (i64 E) [5, 6, 12, 16] rfl rfl (by kernel_rfl) (by decide) (by kernel_rfl) (by kernel_rfl) (by kernel_rfl) (fun _ _ _ h => h) HS5d.out (by rfl) (fun W hW => by go_simp) ?_
        simp only [Act.put, List.setIfInBounds_toArray, List.set_cons_zero, List.set_cons_succ]
        refine wpL_take 5 32 (.bool false) [6, 12, 16] rfl rfl (by kernel_rfl) (by decide) (by kernel_rfl) (by kernel_rfl) (by kernel_rfl) (fun _ _ _ h => h) HS5d.out (by rfl) (fun W hW => by go_simp) ?_
        simp only [Act.put, List.setIfInBounds_toArray, List.set_cons_zero, List.set_cons_succ]
        refine wpL_take 6 33 (.bool false) [12, 16] rfl rfl (by kernel_rfl) (by decide) (by kernel_rfl) (by kernel_rfl) (by kernel_rfl) (fun _ _ _ h => h) HS5d.out (by rfl) (fun W hW => by go_simp) ?_
        simp only [Act.put, List.setIfInBounds_toArray, List.set_cons_zero, List.set_cons_succ]
        refine wpL_skip 7 34 [8, 12, 16] rfl rfl (by kernel_rfl) (by decide) (by kernel_rfl) (by kernel_rfl) (by kernel_rfl) (fun _ _ _ h => h) HS5d.out (by rfl) ?_
        simp only [Act.put, List.setIfInBounds_toArray, List.set_cons_zero, List.set_cons_succ]
        refine wpL_skip 8 35 [12, 16] rfl rfl (by kernel_rfl) (by decide) (by kernel_rfl) (by kernel_rfl) (by kernel_rfl) (fun _ _ _ h => h) HS5d.out (by rfl) ?_
        simp only [Act.put, List.setIfInBounds_toArray, List.set_cons_zero, List.set_cons_succ]
        refine wpL_skip 9 36 [10, 11, 12, 16] rfl rfl (by kernel_rfl) (by decide) (by kernel_rfl) (by kernel_rfl) (by kernel_rfl) (fun _ _ _ h => h) HS5d.out (by rfl) ?_
        simp only [Act.put, List.setIfInBounds_toArray, List.set_cons_zero, List.set_cons_succ]
        refine wpL_skip 10 37 [11, 12, 16] rfl rfl (by kernel_rfl) (by decide) (by kernel_rfl) (by kernel_rfl) (by kernel_rfl) (fun _ _ _ h => h) HS5d.out (by rfl) ?_
        simp only [Act.put, List.setIfInBounds_toArray, List.set_cons_zero, List.set_cons_succ]
        refine wpL_skip 11 38 [12, 16] rfl rfl (by kernel_rfl) (by decide) (by kernel_rfl) (by kernel_rfl) (by kernel_rfl) (fun _ _ _ h => h) HS5d.out (by rfl) ?_
        simp only [Act.put, List.setIfInBounds_toArray, List.set_cons_zero, List.set_cons_succ]
        refine wpL_skip 12 39 [16] rfl rfl (by kernel_rfl) (by decide) (by kernel_rfl) (by kernel_rfl) (by kernel_rfl) (fun _ _ _ h => h) HS5d.out (by rfl) ?_
        simp only [Act.put, List.setIfInBounds_toArray, List.set_cons_zero, List.set_cons_succ]
        refine wpL_skip 13 40 [14, 15, 16] rfl rfl (by kernel_rfl) (by decide) (by kernel_rfl) (by kernel_rfl) (by kernel_rfl) (fun _ _ _ h => h) HS5d.out (by rfl) ?_
        simp only [Act.put, List.setIfInBounds_toArray, List.set_cons_zero, List.set_cons_succ]
        refine wpL_take 14 41 (.bool false) [15, 16] rfl rfl (by kernel_rfl) (by decide) (by kernel_rfl) (by kernel_rfl) (by kernel_rfl) (fun _ _ _ h => h) HS5d.out (by rfl) (fun W hW => by go_simp) ?_
        simp only [Act.put, List.setIfInBounds_toArray, List.set_cons_zero, List.set_cons_succ]
        refine wpL_take 15 42 (.bool false) [16] rfl rfl (by kernel_rfl) (by decide) (by kernel_rfl) (by kernel_rfl) (by kernel_rfl) (fun _ _ _ h => h) HS5d.out (by rfl) (fun W hW => by go_simp) ?_
        simp only [Act.put, List.setIfInBounds_toArray, List.set_cons_zero, List.set_cons_succ]
        refine wpL_take 16 43 (.bool false) [] rfl rfl (by kernel_rfl) (by decide) (by kernel_rfl) (by kernel_rfl) (by kernel_rfl) (fun _ _ _ h => h) HS5d.out (by rfl) (fun W hW => by go_simp) ?_
        simp only [Act.put, List.setIfInBounds_toArray, List.set_cons_zero, List.set_cons_succ]
        refine wpL_take 17 44 (i64 E) [18, 19, 25] rfl rfl (by kernel_rfl) (by decide) (by kernel_rfl) (by kernel_rfl) (by kernel_rfl) (fun _ _ _ h => h) HS5d.out (by rfl) (fun W hW => by go_simp) ?_
        simp only [Act.put, List.setIfInBounds_toArray, List.set_cons_zero, List.set_cons_succ]
        refine wpL_take 18 45 (.bool true) [19, 25] rfl rfl (by kernel_rfl) (by decide) (by kernel_rfl) (by kernel_rfl) (by kernel_rfl) (fun _ _ _ h => h) HS5d.out (by rfl) (fun W hW => by go_simp) ?_
        simp only [Act.put, List.setIfInBounds_toArray, List.set_cons_zero, List.set_cons_succ]
        refine wpL_take 19 46 (.bool true) [25] rfl rfl (by kernel_rfl) (by decide) (by kernel_rfl) (by kernel_rfl) (by kernel_rfl) (fun _ _ _ h => h) HS5d.out (by rfl) (fun W hW => by go_simp) ?_
        simp only [Act.put, List.setIfInBounds_toArray, List.set_cons_zero, List.set_cons_succ]
        refine wpL_take 20 47 (.agg #[i64 D.kind, i64 D.num, str D.s, .slice a9 D.kids.length c9]) [21, 23, 24, 25] rfl rfl (by kernel_rfl) (by decide) (by kernel_rfl) (by kernel_rfl) (by kernel_rfl) (fun _ _ _ h => h) HS5d.out (by rfl) (fun W hW => by exact exec_load 24 (.tmp 7) rfl rfl (load24 hW.d)) ?_
        simp only [Act.put, List.setIfInBounds_toArray, List.set_cons_zero, List.set_cons_succ]
        refine wpL_take 22 49 (.agg #[i64 0, i64 0, .string ⟨#[]⟩, .slice none 0 0]) [23, 24, 25] rfl rfl (by kernel_rfl) (by decide) (by kernel_rfl) (by kernel_rfl) (by kernel_rfl) (fun _ _ _ h => h) HS5d.out (by rfl) (fun W hW => by have e := zero33 W; go_simp) ?_
        simp only [Act.put, List.setIfInBounds_toArray, List.set_cons_zero, List.set_cons_succ]
        refine wpL_one 21 rfl (by kernel_rfl) (by rfl) (fun K hK => ?_)
        go_simp
        refine (val_ok _ D (Nat.le_refl _) (by omega) w5.drew (fun _ => True) _ (HVd_.out)).mono ?_
        rintro e x1 ⟨b1, d1, rfl, hb, hd⟩
        have HXB1 : Hid (Below w.heap.size w x1) := HB5d.out.trans (hb.mono HB5d.out.size)
        have HXS1 : Hid (Bx4 Z Y Q Db (.cells #[i64 V.kind, i64 V.num, str V.s, .slice ak V.kids.length ck] 24) (.cells #[i64 U.kind, i64 U.num, str U.s, .slice al U.kids.length cl] 24) (.cells #[i64 T.kind, i64 T.num, .slice an T.names.length cn, .slice at_ T.kids.length ct] 28) (.cells #[i64 D.kind, i64 D.num, str D.s, .slice a9 D.kids.length c9] 24) x1) := HS5d.out.under hb
        have HVa_1 : Hid (Vd x1 (fun _ => True) V (.slice ak V.kids.length ck)) := HVa.out.under hb
        have HVb_1 : Hid (Vd x1 (fun _ => True) U (.slice al U.kids.length cl)) := HVb.out.under hb
        have HVd_1 : Hid (Vd x1 (fun _ => True) D (.slice a9 D.kids.length c9)) := HVd_.out.under hb
        have HRt_1 : Hid (Rd x1 (fun _ => True) T (.slice an T.names.length cn) (.slice at_ T.kids.length ct)) := HRt.out.under hb
        have HD1_1 : Hid (Vd x1 (fun _ => True) D (.slice b1 D.kids.length d1)) := hd.mono (fun _ _ _ => trivial)
        clear hb hd
        go_simp
        refine hK.out _ _ (fun _ => HXS1.out) ?_
        clear hK K
        refine wpL_one 23 rfl (by kernel_rfl) (by rfl) (fun K hK => ?_)
        go_simp
        refine (vrsame_zero D HDe.out x1 _ (HD1_1.out)).mono ?_
        rintro e x2 ⟨rfl, hb⟩
        have HXB2 : Hid (Below w.heap.size w x2) := HXB1.out.trans (hb.mono HXB1.out.size)
        have HXS2 : Hid (Bx4 Z Y Q Db (.cells #[i64 V.kind, i64 V.num, str V.s, .slice ak V.kids.length ck] 24) (.cells #[i64 U.kind, i64 U.num, str U.s, .slice al U.kids.length cl] 24) (.cells #[i64 T.kind, i64 T.num, .slice an T.names.length cn, .slice at_ T.kids.length ct] 28) (.cells #[i64 D.kind, i64 D.num, str D.s, .slice a9 D.kids.length c9] 24) x2) := HXS1.out.under hb
        have HVa_2 : Hid (Vd x2 (fun _ => True) V (.slice ak V.kids.length ck)) := HVa_1.out.under hb
        have HVb_2 : Hid (Vd x2 (fun _ => True) U (.slice al U.kids.length cl)) := HVb_1.out.under hb
        have HVd_2 : Hid (Vd x2 (fun _ => True) D (.slice a9 D.kids.length c9)) := HVd_1.out.under hb
        have HRt_2 : Hid (Rd x2 (fun _ => True) T (.slice an T.names.length cn) (.slice at_ T.kids.length ct)) := HRt_1.out.under hb
        have HD1_2 : Hid (Vd x2 (fun _ => True) D (.slice b1 D.kids.length d1)) := HD1_1.out.under hb
        clear hb
        go_simp
        refine hK.out _ _ (fun _ => HXS2.out) ?_
        clear hK K
        refine wpL_take 24 51 (.bool false) [25] rfl rfl (by kernel_rfl) (by decide) (by kernel_rfl) (by kernel_rfl) (by kernel_rfl) (fun _ _ _ h => h) HXS2.out (by rfl) (fun W hW => by go_simp) ?_
        simp only [Act.put, List.setIfInBounds_toArray, List.set_cons_zero, List.set_cons_succ]
        refine wpL_take 25 52 (.bool false) [] rfl rfl (by kernel_rfl) (by decide) (by kernel_rfl) (by kernel_rfl) (by kernel_rfl) (fun _ _ _ h => h) HXS2.out (by rfl) (fun W hW => by go_simp) ?_
        simp only [Act.put, List.setIfInBounds_toArray, List.set_cons_zero, List.set_cons_succ]
        refine wpL_one 26 rfl (by kernel_rfl) (by rfl) (fun K hK => ?_)
        go_simp
        refine hK.out _ _ (fun h => absurd rfl h) ?_
        clear hK K
        refine wpL_done (by kernel_rfl) ?_
        refine NoPanic.normal ?_
        go_wp2_with fail
        have HB6 := HXB2
        have HS6 := HXS2
        generalize x2 = w6 at *
        go_upto_region 7 with fail
        have HB6d : Hid (Below w.heap.size w w6.drew) := HB6.out.trans ((dr_below w6).mono HB6.out.size)
        have HS6d : Hid (Bx4 Z Y Q Db (.cells #[i64 V.kind, i64 V.num, str V.s, .slice ak V.kids.length ck] 24) (.cells #[i64 U.kind, i64 U.num, str U.s, .slice al U.kids.length cl] 24) (.cells #[i64 T.kind, i64 T.num, .slice an T.names.length cn, .slice at_ T.kids.length ct] 28) (.cells #[i64 D.kind, i64 D.num, str D.s, .slice a9 D.kids.length c9] 24) w6.drew) := HS6.out.under (dr_below w6)
        have HVa_0 : Hid (Vd w6.drew (fun _ => True) V (.slice ak V.kids.length ck)) := HVd.out.under HB6d.out
        have HVb_0 : Hid (Vd w6.drew (fun _ => True) U (.slice al U.kids.length cl)) := HUd.out.under HB6d.out
        have HVa := HVa_0
        have HVb := HVb_0
        refine wp_region_noPanic ?_
        refine wp_region_last (Bx4 Z Y Q Db (.cells #[i64 V.kind, i64 V.num, str V.s, .slice ak V.kids.length ck] 24) (.cells #[i64 U.kind, i64 U.num, str U.s, .slice al U.kids.length cl] 24) (.cells #[i64 T.kind, i64 T.num, .slice an T.names.length cn, .slice at_ T.kids.length ct] 28) (.cells #[i64 D.kind, i64 D.num, str D.s, .slice a9 D.kids.length c9] 24)) 28 (by kernel_rfl) ?_
        refine wpL_take 0 54 (.agg #[i64 V.kind, i64 V.num, str V.s, .slice ak V.kids.length ck]) [] rfl rfl (by kernel_rfl) (by decide) (by kernel_rfl) (by kernel_rfl) (by kernel_rfl) (fun _ _ _ h => h) HS6d.out (by rfl) (fun W hW => by exact exec_load 24 (.tmp 3) rfl rfl (load24 hW.z)) ?_
        simp only [Act.put, List.setIfInBounds_toArray, List.set_cons_zero, List.set_cons_succ]
        refine wpL_take 1 55 (.agg #[i64 U.kind, i64 U.num, str U.s, .slice al U.kids.length cl]) [] rfl rfl (by kernel_rfl) (by decide) (by kernel_rfl) (by kernel_rfl) (by kernel_rfl) (fun _ _ _ h => h) HS6d.out (by rfl) (fun W hW => by exact exec_load 24 (.tmp 4) rfl rfl (load24 hW.y)) ?_
        simp only [Act.put, List.setIfInBounds_toArray, List.set_cons_zero, List.set_cons_succ]
        refine wpL_take 3 57 (.agg #[i64 V.kind, i64 V.num, str V.s, .slice ak V.kids.length ck]) [] rfl rfl (by kernel_rfl) (by decide) (by kernel_rfl) (by kernel_rfl) (by kernel_rfl) (fun _ _ _ h => h) HS6d.out (by rfl) (fun W hW => by exact exec_load 24 (.tmp 3) rfl rfl (load24 hW.z)) ?_
        simp only [Act.put, List.setIfInBounds_toArray, List.set_cons_zero, List.set_cons_succ]
        refine wpL_take 5 59 (.agg #[i64 U.kind, i64 U.num, str U.s, .slice al U.kids.length cl]) [] rfl rfl (by kernel_rfl) (by decide) (by kernel_rfl) (by kernel_rfl) (by kernel_rfl) (fun _ _ _ h => h) HS6d.out (by rfl) (fun W hW => by exact exec_load 24 (.tmp 4) rfl rfl (load24 hW.y)) ?_
        simp only [Act.put, List.setIfInBounds_toArray, List.set_cons_zero, List.set_cons_succ]
        refine wpL_one 2 rfl (by kernel_rfl) (by rfl) (fun K hK => ?_)
        go_simp
        refine (hid (vsame_ok V U w6.drew (fun _ => True) _ _ (HVa.out) (HVb.out) (by omega)) |>.out).mono ?_
        rintro e x1 ⟨rfl, hb⟩
        have HXB1 : Hid (Below w.heap.size w x1) := HB6d.out.trans (hb.mono HB6d.out.size)
        have HXS1 : Hid (Bx4 Z Y Q Db (.cells #[i64 V.kind, i64 V.num, str V.s, .slice ak V.kids.length ck] 24) (.cells #[i64 U.kind, i64 U.num, str U.s, .slice al U.kids.length cl] 24) (.cells #[i64 T.kind, i64 T.num, .slice an T.names.length cn, .slice at_ T.kids.length ct] 28) (.cells #[i64 D.kind, i64 D.num, str D.s, .slice a9 D.kids.length c9] 24) x1) := HS6d.out.under hb
        have HVa_1 : Hid (Vd x1 (fun _ => True) V (.slice ak V.kids.length ck)) := HVa.out.under hb
        have HVb_1 : Hid (Vd x1 (fun _ => True) U (.slice al U.kids.length cl)) := HVb.out.under hb
        clear hb
        go_simp
        refine hK.out _ _ (fun _ => HXS1.out) ?_
        clear hK K
        refine wpL_one 4 rfl (by kernel_rfl) (by rfl) (fun K hK => ?_)
        go_simp
        refine (val_ok _ V (Nat.le_refl _) (by omega) x1 (fun _ => True) _ (HVa_1.out)).mono ?_
        rintro e x2 ⟨p1, q1, rfl, hb, hd⟩
        have HXB2 : Hid (Below w.heap.size w x2) := HXB1.out.trans (hb.mono HXB1.out.size)
        have HXS2 : Hid (Bx4 Z Y Q Db (.cells #[i64 V.kind, i64 V.num, str V.s, .slice ak V.kids.length ck] 24) (.cells #[i64 U.kind, i64 U.num, str U.s, .slice al U.kids.length cl] 24) (.cells #[i64 T.kind, i64 T.num, .slice an T.names.length cn, .slice at_ T.kids.length ct] 28) (.cells #[i64 D.kind, i64 D.num, str D.s, .slice a9 D.kids.length c9] 24) x2) := HXS1.out.under hb
        have HVa_2 : Hid (Vd x2 (fun _ => True) V (.slice ak V.kids.length ck)) := HVa_1.out.under hb
        have HVb_2 : Hid (Vd x2 (fun _ => True) U (.slice al U.kids.length cl)) := HVb_1.out.under hb
        have HA1_2 : Hid (Vd x2 (fun _ => True) V (.slice p1 V.kids.length q1)) := hd.mono (fun _ _ _ => trivial)
        clear hb hd
        go_simp
        refine hK.out _ _ (fun _ => HXS2.out) ?_
        clear hK K
        refine wpL_one 6 rfl (by kernel_rfl) (by rfl) (fun K hK => ?_)
        go_simp
        refine (val_ok _ U (Nat.le_refl _) (by omega) x2 (fun _ => True) _ (HVb_2.out)).mono ?_
        rintro e x3 ⟨p2, q2, rfl, hb, hd⟩
        have HXB3 : Hid (Below w.heap.size w x3) := HXB2.out.trans (hb.mono HXB2.out.size)
        have HXS3 : Hid (Bx4 Z Y Q Db (.cells #[i64 V.kind, i64 V.num, str V.s, .slice ak V.kids.length ck] 24) (.cells #[i64 U.kind, i64 U.num, str U.s, .slice al U.kids.length cl] 24) (.cells #[i64 T.kind, i64 T.num, .slice an T.names.length cn, .slice at_ T.kids.length ct] 28) (.cells #[i64 D.kind, i64 D.num, str D.s, .slice a9 D.kids.length c9] 24) x3) := HXS2.out.under hb
        have HVa_3 : Hid (Vd x3 (fun _ => True) V (.slice ak V.kids.length ck)) := HVa_2.out.under hb
        have HVb_3 : Hid (Vd x3 (fun _ => True) U (.slice al U.kids.length cl)) := HVb_2.out.under hb
        have HA1_3 : Hid (Vd x3 (fun _ => True) V (.slice p1 V.kids.length q1)) := HA1_2.out.under hb
        have HU1_3 : Hid (Vd x3 (fun _ => True) U (.slice p2 U.kids.length q2)) := hd.mono (fun _ _ _ => trivial)
        clear hb hd
        go_simp
        refine hK.out _ _ (fun _ => HXS3.out) ?_
        clear hK K
        refine wpL_one 7 rfl (by kernel_rfl) (by rfl) (fun K hK => ?_)
        go_simp
        refine (vrsame_ok _ V (Nat.le_refl _) U x3 (fun _ => True) _ _ (HA1_3.out) (HU1_3.out)).mono ?_
        rintro e x4 ⟨rfl, hb⟩
        have HXB4 : Hid (Below w.heap.size w x4) := HXB3.out.trans (hb.mono HXB3.out.size)
        have HXS4 : Hid (Bx4 Z Y Q Db (.cells #[i64 V.kind, i64 V.num, str V.s, .slice ak V.kids.length ck] 24) (.cells #[i64 U.kind, i64 U.num, str U.s, .slice al U.kids.length cl] 24) (.cells #[i64 T.kind, i64 T.num, .slice an T.names.length cn, .slice at_ T.kids.length ct] 28) (.cells #[i64 D.kind, i64 D.num, str D.s, .slice a9 D.kids.length c9] 24) x4) := HXS3.out.under hb
        have HVa_4 : Hid (Vd x4 (fun _ => True) V (.slice ak V.kids.length ck)) := HVa_3.out.under hb
        have HVb_4 : Hid (Vd x4 (fun _ => True) U (.slice al U.kids.length cl)) := HVb_3.out.under hb
        have HA1_4 : Hid (Vd x4 (fun _ => True) V (.slice p1 V.kids.length q1)) := HA1_3.out.under hb
        have HU1_4 : Hid (Vd x4 (fun _ => True) U (.slice p2 U.kids.length q2)) := HU1_3.out.under hb
        clear hb
        go_simp
        refine hK.out _ _ (fun _ => HXS4.out) ?_
        clear hK K
        refine wpL_take 8 62 (.bool true) [] rfl rfl (by kernel_rfl) (by decide) (by kernel_rfl) (by kernel_rfl) (by kernel_rfl) (fun _ _ _ h => h) HXS4.out (by rfl) (fun W hW => by go_simp) ?_
        simp only [Act.put, List.setIfInBounds_toArray, List.set_cons_zero, List.set_cons_succ]
        refine wpL_take 9 63 (.bool true) [] rfl rfl (by kernel_rfl) (by decide) (by kernel_rfl) (by kernel_rfl) (by kernel_rfl) (fun _ _ _ h => h) HXS4.out (by rfl) (fun W hW => by go_simp) ?_
        simp only [Act.put, List.setIfInBounds_toArray, List.set_cons_zero, List.set_cons_succ]
        refine wpL_take 10 64 (.agg #[i64 V.kind, i64 V.num, str V.s, .slice ak V.kids.length ck]) [] rfl rfl (by kernel_rfl) (by decide) (by kernel_rfl) (by kernel_rfl) (by kernel_rfl) (fun _ _ _ h => h) HXS4.out (by rfl) (fun W hW => by exact exec_load 24 (.tmp 3) rfl rfl (load24 hW.z)) ?_
        simp only [Act.put, List.setIfInBounds_toArray, List.set_cons_zero, List.set_cons_succ]
        refine wpL_take 12 66 (.agg #[i64 V.kind, i64 V.num, str V.s, .slice ak V.kids.length ck]) [] rfl rfl (by kernel_rfl) (by decide) (by kernel_rfl) (by kernel_rfl) (by kernel_rfl) (fun _ _ _ h => h) HXS4.out (by rfl) (fun W hW => by exact exec_load 24 (.tmp 3) rfl rfl (load24 hW.z)) ?_
        simp only [Act.put, List.setIfInBounds_toArray, List.set_cons_zero, List.set_cons_succ]
        refine wpL_one 11 rfl (by kernel_rfl) (by rfl) (fun K hK => ?_)
        go_simp
        refine (size_ok V x4 (fun _ => True) _ (HVa_4.out) (by omega)).mono ?_
        rintro e x5 ⟨rfl, hb⟩
        have HXB5 : Hid (Below w.heap.size w x5) := HXB4.out.trans (hb.mono HXB4.out.size)
        have HXS5 : Hid (Bx4 Z Y Q Db (.cells #[i64 V.kind, i64 V.num, str V.s, .slice ak V.kids.length ck] 24) (.cells #[i64 U.kind, i64 U.num, str U.s, .slice al U.kids.length cl] 24) (.cells #[i64 T.kind, i64 T.num, .slice an T.names.length cn, .slice at_ T.kids.length ct] 28) (.cells #[i64 D.kind, i64 D.num, str D.s, .slice a9 D.kids.length c9] 24) x5) := HXS4.out.under hb
        have HVa_5 : Hid (Vd x5 (fun _ => True) V (.slice ak V.kids.length ck)) := HVa_4.out.under hb
        have HVb_5 : Hid (Vd x5 (fun _ => True) U (.slice al U.kids.length cl)) := HVb_4.out.under hb
        have HA1_5 : Hid (Vd x5 (fun _ => True) V (.slice p1 V.kids.length q1)) := HA1_4.out.under hb
        have HU1_5 : Hid (Vd x5 (fun _ => True) U (.slice p2 U.kids.length q2)) := HU1_4.out.under hb
        clear hb
        go_simp
        refine hK.out _ _ (fun _ => HXS5.out) ?_
        clear hK K
        refine wpL_one 13 rfl (by kernel_rfl) (by rfl) (fun K hK => ?_)
        go_simp
        refine (val_ok _ V (Nat.le_refl _) (by omega) x5 (fun _ => True) _ (HVa_5.out)).mono ?_
        rintro e x6 ⟨p3, q3, rfl, hb, hd⟩
        have HXB6 : Hid (Below w.heap.size w x6) := HXB5.out.trans (hb.mono HXB5.out.size)
        have HXS6 : Hid (Bx4 Z Y Q Db (.cells #[i64 V.kind, i64 V.num, str V.s, .slice ak V.kids.length ck] 24) (.cells #[i64 U.kind, i64 U.num, str U.s, .slice al U.kids.length cl] 24) (.cells #[i64 T.kind, i64 T.num, .slice an T.names.length cn, .slice at_ T.kids.length ct] 28) (.cells #[i64 D.kind, i64 D.num, str D.s, .slice a9 D.kids.length c9] 24) x6) := HXS5.out.under hb
        have HVa_6 : Hid (Vd x6 (fun _ => True) V (.slice ak V.kids.length ck)) := HVa_5.out.under hb
        have HVb_6 : Hid (Vd x6 (fun _ => True) U (.slice al U.kids.length cl)) := HVb_5.out.under hb
        have HA1_6 : Hid (Vd x6 (fun _ => True) V (.slice p1 V.kids.length q1)) := HA1_5.out.under hb
        have HU1_6 : Hid (Vd x6 (fun _ => True) U (.slice p2 U.kids.length q2)) := HU1_5.out.under hb
        have HA2_6 : Hid (Vd x6 (fun _ => True) V (.slice p3 V.kids.length q3)) := hd.mono (fun _ _ _ => trivial)
        clear hb hd
        go_simp
        refine hK.out _ _ (fun _ => HXS6.out) ?_
        clear hK K
        refine wpL_one 14 rfl (by kernel_rfl) (by rfl) (fun K hK => ?_)
        go_simp
        refine (rsize_ok _ V (Nat.le_refl _) (by omega) x6 (fun _ => True) _ (HA2_6.out)).mono ?_
        rintro e x7 ⟨rfl, hb⟩
        have HXB7 : Hid (Below w.heap.size w x7) := HXB6.out.trans (hb.mono HXB6.out.size)
        have HXS7 : Hid (Bx4 Z Y Q Db (.cells #[i64 V.kind, i64 V.num, str V.s, .slice ak V.kids.length ck] 24) (.cells #[i64 U.kind, i64 U.num, str U.s, .slice al U.kids.length cl] 24) (.cells #[i64 T.kind, i64 T.num, .slice an T.names.length cn, .slice at_ T.kids.length ct] 28) (.cells #[i64 D.kind, i64 D.num, str D.s, .slice a9 D.kids.length c9] 24) x7) := HXS6.out.under hb
        have HVa_7 : Hid (Vd x7 (fun _ => True) V (.slice ak V.kids.length ck)) := HVa_6.out.under hb
        have HVb_7 : Hid (Vd x7 (fun _ => True) U (.slice al U.kids.length cl)) := HVb_6.out.under hb
        have HA1_7 : Hid (Vd x7 (fun _ => True) V (.slice p1 V.kids.length q1)) := HA1_6.out.under hb
        have HU1_7 : Hid (Vd x7 (fun _ => True) U (.slice p2 U.kids.length q2)) := HU1_6.out.under hb
        have HA2_7 : Hid (Vd x7 (fun _ => True) V (.slice p3 V.kids.length q3)) := HA2_6.out.under hb
        clear hb
        go_simp
        refine hK.out _ _ (fun _ => HXS7.out) ?_
        clear hK K
        refine wpL_take 15 69 (.bool true) [] rfl rfl (by kernel_rfl) (by decide) (by kernel_rfl) (by kernel_rfl) (by kernel_rfl) (fun _ _ _ h => h) HXS7.out (by rfl) (fun W hW => by go_simp) ?_
        simp only [Act.put, List.setIfInBounds_toArray, List.set_cons_zero, List.set_cons_succ]
        refine wpL_take 16 70 (.bool true) [] rfl rfl (by kernel_rfl) (by decide) (by kernel_rfl) (by kernel_rfl) (by kernel_rfl) (fun _ _ _ h => h) HXS7.out (by rfl) (fun W hW => by go_simp) ?_
        simp only [Act.put, List.setIfInBounds_toArray, List.set_cons_zero, List.set_cons_succ]
        refine wpL_take 17 71 (.bool true) [] rfl rfl (by kernel_rfl) (by decide) (by kernel_rfl) (by kernel_rfl) (by kernel_rfl) (fun _ _ _ h => h) HXS7.out (by rfl) (fun W hW => by go_simp) ?_
        simp only [Act.put, List.setIfInBounds_toArray, List.set_cons_zero, List.set_cons_succ]
        refine wpL_take 18 72 (.agg #[i64 V.kind, i64 V.num, str V.s, .slice ak V.kids.length ck]) [] rfl rfl (by kernel_rfl) (by decide) (by kernel_rfl) (by kernel_rfl) (by kernel_rfl) (fun _ _ _ h => h) HXS7.out (by rfl) (fun W hW => by exact exec_load 24 (.tmp 3) rfl rfl (load24 hW.z)) ?_
        simp only [Act.put, List.setIfInBounds_toArray, List.set_cons_zero, List.set_cons_succ]
        refine wpL_take 21 75 (.agg #[i64 V.kind, i64 V.num, str V.s, .slice ak V.kids.length ck]) [] rfl rfl (by kernel_rfl) (by decide) (by kernel_rfl) (by kernel_rfl) (by kernel_rfl) (fun _ _ _ h => h) HXS7.out (by rfl) (fun W hW => by exact exec_load 24 (.tmp 3) rfl rfl (load24 hW.z)) ?_
        simp only [Act.put, List.setIfInBounds_toArray, List.set_cons_zero, List.set_cons_succ]
        refine wpL_one 19 rfl (by kernel_rfl) (by rfl) (fun K hK => ?_)
        go_simp
        refine (copy_ok V x7 (fun _ => True) _ (HVa_7.out) (by omega)).mono ?_
        rintro e x8 ⟨p4, q4, rfl, hb, hd⟩
        have HXB8 : Hid (Below w.heap.size w x8) := HXB7.out.trans (hb.mono HXB7.out.size)
        have HXS8 : Hid (Bx4 Z Y Q Db (.cells #[i64 V.kind, i64 V.num, str V.s, .slice ak V.kids.length ck] 24) (.cells #[i64 U.kind, i64 U.num, str U.s, .slice al U.kids.length cl] 24) (.cells #[i64 T.kind, i64 T.num, .slice an T.names.length cn, .slice at_ T.kids.length ct] 28) (.cells #[i64 D.kind, i64 D.num, str D.s, .slice a9 D.kids.length c9] 24) x8) := HXS7.out.under hb
        have HVa_8 : Hid (Vd x8 (fun _ => True) V (.slice ak V.kids.length ck)) := HVa_7.out.under hb
        have HVb_8 : Hid (Vd x8 (fun _ => True) U (.slice al U.kids.length cl)) := HVb_7.out.under hb
        have HA1_8 : Hid (Vd x8 (fun _ => True) V (.slice p1 V.kids.length q1)) := HA1_7.out.under hb
        have HU1_8 : Hid (Vd x8 (fun _ => True) U (.slice p2 U.kids.length q2)) := HU1_7.out.under hb
        have HA2_8 : Hid (Vd x8 (fun _ => True) V (.slice p3 V.kids.length q3)) := HA2_7.out.under hb
        have HA3_8 : Hid (Vd x8 (fun _ => True) V (.slice p4 V.kids.length q4)) := hd.mono (fun _ _ _ => trivial)
        clear hb hd
        go_simp
        refine hK.out _ _ (fun _ => HXS8.out) ?_
        clear hK K
        refine wpL_one 20 rfl (by kernel_rfl) (by rfl) (fun K hK => ?_)
        go_simp
        refine (val_ok _ V (Nat.le_refl _) (by omega) x8 (fun _ => True) _ (HA3_8.out)).mono ?_
        rintro e x9 ⟨p5, q5, rfl, hb, hd⟩
        have HXB9 : Hid (Below w.heap.size w x9) := HXB8.out.trans (hb.mono HXB8.out.size)
        have HXS9 : Hid (Bx4 Z Y Q Db (.cells #[i64 V.kind, i64 V.num, str V.s, .slice ak V.kids.length ck] 24) (.cells #[i64 U.kind, i64 U.num, str U.s, .slice al U.kids.length cl] 24) (.cells #[i64 T.kind, i64 T.num, .slice an T.names.length cn, .slice at_ T.kids.length ct] 28) (.cells #[i64 D.kind, i64 D.num, str D.s, .slice a9 D.kids.length c9] 24) x9) := HXS8.out.under hb
        have HVa_9 : Hid (Vd x9 (fun _ => True) V (.slice ak V.kids.length ck)) := HVa_8.out.under hb
        have HVb_9 : Hid (Vd x9 (fun _ => True) U (.slice al U.kids.length cl)) := HVb_8.out.under hb
        have HA1_9 : Hid (Vd x9 (fun _ => True) V (.slice p1 V.kids.length q1)) := HA1_8.out.under hb
        have HU1_9 : Hid (Vd x9 (fun _ => True) U (.slice p2 U.kids.length q2)) := HU1_8.out.under hb
        have HA2_9 : Hid (Vd x9 (fun _ => True) V (.slice p3 V.kids.length q3)) := HA2_8.out.under hb
        have HA3_9 : Hid (Vd x9 (fun _ => True) V (.slice p4 V.kids.length q4)) := HA3_8.out.under hb
        have HA4_9 : Hid (Vd x9 (fun _ => True) V (.slice p5 V.kids.length q5)) := hd.mono (fun _ _ _ => trivial)
        clear hb hd
        go_simp
        refine hK.out _ _ (fun _ => HXS9.out) ?_
        clear hK K
        refine wpL_one 22 rfl (by kernel_rfl) (by rfl) (fun K hK => ?_)
        go_simp
        refine (val_ok _ V (Nat.le_refl _) (by omega) x9 (fun _ => True) _ (HVa_9.out)).mono ?_
        rintro e x10 ⟨p6, q6, rfl, hb, hd⟩
        have HXB10 : Hid (Below w.heap.size w x10) := HXB9.out.trans (hb.mono HXB9.out.size)
        have HXS10 : Hid (Bx4 Z Y Q Db (.cells #[i64 V.kind, i64 V.num, str V.s, .slice ak V.kids.length ck] 24) (.cells #[i64 U.kind, i64 U.num, str U.s, .slice al U.kids.length cl] 24) (.cells #[i64 T.kind, i64 T.num, .slice an T.names.length cn, .slice at_ T.kids.length ct] 28) (.cells #[i64 D.kind, i64 D.num, str D.s, .slice a9 D.kids.length c9] 24) x10) := HXS9.out.under hb
        have HVa_10 : Hid (Vd x10 (fun _ => True) V (.slice ak V.kids.length ck)) := HVa_9.out.under hb
        have HVb_10 : Hid (Vd x10 (fun _ => True) U (.slice al U.kids.length cl)) := HVb_9.out.under hb
        have HA1_10 : Hid (Vd x10 (fun _ => True) V (.slice p1 V.kids.length q1)) := HA1_9.out.under hb
        have HU1_10 : Hid (Vd x10 (fun _ => True) U (.slice p2 U.kids.length q2)) := HU1_9.out.under hb
        have HA2_10 : Hid (Vd x10 (fun _ => True) V (.slice p3 V.kids.length q3)) := HA2_9.out.under hb
        have HA3_10 : Hid (Vd x10 (fun _ => True) V (.slice p4 V.kids.length q4)) := HA3_9.out.under hb
        have HA4_10 : Hid (Vd x10 (fun _ => True) V (.slice p5 V.kids.length q5)) := HA4_9.out.under hb
        have HA5_10 : Hid (Vd x10 (fun _ => True) V (.slice p6 V.kids.length q6)) := hd.mono (fun _ _ _ => trivial)
        clear hb hd
        go_simp
        refine hK.out _ _ (fun _ => HXS10.out) ?_
        clear hK K
        refine wpL_one 23 rfl (by kernel_rfl) (by rfl) (fun K hK => ?_)
        go_simp
        refine (hid (vrsame_refl V x10 _ _ (HA4_10.out) (HA5_10.out)) |>.out).mono ?_
        rintro e x11 ⟨rfl, hb⟩
        have HXB11 : Hid (Below w.heap.size w x11) := HXB10.out.trans (hb.mono HXB10.out.size)
        have HXS11 : Hid (Bx4 Z Y Q Db (.cells #[i64 V.kind, i64 V.num, str V.s, .slice ak V.kids.length ck] 24) (.cells #[i64 U.kind, i64 U.num, str U.s, .slice al U.kids.length cl] 24) (.cells #[i64 T.kind, i64 T.num, .slice an T.names.length cn, .slice at_ T.kids.length ct] 28) (.cells #[i64 D.kind, i64 D.num, str D.s, .slice a9 D.kids.length c9] 24) x11) := HXS10.out.under hb
        have HVa_11 : Hid (Vd x11 (fun _ => True) V (.slice ak V.kids.length ck)) := HVa_10.out.under hb
        have HVb_11 : Hid (Vd x11 (fun _ => True) U (.slice al U.kids.length cl)) := HVb_10.out.under hb
        have HA1_11 : Hid (Vd x11 (fun _ => True) V (.slice p1 V.kids.length q1)) := HA1_10.out.under hb
        have HU1_11 : Hid (Vd x11 (fun _ => True) U (.slice p2 U.kids.length q2)) := HU1_10.out.under hb
        have HA2_11 : Hid (Vd x11 (fun _ => True) V (.slice p3 V.kids.length q3)) := HA2_10.out.under hb
        have HA3_11 : Hid (Vd x11 (fun _ => True) V (.slice p4 V.kids.length q4)) := HA3_10.out.under hb
        have HA4_11 : Hid (Vd x11 (fun _ => True) V (.slice p5 V.kids.length q5)) := HA4_10.out.under hb
        have HA5_11 : Hid (Vd x11 (fun _ => True) V (.slice p6 V.kids.length q6)) := HA5_10.out.under hb
        clear hb
        go_simp
        refine hK.out _ _ (fun _ => HXS11.out) ?_
        clear hK K
        refine wpL_take 24 78 (.bool true) [] rfl rfl (by kernel_rfl) (by decide) (by kernel_rfl) (by kernel_rfl) (by kernel_rfl) (fun _ _ _ h => h) HXS11.out (by rfl) (fun W hW => by go_simp) ?_
        simp only [Act.put, List.setIfInBounds_toArray, List.set_cons_zero, List.set_cons_succ]
        refine wpL_take 25 79 (.bool true) [] rfl rfl (by kernel_rfl) (by decide) (by kernel_rfl) (by kernel_rfl) (by kernel_rfl) (fun _ _ _ h => h) HXS11.out (by rfl) (fun W hW => by go_simp) ?_
        simp only [Act.put, List.setIfInBounds_toArray, List.set_cons_zero, List.set_cons_succ]
        refine wpL_one 26 rfl (by kernel_rfl) (by rfl) (fun K hK => ?_)
        go_simp
        refine (HFV.out x11 HXB11.out).mono ?_
        rintro e x12 ⟨rfl, hb⟩
        have HXB12 : Hid (Below w.heap.size w x12) := HXB11.out.trans (hb.mono HXB11.out.size)
        have HXS12 : Hid (Bx4 Z Y Q Db (.cells #[i64 V.kind, i64 V.num, str V.s, .slice ak V.kids.length ck] 24) (.cells #[i64 U.kind, i64 U.num, str U.s, .slice al U.kids.length cl] 24) (.cells #[i64 T.kind, i64 T.num, .slice an T.names.length cn, .slice at_ T.kids.length ct] 28) (.cells #[i64 D.kind, i64 D.num, str D.s, .slice a9 D.kids.length c9] 24) x12) := HXS11.out.under hb
        have HVa_12 : Hid (Vd x12 (fun _ => True) V (.slice ak V.kids.length ck)) := HVa_11.out.under hb
        have HVb_12 : Hid (Vd x12 (fun _ => True) U (.slice al U.kids.length cl)) := HVb_11.out.under hb
        have HA1_12 : Hid (Vd x12 (fun _ => True) V (.slice p1 V.kids.length q1)) := HA1_11.out.under hb
        have HU1_12 : Hid (Vd x12 (fun _ => True) U (.slice p2 U.kids.length q2)) := HU1_11.out.under hb
        have HA2_12 : Hid (Vd x12 (fun _ => True) V (.slice p3 V.kids.length q3)) := HA2_11.out.under hb
        have HA3_12 : Hid (Vd x12 (fun _ => True) V (.slice p4 V.kids.length q4)) := HA3_11.out.under hb
        have HA4_12 : Hid (Vd x12 (fun _ => True) V (.slice p5 V.kids.length q5)) := HA4_11.out.under hb
        have HA5_12 : Hid (Vd x12 (fun _ => True) V (.slice p6 V.kids.length q6)) := HA5_11.out.under hb
        clear hb
        go_simp
        refine hK.out _ _ (fun _ => HXS12.out) ?_
        clear hK K
        refine wpL_take 27 81 (.bool true) [] rfl rfl (by kernel_rfl) (by decide) (by kernel_rfl) (by kernel_rfl) (by kernel_rfl) (fun _ _ _ h => h) HXS12.out (by rfl) (fun W hW => by go_simp) ?_
        simp only [Act.put, List.setIfInBounds_toArray, List.set_cons_zero, List.set_cons_succ]
        refine wpL_one 28 rfl (by kernel_rfl) (by rfl) (fun K hK => ?_)
        go_simp
        refine hK.out _ _ (fun h => absurd rfl h) ?_
        clear hK K
        refine wpL_done (by kernel_rfl) ?_
        refine NoPanic.normal ?_
        go_wp2_with fail
        go_ret
        exact ⟨rfl, HXB12.out⟩
end Go.Proofs.YtgiemijhndanjaaDoor
