/- ValsAt's walk; no statement is proved in this text. -/
import Derived.Test.YtgiemijhndanjaaDoorRat
import Derived.Test.YtgiemijhndanjaaDoorRft
import Derived.Test.YtgiemijhndanjaaDoorRsv
import Derived.Test.YtgiemijhndanjaaDoorMu
import Derived.Test.YtgiemijhndanjaaDoorFv
import Derived.Test.YtgiemijhndanjaaDoorRck
import Derived.Test.YtgiemijhndanjaaDoorVa
namespace Go.Proofs.YtgiemijhndanjaaDoor
open Go.ChangeShapes Go.WideShapes Go.ChangeAt Go.RowKit Go.Deep
attribute [local go_sem ↓] Go.wp_at_zero Go.wp_at_succ

def zV : Vl := .mk 0 0 [] []
/-- What is answered of what was found. -/
def gotD : Option Vl → Vl × Int
  | none => (zV, 6)
  | some U => (U, 0)
def ansD (V : Vl) (T : Ty) (way : List Bs) : Vl × Int := if fitsB V T = true then gotD (atW way V T) else (zV, 4)
theorem zV_leaf (w : World) (S : Nat → Prop) : Vd w S zV (.slice none 0 0) := Vd.leaf _ _ 0 0 [] (Nat.zero_le _) none 0
set_option maxRecDepth 100000 in
set_option maxHeartbeats 12800000 in
theorem at_no (V : Vl) (T : Ty) (w : World) (kv nv tv wv : Value) (hV : Vd w (fun _ => True) V kv) (hR : Rd w (fun _ => True) T nv tv) (hsz : V.size ≤ 10000) (hfit : fitsB V T = false) : Calls Tryd.prog 26 #[vlV V kv, tyV T.kind T.num nv tv, wv] w fun e w' => e = .returned (.tuple #[zAgg, i64 4]) ∧ Below w.heap.size w w' := by
  have HFT : Hid (∀ W kv nv tv, Vd W (fun _ => True) V kv → Rd W (fun _ => True) T nv tv → Calls Tryd.prog 14 #[vlV V kv, tyV T.kind T.num nv tv] W fun e w' => e = .returned (.bool false) ∧ Below W.heap.size W w') := fun W kv nv tv h1 h2 => by
    have := fits_ok V T W _ _ kv nv tv h1 h2 (by omega)
    rw [hfit] at this
    exact this
  have HV2 := hid hV
  have HR2 := hid hR
  obtain ⟨ak, ck, rfl⟩ := hV.form
  obtain ⟨an, cn, rfl, at_, ct, rfl⟩ := hR.form
  have HX : Hid ((((w.alloc (.cells #[i64 V.kind, i64 V.num, str V.s, .slice ak V.kids.length ck] 24)).alloc (.cells #[i64 T.kind, i64 T.num, .slice an T.names.length cn, .slice at_ T.kids.length ct] 28)).alloc (zO 24)).heap[w.heap.size]? = some (.cells #[i64 V.kind, i64 V.num, str V.s, .slice ak V.kids.length ck] 24)) := blk_alloc (blk_alloc (heap_last w _) _) _
  have HY : Hid ((((w.alloc (.cells #[i64 V.kind, i64 V.num, str V.s, .slice ak V.kids.length ck] 24)).alloc (.cells #[i64 T.kind, i64 T.num, .slice an T.names.length cn, .slice at_ T.kids.length ct] 28)).alloc (zO 24)).heap[w.heap.size + 1]? = some (.cells #[i64 T.kind, i64 T.num, .slice an T.names.length cn, .slice at_ T.kids.length ct] 28)) := blk_alloc (heap_at3 _ _ _ (by simp)) _
  have HR0 : Hid ((((w.alloc (.cells #[i64 V.kind, i64 V.num, str V.s, .slice ak V.kids.length ck] 24)).alloc (.cells #[i64 T.kind, i64 T.num, .slice an T.names.length cn, .slice at_ T.kids.length ct] 28)).alloc (zO 24)).heap[w.heap.size + 2]? = some (zO 24)) := heap_at3 _ _ _ (by simp)
  have HBV : Hid (Below w.heap.size w (((w.alloc (.cells #[i64 V.kind, i64 V.num, str V.s, .slice ak V.kids.length ck] 24)).alloc (.cells #[i64 T.kind, i64 T.num, .slice an T.names.length cn, .slice at_ T.kids.length ct] 28)).alloc (zO 24))) := ((below_one w _).trans ((below_one _ _).mono (by simp))).trans ((below_one _ _).mono (by simp; omega))
  clear hV hR hfit
  go_enter Tryd.func26, Tryd.ntmps26
  go_upto_region 1 with fail
  generalize ((w.alloc (.cells #[i64 V.kind, i64 V.num, str V.s, .slice ak V.kids.length ck] 24)).alloc (.cells #[i64 T.kind, i64 T.num, .slice an T.names.length cn, .slice at_ T.kids.length ct] 28)).alloc (zO 24) = V0 at *
  obtain ⟨Z, hZ⟩ : ∃ Z, Z = w.heap.size := ⟨_, rfl⟩
  obtain ⟨Y, hY⟩ : ∃ Y, Y = w.heap.size + 1 := ⟨_, rfl⟩
  obtain ⟨R, hR⟩ : ∃ R, R = w.heap.size + 2 := ⟨_, rfl⟩
  have HRw : Hid (w.heap.size ≤ R) := by show _ ≤ _; omega
  rw [← hZ] at HX
  rw [← hY] at HY
  rw [← hR] at HR0
  rw [← hR, ← hY, ← hZ]
  clear hZ hY hR
  have zc0 : V0.cell? ⟨Z, 0, none⟩ = some (i64 V.kind) := blk_cell HX.out 0
  have zc1 : V0.cell? ⟨Z, 1, none⟩ = some (i64 V.num) := blk_cell HX.out 1
  have zc2 : V0.cell? ⟨Z, 2, none⟩ = some (str V.s) := blk_cell HX.out 2
  have zc3 : V0.cell? ⟨Z, 3, none⟩ = some (.slice ak V.kids.length ck) := blk_cell HX.out 3
  have yc0 : V0.cell? ⟨Y, 0, none⟩ = some (i64 T.kind) := blk_cell HY.out 0
  have yc1 : V0.cell? ⟨Y, 1, none⟩ = some (i64 T.num) := blk_cell HY.out 1
  have yc2 : V0.cell? ⟨Y, 2, none⟩ = some (.slice an T.names.length cn) := blk_cell HY.out 2
  have yc3 : V0.cell? ⟨Y, 3, none⟩ = some (.slice at_ T.kids.length ct) := blk_cell HY.out 3
  have HC1 := hid (HFT.out V0 _ _ _ (HV2.out.under HBV.out) (HR2.out.under HBV.out))
  clear HFT
  go_wp2_with fail
  refine HC1.out.mono ?_
  rintro e w1 ⟨rfl, hb1⟩
  have HB1 : Hid (Below w.heap.size w w1) := HBV.out.trans (hb1.mono HBV.out.size)
  have HR1 : Hid (w1.heap[R]? = some (zO 24)) := blk_below HR0.out hb1
  clear hb1 HC1 zc0 zc1 zc2 zc3 yc0 yc1 yc2 yc3
  have rc0 : w1.cell? ⟨R, 0, none⟩ = some (i64 0) := blk_cell HR1.out 0
  have rf0 : w1.frozen? ⟨R, 0, none⟩ = false := blk_frozen HR1.out 0
  have rc1 : w1.cell? ⟨R, 1, none⟩ = some (i64 0) := blk_cell HR1.out 1
  have rf1 : w1.frozen? ⟨R, 1, none⟩ = false := blk_frozen HR1.out 1
  have rc2 : w1.cell? ⟨R, 2, none⟩ = some (.string ⟨#[]⟩) := blk_cell HR1.out 2
  have rf2 : w1.frozen? ⟨R, 2, none⟩ = false := blk_frozen HR1.out 2
  have rc3 : w1.cell? ⟨R, 3, none⟩ = some (.slice none 0 0) := blk_cell HR1.out 3
  have rf3 : w1.frozen? ⟨R, 3, none⟩ = false := blk_frozen HR1.out 3
  go_wp2_with fail
  exact bodyPost_ret (v := .tuple #[zAgg, i64 4]) (results_cell Tryd.results26 rfl rfl (load24 (set4 HR1.out _ _ _ _))) rfl ⟨rfl, bset4 HB1.out HRw.out _ _ _ _⟩
theorem atW_size : ∀ (way : List Bs) (V : Vl) (T : Ty) (U : Vl), T.formed = true → firstF V T = [] → atW way V T = some U → U.size ≤ V.size
  | [], V, T, U, _, _, h => by cases h; exact Nat.le_refl _
  | x :: r, V, T, U, hf, hn, h => by
    unfold atW at h
    split at h
    · cases h
    · rename_i hp
      have hroom := place_room hf (first_nil hn).1 (show 0 ≤ placeF V T x by omega)
      rw [getD_lt _ _ _ hroom] at h
      obtain ⟨g1, g2⟩ := first_nil hn
      obtain ⟨g3, g4⟩ := kid_room hf g1 _ hroom
      have h1 := atW_size r _ _ U (kidT_formed hf _ g3 g4) (g2 _ hroom) h
      have h2 := sizeL_mem (List.getElem_mem hroom)
      have h3 := V.size_eq
      omega
theorem at_any (V : Vl) (T : Ty) (way : List Bs) (w : World) (kv nv tv wv : Value) (hV : Vd w (fun _ => True) V kv) (hR : Rd w (fun _ => True) T nv tv) (hw : Strs w (fun _ => True) wv way) (hP : Pw w) (hsz : V.size ≤ 400) : Calls Tryd.prog 26 #[vlV V kv, tyV T.kind T.num nv tv, wv] w fun e w' => ∃ a c, e = .returned (.tuple #[vlV (ansD V T way).1 (.slice a (ansD V T way).1.kids.length c), i64 (ansD V T way).2]) ∧ Below w.heap.size w w' ∧ Vd w' (fun b => w.heap.size ≤ b) (ansD V T way).1 (.slice a (ansD V T way).1.kids.length c) := by
  unfold ansD
  by_cases hf : fitsB V T = true
  · rw [if_pos hf]
    obtain ⟨hfm, hfn⟩ := fits_first hf
    refine (at_in V T way w kv nv tv wv hV hR hw hP (by omega) hf (fun U hU W kv h => copy_ok U W _ kv h (by have := atW_size way V T U hfm hfn hU; omega))).mono ?_
    rintro e w' ⟨hb, h1, h2⟩
    cases hro : atW way V T with
    | none => exact ⟨none, 0, h1 hro, hb, zV_leaf _ _⟩
    | some U =>
      obtain ⟨a, c, he, hd⟩ := h2 U hro
      exact ⟨a, c, he, hb, hd⟩
  · rw [if_neg hf]
    refine (at_no V T w kv nv tv wv hV hR (by omega) (by simpa using hf)).mono ?_
    rintro e w' ⟨rfl, hb⟩
    exact ⟨none, 0, rfl, hb, zV_leaf _ _⟩
theorem rat_any (V : Vl) (T : Ty) (way : List Bs) (lo : Nat) (S0 : Nat → Prop) (hS0 : ∀ b, S0 b → b < lo) (w : World) (kv nv tv wv : Value) (hlo : lo ≤ w.heap.size) (hV : Vd w S0 V kv) (hR : Rd w (fun _ => True) T nv tv) (hw : Strs w (fun _ => True) wv way) (hfit : fitsB V T = true) (hsz : V.size ≤ 400) : Calls Tryd.prog 27 #[vlV V kv, tyV T.kind T.num nv tv, wv] w fun e w' => ∃ a c, e = .returned (.agg #[i64 (ansD V T way).1.kind, i64 (ansD V T way).1.num, str (ansD V T way).1.s, .slice a (ansD V T way).1.kids.length c, i64 (ansD V T way).2]) ∧ Below w.heap.size w w' ∧ Vd w' S0 (ansD V T way).1 (.slice a (ansD V T way).1.kids.length c) := by
  unfold ansD
  rw [if_pos hfit]
  obtain ⟨hfm, hfn⟩ := fits_first hfit
  refine (rat_ok lo S0 hS0 way V T w kv nv tv wv hlo hV hR hw hfm hfn hsz).mono ?_
  rintro e w' ⟨hb, ⟨hro, rfl⟩ | ⟨U, a, c, hro, rfl, hd⟩⟩
  · rw [hro]
    exact ⟨none, 0, rfl, hb, zV_leaf _ _⟩
  · rw [hro]
    exact ⟨a, c, rfl, hb, hd⟩
theorem ansD_size (V : Vl) (T : Ty) (way : List Bs) (h : V.size ≤ 400) : (ansD V T way).1.size ≤ 400 := by
  unfold ansD
  split
  · rename_i hf
    obtain ⟨hfm, hfn⟩ := fits_first hf
    cases hro : atW way V T with
    | none => simp [gotD, zV, Vl.size, sizeL]
    | some U => have := atW_size way V T U hfm hfn hro; simp only [gotD]; omega
  · simp [zV, Vl.size, sizeL]
mutual
theorem sameV_refl : ∀ a : Vl, sameV a a = true
  | .mk k n s l => by simp [sameV, sameW_refl l]
theorem sameW_refl : ∀ l : List Vl, sameW l l = true
  | [] => by simp [sameW]
  | a :: r => by simp [sameW, sameV_refl a, sameW_refl r]
end
theorem vrsame_refl (V : Vl) (w : World) (kv lv : Value) (h1 : Vd w (fun _ => True) V kv) (h2 : Vd w (fun _ => True) V lv) : Calls Tryd.prog 20 #[vlV V kv, vlV V lv] w fun e w' => e = .returned (.bool true) ∧ Below w.heap.size w w' := by
  have := vrsame_ok _ V (Nat.le_refl _) V w (fun _ => True) kv lv h1 h2
  rw [sameV_refl] at this
  exact this
theorem vrsame_zero (D : Vl) (hD : D = zV) (w : World) (kv : Value) (h1 : Vd w (fun _ => True) D kv) : Calls Tryd.prog 20 #[vlV D kv, zAgg] w fun e w' => e = .returned (.bool true) ∧ Below w.heap.size w w' := by
  have := vrsame_refl D w kv (.slice none 0 0) h1 (by rw [hD]; exact zV_leaf _ _)
  rw [hD] at this ⊢
  exact this
theorem typ_any (T : Ty) (w : World) (nv kv : Value) (h : Rd w (fun _ => True) T nv kv) (hc : T.count ≤ 1000) : Calls Tryd.prog 12 #[tyV T.kind T.num nv kv] w fun e w' => ∃ a n c, e = .returned (tyV T.kind T.num nv (.slice a n c)) ∧ Below w.heap.size w w' ∧ Rd w' (fun _ => True) T nv (.slice a n c) := by
  refine (ref_ok _ T (Nat.le_refl _) hc w.heap.size w nv kv (Nat.le_refl _) (h.mono (fun b _ hb => hb))).mono ?_
  rintro e w' ⟨a, n, c, rfl, hb, hr⟩
  exact ⟨a, n, c, rfl, hb, hr.mono (fun _ _ _ => trivial)⟩
theorem zero33 (W : World) : (zeroValue 33).run Tryd.prog W = .ok zAgg W := by kernel_rfl
theorem zero57 (W : World) : (zeroValue 57).run Tryd.prog W = .ok (.agg #[i64 0, i64 0, .string ⟨#[]⟩, .slice none 0 0, i64 0]) W := by kernel_rfl
/-- Three boxes. -/
structure B3 (Z X Y : Nat) (a b c : Obj) (W : World) : Prop where
  z : W.heap[Z]? = some a
  x : W.heap[X]? = some b
  y : W.heap[Y]? = some c
theorem B3.under {Z X Y : Nat} {a b c : Obj} {W W' : World} (h : B3 Z X Y a b c W) (hb : Below W.heap.size W W') : B3 Z X Y a b c W' := ⟨blk_below h.z hb, blk_below h.x hb, blk_below h.y hb⟩
theorem dr_below (w : World) : Below w.heap.size w w.drew := ⟨rfl, rfl, rfl, Nat.le_refl _, fun _ _ => rfl⟩
theorem fin7 {w Wl : World} {Z X Y2 G gx : Nat} {a b c : Obj} {D : Vl} {a9 p9 : Option Addr} {c9 q9 : Nat} (E : Int) (hB : Below w.heap.size w Wl) (hS : B3 Z X Y2 a b c Wl) (hZ : Z < gx ∧ X < gx ∧ Y2 < gx) (hG : Wl.heap[G]? = some zO5) (hGw : w.heap.size ≤ G) (hgx : gx ≤ G) (hx : Vd Wl (fun b => b < gx) D (.slice a9 D.kids.length c9)) (hg : Vd Wl (fun b => b ≠ G) D (.slice p9 D.kids.length q9)) :
    ∀ Wf, Wf = (((((Wl.setCell ⟨G, 0, none⟩ (i64 D.kind)).setCell ⟨G, 1, none⟩ (i64 D.num)).setCell ⟨G, 2, none⟩ (str D.s)).setCell ⟨G, 3, none⟩ (.slice p9 D.kids.length q9)).setCell ⟨G, 4, none⟩ (i64 E)) → Below w.heap.size w Wf ∧ B3 Z X Y2 a b c Wf ∧ Wf.heap[G]? = some (.cells #[i64 D.kind, i64 D.num, str D.s, .slice p9 D.kids.length q9, i64 E] 57) ∧ Vd Wf (fun _ => True) D (.slice a9 D.kids.length c9) ∧ Vd Wf (fun _ => True) D (.slice p9 D.kids.length q9) := by
  rintro Wf rfl
  have ho : ∀ k, k ≠ G → (((((Wl.setCell ⟨G, 0, none⟩ (i64 D.kind)).setCell ⟨G, 1, none⟩ (i64 D.num)).setCell ⟨G, 2, none⟩ (str D.s)).setCell ⟨G, 3, none⟩ (.slice p9 D.kids.length q9)).setCell ⟨G, 4, none⟩ (i64 E)).heap[k]? = Wl.heap[k]? := fun k hk => oset5 hk _ _ _ _ _
  obtain ⟨h1, h2, h3⟩ := hZ
  exact ⟨bset5 hB hGw _ _ _ _ _, ⟨(ho Z (by omega)).trans hS.z, (ho X (by omega)).trans hS.x, (ho Y2 (by omega)).trans hS.y⟩, set5 hG _ _ _ _ _, hx.move (by simp [World.setCell]) fun k hk _ => ⟨trivial, ho k (by omega)⟩, hg.move (by simp [World.setCell]) fun k hk _ => ⟨trivial, ho k hk⟩⟩
theorem g_range {W : World} {G : Nat} {a0 a1 a2 a3 a4 : Value} (h : W.heap[G]? = some (.cells #[a0, a1, a2, a3, a4] 57)) : W.rangeAt G 0 [a0, a1, a2, a3] := fun j v hv => by
  rw [Nat.zero_add, blk_cell h]
  have hj := (List.getElem?_eq_some_iff.1 hv).1
  simp at hj
  obtain rfl | rfl | rfl | rfl : j = 0 ∨ j = 1 ∨ j = 2 ∨ j = 3 := by omega
  all_goals simpa using hv
set_option maxRecDepth 100000 in
set_option maxHeartbeats 25600000 in
theorem at_walk (w : World) (hE : Env w) (V : Vl) (kv : Value) (hV : Vd w (fun _ => True) V kv) (T : Ty) (nv tv : Value) (hR : Rd w (fun _ => True) T nv tv) (wv0 : Value) (way : List Bs) (hw : Strs w (fun _ => True) wv0 way) : Calls Tryd.prog 5 #[vlV V kv, tyV T.kind T.num nv tv, wv0] w fun e w' => e = .returned (.bool true) ∧ Below w.heap.size w w' := by
  have HFV : Hid (∀ W, Below w.heap.size w W → Calls Tryd.prog 10 #[] W fun e w' => e = .returned (.bool true) ∧ Below W.heap.size W w') := fun W hW => five_ok W (hE.below hW)
  have HPW : Hid (∀ W, Below w.heap.size w W → Pw W) := fun W hW => hE.below hW
  have HVd := hid hV
  have HRd := hid hR
  have HWs := hid hw
  obtain ⟨aw, cw, rfl, hwl, _, _⟩ := hw
  unfold maxLen at hwl
  obtain ⟨ak, ck, rfl⟩ := hV.form
  obtain ⟨an, cn, rfl, at_, ct, rfl⟩ := hR.form
  have HX : Hid (((w.alloc (.cells #[i64 V.kind, i64 V.num, str V.s, .slice ak V.kids.length ck] 24)).alloc (.cells #[i64 T.kind, i64 T.num, .slice an T.names.length cn, .slice at_ T.kids.length ct] 28)).heap[w.heap.size]? = some (.cells #[i64 V.kind, i64 V.num, str V.s, .slice ak V.kids.length ck] 24)) := blk_alloc (heap_last w _) _
  have HY : Hid (((w.alloc (.cells #[i64 V.kind, i64 V.num, str V.s, .slice ak V.kids.length ck] 24)).alloc (.cells #[i64 T.kind, i64 T.num, .slice an T.names.length cn, .slice at_ T.kids.length ct] 28)).heap[w.heap.size + 1]? = some (.cells #[i64 T.kind, i64 T.num, .slice an T.names.length cn, .slice at_ T.kids.length ct] 28)) := heap_at3 _ _ _ (by simp)
  have HBV : Hid (Below w.heap.size w ((w.alloc (.cells #[i64 V.kind, i64 V.num, str V.s, .slice ak V.kids.length ck] 24)).alloc (.cells #[i64 T.kind, i64 T.num, .slice an T.names.length cn, .slice at_ T.kids.length ct] 28))) := (below_one w _).trans ((below_one _ _).mono (by simp))
  clear hV hR hE
  go_enter Tryd.func5, Tryd.ntmps5
  go_upto_region 1 with fail
  obtain ⟨Z, hZ⟩ : ∃ Z, Z = w.heap.size := ⟨_, rfl⟩
  obtain ⟨Y, hY⟩ : ∃ Y, Y = w.heap.size + 1 := ⟨_, rfl⟩
  generalize ((w.alloc (.cells #[i64 V.kind, i64 V.num, str V.s, .slice ak V.kids.length ck] 24)).alloc (.cells #[i64 T.kind, i64 T.num, .slice an T.names.length cn, .slice at_ T.kids.length ct] 28)) = V0 at *
  rw [← hZ] at HX
  rw [← hY] at HY
  rw [← hY, ← hZ]
  clear hZ hY
  have zc0 : V0.cell? ⟨Z, 0, none⟩ = some (i64 V.kind) := blk_cell HX.out 0
  have zc1 : V0.cell? ⟨Z, 1, none⟩ = some (i64 V.num) := blk_cell HX.out 1
  have zc2 : V0.cell? ⟨Z, 2, none⟩ = some (str V.s) := blk_cell HX.out 2
  have zc3 : V0.cell? ⟨Z, 3, none⟩ = some (.slice ak V.kids.length ck) := blk_cell HX.out 3
  have yc0 : V0.cell? ⟨Y, 0, none⟩ = some (i64 T.kind) := blk_cell HY.out 0
  have yc1 : V0.cell? ⟨Y, 1, none⟩ = some (i64 T.num) := blk_cell HY.out 1
  have yc2 : V0.cell? ⟨Y, 2, none⟩ = some (.slice an T.names.length cn) := blk_cell HY.out 2
  have yc3 : V0.cell? ⟨Y, 3, none⟩ = some (.slice at_ T.kids.length ct) := blk_cell HY.out 3
  have HMU := hid (much_ok V T V0 _ _ _ (HVd.out.under HBV.out) (HRd.out.under HBV.out))
  go_wp2_with fail
  refine HMU.out.mono ?_
  rintro e w1 ⟨b0, rfl, hb1, hf1⟩
  have HB1 : Hid (Below w.heap.size w w1) := HBV.out.trans (hb1.mono HBV.out.size)
  have HX1 : Hid (w1.heap[Z]? = some (.cells #[i64 V.kind, i64 V.num, str V.s, .slice ak V.kids.length ck] 24)) := blk_below HX.out hb1
  have HY1 : Hid (w1.heap[Y]? = some (.cells #[i64 T.kind, i64 T.num, .slice an T.names.length cn, .slice at_ T.kids.length ct] 28)) := blk_below HY.out hb1
  have HF1 := hid hf1
  clear hb1 hf1 HMU zc0 zc1 zc2 zc3 yc0 yc1 yc2 yc3 HX HY HBV
  cases b0 with
  | true =>
    clear HF1
    go_wp2_with fail
    refine (HFV.out w1 HB1.out).mono ?_
    rintro e w9 ⟨rfl, hb9⟩
    have HB9 : Hid (Below w.heap.size w w9) := HB1.out.trans (hb9.mono HB1.out.size)
    clear hb9
    go_wp2_with fail
    go_ret
    exact ⟨rfl, HB9.out⟩
  | false =>
    obtain ⟨hs1, hs2, hs3⟩ := HF1.out rfl
    have HS3 := hid hs3
    clear HF1 hs3
    by_cases hw30 : 30 < way.length
    · have hwI : (30 : Int) < way.length := by omega
      go_wp2_with fail
      refine (HFV.out w1 HB1.out).mono ?_
      rintro e w9 ⟨rfl, hb9⟩
      have HB9 : Hid (Below w.heap.size w w9) := HB1.out.trans (hb9.mono HB1.out.size)
      clear hb9
      go_wp2_with fail
      go_ret
      exact ⟨rfl, HB9.out⟩
    · have hwI : ¬ (30 : Int) < way.length := by omega
      have HAT := hid (at_any V T way w1 _ _ _ _ (HVd.out.under HB1.out) (HRd.out.under HB1.out) (HWs.out.below HB1.out) (HPW.out w1 HB1.out) hs1)
      have HDs : Hid ((ansD V T way).1.size ≤ 400) := ansD_size V T way hs1
      have HAn : Hid (fitsB V T = false → (ansD V T way).1 = zV ∧ (ansD V T way).2 = 4) := fun h => by unfold ansD; rw [if_neg (by rw [h]; simp)]; exact ⟨rfl, rfl⟩
      have HRat : Hid (fitsB V T = true → ∀ lo (S0 : Nat → Prop), (∀ b, S0 b → b < lo) → ∀ W kv tv, lo ≤ W.heap.size → Vd W S0 V kv → Rd W (fun _ => True) T (.slice an T.names.length cn) tv → Strs W (fun _ => True) (.slice aw way.length cw) way → Calls Tryd.prog 27 #[vlV V kv, tyV T.kind T.num (.slice an T.names.length cn) tv, .slice aw way.length cw] W fun e w' => ∃ a c, e = .returned (.agg #[i64 (ansD V T way).1.kind, i64 (ansD V T way).1.num, str (ansD V T way).1.s, .slice a (ansD V T way).1.kids.length c, i64 (ansD V T way).2]) ∧ Below W.heap.size W w' ∧ Vd w' S0 (ansD V T way).1 (.slice a (ansD V T way).1.kids.length c)) := fun hf lo S0 hS0 W kv tv h1 h2 h3 h4 => rat_any V T way lo S0 hS0 W kv _ tv _ h1 h2 h3 h4 hf hs1
      generalize ansD V T way = AN at *
      obtain ⟨D, E⟩ := AN
      simp only at HAT HDs HAn HRat
      have zc0 : w1.cell? ⟨Z, 0, none⟩ = some (i64 V.kind) := blk_cell HX1.out 0
      have zc1 : w1.cell? ⟨Z, 1, none⟩ = some (i64 V.num) := blk_cell HX1.out 1
      have zc2 : w1.cell? ⟨Z, 2, none⟩ = some (str V.s) := blk_cell HX1.out 2
      have zc3 : w1.cell? ⟨Z, 3, none⟩ = some (.slice ak V.kids.length ck) := blk_cell HX1.out 3
      have yc0 : w1.cell? ⟨Y, 0, none⟩ = some (i64 T.kind) := blk_cell HY1.out 0
      have yc1 : w1.cell? ⟨Y, 1, none⟩ = some (i64 T.num) := blk_cell HY1.out 1
      have yc2 : w1.cell? ⟨Y, 2, none⟩ = some (.slice an T.names.length cn) := blk_cell HY1.out 2
      have yc3 : w1.cell? ⟨Y, 3, none⟩ = some (.slice at_ T.kids.length ct) := blk_cell HY1.out 3
      go_wp2_with fail
      refine HAT.out.mono ?_
      rintro e w3 ⟨a9, c9, rfl, hb3, hr3⟩
      have HB3 : Hid (Below w.heap.size w (w3.alloc (.cells #[i64 D.kind, i64 D.num, str D.s, .slice a9 D.kids.length c9] 24))) := (HB1.out.trans (hb3.mono HB1.out.size)).trans ((below_one w3 _).mono (Nat.le_trans HB1.out.size hb3.size))
      have HX3 : Hid ((w3.alloc (.cells #[i64 D.kind, i64 D.num, str D.s, .slice a9 D.kids.length c9] 24)).heap[Z]? = some (.cells #[i64 V.kind, i64 V.num, str V.s, .slice ak V.kids.length ck] 24)) := blk_alloc (blk_below HX1.out hb3) _
      have HY3 : Hid ((w3.alloc (.cells #[i64 D.kind, i64 D.num, str D.s, .slice a9 D.kids.length c9] 24)).heap[Y]? = some (.cells #[i64 T.kind, i64 T.num, .slice an T.names.length cn, .slice at_ T.kids.length ct] 28)) := blk_alloc (blk_below HY1.out hb3) _
      have HD3 : Hid ((w3.alloc (.cells #[i64 D.kind, i64 D.num, str D.s, .slice a9 D.kids.length c9] 24)).heap[w3.heap.size]? = some (.cells #[i64 D.kind, i64 D.num, str D.s, .slice a9 D.kids.length c9] 24)) := heap_last w3 _
      have HDx3 : Hid (Vd (w3.alloc (.cells #[i64 D.kind, i64 D.num, str D.s, .slice a9 D.kids.length c9] 24)) (fun _ => True) D (.slice a9 D.kids.length c9)) := (hr3.mono (S' := fun _ => True) (fun _ _ _ => trivial)).under (below_one w3 _)
      clear hb3 hr3 HAT zc0 zc1 zc2 zc3 yc0 yc1 yc2 yc3 HX1 HY1 HB1
      go_upto_region 4 with fail
      obtain ⟨X, hX⟩ : ∃ X, X = w3.heap.size := ⟨_, rfl⟩
      rw [← hX] at HD3 ⊢
      clear hX
      generalize w3.alloc (.cells #[i64 D.kind, i64 D.num, str D.s, .slice a9 D.kids.length c9] 24) = w4 at *
      have yc0 : w4.cell? ⟨Y, 0, none⟩ = some (i64 T.kind) := blk_cell HY3.out 0
      have yc1 : w4.cell? ⟨Y, 1, none⟩ = some (i64 T.num) := blk_cell HY3.out 1
      have yc2 : w4.cell? ⟨Y, 2, none⟩ = some (.slice an T.names.length cn) := blk_cell HY3.out 2
      have yc3 : w4.cell? ⟨Y, 3, none⟩ = some (.slice at_ T.kids.length ct) := blk_cell HY3.out 3
      have HTY := hid (typ_any T w4 _ _ (HRd.out.under HB3.out) (by omega))
      go_wp2_with fail
      refine HTY.out.mono ?_
      rintro e w4b ⟨a2, n2, c2, rfl, hb4, hr4⟩
      have HB5 : Hid (Below w.heap.size w (w4b.alloc (.cells #[i64 T.kind, i64 T.num, .slice an T.names.length cn, .slice a2 n2 c2] 37))) := (HB3.out.trans (hb4.mono HB3.out.size)).trans ((below_one w4b _).mono (Nat.le_trans HB3.out.size hb4.size))
      have HS5' : Hid (B3 Z X w4b.heap.size (.cells #[i64 V.kind, i64 V.num, str V.s, .slice ak V.kids.length ck] 24) (.cells #[i64 D.kind, i64 D.num, str D.s, .slice a9 D.kids.length c9] 24) (.cells #[i64 T.kind, i64 T.num, .slice an T.names.length cn, .slice a2 n2 c2] 37) (w4b.alloc (.cells #[i64 T.kind, i64 T.num, .slice an T.names.length cn, .slice a2 n2 c2] 37))) := ⟨blk_alloc (blk_below HX3.out hb4) _, blk_alloc (blk_below HD3.out hb4) _, heap_last w4b _⟩
      have HDx5 : Hid (Vd (w4b.alloc (.cells #[i64 T.kind, i64 T.num, .slice an T.names.length cn, .slice a2 n2 c2] 37)) (fun _ => True) D (.slice a9 D.kids.length c9)) := (HDx3.out.under hb4).under (below_one w4b _)
      have HRu5 : Hid (Rd (w4b.alloc (.cells #[i64 T.kind, i64 T.num, .slice an T.names.length cn, .slice a2 n2 c2] 37)) (fun _ => True) T (.slice an T.names.length cn) (.slice a2 n2 c2)) := hr4.under (below_one w4b _)
      clear hb4 hr4 HTY yc0 yc1 yc2 yc3 HX3 HY3 HD3 HDx3 HB3
      have hDs : D.size ≤ 400 := HDs.out
      go_upto_region 5 with fail
      obtain ⟨Y2, hY2⟩ : ∃ Y2, Y2 = w4b.heap.size := ⟨_, rfl⟩
      rw [← hY2] at HS5' ⊢
      clear hY2
      generalize w4b.alloc (.cells #[i64 T.kind, i64 T.num, .slice an T.names.length cn, .slice a2 n2 c2] 37) = w5 at *
      have HS5 := HS5'
      clear HS5'
      have HBd : Hid (Below w.heap.size w w5.drew) := HB5.out.trans ((dr_below w5).mono HB5.out.size)
      have HSd : Hid (B3 Z X Y2 (.cells #[i64 V.kind, i64 V.num, str V.s, .slice ak V.kids.length ck] 24) (.cells #[i64 D.kind, i64 D.num, str D.s, .slice a9 D.kids.length c9] 24) (.cells #[i64 T.kind, i64 T.num, .slice an T.names.length cn, .slice a2 n2 c2] 37) w5.drew) := HS5.out.under (dr_below w5)
      have HVa : Hid (Vd w5.drew (fun _ => True) V (.slice ak V.kids.length ck)) := HVd.out.under HBd.out
      have HVx : Hid (Vd w5.drew (fun _ => True) D (.slice a9 D.kids.length c9)) := HDx5.out.under (dr_below w5)
      have HRu : Hid (Rd w5.drew (fun _ => True) T (.slice an T.names.length cn) (.slice a2 n2 c2)) := HRu5.out.under (dr_below w5)
      by_cases hE0 : T.err = 0
      · have hEr : (T.err != 0) = false := by simpa using hE0
        have HE0 := hid hE0
        by_cases hfn : (firstF V T).length = 0
        · have HFt : Hid (fitsB V T = true) := by show _ = _; unfold fitsB; rw [decide_eq_true hE0, decide_eq_true hfn]; rfl
          have HFits : Hid (∀ W kv nv tv, Vd W (fun _ => True) V kv → Rd W (fun _ => True) T nv tv → Calls Tryd.prog 16 #[vlV V kv, tyV T.kind T.num nv tv] W fun e w' => e = .returned (.bool true) ∧ Below W.heap.size W w') := fun W kv nv tv h1 h2 => by
            have := rfits_ok _ V (Nat.le_refl _) T (err_formed HE0.out) W _ _ kv nv tv h1 h2
            rw [decide_eq_true hfn] at this
            exact this
          have HRt := hid (HRat.out HFt.out)
          clear hE0 HRat
          refine wp_region_noPanic ?_
          refine wp_region_last (B3 Z X Y2 (.cells #[i64 V.kind, i64 V.num, str V.s, .slice ak V.kids.length ck] 24) (.cells #[i64 D.kind, i64 D.num, str D.s, .slice a9 D.kids.length c9] 24) (.cells #[i64 T.kind, i64 T.num, .slice an T.names.length cn, .slice a2 n2 c2] 37)) 9 (by kernel_rfl) ?_
          refine wpL_take 0 29 (.agg #[i64 T.kind, i64 T.num, .slice an T.names.length cn, .slice a2 n2 c2]) [1, 3] rfl rfl (by kernel_rfl) (by decide) (by kernel_rfl) (by kernel_rfl) (by kernel_rfl) (fun _ _ _ h => h) HSd.out (by rfl) (fun W hW => by exact exec_load 37 (.tmp 9) rfl rfl (load37b hW.y)) ?_
          simp only [Act.put, List.setIfInBounds_toArray, List.set_cons_zero, List.set_cons_succ]
          refine wpL_one 1 rfl (by kernel_rfl) (by rfl) (fun K hK => ?_)
          go_simp
          refine (rcheck_ok T w5.drew _ _ _ (HRu.out) (by omega) HS3.out).mono ?_
          rintro e x1 ⟨rfl, hb⟩
          have HXB1 : Hid (Below w.heap.size w x1) := HBd.out.trans (hb.mono HBd.out.size)
          have HXS1 : Hid (B3 Z X Y2 (.cells #[i64 V.kind, i64 V.num, str V.s, .slice ak V.kids.length ck] 24) (.cells #[i64 D.kind, i64 D.num, str D.s, .slice a9 D.kids.length c9] 24) (.cells #[i64 T.kind, i64 T.num, .slice an T.names.length cn, .slice a2 n2 c2] 37) x1) := HSd.out.under hb
          have HVa_1 : Hid (Vd x1 (fun _ => True) V (.slice ak V.kids.length ck)) := HVa.out.under hb
          have HVx_1 : Hid (Vd x1 (fun _ => True) D (.slice a9 D.kids.length c9)) := HVx.out.under hb
          have HRu_1 : Hid (Rd x1 (fun _ => True) T (.slice an T.names.length cn) (.slice a2 n2 c2)) := HRu.out.under hb
          clear hb
          go_simp
          refine hK.out _ _ (fun _ => HXS1.out) ?_
          clear hK K
          refine wpL_take 2 31 (.bool false) [3] rfl rfl (by kernel_rfl) (by decide) (by kernel_rfl) (by kernel_rfl) (by kernel_rfl) (fun _ _ _ h => h) HXS1.out (by rfl) (fun W hW => by have f := hEr; go_simp) ?_
          simp only [Act.put, List.setIfInBounds_toArray, List.set_cons_zero, List.set_cons_succ]
          refine wpL_take 3 32 (.bool false) [] rfl rfl (by kernel_rfl) (by decide) (by kernel_rfl) (by kernel_rfl) (by kernel_rfl) (fun _ _ _ h => h) HXS1.out (by rfl) (fun W hW => by go_simp) ?_
          simp only [Act.put, List.setIfInBounds_toArray, List.set_cons_zero, List.set_cons_succ]
          refine wpL_take 4 33 (.agg #[i64 V.kind, i64 V.num, str V.s, .slice ak V.kids.length ck]) [5, 7, 8] rfl rfl (by kernel_rfl) (by decide) (by kernel_rfl) (by kernel_rfl) (by kernel_rfl) (fun _ _ _ h => h) HXS1.out (by rfl) (fun W hW => by exact exec_load 24 (.tmp 3) rfl rfl (load24 hW.z)) ?_
          simp only [Act.put, List.setIfInBounds_toArray, List.set_cons_zero, List.set_cons_succ]
          refine wpL_take 6 35 (.agg #[i64 T.kind, i64 T.num, .slice an T.names.length cn, .slice a2 n2 c2]) [7, 8] rfl rfl (by kernel_rfl) (by decide) (by kernel_rfl) (by kernel_rfl) (by kernel_rfl) (fun _ _ _ h => h) HXS1.out (by rfl) (fun W hW => by exact exec_load 37 (.tmp 9) rfl rfl (load37b hW.y)) ?_
          simp only [Act.put, List.setIfInBounds_toArray, List.set_cons_zero, List.set_cons_succ]
          refine wpL_one 5 rfl (by kernel_rfl) (by rfl) (fun K hK => ?_)
          go_simp
          refine (val_ok _ V (Nat.le_refl _) (by omega) x1 (fun _ => True) _ (HVa_1.out)).mono ?_
          rintro e x2 ⟨p1, q1, rfl, hb, hd⟩
          have HXB2 : Hid (Below w.heap.size w x2) := HXB1.out.trans (hb.mono HXB1.out.size)
          have HXS2 : Hid (B3 Z X Y2 (.cells #[i64 V.kind, i64 V.num, str V.s, .slice ak V.kids.length ck] 24) (.cells #[i64 D.kind, i64 D.num, str D.s, .slice a9 D.kids.length c9] 24) (.cells #[i64 T.kind, i64 T.num, .slice an T.names.length cn, .slice a2 n2 c2] 37) x2) := HXS1.out.under hb
          have HVa_2 : Hid (Vd x2 (fun _ => True) V (.slice ak V.kids.length ck)) := HVa_1.out.under hb
          have HVx_2 : Hid (Vd x2 (fun _ => True) D (.slice a9 D.kids.length c9)) := HVx_1.out.under hb
          have HRu_2 : Hid (Rd x2 (fun _ => True) T (.slice an T.names.length cn) (.slice a2 n2 c2)) := HRu_1.out.under hb
          have HV1_2 : Hid (Vd x2 (fun _ => True) V (.slice p1 V.kids.length q1)) := hd.mono (fun _ _ _ => trivial)
          clear hb hd
          go_simp
          refine hK.out _ _ (fun _ => HXS2.out) ?_
          clear hK K
          refine wpL_one 7 rfl (by kernel_rfl) (by rfl) (fun K hK => ?_)
          go_simp
          refine (HFits.out x2 _ _ _ (HV1_2.out) (HRu_2.out)).mono ?_
          rintro e x3 ⟨rfl, hb⟩
          have HXB3 : Hid (Below w.heap.size w x3) := HXB2.out.trans (hb.mono HXB2.out.size)
          have HXS3 : Hid (B3 Z X Y2 (.cells #[i64 V.kind, i64 V.num, str V.s, .slice ak V.kids.length ck] 24) (.cells #[i64 D.kind, i64 D.num, str D.s, .slice a9 D.kids.length c9] 24) (.cells #[i64 T.kind, i64 T.num, .slice an T.names.length cn, .slice a2 n2 c2] 37) x3) := HXS2.out.under hb
          have HVa_3 : Hid (Vd x3 (fun _ => True) V (.slice ak V.kids.length ck)) := HVa_2.out.under hb
          have HVx_3 : Hid (Vd x3 (fun _ => True) D (.slice a9 D.kids.length c9)) := HVx_2.out.under hb
          have HRu_3 : Hid (Rd x3 (fun _ => True) T (.slice an T.names.length cn) (.slice a2 n2 c2)) := HRu_2.out.under hb
          have HV1_3 : Hid (Vd x3 (fun _ => True) V (.slice p1 V.kids.length q1)) := HV1_2.out.under hb
          clear hb
          go_simp
          refine hK.out _ _ (fun _ => HXS3.out) ?_
          clear hK K
          refine wpL_take 8 37 (.bool false) [] rfl rfl (by kernel_rfl) (by decide) (by kernel_rfl) (by kernel_rfl) (by kernel_rfl) (fun _ _ _ h => h) HXS3.out (by rfl) (fun W hW => by go_simp) ?_
          simp only [Act.put, List.setIfInBounds_toArray, List.set_cons_zero, List.set_cons_succ]
          refine wpL_one 9 rfl (by kernel_rfl) (by rfl) (fun K hK => ?_)
          go_simp
          refine hK.out _ _ (fun h => absurd rfl h) ?_
          clear hK K
          refine wpL_done (by kernel_rfl) ?_
          refine NoPanic.normal ?_
          go_wp2_with fail
          have HB6 := HXB3
          have HS6 := HXS3
          have HDx6 : Hid (Vd x3 (fun b => b < x3.heap.size) D (.slice a9 D.kids.length c9)) := (HVx_3.out).mono (fun b _ h => h)
          have HRu6 := HRu_3
          generalize x3 = w6 at *
          obtain ⟨gx, hgx⟩ : ∃ gx, gx = w6.heap.size := ⟨_, rfl⟩
          have HGx0 : Hid (gx ≤ w6.drew.heap.size) := by show _ ≤ _; rw [hgx]; exact Nat.le_refl _
          have HZx : Hid (Z < gx ∧ X < gx ∧ Y2 < gx) := by rw [hgx]; exact ⟨blk_lt HS6.out.z, blk_lt HS6.out.x, blk_lt HS6.out.y⟩
          rw [← hgx] at HDx6
          clear hgx
          have HBd : Hid (Below w.heap.size w w6.drew) := HB6.out.trans ((dr_below w6).mono HB6.out.size)
          have HSd : Hid (B3 Z X Y2 (.cells #[i64 V.kind, i64 V.num, str V.s, .slice ak V.kids.length ck] 24) (.cells #[i64 D.kind, i64 D.num, str D.s, .slice a9 D.kids.length c9] 24) (.cells #[i64 T.kind, i64 T.num, .slice an T.names.length cn, .slice a2 n2 c2] 37) w6.drew) := HS6.out.under (dr_below w6)
          have HVa : Hid (Vd w6.drew (fun _ => True) V (.slice ak V.kids.length ck)) := HVd.out.under HBd.out
          have HVx : Hid (Vd w6.drew (fun b => b < gx) D (.slice a9 D.kids.length c9)) := HDx6.out.under (dr_below w6)
          have HRu : Hid (Rd w6.drew (fun _ => True) T (.slice an T.names.length cn) (.slice a2 n2 c2)) := HRu6.out.under (dr_below w6)
          have HWy : Hid (Strs w6.drew (fun _ => True) (.slice aw way.length cw) way) := HWs.out.below HBd.out
          go_upto_region 7 with fail
          refine wp_region_noPanic ?_
          refine wp_region_last (B3 Z X Y2 (.cells #[i64 V.kind, i64 V.num, str V.s, .slice ak V.kids.length ck] 24) (.cells #[i64 D.kind, i64 D.num, str D.s, .slice a9 D.kids.length c9] 24) (.cells #[i64 T.kind, i64 T.num, .slice an T.names.length cn, .slice a2 n2 c2] 37)) 6 (by kernel_rfl) ?_
          refine wpL_take 0 50 (.agg #[i64 V.kind, i64 V.num, str V.s, .slice ak V.kids.length ck]) [] rfl rfl (by kernel_rfl) (by decide) (by kernel_rfl) (by kernel_rfl) (by kernel_rfl) (fun _ _ _ h => h) HSd.out (by rfl) (fun W hW => by exact exec_load 24 (.tmp 3) rfl rfl (load24 hW.z)) ?_
          simp only [Act.put, List.setIfInBounds_toArray, List.set_cons_zero, List.set_cons_succ]
          refine wpL_take 2 52 (.agg #[i64 T.kind, i64 T.num, .slice an T.names.length cn, .slice a2 n2 c2]) [] rfl rfl (by kernel_rfl) (by decide) (by kernel_rfl) (by kernel_rfl) (by kernel_rfl) (fun _ _ _ h => h) HSd.out (by rfl) (fun W hW => by exact exec_load 37 (.tmp 9) rfl rfl (load37b hW.y)) ?_
          simp only [Act.put, List.setIfInBounds_toArray, List.set_cons_zero, List.set_cons_succ]
          refine wpL_take 3 53 (.slice aw way.length cw) [] rfl rfl (by kernel_rfl) (by decide) (by kernel_rfl) (by kernel_rfl) (by kernel_rfl) (fun _ _ _ h => h) HSd.out (by rfl) (fun W hW => by go_simp) ?_
          simp only [Act.put, List.setIfInBounds_toArray, List.set_cons_zero, List.set_cons_succ]
          refine wpL_two 1 5 rfl rfl (by kernel_rfl) (by rfl) (by rfl) (fun K hK => ?_) (fun K hK => ?_)
          · go_simp
            refine (val_ok _ V (Nat.le_refl _) (by omega) w6.drew (fun _ => True) _ (HVa.out)).mono ?_
            rintro e x1 ⟨p7, q7, rfl, hb, hd⟩
            have HXB1 : Hid (Below w.heap.size w x1) := HBd.out.trans (hb.mono HBd.out.size)
            have HXS1 : Hid (B3 Z X Y2 (.cells #[i64 V.kind, i64 V.num, str V.s, .slice ak V.kids.length ck] 24) (.cells #[i64 D.kind, i64 D.num, str D.s, .slice a9 D.kids.length c9] 24) (.cells #[i64 T.kind, i64 T.num, .slice an T.names.length cn, .slice a2 n2 c2] 37) x1) := HSd.out.under hb
            have HVa_1 : Hid (Vd x1 (fun _ => True) V (.slice ak V.kids.length ck)) := HVa.out.under hb
            have HVx_1 : Hid (Vd x1 (fun b => b < gx) D (.slice a9 D.kids.length c9)) := HVx.out.under hb
            have HRu_1 : Hid (Rd x1 (fun _ => True) T (.slice an T.names.length cn) (.slice a2 n2 c2)) := HRu.out.under hb
            have HWy_1 : Hid (Strs x1 (fun _ => True) (.slice aw way.length cw) way) := HWy.out.below hb
            have HV7_1 : Hid (Vd x1 (fun b => b < x1.heap.size) V (.slice p7 V.kids.length q7)) := hd.mono (fun b hb0 hlt => hlt)
            have HSZ1 : Hid (w6.drew.heap.size ≤ x1.heap.size) := hb.size
            clear hb hd
            go_simp
            refine hK.out _ _ (fun _ => HXS1.out) ?_
            clear hK K
            refine wpL_two 4 5 rfl rfl (by kernel_rfl) (by rfl) (by rfl) (fun K hK => ?_) (fun K hK => ?_)
            · go_simp
              refine (HRt.out x1.heap.size (fun b => b < x1.heap.size) (fun b hb0 => hb0) x1 _ _ (Nat.le_refl _) (HV7_1.out) (HRu_1.out) (HWy_1.out)).mono ?_
              rintro e x2 ⟨p9, q9, rfl, hb, hd⟩
              have HXB2 : Hid (Below w.heap.size w x2) := HXB1.out.trans (hb.mono HXB1.out.size)
              have HXS2 : Hid (B3 Z X Y2 (.cells #[i64 V.kind, i64 V.num, str V.s, .slice ak V.kids.length ck] 24) (.cells #[i64 D.kind, i64 D.num, str D.s, .slice a9 D.kids.length c9] 24) (.cells #[i64 T.kind, i64 T.num, .slice an T.names.length cn, .slice a2 n2 c2] 37) x2) := HXS1.out.under hb
              have HVa_2 : Hid (Vd x2 (fun _ => True) V (.slice ak V.kids.length ck)) := HVa_1.out.under hb
              have HVx_2 : Hid (Vd x2 (fun b => b < gx) D (.slice a9 D.kids.length c9)) := HVx_1.out.under hb
              have HRu_2 : Hid (Rd x2 (fun _ => True) T (.slice an T.names.length cn) (.slice a2 n2 c2)) := HRu_1.out.under hb
              have HWy_2 : Hid (Strs x2 (fun _ => True) (.slice aw way.length cw) way) := HWy_1.out.below hb
              have HV7_2 : Hid (Vd x2 (fun b => b < x1.heap.size) V (.slice p7 V.kids.length q7)) := HV7_1.out.under hb
              have HVg_2 : Hid (Vd x2 (fun b => b < x1.heap.size) D (.slice p9 D.kids.length q9)) := hd
              have HSZ4 : Hid (x1.heap.size ≤ x2.heap.size) := hb.size
              clear hb hd
              go_simp
              refine hK.out _ _ (fun _ => HXS2.out) ?_
              clear hK K
              refine wpL_one 5 rfl (by kernel_rfl) (by rfl) (fun K hK => ?_)
              go_simp
              obtain ⟨z3, hnw⟩ : ∃ W, W = x2.alloc zO5 := ⟨_, rfl⟩
              obtain ⟨G, hG⟩ : ∃ G, G = x2.heap.size := ⟨_, rfl⟩
              have hb : Below x2.heap.size x2 z3 := by rw [hnw]; exact below_one _ _
              have hgb : z3.heap[G]? = some zO5 := by rw [hnw, hG]; exact heap_last _ _
              have HGx : Hid (gx ≤ G) := by show _ ≤ _; rw [hG]; exact Nat.le_trans (Nat.le_trans (HGx0.out) HSZ1.out) HSZ4.out
              have HGw : Hid (w.heap.size ≤ G) := by show _ ≤ _; rw [hG]; exact HXB2.out.size
              have HGs : Hid (G < z3.heap.size ∧ G = x2.heap.size) := ⟨blk_lt hgb, hG⟩
              first | rw [← hnw, ← hG] | rw [show (w6.alloc zO5).drew = w6.drew.alloc zO5 from rfl, ← hnw, show w6.heap.size = G from hG.symm]
              have HXB3 : Hid (Below w.heap.size w z3) := HXB2.out.trans (hb.mono HXB2.out.size)
              have HXS3 : Hid (B3 Z X Y2 (.cells #[i64 V.kind, i64 V.num, str V.s, .slice ak V.kids.length ck] 24) (.cells #[i64 D.kind, i64 D.num, str D.s, .slice a9 D.kids.length c9] 24) (.cells #[i64 T.kind, i64 T.num, .slice an T.names.length cn, .slice a2 n2 c2] 37) z3) := HXS2.out.under hb
              have HVa_3 : Hid (Vd z3 (fun _ => True) V (.slice ak V.kids.length ck)) := HVa_2.out.under hb
              have HVx_3 : Hid (Vd z3 (fun b => b < gx) D (.slice a9 D.kids.length c9)) := HVx_2.out.under hb
              have HRu_3 : Hid (Rd z3 (fun _ => True) T (.slice an T.names.length cn) (.slice a2 n2 c2)) := HRu_2.out.under hb
              have HWy_3 : Hid (Strs z3 (fun _ => True) (.slice aw way.length cw) way) := HWy_2.out.below hb
              have HV7_3 : Hid (Vd z3 (fun b => b < x1.heap.size) V (.slice p7 V.kids.length q7)) := HV7_2.out.under hb
              have HVg_3 : Hid (Vd z3 (fun b => b < x1.heap.size) D (.slice p9 D.kids.length q9)) := HVg_2.out.under hb
              have HGb_3 : Hid (z3.heap[G]? = some zO5) := hgb
              clear hb hgb hnw hG
              refine hK.out _ _ (fun _ => HXS3.out) ?_
              clear hK K
              refine wpL_one 6 rfl (by kernel_rfl) (by rfl) (fun K hK => ?_)
              have r0 : z3.cell? ⟨G, 0, none⟩ = some (i64 0) := blk_cell (HGb_3.out) 0
              have f0 : z3.frozen? ⟨G, 0, none⟩ = false := blk_frozen (HGb_3.out) 0
              have r1 : z3.cell? ⟨G, 1, none⟩ = some (i64 0) := blk_cell (HGb_3.out) 1
              have f1 : z3.frozen? ⟨G, 1, none⟩ = false := blk_frozen (HGb_3.out) 1
              have r2 : z3.cell? ⟨G, 2, none⟩ = some (.string ⟨#[]⟩) := blk_cell (HGb_3.out) 2
              have f2 : z3.frozen? ⟨G, 2, none⟩ = false := blk_frozen (HGb_3.out) 2
              have r3 : z3.cell? ⟨G, 3, none⟩ = some (.slice none 0 0) := blk_cell (HGb_3.out) 3
              have f3 : z3.frozen? ⟨G, 3, none⟩ = false := blk_frozen (HGb_3.out) 3
              have r4 : z3.cell? ⟨G, 4, none⟩ = some (i64 0) := blk_cell (HGb_3.out) 4
              have f4 : z3.frozen? ⟨G, 4, none⟩ = false := blk_frozen (HGb_3.out) 4
              go_simp
              refine hK.out _ _ (fun h => absurd rfl h) ?_
              clear hK K
              refine wpL_done (by kernel_rfl) ?_
              refine NoPanic.normal ?_
              clear r0 r1 r2 r3 r4 f0 f1 f2 f3 f4
              have HF7 := hid (fin7 E HXB3.out HXS3.out HZx.out (HGb_3.out) HGw.out HGx.out (HVx_3.out) ((HVg_3.out).mono (fun b hb0 _ => by have h1 := HGs.out.2; have h2 := HSZ4.out; omega)))
              obtain ⟨Wf, hWf⟩ : ∃ Wf, Wf = (((((z3.setCell ⟨G, 0, none⟩ (i64 D.kind)).setCell ⟨G, 1, none⟩ (i64 D.num)).setCell ⟨G, 2, none⟩ (str D.s)).setCell ⟨G, 3, none⟩ (.slice p9 D.kids.length q9)).setCell ⟨G, 4, none⟩ (i64 E)) := ⟨_, rfl⟩
              obtain ⟨hf1, hf2, hf3, hf4, hf5⟩ := HF7.out Wf hWf
              rw [← hWf]
              have HBf0 := hid hf1
              have HSf0 := hid hf2
              have HGf0 := hid hf3
              have HVxf := hid hf4
              have HVgf := hid hf5
              clear hWf hf1 hf2 hf3 hf4 hf5 HF7
              have HBf : Hid (Below w.heap.size w Wf.drew) := HBf0.out.trans ((dr_below Wf).mono HBf0.out.size)
              have HSf : Hid (B3 Z X Y2 (.cells #[i64 V.kind, i64 V.num, str V.s, .slice ak V.kids.length ck] 24) (.cells #[i64 D.kind, i64 D.num, str D.s, .slice a9 D.kids.length c9] 24) (.cells #[i64 T.kind, i64 T.num, .slice an T.names.length cn, .slice a2 n2 c2] 37) Wf.drew) := HSf0.out.under (dr_below Wf)
              have HGb : Hid (Wf.drew.heap[G]? = some (.cells #[i64 D.kind, i64 D.num, str D.s, .slice p9 D.kids.length q9, i64 E] 57)) := HGf0.out
              have HVx : Hid (Vd Wf.drew (fun _ => True) D (.slice a9 D.kids.length c9)) := HVxf.out.under (dr_below Wf)
              have HVg : Hid (Vd Wf.drew (fun _ => True) D (.slice p9 D.kids.length q9)) := HVgf.out.under (dr_below Wf)
              have HSP : Hid ((B3 Z X Y2 (.cells #[i64 V.kind, i64 V.num, str V.s, .slice ak V.kids.length ck] 24) (.cells #[i64 D.kind, i64 D.num, str D.s, .slice a9 D.kids.length c9] 24) (.cells #[i64 T.kind, i64 T.num, .slice an T.names.length cn, .slice a2 n2 c2] 37) Wf.drew) ∧ Wf.drew.heap[G]? = some (.cells #[i64 D.kind, i64 D.num, str D.s, .slice p9 D.kids.length q9, i64 E] 57)) := ⟨HSf.out, HGb.out⟩
              have fe : (E == E) = true := by simp
              go_upto_region 8 with fail
              refine wp_region_noPanic ?_
              refine wp_region_last (fun W => (B3 Z X Y2 (.cells #[i64 V.kind, i64 V.num, str V.s, .slice ak V.kids.length ck] 24) (.cells #[i64 D.kind, i64 D.num, str D.s, .slice a9 D.kids.length c9] 24) (.cells #[i64 T.kind, i64 T.num, .slice an T.names.length cn, .slice a2 n2 c2] 37) W) ∧ W.heap[G]? = some (.cells #[i64 D.kind, i64 D.num, str D.s, .slice p9 D.kids.length q9, i64 E] 57)) 14 (by kernel_rfl) ?_
              refine wpL_take 0 55 (i64 E) [] rfl rfl (by kernel_rfl) (by decide) (by kernel_rfl) (by kernel_rfl) (by kernel_rfl) (fun _ _ _ h => h) HSP.out (by rfl) (fun W hW => by go_simp) ?_
              simp only [Act.put, List.setIfInBounds_toArray, List.set_cons_zero, List.set_cons_succ]
              refine wpL_take 1 56 (.pointer (some ⟨G, 4, none⟩)) [] rfl rfl (by kernel_rfl) (by decide) (by kernel_rfl) (by kernel_rfl) (by kernel_rfl) (fun _ _ _ h => h) HSP.out (by rfl) (fun W hW => by go_simp) ?_
              simp only [Act.put, List.setIfInBounds_toArray, List.set_cons_zero, List.set_cons_succ]
              refine wpL_take 2 57 (i64 E) [] rfl rfl (by kernel_rfl) (by decide) (by kernel_rfl) (by kernel_rfl) (by kernel_rfl) (fun _ _ _ h => h) HSP.out (by rfl) (fun W hW => by have e : W.cell? ⟨G, 4, none⟩ = some (i64 E) := blk_cell hW.2 4; go_simp) ?_
              simp only [Act.put, List.setIfInBounds_toArray, List.set_cons_zero, List.set_cons_succ]
              refine wpL_take 3 58 (.bool true) [] rfl rfl (by kernel_rfl) (by decide) (by kernel_rfl) (by kernel_rfl) (by kernel_rfl) (fun _ _ _ h => h) HSP.out (by rfl) (fun W hW => by go_simp) ?_
              simp only [Act.put, List.setIfInBounds_toArray, List.set_cons_zero, List.set_cons_succ]
              refine wpL_take 4 59 (.bool true) [] rfl rfl (by kernel_rfl) (by decide) (by kernel_rfl) (by kernel_rfl) (by kernel_rfl) (fun _ _ _ h => h) HSP.out (by rfl) (fun W hW => by go_simp) ?_
              simp only [Act.put, List.setIfInBounds_toArray, List.set_cons_zero, List.set_cons_succ]
              refine wpL_take 5 60 (.agg #[i64 D.kind, i64 D.num, str D.s, .slice a9 D.kids.length c9]) [] rfl rfl (by kernel_rfl) (by decide) (by kernel_rfl) (by kernel_rfl) (by kernel_rfl) (fun _ _ _ h => h) HSP.out (by rfl) (fun W hW => by exact exec_load 24 (.tmp 7) rfl rfl (load24 hW.1.x)) ?_
              simp only [Act.put, List.setIfInBounds_toArray, List.set_cons_zero, List.set_cons_succ]
              refine wpL_take 7 62 (.pointer (some ⟨G, 0, none⟩)) [] rfl rfl (by kernel_rfl) (by decide) (by kernel_rfl) (by kernel_rfl) (by kernel_rfl) (fun _ _ _ h => h) HSP.out (by rfl) (fun W hW => by go_simp) ?_
              simp only [Act.put, List.setIfInBounds_toArray, List.set_cons_zero, List.set_cons_succ]
              refine wpL_take 8 63 (.agg #[i64 D.kind, i64 D.num, str D.s, .slice p9 D.kids.length q9]) [] rfl rfl (by kernel_rfl) (by decide) (by kernel_rfl) (by kernel_rfl) (by kernel_rfl) (fun _ _ _ h => h) HSP.out (by rfl) (fun W hW => by exact exec_load 33 (.tmp 62) rfl rfl (load33r (l := [i64 D.kind, i64 D.num, str D.s, .slice p9 D.kids.length q9]) rfl (g_range hW.2))) ?_
              simp only [Act.put, List.setIfInBounds_toArray, List.set_cons_zero, List.set_cons_succ]
              refine wpL_one 6 rfl (by kernel_rfl) (by rfl) (fun K hK => ?_)
              go_simp
              refine (val_ok _ D (Nat.le_refl _) (by omega) Wf.drew (fun _ => True) _ (HVx.out)).mono ?_
              rintro e x1 ⟨p8, q8, rfl, hb, hd⟩
              have HXB1 : Hid (Below w.heap.size w x1) := HBf.out.trans (hb.mono HBf.out.size)
              have HXS1 : Hid (B3 Z X Y2 (.cells #[i64 V.kind, i64 V.num, str V.s, .slice ak V.kids.length ck] 24) (.cells #[i64 D.kind, i64 D.num, str D.s, .slice a9 D.kids.length c9] 24) (.cells #[i64 T.kind, i64 T.num, .slice an T.names.length cn, .slice a2 n2 c2] 37) x1) := HSf.out.under hb
              have HVx_1 : Hid (Vd x1 (fun _ => True) D (.slice a9 D.kids.length c9)) := HVx.out.under hb
              have HVg_1 : Hid (Vd x1 (fun _ => True) D (.slice p9 D.kids.length q9)) := HVg.out.under hb
              have HGb_1 : Hid (x1.heap[G]? = some (.cells #[i64 D.kind, i64 D.num, str D.s, .slice p9 D.kids.length q9, i64 E] 57)) := blk_below HGb.out hb
              have HD8_1 : Hid (Vd x1 (fun _ => True) D (.slice p8 D.kids.length q8)) := hd.mono (fun _ _ _ => trivial)
              clear hb hd
              have HXP1 : Hid ((B3 Z X Y2 (.cells #[i64 V.kind, i64 V.num, str V.s, .slice ak V.kids.length ck] 24) (.cells #[i64 D.kind, i64 D.num, str D.s, .slice a9 D.kids.length c9] 24) (.cells #[i64 T.kind, i64 T.num, .slice an T.names.length cn, .slice a2 n2 c2] 37) x1) ∧ x1.heap[G]? = some (.cells #[i64 D.kind, i64 D.num, str D.s, .slice p9 D.kids.length q9, i64 E] 57)) := ⟨HXS1.out, HGb_1.out⟩
              go_simp
              refine hK.out _ _ (fun _ => HXP1.out) ?_
              clear hK K
              refine wpL_one 9 rfl (by kernel_rfl) (by rfl) (fun K hK => ?_)
              go_simp
              refine (vrsame_refl D x1 _ _ (HD8_1.out) (HVg_1.out)).mono ?_
              rintro e x2 ⟨rfl, hb⟩
              have HXB2 : Hid (Below w.heap.size w x2) := HXB1.out.trans (hb.mono HXB1.out.size)
              have HXS2 : Hid (B3 Z X Y2 (.cells #[i64 V.kind, i64 V.num, str V.s, .slice ak V.kids.length ck] 24) (.cells #[i64 D.kind, i64 D.num, str D.s, .slice a9 D.kids.length c9] 24) (.cells #[i64 T.kind, i64 T.num, .slice an T.names.length cn, .slice a2 n2 c2] 37) x2) := HXS1.out.under hb
              have HVx_2 : Hid (Vd x2 (fun _ => True) D (.slice a9 D.kids.length c9)) := HVx_1.out.under hb
              have HVg_2 : Hid (Vd x2 (fun _ => True) D (.slice p9 D.kids.length q9)) := HVg_1.out.under hb
              have HGb_2 : Hid (x2.heap[G]? = some (.cells #[i64 D.kind, i64 D.num, str D.s, .slice p9 D.kids.length q9, i64 E] 57)) := blk_below HGb_1.out hb
              have HD8_2 : Hid (Vd x2 (fun _ => True) D (.slice p8 D.kids.length q8)) := HD8_1.out.under hb
              clear hb
              have HXP2 : Hid ((B3 Z X Y2 (.cells #[i64 V.kind, i64 V.num, str V.s, .slice ak V.kids.length ck] 24) (.cells #[i64 D.kind, i64 D.num, str D.s, .slice a9 D.kids.length c9] 24) (.cells #[i64 T.kind, i64 T.num, .slice an T.names.length cn, .slice a2 n2 c2] 37) x2) ∧ x2.heap[G]? = some (.cells #[i64 D.kind, i64 D.num, str D.s, .slice p9 D.kids.length q9, i64 E] 57)) := ⟨HXS2.out, HGb_2.out⟩
              go_simp
              refine hK.out _ _ (fun _ => HXP2.out) ?_
              clear hK K
              refine wpL_take 10 65 (.bool true) [] rfl rfl (by kernel_rfl) (by decide) (by kernel_rfl) (by kernel_rfl) (by kernel_rfl) (fun _ _ _ h => h) HXP2.out (by rfl) (fun W hW => by go_simp) ?_
              simp only [Act.put, List.setIfInBounds_toArray, List.set_cons_zero, List.set_cons_succ]
              refine wpL_take 11 66 (.bool true) [] rfl rfl (by kernel_rfl) (by decide) (by kernel_rfl) (by kernel_rfl) (by kernel_rfl) (fun _ _ _ h => h) HXP2.out (by rfl) (fun W hW => by go_simp) ?_
              simp only [Act.put, List.setIfInBounds_toArray, List.set_cons_zero, List.set_cons_succ]
              refine wpL_one 12 rfl (by kernel_rfl) (by rfl) (fun K hK => ?_)
              go_simp
              refine (HFV.out x2 HXB2.out).mono ?_
              rintro e x3 ⟨rfl, hb⟩
              have HXB3 : Hid (Below w.heap.size w x3) := HXB2.out.trans (hb.mono HXB2.out.size)
              have HXS3 : Hid (B3 Z X Y2 (.cells #[i64 V.kind, i64 V.num, str V.s, .slice ak V.kids.length ck] 24) (.cells #[i64 D.kind, i64 D.num, str D.s, .slice a9 D.kids.length c9] 24) (.cells #[i64 T.kind, i64 T.num, .slice an T.names.length cn, .slice a2 n2 c2] 37) x3) := HXS2.out.under hb
              have HVx_3 : Hid (Vd x3 (fun _ => True) D (.slice a9 D.kids.length c9)) := HVx_2.out.under hb
              have HVg_3 : Hid (Vd x3 (fun _ => True) D (.slice p9 D.kids.length q9)) := HVg_2.out.under hb
              have HGb_3 : Hid (x3.heap[G]? = some (.cells #[i64 D.kind, i64 D.num, str D.s, .slice p9 D.kids.length q9, i64 E] 57)) := blk_below HGb_2.out hb
              have HD8_3 : Hid (Vd x3 (fun _ => True) D (.slice p8 D.kids.length q8)) := HD8_2.out.under hb
              clear hb
              have HXP3 : Hid ((B3 Z X Y2 (.cells #[i64 V.kind, i64 V.num, str V.s, .slice ak V.kids.length ck] 24) (.cells #[i64 D.kind, i64 D.num, str D.s, .slice a9 D.kids.length c9] 24) (.cells #[i64 T.kind, i64 T.num, .slice an T.names.length cn, .slice a2 n2 c2] 37) x3) ∧ x3.heap[G]? = some (.cells #[i64 D.kind, i64 D.num, str D.s, .slice p9 D.kids.length q9, i64 E] 57)) := ⟨HXS3.out, HGb_3.out⟩
              go_simp
              refine hK.out _ _ (fun _ => HXP3.out) ?_
              clear hK K
              refine wpL_take 13 68 (.bool true) [] rfl rfl (by kernel_rfl) (by decide) (by kernel_rfl) (by kernel_rfl) (by kernel_rfl) (fun _ _ _ h => h) HXP3.out (by rfl) (fun W hW => by go_simp) ?_
              simp only [Act.put, List.setIfInBounds_toArray, List.set_cons_zero, List.set_cons_succ]
              refine wpL_one 14 rfl (by kernel_rfl) (by rfl) (fun K hK => ?_)
              go_simp
              refine hK.out _ _ (fun h => absurd rfl h) ?_
              clear hK K
              refine wpL_done (by kernel_rfl) ?_
              refine NoPanic.normal ?_
              go_wp2_with fail
              go_ret
              exact ⟨rfl, HXB3.out⟩
            · go_simp
              obtain ⟨z2, hnw⟩ : ∃ W, W = x1.alloc zO5 := ⟨_, rfl⟩
              obtain ⟨G, hG⟩ : ∃ G, G = x1.heap.size := ⟨_, rfl⟩
              have hb : Below x1.heap.size x1 z2 := by rw [hnw]; exact below_one _ _
              have hgb : z2.heap[G]? = some zO5 := by rw [hnw, hG]; exact heap_last _ _
              have HGx : Hid (gx ≤ G) := by show _ ≤ _; rw [hG]; exact Nat.le_trans (HGx0.out) HSZ1.out
              have HGw : Hid (w.heap.size ≤ G) := by show _ ≤ _; rw [hG]; exact HXB1.out.size
              have HGs : Hid (G < z2.heap.size ∧ G = x1.heap.size) := ⟨blk_lt hgb, hG⟩
              first | rw [← hnw, ← hG] | rw [show (w6.alloc zO5).drew = w6.drew.alloc zO5 from rfl, ← hnw, show w6.heap.size = G from hG.symm]
              have HXB2 : Hid (Below w.heap.size w z2) := HXB1.out.trans (hb.mono HXB1.out.size)
              have HXS2 : Hid (B3 Z X Y2 (.cells #[i64 V.kind, i64 V.num, str V.s, .slice ak V.kids.length ck] 24) (.cells #[i64 D.kind, i64 D.num, str D.s, .slice a9 D.kids.length c9] 24) (.cells #[i64 T.kind, i64 T.num, .slice an T.names.length cn, .slice a2 n2 c2] 37) z2) := HXS1.out.under hb
              have HVa_2 : Hid (Vd z2 (fun _ => True) V (.slice ak V.kids.length ck)) := HVa_1.out.under hb
              have HVx_2 : Hid (Vd z2 (fun b => b < gx) D (.slice a9 D.kids.length c9)) := HVx_1.out.under hb
              have HRu_2 : Hid (Rd z2 (fun _ => True) T (.slice an T.names.length cn) (.slice a2 n2 c2)) := HRu_1.out.under hb
              have HWy_2 : Hid (Strs z2 (fun _ => True) (.slice aw way.length cw) way) := HWy_1.out.below hb
              have HV7_2 : Hid (Vd z2 (fun b => b < x1.heap.size) V (.slice p7 V.kids.length q7)) := HV7_1.out.under hb
              have HGb_2 : Hid (z2.heap[G]? = some zO5) := hgb
              clear hb hgb hnw hG
              refine hK.out _ _ (fun _ => HXS2.out) ?_
              clear hK K
              refine wpL_one 4 rfl (by kernel_rfl) (by rfl) (fun K hK => ?_)
              go_simp
              refine (HRt.out z2.heap.size (fun b => b ≠ G ∧ b < z2.heap.size) (fun b hb0 => hb0.2) z2 _ _ (Nat.le_refl _) ((HV7_2.out).mono (S' := fun b => b ≠ G ∧ b < z2.heap.size) (fun b hb0 hlt => ⟨by have h1 := HGs.out.2; omega, hlt⟩)) (HRu_2.out) (HWy_2.out)).mono ?_
              rintro e x3 ⟨p9, q9, rfl, hb, hd⟩
              have HXB3 : Hid (Below w.heap.size w x3) := HXB2.out.trans (hb.mono HXB2.out.size)
              have HXS3 : Hid (B3 Z X Y2 (.cells #[i64 V.kind, i64 V.num, str V.s, .slice ak V.kids.length ck] 24) (.cells #[i64 D.kind, i64 D.num, str D.s, .slice a9 D.kids.length c9] 24) (.cells #[i64 T.kind, i64 T.num, .slice an T.names.length cn, .slice a2 n2 c2] 37) x3) := HXS2.out.under hb
              have HVa_3 : Hid (Vd x3 (fun _ => True) V (.slice ak V.kids.length ck)) := HVa_2.out.under hb
              have HVx_3 : Hid (Vd x3 (fun b => b < gx) D (.slice a9 D.kids.length c9)) := HVx_2.out.under hb
              have HRu_3 : Hid (Rd x3 (fun _ => True) T (.slice an T.names.length cn) (.slice a2 n2 c2)) := HRu_2.out.under hb
              have HWy_3 : Hid (Strs x3 (fun _ => True) (.slice aw way.length cw) way) := HWy_2.out.below hb
              have HV7_3 : Hid (Vd x3 (fun b => b < x1.heap.size) V (.slice p7 V.kids.length q7)) := HV7_2.out.under hb
              have HGb_3 : Hid (x3.heap[G]? = some zO5) := blk_below HGb_2.out hb
              have HVg_3 : Hid (Vd x3 (fun b => b ≠ G) D (.slice p9 D.kids.length q9)) := hd.mono (fun b hb0 _ => hb0.1)
              have HSZ4 : Hid (z2.heap.size ≤ x3.heap.size) := hb.size
              clear hb hd
              go_simp
              refine hK.out _ _ (fun _ => HXS3.out) ?_
              clear hK K
              refine wpL_one 6 rfl (by kernel_rfl) (by rfl) (fun K hK => ?_)
              have r0 : x3.cell? ⟨G, 0, none⟩ = some (i64 0) := blk_cell (HGb_3.out) 0
              have f0 : x3.frozen? ⟨G, 0, none⟩ = false := blk_frozen (HGb_3.out) 0
              have r1 : x3.cell? ⟨G, 1, none⟩ = some (i64 0) := blk_cell (HGb_3.out) 1
              have f1 : x3.frozen? ⟨G, 1, none⟩ = false := blk_frozen (HGb_3.out) 1
              have r2 : x3.cell? ⟨G, 2, none⟩ = some (.string ⟨#[]⟩) := blk_cell (HGb_3.out) 2
              have f2 : x3.frozen? ⟨G, 2, none⟩ = false := blk_frozen (HGb_3.out) 2
              have r3 : x3.cell? ⟨G, 3, none⟩ = some (.slice none 0 0) := blk_cell (HGb_3.out) 3
              have f3 : x3.frozen? ⟨G, 3, none⟩ = false := blk_frozen (HGb_3.out) 3
              have r4 : x3.cell? ⟨G, 4, none⟩ = some (i64 0) := blk_cell (HGb_3.out) 4
              have f4 : x3.frozen? ⟨G, 4, none⟩ = false := blk_frozen (HGb_3.out) 4
              go_simp
              refine hK.out _ _ (fun h => absurd rfl h) ?_
              clear hK K
              refine wpL_done (by kernel_rfl) ?_
              refine NoPanic.normal ?_
              clear r0 r1 r2 r3 r4 f0 f1 f2 f3 f4
              have HF7 := hid (fin7 E HXB3.out HXS3.out HZx.out (HGb_3.out) HGw.out HGx.out (HVx_3.out) (HVg_3.out))
              obtain ⟨Wf, hWf⟩ : ∃ Wf, Wf = (((((x3.setCell ⟨G, 0, none⟩ (i64 D.kind)).setCell ⟨G, 1, none⟩ (i64 D.num)).setCell ⟨G, 2, none⟩ (str D.s)).setCell ⟨G, 3, none⟩ (.slice p9 D.kids.length q9)).setCell ⟨G, 4, none⟩ (i64 E)) := ⟨_, rfl⟩
              obtain ⟨hf1, hf2, hf3, hf4, hf5⟩ := HF7.out Wf hWf
              rw [← hWf]
              have HBf0 := hid hf1
              have HSf0 := hid hf2
              have HGf0 := hid hf3
              have HVxf := hid hf4
              have HVgf := hid hf5
              clear hWf hf1 hf2 hf3 hf4 hf5 HF7
              have HBf : Hid (Below w.heap.size w Wf.drew) := HBf0.out.trans ((dr_below Wf).mono HBf0.out.size)
              have HSf : Hid (B3 Z X Y2 (.cells #[i64 V.kind, i64 V.num, str V.s, .slice ak V.kids.length ck] 24) (.cells #[i64 D.kind, i64 D.num, str D.s, .slice a9 D.kids.length c9] 24) (.cells #[i64 T.kind, i64 T.num, .slice an T.names.length cn, .slice a2 n2 c2] 37) Wf.drew) := HSf0.out.under (dr_below Wf)
              have HGb : Hid (Wf.drew.heap[G]? = some (.cells #[i64 D.kind, i64 D.num, str D.s, .slice p9 D.kids.length q9, i64 E] 57)) := HGf0.out
              have HVx : Hid (Vd Wf.drew (fun _ => True) D (.slice a9 D.kids.length c9)) := HVxf.out.under (dr_below Wf)
              have HVg : Hid (Vd Wf.drew (fun _ => True) D (.slice p9 D.kids.length q9)) := HVgf.out.under (dr_below Wf)
              have HSP : Hid ((B3 Z X Y2 (.cells #[i64 V.kind, i64 V.num, str V.s, .slice ak V.kids.length ck] 24) (.cells #[i64 D.kind, i64 D.num, str D.s, .slice a9 D.kids.length c9] 24) (.cells #[i64 T.kind, i64 T.num, .slice an T.names.length cn, .slice a2 n2 c2] 37) Wf.drew) ∧ Wf.drew.heap[G]? = some (.cells #[i64 D.kind, i64 D.num, str D.s, .slice p9 D.kids.length q9, i64 E] 57)) := ⟨HSf.out, HGb.out⟩
              have fe : (E == E) = true := by simp
              go_upto_region 8 with fail
              refine wp_region_noPanic ?_
              refine wp_region_last (fun W => (B3 Z X Y2 (.cells #[i64 V.kind, i64 V.num, str V.s, .slice ak V.kids.length ck] 24) (.cells #[i64 D.kind, i64 D.num, str D.s, .slice a9 D.kids.length c9] 24) (.cells #[i64 T.kind, i64 T.num, .slice an T.names.length cn, .slice a2 n2 c2] 37) W) ∧ W.heap[G]? = some (.cells #[i64 D.kind, i64 D.num, str D.s, .slice p9 D.kids.length q9, i64 E] 57)) 14 (by kernel_rfl) ?_
              refine wpL_take 0 55 (i64 E) [] rfl rfl (by kernel_rfl) (by decide) (by kernel_rfl) (by kernel_rfl) (by kernel_rfl) (fun _ _ _ h => h) HSP.out (by rfl) (fun W hW => by go_simp) ?_
              simp only [Act.put, List.setIfInBounds_toArray, List.set_cons_zero, List.set_cons_succ]
              refine wpL_take 1 56 (.pointer (some ⟨G, 4, none⟩)) [] rfl rfl (by kernel_rfl) (by decide) (by kernel_rfl) (by kernel_rfl) (by kernel_rfl) (fun _ _ _ h => h) HSP.out (by rfl) (fun W hW => by go_simp) ?_
              simp only [Act.put, List.setIfInBounds_toArray, List.set_cons_zero, List.set_cons_succ]
              refine wpL_take 2 57 (i64 E) [] rfl rfl (by kernel_rfl) (by decide) (by kernel_rfl) (by kernel_rfl) (by kernel_rfl) (fun _ _ _ h => h) HSP.out (by rfl) (fun W hW => by have e : W.cell? ⟨G, 4, none⟩ = some (i64 E) := blk_cell hW.2 4; go_simp) ?_
              simp only [Act.put, List.setIfInBounds_toArray, List.set_cons_zero, List.set_cons_succ]
              refine wpL_take 3 58 (.bool true) [] rfl rfl (by kernel_rfl) (by decide) (by kernel_rfl) (by kernel_rfl) (by kernel_rfl) (fun _ _ _ h => h) HSP.out (by rfl) (fun W hW => by go_simp) ?_
              simp only [Act.put, List.setIfInBounds_toArray, List.set_cons_zero, List.set_cons_succ]
              refine wpL_take 4 59 (.bool true) [] rfl rfl (by kernel_rfl) (by decide) (by kernel_rfl) (by kernel_rfl) (by kernel_rfl) (fun _ _ _ h => h) HSP.out (by rfl) (fun W hW => by go_simp) ?_
              simp only [Act.put, List.setIfInBounds_toArray, List.set_cons_zero, List.set_cons_succ]
              refine wpL_take 5 60 (.agg #[i64 D.kind, i64 D.num, str D.s, .slice a9 D.kids.length c9]) [] rfl rfl (by kernel_rfl) (by decide) (by kernel_rfl) (by kernel_rfl) (by kernel_rfl) (fun _ _ _ h => h) HSP.out (by rfl) (fun W hW => by exact exec_load 24 (.tmp 7) rfl rfl (load24 hW.1.x)) ?_
              simp only [Act.put, List.setIfInBounds_toArray, List.set_cons_zero, List.set_cons_succ]
              refine wpL_take 7 62 (.pointer (some ⟨G, 0, none⟩)) [] rfl rfl (by kernel_rfl) (by decide) (by kernel_rfl) (by kernel_rfl) (by kernel_rfl) (fun _ _ _ h => h) HSP.out (by rfl) (fun W hW => by go_simp) ?_
              simp only [Act.put, List.setIfInBounds_toArray, List.set_cons_zero, List.set_cons_succ]
              refine wpL_take 8 63 (.agg #[i64 D.kind, i64 D.num, str D.s, .slice p9 D.kids.length q9]) [] rfl rfl (by kernel_rfl) (by decide) (by kernel_rfl) (by kernel_rfl) (by kernel_rfl) (fun _ _ _ h => h) HSP.out (by rfl) (fun W hW => by exact exec_load 33 (.tmp 62) rfl rfl (load33r (l := [i64 D.kind, i64 D.num, str D.s, .slice p9 D.kids.length q9]) rfl (g_range hW.2))) ?_
              simp only [Act.put, List.setIfInBounds_toArray, List.set_cons_zero, List.set_cons_succ]
              refine wpL_one 6 rfl (by kernel_rfl) (by rfl) (fun K hK => ?_)
              go_simp
              refine (val_ok _ D (Nat.le_refl _) (by omega) Wf.drew (fun _ => True) _ (HVx.out)).mono ?_
              rintro e x1 ⟨p8, q8, rfl, hb, hd⟩
              have HXB1 : Hid (Below w.heap.size w x1) := HBf.out.trans (hb.mono HBf.out.size)
              have HXS1 : Hid (B3 Z X Y2 (.cells #[i64 V.kind, i64 V.num, str V.s, .slice ak V.kids.length ck] 24) (.cells #[i64 D.kind, i64 D.num, str D.s, .slice a9 D.kids.length c9] 24) (.cells #[i64 T.kind, i64 T.num, .slice an T.names.length cn, .slice a2 n2 c2] 37) x1) := HSf.out.under hb
              have HVx_1 : Hid (Vd x1 (fun _ => True) D (.slice a9 D.kids.length c9)) := HVx.out.under hb
              have HVg_1 : Hid (Vd x1 (fun _ => True) D (.slice p9 D.kids.length q9)) := HVg.out.under hb
              have HGb_1 : Hid (x1.heap[G]? = some (.cells #[i64 D.kind, i64 D.num, str D.s, .slice p9 D.kids.length q9, i64 E] 57)) := blk_below HGb.out hb
              have HD8_1 : Hid (Vd x1 (fun _ => True) D (.slice p8 D.kids.length q8)) := hd.mono (fun _ _ _ => trivial)
              clear hb hd
              have HXP1 : Hid ((B3 Z X Y2 (.cells #[i64 V.kind, i64 V.num, str V.s, .slice ak V.kids.length ck] 24) (.cells #[i64 D.kind, i64 D.num, str D.s, .slice a9 D.kids.length c9] 24) (.cells #[i64 T.kind, i64 T.num, .slice an T.names.length cn, .slice a2 n2 c2] 37) x1) ∧ x1.heap[G]? = some (.cells #[i64 D.kind, i64 D.num, str D.s, .slice p9 D.kids.length q9, i64 E] 57)) := ⟨HXS1.out, HGb_1.out⟩
              go_simp
              refine hK.out _ _ (fun _ => HXP1.out) ?_
              clear hK K
              refine wpL_one 9 rfl (by kernel_rfl) (by rfl) (fun K hK => ?_)
              go_simp
              refine (vrsame_refl D x1 _ _ (HD8_1.out) (HVg_1.out)).mono ?_
              rintro e x2 ⟨rfl, hb⟩
              have HXB2 : Hid (Below w.heap.size w x2) := HXB1.out.trans (hb.mono HXB1.out.size)
              have HXS2 : Hid (B3 Z X Y2 (.cells #[i64 V.kind, i64 V.num, str V.s, .slice ak V.kids.length ck] 24) (.cells #[i64 D.kind, i64 D.num, str D.s, .slice a9 D.kids.length c9] 24) (.cells #[i64 T.kind, i64 T.num, .slice an T.names.length cn, .slice a2 n2 c2] 37) x2) := HXS1.out.under hb
              have HVx_2 : Hid (Vd x2 (fun _ => True) D (.slice a9 D.kids.length c9)) := HVx_1.out.under hb
              have HVg_2 : Hid (Vd x2 (fun _ => True) D (.slice p9 D.kids.length q9)) := HVg_1.out.under hb
              have HGb_2 : Hid (x2.heap[G]? = some (.cells #[i64 D.kind, i64 D.num, str D.s, .slice p9 D.kids.length q9, i64 E] 57)) := blk_below HGb_1.out hb
              have HD8_2 : Hid (Vd x2 (fun _ => True) D (.slice p8 D.kids.length q8)) := HD8_1.out.under hb
              clear hb
              have HXP2 : Hid ((B3 Z X Y2 (.cells #[i64 V.kind, i64 V.num, str V.s, .slice ak V.kids.length ck] 24) (.cells #[i64 D.kind, i64 D.num, str D.s, .slice a9 D.kids.length c9] 24) (.cells #[i64 T.kind, i64 T.num, .slice an T.names.length cn, .slice a2 n2 c2] 37) x2) ∧ x2.heap[G]? = some (.cells #[i64 D.kind, i64 D.num, str D.s, .slice p9 D.kids.length q9, i64 E] 57)) := ⟨HXS2.out, HGb_2.out⟩
              go_simp
              refine hK.out _ _ (fun _ => HXP2.out) ?_
              clear hK K
              refine wpL_take 10 65 (.bool true) [] rfl rfl (by kernel_rfl) (by decide) (by kernel_rfl) (by kernel_rfl) (by kernel_rfl) (fun _ _ _ h => h) HXP2.out (by rfl) (fun W hW => by go_simp) ?_
              simp only [Act.put, List.setIfInBounds_toArray, List.set_cons_zero, List.set_cons_succ]
              refine wpL_take 11 66 (.bool true) [] rfl rfl (by kernel_rfl) (by decide) (by kernel_rfl) (by kernel_rfl) (by kernel_rfl) (fun _ _ _ h => h) HXP2.out (by rfl) (fun W hW => by go_simp) ?_
              simp only [Act.put, List.setIfInBounds_toArray, List.set_cons_zero, List.set_cons_succ]
              refine wpL_one 12 rfl (by kernel_rfl) (by rfl) (fun K hK => ?_)
              go_simp
              refine (HFV.out x2 HXB2.out).mono ?_
              rintro e x3 ⟨rfl, hb⟩
              have HXB3 : Hid (Below w.heap.size w x3) := HXB2.out.trans (hb.mono HXB2.out.size)
              have HXS3 : Hid (B3 Z X Y2 (.cells #[i64 V.kind, i64 V.num, str V.s, .slice ak V.kids.length ck] 24) (.cells #[i64 D.kind, i64 D.num, str D.s, .slice a9 D.kids.length c9] 24) (.cells #[i64 T.kind, i64 T.num, .slice an T.names.length cn, .slice a2 n2 c2] 37) x3) := HXS2.out.under hb
              have HVx_3 : Hid (Vd x3 (fun _ => True) D (.slice a9 D.kids.length c9)) := HVx_2.out.under hb
              have HVg_3 : Hid (Vd x3 (fun _ => True) D (.slice p9 D.kids.length q9)) := HVg_2.out.under hb
              have HGb_3 : Hid (x3.heap[G]? = some (.cells #[i64 D.kind, i64 D.num, str D.s, .slice p9 D.kids.length q9, i64 E] 57)) := blk_below HGb_2.out hb
              have HD8_3 : Hid (Vd x3 (fun _ => True) D (.slice p8 D.kids.length q8)) := HD8_2.out.under hb
              clear hb
              have HXP3 : Hid ((B3 Z X Y2 (.cells #[i64 V.kind, i64 V.num, str V.s, .slice ak V.kids.length ck] 24) (.cells #[i64 D.kind, i64 D.num, str D.s, .slice a9 D.kids.length c9] 24) (.cells #[i64 T.kind, i64 T.num, .slice an T.names.length cn, .slice a2 n2 c2] 37) x3) ∧ x3.heap[G]? = some (.cells #[i64 D.kind, i64 D.num, str D.s, .slice p9 D.kids.length q9, i64 E] 57)) := ⟨HXS3.out, HGb_3.out⟩
              go_simp
              refine hK.out _ _ (fun _ => HXP3.out) ?_
              clear hK K
              refine wpL_take 13 68 (.bool true) [] rfl rfl (by kernel_rfl) (by decide) (by kernel_rfl) (by kernel_rfl) (by kernel_rfl) (fun _ _ _ h => h) HXP3.out (by rfl) (fun W hW => by go_simp) ?_
              simp only [Act.put, List.setIfInBounds_toArray, List.set_cons_zero, List.set_cons_succ]
              refine wpL_one 14 rfl (by kernel_rfl) (by rfl) (fun K hK => ?_)
              go_simp
              refine hK.out _ _ (fun h => absurd rfl h) ?_
              clear hK K
              refine wpL_done (by kernel_rfl) ?_
              refine NoPanic.normal ?_
              go_wp2_with fail
              go_ret
              exact ⟨rfl, HXB3.out⟩
          · go_simp
            obtain ⟨z1, hnw⟩ : ∃ W, W = w6.drew.alloc zO5 := ⟨_, rfl⟩
            obtain ⟨G, hG⟩ : ∃ G, G = w6.drew.heap.size := ⟨_, rfl⟩
            have hb : Below w6.drew.heap.size w6.drew z1 := by rw [hnw]; exact below_one _ _
            have hgb : z1.heap[G]? = some zO5 := by rw [hnw, hG]; exact heap_last _ _
            have HGx : Hid (gx ≤ G) := by show _ ≤ _; rw [hG]; exact HGx0.out
            have HGw : Hid (w.heap.size ≤ G) := by show _ ≤ _; rw [hG]; exact HBd.out.size
            have HGs : Hid (G < z1.heap.size ∧ G = w6.drew.heap.size) := ⟨blk_lt hgb, hG⟩
            first | rw [← hnw, ← hG] | rw [show (w6.alloc zO5).drew = w6.drew.alloc zO5 from rfl, ← hnw, show w6.heap.size = G from hG.symm]
            have HXB1 : Hid (Below w.heap.size w z1) := HBd.out.trans (hb.mono HBd.out.size)
            have HXS1 : Hid (B3 Z X Y2 (.cells #[i64 V.kind, i64 V.num, str V.s, .slice ak V.kids.length ck] 24) (.cells #[i64 D.kind, i64 D.num, str D.s, .slice a9 D.kids.length c9] 24) (.cells #[i64 T.kind, i64 T.num, .slice an T.names.length cn, .slice a2 n2 c2] 37) z1) := HSd.out.under hb
            have HVa_1 : Hid (Vd z1 (fun _ => True) V (.slice ak V.kids.length ck)) := HVa.out.under hb
            have HVx_1 : Hid (Vd z1 (fun b => b < gx) D (.slice a9 D.kids.length c9)) := HVx.out.under hb
            have HRu_1 : Hid (Rd z1 (fun _ => True) T (.slice an T.names.length cn) (.slice a2 n2 c2)) := HRu.out.under hb
            have HWy_1 : Hid (Strs z1 (fun _ => True) (.slice aw way.length cw) way) := HWy.out.below hb
            have HGb_1 : Hid (z1.heap[G]? = some zO5) := hgb
            clear hb hgb hnw hG
            refine hK.out _ _ (fun _ => HXS1.out) ?_
            clear hK K
            refine wpL_one 1 rfl (by kernel_rfl) (by rfl) (fun K hK => ?_)
            go_simp
            refine (val_ok _ V (Nat.le_refl _) (by omega) z1 (fun _ => True) _ (HVa_1.out)).mono ?_
            rintro e x2 ⟨p7, q7, rfl, hb, hd⟩
            have HXB2 : Hid (Below w.heap.size w x2) := HXB1.out.trans (hb.mono HXB1.out.size)
            have HXS2 : Hid (B3 Z X Y2 (.cells #[i64 V.kind, i64 V.num, str V.s, .slice ak V.kids.length ck] 24) (.cells #[i64 D.kind, i64 D.num, str D.s, .slice a9 D.kids.length c9] 24) (.cells #[i64 T.kind, i64 T.num, .slice an T.names.length cn, .slice a2 n2 c2] 37) x2) := HXS1.out.under hb
            have HVa_2 : Hid (Vd x2 (fun _ => True) V (.slice ak V.kids.length ck)) := HVa_1.out.under hb
            have HVx_2 : Hid (Vd x2 (fun b => b < gx) D (.slice a9 D.kids.length c9)) := HVx_1.out.under hb
            have HRu_2 : Hid (Rd x2 (fun _ => True) T (.slice an T.names.length cn) (.slice a2 n2 c2)) := HRu_1.out.under hb
            have HWy_2 : Hid (Strs x2 (fun _ => True) (.slice aw way.length cw) way) := HWy_1.out.below hb
            have HGb_2 : Hid (x2.heap[G]? = some zO5) := blk_below HGb_1.out hb
            have HV7_2 : Hid (Vd x2 (fun b => b ≠ G ∧ b < x2.heap.size) V (.slice p7 V.kids.length q7)) := hd.mono (fun b hb0 hlt => ⟨by have h1 := HGs.out.1; omega, hlt⟩)
            have HSZ1 : Hid (z1.heap.size ≤ x2.heap.size) := hb.size
            clear hb hd
            go_simp
            refine hK.out _ _ (fun _ => HXS2.out) ?_
            clear hK K
            refine wpL_one 4 rfl (by kernel_rfl) (by rfl) (fun K hK => ?_)
            go_simp
            refine (HRt.out x2.heap.size (fun b => b ≠ G ∧ b < x2.heap.size) (fun b hb0 => hb0.2) x2 _ _ (Nat.le_refl _) ((HV7_2.out).mono (S' := fun b => b ≠ G ∧ b < x2.heap.size) (fun b hb0 hlt => ⟨hb0.1, hlt⟩)) (HRu_2.out) (HWy_2.out)).mono ?_
            rintro e x3 ⟨p9, q9, rfl, hb, hd⟩
            have HXB3 : Hid (Below w.heap.size w x3) := HXB2.out.trans (hb.mono HXB2.out.size)
            have HXS3 : Hid (B3 Z X Y2 (.cells #[i64 V.kind, i64 V.num, str V.s, .slice ak V.kids.length ck] 24) (.cells #[i64 D.kind, i64 D.num, str D.s, .slice a9 D.kids.length c9] 24) (.cells #[i64 T.kind, i64 T.num, .slice an T.names.length cn, .slice a2 n2 c2] 37) x3) := HXS2.out.under hb
            have HVa_3 : Hid (Vd x3 (fun _ => True) V (.slice ak V.kids.length ck)) := HVa_2.out.under hb
            have HVx_3 : Hid (Vd x3 (fun b => b < gx) D (.slice a9 D.kids.length c9)) := HVx_2.out.under hb
            have HRu_3 : Hid (Rd x3 (fun _ => True) T (.slice an T.names.length cn) (.slice a2 n2 c2)) := HRu_2.out.under hb
            have HWy_3 : Hid (Strs x3 (fun _ => True) (.slice aw way.length cw) way) := HWy_2.out.below hb
            have HGb_3 : Hid (x3.heap[G]? = some zO5) := blk_below HGb_2.out hb
            have HV7_3 : Hid (Vd x3 (fun b => b ≠ G ∧ b < x2.heap.size) V (.slice p7 V.kids.length q7)) := HV7_2.out.under hb
            have HVg_3 : Hid (Vd x3 (fun b => b ≠ G) D (.slice p9 D.kids.length q9)) := hd.mono (fun b hb0 _ => hb0.1)
            have HSZ4 : Hid (x2.heap.size ≤ x3.heap.size) := hb.size
            clear hb hd
            go_simp
            refine hK.out _ _ (fun _ => HXS3.out) ?_
            clear hK K
            refine wpL_one 6 rfl (by kernel_rfl) (by rfl) (fun K hK => ?_)
            have r0 : x3.cell? ⟨G, 0, none⟩ = some (i64 0) := blk_cell (HGb_3.out) 0
            have f0 : x3.frozen? ⟨G, 0, none⟩ = false := blk_frozen (HGb_3.out) 0
            have r1 : x3.cell? ⟨G, 1, none⟩ = some (i64 0) := blk_cell (HGb_3.out) 1
            have f1 : x3.frozen? ⟨G, 1, none⟩ = false := blk_frozen (HGb_3.out) 1
            have r2 : x3.cell? ⟨G, 2, none⟩ = some (.string ⟨#[]⟩) := blk_cell (HGb_3.out) 2
            have f2 : x3.frozen? ⟨G, 2, none⟩ = false := blk_frozen (HGb_3.out) 2
            have r3 : x3.cell? ⟨G, 3, none⟩ = some (.slice none 0 0) := blk_cell (HGb_3.out) 3
            have f3 : x3.frozen? ⟨G, 3, none⟩ = false := blk_frozen (HGb_3.out) 3
            have r4 : x3.cell? ⟨G, 4, none⟩ = some (i64 0) := blk_cell (HGb_3.out) 4
            have f4 : x3.frozen? ⟨G, 4, none⟩ = false := blk_frozen (HGb_3.out) 4
            go_simp
            refine hK.out _ _ (fun h => absurd rfl h) ?_
            clear hK K
            refine wpL_done (by kernel_rfl) ?_
            refine NoPanic.normal ?_
            clear r0 r1 r2 r3 r4 f0 f1 f2 f3 f4
            have HF7 := hid (fin7 E HXB3.out HXS3.out HZx.out (HGb_3.out) HGw.out HGx.out (HVx_3.out) (HVg_3.out))
            obtain ⟨Wf, hWf⟩ : ∃ Wf, Wf = (((((x3.setCell ⟨G, 0, none⟩ (i64 D.kind)).setCell ⟨G, 1, none⟩ (i64 D.num)).setCell ⟨G, 2, none⟩ (str D.s)).setCell ⟨G, 3, none⟩ (.slice p9 D.kids.length q9)).setCell ⟨G, 4, none⟩ (i64 E)) := ⟨_, rfl⟩
            obtain ⟨hf1, hf2, hf3, hf4, hf5⟩ := HF7.out Wf hWf
            rw [← hWf]
            have HBf0 := hid hf1
            have HSf0 := hid hf2
            have HGf0 := hid hf3
            have HVxf := hid hf4
            have HVgf := hid hf5
            clear hWf hf1 hf2 hf3 hf4 hf5 HF7
            have HBf : Hid (Below w.heap.size w Wf.drew) := HBf0.out.trans ((dr_below Wf).mono HBf0.out.size)
            have HSf : Hid (B3 Z X Y2 (.cells #[i64 V.kind, i64 V.num, str V.s, .slice ak V.kids.length ck] 24) (.cells #[i64 D.kind, i64 D.num, str D.s, .slice a9 D.kids.length c9] 24) (.cells #[i64 T.kind, i64 T.num, .slice an T.names.length cn, .slice a2 n2 c2] 37) Wf.drew) := HSf0.out.under (dr_below Wf)
            have HGb : Hid (Wf.drew.heap[G]? = some (.cells #[i64 D.kind, i64 D.num, str D.s, .slice p9 D.kids.length q9, i64 E] 57)) := HGf0.out
            have HVx : Hid (Vd Wf.drew (fun _ => True) D (.slice a9 D.kids.length c9)) := HVxf.out.under (dr_below Wf)
            have HVg : Hid (Vd Wf.drew (fun _ => True) D (.slice p9 D.kids.length q9)) := HVgf.out.under (dr_below Wf)
            have HSP : Hid ((B3 Z X Y2 (.cells #[i64 V.kind, i64 V.num, str V.s, .slice ak V.kids.length ck] 24) (.cells #[i64 D.kind, i64 D.num, str D.s, .slice a9 D.kids.length c9] 24) (.cells #[i64 T.kind, i64 T.num, .slice an T.names.length cn, .slice a2 n2 c2] 37) Wf.drew) ∧ Wf.drew.heap[G]? = some (.cells #[i64 D.kind, i64 D.num, str D.s, .slice p9 D.kids.length q9, i64 E] 57)) := ⟨HSf.out, HGb.out⟩
            have fe : (E == E) = true := by simp
            go_upto_region 8 with fail
            refine wp_region_noPanic ?_
            refine wp_region_last (fun W => (B3 Z X Y2 (.cells #[i64 V.kind, i64 V.num, str V.s, .slice ak V.kids.length ck] 24) (.cells #[i64 D.kind, i64 D.num, str D.s, .slice a9 D.kids.length c9] 24) (.cells #[i64 T.kind, i64 T.num, .slice an T.names.length cn, .slice a2 n2 c2] 37) W) ∧ W.heap[G]? = some (.cells #[i64 D.kind, i64 D.num, str D.s, .slice p9 D.kids.length q9, i64 E] 57)) 14 (by kernel_rfl) ?_
            refine wpL_take 0 55 (i64 E) [] rfl rfl (by kernel_rfl) (by decide) (by kernel_rfl) (by kernel_rfl) (by kernel_rfl) (fun _ _ _ h => h) HSP.out (by rfl) (fun W hW => by go_simp) ?_
            simp only [Act.put, List.setIfInBounds_toArray, List.set_cons_zero, List.set_cons_succ]
            refine wpL_take 1 56 (.pointer (some ⟨G, 4, none⟩)) [] rfl rfl (by kernel_rfl) (by decide) (by kernel_rfl) (by kernel_rfl) (by kernel_rfl) (fun _ _ _ h => h) HSP.out (by rfl) (fun W hW => by go_simp) ?_
            simp only [Act.put, List.setIfInBounds_toArray, List.set_cons_zero, List.set_cons_succ]
            refine wpL_take 2 57 (i64 E) [] rfl rfl (by kernel_rfl) (by decide) (by kernel_rfl) (by kernel_rfl) (by kernel_rfl) (fun _ _ _ h => h) HSP.out (by rfl) (fun W hW => by have e : W.cell? ⟨G, 4, none⟩ = some (i64 E) := blk_cell hW.2 4; go_simp) ?_
            simp only [Act.put, List.setIfInBounds_toArray, List.set_cons_zero, List.set_cons_succ]
            refine wpL_take 3 58 (.bool true) [] rfl rfl (by kernel_rfl) (by decide) (by kernel_rfl) (by kernel_rfl) (by kernel_rfl) (fun _ _ _ h => h) HSP.out (by rfl) (fun W hW => by go_simp) ?_
            simp only [Act.put, List.setIfInBounds_toArray, List.set_cons_zero, List.set_cons_succ]
            refine wpL_take 4 59 (.bool true) [] rfl rfl (by kernel_rfl) (by decide) (by kernel_rfl) (by kernel_rfl) (by kernel_rfl) (fun _ _ _ h => h) HSP.out (by rfl) (fun W hW => by go_simp) ?_
            simp only [Act.put, List.setIfInBounds_toArray, List.set_cons_zero, List.set_cons_succ]
            refine wpL_take 5 60 (.agg #[i64 D.kind, i64 D.num, str D.s, .slice a9 D.kids.length c9]) [] rfl rfl (by kernel_rfl) (by decide) (by kernel_rfl) (by kernel_rfl) (by kernel_rfl) (fun _ _ _ h => h) HSP.out (by rfl) (fun W hW => by exact exec_load 24 (.tmp 7) rfl rfl (load24 hW.1.x)) ?_
            simp only [Act.put, List.setIfInBounds_toArray, List.set_cons_zero, List.set_cons_succ]
            refine wpL_take 7 62 (.pointer (some ⟨G, 0, none⟩)) [] rfl rfl (by kernel_rfl) (by decide) (by kernel_rfl) (by kernel_rfl) (by kernel_rfl) (fun _ _ _ h => h) HSP.out (by rfl) (fun W hW => by go_simp) ?_
            simp only [Act.put, List.setIfInBounds_toArray, List.set_cons_zero, List.set_cons_succ]
            refine wpL_take 8 63 (.agg #[i64 D.kind, i64 D.num, str D.s, .slice p9 D.kids.length q9]) [] rfl rfl (by kernel_rfl) (by decide) (by kernel_rfl) (by kernel_rfl) (by kernel_rfl) (fun _ _ _ h => h) HSP.out (by rfl) (fun W hW => by exact exec_load 33 (.tmp 62) rfl rfl (load33r (l := [i64 D.kind, i64 D.num, str D.s, .slice p9 D.kids.length q9]) rfl (g_range hW.2))) ?_
            simp only [Act.put, List.setIfInBounds_toArray, List.set_cons_zero, List.set_cons_succ]
            refine wpL_one 6 rfl (by kernel_rfl) (by rfl) (fun K hK => ?_)
            go_simp
            refine (val_ok _ D (Nat.le_refl _) (by omega) Wf.drew (fun _ => True) _ (HVx.out)).mono ?_
            rintro e x1 ⟨p8, q8, rfl, hb, hd⟩
            have HXB1 : Hid (Below w.heap.size w x1) := HBf.out.trans (hb.mono HBf.out.size)
            have HXS1 : Hid (B3 Z X Y2 (.cells #[i64 V.kind, i64 V.num, str V.s, .slice ak V.kids.length ck] 24) (.cells #[i64 D.kind, i64 D.num, str D.s, .slice a9 D.kids.length c9] 24) (.cells #[i64 T.kind, i64 T.num, .slice an T.names.length cn, .slice a2 n2 c2] 37) x1) := HSf.out.under hb
            have HVx_1 : Hid (Vd x1 (fun _ => True) D (.slice a9 D.kids.length c9)) := HVx.out.under hb
            have HVg_1 : Hid (Vd x1 (fun _ => True) D (.slice p9 D.kids.length q9)) := HVg.out.under hb
            have HGb_1 : Hid (x1.heap[G]? = some (.cells #[i64 D.kind, i64 D.num, str D.s, .slice p9 D.kids.length q9, i64 E] 57)) := blk_below HGb.out hb
            have HD8_1 : Hid (Vd x1 (fun _ => True) D (.slice p8 D.kids.length q8)) := hd.mono (fun _ _ _ => trivial)
            clear hb hd
            have HXP1 : Hid ((B3 Z X Y2 (.cells #[i64 V.kind, i64 V.num, str V.s, .slice ak V.kids.length ck] 24) (.cells #[i64 D.kind, i64 D.num, str D.s, .slice a9 D.kids.length c9] 24) (.cells #[i64 T.kind, i64 T.num, .slice an T.names.length cn, .slice a2 n2 c2] 37) x1) ∧ x1.heap[G]? = some (.cells #[i64 D.kind, i64 D.num, str D.s, .slice p9 D.kids.length q9, i64 E] 57)) := ⟨HXS1.out, HGb_1.out⟩
            go_simp
            refine hK.out _ _ (fun _ => HXP1.out) ?_
            clear hK K
            refine wpL_one 9 rfl (by kernel_rfl) (by rfl) (fun K hK => ?_)
            go_simp
            refine (vrsame_refl D x1 _ _ (HD8_1.out) (HVg_1.out)).mono ?_
            rintro e x2 ⟨rfl, hb⟩
            have HXB2 : Hid (Below w.heap.size w x2) := HXB1.out.trans (hb.mono HXB1.out.size)
            have HXS2 : Hid (B3 Z X Y2 (.cells #[i64 V.kind, i64 V.num, str V.s, .slice ak V.kids.length ck] 24) (.cells #[i64 D.kind, i64 D.num, str D.s, .slice a9 D.kids.length c9] 24) (.cells #[i64 T.kind, i64 T.num, .slice an T.names.length cn, .slice a2 n2 c2] 37) x2) := HXS1.out.under hb
            have HVx_2 : Hid (Vd x2 (fun _ => True) D (.slice a9 D.kids.length c9)) := HVx_1.out.under hb
            have HVg_2 : Hid (Vd x2 (fun _ => True) D (.slice p9 D.kids.length q9)) := HVg_1.out.under hb
            have HGb_2 : Hid (x2.heap[G]? = some (.cells #[i64 D.kind, i64 D.num, str D.s, .slice p9 D.kids.length q9, i64 E] 57)) := blk_below HGb_1.out hb
            have HD8_2 : Hid (Vd x2 (fun _ => True) D (.slice p8 D.kids.length q8)) := HD8_1.out.under hb
            clear hb
            have HXP2 : Hid ((B3 Z X Y2 (.cells #[i64 V.kind, i64 V.num, str V.s, .slice ak V.kids.length ck] 24) (.cells #[i64 D.kind, i64 D.num, str D.s, .slice a9 D.kids.length c9] 24) (.cells #[i64 T.kind, i64 T.num, .slice an T.names.length cn, .slice a2 n2 c2] 37) x2) ∧ x2.heap[G]? = some (.cells #[i64 D.kind, i64 D.num, str D.s, .slice p9 D.kids.length q9, i64 E] 57)) := ⟨HXS2.out, HGb_2.out⟩
            go_simp
            refine hK.out _ _ (fun _ => HXP2.out) ?_
            clear hK K
            refine wpL_take 10 65 (.bool true) [] rfl rfl (by kernel_rfl) (by decide) (by kernel_rfl) (by kernel_rfl) (by kernel_rfl) (fun _ _ _ h => h) HXP2.out (by rfl) (fun W hW => by go_simp) ?_
            simp only [Act.put, List.setIfInBounds_toArray, List.set_cons_zero, List.set_cons_succ]
            refine wpL_take 11 66 (.bool true) [] rfl rfl (by kernel_rfl) (by decide) (by kernel_rfl) (by kernel_rfl) (by kernel_rfl) (fun _ _ _ h => h) HXP2.out (by rfl) (fun W hW => by go_simp) ?_
            simp only [Act.put, List.setIfInBounds_toArray, List.set_cons_zero, List.set_cons_succ]
            refine wpL_one 12 rfl (by kernel_rfl) (by rfl) (fun K hK => ?_)
            go_simp
            refine (HFV.out x2 HXB2.out).mono ?_
            rintro e x3 ⟨rfl, hb⟩
            have HXB3 : Hid (Below w.heap.size w x3) := HXB2.out.trans (hb.mono HXB2.out.size)
            have HXS3 : Hid (B3 Z X Y2 (.cells #[i64 V.kind, i64 V.num, str V.s, .slice ak V.kids.length ck] 24) (.cells #[i64 D.kind, i64 D.num, str D.s, .slice a9 D.kids.length c9] 24) (.cells #[i64 T.kind, i64 T.num, .slice an T.names.length cn, .slice a2 n2 c2] 37) x3) := HXS2.out.under hb
            have HVx_3 : Hid (Vd x3 (fun _ => True) D (.slice a9 D.kids.length c9)) := HVx_2.out.under hb
            have HVg_3 : Hid (Vd x3 (fun _ => True) D (.slice p9 D.kids.length q9)) := HVg_2.out.under hb
            have HGb_3 : Hid (x3.heap[G]? = some (.cells #[i64 D.kind, i64 D.num, str D.s, .slice p9 D.kids.length q9, i64 E] 57)) := blk_below HGb_2.out hb
            have HD8_3 : Hid (Vd x3 (fun _ => True) D (.slice p8 D.kids.length q8)) := HD8_2.out.under hb
            clear hb
            have HXP3 : Hid ((B3 Z X Y2 (.cells #[i64 V.kind, i64 V.num, str V.s, .slice ak V.kids.length ck] 24) (.cells #[i64 D.kind, i64 D.num, str D.s, .slice a9 D.kids.length c9] 24) (.cells #[i64 T.kind, i64 T.num, .slice an T.names.length cn, .slice a2 n2 c2] 37) x3) ∧ x3.heap[G]? = some (.cells #[i64 D.kind, i64 D.num, str D.s, .slice p9 D.kids.length q9, i64 E] 57)) := ⟨HXS3.out, HGb_3.out⟩
            go_simp
            refine hK.out _ _ (fun _ => HXP3.out) ?_
            clear hK K
            refine wpL_take 13 68 (.bool true) [] rfl rfl (by kernel_rfl) (by decide) (by kernel_rfl) (by kernel_rfl) (by kernel_rfl) (fun _ _ _ h => h) HXP3.out (by rfl) (fun W hW => by go_simp) ?_
            simp only [Act.put, List.setIfInBounds_toArray, List.set_cons_zero, List.set_cons_succ]
            refine wpL_one 14 rfl (by kernel_rfl) (by rfl) (fun K hK => ?_)
            go_simp
            refine hK.out _ _ (fun h => absurd rfl h) ?_
            clear hK K
            refine wpL_done (by kernel_rfl) ?_
            refine NoPanic.normal ?_
            go_wp2_with fail
            go_ret
            exact ⟨rfl, HXB3.out⟩
        · have HDz : Hid (D = zV ∧ E = 4) := HAn.out (by unfold fitsB; rw [decide_eq_false hfn]; simp)
          have HFits : Hid (∀ W kv nv tv, Vd W (fun _ => True) V kv → Rd W (fun _ => True) T nv tv → Calls Tryd.prog 16 #[vlV V kv, tyV T.kind T.num nv tv] W fun e w' => e = .returned (.bool false) ∧ Below W.heap.size W w') := fun W kv nv tv h1 h2 => by
            have := rfits_ok _ V (Nat.le_refl _) T (err_formed HE0.out) W _ _ kv nv tv h1 h2
            rw [decide_eq_false hfn] at this
            exact this
          clear hE0 HRat
          refine wp_region_noPanic ?_
          refine wp_region_last (B3 Z X Y2 (.cells #[i64 V.kind, i64 V.num, str V.s, .slice ak V.kids.length ck] 24) (.cells #[i64 D.kind, i64 D.num, str D.s, .slice a9 D.kids.length c9] 24) (.cells #[i64 T.kind, i64 T.num, .slice an T.names.length cn, .slice a2 n2 c2] 37)) 9 (by kernel_rfl) ?_
          refine wpL_take 0 29 (.agg #[i64 T.kind, i64 T.num, .slice an T.names.length cn, .slice a2 n2 c2]) [1, 3] rfl rfl (by kernel_rfl) (by decide) (by kernel_rfl) (by kernel_rfl) (by kernel_rfl) (fun _ _ _ h => h) HSd.out (by rfl) (fun W hW => by exact exec_load 37 (.tmp 9) rfl rfl (load37b hW.y)) ?_
          simp only [Act.put, List.setIfInBounds_toArray, List.set_cons_zero, List.set_cons_succ]
          refine wpL_one 1 rfl (by kernel_rfl) (by rfl) (fun K hK => ?_)
          go_simp
          refine (rcheck_ok T w5.drew _ _ _ (HRu.out) (by omega) HS3.out).mono ?_
          rintro e x1 ⟨rfl, hb⟩
          have HXB1 : Hid (Below w.heap.size w x1) := HBd.out.trans (hb.mono HBd.out.size)
          have HXS1 : Hid (B3 Z X Y2 (.cells #[i64 V.kind, i64 V.num, str V.s, .slice ak V.kids.length ck] 24) (.cells #[i64 D.kind, i64 D.num, str D.s, .slice a9 D.kids.length c9] 24) (.cells #[i64 T.kind, i64 T.num, .slice an T.names.length cn, .slice a2 n2 c2] 37) x1) := HSd.out.under hb
          have HVa_1 : Hid (Vd x1 (fun _ => True) V (.slice ak V.kids.length ck)) := HVa.out.under hb
          have HVx_1 : Hid (Vd x1 (fun _ => True) D (.slice a9 D.kids.length c9)) := HVx.out.under hb
          have HRu_1 : Hid (Rd x1 (fun _ => True) T (.slice an T.names.length cn) (.slice a2 n2 c2)) := HRu.out.under hb
          clear hb
          go_simp
          refine hK.out _ _ (fun _ => HXS1.out) ?_
          clear hK K
          refine wpL_take 2 31 (.bool false) [3] rfl rfl (by kernel_rfl) (by decide) (by kernel_rfl) (by kernel_rfl) (by kernel_rfl) (fun _ _ _ h => h) HXS1.out (by rfl) (fun W hW => by have f := hEr; go_simp) ?_
          simp only [Act.put, List.setIfInBounds_toArray, List.set_cons_zero, List.set_cons_succ]
          refine wpL_take 3 32 (.bool false) [] rfl rfl (by kernel_rfl) (by decide) (by kernel_rfl) (by kernel_rfl) (by kernel_rfl) (fun _ _ _ h => h) HXS1.out (by rfl) (fun W hW => by go_simp) ?_
          simp only [Act.put, List.setIfInBounds_toArray, List.set_cons_zero, List.set_cons_succ]
          refine wpL_take 4 33 (.agg #[i64 V.kind, i64 V.num, str V.s, .slice ak V.kids.length ck]) [5, 7, 8] rfl rfl (by kernel_rfl) (by decide) (by kernel_rfl) (by kernel_rfl) (by kernel_rfl) (fun _ _ _ h => h) HXS1.out (by rfl) (fun W hW => by exact exec_load 24 (.tmp 3) rfl rfl (load24 hW.z)) ?_
          simp only [Act.put, List.setIfInBounds_toArray, List.set_cons_zero, List.set_cons_succ]
          refine wpL_take 6 35 (.agg #[i64 T.kind, i64 T.num, .slice an T.names.length cn, .slice a2 n2 c2]) [7, 8] rfl rfl (by kernel_rfl) (by decide) (by kernel_rfl) (by kernel_rfl) (by kernel_rfl) (fun _ _ _ h => h) HXS1.out (by rfl) (fun W hW => by exact exec_load 37 (.tmp 9) rfl rfl (load37b hW.y)) ?_
          simp only [Act.put, List.setIfInBounds_toArray, List.set_cons_zero, List.set_cons_succ]
          refine wpL_one 5 rfl (by kernel_rfl) (by rfl) (fun K hK => ?_)
          go_simp
          refine (val_ok _ V (Nat.le_refl _) (by omega) x1 (fun _ => True) _ (HVa_1.out)).mono ?_
          rintro e x2 ⟨p1, q1, rfl, hb, hd⟩
          have HXB2 : Hid (Below w.heap.size w x2) := HXB1.out.trans (hb.mono HXB1.out.size)
          have HXS2 : Hid (B3 Z X Y2 (.cells #[i64 V.kind, i64 V.num, str V.s, .slice ak V.kids.length ck] 24) (.cells #[i64 D.kind, i64 D.num, str D.s, .slice a9 D.kids.length c9] 24) (.cells #[i64 T.kind, i64 T.num, .slice an T.names.length cn, .slice a2 n2 c2] 37) x2) := HXS1.out.under hb
          have HVa_2 : Hid (Vd x2 (fun _ => True) V (.slice ak V.kids.length ck)) := HVa_1.out.under hb
          have HVx_2 : Hid (Vd x2 (fun _ => True) D (.slice a9 D.kids.length c9)) := HVx_1.out.under hb
          have HRu_2 : Hid (Rd x2 (fun _ => True) T (.slice an T.names.length cn) (.slice a2 n2 c2)) := HRu_1.out.under hb
          have HV1_2 : Hid (Vd x2 (fun _ => True) V (.slice p1 V.kids.length q1)) := hd.mono (fun _ _ _ => trivial)
          clear hb hd
          go_simp
          refine hK.out _ _ (fun _ => HXS2.out) ?_
          clear hK K
          refine wpL_one 7 rfl (by kernel_rfl) (by rfl) (fun K hK => ?_)
          go_simp
          refine (HFits.out x2 _ _ _ (HV1_2.out) (HRu_2.out)).mono ?_
          rintro e x3 ⟨rfl, hb⟩
          have HXB3 : Hid (Below w.heap.size w x3) := HXB2.out.trans (hb.mono HXB2.out.size)
          have HXS3 : Hid (B3 Z X Y2 (.cells #[i64 V.kind, i64 V.num, str V.s, .slice ak V.kids.length ck] 24) (.cells #[i64 D.kind, i64 D.num, str D.s, .slice a9 D.kids.length c9] 24) (.cells #[i64 T.kind, i64 T.num, .slice an T.names.length cn, .slice a2 n2 c2] 37) x3) := HXS2.out.under hb
          have HVa_3 : Hid (Vd x3 (fun _ => True) V (.slice ak V.kids.length ck)) := HVa_2.out.under hb
          have HVx_3 : Hid (Vd x3 (fun _ => True) D (.slice a9 D.kids.length c9)) := HVx_2.out.under hb
          have HRu_3 : Hid (Rd x3 (fun _ => True) T (.slice an T.names.length cn) (.slice a2 n2 c2)) := HRu_2.out.under hb
          have HV1_3 : Hid (Vd x3 (fun _ => True) V (.slice p1 V.kids.length q1)) := HV1_2.out.under hb
          clear hb
          go_simp
          refine hK.out _ _ (fun _ => HXS3.out) ?_
          clear hK K
          refine wpL_take 8 37 (.bool true) [] rfl rfl (by kernel_rfl) (by decide) (by kernel_rfl) (by kernel_rfl) (by kernel_rfl) (fun _ _ _ h => h) HXS3.out (by rfl) (fun W hW => by go_simp) ?_
          simp only [Act.put, List.setIfInBounds_toArray, List.set_cons_zero, List.set_cons_succ]
          refine wpL_one 9 rfl (by kernel_rfl) (by rfl) (fun K hK => ?_)
          go_simp
          refine hK.out _ _ (fun h => absurd rfl h) ?_
          clear hK K
          refine wpL_done (by kernel_rfl) ?_
          refine NoPanic.normal ?_
          obtain ⟨hdz, rfl⟩ := HDz.out
          have xx0 : x3.cell? ⟨X, 0, none⟩ = some (i64 D.kind) := blk_cell HXS3.out.x 0
          have xx1 : x3.cell? ⟨X, 1, none⟩ = some (i64 D.num) := blk_cell HXS3.out.x 1
          have xx2 : x3.cell? ⟨X, 2, none⟩ = some (str D.s) := blk_cell HXS3.out.x 2
          have xx3 : x3.cell? ⟨X, 3, none⟩ = some (.slice a9 D.kids.length c9) := blk_cell HXS3.out.x 3
          have HDz2 := hid hdz
          clear hdz
          go_wp2_with fail
          refine (val_ok _ D (Nat.le_refl _) (by omega) x3 (fun _ => True) _ (HVx_3.out)).mono ?_
          rintro e y1 ⟨p8, q8, rfl, hb, hd⟩
          have HY1 : Hid (Below w.heap.size w y1) := HXB3.out.trans (hb.mono HXB3.out.size)
          have HD1 : Hid (Vd y1 (fun _ => True) D (.slice p8 D.kids.length q8)) := hd.mono (fun _ _ _ => trivial)
          have hz6 := zero33 y1
          clear hb hd
          go_wp2_with fail
          refine (vrsame_zero D HDz2.out y1 _ HD1.out).mono ?_
          rintro e y2 ⟨rfl, hb⟩
          have HY2 : Hid (Below w.heap.size w y2) := HY1.out.trans (hb.mono HY1.out.size)
          clear hb hz6
          go_wp2_with fail
          refine (HFV.out y2 HY2.out).mono ?_
          rintro e y3 ⟨rfl, hb⟩
          have HY3 : Hid (Below w.heap.size w y3) := HY2.out.trans (hb.mono HY2.out.size)
          clear hb
          go_wp2_with fail
          go_ret
          exact ⟨rfl, HY3.out⟩
      · have hEr : (T.err != 0) = true := by simpa using hE0
        have HDz : Hid (D = zV ∧ E = 4) := HAn.out (by unfold fitsB; rw [decide_eq_false hE0]; simp)
        clear hE0 HRat
        refine wp_region_noPanic ?_
        refine wp_region_last (B3 Z X Y2 (.cells #[i64 V.kind, i64 V.num, str V.s, .slice ak V.kids.length ck] 24) (.cells #[i64 D.kind, i64 D.num, str D.s, .slice a9 D.kids.length c9] 24) (.cells #[i64 T.kind, i64 T.num, .slice an T.names.length cn, .slice a2 n2 c2] 37)) 9 (by kernel_rfl) ?_
        refine wpL_take 0 29 (.agg #[i64 T.kind, i64 T.num, .slice an T.names.length cn, .slice a2 n2 c2]) [1, 3] rfl rfl (by kernel_rfl) (by decide) (by kernel_rfl) (by kernel_rfl) (by kernel_rfl) (fun _ _ _ h => h) HSd.out (by rfl) (fun W hW => by exact exec_load 37 (.tmp 9) rfl rfl (load37b hW.y)) ?_
        simp only [Act.put, List.setIfInBounds_toArray, List.set_cons_zero, List.set_cons_succ]
        refine wpL_one 1 rfl (by kernel_rfl) (by rfl) (fun K hK => ?_)
        go_simp
        refine (rcheck_ok T w5.drew _ _ _ (HRu.out) (by omega) HS3.out).mono ?_
        rintro e x1 ⟨rfl, hb⟩
        have HXB1 : Hid (Below w.heap.size w x1) := HBd.out.trans (hb.mono HBd.out.size)
        have HXS1 : Hid (B3 Z X Y2 (.cells #[i64 V.kind, i64 V.num, str V.s, .slice ak V.kids.length ck] 24) (.cells #[i64 D.kind, i64 D.num, str D.s, .slice a9 D.kids.length c9] 24) (.cells #[i64 T.kind, i64 T.num, .slice an T.names.length cn, .slice a2 n2 c2] 37) x1) := HSd.out.under hb
        have HVa_1 : Hid (Vd x1 (fun _ => True) V (.slice ak V.kids.length ck)) := HVa.out.under hb
        have HVx_1 : Hid (Vd x1 (fun _ => True) D (.slice a9 D.kids.length c9)) := HVx.out.under hb
        have HRu_1 : Hid (Rd x1 (fun _ => True) T (.slice an T.names.length cn) (.slice a2 n2 c2)) := HRu.out.under hb
        clear hb
        go_simp
        refine hK.out _ _ (fun _ => HXS1.out) ?_
        clear hK K
        refine wpL_take 2 31 (.bool true) [3] rfl rfl (by kernel_rfl) (by decide) (by kernel_rfl) (by kernel_rfl) (by kernel_rfl) (fun _ _ _ h => h) HXS1.out (by rfl) (fun W hW => by have f := hEr; go_simp) ?_
        simp only [Act.put, List.setIfInBounds_toArray, List.set_cons_zero, List.set_cons_succ]
        refine wpL_take 3 32 (.bool true) [] rfl rfl (by kernel_rfl) (by decide) (by kernel_rfl) (by kernel_rfl) (by kernel_rfl) (fun _ _ _ h => h) HXS1.out (by rfl) (fun W hW => by go_simp) ?_
        simp only [Act.put, List.setIfInBounds_toArray, List.set_cons_zero, List.set_cons_succ]
        refine wpL_skip 4 33 [5, 7, 8] rfl rfl (by kernel_rfl) (by decide) (by kernel_rfl) (by kernel_rfl) (by kernel_rfl) (fun _ _ _ h => h) HXS1.out (by rfl) ?_
        simp only [Act.put, List.setIfInBounds_toArray, List.set_cons_zero, List.set_cons_succ]
        refine wpL_skip 5 34 [7, 8] rfl rfl (by kernel_rfl) (by decide) (by kernel_rfl) (by kernel_rfl) (by kernel_rfl) (fun _ _ _ h => h) HXS1.out (by rfl) ?_
        simp only [Act.put, List.setIfInBounds_toArray, List.set_cons_zero, List.set_cons_succ]
        refine wpL_skip 6 35 [7, 8] rfl rfl (by kernel_rfl) (by decide) (by kernel_rfl) (by kernel_rfl) (by kernel_rfl) (fun _ _ _ h => h) HXS1.out (by rfl) ?_
        simp only [Act.put, List.setIfInBounds_toArray, List.set_cons_zero, List.set_cons_succ]
        refine wpL_skip 7 36 [8] rfl rfl (by kernel_rfl) (by decide) (by kernel_rfl) (by kernel_rfl) (by kernel_rfl) (fun _ _ _ h => h) HXS1.out (by rfl) ?_
        simp only [Act.put, List.setIfInBounds_toArray, List.set_cons_zero, List.set_cons_succ]
        refine wpL_skip 8 37 [] rfl rfl (by kernel_rfl) (by decide) (by kernel_rfl) (by kernel_rfl) (by kernel_rfl) (fun _ _ _ h => h) HXS1.out (by rfl) ?_
        simp only [Act.put, List.setIfInBounds_toArray, List.set_cons_zero, List.set_cons_succ]
        refine wpL_one 9 rfl (by kernel_rfl) (by rfl) (fun K hK => ?_)
        go_simp
        refine hK.out _ _ (fun h => absurd rfl h) ?_
        clear hK K
        refine wpL_done (by kernel_rfl) ?_
        refine NoPanic.normal ?_
        obtain ⟨hdz, rfl⟩ := HDz.out
        have xx0 : x1.cell? ⟨X, 0, none⟩ = some (i64 D.kind) := blk_cell HXS1.out.x 0
        have xx1 : x1.cell? ⟨X, 1, none⟩ = some (i64 D.num) := blk_cell HXS1.out.x 1
        have xx2 : x1.cell? ⟨X, 2, none⟩ = some (str D.s) := blk_cell HXS1.out.x 2
        have xx3 : x1.cell? ⟨X, 3, none⟩ = some (.slice a9 D.kids.length c9) := blk_cell HXS1.out.x 3
        have HDz2 := hid hdz
        clear hdz
        go_wp2_with fail
        refine (val_ok _ D (Nat.le_refl _) (by omega) x1 (fun _ => True) _ (HVx_1.out)).mono ?_
        rintro e y1 ⟨p8, q8, rfl, hb, hd⟩
        have HY1 : Hid (Below w.heap.size w y1) := HXB1.out.trans (hb.mono HXB1.out.size)
        have HD1 : Hid (Vd y1 (fun _ => True) D (.slice p8 D.kids.length q8)) := hd.mono (fun _ _ _ => trivial)
        have hz6 := zero33 y1
        clear hb hd
        go_wp2_with fail
        refine (vrsame_zero D HDz2.out y1 _ HD1.out).mono ?_
        rintro e y2 ⟨rfl, hb⟩
        have HY2 : Hid (Below w.heap.size w y2) := HY1.out.trans (hb.mono HY1.out.size)
        clear hb hz6
        go_wp2_with fail
        refine (HFV.out y2 HY2.out).mono ?_
        rintro e y3 ⟨rfl, hb⟩
        have HY3 : Hid (Below w.heap.size w y3) := HY2.out.trans (hb.mono HY2.out.size)
        clear hb
        go_wp2_with fail
        go_ret
        exact ⟨rfl, HY3.out⟩
end Go.Proofs.YtgiemijhndanjaaDoor
