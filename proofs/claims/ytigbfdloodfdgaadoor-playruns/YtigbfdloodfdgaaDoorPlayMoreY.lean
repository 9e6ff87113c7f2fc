/- PlayMore's walk, where Run has no error; no statement is proved in this text. -/
import Derived.Test.YtigbfdloodfdgaaDoorPlayMoreX
import Derived.Test.YtigbfdloodfdgaaDoorPlayEq
namespace Go.Proofs.YtigbfdloodfdgaaDoor
open Go.ChangeShapes Go.WideShapes Go.ChangeAt Go.RowKit

theorem own_cells {w : World} {base n : Nat} {v : Value} {xs : List Value} (h : w.ownsRow base 51 4 v n xs) : ∃ a c, v = .slice a n c ∧ n ≤ c ∧ (n = 0 ∨ ∃ g, a = some ⟨g, 0, none⟩ ∧ g < w.heap.size ∧ ∀ j, j < n * 4 → w.cell? ⟨g, j, none⟩ = xs[j]?) := by
  have h0 := h
  rcases h.2 with ⟨rfl, rfl⟩ | ⟨g, c, cur, rfl, _, hg, hc, _⟩
  · exact ⟨none, 0, rfl, Nat.le_refl _, Or.inl rfl⟩
  · exact ⟨_, c, rfl, hc, Or.inr ⟨g, rfl, (Array.getElem?_eq_some_iff.1 hg).1, fun j hj => h0.cellAt j hj⟩⟩
/-- What a stored result gives. -/
structure Res (V : World) (p : Nat) (h j : Nat) (C : List Nat) (M : List UInt8) (a : Option Addr) (n c : Nat) : Prop where
  row : V.heap[p]? = some (.cells (resC h j C M (.slice a n c)).toArray 33 (0, 0))
  rg : Rg C
theorem Res.below {V W : World} {p h j : Nat} {C : List Nat} {M : List UInt8} {a : Option Addr} {n c : Nat} (hr : Res V p h j C M a n c) (hb : Below V.heap.size V W) : Res W p h j C M a n c :=
  ⟨(hb.block p (Array.getElem?_eq_some_iff.1 hr.row).1).trans hr.row, hr.rg⟩
theorem Res.cells {V : World} {p h j : Nat} {C : List Nat} {M : List UInt8} {a : Option Addr} {n c : Nat} (hr : Res V p h j C M a n c) : V.cell? ⟨p, 0, none⟩ = some (i64 (h : Nat)) ∧ V.cell? ⟨p, 1, none⟩ = some (i64 (j : Nat)) ∧ V.cell? ⟨p, 11, none⟩ = some (.string ⟨M.toArray⟩) ∧ V.cell? ⟨p, 12, none⟩ = some (.slice a n c) ∧ V.rangeAt p 2 (cpC C) := by
  have hl := hr.rg.len
  refine ⟨(cell_of_row _ _ _ _ 33 (0, 0) hr.row).trans rfl, (cell_of_row _ _ _ _ 33 (0, 0) hr.row).trans rfl, (cell_of_row _ _ _ _ 33 (0, 0) hr.row).trans ?_, (cell_of_row _ _ _ _ 33 (0, 0) hr.row).trans ?_, fun i v hv => (cell_of_row _ _ _ _ 33 (0, 0) hr.row).trans ?_⟩
  · simp [resC, cpC, hl]
  · simp [resC, cpC, hl]
  · have hi := (List.getElem?_eq_some_iff.1 hv).1
    rw [show 2 + i = i + 1 + 1 by omega]
    simp only [resC, List.getElem?_toArray, List.getElem?_cons_succ]
    rw [List.getElem?_append_left hi]
    exact hv
def OR (V : World) (o : Option Addr) (K : List Cl) : Prop := K.length = 0 ∨ ∃ g, o = some ⟨g, 0, none⟩ ∧ g < V.heap.size ∧ ∀ j, j < K.length * 4 → V.cell? ⟨g, j, none⟩ = (clC K)[j]?
theorem OR.below {V W : World} {o : Option Addr} {K : List Cl} (h : OR V o K) (hb : Below V.heap.size V W) : OR W o K := by
  have hs := hb.size
  rcases h with h | ⟨g, h1, h2, h3⟩
  · exact Or.inl h
  · exact Or.inr ⟨g, h1, by omega, fun j hj => (hb.cell (p := ⟨g, j, none⟩) h2).trans (h3 j hj)⟩
theorem clC_get : ∀ (K : List Cl) (i : Nat) (c : Cl), K[i]? = some c → (clC K)[i * 4]? = some (i64 c.n) ∧ (clC K)[i * 4 + 1]? = some (i64 c.a) ∧ (clC K)[i * 4 + 2]? = some (i64 c.b) ∧ (clC K)[i * 4 + 3]? = some (i64 c.c)
  | [], i, c, h => by simp at h
  | k :: K, 0, c, h => by
    simp at h
    subst h
    exact ⟨rfl, rfl, rfl, rfl⟩
  | k :: K, i + 1, c, h => by
    have := clC_get K i c (by simpa using h)
    have e : ∀ r, (clC (k :: K))[(i + 1) * 4 + r]? = (clC K)[i * 4 + r]? := fun r => by
      rw [show (i + 1) * 4 + r = i * 4 + r + 4 by omega]
      show (i64 k.n :: i64 k.a :: i64 k.b :: i64 k.c :: clC K)[i * 4 + r + 4]? = _
      simp
    exact ⟨(e 0).trans this.1, (e 1).trans this.2.1, (e 2).trans this.2.2.1, (e 3).trans this.2.2.2⟩
theorem OR.get {V : World} {o : Option Addr} {K : List Cl} (h : OR V o K) {i : Nat} {c : Cl} (hi : K[i]? = some c) : ∃ g, o = some ⟨g, 0, none⟩ ∧ V.cell? ⟨g, i * 4, none⟩ = some (i64 c.n) ∧ V.cell? ⟨g, i * 4 + 1, none⟩ = some (i64 c.a) ∧ V.cell? ⟨g, i * 4 + 2, none⟩ = some (i64 c.b) ∧ V.cell? ⟨g, i * 4 + 3, none⟩ = some (i64 c.c) := by
  have hl := (List.getElem?_eq_some_iff.1 hi).1
  rcases h with h | ⟨g, h1, h2, h3⟩
  · omega
  · obtain ⟨g0, g1, g2, g3⟩ := clC_get K i c hi
    exact ⟨g, h1, (h3 _ (by omega)).trans g0, (h3 _ (by omega)).trans g1, (h3 _ (by omega)).trans g2, (h3 _ (by omega)).trans g3⟩
structure SqZ (p q g gg k1 k2 c1 c2 i : Nat) (cn : Int) (ca cb cc : Nat) (W : World) : Prop where
  s0 : W.cell? ⟨p, 12, none⟩ = some (.slice (some ⟨g, 0, none⟩) k1 c1)
  s1 : W.cell? ⟨q, 12, none⟩ = some (.slice (some ⟨gg, 0, none⟩) k2 c2)
  s2 : W.cell? ⟨g, i * 4, none⟩ = some (i64 cn)
  s3 : W.cell? ⟨g, i * 4 + 1, none⟩ = some (i64 ca)
  s4 : W.cell? ⟨g, i * 4 + 2, none⟩ = some (i64 cb)
  s5 : W.cell? ⟨g, i * 4 + 3, none⟩ = some (i64 cc)
  s6 : W.cell? ⟨gg, i * 4, none⟩ = some (i64 cn)
  s7 : W.cell? ⟨gg, i * 4 + 1, none⟩ = some (i64 ca)
  s8 : W.cell? ⟨gg, i * 4 + 2, none⟩ = some (i64 cb)
  s9 : W.cell? ⟨gg, i * 4 + 3, none⟩ = some (i64 cc)
theorem below_drewN (V : World) (n : Nat) : Below V.heap.size V (V.drewN n) := ⟨rfl, rfl, rfl, Nat.le_refl _, fun _ _ => rfl⟩
theorem itP_Kn (l : List UInt8) (s : Rn) : ∀ n, (itP l n s).2.2.K.length ≤ s.K.length + n
  | 0 => Nat.le_refl _
  | n + 1 => by
    have h1 := itP_Kn l s n
    have h2 := stepP_K l (itP l n s).2.2
    unfold itP
    split
    · simp only; omega
    · omega
set_option maxRecDepth 100000 in
set_option maxHeartbeats 1600000 in
theorem more_in (w : World) (ht : Tab w) (l m : List UInt8) (ao : Option Addr) (cap : Nat) (A : List Int) (F D : Nat) (hlb : decide (600 < l.length ∨ 600 < m.length ∨ 100 < A.length) = false) (f1 : F ≤ 300) (m1 : D ≤ 300) (hl : l.length ≤ 256) (hm : m.length ≤ 256) (ha : ASl w w.heap.size w.heap.size (.slice ao A.length cap) A) :
    Calls Tryd.prog 5 #[jobV l m ao A.length cap, i64 F, i64 D] w fun e w' => e = .returned (.bool true) ∧ Below w.heap.size w w' := by
  have HTB := hid ht
  have HL := hid (fun v => long_b v l m ao A.length cap false hlb)
  have HC := hid (fun v (hv : Tab v) => call8_ok v hv)
  have HR := hid (fun v (hv : Below w.heap.size w v) => run_in v (ht.below hv) l m ao cap A F _ rfl hl hm (by omega) (ha.at hv))
  have hR2 := fun v (hv : Below w.heap.size w v) => run_in v (ht.below hv) l m ao cap A (F + D) _ rfl hl hm (by omega) (ha.at hv)
  rw [Int.natCast_add] at hR2
  have HR2 := hid hR2
  have HRG := hid (itP_rg l (s0P_ok hm A))
  have HPK := hid (itP_K l (s0P m A) F D)
  have HUP := hid (itP_up l (s0P m A) F D)
  have HST := hid (fun h => itP_stay l (s0P m A) (n := F) h D)
  have HH := hid (itP_how l (s0P m A) F)
  have hkb : (itP l F (s0P m A)).2.2.K.length ≤ 300 := by have := itP_Kn l (s0P m A) F; have h0 : (s0P m A).K.length = 0 := rfl; omega
  have hc1 := HRG.out F
  have hc2 := HRG.out (F + D)
  clear hR2
  generalize itP l F (s0P m A) = r1 at *
  generalize itP l (F + D) (s0P m A) = r2 at *
  obtain ⟨h1, j1, s1⟩ := r1
  obtain ⟨h2, j2, s2⟩ := r2
  simp only at hkb
  have HC1 := hid hc1.rg
  have HC2 := hid hc2.rg
  clear ht hlb hc1 hc2 ha HRG
  obtain ⟨b, hb⟩ : ∃ b, w.heap.size = b := ⟨_, rfl⟩
  have HJ := hid (fun v h => job_cells (w := w) (v := v) (l := l) (m := m) (ao := ao) (n := A.length) (cap := cap) hb.symm h)
  have hFI : (F : Int) ≤ 300 := by omega
  have hDI : (D : Int) ≤ 300 := by omega
  go_enter Tryd.func5, Tryd.ntmps5
  go_upto_region 3 with (first
      | (go_at_call 7; refine (HL.out _).mono ?_; rintro e v1 ⟨rfl, h1⟩; rw [World.size_alloc, hb] at h1; have HBa := hid h1; clear h1))
  obtain ⟨a0, a1, a2⟩ := HJ.out _ HBa.out
  go_upto_region 4 with (first
    | (go_at_call 9; refine (HR.out _ (jw hb HBa.out)).mono ?_; rintro e v2 ⟨vc, rfl, h2, h3⟩; obtain ⟨o1, c1, rfl, hcc1, hg1⟩ := own_cells h2; have HB2 := hid h3; have HG1 := hid hg1; have HST1 := hid (res_stored v2 (h := hwP h1) (j := j1) HC1.out s1.M (.slice o1 s1.K.length c1)); clear h2 h3 hg1)
    | (refine wpList_store_mid rfl 33 (.tmp 7) (.tmp 40) rfl v2.heap.size 0 (resC (hwP h1) j1 s1.C s1.M (.slice o1 s1.K.length c1)).toArray rfl rfl (by exact HST1.out.2.2.1) (by rw [List.size_toArray, resC_len HC1.out]; exact infoR33) (by exact res_one _ _ _ _ _ _ _) ?_))
  have HB3 := hid (jb hb (jb hb HBa.out HB2.out) HST1.out.2.1)
  have HP3 : Hid (Res ((v2.alloc Z33).setCells v2.heap.size 0 (resC (hwP h1) j1 s1.C s1.M (.slice o1 s1.K.length c1))) v2.heap.size (hwP h1) j1 s1.C s1.M o1 s1.K.length c1) := ⟨HST1.out.1, HC1.out⟩
  have HG3 := hid (HST1.out.2.1)
  clear a0 a1 a2 HST1 HB2 HBa
  obtain ⟨a0, a1, a2⟩ := HJ.out _ HB3.out
  generalize (v2.alloc Z33).setCells v2.heap.size 0 (resC (hwP h1) j1 s1.C s1.M (.slice o1 s1.K.length c1)) = V3 at *
  have HO3 : Hid (OR V3 o1 s1.K) := OR.below (show OR v2 o1 s1.K from HG1.out) HG3.out
  clear HG1 HG3
  generalize v2.heap.size = p at *
  go_upto_region 5 with (first
    | (go_at_call 9; refine (HR2.out _ (jw hb HB3.out)).mono ?_; rintro e v4 ⟨vc, rfl, q2, q3⟩; obtain ⟨o2, c2, rfl, hcc2, hg1⟩ := own_cells q2; have HB4 := hid q3; have HG2 := hid hg1; have HST2 := hid (res_stored v4 (h := hwP h2) (j := j2) HC2.out s2.M (.slice o2 s2.K.length c2)); clear q2 q3 hg1)
    | (refine wpList_store_mid rfl 33 (.tmp 9) (.tmp 53) rfl v4.heap.size 0 (resC (hwP h2) j2 s2.C s2.M (.slice o2 s2.K.length c2)).toArray rfl rfl (by exact HST2.out.2.2.1) (by rw [List.size_toArray, resC_len HC2.out]; exact infoR33) (by exact res_one _ _ _ _ _ _ _) ?_))
  have HBW := hid (jw hb (jb hb (jb hb HB3.out HB4.out) HST2.out.2.1))
  have HQ : Hid (Res ((v4.alloc Z33).setCells v4.heap.size 0 (resC (hwP h2) j2 s2.C s2.M (.slice o2 s2.K.length c2))) v4.heap.size (hwP h2) j2 s2.C s2.M o2 s2.K.length c2) := ⟨HST2.out.1, HC2.out⟩
  have HP := hid ((HP3.out.below HB4.out).below HST2.out.2.1)
  have HO1 := hid ((HO3.out.below HB4.out).below HST2.out.2.1)
  have HO2 := hid (OR.below (show OR v4 o2 s2.K from HG2.out) HST2.out.2.1)
  clear a0 a1 a2 HST2 HB4 HB3 HP3 HO3 HG2
  generalize (v4.alloc Z33).setCells v4.heap.size 0 (resC (hwP h2) j2 s2.C s2.M (.slice o2 s2.K.length c2)) = V at *
  generalize v4.heap.size = q at *
  obtain ⟨p0, p1, p11, p12, pr⟩ := HP.out.cells
  obtain ⟨q0, q1, q11, q12, qr⟩ := HQ.out.cells
  have HPR := hid pr
  have HQR := hid qr
  obtain ⟨t, ht⟩ := HPK.out
  have hkl : s1.K.length ≤ s2.K.length := by rw [ht, List.length_append]; omega
  have HT := hid ht
  clear pr qr ht
  go_wp2_with fail
  go_loopw [70] (fun k wr => ∃ i nn : Nat, i ≤ s1.K.length ∧ k = .int .i64 (i : Nat) ∧ wr = V.drewN nn) (fun k _ => s1.K.length - (intOf k).toNat)
  case atStart => exact ⟨0, 0, Nat.zero_le _, rfl, rfl⟩
  case round =>
    obtain ⟨i, nn, hi, rfl, rfl⟩ := hrel
    by_cases hlt : i < s1.K.length
    · have hltI : (i : Int) < s1.K.length := by omega
      have hltJ : (i : Int) < s2.K.length := by omega
      obtain ⟨⟨cn, ca, cb, cc⟩, hc⟩ : ∃ c, s1.K[i]? = some c := ⟨_, List.getElem?_eq_getElem hlt⟩
      have hc2 : s2.K[i]? = some ⟨cn, ca, cb, cc⟩ := by rw [HT.out, List.getElem?_append_left hlt]; exact hc
      obtain ⟨g, e1, x0, x1, x2, x3⟩ := HO1.out.get hc
      obtain ⟨gg, e2, y0, y1, y2, y3⟩ := HO2.out.get hc2
      simp only at x0 x1 x2 x3 y0 y1 y2 y3
      subst e1 e2
      clear hc hc2
      have hd1 : decide ((s2.K.length : Int) ≤ (i : Int)) = false := decide_eq_false (by omega)
      have hiN : ((i : Int) * 4).toNat = i * 4 := by omega
      have HS : Hid (SqZ p q g gg s1.K.length s2.K.length c1 c2 i cn ca cb cc (V.drewN nn).drew) := ⟨by simpa using p12, by simpa using q12, by simpa using x0, by simpa using x1, by simpa using x2, by simpa using x3, by simpa using y0, by simpa using y1, by simpa using y2, by simpa using y3⟩
      have HLT := hid hlt
      clear x0 x1 x2 x3 y0 y1 y2 y3
      go_upto_region 10 with fail
      refine wp_region_noPanic ?_
      refine wp_region_last (SqZ p q g gg s1.K.length s2.K.length c1 c2 i cn ca cb cc) 17 (by kernel_rfl) ?_
      refine wpL_take 0 73 (i64 (i : Nat)) [4, 5] rfl rfl (by kernel_rfl) (by decide) (by kernel_rfl) (by kernel_rfl) (by kernel_rfl) (fun _ _ _ h => h) HS.out (by rfl) (fun W hW => by obtain ⟨z0, z1, z2, z3, z4, z5, z6, z7, z8, z9⟩ := hW; go_simp) ?_
      simp only [Act.put, List.setIfInBounds_toArray, List.set_cons_zero, List.set_cons_succ]
      refine wpL_take 1 74 (.pointer (some ⟨q, 12, none⟩)) [2, 3, 4, 5] rfl rfl (by kernel_rfl) (by decide) (by kernel_rfl) (by kernel_rfl) (by kernel_rfl) (fun _ _ _ h => h) HS.out (by rfl) (fun W hW => by obtain ⟨z0, z1, z2, z3, z4, z5, z6, z7, z8, z9⟩ := hW; go_simp) ?_
      simp only [Act.put, List.setIfInBounds_toArray, List.set_cons_zero, List.set_cons_succ]
      refine wpL_take 2 75 (.slice (some ⟨gg, 0, none⟩) s2.K.length c2) [3, 4, 5] rfl rfl (by kernel_rfl) (by decide) (by kernel_rfl) (by kernel_rfl) (by kernel_rfl) (fun _ _ _ h => h) HS.out (by rfl) (fun W hW => by obtain ⟨z0, z1, z2, z3, z4, z5, z6, z7, z8, z9⟩ := hW; go_simp) ?_
      simp only [Act.put, List.setIfInBounds_toArray, List.set_cons_zero, List.set_cons_succ]
      refine wpL_take 3 76 (i64 (s2.K.length : Nat)) [4, 5] rfl rfl (by kernel_rfl) (by decide) (by kernel_rfl) (by kernel_rfl) (by kernel_rfl) (fun _ _ _ h => h) HS.out (by rfl) (fun W hW => by obtain ⟨z0, z1, z2, z3, z4, z5, z6, z7, z8, z9⟩ := hW; go_simp) ?_
      simp only [Act.put, List.setIfInBounds_toArray, List.set_cons_zero, List.set_cons_succ]
      refine wpL_take 4 77 (.bool false) [5] rfl rfl (by kernel_rfl) (by decide) (by kernel_rfl) (by kernel_rfl) (by kernel_rfl) (fun _ _ _ h => h) HS.out (by rfl) (fun W hW => by go_simp; omega) ?_
      simp only [Act.put, List.setIfInBounds_toArray, List.set_cons_zero, List.set_cons_succ]
      refine wpL_take 5 78 (.bool false) [] rfl rfl (by kernel_rfl) (by decide) (by kernel_rfl) (by kernel_rfl) (by kernel_rfl) (fun _ _ _ h => h) HS.out (by rfl) (fun W hW => by obtain ⟨z0, z1, z2, z3, z4, z5, z6, z7, z8, z9⟩ := hW; go_simp) ?_
      simp only [Act.put, List.setIfInBounds_toArray, List.set_cons_zero, List.set_cons_succ]
      refine wpL_take 6 79 (.pointer (some ⟨p, 12, none⟩)) [7, 9, 10, 16] rfl rfl (by kernel_rfl) (by decide) (by kernel_rfl) (by kernel_rfl) (by kernel_rfl) (fun _ _ _ h => h) HS.out (by rfl) (fun W hW => by obtain ⟨z0, z1, z2, z3, z4, z5, z6, z7, z8, z9⟩ := hW; go_simp) ?_
      simp only [Act.put, List.setIfInBounds_toArray, List.set_cons_zero, List.set_cons_succ]
      refine wpL_take 7 80 (.slice (some ⟨g, 0, none⟩) s1.K.length c1) [9, 10, 16] rfl rfl (by kernel_rfl) (by decide) (by kernel_rfl) (by kernel_rfl) (by kernel_rfl) (fun _ _ _ h => h) HS.out (by rfl) (fun W hW => by obtain ⟨z0, z1, z2, z3, z4, z5, z6, z7, z8, z9⟩ := hW; go_simp) ?_
      simp only [Act.put, List.setIfInBounds_toArray, List.set_cons_zero, List.set_cons_succ]
      refine wpL_take 8 81 (i64 (i : Nat)) [9, 10, 16] rfl rfl (by kernel_rfl) (by decide) (by kernel_rfl) (by kernel_rfl) (by kernel_rfl) (fun _ _ _ h => h) HS.out (by rfl) (fun W hW => by obtain ⟨z0, z1, z2, z3, z4, z5, z6, z7, z8, z9⟩ := hW; go_simp) ?_
      simp only [Act.put, List.setIfInBounds_toArray, List.set_cons_zero, List.set_cons_succ]
      refine wpL_take 9 82 (.pointer (some ⟨g, i * 4, none⟩)) [10, 16] rfl rfl (by kernel_rfl) (by decide) (by kernel_rfl) (by kernel_rfl) (by kernel_rfl) (fun _ _ _ h => h) HS.out (by rfl) (fun W hW => by obtain ⟨z0, z1, z2, z3, z4, z5, z6, z7, z8, z9⟩ := hW; go_simp) ?_
      simp only [Act.put, List.setIfInBounds_toArray, List.set_cons_zero, List.set_cons_succ]
      refine wpL_take 10 83 (.agg #[i64 cn, i64 ca, i64 cb, i64 cc]) [16] rfl rfl (by kernel_rfl) (by decide) (by kernel_rfl) (by kernel_rfl) (by kernel_rfl) (fun _ _ _ h => h) HS.out (by rfl) (fun W hW => by obtain ⟨z0, z1, z2, z3, z4, z5, z6, z7, z8, z9⟩ := hW; go_simp) ?_
      simp only [Act.put, List.setIfInBounds_toArray, List.set_cons_zero, List.set_cons_succ]
      refine wpL_take 11 84 (.pointer (some ⟨q, 12, none⟩)) [12, 14, 15, 16] rfl rfl (by kernel_rfl) (by decide) (by kernel_rfl) (by kernel_rfl) (by kernel_rfl) (fun _ _ _ h => h) HS.out (by rfl) (fun W hW => by obtain ⟨z0, z1, z2, z3, z4, z5, z6, z7, z8, z9⟩ := hW; go_simp) ?_
      simp only [Act.put, List.setIfInBounds_toArray, List.set_cons_zero, List.set_cons_succ]
      refine wpL_take 12 85 (.slice (some ⟨gg, 0, none⟩) s2.K.length c2) [14, 15, 16] rfl rfl (by kernel_rfl) (by decide) (by kernel_rfl) (by kernel_rfl) (by kernel_rfl) (fun _ _ _ h => h) HS.out (by rfl) (fun W hW => by obtain ⟨z0, z1, z2, z3, z4, z5, z6, z7, z8, z9⟩ := hW; go_simp) ?_
      simp only [Act.put, List.setIfInBounds_toArray, List.set_cons_zero, List.set_cons_succ]
      refine wpL_take 13 86 (i64 (i : Nat)) [14, 15, 16] rfl rfl (by kernel_rfl) (by decide) (by kernel_rfl) (by kernel_rfl) (by kernel_rfl) (fun _ _ _ h => h) HS.out (by rfl) (fun W hW => by obtain ⟨z0, z1, z2, z3, z4, z5, z6, z7, z8, z9⟩ := hW; go_simp) ?_
      simp only [Act.put, List.setIfInBounds_toArray, List.set_cons_zero, List.set_cons_succ]
      refine wpL_take 14 87 (.pointer (some ⟨gg, i * 4, none⟩)) [15, 16] rfl rfl (by kernel_rfl) (by decide) (by kernel_rfl) (by kernel_rfl) (by kernel_rfl) (fun _ _ _ h => h) HS.out (by rfl) (fun W hW => by obtain ⟨z0, z1, z2, z3, z4, z5, z6, z7, z8, z9⟩ := hW; go_simp) ?_
      simp only [Act.put, List.setIfInBounds_toArray, List.set_cons_zero, List.set_cons_succ]
      refine wpL_take 15 88 (.agg #[i64 cn, i64 ca, i64 cb, i64 cc]) [16] rfl rfl (by kernel_rfl) (by decide) (by kernel_rfl) (by kernel_rfl) (by kernel_rfl) (fun _ _ _ h => h) HS.out (by rfl) (fun W hW => by obtain ⟨z0, z1, z2, z3, z4, z5, z6, z7, z8, z9⟩ := hW; go_simp) ?_
      simp only [Act.put, List.setIfInBounds_toArray, List.set_cons_zero, List.set_cons_succ]
      refine wpL_take 16 89 (.bool false) [] rfl rfl (by kernel_rfl) (by decide) (by kernel_rfl) (by kernel_rfl) (by kernel_rfl) (fun _ _ _ h => h) HS.out (by rfl) (fun W hW => by have z0 := eq49 ca cb cc W; go_simp) ?_
      simp only [Act.put, List.setIfInBounds_toArray, List.set_cons_zero, List.set_cons_succ]
      refine wpL_one 17 rfl (by kernel_rfl) (by rfl) (fun K hK => ?_)
      go_simp
      refine hK.out _ _ (fun h => absurd rfl h) ?_
      clear hK K
      refine wpL_done (by kernel_rfl) ?_
      refine NoPanic.normal ?_
      go_wp2_with fail
      exact ⟨⟨i + 1, nn + 1, by have := HLT.out; omega, by go_num, rfl⟩, by have := HLT.out; simp [intOf]; omega⟩
    · have hEI : (i : Int) = s1.K.length := by omega
      by_cases h0 : h1 = 0
      · have e4 : hwP h1 = 4 := by rw [h0]; rfl
        rw [e4] at p0
        have hup := HUP.out
        have hupI : (j1 : Int) ≤ j2 := by omega
        have p0' : V.cell? ⟨p, 0, none⟩ = some (i64 4) := p0
        have HTV : Hid (Tab (V.drewN nn)) := (HTB.out.below HBW.out).drewN nn
        have HBD : Hid (Below w.heap.size w (V.drewN nn)) := HBW.out.trans ((below_drewN V nn).mono HBW.out.size)
        clear p0 e4 hup
        go_wp2_with (go_at_call 8; refine (HC.out _ HTV.out).mono ?_; rintro e v6 ⟨rfl, r2⟩; have HB6 : Hid (Below w.heap.size w v6) := HBD.out.trans (r2.mono HBD.out.size); clear r2)
        go_ret
        exact ⟨rfl, by rw [← hb] at *; exact HB6.out⟩
      · have e4 : hwP h1 = h1 := by unfold hwP; rw [if_neg h0]
        obtain ⟨rfl, rfl, rfl⟩ : h2 = h1 ∧ j2 = j1 ∧ s2 = s1 := by have := HST.out h0; simpa using this
        have h3 := HH.out
        have h4 : (h2 : Int) ≠ 4 := by omega
        rw [e4] at p0 q0
        have HTV : Hid (Tab (V.drewN nn)) := (HTB.out.below HBW.out).drewN nn
        have HBD : Hid (Below w.heap.size w (V.drewN nn)) := HBW.out.trans ((below_drewN V nn).mono HBW.out.size)
        have heq : ∀ W, (binOp .eql 30 (cpV s2.C) (cpV s2.C)).run Tryd.prog W = .ok (.bool true) W := fun W => by have := eql25 HC1.out.len HC1.out.len W; rw [this, decide_eq_true rfl]
        have hpr : (V.drewN nn).rangeAt p 2 (cpC s2.C) := by have := HPR.out; simpa [World.rangeAt] using this
        have HPR' := hid hpr
        have hqr : (V.drewN nn).rangeAt q 2 (cpC s2.C) := by have := HQR.out; simpa [World.rangeAt] using this
        have HQR' := hid hqr
        clear hpr hqr
        clear e4 h3 h0
        go_wp2_with (first
          | (refine wpListG_load (by rfl) 30 (.tmp 116) rfl p 2 rfl (cpC s2.C) _ (by exact HPR'.out) Tryd.underlying30 rfl (cpC_info HC1.out) ?_)
          | (refine wpListG_load (by rfl) 30 (.tmp 118) rfl q 2 rfl (cpC s2.C) _ (by exact HQR'.out) Tryd.underlying30 rfl (cpC_info HC1.out) ?_)
          | (go_at_call 8; refine (HC.out _ HTV.out).mono ?_; rintro e v6 ⟨rfl, r2⟩; have HB6 : Hid (Below w.heap.size w v6) := HBD.out.trans (r2.mono HBD.out.size); clear r2))
        go_ret
        exact ⟨rfl, by rw [← hb] at *; exact HB6.out⟩
end Go.Proofs.YtigbfdloodfdgaaDoor
