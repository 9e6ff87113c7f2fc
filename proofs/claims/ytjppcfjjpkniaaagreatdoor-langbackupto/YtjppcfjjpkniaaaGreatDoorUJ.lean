/- Texts Pv Px Pw Pe Pp Ct Ea in one; no statement is proved in this text. -/
import Derived.Test.YtjppcfjjpkniaaaGreatDoorUG
import Derived.Test.YtjppcfjjpkniaaaGreatDoorUI
namespace Go.Proofs.YtjppcfjjpkniaaaGreatDoor
open Go.ChangeShapes Go.WideShapes Go.ChangeAt Go.RowKit Go.Deep
attribute [local go_sem ↓] Go.wp_at_zero Go.wp_at_succ
set_option maxRecDepth 100000

theorem ibne2 {a b : Int} (h : a ≠ b) : (a != b) = true := by simp [h]
theorem join_ok (l : List Bs) (sep : ByteArray) (w : World) (S : Nat → Prop) (v : Value) (h : Strs w S v l) (hne : l ≠ []) (hn : l.length ≤ 6000000) (hl : (Lib.join l sep.data.toList).length ≤ 140737488355328) : Calls Tryz.prog 52 #[v, .string sep] w fun e w' => e = .returned (str (Lib.join l sep.data.toList)) ∧ Below w.heap.size w w' := by
  obtain ⟨ao, cap, rfl, _, h2, h3⟩ := h
  rcases h3 with h3 | ⟨b, off, rfl, _, hlt, hc⟩
  · exact absurd h3 hne
  · have e : (l.map ba).map (·.data.toList) = l := by rw [List.map_map]; exact (List.map_congr_left (fun x _ => rfl)).trans (List.map_id l)
    have hlen : (l.map ba).length = l.length := by simp
    have := Tryz.strings_Join b off cap (l.map ba) sep w (fun j x hx => by
      rw [List.getElem?_map] at hx
      obtain ⟨y, h4, rfl⟩ := Option.map_eq_some_iff.1 hx
      exact hc j y h4) hlt (by rw [hlen]; omega) (by rw [hlen]; exact h2.1) (by rw [e]; exact hl)
    rw [e, hlen] at this
    exact this
def lineF (op : Nat) (num : Int) (nm ds : Bs) (names : List Bs) (t : Ty) : Bs := Lib.join (toldF op num nm ds names t) [32]
theorem par_cnt {b : Bs} {t : Ty} (h : parseF b = some t) : t.count ≤ 100 := by
  have := parT_cnt b
  unfold parT at this
  rw [h] at this
  exact this
theorem readS_cnt {ws : List Bs} {s : Sm} (h : readS ws = some s) : s.ty.count ≤ 100 := by
  unfold readS at h
  split at h
  · cases h
  · split at h
    · cases h
    · unfold readR at h
      split at h
      · split at h
        · split at h
          · cases h; exact (by decide : ty0.count ≤ 100)
          · cases h
        · cases h
      · split at h
        · split at h
          · split at h
            · split at h
              · cases h
                have hp := ‹parseF _ = some _›
                exact par_cnt hp
              · cases h
            · cases h
          · cases h
        · split at h
          · split at h
            · split at h
              · split at h
                · cases h; exact (by decide : ty0.count ≤ 100)
                · cases h
              · cases h
            · cases h
          · split at h
            · split at h
              · cases h; exact (by decide : ty0.count ≤ 100)
              · cases h
            · cases h
/-- Is a statement's line such that it tells it? -/
def lnM (rd : Option Sm) (op : Nat) (num : Int) (nm ds : Bs) (names : List Bs) (t : Ty) : Bool := match rd with
  | none => false
  | some (.mk o n m d l y _) => slB o (op : Int) m nm d ds n num l names y t
def lnB (op : Nat) (num : Int) (nm ds : Bs) (names : List Bs) (t : Ty) : Bool := lnM (readS (wordsF (lineT (lineF op num nm ds names t)))) op num nm ds names t
theorem toldF_ne (op : Nat) (num : Int) (nm ds : Bs) (names : List Bs) (t : Ty) : toldF op num nm ds names t ≠ [] := by simp [toldF]
theorem toldF_len (op : Nat) (num : Int) (nm ds : Bs) (names : List Bs) (t : Ty) : (toldF op num nm ds names t).length ≤ 4 + names.length := by
  unfold toldF
  split
  · simp; omega
  · split
    · simp; omega
    · split
      · simp; omega
      · simp; omega
set_option maxHeartbeats 12800000 in
/-- A statement that has no line, for its op or its body. -/
theorem lineOf_bad (op num : Int) (nm ds : Bs) (_names : List Bs) (t : Ty) (nv tn tk : Value) (a4 : Option Addr) (bl c4 : Nat) (w : World) (hbad : op < 1 ∨ 9 < op ∨ (op ≠ 5 ∧ 0 < bl)) :
    Calls Tryz.prog 37 #[stV (i64 op) (str nm) (str ds) nv (i64 t.kind) (i64 t.num) tn tk (i64 num) (.slice a4 bl c4)] w fun e w' => e = .returned (.tuple #[str [], .bool false]) ∧ Below w.heap.size w w' := by
  have HZ1 : Hid ((w.alloc (sbO (i64 op) (str nm) (str ds) nv (i64 t.kind) (i64 t.num) tn tk (i64 num) (.slice a4 bl c4))).heap[w.heap.size]? = some (sbO (i64 op) (str nm) (str ds) nv (i64 t.kind) (i64 t.num) tn tk (i64 num) (.slice a4 bl c4))) := heap_last w _
  have HB : Hid (Below w.heap.size w (w.alloc (sbO (i64 op) (str nm) (str ds) nv (i64 t.kind) (i64 t.num) tn tk (i64 num) (.slice a4 bl c4)))) := below_one w _
  go_enter Tryz.func37, Tryz.ntmps37
  go_upto_region 1 with fail
  obtain ⟨Z, hZ⟩ : ∃ Z, Z = w.heap.size := ⟨_, rfl⟩
  rw [← hZ] at HZ1 ⊢
  clear hZ
  generalize w.alloc (sbO (i64 op) (str nm) (str ds) nv (i64 t.kind) (i64 t.num) tn tk (i64 num) (.slice a4 bl c4)) = V at *
  have p0 := blk_cell HZ1.out 0
  have p9 := blk_cell HZ1.out 9
  by_cases h1 : op < 1
  · clear hbad
    go_wp2_with fail
    go_ret2
    exact ⟨rfl, HB.out⟩
  · by_cases h2 : (9 : Int) < op
    · clear hbad
      go_wp2_with fail
      go_ret2
      exact ⟨rfl, HB.out⟩
    · have h3 : op ≠ 5 ∧ 0 < bl := by omega
      have e3 := ibne h3.1
      have e5 : (op != 5) = true := by simpa using h3.1
      have e6 : decide (0 < bl) = true := by simpa using h3.2
      have e4 : (0 : Int) < (bl : Int) := by omega
      clear hbad h3
      go_wp2_with fail
      go_ret2
      exact ⟨rfl, HB.out⟩
end Go.Proofs.YtjppcfjjpkniaaaGreatDoor
namespace Go.Proofs.YtjppcfjjpkniaaaGreatDoor
open Go.ChangeShapes Go.WideShapes Go.ChangeAt Go.RowKit Go.Deep
attribute [local go_sem ↓] Go.wp_at_zero Go.wp_at_succ
set_option maxRecDepth 100000

set_option maxHeartbeats 12800000 in
theorem lineOf_ok (op : Nat) (num : Int) (nm ds : Bs) (names : List Bs) (t : Ty) (nv tn tk : Value) (a4 : Option Addr) (bl c4 : Nat) (w : World) (he : Env w) (h1 : 1 ≤ op) (h9 : op ≤ 9) (hb : op = 5 ∨ bl = 0) (hnum : -9223372036854775808 ≤ num ∧ num ≤ 9223372036854775807)
    (hn : Strs w (fun k => k < w.heap.size) nv names) (ht : Rd w (fun k => k < w.heap.size) t tn tk) (hnm : nm.length ≤ maxLen) (hds : ds.length ≤ maxLen) (hpr : (prT t).length ≤ maxLen) (hit : (Lib.itoa num).length ≤ maxLen) (hnl : names.length ≤ 3000000) (hll : (lineF op num nm ds names t).length ≤ 3000000) :
    Calls Tryz.prog 37 #[stV (i64 (op : Int)) (str nm) (str ds) nv (i64 t.kind) (i64 t.num) tn tk (i64 num) (.slice a4 bl c4)] w fun e w' => e = .returned (.tuple #[str (lineF op num nm ds names t), .bool (lnB op num nm ds names t)]) ∧ Below w.heap.size w w' := by
  obtain ⟨a1, c1, rfl⟩ := hn.form
  obtain ⟨⟨a2, n2, c2, rfl⟩, a3, n3, c3, rfl⟩ := ht.form2
  have hb1 : Below w.heap.size w (w.alloc (sbO (i64 op) (str nm) (str ds) (.slice a1 names.length c1) (i64 t.kind) (i64 t.num) (.slice a2 n2 c2) (.slice a3 n3 c3) (i64 num) (.slice a4 bl c4))) := below_one w _
  have HZ1 : Hid ((w.alloc (sbO (i64 op) (str nm) (str ds) (.slice a1 names.length c1) (i64 t.kind) (i64 t.num) (.slice a2 n2 c2) (.slice a3 n3 c3) (i64 num) (.slice a4 bl c4))).heap[w.heap.size]? = some (sbO (i64 op) (str nm) (str ds) (.slice a1 names.length c1) (i64 t.kind) (i64 t.num) (.slice a2 n2 c2) (.slice a3 n3 c3) (i64 num) (.slice a4 bl c4))) := heap_last w _
  have HB := hid hb1
  have hn2 : Strs (w.alloc (sbO (i64 op) (str nm) (str ds) (.slice a1 names.length c1) (i64 t.kind) (i64 t.num) (.slice a2 n2 c2) (.slice a3 n3 c3) (i64 num) (.slice a4 bl c4))) (fun k => k < (w.alloc (sbO (i64 op) (str nm) (str ds) (.slice a1 names.length c1) (i64 t.kind) (i64 t.num) (.slice a2 n2 c2) (.slice a3 n3 c3) (i64 num) (.slice a4 bl c4))).heap.size) (.slice a1 names.length c1) names := hn.move hb1.size fun b hb hlt => ⟨by have := hb1.size; omega, hb1.block b hlt⟩
  have ht2 : Rd (w.alloc (sbO (i64 op) (str nm) (str ds) (.slice a1 names.length c1) (i64 t.kind) (i64 t.num) (.slice a2 n2 c2) (.slice a3 n3 c3) (i64 num) (.slice a4 bl c4))) (fun k => k < (w.alloc (sbO (i64 op) (str nm) (str ds) (.slice a1 names.length c1) (i64 t.kind) (i64 t.num) (.slice a2 n2 c2) (.slice a3 n3 c3) (i64 num) (.slice a4 bl c4))).heap.size) t (.slice a2 n2 c2) (.slice a3 n3 c3) := ht.move hb1.size fun b hb hlt => ⟨by have := hb1.size; omega, hb1.block b hlt⟩
  have HTL := hid (told_ok op num nm ds t names _ _ _ a4 bl c4 (w.alloc (sbO (i64 op) (str nm) (str ds) (.slice a1 names.length c1) (i64 t.kind) (i64 t.num) (.slice a2 n2 c2) (.slice a3 n3 c3) (i64 num) (.slice a4 bl c4))) (he.below hb1) h1 h9 hnum hn2 ht2 hnm hds hpr hit hnl)
  have HN := hid hn2
  have HT := hid ht2
  have HE := hid (he.below hb1)
  have HLE := hid hll
  have HNE := hid (toldF_ne op num nm ds names t)
  have HTN : Hid ((toldF op num nm ds names t).length ≤ 6000000) := by show _ ≤ _; have := toldF_len op num nm ds names t; omega
  obtain ⟨RB, hRB⟩ : ∃ RB, RB = lnB op num nm ds names t := ⟨_, rfl⟩
  have HRB := hid hRB
  obtain ⟨LN, hLN⟩ : ∃ LN, LN = lineF op num nm ds names t := ⟨_, rfl⟩
  have HLN : Hid (LN = Lib.join (toldF op num nm ds names t) [32]) := hLN
  have HRB2 : Hid (RB = lnM (readS (wordsF (lineT LN))) op num nm ds names t) := by show _ = _; rw [HRB.out, hLN]; rfl
  have HRC : Hid (∀ s, readS (wordsF (lineT LN)) = some s → s.ty.count ≤ 100) := fun s h => readS_cnt h
  rw [← hRB, ← hLN]
  rw [← hLN] at HLE
  have hoI : (1 : Int) ≤ (op : Int) := by omega
  have hoJ : (op : Int) ≤ 9 := by omega
  clear hRB hLN HRB he hn ht hn2 ht2 hb1 hnm hds hpr hit hnl hll hnum
  generalize toldF op num nm ds names t = tl at *
  go_enter Tryz.func37, Tryz.ntmps37
  go_upto_region 1 with fail
  obtain ⟨Z, hZ⟩ : ∃ Z, Z = w.heap.size := ⟨_, rfl⟩
  rw [← hZ] at HZ1 ⊢
  clear hZ
  generalize w.alloc (sbO (i64 op) (str nm) (str ds) (.slice a1 names.length c1) (i64 t.kind) (i64 t.num) (.slice a2 n2 c2) (.slice a3 n3 c3) (i64 num) (.slice a4 bl c4)) = V at *
  obtain ⟨p0, p1, p2, p3, p4, p5, p6, p7, p8, p9, _, _, _, _, _, _, _, _, _, _⟩ := sfs HZ1.out
  have key : op = 5 ∨ (((op : Int) != 5) = true ∧ bl = 0) := by
    rcases hb with h | h
    · exact Or.inl h
    · by_cases h5 : op = 5
      · exact Or.inl h5
      · exact Or.inr ⟨ibne2 (by omega), h⟩
  clear hb
  rcases key with rfl | ⟨h5, rfl⟩
  · go_wp2_with fail
    refine HTL.out.mono ?_
    rintro e w1 ⟨⟨a7, c7, rfl, hst⟩, hb1⟩
    have HB1 : Hid (Below w.heap.size w w1) := HB.out.trans (hb1.mono HB.out.size)
    have HE1 : Hid (Env w1) := HE.out.below hb1
    have HZ2 := hid (blk_below HZ1.out hb1)
    have HN2 := hid (HN.out.below hb1)
    have HT2 := hid (HT.out.under hb1)
    have HV2 : Hid (V.heap.size ≤ w1.heap.size) := hb1.size
    have HJ : Hid (Calls Tryz.prog 52 #[.slice a7 tl.length c7, .string ⟨#[32]⟩] w1 fun e w' => e = .returned (str LN) ∧ Below w1.heap.size w1 w') := by
      show Calls _ _ _ _ _
      rw [HLN.out]
      exact join_ok tl ⟨#[32]⟩ w1 _ _ hst HNE.out HTN.out (by have h1 := HLN.out; have h2 := HLE.out; rw [h1] at h2; show (Lib.join tl [32]).length ≤ _; omega)
    clear hst hb1 HTL HN HT HE HB HZ1 p0 p1 p2 p3 p4 p5 p6 p7 p8 p9
    go_wp2_with fail
    refine HJ.out.mono ?_
    rintro e w2 ⟨rfl, hb2⟩
    have HB2 : Hid (Below w.heap.size w w2) := HB1.out.trans (hb2.mono HB1.out.size)
    have HE2 : Hid (Env w2) := HE1.out.below hb2
    have HZ3 := hid (blk_below HZ2.out hb2)
    have HN3 := hid (HN2.out.below hb2)
    have HT3 := hid (HT2.out.under hb2)
    have HV3 : Hid (V.heap.size ≤ w2.heap.size) := by show _ ≤ _; have := HV2.out; have := hb2.size; omega
    have HSP := hid (split_ok LN w2 HE2.out (by have := HLE.out; omega))
    clear hb2 HJ HB1 HE1 HZ2 HN2 HT2
    go_wp2_with fail
    refine HSP.out.mono ?_
    rintro e w3 ⟨rfl, hb3⟩
    have hb4 := hb3.trans ((below_one w3 (wdO (lineT LN))).mono hb3.size)
    have HB4 : Hid (Below w.heap.size w (w3.alloc (wdO (lineT LN)))) := HB2.out.trans (hb4.mono HB2.out.size)
    have HE4 : Hid (Env (w3.alloc (wdO (lineT LN)))) := HE2.out.below hb4
    have HZ4 := hid (blk_below HZ3.out hb4)
    have HN4 := hid (HN3.out.below hb4)
    have HT4 := hid (HT3.out.under hb4)
    have HY4 : Hid ((w3.alloc (wdO (lineT LN))).heap[w3.heap.size]? = some (wdO (lineT LN))) := heap_last w3 _
    have HLX : Hid (w.heap.size ≤ w3.heap.size ∧ w3.heap.size ≤ w3.heap.size) := ⟨by have := HB2.out.size; have := hb3.size; omega, Nat.le_refl _⟩
    have hG4 : Gl w3.heap.size (w3.alloc (wdO (lineT LN))) := (Gl.max (HE2.out.below hb3)).under (below_one w3 _)
    have HRD := hid (lread_ok (lineT LN) _ hG4 (Nat.le_refl _) HY4.out (by have := lineT_len LN; have := HLE.out; omega))
    have HVY : Hid (V.heap.size ≤ w3.heap.size) := by show _ ≤ _; have := HV3.out; have := hb3.size; omega
    have hzY : Hid (Z < w3.heap.size) := by show _ < _; have := blk_lt HZ3.out; have := hb3.size; omega
    clear hb3 hb4 hG4 HSP HB2 HE2 HZ3 HN3 HT3
    go_upto_region 5 with fail
    obtain ⟨Y, hY⟩ : ∃ Y, Y = w3.heap.size := ⟨_, rfl⟩
    rw [← hY] at HRD HLX hzY HVY ⊢
    clear hY HY4
    generalize w3.alloc (wdO (lineT LN)) = w4 at *
    generalize readS (wordsF (lineT LN)) = rd at *
    go_wp2_with fail
    refine HRD.out.mono ?_
    cases rd with
    | none =>
      have HF : Hid (RB = false) := HRB2.out
      rintro e w5 ⟨⟨o', nm', ds', b1, m1, d1, k', n', b2, m2, d2, b3, m3, d3, N', rfl⟩, ht5, _⟩
      have HB5 : Hid (Below w.heap.size w w5) := HB4.out.trans (ht5.below HLX.out.1 HB4.out.size)
      have HB6 : Hid (Below w.heap.size w (w5.alloc (sbO (i64 o') (str nm') (str ds') (.slice b1 m1 d1) (i64 k') (i64 n') (.slice b2 m2 d2) (.slice b3 m3 d3) (i64 N') nilS))) := HB5.out.trans ((below_one w5 _).mono HB5.out.size)
      clear ht5 HRD HRB2
      go_simp
      go_upto_region 6 with fail
      generalize w5.alloc (sbO (i64 o') (str nm') (str ds') (.slice b1 m1 d1) (i64 k') (i64 n') (.slice b2 m2 d2) (.slice b3 m3 d3) (i64 N') nilS) = w6 at *
      go_wp2_with fail
      go_ret2
      exact ⟨by rw [HF.out]; rfl, HB6.out⟩
    | some sm =>
      obtain ⟨o, n, m, d, l, y, body⟩ := sm
      have HF : Hid (RB = slB o 5 m nm d ds n num l names y t) := HRB2.out
      have hyc : y.count ≤ 10000 := Nat.le_trans (HRC.out _ rfl) (by omega)
      rintro e w5 ⟨⟨nv, tn, tk, rfl, hns, hty⟩, ht5, _⟩
      obtain ⟨e1, g1, rfl⟩ := hns.form
      obtain ⟨⟨e2, k2, g2, rfl⟩, e3, k3, g3, rfl⟩ := hty.form2
      have hb6 := below_one w5 (sbO (i64 o) (str m) (str d) (.slice e1 l.length g1) (i64 y.kind) (i64 y.num) (.slice e2 k2 g2) (.slice e3 k3 g3) (i64 n) nilS)
      have HB5 : Hid (Below w.heap.size w w5) := HB4.out.trans (ht5.below HLX.out.1 HB4.out.size)
      have HB6 : Hid (Below w.heap.size w (w5.alloc (sbO (i64 o) (str m) (str d) (.slice e1 l.length g1) (i64 y.kind) (i64 y.num) (.slice e2 k2 g2) (.slice e3 k3 g3) (i64 n) nilS))) := HB5.out.trans (hb6.mono HB5.out.size)
      have HX6 : Hid ((w5.alloc (sbO (i64 o) (str m) (str d) (.slice e1 l.length g1) (i64 y.kind) (i64 y.num) (.slice e2 k2 g2) (.slice e3 k3 g3) (i64 n) nilS)).heap[w5.heap.size]? = some (sbO (i64 o) (str m) (str d) (.slice e1 l.length g1) (i64 y.kind) (i64 y.num) (.slice e2 k2 g2) (.slice e3 k3 g3) (i64 n) nilS)) := heap_last w5 _
      have HZ6 : Hid ((w5.alloc (sbO (i64 o) (str m) (str d) (.slice e1 l.length g1) (i64 y.kind) (i64 y.num) (.slice e2 k2 g2) (.slice e3 k3 g3) (i64 n) nilS)).heap[Z]? = some (sbO (i64 5) (str nm) (str ds) (.slice a1 names.length c1) (i64 t.kind) (i64 t.num) (.slice a2 n2 c2) (.slice a3 n3 c3) (i64 num) (.slice a4 bl c4))) := by
        show _ = _
        have h1 := ht5.block Z (blk_lt HZ4.out) (by have := hzY.out; omega)
        exact blk_below (h1.trans HZ4.out) hb6
      have hmv : ∀ b, b < V.heap.size → b < w4.heap.size → True ∧ (w5.alloc (sbO (i64 o) (str m) (str d) (.slice e1 l.length g1) (i64 y.kind) (i64 y.num) (.slice e2 k2 g2) (.slice e3 k3 g3) (i64 n) nilS)).heap[b]? = w4.heap[b]? := fun b h1 h2 => ⟨trivial, (hb6.block b (by have := ht5.size; omega)).trans (ht5.block b h2 (by have := HVY.out; omega))⟩
      have hz6 : w4.heap.size ≤ (w5.alloc (sbO (i64 o) (str m) (str d) (.slice e1 l.length g1) (i64 y.kind) (i64 y.num) (.slice e2 k2 g2) (.slice e3 k3 g3) (i64 n) nilS)).heap.size := Nat.le_trans ht5.size hb6.size
      have HSL := hid (sline_ok o 5 m nm d ds n num l names y t (w5.alloc (sbO (i64 o) (str m) (str d) (.slice e1 l.length g1) (i64 y.kind) (i64 y.num) (.slice e2 k2 g2) (.slice e3 k3 g3) (i64 n) nilS)) ((hns.below hb6).mono fun _ _ _ => trivial) (HN4.out.move hz6 hmv) ((hty.under hb6).mono fun _ _ _ => trivial) (HT4.out.move hz6 hmv) hyc none 0 0 a4 bl c4)
      clear ht5 hb6 hmv hz6 hns hty HRD HRB2 HRC hyc
      go_simp
      go_upto_region 6 with fail
      obtain ⟨X, hX⟩ : ∃ X, X = w5.heap.size := ⟨_, rfl⟩
      rw [← hX] at HX6 ⊢
      clear hX
      generalize w5.alloc (sbO (i64 o) (str m) (str d) (.slice e1 l.length g1) (i64 y.kind) (i64 y.num) (.slice e2 k2 g2) (.slice e3 k3 g3) (i64 n) nilS) = w6 at *
      obtain ⟨p0, p1, p2, p3, p4, p5, p6, p7, p8, p9, _, _, _, _, _, _, _, _, _, _⟩ := sfs HZ6.out
      obtain ⟨q0, q1, q2, q3, q4, q5, q6, q7, q8, q9, _, _, _, _, _, _, _, _, _, _⟩ := sfs HX6.out
      go_wp2_with fail
      refine HSL.out.mono ?_
      rintro e w7 ⟨rfl, hb7⟩
      have HB7 : Hid (Below w.heap.size w w7) := HB6.out.trans (hb7.mono HB6.out.size)
      clear hb7 HSL
      go_simp
      go_wp2_with fail
      go_ret2
      exact ⟨by rw [HF.out]; rfl, HB7.out⟩
  · go_wp2_with fail
    refine HTL.out.mono ?_
    rintro e w1 ⟨⟨a7, c7, rfl, hst⟩, hb1⟩
    have HB1 : Hid (Below w.heap.size w w1) := HB.out.trans (hb1.mono HB.out.size)
    have HE1 : Hid (Env w1) := HE.out.below hb1
    have HZ2 := hid (blk_below HZ1.out hb1)
    have HN2 := hid (HN.out.below hb1)
    have HT2 := hid (HT.out.under hb1)
    have HV2 : Hid (V.heap.size ≤ w1.heap.size) := hb1.size
    have HJ : Hid (Calls Tryz.prog 52 #[.slice a7 tl.length c7, .string ⟨#[32]⟩] w1 fun e w' => e = .returned (str LN) ∧ Below w1.heap.size w1 w') := by
      show Calls _ _ _ _ _
      rw [HLN.out]
      exact join_ok tl ⟨#[32]⟩ w1 _ _ hst HNE.out HTN.out (by have h1 := HLN.out; have h2 := HLE.out; rw [h1] at h2; show (Lib.join tl [32]).length ≤ _; omega)
    clear hst hb1 HTL HN HT HE HB HZ1 p0 p1 p2 p3 p4 p5 p6 p7 p8 p9
    go_wp2_with fail
    refine HJ.out.mono ?_
    rintro e w2 ⟨rfl, hb2⟩
    have HB2 : Hid (Below w.heap.size w w2) := HB1.out.trans (hb2.mono HB1.out.size)
    have HE2 : Hid (Env w2) := HE1.out.below hb2
    have HZ3 := hid (blk_below HZ2.out hb2)
    have HN3 := hid (HN2.out.below hb2)
    have HT3 := hid (HT2.out.under hb2)
    have HV3 : Hid (V.heap.size ≤ w2.heap.size) := by show _ ≤ _; have := HV2.out; have := hb2.size; omega
    have HSP := hid (split_ok LN w2 HE2.out (by have := HLE.out; omega))
    clear hb2 HJ HB1 HE1 HZ2 HN2 HT2
    go_wp2_with fail
    refine HSP.out.mono ?_
    rintro e w3 ⟨rfl, hb3⟩
    have hb4 := hb3.trans ((below_one w3 (wdO (lineT LN))).mono hb3.size)
    have HB4 : Hid (Below w.heap.size w (w3.alloc (wdO (lineT LN)))) := HB2.out.trans (hb4.mono HB2.out.size)
    have HE4 : Hid (Env (w3.alloc (wdO (lineT LN)))) := HE2.out.below hb4
    have HZ4 := hid (blk_below HZ3.out hb4)
    have HN4 := hid (HN3.out.below hb4)
    have HT4 := hid (HT3.out.under hb4)
    have HY4 : Hid ((w3.alloc (wdO (lineT LN))).heap[w3.heap.size]? = some (wdO (lineT LN))) := heap_last w3 _
    have HLX : Hid (w.heap.size ≤ w3.heap.size ∧ w3.heap.size ≤ w3.heap.size) := ⟨by have := HB2.out.size; have := hb3.size; omega, Nat.le_refl _⟩
    have hG4 : Gl w3.heap.size (w3.alloc (wdO (lineT LN))) := (Gl.max (HE2.out.below hb3)).under (below_one w3 _)
    have HRD := hid (lread_ok (lineT LN) _ hG4 (Nat.le_refl _) HY4.out (by have := lineT_len LN; have := HLE.out; omega))
    have HVY : Hid (V.heap.size ≤ w3.heap.size) := by show _ ≤ _; have := HV3.out; have := hb3.size; omega
    have hzY : Hid (Z < w3.heap.size) := by show _ < _; have := blk_lt HZ3.out; have := hb3.size; omega
    clear hb3 hb4 hG4 HSP HB2 HE2 HZ3 HN3 HT3
    go_upto_region 5 with fail
    obtain ⟨Y, hY⟩ : ∃ Y, Y = w3.heap.size := ⟨_, rfl⟩
    rw [← hY] at HRD HLX hzY HVY ⊢
    clear hY HY4
    generalize w3.alloc (wdO (lineT LN)) = w4 at *
    generalize readS (wordsF (lineT LN)) = rd at *
    go_wp2_with fail
    refine HRD.out.mono ?_
    cases rd with
    | none =>
      have HF : Hid (RB = false) := HRB2.out
      rintro e w5 ⟨⟨o', nm', ds', b1, m1, d1, k', n', b2, m2, d2, b3, m3, d3, N', rfl⟩, ht5, _⟩
      have HB5 : Hid (Below w.heap.size w w5) := HB4.out.trans (ht5.below HLX.out.1 HB4.out.size)
      have HB6 : Hid (Below w.heap.size w (w5.alloc (sbO (i64 o') (str nm') (str ds') (.slice b1 m1 d1) (i64 k') (i64 n') (.slice b2 m2 d2) (.slice b3 m3 d3) (i64 N') nilS))) := HB5.out.trans ((below_one w5 _).mono HB5.out.size)
      clear ht5 HRD HRB2
      go_simp
      go_upto_region 6 with fail
      generalize w5.alloc (sbO (i64 o') (str nm') (str ds') (.slice b1 m1 d1) (i64 k') (i64 n') (.slice b2 m2 d2) (.slice b3 m3 d3) (i64 N') nilS) = w6 at *
      go_wp2_with fail
      go_ret2
      exact ⟨by rw [HF.out]; rfl, HB6.out⟩
    | some sm =>
      obtain ⟨o, n, m, d, l, y, body⟩ := sm
      have HF : Hid (RB = slB o (op : Int) m nm d ds n num l names y t) := HRB2.out
      have hyc : y.count ≤ 10000 := Nat.le_trans (HRC.out _ rfl) (by omega)
      rintro e w5 ⟨⟨nv, tn, tk, rfl, hns, hty⟩, ht5, _⟩
      obtain ⟨e1, g1, rfl⟩ := hns.form
      obtain ⟨⟨e2, k2, g2, rfl⟩, e3, k3, g3, rfl⟩ := hty.form2
      have hb6 := below_one w5 (sbO (i64 o) (str m) (str d) (.slice e1 l.length g1) (i64 y.kind) (i64 y.num) (.slice e2 k2 g2) (.slice e3 k3 g3) (i64 n) nilS)
      have HB5 : Hid (Below w.heap.size w w5) := HB4.out.trans (ht5.below HLX.out.1 HB4.out.size)
      have HB6 : Hid (Below w.heap.size w (w5.alloc (sbO (i64 o) (str m) (str d) (.slice e1 l.length g1) (i64 y.kind) (i64 y.num) (.slice e2 k2 g2) (.slice e3 k3 g3) (i64 n) nilS))) := HB5.out.trans (hb6.mono HB5.out.size)
      have HX6 : Hid ((w5.alloc (sbO (i64 o) (str m) (str d) (.slice e1 l.length g1) (i64 y.kind) (i64 y.num) (.slice e2 k2 g2) (.slice e3 k3 g3) (i64 n) nilS)).heap[w5.heap.size]? = some (sbO (i64 o) (str m) (str d) (.slice e1 l.length g1) (i64 y.kind) (i64 y.num) (.slice e2 k2 g2) (.slice e3 k3 g3) (i64 n) nilS)) := heap_last w5 _
      have HZ6 : Hid ((w5.alloc (sbO (i64 o) (str m) (str d) (.slice e1 l.length g1) (i64 y.kind) (i64 y.num) (.slice e2 k2 g2) (.slice e3 k3 g3) (i64 n) nilS)).heap[Z]? = some (sbO (i64 (op : Int)) (str nm) (str ds) (.slice a1 names.length c1) (i64 t.kind) (i64 t.num) (.slice a2 n2 c2) (.slice a3 n3 c3) (i64 num) (.slice a4 0 c4))) := by
        show _ = _
        have h1 := ht5.block Z (blk_lt HZ4.out) (by have := hzY.out; omega)
        exact blk_below (h1.trans HZ4.out) hb6
      have hmv : ∀ b, b < V.heap.size → b < w4.heap.size → True ∧ (w5.alloc (sbO (i64 o) (str m) (str d) (.slice e1 l.length g1) (i64 y.kind) (i64 y.num) (.slice e2 k2 g2) (.slice e3 k3 g3) (i64 n) nilS)).heap[b]? = w4.heap[b]? := fun b h1 h2 => ⟨trivial, (hb6.block b (by have := ht5.size; omega)).trans (ht5.block b h2 (by have := HVY.out; omega))⟩
      have hz6 : w4.heap.size ≤ (w5.alloc (sbO (i64 o) (str m) (str d) (.slice e1 l.length g1) (i64 y.kind) (i64 y.num) (.slice e2 k2 g2) (.slice e3 k3 g3) (i64 n) nilS)).heap.size := Nat.le_trans ht5.size hb6.size
      have HSL := hid (sline_ok o (op : Int) m nm d ds n num l names y t (w5.alloc (sbO (i64 o) (str m) (str d) (.slice e1 l.length g1) (i64 y.kind) (i64 y.num) (.slice e2 k2 g2) (.slice e3 k3 g3) (i64 n) nilS)) ((hns.below hb6).mono fun _ _ _ => trivial) (HN4.out.move hz6 hmv) ((hty.under hb6).mono fun _ _ _ => trivial) (HT4.out.move hz6 hmv) hyc none 0 0 a4 0 c4)
      clear ht5 hb6 hmv hz6 hns hty HRD HRB2 HRC hyc
      go_simp
      go_upto_region 6 with fail
      obtain ⟨X, hX⟩ : ∃ X, X = w5.heap.size := ⟨_, rfl⟩
      rw [← hX] at HX6 ⊢
      clear hX
      generalize w5.alloc (sbO (i64 o) (str m) (str d) (.slice e1 l.length g1) (i64 y.kind) (i64 y.num) (.slice e2 k2 g2) (.slice e3 k3 g3) (i64 n) nilS) = w6 at *
      obtain ⟨p0, p1, p2, p3, p4, p5, p6, p7, p8, p9, _, _, _, _, _, _, _, _, _, _⟩ := sfs HZ6.out
      obtain ⟨q0, q1, q2, q3, q4, q5, q6, q7, q8, q9, _, _, _, _, _, _, _, _, _, _⟩ := sfs HX6.out
      go_wp2_with fail
      refine HSL.out.mono ?_
      rintro e w7 ⟨rfl, hb7⟩
      have HB7 : Hid (Below w.heap.size w w7) := HB6.out.trans (hb7.mono HB6.out.size)
      clear hb7 HSL
      go_simp
      go_wp2_with fail
      go_ret2
      exact ⟨by rw [HF.out]; rfl, HB7.out⟩
end Go.Proofs.YtjppcfjjpkniaaaGreatDoor
namespace Go.Proofs.YtjppcfjjpkniaaaGreatDoor
open Go.ChangeShapes Go.WideShapes Go.ChangeAt Go.RowKit Go.Deep
attribute [local go_sem ↓] Go.wp_at_zero Go.wp_at_succ
set_option maxRecDepth 100000

theorem bl_below {B b : Nat} {l : Bs} {w w' : World} (h : Bl B b l w) (hb : Below w.heap.size w w') : Bl B b l w' := by
  have key : ∀ p, Lib.BuilderAt 74 5 B b p (Lib.byteCells l) w → Lib.BuilderAt 74 5 B b p (Lib.byteCells l) w' := fun p h => by
    have hlt := h.lt
    obtain ⟨h0, v, h1, h2, h3⟩ := h
    exact ⟨h0, v, blk_below h1 hb, own_keep1 h2 fun k hk => hb.block k (h2.lt k hk).2, h3⟩
  rcases h with h | h
  · exact .inl (key _ h)
  · exact .inr (key _ h)
theorem bl_lo {B b : Nat} {l : Bs} {w : World} (h : Bl B b l w) : B ≤ b ∧ b < w.heap.size := by
  rcases h with h | h
  · exact ⟨h.1, h.lt⟩
  · exact ⟨h.1, h.lt⟩
theorem two_boxes (w : World) (o p : Obj) : ((w.alloc o).alloc p).heap[w.heap.size]? = some o ∧ ((w.alloc o).alloc p).heap[w.heap.size + 1]? = some p ∧ Below w.heap.size w ((w.alloc o).alloc p) := by
  have e : (w.alloc o).heap.size = w.heap.size + 1 := by simp
  have h2 := heap_last (w.alloc o) p
  rw [e] at h2
  exact ⟨blk_alloc (heap_last w o) p, h2, (below_one w o).trans ((below_one (w.alloc o) p).mono (by omega))⟩
set_option maxHeartbeats 1600000 in

/-- Does a statement have a line? -/
def okS (op num : Int) (nm ds : Bs) (names : List Bs) (t : Ty) (bl : Nat) : Bool := if op < 1 ∨ 9 < op ∨ (op ≠ 5 ∧ 0 < bl) then false else lnB op.toNat num nm ds names t
mutual
def wrB : Sm → Bool
  | .mk op num nm ds names t body => okS op num nm ds names t body.length && (if op = 5 then wrBL body else true)
def wrBL : List Sm → Bool
  | [] => true
  | s :: r => wrB s && wrBL r
end
mutual
def wrT : Sm → Bs → Bs
  | .mk op num nm ds names t body, ah => (ah ++ lineF op.toNat num nm ds names t ++ [10]) ++ (if op = 5 then wrTL body (ah ++ [32, 32]) ++ (ah ++ [101, 110, 100] ++ [10]) else [])
def wrTL : List Sm → Bs → Bs
  | [], _ => []
  | s :: r, ah => wrT s ah ++ wrTL r ah
end
/-- Numbers and texts of usual size. -/
def fineM (op num : Int) (nm ds : Bs) (names : List Bs) (t : Ty) : Prop := (-9223372036854775808 ≤ num ∧ num ≤ 9223372036854775807) ∧ nm.length ≤ 3000000 ∧ ds.length ≤ 3000000 ∧ (prT t).length ≤ 3000000 ∧ (Lib.itoa num).length ≤ 3000000 ∧ names.length ≤ 3000000 ∧ (lineF op.toNat num nm ds names t).length ≤ 3000000
mutual
def fineS : Sm → Prop
  | .mk op num nm ds names t body => fineM op num nm ds names t ∧ fineL body
def fineL : List Sm → Prop
  | [] => True
  | s :: r => fineS s ∧ fineL r
end
theorem fineL_at : ∀ (l : List Sm) (i : Nat) (h : i < l.length), fineL l → fineS l[i]
  | s :: r, 0, _, h => h.1
  | s :: r, i + 1, h, hf => fineL_at r i (by simpa using h) hf.2
theorem wrTL_app (ah : Bs) : ∀ a b : List Sm, wrTL (a ++ b) ah = wrTL a ah ++ wrTL b ah
  | [], b => by simp [wrTL]
  | s :: a, b => by simp [wrTL, wrTL_app ah a b]
theorem wrBL_app : ∀ a b : List Sm, wrBL (a ++ b) = (wrBL a && wrBL b)
  | [], b => by simp [wrBL]
  | s :: a, b => by simp [wrBL, wrBL_app a b, Bool.and_assoc]
theorem take_snoc1 {α : Type} (l : List α) (i : Nat) (h : i < l.length) : l.take (i + 1) = l.take i ++ [l[i]] := by simp
theorem wrTL_take (ah : Bs) (l : List Sm) (i : Nat) : (wrTL (l.take i) ah).length ≤ (wrTL l ah).length := by
  have h := List.take_append_drop i l
  have : wrTL l ah = wrTL (l.take i) ah ++ wrTL (l.drop i) ah := by rw [← wrTL_app, h]
  rw [this, List.length_append]; omega
theorem cntL_at : ∀ (l : List Sm) (i : Nat) (h : i < l.length), (l[i]).count ≤ cntL l
  | s :: r, 0, _ => by simp only [List.getElem_cons_zero, cntL]; omega
  | s :: r, i + 1, h => by
    have := cntL_at r i (by simpa using h)
    simp only [List.getElem_cons_succ, cntL]; omega
theorem wrBL_no (l : List Sm) (i : Nat) (h : i < l.length) (hb : wrB l[i] = false) : wrBL l = false := by
  have e : l = l.take i ++ (l[i] :: l.drop (i + 1)) := by rw [← List.drop_eq_getElem_cons h, List.take_append_drop]
  rw [e, wrBL_app, wrBL, hb]
  simp
theorem lineOf_any (op num : Int) (nm ds : Bs) (names : List Bs) (t : Ty) (nv tn tk : Value) (a4 : Option Addr) (bl c4 : Nat) (w : World) (he : Env w) (hf : fineM op num nm ds names t)
    (hn : Strs w (fun k => k < w.heap.size) nv names) (ht : Rd w (fun k => k < w.heap.size) t tn tk) :
    Calls Tryz.prog 37 #[stV (i64 op) (str nm) (str ds) nv (i64 t.kind) (i64 t.num) tn tk (i64 num) (.slice a4 bl c4)] w fun e w' => (∃ x, e = .returned (.tuple #[str x, .bool (okS op num nm ds names t bl)]) ∧ (okS op num nm ds names t bl = true → x = lineF op.toNat num nm ds names t)) ∧ Below w.heap.size w w' := by
  obtain ⟨f1, f2, f3, f4, f5, f6, f7⟩ := hf
  unfold okS
  by_cases hbad : op < 1 ∨ 9 < op ∨ (op ≠ 5 ∧ 0 < bl)
  · rw [if_pos hbad]
    refine (lineOf_bad op num nm ds names t nv tn tk a4 bl c4 w hbad).mono ?_
    rintro e w' ⟨rfl, hb⟩
    exact ⟨⟨[], rfl, fun h => by cases h⟩, hb⟩
  · rw [if_neg hbad]
    have e : op = (op.toNat : Int) := by omega
    have := lineOf_ok op.toNat num nm ds names t nv tn tk a4 bl c4 w he (by omega) (by omega) (by omega) f1 hn ht (by unfold maxLen; omega) (by unfold maxLen; omega) (by unfold maxLen; omega) (by unfold maxLen; omega) f6 f7
    rw [← e] at this
    refine this.mono ?_
    rintro e w' ⟨rfl, hb⟩
    exact ⟨⟨_, rfl, fun _ => rfl⟩, hb⟩
theorem ba3 (a b : Bs) (x : UInt8) : (⟨a.toArray⟩ : ByteArray) ++ (⟨b.toArray⟩ : ByteArray) ++ (⟨#[x]⟩ : ByteArray) = ⟨(a ++ b ++ [x]).toArray⟩ := by
  rw [ba_append]; exact ba_append (a ++ b) [x]
theorem ba2 (a : Bs) : (⟨a.toArray⟩ : ByteArray) ++ (⟨#[32, 32]⟩ : ByteArray) = ⟨(a ++ [32, 32]).toArray⟩ := ba_append a [32, 32]
theorem ba4 (a : Bs) : (⟨a.toArray⟩ : ByteArray) ++ (⟨#[101, 110, 100]⟩ : ByteArray) ++ (⟨#[10]⟩ : ByteArray) = ⟨(a ++ [101, 110, 100] ++ [10]).toArray⟩ := by
  rw [show (⟨#[101, 110, 100]⟩ : ByteArray) = ⟨([101, 110, 100] : Bs).toArray⟩ from rfl, ba_append]; exact ba_append (a ++ [101, 110, 100]) [10]
/-- What write answers, and leaves. -/
def WrOk (w : World) (B b : Nat) (t0 : Bs) (l : List Sm) (ah : Bs) (e : Ending) (w' : World) : Prop :=
  e = .returned (.bool (wrBL l)) ∧ (∃ t, Bl B b (t0 ++ t) w' ∧ t.length ≤ (wrTL l ah).length ∧ (wrBL l = true → t = wrTL l ah)) ∧ Fr B [74, 5] w w'
set_option maxHeartbeats 25600000 in
theorem write_in (M : Nat) (ih : ∀ (l : List Sm), cntL l < M → ∀ (w : World) (B b : Nat) (t0 ah : Bs) (bv : Value), Gl B w → Bl B b t0 w → Sds w (fun k => k < B) l bv → fineL l → t0.length + (wrTL l ah).length ≤ 1000000000 → Calls Tryz.prog 26 #[pq b, bv, str ah] w (WrOk w B b t0 l ah))
    (l : List Sm) (hM : cntL l ≤ M) (w : World) (B b : Nat) (t0 ah : Bs) (bv : Value) (hg : Gl B w) (hb : Bl B b t0 w) (hs : Sds w (fun k => k < B) l bv) (hf : fineL l) (hl : t0.length + (wrTL l ah).length ≤ 1000000000) :
    Calls Tryz.prog 26 #[pq b, bv, str ah] w (WrOk w B b t0 l ah) := by
  obtain ⟨av, cv, rfl, hlm, hat⟩ := hs.at
  have HAT := hid hat
  have HG := hid hg
  have HS := hid hs
  have HBl := hid hb
  have HF := hid hf
  have HL := hid hl
  have HIH := hid ih
  have hlm2 : l.length ≤ 9223372036854775807 := by unfold maxLen at hlm; omega
  have HFr : Hid (Fr B [74, 5] w w) := Fr.refl _ _ _
  have HB0 : Hid (Bl B b (t0 ++ wrTL (l.take 0) ah) w) := by show Bl _ _ _ _; rw [List.take_zero, wrTL, List.append_nil]; exact hb
  have HW0 : Hid (wrBL (l.take 0) = true) := by show _ = _; rw [List.take_zero, wrBL]
  clear hat hg hs hb hf hl ih hlm
  go_enter Tryz.func26, Tryz.ntmps26
  go_upto_region 2 with fail
  go_loopw [13] (fun u wr => ∃ (i : Nat), i ≤ l.length ∧ u = i64 i ∧ Hid (Bl B b (t0 ++ wrTL (l.take i) ah) wr) ∧ Hid (wrBL (l.take i) = true) ∧ Hid (Fr B [74, 5] w wr)) (fun u _ => l.length - (intOf u).toNat)
  case atStart => exact ⟨0, Nat.zero_le _, rfl, HB0, HW0, HFr⟩
  case round =>
    obtain ⟨i, hi, rfl, HBr, HWr, HFw⟩ := hrel
    by_cases hlt : i < l.length
    · have hiI : (0 : Int) ≤ (i : Int) := by omega
      obtain ⟨rb, off, v, rfl, hrb, hrlt, hrng, hsd⟩ := HAT.out i hlt
      have hfi := fineL_at l i hlt HF.out
      have hci := cntL_at l i hlt
      have HNO : Hid (wrB l[i] = false → wrBL l = false) := fun h => wrBL_no l i hlt h
      have HTK : Hid (wrTL (l.take (i + 1)) ah = wrTL (l.take i) ah ++ wrT l[i] ah) := by show _ = _; rw [take_snoc1 l i hlt, wrTL_app, wrTL, wrTL, List.append_nil]
      have HBK : Hid (wrB l[i] = true → wrBL (l.take (i + 1)) = true) := fun h => by rw [take_snoc1 l i hlt, wrBL_app, HWr.out, wrBL, wrBL, h]; rfl
      have HLT := hid (wrTL_take ah l (i + 1))
      have HLT0 := hid (wrTL_take ah l i)
      generalize l[i] = sm at *
      obtain ⟨op, num, nm, ds, names, t, body⟩ := sm
      obtain ⟨hfm, hfb⟩ := hfi
      obtain ⟨a1, c1, a2, n2, c2, a3, n3, c3, a4, c4, rfl⟩ := hsd.form
      have hp := hsd.parts
      have hkp := HFw.out.below.block rb hrb
      have hr := range_keep hrng hkp
      have x0 : wr.cell? ⟨rb, off + i * 10, none⟩ = some (i64 op) := hr 0 _ rfl
      have x1 : wr.cell? ⟨rb, off + i * 10 + 1, none⟩ = some (str nm) := hr 1 _ rfl
      have x2 : wr.cell? ⟨rb, off + i * 10 + 2, none⟩ = some (str ds) := hr 2 _ rfl
      have x3 : wr.cell? ⟨rb, off + i * 10 + 3, none⟩ = some (.slice a1 names.length c1) := hr 3 _ rfl
      have x4 : wr.cell? ⟨rb, off + i * 10 + 4, none⟩ = some (i64 t.kind) := hr 4 _ rfl
      have x5 : wr.cell? ⟨rb, off + i * 10 + 5, none⟩ = some (i64 t.num) := hr 5 _ rfl
      have x6 : wr.cell? ⟨rb, off + i * 10 + 6, none⟩ = some (.slice a2 n2 c2) := hr 6 _ rfl
      have x7 : wr.cell? ⟨rb, off + i * 10 + 7, none⟩ = some (.slice a3 n3 c3) := hr 7 _ rfl
      have x8 : wr.cell? ⟨rb, off + i * 10 + 8, none⟩ = some (i64 num) := hr 8 _ rfl
      have x9 : wr.cell? ⟨rb, off + i * 10 + 9, none⟩ = some (.slice a4 body.length c4) := hr 9 _ rfl
      have hB := HG.out.le
      have hz := HFw.out.size
      have hb1 := below_one wr (sbO (i64 op) (str nm) (str ds) (.slice a1 names.length c1) (i64 t.kind) (i64 t.num) (.slice a2 n2 c2) (.slice a3 n3 c3) (i64 num) (.slice a4 body.length c4))
      have HF1 : Hid (Fr B [74, 5] w (wr.alloc (sbO (i64 op) (str nm) (str ds) (.slice a1 names.length c1) (i64 t.kind) (i64 t.num) (.slice a2 n2 c2) (.slice a3 n3 c3) (i64 num) (.slice a4 body.length c4)))) := HFw.out.alloc (by omega) _
      have HG1 : Hid (Gl B (wr.alloc (sbO (i64 op) (str nm) (str ds) (.slice a1 names.length c1) (i64 t.kind) (i64 t.num) (.slice a2 n2 c2) (.slice a3 n3 c3) (i64 num) (.slice a4 body.length c4)))) := HG.out.below HF1.out.below
      have hk1 : ∀ k, k < B → k < w.heap.size → (wr.alloc (sbO (i64 op) (str nm) (str ds) (.slice a1 names.length c1) (i64 t.kind) (i64 t.num) (.slice a2 n2 c2) (.slice a3 n3 c3) (i64 num) (.slice a4 body.length c4))).heap[k]? = w.heap[k]? := fun k h1 h2 => HF1.out.below.block k h1
      have hn1 : Strs (wr.alloc (sbO (i64 op) (str nm) (str ds) (.slice a1 names.length c1) (i64 t.kind) (i64 t.num) (.slice a2 n2 c2) (.slice a3 n3 c3) (i64 num) (.slice a4 body.length c4))) (fun k => k < (wr.alloc (sbO (i64 op) (str nm) (str ds) (.slice a1 names.length c1) (i64 t.kind) (i64 t.num) (.slice a2 n2 c2) (.slice a3 n3 c3) (i64 num) (.slice a4 body.length c4))).heap.size) (.slice a1 names.length c1) names := hp.1.move HF1.out.size fun k h1 h2 => ⟨by have := HF1.out.size; omega, hk1 k h1 h2⟩
      have ht1 : Rd (wr.alloc (sbO (i64 op) (str nm) (str ds) (.slice a1 names.length c1) (i64 t.kind) (i64 t.num) (.slice a2 n2 c2) (.slice a3 n3 c3) (i64 num) (.slice a4 body.length c4))) (fun k => k < (wr.alloc (sbO (i64 op) (str nm) (str ds) (.slice a1 names.length c1) (i64 t.kind) (i64 t.num) (.slice a2 n2 c2) (.slice a3 n3 c3) (i64 num) (.slice a4 body.length c4))).heap.size) t (.slice a2 n2 c2) (.slice a3 n3 c3) := hp.2.1.move HF1.out.size fun k h1 h2 => ⟨by have := HF1.out.size; omega, hk1 k h1 h2⟩
      have HLO := hid (lineOf_any op num nm ds names t _ _ _ a4 body.length c4 _ HG1.out.env hfm hn1 ht1)
      have HSB := hid hp.2.2
      have HFB := hid hfb
      have HZ1 : Hid ((wr.alloc (sbO (i64 op) (str nm) (str ds) (.slice a1 names.length c1) (i64 t.kind) (i64 t.num) (.slice a2 n2 c2) (.slice a3 n3 c3) (i64 num) (.slice a4 body.length c4))).heap[wr.heap.size]? = some (sbO (i64 op) (str nm) (str ds) (.slice a1 names.length c1) (i64 t.kind) (i64 t.num) (.slice a2 n2 c2) (.slice a3 n3 c3) (i64 num) (.slice a4 body.length c4))) := heap_last wr _
      have HBl1 := hid (bl_below HBr.out hb1)
      have HCI : Hid (op = 5 → cntL body < M) := fun _ => by simp only [Sm.count] at hci; omega
      have HBe : Hid (B ≤ wr.heap.size) := by show _ ≤ _; omega
      have HOKf : Hid (okS op num nm ds names t body.length = false → wrBL l = false) := fun h => HNO.out (by simp only [wrB, h]; rfl)
      clear hrng hsd hp hkp hr hb1 hk1 hn1 ht1 hfm hfb hci hB hz hrlt
      go_upto_region 4 with fail
      clear x0 x1 x2 x3 x4 x5 x6 x7 x8 x9
      obtain ⟨Z, hZ⟩ : ∃ Z, Z = wr.heap.size := ⟨_, rfl⟩
      rw [← hZ] at HZ1 HBe ⊢
      clear hZ
      generalize wr.alloc (sbO (i64 op) (str nm) (str ds) (.slice a1 names.length c1) (i64 t.kind) (i64 t.num) (.slice a2 n2 c2) (.slice a3 n3 c3) (i64 num) (.slice a4 body.length c4)) = V1 at *
      obtain ⟨p0, p1, p2, p3, p4, p5, p6, p7, p8, p9, _, _, _, _, _, _, _, _, _, _⟩ := sfs HZ1.out
      go_wp2_with fail
      refine HLO.out.mono ?_
      rintro e w2 ⟨⟨x, rfl, hx⟩, hb2⟩
      have HX := hid hx
      have HF2 : Hid (Fr B [74, 5] w w2) := HF1.out.trans (Fr.of_below _ hb2 (by have := HF1.out.size; have := HG.out.le; omega))
      have HBl2 := hid (bl_below HBl1.out hb2)
      have HZ2 := hid (blk_below HZ1.out hb2)
      have HG2 : Hid (Gl B w2) := HG.out.below HF2.out.below
      clear hx hb2 HLO HF1 HBl1 HZ1 HG1 p0 p1 p2 p3 p4 p5 p6 p7 p8 p9
      cases hok : okS op num nm ds names t body.length with
      | false =>
        have HE : Hid (wrBL l = false) := HOKf.out hok
        clear hok
        go_simp
        go_wp2_with fail
        go_ret
        exact ⟨by rw [HE.out]; rfl, ⟨_, HBl2.out, HLT0.out, fun h => by rw [HE.out] at h; cases h⟩, HF2.out⟩
      | true =>
        have HXe := HX.out hok
        subst HXe
        have HOK := hid hok
        clear hok HOKf HX
        generalize hLF : lineF op.toNat num nm ds names t = LF at *
        have HLF := hid hLF
        clear hLF
        have HT1 : Hid (wrT (.mk op num nm ds names t body) ah = (ah ++ LF ++ [10]) ++ (if op = 5 then wrTL body (ah ++ [32, 32]) ++ (ah ++ [101, 110, 100] ++ [10]) else [])) := by show _ = _; rw [wrT, HLF.out]
        have HLN : Hid ((t0 ++ wrTL (l.take i) ah).length + (wrT (.mk op num nm ds names t body) ah).length ≤ 1000000000) := by
          show _ ≤ _
          have h1 := HLT.out
          rw [HTK.out, List.length_append] at h1
          have := HL.out
          rw [List.length_append]; omega
        have HWS : Hid (Calls Tryz.prog 38 #[pq b, .string ((⟨ah.toArray⟩ : ByteArray) ++ (⟨LF.toArray⟩ : ByteArray) ++ (⟨#[10]⟩ : ByteArray))] w2 fun e w' => (∃ v, e = .returned v) ∧ Bl B b (t0 ++ wrTL (l.take i) ah ++ (ah ++ LF ++ [10])) w' ∧ Fr B [74, 5] w2 w') := by
          show Calls _ _ _ _ _
          rw [ba3]
          refine wstr_ok _ HBl2.out ?_ HG2.out.le
          have h1 := HLN.out
          rw [HT1.out] at h1
          simp only [List.length_append, List.length_cons, List.length_nil] at h1 ⊢
          omega
        have hlens : ah.length ≤ 1000000000 ∧ LF.length ≤ 1000000000 := by
          have h1 := HLN.out
          rw [HT1.out] at h1
          simp only [List.length_append, List.length_cons, List.length_nil] at h1
          omega
        obtain ⟨hla, hlf⟩ := hlens
        go_simp
        go_wp2_with fail
        refine HWS.out.mono ?_
        rintro e w3 ⟨⟨v3, rfl⟩, hbl3, hf3⟩
        have HBl3 := hid hbl3
        have HF3 : Hid (Fr B [74, 5] w w3) := HF2.out.trans hf3
        have HZ3 : Hid (w3.heap[Z]? = some (sbO (i64 op) (str nm) (str ds) (.slice a1 names.length c1) (i64 t.kind) (i64 t.num) (.slice a2 n2 c2) (.slice a3 n3 c3) (i64 num) (.slice a4 body.length c4))) := hf3.kept _ _ HZ2.out (by rfl)
        have HG3 : Hid (Gl B w3) := HG.out.below HF3.out.below
        have p0 := blk_cell HZ3.out 0
        have p9 := blk_cell HZ3.out 9
        clear hbl3 hf3 HWS HBl2 HF2 HZ2 HG2
        by_cases h5 : op = 5
        · subst h5
          have HT5 : Hid (wrT (.mk 5 num nm ds names t body) ah = (ah ++ LF ++ [10]) ++ (wrTL body (ah ++ [32, 32]) ++ (ah ++ [101, 110, 100] ++ [10]))) := by show _ = _; rw [HT1.out, if_pos rfl]
          have HSB3 : Hid (Sds w3 (fun k => k < B) body (.slice a4 body.length c4)) := HSB.out.move HF3.out.size fun k h1 h2 => ⟨h1, HF3.out.below.block k h1⟩
          have HBB : Hid (wrB (.mk 5 num nm ds names t body) = wrBL body) := by show _ = _; simp only [wrB, HOK.out]; rfl
          have HCA : Hid (Calls Tryz.prog 26 #[pq b, .slice a4 body.length c4, .string ((⟨ah.toArray⟩ : ByteArray) ++ (⟨#[32, 32]⟩ : ByteArray))] w3 (WrOk w3 B b (t0 ++ wrTL (l.take i) ah ++ (ah ++ LF ++ [10])) body (ah ++ [32, 32]))) := by
            show Calls _ _ _ _ _
            rw [ba2]
            refine HIH.out body (HCI.out rfl) w3 B b _ _ _ HG3.out HBl3.out HSB3.out HFB.out ?_
            have h1 := HLN.out
            rw [HT5.out] at h1
            simp only [List.length_append, List.length_cons, List.length_nil] at h1 ⊢
            omega
          clear HT1
          go_wp2_with fail
          refine HCA.out.mono ?_
          rintro e w4 ⟨rfl, ⟨t4, hbl4, hlt4, hte4⟩, hf4⟩
          have HF4 : Hid (Fr B [74, 5] w w4) := HF3.out.trans hf4
          have HBl4 := hid hbl4
          have HTL4 := hid hlt4
          have HTE4 := hid hte4
          have HG4 : Hid (Gl B w4) := HG.out.below HF4.out.below
          clear hbl4 hlt4 hte4 hf4 HCA p0 p9
          cases hwb : wrBL body with
          | false =>
            have HE : Hid (wrBL l = false) := HNO.out (by rw [HBB.out]; exact hwb)
            clear hwb
            go_simp
            go_wp2_with fail
            go_ret
            refine ⟨by rw [HE.out]; rfl, ⟨wrTL (l.take i) ah ++ (ah ++ LF ++ [10]) ++ t4, by have := HBl4.out; simpa using this, ?_, fun h => by rw [HE.out] at h; cases h⟩, HF4.out⟩
            have h1 := HLT.out
            have h2 := HTL4.out
            rw [HTK.out, HT5.out] at h1
            simp only [List.length_append] at h1 h2 ⊢
            omega
          | true =>
            have HE4 : Hid (t4 = wrTL body (ah ++ [32, 32])) := HTE4.out hwb
            have HW2 : Hid (wrBL (l.take (i + 1)) = true) := HBK.out (by rw [HBB.out]; exact hwb)
            have HWS2 : Hid (Calls Tryz.prog 38 #[pq b, .string ((⟨ah.toArray⟩ : ByteArray) ++ (⟨#[101, 110, 100]⟩ : ByteArray) ++ (⟨#[10]⟩ : ByteArray))] w4 fun e w' => (∃ v, e = .returned v) ∧ Bl B b (t0 ++ wrTL (l.take (i + 1)) ah) w' ∧ Fr B [74, 5] w4 w') := by
              show Calls _ _ _ _ _
              rw [ba4]
              have e1 : t0 ++ wrTL (l.take (i + 1)) ah = (t0 ++ wrTL (l.take i) ah ++ (ah ++ LF ++ [10]) ++ t4) ++ (ah ++ [101, 110, 100] ++ [10]) := by rw [HTK.out, HT5.out, HE4.out]; simp
              rw [e1]
              refine wstr_ok _ HBl4.out ?_ HG4.out.le
              have h1 := HLN.out
              rw [HT5.out, ← HE4.out] at h1
              simp only [List.length_append, List.length_cons, List.length_nil] at h1 ⊢
              omega
            clear hwb
            go_simp
            go_wp2_with fail
            refine HWS2.out.mono ?_
            rintro e w5 ⟨⟨v5, rfl⟩, hbl5, hf5⟩
            have HBl5 := hid hbl5
            have HF5 : Hid (Fr B [74, 5] w w5) := HF4.out.trans hf5
            clear hbl5 hf5 HWS2
            go_simp
            go_wp2_with fail
            exact ⟨⟨i + 1, by omega, by go_num, HBl5, HW2, HF5⟩, by simp [intOf]; omega⟩
        · have h5b := ibne2 h5
          have HT5 : Hid (wrTL (l.take (i + 1)) ah = wrTL (l.take i) ah ++ (ah ++ LF ++ [10])) := by show _ = _; rw [HTK.out, HT1.out, if_neg h5, List.append_nil]
          have HW2 : Hid (wrBL (l.take (i + 1)) = true) := HBK.out (by simp only [wrB, HOK.out, if_neg h5]; rfl)
          have HBl5 : Hid (Bl B b (t0 ++ wrTL (l.take (i + 1)) ah) w3) := by show Bl _ _ _ _; rw [HT5.out, ← List.append_assoc]; exact HBl3.out
          clear HT1
          go_wp2_with fail
          exact ⟨⟨i + 1, by omega, by go_num, HBl5, HW2, HF3⟩, by simp [intOf]; omega⟩
    · have he : i = l.length := by omega
      have HBe : Hid (Bl B b (t0 ++ wrTL l ah) wr) := by have := HBr.out; rw [he, List.take_length] at this; exact this
      have HWe : Hid (wrBL l = true) := by have := HWr.out; rw [he, List.take_length] at this; exact this
      clear he HBr HWr
      go_wp2_with fail
      go_ret
      exact ⟨by rw [HWe.out]; rfl, ⟨_, HBe.out, Nat.le_refl _, fun _ => rfl⟩, HFw.out⟩
end Go.Proofs.YtjppcfjjpkniaaaGreatDoor
namespace Go.Proofs.YtjppcfjjpkniaaaGreatDoor
open Go.ChangeShapes Go.WideShapes Go.ChangeAt Go.RowKit Go.Deep
attribute [local go_sem ↓] Go.wp_at_zero Go.wp_at_succ
set_option maxRecDepth 100000

mutual
def dpS : Sm → Int → Bool
  | .mk op _ _ _ _ _ body, d => decide ((if op = 5 then d + 1 else d) ≤ 4) && dpL body (if op = 5 then d + 1 else d)
def dpL : List Sm → Int → Bool
  | [], _ => true
  | s :: r, d => dpS s d && dpL r d
end
theorem dpL_app (d : Int) : ∀ a b : List Sm, dpL (a ++ b) d = (dpL a d && dpL b d)
  | [], b => by simp [dpL]
  | s :: a, b => by simp [dpL, dpL_app d a b, Bool.and_assoc]
theorem dpL_no (d : Int) (l : List Sm) (i : Nat) (h : i < l.length) (hb : dpS l[i] d = false) : dpL l d = false := by
  have e : l = l.take i ++ (l[i] :: l.drop (i + 1)) := by rw [← List.drop_eq_getElem_cons h, List.take_append_drop]
  rw [e, dpL_app, dpL, hb]
  simp
theorem cntL_take1 (l : List Sm) (i : Nat) (h : i < l.length) : cntL (l.take (i + 1)) = cntL (l.take i) + (l[i]).count := by
  rw [take_snoc1 l i h, cntL_app, cntL, cntL]; rfl
theorem cntL_take_le (l : List Sm) (i : Nat) : cntL (l.take i) ≤ cntL l := by
  have h := List.take_append_drop i l
  have : cntL l = cntL (l.take i) + cntL (l.drop i) := by rw [← cntL_app, h]
  omega
def evB (m d : Int) (l : List Sm) : Bool := decide (m + (cntL l : Nat) ≤ 60) && dpL l d
abbrev f25 (c : Nat) : Value := .func (.func 25) #[] #[pq c]
set_option maxHeartbeats 3200000 in
theorem ask25_ok (op num : Int) (nm ds : Bs) (t : Ty) (nv tn tk bv : Value) (c : Nat) (m d : Int) (w : World) (hc : w.heap[c]? = some (.cells #[i64 m] 3)) (hm : 0 ≤ m) (hm2 : m ≤ 1000) : Calls Tryz.prog 25 #[stV (i64 op) (str nm) (str ds) nv (i64 t.kind) (i64 t.num) tn tk (i64 num) bv, i64 d, pq c] w fun e w' => e = .returned (.bool (decide (m + 1 ≤ 60) && decide (d ≤ 4))) ∧ w'.heap[c]? = some (.cells #[i64 (m + 1)] 3) ∧ Touch c w w' := by
  have HC : Hid ((w.alloc (sbO (i64 op) (str nm) (str ds) nv (i64 t.kind) (i64 t.num) tn tk (i64 num) bv)).heap[c]? = some (.cells #[i64 m] 3)) := blk_alloc hc _
  have HT : Hid (Touch c w (w.alloc (sbO (i64 op) (str nm) (str ds) nv (i64 t.kind) (i64 t.num) tn tk (i64 num) bv))) := (Touch.refl _ _).alloc _
  clear hc
  go_enter Tryz.func25, Tryz.ntmps25
  go_upto_region 1 with fail
  generalize w.alloc (sbO (i64 op) (str nm) (str ds) nv (i64 t.kind) (i64 t.num) tn tk (i64 num) bv) = V at *
  have yq : V.cell? ⟨c, 0, none⟩ = some (i64 m) := blk_cell HC.out 0
  have fq : V.frozen? ⟨c, 0, none⟩ = false := blk_frozen HC.out 0
  have HC1 : Hid ((V.setCell ⟨c, 0, none⟩ (i64 (m + 1))).heap[c]? = some (.cells #[i64 (m + 1)] 3)) := set1 HC.out _
  have HT1 : Hid (Touch c w (V.setCell ⟨c, 0, none⟩ (i64 (m + 1)))) := HT.out.setCell rfl _
  go_upto_region 2 with fail
  generalize V.setCell ⟨c, 0, none⟩ (i64 (m + 1)) = U at *
  have y0 : U.cell? ⟨c, 0, none⟩ = some (i64 (m + 1)) := blk_cell HC1.out 0
  clear yq fq
  by_cases h0 : m + 1 ≤ 60
  · by_cases h1 : d ≤ 4
    · go_wp2_with fail
      go_ret
      exact ⟨by simp [h1]; omega, HC1.out, HT1.out⟩
    · go_wp2_with fail
      go_ret
      exact ⟨by simp; omega, HC1.out, HT1.out⟩
  · go_wp2_with fail
    go_ret
    exact ⟨by simp; omega, HC1.out, HT1.out⟩
def Ev2 (w : World) (c : Nat) (m d : Int) (l : List Sm) (e : Ending) (w' : World) : Prop :=
  e = .returned (.bool (evB m d l)) ∧ (∃ m', w'.heap[c]? = some (.cells #[i64 m'] 3) ∧ (evB m d l = true → m' = m + (cntL l : Nat))) ∧ Touch c w w'
set_option maxHeartbeats 25600000 in
theorem every_in (M : Nat) (ih : ∀ (l : List Sm), cntL l < M → ∀ (w : World) (c : Nat) (m d : Int) (bv : Value), Sds w (fun b => b ≠ c) l bv → w.heap[c]? = some (.cells #[i64 m] 3) → 0 ≤ m → m ≤ 60 → 0 ≤ d → d ≤ 4 → Calls Tryz.prog 24 #[bv, i64 d, f25 c] w (Ev2 w c m d l))
    (l : List Sm) (hM : cntL l ≤ M) (w : World) (c : Nat) (m d : Int) (bv : Value) (hs : Sds w (fun b => b ≠ c) l bv) (hc : w.heap[c]? = some (.cells #[i64 m] 3)) (hm : 0 ≤ m) (hm2 : m ≤ 60) (hd : 0 ≤ d) (hd2 : d ≤ 4) :
    Calls Tryz.prog 24 #[bv, i64 d, f25 c] w (Ev2 w c m d l) := by
  obtain ⟨av, cv, rfl, hlm, hat⟩ := hs.at
  have HAT := hid hat
  have HS := hid hs
  have HIH := hid ih
  have HCL := hid (blk_lt hc)
  have hlm2 : l.length ≤ 9223372036854775807 := by unfold maxLen at hlm; omega
  have HT0 : Hid (Touch c w w) := Touch.refl _ _
  have HC0 : Hid (w.heap[c]? = some (.cells #[i64 m] 3)) := hc
  have HD0 : Hid (dpL (l.take 0) d = true) := by show _ = _; rw [List.take_zero, dpL]
  have HM0 : Hid (m = m + (cntL (l.take 0) : Nat)) := by show _ = _; rw [List.take_zero, cntL]; simp
  clear hat hs hc ih hlm
  go_enter Tryz.func24, Tryz.ntmps24
  go_upto_region 2 with fail
  go_loopw [12] (fun u wr => ∃ (i : Nat) (m1 : Int), i ≤ l.length ∧ u = i64 i ∧ 0 ≤ m1 ∧ m1 ≤ 60 ∧ Hid (m1 = m + (cntL (l.take i) : Nat)) ∧ Hid (dpL (l.take i) d = true) ∧ Hid (wr.heap[c]? = some (.cells #[i64 m1] 3)) ∧ Hid (Touch c w wr)) (fun u _ => l.length - (intOf u).toNat)
  case atStart => exact ⟨0, m, Nat.zero_le _, rfl, hm, hm2, HM0, HD0, HC0, HT0⟩
  case round =>
    obtain ⟨i, m1, hi, rfl, hm10, hm16, HM1, HD1, HC1, HT1⟩ := hrel
    by_cases hlt : i < l.length
    · have hiI : (0 : Int) ≤ (i : Int) := by omega
      obtain ⟨rb, off, v, rfl, hrb, hrlt, hrng, hsd⟩ := HAT.out i hlt
      have hci := cntL_at l i hlt
      have hti := cntL_take1 l i hlt
      have htl := cntL_take_le l (i + 1)
      have HNO : Hid (dpS l[i] d = false → dpL l d = false) := fun h => dpL_no d l i hlt h
      have HDK : Hid (dpS l[i] d = true → dpL (l.take (i + 1)) d = true) := fun h => by rw [take_snoc1 l i hlt, dpL_app, HD1.out, dpL, dpL, h]; rfl
      generalize l[i] = sm at *
      obtain ⟨op, num, nm, ds, names, t, body⟩ := sm
      simp only [Sm.count] at hci hti
      have HMM : Hid (m1 + 1 + (cntL body : Nat) = m + (cntL (l.take (i + 1)) : Nat) ∧ m + (cntL (l.take (i + 1)) : Nat) ≤ m + (cntL l : Nat)) := by show _ ∧ _; have := HM1.out; omega
      obtain ⟨a1, c1, a2, n2, c2, a3, n3, c3, a4, c4, rfl⟩ := hsd.form
      have hp := hsd.parts
      have hkp := HT1.out.block rb hrlt hrb
      have hr := range_keep hrng hkp
      have x0 : wr.cell? ⟨rb, off + i * 10, none⟩ = some (i64 op) := hr 0 _ rfl
      have x1 : wr.cell? ⟨rb, off + i * 10 + 1, none⟩ = some (str nm) := hr 1 _ rfl
      have x2 : wr.cell? ⟨rb, off + i * 10 + 2, none⟩ = some (str ds) := hr 2 _ rfl
      have x3 : wr.cell? ⟨rb, off + i * 10 + 3, none⟩ = some (.slice a1 names.length c1) := hr 3 _ rfl
      have x4 : wr.cell? ⟨rb, off + i * 10 + 4, none⟩ = some (i64 t.kind) := hr 4 _ rfl
      have x5 : wr.cell? ⟨rb, off + i * 10 + 5, none⟩ = some (i64 t.num) := hr 5 _ rfl
      have x6 : wr.cell? ⟨rb, off + i * 10 + 6, none⟩ = some (.slice a2 n2 c2) := hr 6 _ rfl
      have x7 : wr.cell? ⟨rb, off + i * 10 + 7, none⟩ = some (.slice a3 n3 c3) := hr 7 _ rfl
      have x8 : wr.cell? ⟨rb, off + i * 10 + 8, none⟩ = some (i64 num) := hr 8 _ rfl
      have x9 : wr.cell? ⟨rb, off + i * 10 + 9, none⟩ = some (.slice a4 body.length c4) := hr 9 _ rfl
      have HC2 : Hid ((wr.alloc (sbO (i64 op) (str nm) (str ds) (.slice a1 names.length c1) (i64 t.kind) (i64 t.num) (.slice a2 n2 c2) (.slice a3 n3 c3) (i64 num) (.slice a4 body.length c4))).heap[c]? = some (.cells #[i64 m1] 3)) := blk_alloc HC1.out _
      have HT2 : Hid (Touch c w (wr.alloc (sbO (i64 op) (str nm) (str ds) (.slice a1 names.length c1) (i64 t.kind) (i64 t.num) (.slice a2 n2 c2) (.slice a3 n3 c3) (i64 num) (.slice a4 body.length c4)))) := HT1.out.alloc _
      have HZ2 : Hid ((wr.alloc (sbO (i64 op) (str nm) (str ds) (.slice a1 names.length c1) (i64 t.kind) (i64 t.num) (.slice a2 n2 c2) (.slice a3 n3 c3) (i64 num) (.slice a4 body.length c4))).heap[wr.heap.size]? = some (sbO (i64 op) (str nm) (str ds) (.slice a1 names.length c1) (i64 t.kind) (i64 t.num) (.slice a2 n2 c2) (.slice a3 n3 c3) (i64 num) (.slice a4 body.length c4))) := heap_last wr _
      have HCZ : Hid (wr.heap.size ≠ c) := by show _ ≠ _; have := blk_lt HC1.out; omega
      have HSB := hid hp.2.2
      have HCI : Hid (cntL body < M) := by show _ < _; omega
      clear hrng hsd hp hkp hr hci hti htl hrlt hrb
      go_upto_region 4 with fail
      clear x0 x1 x2 x3 x4 x5 x6 x7 x8 x9
      obtain ⟨Z, hZ⟩ : ∃ Z, Z = wr.heap.size := ⟨_, rfl⟩
      rw [← hZ] at HZ2 HCZ ⊢
      clear hZ
      generalize wr.alloc (sbO (i64 op) (str nm) (str ds) (.slice a1 names.length c1) (i64 t.kind) (i64 t.num) (.slice a2 n2 c2) (.slice a3 n3 c3) (i64 num) (.slice a4 body.length c4)) = V1 at *
      obtain ⟨p0, p1, p2, p3, p4, p5, p6, p7, p8, p9, _, _, _, _, _, _, _, _, _, _⟩ := sfs HZ2.out
      obtain ⟨D, hD⟩ : ∃ D, D = if op = 5 then d + 1 else d := ⟨_, rfl⟩
      have HDe : Hid (dpS (.mk op num nm ds names t body) d = (decide (D ≤ 4) && dpL body D)) := by show _ = _; rw [dpS, hD]
      have HAS := hid (ask25_ok op num nm ds t (.slice a1 names.length c1) (.slice a2 n2 c2) (.slice a3 n3 c3) (.slice a4 body.length c4) c m1 D V1 HC2.out hm10 (by omega))
      have hDb : 0 ≤ D ∧ D ≤ 5 := by rw [hD]; split <;> omega
      obtain ⟨hD0, hD5⟩ := hDb
      by_cases h5 : op = 5
      · rw [if_pos h5] at hD
        subst h5 hD
        have hTB := HT2.out.size
        go_wp2_with fail
        refine HAS.out.mono ?_
        rintro e w2 ⟨rfl, hc3, ht3⟩
        have HC3 := hid hc3
        have HT3 : Hid (Touch c w w2) := HT2.out.trans ht3
        have HZ3 : Hid (w2.heap[Z]? = some (sbO (i64 5) (str nm) (str ds) (.slice a1 names.length c1) (i64 t.kind) (i64 t.num) (.slice a2 n2 c2) (.slice a3 n3 c3) (i64 num) (.slice a4 body.length c4))) := by show _ = _; rw [ht3.block Z (blk_lt HZ2.out) HCZ.out]; exact HZ2.out
        clear hc3 ht3 HAS hTB HC2 HT2 HZ2 p0 p1 p2 p3 p4 p5 p6 p7 p8 p9
        by_cases hb1 : m1 + 1 ≤ 60 ∧ d + 1 ≤ 4
        · have hbt : (decide (m1 + 1 ≤ 60) && decide (d + 1 ≤ 4)) = true := by simp [hb1.1, hb1.2]
          rw [hbt]
          have p9 := blk_cell HZ3.out 9
          have HCA := hid (HIH.out body HCI.out w2 c (m1 + 1) (d + 1) (.slice a4 body.length c4) (HSB.out.move HT3.out.size fun b h1 h2 => ⟨h1, HT3.out.block b h2 h1⟩) HC3.out (by omega) hb1.1 (by omega) hb1.2)
          have HD4 : Hid (decide (d + 1 ≤ 4) = true) := by show _ = _; simp [hb1.2]
          clear hbt hb1
          go_simp
          go_wp2_with fail
          refine HCA.out.mono ?_
          rintro e w3 ⟨rfl, ⟨m2, hc4, hm4⟩, ht4⟩
          have HC4 := hid hc4
          have HT4 : Hid (Touch c w w3) := HT3.out.trans ht4
          have HM4 := hid hm4
          clear hc4 hm4 ht4 HCA p9
          cases hev : evB (m1 + 1) (d + 1) body with
          | false =>
            have HE : Hid (evB m d l = false) := by
              show _ = _
              unfold evB at hev ⊢
              by_cases hq : m1 + 1 + (cntL body : Nat) ≤ 60
              · have h2 : dpL body (d + 1) = false := by simpa [hq] using hev
                rw [HNO.out (by rw [HDe.out, h2, Bool.and_false]), Bool.and_false]
              · have h2 := HMM.out
                have h3 : decide (m + (cntL l : Nat) ≤ 60) = false := by simp; omega
                rw [h3, Bool.false_and]
            clear hev
            go_simp
            go_wp2_with fail
            go_ret
            exact ⟨by rw [HE.out]; rfl, ⟨m2, HC4.out, fun h => by rw [HE.out] at h; cases h⟩, HT4.out⟩
          | true =>
            have HM5 : Hid (m2 = m + (cntL (l.take (i + 1)) : Nat)) := by show _ = _; rw [HM4.out hev]; exact HMM.out.1
            have hev2 := hev
            unfold evB at hev2
            rw [Bool.and_eq_true, decide_eq_true_eq] at hev2
            have HD5 : Hid (dpL (l.take (i + 1)) d = true) := HDK.out (by rw [HDe.out, HD4.out, hev2.2]; rfl)
            have hm5 : 0 ≤ m2 ∧ m2 ≤ 60 := by rw [HM4.out hev]; omega
            clear hev hev2
            go_simp
            go_wp2_with fail
            exact ⟨⟨i + 1, m2, by omega, by go_num, hm5.1, hm5.2, HM5, HD5, HC4, HT4⟩, by simp [intOf]; omega⟩
        · have hbt : (decide (m1 + 1 ≤ 60) && decide (d + 1 ≤ 4)) = false := by
            rw [← Bool.decide_and]; simpa using hb1
          rw [hbt]
          have HE : Hid (evB m d l = false) := by
            show _ = _
            unfold evB
            by_cases hq : m1 + 1 ≤ 60
            · have h2 : decide (d + 1 ≤ 4) = false := by simp; omega
              rw [HNO.out (by rw [HDe.out, h2, Bool.false_and]), Bool.and_false]
            · have h2 := HMM.out
              have h3 : decide (m + (cntL l : Nat) ≤ 60) = false := by simp; omega
              rw [h3, Bool.false_and]
          clear hbt hb1
          go_simp
          go_wp2_with fail
          go_ret
          exact ⟨by rw [HE.out]; rfl, ⟨_, HC3.out, fun h => by rw [HE.out] at h; cases h⟩, HT3.out⟩
      · rw [if_neg h5] at hD
        have h5b := ibne h5
        obtain rfl : d = D := hD.symm
        clear hD h5
        have hTB := HT2.out.size
        go_wp2_with fail
        refine HAS.out.mono ?_
        rintro e w2 ⟨rfl, hc3, ht3⟩
        have HC3 := hid hc3
        have HT3 : Hid (Touch c w w2) := HT2.out.trans ht3
        have HZ3 : Hid (w2.heap[Z]? = some (sbO (i64 op) (str nm) (str ds) (.slice a1 names.length c1) (i64 t.kind) (i64 t.num) (.slice a2 n2 c2) (.slice a3 n3 c3) (i64 num) (.slice a4 body.length c4))) := by show _ = _; rw [ht3.block Z (blk_lt HZ2.out) HCZ.out]; exact HZ2.out
        clear hc3 ht3 HAS hTB HC2 HT2 HZ2 p0 p1 p2 p3 p4 p5 p6 p7 p8 p9
        by_cases hb1 : m1 + 1 ≤ 60 ∧ d ≤ 4
        · have hbt : (decide (m1 + 1 ≤ 60) && decide (d ≤ 4)) = true := by simp [hb1.1, hb1.2]
          rw [hbt]
          have p9 := blk_cell HZ3.out 9
          have HCA := hid (HIH.out body HCI.out w2 c (m1 + 1) (d) (.slice a4 body.length c4) (HSB.out.move HT3.out.size fun b h1 h2 => ⟨h1, HT3.out.block b h2 h1⟩) HC3.out (by omega) hb1.1 (by omega) hb1.2)
          have HD4 : Hid (decide (d ≤ 4) = true) := by show _ = _; simp [hb1.2]
          clear hbt hb1
          go_simp
          go_wp2_with fail
          refine HCA.out.mono ?_
          rintro e w3 ⟨rfl, ⟨m2, hc4, hm4⟩, ht4⟩
          have HC4 := hid hc4
          have HT4 : Hid (Touch c w w3) := HT3.out.trans ht4
          have HM4 := hid hm4
          clear hc4 hm4 ht4 HCA p9
          cases hev : evB (m1 + 1) (d) body with
          | false =>
            have HE : Hid (evB m d l = false) := by
              show _ = _
              unfold evB at hev ⊢
              by_cases hq : m1 + 1 + (cntL body : Nat) ≤ 60
              · have h2 : dpL body (d) = false := by simpa [hq] using hev
                rw [HNO.out (by rw [HDe.out, h2, Bool.and_false]), Bool.and_false]
              · have h2 := HMM.out
                have h3 : decide (m + (cntL l : Nat) ≤ 60) = false := by simp; omega
                rw [h3, Bool.false_and]
            clear hev
            go_simp
            go_wp2_with fail
            go_ret
            exact ⟨by rw [HE.out]; rfl, ⟨m2, HC4.out, fun h => by rw [HE.out] at h; cases h⟩, HT4.out⟩
          | true =>
            have HM5 : Hid (m2 = m + (cntL (l.take (i + 1)) : Nat)) := by show _ = _; rw [HM4.out hev]; exact HMM.out.1
            have hev2 := hev
            unfold evB at hev2
            rw [Bool.and_eq_true, decide_eq_true_eq] at hev2
            have HD5 : Hid (dpL (l.take (i + 1)) d = true) := HDK.out (by rw [HDe.out, HD4.out, hev2.2]; rfl)
            have hm5 : 0 ≤ m2 ∧ m2 ≤ 60 := by rw [HM4.out hev]; omega
            clear hev hev2
            go_simp
            go_wp2_with fail
            exact ⟨⟨i + 1, m2, by omega, by go_num, hm5.1, hm5.2, HM5, HD5, HC4, HT4⟩, by simp [intOf]; omega⟩
        · have hbt : (decide (m1 + 1 ≤ 60) && decide (d ≤ 4)) = false := by
            rw [← Bool.decide_and]; simpa using hb1
          rw [hbt]
          have HE : Hid (evB m d l = false) := by
            show _ = _
            unfold evB
            by_cases hq : m1 + 1 ≤ 60
            · have h2 : decide (d ≤ 4) = false := by simp; omega
              rw [HNO.out (by rw [HDe.out, h2, Bool.false_and]), Bool.and_false]
            · have h2 := HMM.out
              have h3 : decide (m + (cntL l : Nat) ≤ 60) = false := by simp; omega
              rw [h3, Bool.false_and]
          clear hbt hb1
          go_simp
          go_wp2_with fail
          go_ret
          exact ⟨by rw [HE.out]; rfl, ⟨_, HC3.out, fun h => by rw [HE.out] at h; cases h⟩, HT3.out⟩
    · have he : i = l.length := by omega
      have HDe : Hid (dpL l d = true) := by have := HD1.out; rw [he, List.take_length] at this; exact this
      have HMe : Hid (m1 = m + (cntL l : Nat)) := by have := HM1.out; rw [he, List.take_length] at this; exact this
      have HE : Hid (evB m d l = true) := by show _ = _; unfold evB; rw [HDe.out, Bool.and_true, ← HMe.out]; simpa using hm16
      clear he HD1 HM1
      go_wp2_with fail
      go_ret
      exact ⟨by rw [HE.out]; rfl, ⟨m1, HC1.out, fun _ => HMe.out⟩, HT1.out⟩
end Go.Proofs.YtjppcfjjpkniaaaGreatDoor
namespace Go.Proofs.YtjppcfjjpkniaaaGreatDoor
open Go.ChangeShapes Go.WideShapes Go.ChangeAt Go.RowKit Go.Deep
attribute [local go_sem ↓] Go.wp_at_zero Go.wp_at_succ
set_option maxRecDepth 100000

theorem every_all : ∀ (M : Nat) (l : List Sm), cntL l < M → ∀ (w : World) (c : Nat) (m d : Int) (bv : Value), Sds w (fun b => b ≠ c) l bv → w.heap[c]? = some (.cells #[i64 m] 3) → 0 ≤ m → m ≤ 60 → 0 ≤ d → d ≤ 4 → Calls Tryz.prog 24 #[bv, i64 d, f25 c] w (Ev2 w c m d l)
  | 0, _, h => by omega
  | M + 1, l, h => fun w c m d bv => every_in M (every_all M) l (by omega) w c m d bv
theorem write_all : ∀ (M : Nat) (l : List Sm), cntL l < M → ∀ (w : World) (B b : Nat) (t0 ah : Bs) (bv : Value), Gl B w → Bl B b t0 w → Sds w (fun k => k < B) l bv → fineL l → t0.length + (wrTL l ah).length ≤ 1000000000 → Calls Tryz.prog 26 #[pq b, bv, str ah] w (WrOk w B b t0 l ah)
  | 0, _, h => by omega
  | M + 1, l, h => fun w B b t0 ah bv => write_in M (write_all M) l (by omega) w B b t0 ah bv
/-- A script's text, or why it has none. -/
def printF (l : List Sm) : Bs × Int := if evB 0 0 l = false then ([], 2) else if wrBL l = false then ([], 4) else (wrTL l [], 0)
abbrev blO : Obj := .cells #[.pointer none, nilS] 74
set_option maxHeartbeats 12800000 in
theorem lprint_ok (l : List Sm) (w : World) (he : Env w) (bv : Value) (hs : Sds w (fun _ => True) l bv) (hft : evB 0 0 l = true → fineL l ∧ (wrTL l []).length ≤ 1000000000) : Calls Tryz.prog 14 #[bv] w fun e w' => e = .returned (.tuple #[str (printF l).1, i64 (printF l).2]) ∧ Below w.heap.size w w' := by
  obtain ⟨P, hP⟩ : ∃ P, P = printF l := ⟨_, rfl⟩
  have HP := hid hP
  rw [← hP]
  have hb1 := below_one w (.cells #[i64 0] 3)
  have HB1 := hid hb1
  have HEV := hid (every_all (cntL l + 1) l (by omega) (w.alloc (.cells #[i64 0] 3)) w.heap.size 0 0 bv (hs.move hb1.size fun b _ hlt => ⟨by omega, hb1.block b hlt⟩) (heap_last w _) (by omega) (by omega) (by omega) (by omega))
  have HS := hid hs
  have HE := hid he
  have HFT := hid hft
  clear hP hb1 hs he hft
  go_enter Tryz.func14, Tryz.ntmps14
  go_upto_region 2 with fail
  obtain ⟨c, hc⟩ : ∃ c, c = w.heap.size := ⟨_, rfl⟩
  have HC : Hid (w.heap.size ≤ c) := by show _ ≤ _; omega
  have HEV2 : Hid (Calls Tryz.prog 24 #[bv, i64 0, f25 c] (w.alloc (.cells #[i64 0] 3)) (Ev2 (w.alloc (.cells #[i64 0] 3)) c 0 0 l)) := by rw [hc]; exact HEV
  rw [← hc]
  clear hc HEV
  generalize w.alloc (.cells #[i64 0] 3) = V at *
  go_wp2_with fail
  refine HEV2.out.mono ?_
  rintro e w2 ⟨rfl, _, ht2⟩
  have HB2 : Hid (Below w.heap.size w w2) := HB1.out.trans (ht2.below HC.out HB1.out.size)
  clear ht2 HEV2 HB1
  cases hev : evB 0 0 l with
  | false =>
    have HPe : Hid (P = ([], 2)) := by show _ = _; rw [HP.out]; unfold printF; rw [if_pos hev]
    clear hev HP
    go_simp
    go_wp2_with fail
    go_ret2
    exact ⟨by rw [HPe.out]; rfl, HB2.out⟩
  | true =>
    have HF := hid (HFT.out hev).1
    have HT := hid (HFT.out hev).2
    have HPe : Hid (P = if wrBL l = false then ([], 4) else (wrTL l [], 0)) := by show _ = _; rw [HP.out]; unfold printF; rw [if_neg (by rw [hev]; simp)]
    have HBl : Hid (Bl w2.heap.size w2.heap.size [] (w2.alloc blO)) := .inl ⟨Nat.le_refl _, nilS, heap_last w2 _, ⟨rfl, Or.inl ⟨rfl, rfl⟩⟩, by simp [Value.ownBlock]⟩
    have hb3 := below_one w2 blO
    have HS3 : Hid (Sds (w2.alloc blO) (fun k => k < w2.heap.size) l bv) := HS.out.move (Nat.le_trans HB2.out.size hb3.size) fun b _ hlt => ⟨by have := HB2.out.size; omega, by rw [hb3.block b (by have := HB2.out.size; omega)]; exact HB2.out.block b hlt⟩
    have HWR := hid (write_all (cntL l + 1) l (by omega) (w2.alloc blO) w2.heap.size w2.heap.size [] [] bv ((Gl.max (HE.out.below HB2.out)).under hb3) HBl.out HS3.out HF.out (by have := HT.out; simpa using this))
    have HBe : Hid (w.heap.size ≤ w2.heap.size) := HB2.out.size
    have HB3 : Hid (Below w.heap.size w (w2.alloc blO)) := HB2.out.trans (hb3.mono HB2.out.size)
    clear hev HP hb3 HBl HS3 HB2
    go_simp
    go_upto_region 6 with fail
    obtain ⟨b, hb⟩ : ∃ b, b = w2.heap.size := ⟨_, rfl⟩
    have HWR2 : Hid (Calls Tryz.prog 26 #[pq b, bv, str []] (w2.alloc blO) (WrOk (w2.alloc blO) b b [] l [])) := by rw [hb]; exact HWR
    rw [← hb] at HBe ⊢
    clear hb HWR
    generalize w2.alloc blO = V3 at *
    go_wp2_with fail
    refine HWR2.out.mono ?_
    rintro e w4 ⟨rfl, ⟨t, hbl4, _, hte⟩, hf4⟩
    have HB4 : Hid (Below w.heap.size w w4) := HB3.out.trans (hf4.below.mono HBe.out)
    have HBl4 := hid hbl4
    have HTE := hid hte
    have hlo := (bl_lo hbl4).2
    clear hbl4 hte hf4 HWR2 HB3
    cases hwb : wrBL l with
    | false =>
      have HPf : Hid (P = ([], 4)) := by show _ = _; rw [HPe.out, if_pos hwb]
      clear hwb HPe
      go_simp
      go_wp2_with fail
      go_ret2
      exact ⟨by rw [HPf.out]; rfl, HB4.out⟩
    | true =>
      have HPf : Hid (P = (wrTL l [], 0)) := by show _ = _; rw [HPe.out, if_neg (by rw [hwb]; simp)]
      have HST : Hid (Calls Tryz.prog 27 #[pq b] w4 fun e w' => e = .returned (str (wrTL l [])) ∧ Below b w4 w') := by
        have h1 := HBl4.out
        rw [HTE.out hwb, List.nil_append] at h1
        exact Tryz.Builder_String_any b b (wrTL l []) w4 h1 (by omega)
      clear hwb HPe HTE HBl4
      go_simp
      go_wp2_with fail
      refine HST.out.mono ?_
      rintro e w5 ⟨rfl, hb5⟩
      have HB5 : Hid (Below w.heap.size w w5) := HB4.out.trans (hb5.mono HBe.out)
      clear hb5 HST
      go_wp2_with fail
      go_ret2
      exact ⟨by rw [HPf.out]; rfl, HB5.out⟩
end Go.Proofs.YtjppcfjjpkniaaaGreatDoor
namespace Go.Proofs.YtjppcfjjpkniaaaGreatDoor
open Go.ChangeShapes Go.WideShapes Go.ChangeAt Go.RowKit Go.Deep
attribute [local go_sem ↓] Go.wp_at_zero Go.wp_at_succ
set_option maxRecDepth 100000

abbrev Cw : Type := List Sm × Value
def totC (S : List Cw) : Nat := (S.map fun x => 1 + cntL x.1).sum
def sumC (S : List Cw) : Nat := (S.map fun x => cntL x.1).sum
theorem totC_app (a b : List Cw) : totC (a ++ b) = totC a + totC b := by simp [totC]
theorem sumC_app (a b : List Cw) : sumC (a ++ b) = sumC a + sumC b := by simp [sumC]
theorem totC_len : ∀ S : List Cw, S.length ≤ totC S
  | [] => Nat.le_refl _
  | x :: r => by
    have := totC_len r
    simp only [totC, List.map_cons, List.sum_cons, List.length_cons] at this ⊢
    omega
def bodC : List Sm → Nat
  | [] => 0
  | s :: r => cntL s.body + bodC r
theorem bodC_cnt : ∀ l : List Sm, cntL l = l.length + bodC l
  | [] => rfl
  | s :: r => by
    have := bodC_cnt r
    cases s
    simp only [cntL, Sm.count, bodC, Sm.body, List.length_cons]; omega
theorem len_le_cnt (l : List Sm) : l.length ≤ cntL l := by rw [bodC_cnt]; omega
theorem bodC_app : ∀ a b : List Sm, bodC (a ++ b) = bodC a + bodC b
  | [], b => by simp [bodC]
  | s :: a, b => by simp only [List.cons_append, bodC, bodC_app a b]; omega
theorem under80 : Tryz.prog.underlying 80 = some (.slice 23) := Tryz.underlying80
theorem info23 : (Tryz.prog.info? 23).map (fun i => (i.zero, i.size, i.bytes)) = some (some nilS, 1, 24) := by kernel_rfl
/-- The rows that wait. -/
structure Wt (w wr : World) (v : Value) (Ss : List Cw) : Prop where
  own : wr.ownsRow w.heap.size 23 1 v Ss.length (Ss.map (·.2))
  row : ∀ x ∈ Ss, Sds w (fun _ => True) x.1 x.2
  bel : Below w.heap.size w wr
theorem Wt.below {w wr wr' : World} {v : Value} {Ss : List Cw} (h : Wt w wr v Ss) (hb : Below wr.heap.size wr wr') : Wt w wr' v Ss :=
  ⟨own_keep1 h.own fun k hk => hb.block k (h.own.lt k hk).2, h.row, h.bel.trans (hb.mono h.bel.size)⟩
theorem Wt.push {w wr : World} {v : Value} {Ss : List Cw} (h : Wt w wr v Ss) (l : List Sm) (a : Option Addr) (c : Nat) (hl : Sds w (fun _ => True) l (.slice a l.length c)) (hn : Ss.length ≤ 3000000) :
    ∃ ao cap w', (Builtin.append_ #[80, 80] 80 #[v, .slice (some ⟨wr.heap.size, 0, none⟩) 1 1]).run Tryz.prog (wr.alloc (.cells #[.slice a l.length c] 23)) = .ok (.slice ao (Ss.length + 1) cap) w' ∧ Wt w w' (.slice ao (Ss.length + 1) cap) (Ss ++ [(l, .slice a l.length c)]) := by
  obtain ⟨ao, cap, w', h1, h2, h3, h4, h5⟩ := app_far (te := 23) under80 info23 rfl (by omega) (by omega) h.own [.slice a l.length c] rfl (fun u hu => by rw [List.mem_singleton.1 hu]; rfl) hn h.bel.size
  refine ⟨ao, cap, w', h1, ⟨?_, ?_, ?_⟩⟩
  · rw [List.length_append, List.map_append]; exact h2
  · intro x hx
    rcases List.mem_append.1 hx with hx | hx
    · exact h.row x hx
    · rw [List.mem_singleton.1 hx]; exact hl
  · exact h.bel.trans h3.below
set_option maxHeartbeats 25600000 in
theorem lcount_ok (l : List Sm) (w : World) (bv : Value) (hs : Sds w (fun _ => True) l bv) (hc : cntL l ≤ 10000) : Calls Tryz.prog 16 #[bv] w fun e w' => e = .returned (i64 (cntL l : Nat)) ∧ Below w.heap.size w w' := by
  obtain ⟨C, hC⟩ : ∃ C, C = cntL l := ⟨_, rfl⟩
  rw [← hC]
  obtain ⟨ab, cb, rfl⟩ := hs.form
  have HW0 : Hid (Wt w (w.alloc (.cells #[.slice ab l.length cb] 23)) (.slice (some ⟨w.heap.size, 0, none⟩) 1 1) [(l, .slice ab l.length cb)]) :=
    ⟨World.ownsRow_lit w #[.slice ab l.length cb] 1 (Nat.le_refl _) (by unfold maxLen; omega) rfl, fun x hx => by rw [List.mem_singleton.1 hx]; exact hs, below_one w _⟩
  have HC0 : Hid (0 + sumC [((l, .slice ab l.length cb) : Cw)] = C) := by show _ = _; rw [hC]; simp [sumC]
  have hC5 : C ≤ 10000 := by omega
  have HT0 : Hid (totC [((l, .slice ab l.length cb) : Cw)] = C + 1) := by show _ = _; rw [hC]; simp [totC]; omega
  clear hs hc hC
  go_enter Tryz.func16, Tryz.ntmps16
  go_upto_region 3 with fail
  obtain ⟨G, hG⟩ : ∃ G, G = w.heap.size := ⟨_, rfl⟩
  have HW1 : Hid (Wt w (w.alloc (.cells #[.slice ab l.length cb] 23)) (.slice (some ⟨G, 0, none⟩) 1 1) [(l, .slice ab l.length cb)]) := by rw [hG]; exact HW0
  rw [← hG]
  clear hG HW0
  generalize w.alloc (.cells #[.slice ab l.length cb] 23) = V at *
  go_loopg [3, 4] (C + 1) (fun g u v wr => ∃ (Ss : List Cw) (c : Nat), u = i64 c ∧ c ≤ 10000 ∧ totC Ss ≤ g ∧ g ≤ 10001 ∧ Hid (Wt w wr v Ss) ∧ Hid (c + sumC Ss = C))
  case atStart => exact ⟨_, 0, rfl, by omega, Nat.le_of_eq HT0.out, by omega, HW1, HC0⟩
  case round =>
    obtain ⟨Ss, c, rfl, hc5, hg1, hg2, HW, HCs⟩ := hrel
    obtain ⟨va, vc, rfl, _⟩ := own_slice HW.out.own
    have hcI : (0 : Int) ≤ (c : Int) := by omega
    rcases List.eq_nil_or_concat Ss with hnil | ⟨S0, x, hcc⟩
    · subst hnil
      have HF : Hid (c = C) := HCs.out
      clear HCs
      go_wp2_with fail
      go_ret
      exact ⟨by rw [HF.out]; rfl, HW.out.bel⟩
    · rw [List.concat_eq_append] at hcc
      subst hcc
      obtain ⟨lx, bx⟩ := x
      have hrow := HW.out.row (lx, bx) (by simp)
      have hown := HW.out.own
      rw [List.length_append, List.map_append] at hown
      obtain ⟨n, hn⟩ : ∃ n, n = S0.length := ⟨_, rfl⟩
      have hln : (S0 ++ [((lx, bx) : Cw)]).length = n + 1 := by rw [List.length_append, hn]; rfl
      rw [hln]
      rw [← hn] at hown
      change World.ownsRow wr w.heap.size 23 1 (.slice va (n + 1) vc) (n + 1) (S0.map (·.2) ++ [bx]) at hown
      obtain ⟨hown2, g, rfl, hglt, hcap, hcell⟩ := own_pop hown rfl
      have q0 : wr.cell? ⟨g, n, none⟩ = some bx := by have := hcell 0 _ rfl; simpa using this
      obtain ⟨ax, cx, rfl, hlx, hat⟩ := Sds.at (show Sds w (fun _ => True) lx bx from hrow)
      unfold maxLen at hlx
      have htot : totC S0 + (1 + cntL lx) ≤ gk := by rw [totC_app] at hg1; simpa [totC] using hg1
      have hnI : n ≤ 10001 := by have := totC_len S0; omega
      have HCs2 : Hid (c + sumC S0 + cntL lx = C) := by show _ = _; have := HCs.out; rw [sumC_app] at this; simp [sumC] at this ⊢; omega
      have HSp : Hid (Wt w wr (.slice (some ⟨g, 0, none⟩) n vc) S0) := ⟨by rw [← hn]; exact hown2, fun y hy => HW.out.row y (by simp [hy]), HW.out.bel⟩
      have HAT := hid hat
      have HTot := hid htot
      have HN := hid hn
      have hll := len_le_cnt lx
      have hcl : c + lx.length ≤ 10000 := by have := HCs2.out; omega
      clear hrow hown hown2 hcell hn hln htot hat HCs hglt hg1 HW hll
      go_upto_region 8 with fail
      clear q0
      have HS0 : Hid (sumC S0 = sumC S0 + bodC (lx.take 0)) := by show _ = _; rw [List.take_zero, bodC]; rfl
      have HT1 : Hid (totC S0 ≤ totC S0 + cntL (lx.take 0)) := by show _ ≤ _; omega
      have hlxI : (0 : Int) ≤ (lx.length : Int) := by omega
      go_loopw [4, 30] (fun v u wr => ∃ (i : Nat) (Sy : List Cw), i ≤ lx.length ∧ u = i64 i ∧ Hid (Wt w wr v Sy) ∧ Hid (sumC Sy = sumC S0 + bodC (lx.take i)) ∧ Hid (totC Sy ≤ totC S0 + cntL (lx.take i))) (fun _ u _ => lx.length - (intOf u).toNat)
      case atStart => exact ⟨0, S0, Nat.zero_le _, rfl, HSp, HS0, HT1⟩
      case round =>
        obtain ⟨i, Sy, hi, rfl, HWy, HSy, HTy⟩ := hrel
        obtain ⟨oa, oc, rfl, _⟩ := own_slice HWy.out.own
        have hiI : (0 : Int) ≤ (i : Int) := by omega
        by_cases hlt : i < lx.length
        · obtain ⟨rb, off, v, rfl, _, hrlt, hrng, hsd⟩ := HAT.out i hlt
          have HBo : Hid (bodC (lx.take (i + 1)) = bodC (lx.take i) + cntL lx[i].body ∧ cntL (lx.take (i + 1)) = cntL (lx.take i) + lx[i].count) := by
            show _ ∧ _
            exact ⟨by rw [take_snoc1 lx i hlt, bodC_app, bodC, bodC]; rfl, cntL_take1 lx i hlt⟩
          have HLE := hid (cntL_take_le lx i)
          generalize lx[i] = sm at *
          obtain ⟨op, num, nm, ds, names, t, body⟩ := sm
          obtain ⟨a1, c1, a2, n2, c2, a3, n3, c3, a4, c4, rfl⟩ := hsd.form
          have hp := hsd.parts
          have hr := range_keep hrng (HWy.out.bel.block rb hrlt)
          have x0 : wr.cell? ⟨rb, off + i * 10, none⟩ = some (i64 op) := hr 0 _ rfl
          have x1 : wr.cell? ⟨rb, off + i * 10 + 1, none⟩ = some (str nm) := hr 1 _ rfl
          have x2 : wr.cell? ⟨rb, off + i * 10 + 2, none⟩ = some (str ds) := hr 2 _ rfl
          have x3 : wr.cell? ⟨rb, off + i * 10 + 3, none⟩ = some (.slice a1 names.length c1) := hr 3 _ rfl
          have x4 : wr.cell? ⟨rb, off + i * 10 + 4, none⟩ = some (i64 t.kind) := hr 4 _ rfl
          have x5 : wr.cell? ⟨rb, off + i * 10 + 5, none⟩ = some (i64 t.num) := hr 5 _ rfl
          have x6 : wr.cell? ⟨rb, off + i * 10 + 6, none⟩ = some (.slice a2 n2 c2) := hr 6 _ rfl
          have x7 : wr.cell? ⟨rb, off + i * 10 + 7, none⟩ = some (.slice a3 n3 c3) := hr 7 _ rfl
          have x8 : wr.cell? ⟨rb, off + i * 10 + 8, none⟩ = some (i64 num) := hr 8 _ rfl
          have x9 : wr.cell? ⟨rb, off + i * 10 + 9, none⟩ = some (.slice a4 body.length c4) := hr 9 _ rfl
          have HSB := hid hp.2.2
          have HW2 := hid (HWy.out.below (below_one wr (sbO (i64 op) (str nm) (str ds) (.slice a1 names.length c1) (i64 t.kind) (i64 t.num) (.slice a2 n2 c2) (.slice a3 n3 c3) (i64 num) (.slice a4 body.length c4))))
          have HZ2 : Hid ((wr.alloc (sbO (i64 op) (str nm) (str ds) (.slice a1 names.length c1) (i64 t.kind) (i64 t.num) (.slice a2 n2 c2) (.slice a3 n3 c3) (i64 num) (.slice a4 body.length c4))).heap[wr.heap.size]? = some (sbO (i64 op) (str nm) (str ds) (.slice a1 names.length c1) (i64 t.kind) (i64 t.num) (.slice a2 n2 c2) (.slice a3 n3 c3) (i64 num) (.slice a4 body.length c4))) := heap_last wr _
          clear hrng hsd hp hr hrlt
          go_upto_region 10 with fail
          clear x0 x1 x2 x3 x4 x5 x6 x7 x8 x9
          obtain ⟨Z, hZ⟩ : ∃ Z, Z = wr.heap.size := ⟨_, rfl⟩
          rw [← hZ] at HZ2 ⊢
          clear hZ
          generalize wr.alloc (sbO (i64 op) (str nm) (str ds) (.slice a1 names.length c1) (i64 t.kind) (i64 t.num) (.slice a2 n2 c2) (.slice a3 n3 c3) (i64 num) (.slice a4 body.length c4)) = V2 at *
          have p9 := blk_cell HZ2.out 9
          by_cases hb0 : body = []
          · subst hb0
            have HS3 : Hid (sumC Sy = sumC S0 + bodC (lx.take (i + 1))) := by show _ = _; rw [HSy.out, HBo.out.1]; simp [Sm.body, cntL]
            have HT3 : Hid (totC Sy ≤ totC S0 + cntL (lx.take (i + 1))) := by show _ ≤ _; have := HTy.out; have := HBo.out.2; omega
            clear HBo HSy HTy
            go_wp2_with fail
            exact ⟨⟨i + 1, Sy, by omega, by go_num, HW2, HS3, HT3⟩, by simp [intOf]; omega⟩
          · have hbl : 0 < body.length := List.length_pos_iff.2 hb0
            have hbI : (0 : Int) < (body.length : Int) := by omega
            have hsl : Sy.length ≤ 3000000 := by
              have h1 := totC_len Sy
              have h2 := HTy.out
              have h3 := HTot.out
              have h4 := HLE.out
              omega
            obtain ⟨ao9, cap9, W4, hrun, hw4⟩ := HW2.out.push body a4 c4 HSB.out hsl
            have HRUN := hid hrun
            have HW4 := hid hw4
            have HS3 : Hid (sumC (Sy ++ [((body, .slice a4 body.length c4) : Cw)]) = sumC S0 + bodC (lx.take (i + 1))) := by show _ = _; rw [sumC_app, HSy.out, HBo.out.1]; simp [sumC, Sm.body]; omega
            have HT3 : Hid (totC (Sy ++ [((body, .slice a4 body.length c4) : Cw)]) ≤ totC S0 + cntL (lx.take (i + 1))) := by
              show _ ≤ _
              rw [totC_app, HBo.out.2]
              have := HTy.out
              have e : totC [((body, .slice a4 body.length c4) : Cw)] = 1 + cntL body := by simp [totC]
              rw [e, Sm.count]
              omega
            clear hrun hw4 HBo HSy HTy hb0 hsl
            go_wp2_with (at_builtin; refine wpList_app_run rfl (.tmp 38) (.tmp 41) 80 rfl _ _ rfl rfl 80 rfl _ _ HRUN.out ?_)
            exact ⟨⟨i + 1, _, by omega, by go_num, HW4, HS3, HT3⟩, by simp [intOf]; omega⟩
        · have he : i = lx.length := by omega
          have HS3 : Hid (c + lx.length + sumC Sy = C) := by show _ = _; have h1 := HSy.out; have h2 := HCs2.out; have h3 := bodC_cnt lx; rw [he, List.take_length] at h1; omega
          have HT3 : Hid (totC Sy < gk) := by show _ < _; have h1 := HTy.out; have h2 := HTot.out; rw [he, List.take_length] at h1; omega
          clear he HSy HTy
          go_wp2_with fail
          go_roundg (totC Sy)
          case measure => exact HT3.out
          case rel => exact ⟨Sy, c + lx.length, by go_num, by omega, Nat.le_refl _, by have := HT3.out; omega, HWy, HS3⟩
end Go.Proofs.YtjppcfjjpkniaaaGreatDoor
namespace Go.Proofs.YtjppcfjjpkniaaaGreatDoor
open Go.ChangeShapes Go.WideShapes Go.ChangeAt Go.RowKit Go.Deep
attribute [local go_sem ↓] Go.wp_at_zero Go.wp_at_succ
set_option maxRecDepth 100000

abbrev eachT : Bs := [101, 97, 99, 104, 32, 114, 111, 119, 115, 10, 32, 119, 105, 100, 101, 110, 32, 112, 105, 100, 32, 51, 50, 32, 59, 32, 109, 111, 114, 101, 10, 101, 110, 100]
abbrev eachP : Bs := [101, 97, 99, 104, 32, 114, 111, 119, 115, 10, 32, 32, 119, 105, 100, 101, 110, 32, 112, 105, 100, 32, 51, 50, 10, 101, 110, 100, 10]
abbrev eachW : Sm := .mk 4 32 [112, 105, 100] [] [] ty0 []
abbrev eachS : Sm := .mk 5 0 [114, 111, 119, 115] [] [] ty0 [eachW]
theorem each_parse : parseR eachT = ([eachS], 0) := by kernel_rfl
theorem each_print : printF [eachS] = (eachP, 0) := by kernel_rfl
theorem each_cnt : cntL [eachS] = 2 := by kernel_rfl
theorem each_len : (wrTL [eachS] []).length ≤ 1000000000 := by
  have : (wrTL [eachS] []).length = 29 := by kernel_rfl
  omega
theorem each_fine : fineL [eachS] := by
  have h1 : (lineF 5 0 [114, 111, 119, 115] [] [] ty0).length = 9 := by kernel_rfl
  have h2 : (lineF 4 32 [112, 105, 100] [] [] ty0).length = 12 := by kernel_rfl
  have h3 : (prT ty0).length = 0 := by kernel_rfl
  have h4 : (Lib.itoa 0).length = 1 := by kernel_rfl
  have h5 : (Lib.itoa 32).length = 2 := by kernel_rfl
  refine ⟨⟨⟨⟨by omega, by omega⟩, by simp, by simp, by omega, by omega, by simp, ?_⟩, ⟨⟨⟨by omega, by omega⟩, by simp, by simp, by omega, by omega, by simp, ?_⟩, trivial⟩, trivial⟩, trivial⟩
  · show (lineF 5 0 _ _ _ _).length ≤ _; omega
  · show (lineF 4 32 _ _ _ _).length ≤ _; omega
set_option maxHeartbeats 12800000 in
theorem each_ok (w : World) (he : Env w) : Calls Tryz.prog 8 #[] w fun e w' => e = .returned (.bool true) ∧ Below w.heap.size w w' := by
  have HPA : Hid (Calls Tryz.prog 9 #[str eachT] w fun e w' => (∃ a c, e = .returned (.tuple #[.slice a 1 c, i64 0]) ∧ Sds w' (fun k => w.heap.size ≤ k) [eachS] (.slice a 1 c)) ∧ Below w.heap.size w w') := by
    have := lparse_ok eachT w he (by decide)
    rw [each_parse] at this
    exact this
  have HE := hid he
  clear he
  go_enter Tryz.func8, Tryz.ntmps8
  go_wp2_with fail
  refine HPA.out.mono ?_
  rintro e w1 ⟨⟨a, c, rfl, hs⟩, hb1⟩
  have hs1 : Sds w1 (fun _ => True) [eachS] (.slice a 1 c) := hs.mono fun _ _ _ => trivial
  have hE1 := HE.out.below hb1
  have HPR : Hid (Calls Tryz.prog 14 #[.slice a 1 c] w1 fun e w' => e = .returned (.tuple #[str eachP, i64 0]) ∧ Below w1.heap.size w1 w') := by
    have := lprint_ok [eachS] w1 hE1 _ hs1 (fun _ => ⟨each_fine, each_len⟩)
    rw [each_print] at this
    exact this
  have HS1 := hid hs1
  have HB1 := hid hb1
  clear hs hs1 hE1 hb1 HPA
  go_wp2_with fail
  refine HPR.out.mono ?_
  rintro e w2 ⟨rfl, hb2⟩
  have HB2 : Hid (Below w.heap.size w w2) := HB1.out.trans (hb2.mono HB1.out.size)
  have hs2 : Sds w2 (fun _ => True) [eachS] (.slice a 1 c) := HS1.out.under hb2
  have HCN : Hid (Calls Tryz.prog 16 #[.slice a 1 c] w2 fun e w' => e = .returned (i64 2) ∧ Below w2.heap.size w2 w') := by
    have := lcount_ok [eachS] w2 _ hs2 (by rw [each_cnt]; omega)
    rw [each_cnt] at this
    exact this
  obtain ⟨ao, cap, he0, _, hat⟩ := hs2.at
  obtain ⟨b, off, v, rfl, _, _, hr, hsd⟩ := hat 0 (by simp)
  cases he0
  have hp := hsd.parts.2.2
  obtain ⟨a4, c4, hv⟩ := hp.form
  have x0 : w2.cell? ⟨b, off, none⟩ = some (i64 5) := by
    have := hr 0 _ rfl
    rw [Nat.zero_mul, Nat.add_zero] at this
    exact this
  have x9 : w2.cell? ⟨b, off + 9, none⟩ = some (.slice a4 1 c4) := by
    have := hr 9 _ rfl
    rw [Nat.zero_mul, Nat.add_zero] at this
    rw [this, hv]; rfl
  obtain ⟨ao2, cap2, he2, _, hat2⟩ := hp.at
  obtain ⟨b2, off2, v2, rfl, _, _, hr2, _⟩ := hat2 0 (by simp [Sm.body])
  rw [hv] at he2
  cases he2
  have y8 : w2.cell? ⟨b2, off2 + 8, none⟩ = some (i64 32) := by
    have := hr2 8 _ rfl
    rw [Nat.zero_mul, Nat.add_zero] at this
    exact this
  have e1 : ((5 : Int) == 5) = true := rfl
  clear hs2 hat hr hsd hp hv hat2 hr2 hb2 HPR HS1 HB1 e1
  go_wp2_with fail
  refine HCN.out.mono ?_
  rintro e w3 ⟨rfl, hb3⟩
  have HB3 : Hid (Below w.heap.size w w3) := HB2.out.trans (hb3.mono HB2.out.size)
  clear hb3 HCN
  go_simp
  go_wp2_with fail
  go_ret
  exact ⟨rfl, HB3.out⟩
end Go.Proofs.YtjppcfjjpkniaaaGreatDoor
