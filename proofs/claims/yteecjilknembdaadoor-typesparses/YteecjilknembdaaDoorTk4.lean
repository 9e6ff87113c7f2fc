/- imagoref15's Take at a list: its contract; no statement is proved in this text. -/
import Derived.Test.YteecjilknembdaaDoorTk3
namespace Go.Proofs.YteecjilknembdaaDoor
open Go.ChangeShapes Go.WideShapes Go.ChangeAt Go.RowKit Go.Deep
attribute [local go_sem ↓] Go.wp_at_zero Go.wp_at_succ

/-- The one kid of a list, in new memory, of any tag. -/
theorem Rd.oneT {w : World} {S : Nat → Prop} {T : Ty} {nv kv : Value} {b : Nat} {n : Int} {e : TypeId} (h : Rd w S T nv kv) (hb : w.heap[b]? = some (.cells #[i64 T.kind, i64 T.num, nv, kv] e)) (hS : S b) : Rd w S (.mk 3 n [] [T]) (.slice none 0 0) (.slice (some ⟨b, 0, none⟩) 1 1) := by
  refine .mk (kids := [T]) b 0 (fun _ => nv) (fun _ => kv) ⟨none, 0, rfl, Nat.zero_le _, ⟨Nat.le_refl _, fun x hx => by simp at hx⟩, Or.inl rfl⟩ (by unfold maxLen; simp) (Or.inr ⟨rfl, hS, blk_lt hb⟩) ?_ ?_
  · intro i T' hT
    have hi : i = 0 := by have := (List.getElem?_eq_some_iff.1 hT).1; simpa using this
    subst hi
    cases hT
    intro j v hv
    rw [blk_cell hb]
    simpa using hv
  · intro i T' hT
    have hi : i = 0 := by have := (List.getElem?_eq_some_iff.1 hT).1; simpa using this
    subst hi
    cases hT
    exact h
theorem list5 {V : World} {lo B : Nat} {T : Ty} {nv kv : Value} {n : Int} {e : TypeId} (h : Rd V (fun b => lo ≤ b) T nv kv) (hB : V.heap.size = B) (hlo : lo ≤ B) : Rd (V.alloc (.cells #[i64 T.kind, i64 T.num, nv, kv] e)) (fun b => lo ≤ b) (.mk 3 n [] [T]) (.slice none 0 0) (.slice (some ⟨B, 0, none⟩) 1 1) := by
  subst hB
  exact (h.under (below_one V _)).oneT (heap_last V _) hlo
def listD (f : Nat) (n : Nat) (r2 : Bs) : Option (Ty × Bs) := match r2 with
            | 40 :: r3 => match takeD f r3 with
              | some (t, 41 :: r4) => some (.mk 3 n [] [t], r4)
              | _ => none
            | _ => none
theorem listD_no {f n : Nat} {r : Bs} (h : hdB r 40 = false) : listD f n r = none := by
  rw [hdB_head] at h
  unfold listD
  split
  · simp at h
  · rfl
def lEnd (n : Nat) (ro : Option (Ty × Bs)) : Option (Ty × Bs) := match ro with | some (t, r) => if hdB r 41 = true then some (.mk 3 n [] [t], r.tail) else none | none => none
theorem listD_yes {f n : Nat} {r : Bs} (h : hdB r 40 = true) : listD f n r = lEnd n (takeD f r.tail) := by
  rw [hdB_head] at h
  cases r with
  | nil => simp at h
  | cons c r3 =>
    have hc : c = 40 := by simpa using h
    subst hc
    show (match takeD f r3 with | some (t, 41 :: r4) => some (Ty.mk 3 n [] [t], r4) | _ => none) = lEnd n (takeD f r3)
    rcases takeD f r3 with _ | ⟨t, _ | ⟨c, r4⟩⟩
    · rfl
    · rfl
    · by_cases h2 : c = 41
      · subst h2; rfl
      · have h3 : lEnd n (some (t, c :: r4)) = none := by simp [lEnd, hdB, h2]
        rw [h3]
        split
        · rename_i e; cases e; exact absurd rfl h2
        · rfl
theorem takeD_l {f n : Nat} {l r : Bs} (h : numD l = some (n, r)) : takeD (f + 1) (108 :: l) = listD f n r := by
  simp only [takeD]
  rw [if_neg (by rintro ⟨h, _⟩; cases h), h]
  simp [listD]
  first | rfl | (split <;> rfl)
set_option maxRecDepth 100000 in
set_option maxHeartbeats 3200000 in
theorem tk_l0 (s : ByteArray) (a0 : Nat) (f : Nat) (w : World) (hs : s.size ≤ 1000000) (hf : f ≤ 5) (ha : a0 < s.size) (hc : s[a0].toNat = 108) (n : Nat) (r : Bs) (hn : numD (s.data.toList.drop (a0 + 1)) = some (n, r)) (h40 : hdB r 40 = false) : Calls Tryd.prog 33 #[.string s, i64 a0, i64 (f + 1 : Nat)] w (Gok w s.size (takeD (f + 1) (s.data.toList.drop a0))) := by
  obtain ⟨res, hres⟩ : ∃ res, res = takeD (f + 1) (s.data.toList.drop a0) := ⟨_, rfl⟩
  rw [← hres]
  have kc : s[a0] = 108 := UInt8.toNat_inj.1 hc
  have HRes : Hid (res = none) := by show _ = _; rw [hres, drop_at s a0 ha, kc, takeD_l hn, listD_no h40]
  have HNV : Hid (numV (s.data.toList.drop (a0 + 1)) s.size = ((n : Int), ((s.size - r.length : Nat) : Int))) := by show _ = _; unfold numV; rw [hn]
  have HH := hid h40
  have HHC := hid hc
  clear hres kc h40
  obtain ⟨D, hD⟩ : ∃ D : Int, D = ((f + 1 : Nat) : Int) := ⟨_, rfl⟩
  have hD1 : 1 ≤ D := by omega
  have hD6 : D ≤ 6 := by omega
  have HDe := hid hD
  have qD : (D == 0) = false := by simp; omega
  rw [← hD]
  clear hD
  have q114 : ((s[a0].toNat : Int) == 114) = false := by simp; omega
  have q105 : ((s[a0].toNat : Int) == 105) = false := by simp; omega
  have q116 : ((s[a0].toNat : Int) == 116) = false := by simp; omega
  have q108 : ((s[a0].toNat : Int) == 108) = true := by simp; omega
  clear hc
  obtain ⟨E, hE⟩ : ∃ E, E = s.size - r.length := ⟨_, rfl⟩
  have hE2 : E ≤ 1000000 := by omega
  have HEe := hid hE
  have HSf : Hid (s.data.toList.drop E = r) := by show _ = _; rw [hE]; exact suf_drop (numD_suf hn)
  rw [← hE] at HNV
  clear hE hn
  have HX : Hid ((w.alloc (.cells #[i64 0, i64 0, .slice none 0 0, .slice none 0 0, i64 0] 63)).heap[w.heap.size]? = some (.cells #[i64 0, i64 0, .slice none 0 0, .slice none 0 0, i64 0] 63)) := heap_last w _
  have HBV : Hid (Below w.heap.size w (w.alloc (.cells #[i64 0, i64 0, .slice none 0 0, .slice none 0 0, i64 0] 63))) := below_one w _
  go_enter Tryd.func33, Tryd.ntmps33
  go_upto_region 1 with fail
  obtain ⟨R, hR⟩ : ∃ R, R = w.heap.size := ⟨_, rfl⟩
  have HRe : Hid (w.heap.size ≤ R) := by show _ ≤ _; omega
  rw [← hR] at HX ⊢
  clear hR
  generalize w.alloc (.cells #[i64 0, i64 0, .slice none 0 0, .slice none 0 0, i64 0] 63) = V at *
  have HNU : Hid (Calls Tryd.prog 46 #[.string s, i64 ((a0 : Int) + 1)] V fun e w' => e = .returned (.agg #[i64 n, i64 E]) ∧ Below V.heap.size V w') := by
    have := rnum_s s (a0 + 1) V hs (by omega)
    rw [HNV.out] at this
    exact this
  go_wp2_with fail
  refine HNU.out.mono ?_
  rintro e w1 ⟨rfl, hb1⟩
  have HB1 : Hid (Below w.heap.size w (w1.alloc (.cells #[i64 n, i64 E] 76))) := (HBV.out.trans (hb1.mono HBV.out.size)).trans ((below_one w1 _).mono (by have h1 := HBV.out.size; have h2 := hb1.size; omega))
  have HX1 : Hid ((w1.alloc (.cells #[i64 n, i64 E] 76)).heap[R]? = some (.cells #[i64 0, i64 0, .slice none 0 0, .slice none 0 0, i64 0] 63)) := blk_alloc (blk_below HX.out hb1) _
  have HQ1 : Hid ((w1.alloc (.cells #[i64 n, i64 E] 76)).heap[w1.heap.size]? = some (.cells #[i64 n, i64 E] 76)) := heap_last w1 _
  clear hb1 HNU
  go_upto_region 6 with fail
  obtain ⟨Q, hQ⟩ : ∃ Q, Q = w1.heap.size := ⟨_, rfl⟩
  rw [← hQ] at HQ1 ⊢
  clear hQ
  generalize w1.alloc (.cells #[i64 n, i64 E] 76) = W at *
  have rc0 : W.cell? ⟨R, 0, none⟩ = some (i64 0) := blk_cell HX1.out 0
  have rf0 : W.frozen? ⟨R, 0, none⟩ = false := blk_frozen HX1.out 0
  have rc1 : W.cell? ⟨R, 1, none⟩ = some (i64 0) := blk_cell HX1.out 1
  have rf1 : W.frozen? ⟨R, 1, none⟩ = false := blk_frozen HX1.out 1
  have rc2 : W.cell? ⟨R, 2, none⟩ = some (.slice none 0 0) := blk_cell HX1.out 2
  have rf2 : W.frozen? ⟨R, 2, none⟩ = false := blk_frozen HX1.out 2
  have rc3 : W.cell? ⟨R, 3, none⟩ = some (.slice none 0 0) := blk_cell HX1.out 3
  have rf3 : W.frozen? ⟨R, 3, none⟩ = false := blk_frozen HX1.out 3
  have rc4 : W.cell? ⟨R, 4, none⟩ = some (i64 0) := blk_cell HX1.out 4
  have rf4 : W.frozen? ⟨R, 4, none⟩ = false := blk_frozen HX1.out 4
  have nc0 : W.cell? ⟨Q, 0, none⟩ = some (i64 n) := blk_cell HQ1.out 0
  have nc1 : W.cell? ⟨Q, 1, none⟩ = some (i64 E) := blk_cell HQ1.out 1
  have HIS : Hid (Calls Tryd.prog 44 #[.string s, i64 (E : Nat), .int .u8 40] W fun e w' => e = .returned (.bool false) ∧ w' = W) := by
    have := is_s s E 40 W
    rw [HSf.out, HH.out] at this
    exact this
  go_wp2_with fail
  refine HIS.out.mono ?_
  rintro e v9 ⟨rfl, hv9⟩
  replace hv9 := hv9.symm
  subst hv9
  go_wp2_with fail
  refine bodyPost_ret (v := gotV 0 0 (.slice none 0 0) (.slice none 0 0) (-1)) (results_one Tryd.results33 rfl (load63 (set5 HX1.out _ _ _ _ _))) rfl ?_
  exact ⟨below5 HB1.out HRe.out _ _ _ _ _, fun _ => rfl, fun T r h => by rw [HRes.out] at h; cases h⟩
set_option maxRecDepth 100000 in
set_option maxHeartbeats 3200000 in
theorem tk_l1 (s : ByteArray) (a0 : Nat) (f : Nat) (w : World) (hs : s.size ≤ 1000000) (hf : f ≤ 5) (ha : a0 < s.size) (hc : s[a0].toNat = 108) (n : Nat) (r : Bs) (hn : numD (s.data.toList.drop (a0 + 1)) = some (n, r)) (h40 : hdB r 40 = true)
    (htk : ∀ w k, k ≤ s.size → Calls Tryd.prog 33 #[.string s, i64 (k : Nat), i64 (f : Nat)] w (Gok w s.size (takeD f (s.data.toList.drop k)))) : Calls Tryd.prog 33 #[.string s, i64 a0, i64 (f + 1 : Nat)] w (Gok w s.size (takeD (f + 1) (s.data.toList.drop a0))) := by
  obtain ⟨res, hres⟩ : ∃ res, res = takeD (f + 1) (s.data.toList.drop a0) := ⟨_, rfl⟩
  rw [← hres]
  have kc : s[a0] = 108 := UInt8.toNat_inj.1 hc
  have HRes0 : Hid (res = lEnd n (takeD f r.tail)) := by show _ = _; rw [hres, drop_at s a0 ha, kc, takeD_l hn, listD_yes h40]
  have HTK0 := hid htk
  have HNV : Hid (numV (s.data.toList.drop (a0 + 1)) s.size = ((n : Int), ((s.size - r.length : Nat) : Int))) := by show _ = _; unfold numV; rw [hn]
  have HH := hid h40
  have HHC := hid hc
  clear hres kc h40 htk
  obtain ⟨D, hD⟩ : ∃ D : Int, D = ((f + 1 : Nat) : Int) := ⟨_, rfl⟩
  have hD1 : 1 ≤ D := by omega
  have hD6 : D ≤ 6 := by omega
  have HDe := hid hD
  have qD : (D == 0) = false := by simp; omega
  rw [← hD]
  clear hD
  have q114 : ((s[a0].toNat : Int) == 114) = false := by simp; omega
  have q105 : ((s[a0].toNat : Int) == 105) = false := by simp; omega
  have q116 : ((s[a0].toNat : Int) == 116) = false := by simp; omega
  have q108 : ((s[a0].toNat : Int) == 108) = true := by simp; omega
  clear hc
  obtain ⟨E, hE⟩ : ∃ E, E = s.size - r.length := ⟨_, rfl⟩
  have hE2 : E ≤ 1000000 := by omega
  have HEe := hid hE
  have HSf : Hid (s.data.toList.drop E = r) := by show _ = _; rw [hE]; exact suf_drop (numD_suf hn)
  rw [← hE] at HNV
  clear hE hn
  have HX : Hid ((w.alloc (.cells #[i64 0, i64 0, .slice none 0 0, .slice none 0 0, i64 0] 63)).heap[w.heap.size]? = some (.cells #[i64 0, i64 0, .slice none 0 0, .slice none 0 0, i64 0] 63)) := heap_last w _
  have HBV : Hid (Below w.heap.size w (w.alloc (.cells #[i64 0, i64 0, .slice none 0 0, .slice none 0 0, i64 0] 63))) := below_one w _
  go_enter Tryd.func33, Tryd.ntmps33
  go_upto_region 1 with fail
  obtain ⟨R, hR⟩ : ∃ R, R = w.heap.size := ⟨_, rfl⟩
  have HRe : Hid (w.heap.size ≤ R) := by show _ ≤ _; omega
  rw [← hR] at HX ⊢
  clear hR
  generalize w.alloc (.cells #[i64 0, i64 0, .slice none 0 0, .slice none 0 0, i64 0] 63) = V at *
  have HNU : Hid (Calls Tryd.prog 46 #[.string s, i64 ((a0 : Int) + 1)] V fun e w' => e = .returned (.agg #[i64 n, i64 E]) ∧ Below V.heap.size V w') := by
    have := rnum_s s (a0 + 1) V hs (by omega)
    rw [HNV.out] at this
    exact this
  go_wp2_with fail
  refine HNU.out.mono ?_
  rintro e w1 ⟨rfl, hb1⟩
  have HB1 : Hid (Below w.heap.size w (w1.alloc (.cells #[i64 n, i64 E] 76))) := (HBV.out.trans (hb1.mono HBV.out.size)).trans ((below_one w1 _).mono (by have h1 := HBV.out.size; have h2 := hb1.size; omega))
  have HX1 : Hid ((w1.alloc (.cells #[i64 n, i64 E] 76)).heap[R]? = some (.cells #[i64 0, i64 0, .slice none 0 0, .slice none 0 0, i64 0] 63)) := blk_alloc (blk_below HX.out hb1) _
  have HQ1 : Hid ((w1.alloc (.cells #[i64 n, i64 E] 76)).heap[w1.heap.size]? = some (.cells #[i64 n, i64 E] 76)) := heap_last w1 _
  clear hb1 HNU
  go_upto_region 6 with fail
  obtain ⟨Q, hQ⟩ : ∃ Q, Q = w1.heap.size := ⟨_, rfl⟩
  rw [← hQ] at HQ1 ⊢
  clear hQ
  generalize w1.alloc (.cells #[i64 n, i64 E] 76) = W at *
  have rc0 : W.cell? ⟨R, 0, none⟩ = some (i64 0) := blk_cell HX1.out 0
  have rf0 : W.frozen? ⟨R, 0, none⟩ = false := blk_frozen HX1.out 0
  have rc1 : W.cell? ⟨R, 1, none⟩ = some (i64 0) := blk_cell HX1.out 1
  have rf1 : W.frozen? ⟨R, 1, none⟩ = false := blk_frozen HX1.out 1
  have rc2 : W.cell? ⟨R, 2, none⟩ = some (.slice none 0 0) := blk_cell HX1.out 2
  have rf2 : W.frozen? ⟨R, 2, none⟩ = false := blk_frozen HX1.out 2
  have rc3 : W.cell? ⟨R, 3, none⟩ = some (.slice none 0 0) := blk_cell HX1.out 3
  have rf3 : W.frozen? ⟨R, 3, none⟩ = false := blk_frozen HX1.out 3
  have rc4 : W.cell? ⟨R, 4, none⟩ = some (i64 0) := blk_cell HX1.out 4
  have rf4 : W.frozen? ⟨R, 4, none⟩ = false := blk_frozen HX1.out 4
  have nc0 : W.cell? ⟨Q, 0, none⟩ = some (i64 n) := blk_cell HQ1.out 0
  have nc1 : W.cell? ⟨Q, 1, none⟩ = some (i64 E) := blk_cell HQ1.out 1
  have HIS : Hid (Calls Tryd.prog 44 #[.string s, i64 (E : Nat), .int .u8 40] W fun e w' => e = .returned (.bool true) ∧ w' = W) := by
    have := is_s s E 40 W
    rw [HSf.out, HH.out] at this
    exact this
  go_wp2_with fail
  refine HIS.out.mono ?_
  rintro e v9 ⟨rfl, hv9⟩
  replace hv9 := hv9.symm
  subst hv9
  have HEr : Hid (E + 1 ≤ s.size ∧ s.data.toList.drop (E + 1) = r.tail) := by
    have h1 := HSf.out
    have h2 := HH.out
    cases r with
    | nil => cases h2
    | cons c r3 =>
      refine ⟨?_, ?_⟩
      · have h3 := congrArg List.length h1
        rw [List.length_drop, Array.length_toList, List.length_cons] at h3
        have h4 : s.data.size = s.size := rfl
        omega
      · rw [← List.tail_drop, h1]
  obtain ⟨ro, hro⟩ : ∃ ro, ro = takeD f r.tail := ⟨_, rfl⟩
  have HRo := hid hro
  have HRes1 : Hid (res = lEnd n ro) := by show _ = _; rw [HRes0.out, hro]
  have HTK : Hid (Calls Tryd.prog 33 #[.string s, i64 ((E : Int) + 1), i64 (D - 1)] W (Gok W s.size ro)) := by
    have := HTK0.out W (E + 1) HEr.out.1
    rw [HEr.out.2, ← hro] at this
    rw [HDe.out, show (((f + 1 : Nat) : Int) - 1) = ((f : Nat) : Int) by omega]
    exact this
  have HRW : Hid (R < W.heap.size) := blk_lt HX1.out
  have HQW : Hid (Q < W.heap.size) := blk_lt HQ1.out
  have HWw : Hid (w.heap.size ≤ W.heap.size) := HB1.out.size
  have HSufx : Hid (∀ T rr, ro = some (T, rr) → s.data.toList.drop (s.size - rr.length) = rr ∧ rr.length ≤ s.size) := by
    show ∀ T rr, _ → _
    intro T rr h
    have h1 := takeD_suf f _ T rr (hro ▸ h)
    rw [← HEr.out.2] at h1
    exact ⟨suf_drop h1, by have := suf_le h1; omega⟩
  clear hro HRo HRes0 HTK0
  go_wp2_with fail
  refine HTK.out.mono ?_
  rintro e w2 ⟨hb2, hno, hyes⟩
  have HB2 := hid hb2
  have HNO := hid hno
  have HYES := hid hyes
  clear hb2 hno hyes HTK rc0 rf0 rc1 rf1 rc2 rf2 rc3 rf3 rc4 rf4 nc0 nc1
  rcases hre : ro with _ | ⟨T, rr⟩
  · obtain rfl := HNO.out hre
    have HRes : Hid (res = none) := by show _ = _; rw [HRes1.out, hre]; rfl
    clear hre
    have HB3 : Hid (Below w.heap.size w (w2.alloc (.cells #[i64 0, i64 0, .slice none 0 0, .slice none 0 0, i64 (-1)] 63))) := (HB1.out.trans (HB2.out.mono HWw.out)).trans ((below_one w2 _).mono (by have h1 := HWw.out; have h2 := HB2.out.size; omega))
    have HX3 : Hid ((w2.alloc (.cells #[i64 0, i64 0, .slice none 0 0, .slice none 0 0, i64 (-1)] 63)).heap[R]? = some (.cells #[i64 0, i64 0, .slice none 0 0, .slice none 0 0, i64 0] 63)) := blk_alloc (blk_below HX1.out HB2.out) _
    have HQ3 : Hid ((w2.alloc (.cells #[i64 0, i64 0, .slice none 0 0, .slice none 0 0, i64 (-1)] 63)).heap[Q]? = some (.cells #[i64 n, i64 E] 76)) := blk_alloc (blk_below HQ1.out HB2.out) _
    have HG3 : Hid ((w2.alloc (.cells #[i64 0, i64 0, .slice none 0 0, .slice none 0 0, i64 (-1)] 63)).heap[w2.heap.size]? = some (.cells #[i64 0, i64 0, .slice none 0 0, .slice none 0 0, i64 (-1)] 63)) := heap_last w2 _
    have HGR : Hid (W.heap.size ≤ w2.heap.size) := HB2.out.size
    go_upto_region 17 with fail
    obtain ⟨G, hG⟩ : ∃ G, G = w2.heap.size := ⟨_, rfl⟩
    rw [← hG] at HG3 HGR ⊢
    clear hG
    generalize w2.alloc (.cells #[i64 0, i64 0, .slice none 0 0, .slice none 0 0, i64 (-1)] 63) = X at *
    have rc0 : X.cell? ⟨R, 0, none⟩ = some (i64 0) := blk_cell HX3.out 0
    have rf0 : X.frozen? ⟨R, 0, none⟩ = false := blk_frozen HX3.out 0
    have rc1 : X.cell? ⟨R, 1, none⟩ = some (i64 0) := blk_cell HX3.out 1
    have rf1 : X.frozen? ⟨R, 1, none⟩ = false := blk_frozen HX3.out 1
    have rc2 : X.cell? ⟨R, 2, none⟩ = some (.slice none 0 0) := blk_cell HX3.out 2
    have rf2 : X.frozen? ⟨R, 2, none⟩ = false := blk_frozen HX3.out 2
    have rc3 : X.cell? ⟨R, 3, none⟩ = some (.slice none 0 0) := blk_cell HX3.out 3
    have rf3 : X.frozen? ⟨R, 3, none⟩ = false := blk_frozen HX3.out 3
    have rc4 : X.cell? ⟨R, 4, none⟩ = some (i64 0) := blk_cell HX3.out 4
    have rf4 : X.frozen? ⟨R, 4, none⟩ = false := blk_frozen HX3.out 4
    have gc0 : X.cell? ⟨G, 0, none⟩ = some (i64 0) := blk_cell HG3.out 0
    have gc1 : X.cell? ⟨G, 1, none⟩ = some (i64 0) := blk_cell HG3.out 1
    have gc2 : X.cell? ⟨G, 2, none⟩ = some (.slice none 0 0) := blk_cell HG3.out 2
    have gc3 : X.cell? ⟨G, 3, none⟩ = some (.slice none 0 0) := blk_cell HG3.out 3
    have gc4 : X.cell? ⟨G, 4, none⟩ = some (i64 (-1)) := blk_cell HG3.out 4
    have nc0 : X.cell? ⟨Q, 0, none⟩ = some (i64 n) := blk_cell HQ3.out 0
    have nc1 : X.cell? ⟨Q, 1, none⟩ = some (i64 E) := blk_cell HQ3.out 1
    have HI4 : Hid (Calls Tryd.prog 44 #[.string s, i64 (-1), .int .u8 41] X fun e w' => e = .returned (.bool false) ∧ w' = X) := is_no s 41 X
    go_wp2_with fail
    refine HI4.out.mono ?_
    rintro e v9 ⟨rfl, hv9⟩
    replace hv9 := hv9.symm
    subst hv9
    go_wp2_with fail
    refine bodyPost_ret (v := gotV 0 0 (.slice none 0 0) (.slice none 0 0) (-1)) (results_one Tryd.results33 rfl (load63 (set5 HX3.out _ _ _ _ _))) rfl ?_
    exact ⟨below5 HB3.out HRe.out _ _ _ _ _, fun _ => rfl, fun T r h => by rw [HRes.out] at h; cases h⟩
  · obtain ⟨b1, n1, c1, b2, n2, c2, rfl, hrd⟩ := HYES.out T rr hre
    have HRes2 : Hid (res = if hdB rr 41 = true then some (.mk 3 n [] [T], rr.tail) else none) := by show _ = _; rw [HRes1.out, hre]; rfl
    obtain ⟨hS1, hS2⟩ := HSufx.out T rr hre
    obtain ⟨F, hF⟩ : ∃ F, F = s.size - rr.length := ⟨_, rfl⟩
    rw [← hF] at hS1 ⊢
    have hF1 : F ≤ 1000000 := by omega
    have HFe := hid hF
    have HSx := hid hS1
    have HSl := hid hS2
    clear hre hF hS1 hS2
    have HB3 : Hid (Below w.heap.size w (w2.alloc (.cells #[i64 T.kind, i64 T.num, .slice b1 n1 c1, .slice b2 n2 c2, i64 F] 63))) := (HB1.out.trans (HB2.out.mono HWw.out)).trans ((below_one w2 _).mono (by have h1 := HWw.out; have h2 := HB2.out.size; omega))
    have HX3 : Hid ((w2.alloc (.cells #[i64 T.kind, i64 T.num, .slice b1 n1 c1, .slice b2 n2 c2, i64 F] 63)).heap[R]? = some (.cells #[i64 0, i64 0, .slice none 0 0, .slice none 0 0, i64 0] 63)) := blk_alloc (blk_below HX1.out HB2.out) _
    have HQ3 : Hid ((w2.alloc (.cells #[i64 T.kind, i64 T.num, .slice b1 n1 c1, .slice b2 n2 c2, i64 F] 63)).heap[Q]? = some (.cells #[i64 n, i64 E] 76)) := blk_alloc (blk_below HQ1.out HB2.out) _
    have HG3 : Hid ((w2.alloc (.cells #[i64 T.kind, i64 T.num, .slice b1 n1 c1, .slice b2 n2 c2, i64 F] 63)).heap[w2.heap.size]? = some (.cells #[i64 T.kind, i64 T.num, .slice b1 n1 c1, .slice b2 n2 c2, i64 F] 63)) := heap_last w2 _
    have HGR : Hid (W.heap.size ≤ w2.heap.size) := HB2.out.size
    have HRD : Hid (Rd (w2.alloc (.cells #[i64 T.kind, i64 T.num, .slice b1 n1 c1, .slice b2 n2 c2, i64 F] 63)) (fun b => W.heap.size ≤ b) T (.slice b1 n1 c1) (.slice b2 n2 c2)) := hrd.under (below_one w2 _)
    clear hrd
    go_upto_region 17 with fail
    obtain ⟨G, hG⟩ : ∃ G, G = w2.heap.size := ⟨_, rfl⟩
    rw [← hG] at HG3 HGR ⊢
    clear hG
    generalize w2.alloc (.cells #[i64 T.kind, i64 T.num, .slice b1 n1 c1, .slice b2 n2 c2, i64 F] 63) = X at *
    have rc0 : X.cell? ⟨R, 0, none⟩ = some (i64 0) := blk_cell HX3.out 0
    have rf0 : X.frozen? ⟨R, 0, none⟩ = false := blk_frozen HX3.out 0
    have rc1 : X.cell? ⟨R, 1, none⟩ = some (i64 0) := blk_cell HX3.out 1
    have rf1 : X.frozen? ⟨R, 1, none⟩ = false := blk_frozen HX3.out 1
    have rc2 : X.cell? ⟨R, 2, none⟩ = some (.slice none 0 0) := blk_cell HX3.out 2
    have rf2 : X.frozen? ⟨R, 2, none⟩ = false := blk_frozen HX3.out 2
    have rc3 : X.cell? ⟨R, 3, none⟩ = some (.slice none 0 0) := blk_cell HX3.out 3
    have rf3 : X.frozen? ⟨R, 3, none⟩ = false := blk_frozen HX3.out 3
    have rc4 : X.cell? ⟨R, 4, none⟩ = some (i64 0) := blk_cell HX3.out 4
    have rf4 : X.frozen? ⟨R, 4, none⟩ = false := blk_frozen HX3.out 4
    have gc0 : X.cell? ⟨G, 0, none⟩ = some (i64 T.kind) := blk_cell HG3.out 0
    have gc1 : X.cell? ⟨G, 1, none⟩ = some (i64 T.num) := blk_cell HG3.out 1
    have gc2 : X.cell? ⟨G, 2, none⟩ = some (.slice b1 n1 c1) := blk_cell HG3.out 2
    have gc3 : X.cell? ⟨G, 3, none⟩ = some (.slice b2 n2 c2) := blk_cell HG3.out 3
    have gc4 : X.cell? ⟨G, 4, none⟩ = some (i64 F) := blk_cell HG3.out 4
    have nc0 : X.cell? ⟨Q, 0, none⟩ = some (i64 n) := blk_cell HQ3.out 0
    have nc1 : X.cell? ⟨Q, 1, none⟩ = some (i64 E) := blk_cell HQ3.out 1
    cases h41 : hdB rr 41 with
    | false =>
      have HI4 : Hid (Calls Tryd.prog 44 #[.string s, i64 (F : Nat), .int .u8 41] X fun e w' => e = .returned (.bool false) ∧ w' = X) := by
        have := is_s s F 41 X
        rw [HSx.out, h41] at this
        exact this
      have HRes : Hid (res = none) := by show _ = _; rw [HRes2.out, h41]; rfl
      clear h41 HRes2
      go_wp2_with fail
      refine HI4.out.mono ?_
      rintro e v9 ⟨rfl, hv9⟩
      replace hv9 := hv9.symm
      subst hv9
      go_wp2_with fail
      refine bodyPost_ret (v := gotV 0 0 (.slice none 0 0) (.slice none 0 0) (-1)) (results_one Tryd.results33 rfl (load63 (set5 HX3.out _ _ _ _ _))) rfl ?_
      exact ⟨below5 HB3.out HRe.out _ _ _ _ _, fun _ => rfl, fun T r h => by rw [HRes.out] at h; cases h⟩
    | true =>
      have HI4 : Hid (Calls Tryd.prog 44 #[.string s, i64 (F : Nat), .int .u8 41] X fun e w' => e = .returned (.bool true) ∧ w' = X) := by
        have := is_s s F 41 X
        rw [HSx.out, h41] at this
        exact this
      have HRes : Hid (res = some (.mk 3 n [] [T], rr.tail)) := by show _ = _; rw [HRes2.out, h41]; rfl
      have HEnd : Hid (((s.size - rr.tail.length : Nat) : Int) = (F : Int) + 1) := by
        show _ = _
        have h1 := HFe.out
        have h2 := HSl.out
        cases rr with
        | nil => cases h41
        | cons c r3 =>
          rw [List.length_cons] at h1 h2
          show ((s.size - r3.length : Nat) : Int) = _
          omega
      have HWX : Hid (W.heap.size ≤ X.heap.size) := by show _ ≤ _; have h1 := HGR.out; have h2 := blk_lt HG3.out; omega
      have HRX : Hid (R < X.heap.size) := blk_lt HX3.out
      have HwX : Hid (w.heap.size ≤ X.heap.size) := HB3.out.size
      clear h41 HRes2
      have hGX : G < X.heap.size := blk_lt HG3.out
      have hRX : R < X.heap.size := blk_lt HX3.out
      go_wp2_with fail
      refine HI4.out.mono ?_
      rintro e v9 ⟨rfl, hv9⟩
      replace hv9 := hv9.symm
      subst hv9
      go_wp2_with fail
      refine bodyPost_ret (v := gotV 3 n (.slice none 0 0) (.slice (some ⟨X.heap.size, 0, none⟩) 1 1) (F + 1)) (results_one Tryd.results33 rfl (load63 (blk_alloc (set5 HX3.out _ _ _ _ _) _))) rfl ?_
      have hb5 := below5 HB3.out HRe.out (i64 3) (i64 n) (.slice none 0 0) (.slice (some ⟨X.heap.size, 0, none⟩) 1 1) (i64 (F + 1))
      refine ⟨hb5.trans ((below_one _ _).mono hb5.size), fun h => (by rw [HRes.out] at h; cases h), fun T' r' h => ?_⟩
      rw [HRes.out] at h
      cases h
      refine ⟨none, 0, 0, _, 1, 1, by rw [HEnd.out]; rfl, ?_⟩
      have hr1 := HRD.out.set5 (lo := W.heap.size) HRW.out (Nat.le_refl _) (i64 3) (i64 n) (.slice none 0 0) (.slice (some ⟨X.heap.size, 0, none⟩) 1 1) (i64 (F + 1))
      refine (list5 (n := (n : Int)) hr1 (by simp [World.setCell]) HWX.out).mono (fun b hb _ => ?_)
      exact Nat.le_trans HWw.out hb
end Go.Proofs.YteecjilknembdaaDoor
