/- Fork, Drop; no statement is proved in this text. -/
import Derived.Test.YtlkcpjefgelcoaaTx
namespace Go.Proofs.Ytlkcpjefgelcoaa
open Go.ChangeShapes Go.WideShapes Go.ChangeAt Go.RowKit Go.Deep
attribute [local go_sem ↓] Go.wp_at_zero Go.wp_at_succ

theorem setCells_row (t : Nat) (ty : TypeId) : ∀ (vs : List Value) (o : Nat) (w : World) (C : Array Value), w.heap[t]? = some (.cells C ty) → o + vs.length ≤ C.size → ∃ C', (w.setCells t o vs).heap[t]? = some (.cells C' ty) ∧ C'.size = C.size ∧ ∀ i, C'[i]? = if o ≤ i ∧ i < o + vs.length then vs[i - o]? else C[i]?
  | [], o, w, C, h, _ => ⟨C, h, rfl, fun i => by rw [if_neg (by simp)]⟩
  | v :: r, o, w, C, h, hl => by
    have h1 := heap_setCell_same w t o C ty v h
    have hl' : o + (r.length + 1) ≤ C.size := by simpa using hl
    obtain ⟨C', h2, h3, h4⟩ := setCells_row t ty r (o + 1) _ _ h1 (by simp; omega)
    refine ⟨C', h2, by simpa using h3, fun i => ?_⟩
    rw [h4 i]
    by_cases hi : i = o
    · subst hi
      rw [if_neg (by omega), if_pos (by simp), Nat.sub_self, Array.getElem?_setIfInBounds_self]
      simp
      omega
    · by_cases hc : o ≤ i ∧ i < o + (v :: r).length
      · have hc' : o ≤ i ∧ i < o + (r.length + 1) := by simpa using hc
        rw [if_pos hc, if_pos (by omega)]
        obtain ⟨m, rfl⟩ : ∃ m, i = o + 1 + m := ⟨i - o - 1, by omega⟩
        rw [show o + 1 + m - (o + 1) = m by omega, show o + 1 + m - o = m + 1 by omega, List.getElem?_cons_succ]
      · have hc' : ¬(o ≤ i ∧ i < o + (r.length + 1)) := by simpa using hc
        rw [if_neg hc, if_neg (by omega), Array.getElem?_setIfInBounds_ne (by omega)]
def rowG (G : Gr) (q : Nat) (F : Nat → Int × Int) : Gr := fun r g => if r = q then F g else G r g
theorem Tg.setRow {w : World} {t : Nat} {G : Gr} (h : Tg w t G) (q : Nat) (hq : q < 6) (F : Nat → Int × Int) : Tg (w.setCells t (q * 32) (rowv F)) t (rowG G q F) := by
  obtain ⟨C', h1, h2, h3⟩ := setCells_row t 67 (rowv F) (q * 32) w _ h.blk (by simp [rowv_len, tcs_len]; omega)
  refine ⟨?_⟩
  rw [h1]
  have : C'.toList = tcs (rowG G q F) := by
    refine tcs_of (by simpa [tcs_len] using h2) fun i hi => ?_
    rw [Array.getElem?_toList, h3 i, rowv_len]
    by_cases hc : q * 32 ≤ i ∧ i < q * 32 + 32
    · rw [if_pos hc, rowv_get F _ (by omega)]
      refine congrArg (fun x => some (i64 x)) ?_
      have e : i / 32 = q := by omega
      unfold cl rowG
      rw [show (i - q * 32) % 2 = i % 2 by omega, show (i - q * 32) / 2 = i % 32 / 2 by omega]
      simp only [e, if_true]
    · rw [if_neg hc, List.getElem?_toArray, tcs_get G i hi]
      refine congrArg (fun x => some (i64 x)) ?_
      have e : ¬(i / 32 = q) := by omega
      unfold cl rowG
      simp only [e, if_false]
  rw [← this]
set_option maxRecDepth 100000 in
set_option maxHeartbeats 1600000 in
theorem sfork_yes (w : World) (t r q : Nat) (L : List Sp) (h : Tb w t L) (hG : GS L) (hr : r < 6) (hq : q < 6) (hrq : r ≠ q) (hc : cntL (L.map ar) ((q : Int) + 1) = 0) : Calls Try.prog 22 #[pq t, i64 ((r : Int) + 1), i64 ((q : Int) + 1)] w fun e w' => e = .returned (i64 0) ∧ Tb w' t (forkS L ((r : Int) + 1) ((q : Int) + 1)) ∧ Touch t w w' := by
  have HC := hid fun W => sproc_ok W ((r : Int) + 1)
  have HD := hid fun W => sproc_ok W ((q : Int) + 1)
  rw [decide_eq_true (show 1 ≤ (r : Int) + 1 ∧ (r : Int) + 1 ≤ 6 by omega)] at HC
  rw [decide_eq_true (show 1 ≤ (q : Int) + 1 ∧ (q : Int) + 1 ≤ 6 by omega)] at HD
  have hqq : ((r : Int) + 1 == (q : Int) + 1) = false := beq_false_of_ne (by omega)
  have hz := fun W => zero64 W
  have HR := hid (h.range q hq)
  have heq := fun W => eqR W (Gl L q)
  have HLn := hid (rowv_len (Gl L q))
  have ht := h.lt
  rw [decide_eq_true (show ∀ g : Nat, g < 16 → Gl L q g = (0, 0) from (hG.empty _).1 hc)] at heq
  have HT := hid h
  have HS : Hid (Tb w.drew t L) := ⟨h.blk⟩
  have HW : Hid (Tb (w.drew.setCells t (q * 32) (rowv (Gl L r))) t (forkS L ((r : Int) + 1) ((q : Int) + 1))) := by
    refine (Tg.setRow (w := w.drew) ⟨h.blk⟩ q hq (Gl L r)).ext fun r' g _ _ => ?_
    show _ = cel _ _ _
    rw [hG.forked (by omega) (by omega) hc]
    unfold rowG
    by_cases e : r' = q
    · rw [if_pos e, if_pos (by omega)]; rfl
    · rw [if_neg e, if_neg (by omega)]; rfl
  have HO : Hid (Touch t w (w.drew.setCells t (q * 32) (rowv (Gl L r)))) := Touch.setCells _ _ _ (Touch.refl t w).drew
  have HL := hid fun W (hW : Tb W t L) => hW.load r hr
  have HTh : Hid (w.drew.there t (q * 32) (rowv (Gl L r)).toArray.size) := fun j hj => by
    have hj : j < 32 := by simpa [rowv_len] using hj
    exact ⟨by rw [HS.out.cell _ (by omega)]; rfl, HS.out.frz _⟩
  have HIn : Hid ((Try.prog.info? 64).map (·.size) = some (rowv (Gl L r)).toArray.size) := by
    have e : (rowv (Gl L r)).toArray.size = 32 := by simp [rowv_len]
    show _ = _
    rw [e]; exact info64
  have HOn := hid (all_oneCell_toArray (rowv_one (Gl L r)))
  have hw1 : IntKind.i64.wrap (r : Int) = (r : Int) := wrap_id (by omega) (by omega)
  have hw2 : IntKind.i64.wrap (q : Int) = (q : Int) := wrap_id (by omega) (by omega)
  generalize rowv (Gl L q) = cs at *
  generalize rowv (fun _ => (0, 0)) = zs at *
  generalize rowv (Gl L r) = rs at *
  clear h hc hrq
  go_enter Try.func22, Try.ntmps22
  go_upto_region 5 with (first | (go_at_call 38; first | (refine (HC.out _).mono ?_; rintro e2 w2 ⟨rfl, hv⟩; replace hv := hv.symm; subst hv) | (refine (HD.out _).mono ?_; rintro e2 w2 ⟨rfl, hv⟩; replace hv := hv.symm; subst hv)) | (refine wpListG_load (by rfl) 64 (.tmp 28) rfl t (q * 32) (by rfl) cs (.array 16 62) HR.out under64 rfl (by rw [info64, HLn.out]) ?_))
  refine wp_region_noPanic ?_
  refine wp_region_last (fun W : World => Tb W t L) 13 (by kernel_rfl) ?_
  refine wpL_take 0 33 (pq t) [] rfl rfl (by kernel_rfl) (by decide) (by kernel_rfl) (by kernel_rfl) (by kernel_rfl) (fun _ _ _ h => h) HS.out (by rfl) (fun W hW => by go_simp) ?_
  simp only [Act.put, List.setIfInBounds_toArray, List.set_cons_zero, List.set_cons_succ]
  refine wpL_take 1 34 (i64 ((q : Int) + 1)) [] rfl rfl (by kernel_rfl) (by decide) (by kernel_rfl) (by kernel_rfl) (by kernel_rfl) (fun _ _ _ h => h) HS.out (by rfl) (fun W hW => by go_simp) ?_
  simp only [Act.put, List.setIfInBounds_toArray, List.set_cons_zero, List.set_cons_succ]
  refine wpL_take 2 35 (i64 q) [] rfl rfl (by kernel_rfl) (by decide) (by kernel_rfl) (by kernel_rfl) (by kernel_rfl) (fun _ _ _ h => h) HS.out (by rfl) (fun W hW => by go_simp) ?_
  simp only [Act.put, List.setIfInBounds_toArray, List.set_cons_zero, List.set_cons_succ]
  refine wpL_take 3 36 (pq t) [] rfl rfl (by kernel_rfl) (by decide) (by kernel_rfl) (by kernel_rfl) (by kernel_rfl) (fun _ _ _ h => h) HS.out (by rfl) (fun W hW => by go_simp) ?_
  simp only [Act.put, List.setIfInBounds_toArray, List.set_cons_zero, List.set_cons_succ]
  refine wpL_take 4 37 (i64 ((r : Int) + 1)) [] rfl rfl (by kernel_rfl) (by decide) (by kernel_rfl) (by kernel_rfl) (by kernel_rfl) (fun _ _ _ h => h) HS.out (by rfl) (fun W hW => by go_simp) ?_
  simp only [Act.put, List.setIfInBounds_toArray, List.set_cons_zero, List.set_cons_succ]
  refine wpL_take 5 38 (i64 r) [] rfl rfl (by kernel_rfl) (by decide) (by kernel_rfl) (by kernel_rfl) (by kernel_rfl) (fun _ _ _ h => h) HS.out (by rfl) (fun W hW => by go_simp) ?_
  simp only [Act.put, List.setIfInBounds_toArray, List.set_cons_zero, List.set_cons_succ]
  refine wpL_take 6 39 (pq t) [] rfl rfl (by kernel_rfl) (by decide) (by kernel_rfl) (by kernel_rfl) (by kernel_rfl) (fun _ _ _ h => h) HS.out (by rfl) (fun W hW => by go_simp) ?_
  simp only [Act.put, List.setIfInBounds_toArray, List.set_cons_zero, List.set_cons_succ]
  refine wpL_take 7 40 (pq t) [] rfl rfl (by kernel_rfl) (by decide) (by kernel_rfl) (by kernel_rfl) (by kernel_rfl) (fun _ _ _ h => h) HS.out (by rfl) (fun W hW => by go_simp) ?_
  simp only [Act.put, List.setIfInBounds_toArray, List.set_cons_zero, List.set_cons_succ]
  refine wpL_take 8 41 (.pointer (some ⟨t, r * 32, none⟩)) [] rfl rfl (by kernel_rfl) (by decide) (by kernel_rfl) (by kernel_rfl) (by kernel_rfl) (fun _ _ _ h => h) HS.out (by rfl) (fun W hW => by go_simp; intro h6; omega) ?_
  simp only [Act.put, List.setIfInBounds_toArray, List.set_cons_zero, List.set_cons_succ]
  refine wpL_take 9 42 (.agg rs.toArray) [] rfl rfl (by kernel_rfl) (by decide) (by kernel_rfl) (by kernel_rfl) (by kernel_rfl) (fun _ _ _ h => h) HS.out (by rfl) (fun W hW => by exact exec_load 64 (.tmp 41) rfl rfl (HL.out W hW)) ?_
  simp only [Act.put, List.setIfInBounds_toArray, List.set_cons_zero, List.set_cons_succ]
  refine wpL_take 10 43 (pq t) [11, 12] rfl rfl (by kernel_rfl) (by decide) (by kernel_rfl) (by kernel_rfl) (by kernel_rfl) (fun _ _ _ h => h) HS.out (by rfl) (fun W hW => by go_simp) ?_
  simp only [Act.put, List.setIfInBounds_toArray, List.set_cons_zero, List.set_cons_succ]
  refine wpL_take 11 44 (pq t) [12] rfl rfl (by kernel_rfl) (by decide) (by kernel_rfl) (by kernel_rfl) (by kernel_rfl) (fun _ _ _ h => h) HS.out (by rfl) (fun W hW => by go_simp) ?_
  simp only [Act.put, List.setIfInBounds_toArray, List.set_cons_zero, List.set_cons_succ]
  refine wpL_take 12 45 (.pointer (some ⟨t, q * 32, none⟩)) [] rfl rfl (by kernel_rfl) (by decide) (by kernel_rfl) (by kernel_rfl) (by kernel_rfl) (fun _ _ _ h => h) HS.out (by rfl) (fun W hW => by go_simp; intro h6; omega) ?_
  simp only [Act.put, List.setIfInBounds_toArray, List.set_cons_zero, List.set_cons_succ]
  refine wpL_one 13 rfl (by kernel_rfl) (by rfl) (fun K hK => ?_)
  refine wp_store_mid 64 (.tmp 45) (.tmp 42) rfl t (q * 32) rs.toArray rfl rfl HTh.out HIn.out HOn.out ?_
  refine hK.out _ _ (fun h => absurd rfl h) ?_
  clear hK K
  refine wpL_done (by kernel_rfl) ?_
  refine NoPanic.normal ?_
  go_wp2_with fail
  go_ret
  exact ⟨rfl, HW.out, HO.out⟩
set_option maxRecDepth 100000 in
set_option maxHeartbeats 1600000 in
theorem sdrop_gen (w : World) (t : Nat) (L : List Sp) (p : Int) (h : Tb w t L) (hG : GS L) : Calls Try.prog 24 #[pq t, i64 p] w fun e w' => e = .returned (i64 (ofL L p).length) ∧ Tb w' t (dropS L p) ∧ Touch t w w' := by
  have HC := hid (of_any w t L p h hG)
  have HT := hid h
  have h4 := hG.four p
  have hwt := h.lt
  have HM : Hid (∀ X s Y, ofL L p = X ++ s :: Y → s ∈ cutK L X) := fun X s Y e => cut_mem e
  have HA := hid (hG.cut_all p)
  have HI : Hid (∀ s ∈ ofL L p, 1 ≤ s.1 ∧ s.1 ≤ 6 ∧ 0 ≤ s.2.1 ∧ 1 ≤ s.2.2.1 ∧ s.2.1 + s.2.2.1 ≤ 16) := fun s hs => hG.isA (upL_mem hs).1
  generalize ofL L p = M at *
  obtain ⟨N, hN⟩ : ∃ N, N = M.length := ⟨_, rfl⟩
  have HN : Hid (N = M.length) := hN
  rw [← hN] at h4 ⊢
  clear h hN
  go_enter Try.func24, Try.ntmps24
  go_wp2_with fail
  refine HC.out.mono ?_
  rintro e2 w2 ⟨⟨ao, cap, rfl, hown⟩, hb2⟩
  have hcap := own_cap4 hown
  rw [← HN.out] at hcap hown ⊢
  have HB2 := hid hb2
  have HO2 := hid hown
  clear HC hb2 hown
  go_wp2_with fail
  go_loopw [13] (fun i wr => ∃ k : Nat, k ≤ N ∧ i = i64 k ∧ Hid (Tb wr t (cutK L (M.take k))) ∧ Hid (wr.ownsRow w.heap.size 71 4 (.slice ao N cap) N (scn M)) ∧ Hid (Touch t w wr)) (fun i _ => N - (intOf i).toNat)
  case atStart => exact ⟨0, by omega, rfl, by rw [List.take_zero, cutK_nil]; exact HT.out.below HB2.out, HO2.out, Touch.of_below HB2.out⟩
  case round =>
    obtain ⟨k, hk, rfl, HT3, HO3, HX3⟩ := hrel
    by_cases hlt : k < N
    · have hkI : (k : Int) < N := by omega
      have hkM : k < M.length := by rw [← HN.out]; exact hlt
      obtain ⟨s, hs⟩ : ∃ s, M[k]? = some s := ⟨_, List.getElem?_eq_getElem hkM⟩
      have hown := HO3.out
      rw [HN.out] at hown
      obtain ⟨g, o, rfl, hgl, c0, c1, c2, c3⟩ := (Rd4.own hown) k s hs
      have hsplit : M = M.take k ++ s :: M.drop (k + 1) := by
        have := List.getElem?_eq_some_iff.1 hs
        rw [← this.2, List.getElem_cons_drop, List.take_append_drop]
      have hmem := HM.out _ _ _ hsplit
      have htk : M.take (k + 1) = M.take k ++ [s] := by
        have := List.getElem?_eq_some_iff.1 hs
        rw [← this.2]
        exact (List.take_append_getElem hkM).symm
      have hi := HI.out s (List.mem_of_getElem? hs)
      have hclr := (hG.cutK (M.take k)).clear hmem
      rw [← cutK_snoc, ← htk] at hclr
      have HTk := hid HT3.out.lt
      obtain ⟨sp, sf, sn, so⟩ := s
      obtain ⟨r, hr⟩ : ∃ r : Nat, sp = (r : Int) + 1 := ⟨(sp - 1).toNat, by simp only at hi; omega⟩
      obtain ⟨f, hf⟩ : ∃ f : Nat, sf = (f : Int) := ⟨sf.toNat, by simp only at hi; omega⟩
      obtain ⟨n, hn⟩ : ∃ n : Nat, sn = (n : Int) := ⟨sn.toNat, by simp only at hi; omega⟩
      subst hr hf hn
      simp only at hi c0 c1 c2 c3
      have HCL := hid (hclr r f n rfl rfl rfl)
      have HBV := hid (below_one wr (sO ((r : Int) + 1, (f : Int), (n : Int), so) 71))
      have HP := hid (pages_ok (wr.alloc (sO ((r : Int) + 1, (f : Int), (n : Int), so) 71)) t r f n so (by omega) (by omega) (by omega) (by have := HT3.out.lt; simp; omega))
      have HR := hid fun W (hW : Tb W t (cutK L (M.take k))) => clear_run W t r f n _ hW (by omega) (by omega) (by omega)
      clear hs hsplit hmem htk hi hclr hown
      go_wp2_with fail
      refine HP.out.mono ?_
      rintro e4 w4 ⟨rfl, hb4⟩
      have HB4 : Hid (Below wr.heap.size wr w4) := HBV.out.trans (hb4.mono HBV.out.size)
      obtain ⟨w5, hrun, hT5, hO5⟩ := HR.out w4 (HT3.out.below HB4.out)
      have HT5 : Hid (Tb w5 t (cutK L (M.take (k + 1)))) := hT5.ext fun r' g _ _ => HCL.out r' g
      have HX5 : Hid (Touch t w w5) := (HX3.out.trans (Touch.of_below HB4.out)).trans hO5
      have HO5 : Hid (w5.ownsRow w.heap.size 71 4 (.slice (some ⟨g, o, none⟩) N cap) N (scn M)) := own_keep1 HO3.out fun b hb => by
        have := HO3.out.lt b hb
        rw [hO5.block b (Nat.lt_of_lt_of_le this.2 HB4.out.size) (by omega)]
        exact HB4.out.block b this.2
      clear HBV HP HR hb4 hT5 hO5 HT3 HO3
      go_wp2_with fail
      exact ⟨⟨k + 1, by omega, by go_num, HT5, HO5, HX5⟩, by simp [intOf]; omega⟩
    · have HE : Hid (Tb wr t (dropS L p)) := by
        have := HT3.out
        rw [List.take_of_length_le (by rw [← HN.out]; omega), HA.out] at this
        exact this
      clear HT3 HO3
      go_wp2_with fail
      go_ret
      exact ⟨rfl, HE.out, HX3.out⟩
set_option maxRecDepth 100000 in
set_option maxHeartbeats 1600000 in
theorem sdrop_nil (w : World) (p : Int) : Calls Try.prog 24 #[.pointer none, i64 p] w fun e w' => e = .returned (i64 0) ∧ Below w.heap.size w w' := by
  have HC := hid (of_no w (.pointer none) p (.inl rfl) (.inl rfl))
  go_enter Try.func24, Try.ntmps24
  go_wp2_with fail
  refine HC.out.mono ?_
  rintro e2 w2 ⟨⟨ao, cap, rfl, _⟩, hb2⟩
  have HB2 := hid hb2
  clear HC hb2
  go_wp2_with fail
  go_loopw [13] (fun i wr => i = i64 0 ∧ Hid (Below w.heap.size w wr)) (fun i _ => 0)
  case atStart => exact ⟨rfl, HB2.out⟩
  case round =>
    obtain ⟨rfl, HB3⟩ := hrel
    go_wp2_with fail
    go_ret
    exact ⟨rfl, HB3.out⟩
end Go.Proofs.Ytlkcpjefgelcoaa
