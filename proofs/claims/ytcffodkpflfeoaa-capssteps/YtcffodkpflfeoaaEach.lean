/- caps.each, Live, Handles: contracts; no statement is proved in this text. -/
import Derived.Test.YtcffodkpflfeoaaTell
namespace Go.Proofs.Ytcffodkpflfeoaa
open Go.ChangeShapes Go.WideShapes Go.ChangeAt Go.RowKit Go.Deep
attribute [local go_sem ↓] Go.wp_at_zero Go.wp_at_succ

theorem own_low {w : World} {base base' : Nat} {e : TypeId} {size : Nat} {v : Value} {n : Nat} {xs : List Value} (h : w.ownsRow base e size v n xs) (hb : base' ≤ base) : w.ownsRow base' e size v n xs := by
  refine ⟨h.1, ?_⟩
  rcases h.2 with hn | ⟨g, cap, cur, rfl, hbg, rest⟩
  · exact .inl hn
  · exact .inr ⟨g, cap, cur, rfl, by omega, rest⟩
def lvL (T : List Pl) (k : Nat) : List Nat := (List.range k).filter (tkB T)
theorem lvL_succ (T : List Pl) (k : Nat) : lvL T (k + 1) = lvL T k ++ (if tkB T k = true then [k] else []) := by
  unfold lvL
  rw [List.range_succ, List.filter_append]
  by_cases h : tkB T k = true <;> simp [h]
theorem lvL_le (T : List Pl) (k : Nat) : (lvL T k).length ≤ k := by
  unfold lvL
  exact Nat.le_trans (List.length_filter_le _ _) (by simp)
def hdA (T : List Pl) (env : Int) (s : Nat) : Option Hd := match T[s]? with
  | some p => if p.c ≠ zC ∧ p.c.env = env then some (s, p.gen) else none
  | none => none
def hdL (T : List Pl) (env : Int) (k : Nat) : List Hd := (List.range k).filterMap (hdA T env)
theorem hdL_succ (T : List Pl) (env : Int) (k : Nat) : hdL T env (k + 1) = hdL T env k ++ (hdA T env k).toList := by
  unfold hdL
  rw [List.range_succ, List.filterMap_append]
  cases h : hdA T env k <;> simp [h]
theorem hdL_le (T : List Pl) (env : Int) (k : Nat) : (hdL T env k).length ≤ k := by
  unfold hdL
  exact Nat.le_trans (List.length_filterMap_le _ _) (by simp)
structure SqE (b s : Nat) (p : Pl) (W : World) : Prop where
  s0 : W.cell? ⟨b, s * 6, none⟩ = some (i64 p.c.env)
  s1 : W.cell? ⟨b, s * 6 + 1, none⟩ = some (i64 p.c.kind)
  s2 : W.cell? ⟨b, s * 6 + 2, none⟩ = some (i64 p.c.num)
  s3 : W.cell? ⟨b, s * 6 + 3, none⟩ = some (i64 p.c.rts)
  s5 : W.cell? ⟨b, s * 6 + 5, none⟩ = some (i64 p.gen)
theorem SqE.of {W : World} {base b s : Nat} {T : List Pl} {p : Pl} (h : Tb W base b T) (hp : T[s]? = some p) : SqE b s p W :=
  ⟨h.cell hp 0 (by omega), h.cell hp 1 (by omega), h.cell hp 2 (by omega), h.cell hp 3 (by omega), h.cell hp 5 (by omega)⟩
theorem Tb.tq {w w' : World} {base b : Nat} {T : List Pl} {bs q : Nat} (h : Tb w base b T) (ht : Tq bs q w w') (hb : b < bs) (hne : b ≠ q) : Tb w' base b T := ⟨h.lo, h.len, by rw [ht.block b hb hne]; exact h.row⟩
set_option maxRecDepth 100000 in
set_option maxHeartbeats 3200000 in
theorem each_nil (w : World) (v : Value) : Calls Try.prog 32 #[.pointer none, v] w fun e w' => e = .returned (.tuple #[]) ∧ w' = w := by
  go_enter Try.func32, Try.ntmps32
  go_wp2_with fail
  exact bodyPost_ret (v := .tuple #[]) (by simp [results, Try.results32]) rfl ⟨rfl, rfl⟩
set_option maxRecDepth 100000 in
set_option maxHeartbeats 3200000 in
theorem each33 {w : World} {base b : Nat} {T : List Pl} (h : Tb w base b T) (q : Nat) (hq : w.heap[q]? = some (.cells #[i64 0] 3)) :
    Calls Try.prog 32 #[pq b, .func (.func 33) #[] #[pq q]] w fun e w' => e = .returned (.tuple #[]) ∧ w'.heap[q]? = some (.cells #[i64 (lvL T 128).length] 3) ∧ Tq w.heap.size q w w' := by
  have hbq : b ≠ q := fun e => by have := h.row; rw [e, hq] at this; simp at this
  have hbl := h.lt
  have HQ := hid hq
  clear hq
  have HT := hid h
  have hl := h.len
  clear h
  go_enter Try.func32, Try.ntmps32
  go_wp2_with fail
  go_loopw [8] (fun u wr => ∃ (k : Nat), k ≤ 128 ∧ u = i64 k ∧ Tq w.heap.size q w wr ∧ Hid (wr.heap[q]? = some (.cells #[i64 (lvL T k).length] 3))) (fun u _ => 128 - (intOf u).toNat)
  case atStart => exact ⟨0, by omega, rfl, Tq.refl _ _ _, HQ⟩
  case round =>
    obtain ⟨k, hk, rfl, hb, HX⟩ := hrel
    have HB := hid hb
    have hTr := HT.out.tq hb hbl hbq
    have HTr := hid hTr
    by_cases hlt : k < 128
    · have hkI : (k : Int) < 128 := by omega
      obtain ⟨p, hp⟩ : ∃ p, T[k]? = some p := ⟨_, List.getElem?_eq_getElem (by omega)⟩
      have hfree := free_ok wr b (k * 6) p.c (hTr.cell hp 0 (by omega)) (hTr.cell hp 1 (by omega)) (hTr.cell hp 2 (by omega)) (hTr.cell hp 3 (by omega))
      by_cases hc : p.c = zC
      · rw [decide_eq_true hc] at hfree
        have HF := hid hfree
        have HX2 : Hid (wr.heap[q]? = some (.cells #[i64 (lvL T (k + 1)).length] 3)) := by
          have e : lvL T (k + 1) = lvL T k := by rw [lvL_succ, show tkB T k = false by simp [tkB, hp, hc]]; simp
          rw [e]; exact HX
        clear hfree hb hTr hp hc
        go_wp2_with (go_at_call 36; refine HF.out.mono ?_; rintro e v1 ⟨rfl, hv⟩; replace hv := hv.symm; subst hv)
        exact ⟨⟨k + 1, by omega, by go_num, HB.out, HX2⟩, by simp [intOf]; omega⟩
      · rw [decide_eq_false hc] at hfree
        have HF := hid hfree
        have HS : Hid (SqE b k p wr.drew) := SqE.of (W := wr.drew) ⟨hTr.lo, hTr.len, hTr.row⟩ hp
        have HP := hid hp
        have HCz := hid hc
        clear hfree hb hTr hp hc
        go_upto_region 6 with (go_at_call 36; refine HF.out.mono ?_; rintro e v1 ⟨rfl, hv⟩; replace hv := hv.symm; subst hv)
        refine wp_region_noPanic ?_
        refine wp_region_last (SqE b k p) 11 (by kernel_rfl) ?_
        refine wpL_take 0 19 (.func (.func 33) #[] #[pq q]) [] rfl rfl (by kernel_rfl) (by decide) (by kernel_rfl) (by kernel_rfl) (by kernel_rfl) (fun _ _ _ h => h) HS.out (by rfl) (fun W hW => by obtain ⟨s0, s1, s2, s3, s5⟩ := hW; go_simp) ?_
        simp only [Act.put, List.setIfInBounds_toArray, List.set_cons_zero, List.set_cons_succ]
        refine wpL_take 1 20 (i64 (k : Nat)) [6] rfl rfl (by kernel_rfl) (by decide) (by kernel_rfl) (by kernel_rfl) (by kernel_rfl) (fun _ _ _ h => h) HS.out (by rfl) (fun W hW => by obtain ⟨s0, s1, s2, s3, s5⟩ := hW; go_simp) ?_
        simp only [Act.put, List.setIfInBounds_toArray, List.set_cons_zero, List.set_cons_succ]
        refine wpL_take 2 21 (.pointer (some ⟨b, k * 6, none⟩)) [3, 4, 5, 6] rfl rfl (by kernel_rfl) (by decide) (by kernel_rfl) (by kernel_rfl) (by kernel_rfl) (fun _ _ _ h => h) HS.out (by rfl) (fun W hW => by obtain ⟨s0, s1, s2, s3, s5⟩ := hW; go_simp) ?_
        simp only [Act.put, List.setIfInBounds_toArray, List.set_cons_zero, List.set_cons_succ]
        refine wpL_take 3 22 (.pointer (some ⟨b, k * 6, none⟩)) [4, 5, 6] rfl rfl (by kernel_rfl) (by decide) (by kernel_rfl) (by kernel_rfl) (by kernel_rfl) (fun _ _ _ h => h) HS.out (by rfl) (fun W hW => by obtain ⟨s0, s1, s2, s3, s5⟩ := hW; go_simp) ?_
        simp only [Act.put, List.setIfInBounds_toArray, List.set_cons_zero, List.set_cons_succ]
        refine wpL_take 4 23 (.pointer (some ⟨b, k * 6 + 5, none⟩)) [5, 6] rfl rfl (by kernel_rfl) (by decide) (by kernel_rfl) (by kernel_rfl) (by kernel_rfl) (fun _ _ _ h => h) HS.out (by rfl) (fun W hW => by obtain ⟨s0, s1, s2, s3, s5⟩ := hW; go_simp) ?_
        simp only [Act.put, List.setIfInBounds_toArray, List.set_cons_zero, List.set_cons_succ]
        refine wpL_take 5 24 (i64 p.gen) [6] rfl rfl (by kernel_rfl) (by decide) (by kernel_rfl) (by kernel_rfl) (by kernel_rfl) (fun _ _ _ h => h) HS.out (by rfl) (fun W hW => by obtain ⟨s0, s1, s2, s3, s5⟩ := hW; go_simp) ?_
        simp only [Act.put, List.setIfInBounds_toArray, List.set_cons_zero, List.set_cons_succ]
        refine wpL_take 6 25 (.agg #[i64 (k : Nat), i64 p.gen]) [] rfl rfl (by kernel_rfl) (by decide) (by kernel_rfl) (by kernel_rfl) (by kernel_rfl) (fun _ _ _ h => h) HS.out (by rfl) (fun W hW => by obtain ⟨s0, s1, s2, s3, s5⟩ := hW; go_simp) ?_
        simp only [Act.put, List.setIfInBounds_toArray, List.set_cons_zero, List.set_cons_succ]
        refine wpL_take 7 26 (.pointer (some ⟨b, k * 6, none⟩)) [8, 9, 10] rfl rfl (by kernel_rfl) (by decide) (by kernel_rfl) (by kernel_rfl) (by kernel_rfl) (fun _ _ _ h => h) HS.out (by rfl) (fun W hW => by obtain ⟨s0, s1, s2, s3, s5⟩ := hW; go_simp) ?_
        simp only [Act.put, List.setIfInBounds_toArray, List.set_cons_zero, List.set_cons_succ]
        refine wpL_take 8 27 (.pointer (some ⟨b, k * 6, none⟩)) [9, 10] rfl rfl (by kernel_rfl) (by decide) (by kernel_rfl) (by kernel_rfl) (by kernel_rfl) (fun _ _ _ h => h) HS.out (by rfl) (fun W hW => by obtain ⟨s0, s1, s2, s3, s5⟩ := hW; go_simp) ?_
        simp only [Act.put, List.setIfInBounds_toArray, List.set_cons_zero, List.set_cons_succ]
        refine wpL_take 9 28 (.pointer (some ⟨b, k * 6, none⟩)) [10] rfl rfl (by kernel_rfl) (by decide) (by kernel_rfl) (by kernel_rfl) (by kernel_rfl) (fun _ _ _ h => h) HS.out (by rfl) (fun W hW => by obtain ⟨s0, s1, s2, s3, s5⟩ := hW; go_simp) ?_
        simp only [Act.put, List.setIfInBounds_toArray, List.set_cons_zero, List.set_cons_succ]
        refine wpL_take 10 29 (.agg #[i64 p.c.env, i64 p.c.kind, i64 p.c.num, i64 p.c.rts]) [] rfl rfl (by kernel_rfl) (by decide) (by kernel_rfl) (by kernel_rfl) (by kernel_rfl) (fun _ _ _ h => h) HS.out (by rfl) (fun W hW => by obtain ⟨s0, s1, s2, s3, s5⟩ := hW; go_simp) ?_
        simp only [Act.put, List.setIfInBounds_toArray, List.set_cons_zero, List.set_cons_succ]
        refine wpL_one 11 rfl (by kernel_rfl) (by rfl) (fun K hK => ?_)
        go_simp
        refine (cl33_ok wr.drew q k p.gen p.c (lvL T k).length HX.out (by omega) (by have := lvL_le T k; omega)).mono ?_
        rintro e w3 ⟨rfl, hq3, hto⟩
        have HX2 : Hid (w3.heap[q]? = some (.cells #[i64 (lvL T (k + 1)).length] 3)) := by
          have e : lvL T (k + 1) = lvL T k ++ [k] := by rw [lvL_succ, show tkB T k = true by simp [tkB, HP.out, HCz.out]]; simp
          rw [e, List.length_append]; exact hq3
        have HB2 : Hid (Tq w.heap.size q w w3) := HB.out.drew.trans (Tq.of_touch hto HB.out.drew.size)
        clear hq3 hto
        go_simp
        refine hK.out _ _ (fun h => absurd rfl h) ?_
        clear hK K
        refine wpL_done (by kernel_rfl) ?_
        refine NoPanic.normal ?_
        go_wp2_with fail
        exact ⟨⟨k + 1, by omega, by go_num, HB2.out, HX2⟩, by simp [intOf]; omega⟩
    · obtain rfl : k = 128 := by omega
      clear hb hTr
      go_wp2_with fail
      exact bodyPost_end (v := .tuple #[]) (by simp [results, Try.results32]) rfl ⟨rfl, HX.out, HB.out⟩
set_option maxRecDepth 100000 in
set_option maxHeartbeats 3200000 in
theorem each34 {w : World} {base b : Nat} {T : List Pl} (h : Tb w base b T) (q3 q : Nat) (env : Int) (h3 : w.heap[q3]? = some (.cells #[i64 env] 3)) (hq : w.heap[q]? = some (.cells #[.slice none 0 0] 31)) :
    Calls Try.prog 32 #[pq b, .func (.func 34) #[] #[pq q3, pq q]] w fun e w' => e = .returned (.tuple #[]) ∧ (∃ v, w'.heap[q]? = some (.cells #[v] 31) ∧ w'.ownsRow w.heap.size 42 2 v (hdL T env 128).length (hcn (hdL T env 128))) ∧ Tq w.heap.size q w w' := by
  have hbq : b ≠ q := fun e => by have := h.row; rw [e, hq] at this; simp at this
  have h3q : q3 ≠ q := fun e => by rw [e, hq] at h3; simp at h3
  have hbl := h.lt
  have h3l := blk_lt h3
  have HQ := hid hq
  have H3 := hid h3
  clear hq h3
  have HT := hid h
  have hl := h.len
  clear h
  go_enter Try.func32, Try.ntmps32
  go_wp2_with fail
  go_loopw [8] (fun u wr => ∃ (k : Nat), k ≤ 128 ∧ u = i64 k ∧ Tq w.heap.size q w wr ∧ Hid (∃ v, wr.heap[q]? = some (.cells #[v] 31) ∧ wr.ownsRow w.heap.size 42 2 v (hdL T env k).length (hcn (hdL T env k)))) (fun u _ => 128 - (intOf u).toNat)
  case atStart => exact ⟨0, by omega, rfl, Tq.refl _ _ _, ⟨_, HQ.out, World.ownsRow_nil w _ 42 2⟩⟩
  case round =>
    obtain ⟨k, hk, rfl, hb, HX⟩ := hrel
    have HB := hid hb
    have hTr := HT.out.tq hb hbl hbq
    have HTr := hid hTr
    by_cases hlt : k < 128
    · have hkI : (k : Int) < 128 := by omega
      obtain ⟨p, hp⟩ : ∃ p, T[k]? = some p := ⟨_, List.getElem?_eq_getElem (by omega)⟩
      have hfree := free_ok wr b (k * 6) p.c (hTr.cell hp 0 (by omega)) (hTr.cell hp 1 (by omega)) (hTr.cell hp 2 (by omega)) (hTr.cell hp 3 (by omega))
      by_cases hc : p.c = zC
      · rw [decide_eq_true hc] at hfree
        have HF := hid hfree
        have HX2 : Hid (∃ v, wr.heap[q]? = some (.cells #[v] 31) ∧ wr.ownsRow w.heap.size 42 2 v (hdL T env (k + 1)).length (hcn (hdL T env (k + 1)))) := by
          have e : hdL T env (k + 1) = hdL T env k := by rw [hdL_succ, show hdA T env k = none by simp [hdA, hp, hc]]; simp
          rw [e]; exact HX
        clear hfree hb hTr hp hc
        go_wp2_with (go_at_call 36; refine HF.out.mono ?_; rintro e v1 ⟨rfl, hv⟩; replace hv := hv.symm; subst hv)
        exact ⟨⟨k + 1, by omega, by go_num, HB.out, HX2⟩, by simp [intOf]; omega⟩
      · rw [decide_eq_false hc] at hfree
        have HF := hid hfree
        have h3w : wr.heap[q3]? = some (.cells #[i64 env] 3) := (hb.block q3 h3l h3q).trans H3.out
        have H3w := hid h3w
        have hcall : Calls Try.prog 34 #[.agg #[i64 (k : Nat), i64 p.gen], p.c.v, pq q3, pq q] wr.drew fun e w' => e = .returned (.tuple #[]) ∧ (∃ v, w'.heap[q]? = some (.cells #[v] 31) ∧ w'.ownsRow w.heap.size 42 2 v (hdL T env (k + 1)).length (hcn (hdL T env (k + 1)))) ∧ Tq w.heap.size q wr.drew w' := by
          obtain ⟨v, hv1, hv2⟩ := HX.out
          by_cases he : p.c.env = env
          · have e : hdL T env (k + 1) = hdL T env k ++ [(k, p.gen)] := by rw [hdL_succ, show hdA T env k = some (k, p.gen) by simp [hdA, hp, hc, he]]; simp
            rw [e]
            refine (cl34_yes wr.drew q3 q w.heap.size k p.gen env p.c h3w he v (hdL T env k) hv1 (own_keep hv2 (fun _ _ h => h)) (by have := hdL_le T env k; omega) hb.size).mono ?_
            rintro e w' ⟨h1, v', h2, h3, h4⟩
            exact ⟨h1, ⟨v', h2, h3⟩, h4⟩
          · have e : hdL T env (k + 1) = hdL T env k := by rw [hdL_succ, show hdA T env k = none by simp [hdA, hp, he]]; simp
            rw [e]
            refine (cl34_no wr.drew q3 q k p.gen env p.c h3w he).mono ?_
            rintro e w' ⟨h1, h2⟩
            exact ⟨h1, ⟨v, blk_below (w := wr.drew) hv1 h2, own_keep hv2 (fun k C hC => blk_below (w := wr.drew) hC h2)⟩, Tq.of_below (h2.mono hb.size)⟩
        have HCl := hid hcall
        clear hcall h3w
        have HS : Hid (SqE b k p wr.drew) := SqE.of (W := wr.drew) ⟨hTr.lo, hTr.len, hTr.row⟩ hp
        have HP := hid hp
        have HCz := hid hc
        clear hfree hb hTr hp hc
        go_upto_region 6 with (go_at_call 36; refine HF.out.mono ?_; rintro e v1 ⟨rfl, hv⟩; replace hv := hv.symm; subst hv)
        refine wp_region_noPanic ?_
        refine wp_region_last (SqE b k p) 11 (by kernel_rfl) ?_
        refine wpL_take 0 19 (.func (.func 34) #[] #[pq q3, pq q]) [] rfl rfl (by kernel_rfl) (by decide) (by kernel_rfl) (by kernel_rfl) (by kernel_rfl) (fun _ _ _ h => h) HS.out (by rfl) (fun W hW => by obtain ⟨s0, s1, s2, s3, s5⟩ := hW; go_simp) ?_
        simp only [Act.put, List.setIfInBounds_toArray, List.set_cons_zero, List.set_cons_succ]
        refine wpL_take 1 20 (i64 (k : Nat)) [6] rfl rfl (by kernel_rfl) (by decide) (by kernel_rfl) (by kernel_rfl) (by kernel_rfl) (fun _ _ _ h => h) HS.out (by rfl) (fun W hW => by obtain ⟨s0, s1, s2, s3, s5⟩ := hW; go_simp) ?_
        simp only [Act.put, List.setIfInBounds_toArray, List.set_cons_zero, List.set_cons_succ]
        refine wpL_take 2 21 (.pointer (some ⟨b, k * 6, none⟩)) [3, 4, 5, 6] rfl rfl (by kernel_rfl) (by decide) (by kernel_rfl) (by kernel_rfl) (by kernel_rfl) (fun _ _ _ h => h) HS.out (by rfl) (fun W hW => by obtain ⟨s0, s1, s2, s3, s5⟩ := hW; go_simp) ?_
        simp only [Act.put, List.setIfInBounds_toArray, List.set_cons_zero, List.set_cons_succ]
        refine wpL_take 3 22 (.pointer (some ⟨b, k * 6, none⟩)) [4, 5, 6] rfl rfl (by kernel_rfl) (by decide) (by kernel_rfl) (by kernel_rfl) (by kernel_rfl) (fun _ _ _ h => h) HS.out (by rfl) (fun W hW => by obtain ⟨s0, s1, s2, s3, s5⟩ := hW; go_simp) ?_
        simp only [Act.put, List.setIfInBounds_toArray, List.set_cons_zero, List.set_cons_succ]
        refine wpL_take 4 23 (.pointer (some ⟨b, k * 6 + 5, none⟩)) [5, 6] rfl rfl (by kernel_rfl) (by decide) (by kernel_rfl) (by kernel_rfl) (by kernel_rfl) (fun _ _ _ h => h) HS.out (by rfl) (fun W hW => by obtain ⟨s0, s1, s2, s3, s5⟩ := hW; go_simp) ?_
        simp only [Act.put, List.setIfInBounds_toArray, List.set_cons_zero, List.set_cons_succ]
        refine wpL_take 5 24 (i64 p.gen) [6] rfl rfl (by kernel_rfl) (by decide) (by kernel_rfl) (by kernel_rfl) (by kernel_rfl) (fun _ _ _ h => h) HS.out (by rfl) (fun W hW => by obtain ⟨s0, s1, s2, s3, s5⟩ := hW; go_simp) ?_
        simp only [Act.put, List.setIfInBounds_toArray, List.set_cons_zero, List.set_cons_succ]
        refine wpL_take 6 25 (.agg #[i64 (k : Nat), i64 p.gen]) [] rfl rfl (by kernel_rfl) (by decide) (by kernel_rfl) (by kernel_rfl) (by kernel_rfl) (fun _ _ _ h => h) HS.out (by rfl) (fun W hW => by obtain ⟨s0, s1, s2, s3, s5⟩ := hW; go_simp) ?_
        simp only [Act.put, List.setIfInBounds_toArray, List.set_cons_zero, List.set_cons_succ]
        refine wpL_take 7 26 (.pointer (some ⟨b, k * 6, none⟩)) [8, 9, 10] rfl rfl (by kernel_rfl) (by decide) (by kernel_rfl) (by kernel_rfl) (by kernel_rfl) (fun _ _ _ h => h) HS.out (by rfl) (fun W hW => by obtain ⟨s0, s1, s2, s3, s5⟩ := hW; go_simp) ?_
        simp only [Act.put, List.setIfInBounds_toArray, List.set_cons_zero, List.set_cons_succ]
        refine wpL_take 8 27 (.pointer (some ⟨b, k * 6, none⟩)) [9, 10] rfl rfl (by kernel_rfl) (by decide) (by kernel_rfl) (by kernel_rfl) (by kernel_rfl) (fun _ _ _ h => h) HS.out (by rfl) (fun W hW => by obtain ⟨s0, s1, s2, s3, s5⟩ := hW; go_simp) ?_
        simp only [Act.put, List.setIfInBounds_toArray, List.set_cons_zero, List.set_cons_succ]
        refine wpL_take 9 28 (.pointer (some ⟨b, k * 6, none⟩)) [10] rfl rfl (by kernel_rfl) (by decide) (by kernel_rfl) (by kernel_rfl) (by kernel_rfl) (fun _ _ _ h => h) HS.out (by rfl) (fun W hW => by obtain ⟨s0, s1, s2, s3, s5⟩ := hW; go_simp) ?_
        simp only [Act.put, List.setIfInBounds_toArray, List.set_cons_zero, List.set_cons_succ]
        refine wpL_take 10 29 (.agg #[i64 p.c.env, i64 p.c.kind, i64 p.c.num, i64 p.c.rts]) [] rfl rfl (by kernel_rfl) (by decide) (by kernel_rfl) (by kernel_rfl) (by kernel_rfl) (fun _ _ _ h => h) HS.out (by rfl) (fun W hW => by obtain ⟨s0, s1, s2, s3, s5⟩ := hW; go_simp) ?_
        simp only [Act.put, List.setIfInBounds_toArray, List.set_cons_zero, List.set_cons_succ]
        refine wpL_one 11 rfl (by kernel_rfl) (by rfl) (fun K hK => ?_)
        go_simp
        refine (HCl.out).mono ?_
        rintro e w3 ⟨rfl, hx, hto⟩
        have HX2 := hid hx
        have HB2 : Hid (Tq w.heap.size q w w3) := HB.out.drew.trans hto
        clear hx hto
        go_simp
        refine hK.out _ _ (fun h => absurd rfl h) ?_
        clear hK K
        refine wpL_done (by kernel_rfl) ?_
        refine NoPanic.normal ?_
        go_wp2_with fail
        exact ⟨⟨k + 1, by omega, by go_num, HB2.out, HX2⟩, by simp [intOf]; omega⟩
    · obtain rfl : k = 128 := by omega
      clear hb hTr
      go_wp2_with fail
      exact bodyPost_end (v := .tuple #[]) (by simp [results, Try.results32]) rfl ⟨rfl, HX.out, HB.out⟩
set_option maxRecDepth 100000 in
set_option maxHeartbeats 3200000 in
theorem live_ok {w : World} {base b : Nat} {T : List Pl} (h : Tb w base b T) : Calls Try.prog 11 #[pq b] w fun e w' => e = .returned (i64 (lvL T 128).length) ∧ Below w.heap.size w w' := by
  have HE : Hid (Calls Try.prog 32 #[pq b, .func (.func 33) #[] #[pq w.heap.size]] (w.alloc (.cells #[i64 0] 3)) fun e w' => e = .returned (.tuple #[]) ∧ w'.heap[w.heap.size]? = some (.cells #[i64 (lvL T 128).length] 3) ∧ Tq (w.alloc (.cells #[i64 0] 3)).heap.size w.heap.size (w.alloc (.cells #[i64 0] 3)) w') := each33 (h.below (below_one w _)) w.heap.size (heap_last w _)
  have HB0 : Hid (Below w.heap.size w (w.alloc (.cells #[i64 0] 3))) := below_one w _
  have hsz : (w.alloc (.cells #[i64 0] 3)).heap.size = w.heap.size + 1 := by simp
  have HSZ := hid hsz
  clear h hsz
  go_enter Try.func11, Try.ntmps11
  go_wp2_with fail
  refine HE.out.mono ?_
  rintro e w1 ⟨rfl, hq, ht⟩
  have HB1 : Hid (Below w.heap.size w w1) := HB0.out.trans ⟨ht.os, ht.tape, ht.output, ht.size, fun k hk => ht.block k (by rw [HSZ.out]; omega) (by omega)⟩
  have q0 : w1.cell? ⟨w.heap.size, 0, none⟩ = some (i64 (lvL T 128).length) := blk_cell hq 0
  clear hq ht
  go_wp2_with fail
  go_ret
  exact ⟨rfl, HB1.out⟩
set_option maxRecDepth 100000 in
set_option maxHeartbeats 3200000 in
theorem live_nil (w : World) : Calls Try.prog 11 #[.pointer none] w fun e w' => e = .returned (i64 0) ∧ Below w.heap.size w w' := by
  have HB0 : Hid (Below w.heap.size w (w.alloc (.cells #[i64 0] 3))) := below_one w _
  go_enter Try.func11, Try.ntmps11
  go_wp2_with fail
  refine (each_nil _ _).mono ?_
  rintro e w1 ⟨rfl, rfl⟩
  go_wp2_with fail
  go_ret
  exact ⟨rfl, HB0.out⟩
set_option maxRecDepth 100000 in
set_option maxHeartbeats 3200000 in
theorem handles_ok {w : World} {base b : Nat} {T : List Pl} (h : Tb w base b T) (env : Int) : Calls Try.prog 14 #[pq b, i64 env] w fun e w' => (∃ v, e = .returned v ∧ w'.ownsRow w.heap.size 42 2 v (hdL T env 128).length (hcn (hdL T env 128))) ∧ Below w.heap.size w w' := by
  have hB0 : Below w.heap.size w ((w.alloc (.cells #[i64 env] 3)).alloc (.cells #[.slice none 0 0] 31)) := (below_one w _).trans ((below_one _ _).mono (by simp))
  have h3 : ((w.alloc (.cells #[i64 env] 3)).alloc (.cells #[.slice none 0 0] 31)).heap[w.heap.size]? = some (.cells #[i64 env] 3) := blk_alloc (heap_last w _) _
  have hq : ((w.alloc (.cells #[i64 env] 3)).alloc (.cells #[.slice none 0 0] 31)).heap[w.heap.size + 1]? = some (.cells #[.slice none 0 0] 31) := by
    have := heap_last (w.alloc (.cells #[i64 env] 3)) (.cells #[.slice none 0 0] 31)
    rwa [show (w.alloc (.cells #[i64 env] 3)).heap.size = w.heap.size + 1 by simp] at this
  have HE := hid (each34 (h.below hB0) w.heap.size (w.heap.size + 1) env h3 hq)
  have HB0 := hid hB0
  have HSZ : Hid (((w.alloc (.cells #[i64 env] 3)).alloc (.cells #[.slice none 0 0] 31)).heap.size = w.heap.size + 2) := by show _ = _; simp
  clear h hB0 h3 hq
  go_enter Try.func14, Try.ntmps14
  go_wp2_with fail
  refine HE.out.mono ?_
  rintro e w1 ⟨rfl, ⟨v, hq, ho⟩, ht⟩
  obtain ⟨ao, cap, rfl, _⟩ := own_slice ho
  have HO : Hid (w1.ownsRow w.heap.size 42 2 (.slice ao (hdL T env 128).length cap) (hdL T env 128).length (hcn (hdL T env 128))) := own_low ho (by have := HB0.out.size; omega)
  have HB1 : Hid (Below w.heap.size w w1) := HB0.out.trans ⟨ht.os, ht.tape, ht.output, ht.size, fun k hk => ht.block k (by rw [HSZ.out]; omega) (by omega)⟩
  have q0 : w1.cell? ⟨w.heap.size + 1, 0, none⟩ = some (.slice ao (hdL T env 128).length cap) := blk_cell hq 0
  clear hq ht ho
  go_wp2_with fail
  go_ret
  exact ⟨⟨_, rfl, HO.out⟩, HB1.out⟩
set_option maxRecDepth 100000 in
set_option maxHeartbeats 3200000 in
theorem handles_nil (w : World) (env : Int) : Calls Try.prog 14 #[.pointer none, i64 env] w fun e w' => e = .returned (.slice none 0 0) ∧ Below w.heap.size w w' := by
  have HB0 : Hid (Below w.heap.size w ((w.alloc (.cells #[i64 env] 3)).alloc (.cells #[.slice none 0 0] 31))) := (below_one w _).trans ((below_one _ _).mono (by simp))
  go_enter Try.func14, Try.ntmps14
  go_wp2_with fail
  refine (each_nil _ _).mono ?_
  rintro e w1 ⟨rfl, rfl⟩
  go_wp2_with fail
  go_ret
  exact ⟨rfl, HB0.out⟩
end Go.Proofs.Ytcffodkpflfeoaa
