/- caps.put: its contract; no statement is proved in this text. -/
import Derived.Test.YtnknhencobhjdaaCpNew
namespace Go.Proofs.Ytnknhencobhjdaa.Cp
open Go.ChangeShapes Go.WideShapes Go.ChangeAt Go.RowKit Go.Deep
attribute [local go_sem ↓] Go.wp_at_zero Go.wp_at_succ

theorem wrap_id {x : Int} (h0 : -9223372036854775808 ≤ x) (h1 : x ≤ 9223372036854775807) : IntKind.i64.wrap x = x := by
  simp [IntKind.wrap, IntKind.bits, IntKind.signed]
  omega
theorem plC_one (p : Pl) : (plC p).toArray.all (fun x => x.oneCell') = true := all_oneCell_toArray (by intro v hv; simp only [plC, List.mem_cons, List.not_mem_nil, or_false] at hv; rcases hv with rfl | rfl | rfl | rfl | rfl | rfl <;> rfl)
theorem results_cell {W : World} {t : Array Value} {a : Addr} {u v : Value} {F : Func} {n m : Nat} {ty : TypeId} (hr : F.results = #[.cell n ty, .tmp m]) (h6 : t.getD n undef = .pointer (some a)) (h7 : t.getD m undef = v) (g : (loadVar ty a).run Try.prog W = .ok u W) :
    (results F t).run Try.prog W = .ok (.tuple #[u, v]) W := by
  simp only [results, hr]
  simp [Result.andThen, asAddr, h6, h7, g, -Array.getD_eq_getD_getElem?]
theorem load42 {W : World} {b : Nat} {s g : Int} (h : W.heap[b]? = some (.cells #[i64 s, i64 g] 43 (0, 0))) : (loadVar 43 ⟨b, 0, none⟩).run Try.prog W = .ok (.agg #[i64 s, i64 g]) W := by
  refine run_loadVar_mid _ _ 0 43 [i64 s, i64 g] _ (fun j v hv => ?_) Try.underlying43 rfl (by kernel_rfl)
  rw [Nat.zero_add, cell_of_row _ _ _ _ 43 (0, 0) h]
  simpa using hv
theorem set2 {V : World} {b : Nat} {x y : Value} {t : TypeId} (h : V.heap[b]? = some (.cells #[x, y] t)) (s g : Value) : ((V.setCell ⟨b, 0, none⟩ s).setCell ⟨b, 1, none⟩ g).heap[b]? = some (.cells #[s, g] t) := by
  have h1 := heap_setCell_same V b 0 _ t s h
  have h2 := heap_setCell_same _ b 1 _ t g h1
  simpa using h2
structure SqP (q b i : Nat) (c : Cp) (g : Int) (W : World) : Prop where
  s0 : W.cell? ⟨q, 0, none⟩ = some (i64 c.env)
  s1 : W.cell? ⟨q, 1, none⟩ = some (i64 c.kind)
  s2 : W.cell? ⟨q, 2, none⟩ = some (i64 c.num)
  s3 : W.cell? ⟨q, 3, none⟩ = some (i64 c.rts)
  s5 : W.cell? ⟨b, i * 6 + 5, none⟩ = some (i64 g)
theorem heap_sc_ne {q x : Nat} : ∀ (vs : List Value) (w : World) (o : Nat), q ≠ x → (w.setCells q o vs).heap[x]? = w.heap[x]?
  | [], _, _, _ => rfl
  | v :: r, w, o, h => by
    rw [World.setCells, heap_sc_ne r _ (o + 1) h, Below.heap_setCell _ _ _ _ (by show x ≠ q; omega)]
theorem sc_size (q : Nat) : ∀ (vs : List Value) (w : World) (o : Nat), (w.setCells q o vs).heap.size = w.heap.size
  | [], _, _ => rfl
  | v :: r, w, o => by
    rw [World.setCells, sc_size q r]
    simp [World.setCell]
set_option maxRecDepth 100000 in
set_option maxHeartbeats 3200000 in
theorem put_ok {w : World} {base b : Nat} {T : List Pl} (h : Tb w base b T) (c : Cp) (fr : Int) (i : Nat) (p : Pl) (hp : T[i]? = some p) (hf : p.c = zC) (hno : ∀ j q, j < i → T[j]? = some q → q.c ≠ zC) (hg0 : 0 ≤ p.gen) (hg1 : p.gen ≤ 1000000000) :
    Calls Try.prog 88 #[.pointer (some ⟨b, 0, none⟩), c.v, i64 fr] w fun e w' => e = .returned (.tuple #[.agg #[i64 i, i64 (p.gen + 1)], i64 0]) ∧ Tb w' base b (T.set i ⟨c, fr, p.gen + 1⟩) ∧ Touch b w w' := by
  have hi : i < 128 := by have := (List.getElem?_eq_some_iff.1 hp).1; have := h.len; omega
  have hiI : (i : Int) < 128 := by omega
  have hbl := h.lt
  obtain ⟨V, hV⟩ : ∃ V, V = (w.alloc (cO c)).alloc (hO 0 0) := ⟨_, rfl⟩
  have HVe : Hid ((w.alloc (.cells #[i64 c.env, i64 c.kind, i64 c.num, i64 c.rts] 108)).alloc (.cells #[i64 0, i64 0] 43) = V) := hV.symm
  have hBV : Below w.heap.size w V := by rw [hV]; exact (below_one w _).trans ((below_one _ _).mono (by simp))
  have HK1 : Hid (V.heap[w.heap.size]? = some (cO c)) := by rw [hV]; exact blk_alloc (heap_last w _) _
  have HK2 : Hid (V.heap[w.heap.size + 1]? = some (hO 0 0)) := by
    rw [hV]
    have := heap_last (w.alloc (cO c)) (hO 0 0)
    rwa [show (w.alloc (cO c)).heap.size = w.heap.size + 1 by simp] at this
  have hTV := h.below hBV
  have HT : Hid (Tb V base b T) := hTV
  have HB : Hid (Below w.heap.size w V) := hBV
  have hC : ∀ (k : Nat) q, T[k]? = some q → Calls Try.prog 73 #[.pointer (some ⟨b, k * 6, none⟩)] V fun e w' => e = .returned (.bool (decide (q.c = zC))) ∧ w' = V := fun k q hq =>
    free_ok V b (k * 6) q.c (hTV.cell hq 0 (by omega)) (hTV.cell hq 1 (by omega)) (hTV.cell hq 2 (by omega)) (hTV.cell hq 3 (by omega))
  have HC := hid hC
  have HNO := hid hno
  have HL := hid h.len
  have HP := hid hp
  have HF := hid hf
  clear hV hBV hTV hC h hno hp hf
  unfold Cp.v
  go_enter Try.func88, Try.ntmps88
  go_wp2_with fail
  rw [HVe.out]
  go_loopw [10] (fun u wr => ∃ k : Nat, k ≤ i ∧ u = i64 k ∧ wr = V) (fun u _ => i - (intOf u).toNat)
  case atStart => exact ⟨0, by omega, rfl, rfl⟩
  case round =>
    obtain ⟨k, hk, rfl, rfl⟩ := hrel
    have hkI : (k : Int) < 128 := by omega
    by_cases hlt : k < i
    · obtain ⟨q, hq⟩ : ∃ q, T[k]? = some q := ⟨_, List.getElem?_eq_getElem (by have := HL.out; omega)⟩
      have hcc := HC.out k q hq
      rw [decide_eq_false (HNO.out k q hlt hq)] at hcc
      have HCC := hid hcc
      clear hcc hq
      go_wp2_with (go_at_call 73; refine HCC.out.mono ?_; rintro e v' ⟨rfl, rfl⟩)
      exact ⟨⟨k + 1, by omega, by go_num, by first | trivial | rfl⟩, by simp [intOf]; omega⟩
    · obtain rfl : k = i := by omega
      have hcc := HC.out k p HP.out
      rw [decide_eq_true HF.out] at hcc
      have HCC := hid hcc
      clear hcc
      go_upto_region 6 with (go_at_call 73; refine HCC.out.mono ?_; rintro e v1 ⟨rfl, rfl⟩)
      have HS : Hid (SqP w.heap.size b k c p.gen v1.drew) := ⟨blk_cell HK1.out 0, blk_cell HK1.out 1, blk_cell HK1.out 2, blk_cell HK1.out 3, HT.out.cell HP.out 5 (by omega)⟩
      have HTH : Hid (v1.drew.there b (k * 6) 6) := HT.out.there hi
      refine wp_region_noPanic ?_
      refine wp_region_last (SqP w.heap.size b k c p.gen) 10 (by kernel_rfl) ?_
      refine wpL_take 0 20 (.pointer (some ⟨b, k * 6, none⟩)) [9] rfl rfl (by kernel_rfl) (by decide) (by kernel_rfl) (by kernel_rfl) (by kernel_rfl) (fun _ _ _ h => h) HS.out (by rfl) (fun W hW => by obtain ⟨s0, s1, s2, s3, s5⟩ := hW; go_simp) ?_
      simp only [Act.put, List.setIfInBounds_toArray, List.set_cons_zero, List.set_cons_succ]
      refine wpL_take 1 21 (.agg #[i64 c.env, i64 c.kind, i64 c.num, i64 c.rts]) [8] rfl rfl (by kernel_rfl) (by decide) (by kernel_rfl) (by kernel_rfl) (by kernel_rfl) (fun _ _ _ h => h) HS.out (by rfl) (fun W hW => by obtain ⟨s0, s1, s2, s3, s5⟩ := hW; go_simp) ?_
      simp only [Act.put, List.setIfInBounds_toArray, List.set_cons_zero, List.set_cons_succ]
      refine wpL_take 2 22 (i64 fr) [8] rfl rfl (by kernel_rfl) (by decide) (by kernel_rfl) (by kernel_rfl) (by kernel_rfl) (fun _ _ _ h => h) HS.out (by rfl) (fun W hW => by obtain ⟨s0, s1, s2, s3, s5⟩ := hW; go_simp) ?_
      simp only [Act.put, List.setIfInBounds_toArray, List.set_cons_zero, List.set_cons_succ]
      refine wpL_take 3 23 (.pointer (some ⟨b, k * 6, none⟩)) [4, 5, 6, 7, 8] rfl rfl (by kernel_rfl) (by decide) (by kernel_rfl) (by kernel_rfl) (by kernel_rfl) (fun _ _ _ h => h) HS.out (by rfl) (fun W hW => by obtain ⟨s0, s1, s2, s3, s5⟩ := hW; go_simp) ?_
      simp only [Act.put, List.setIfInBounds_toArray, List.set_cons_zero, List.set_cons_succ]
      refine wpL_take 4 24 (.pointer (some ⟨b, k * 6, none⟩)) [5, 6, 7, 8] rfl rfl (by kernel_rfl) (by decide) (by kernel_rfl) (by kernel_rfl) (by kernel_rfl) (fun _ _ _ h => h) HS.out (by rfl) (fun W hW => by obtain ⟨s0, s1, s2, s3, s5⟩ := hW; go_simp) ?_
      simp only [Act.put, List.setIfInBounds_toArray, List.set_cons_zero, List.set_cons_succ]
      refine wpL_take 5 25 (.pointer (some ⟨b, k * 6 + 5, none⟩)) [6, 7, 8] rfl rfl (by kernel_rfl) (by decide) (by kernel_rfl) (by kernel_rfl) (by kernel_rfl) (fun _ _ _ h => h) HS.out (by rfl) (fun W hW => by obtain ⟨s0, s1, s2, s3, s5⟩ := hW; go_simp) ?_
      simp only [Act.put, List.setIfInBounds_toArray, List.set_cons_zero, List.set_cons_succ]
      refine wpL_take 6 26 (i64 p.gen) [7, 8] rfl rfl (by kernel_rfl) (by decide) (by kernel_rfl) (by kernel_rfl) (by kernel_rfl) (fun _ _ _ h => h) HS.out (by rfl) (fun W hW => by obtain ⟨s0, s1, s2, s3, s5⟩ := hW; go_simp) ?_
      simp only [Act.put, List.setIfInBounds_toArray, List.set_cons_zero, List.set_cons_succ]
      refine wpL_take 7 27 (i64 (p.gen + 1)) [8] rfl rfl (by kernel_rfl) (by decide) (by kernel_rfl) (by kernel_rfl) (by kernel_rfl) (fun _ _ _ h => h) HS.out (by rfl) (fun W hW => by obtain ⟨s0, s1, s2, s3, s5⟩ := hW; go_simp; exact wrap_id (by omega) (by omega)) ?_
      simp only [Act.put, List.setIfInBounds_toArray, List.set_cons_zero, List.set_cons_succ]
      refine wpL_take 8 28 (.agg #[i64 c.env, i64 c.kind, i64 c.num, i64 c.rts, i64 fr, i64 (p.gen + 1)]) [] rfl rfl (by kernel_rfl) (by decide) (by kernel_rfl) (by kernel_rfl) (by kernel_rfl) (fun _ _ _ h => h) HS.out (by rfl) (fun W hW => by obtain ⟨s0, s1, s2, s3, s5⟩ := hW; go_simp) ?_
      simp only [Act.put, List.setIfInBounds_toArray, List.set_cons_zero, List.set_cons_succ]
      refine wpL_take 9 29 (.pointer (some ⟨b, k * 6, none⟩)) [] rfl rfl (by kernel_rfl) (by decide) (by kernel_rfl) (by kernel_rfl) (by kernel_rfl) (fun _ _ _ h => h) HS.out (by rfl) (fun W hW => by obtain ⟨s0, s1, s2, s3, s5⟩ := hW; go_simp) ?_
      simp only [Act.put, List.setIfInBounds_toArray, List.set_cons_zero, List.set_cons_succ]
      refine wpL_one 10 rfl (by kernel_rfl) (by rfl) (fun K hK => ?_)
      refine wp_store_mid 120 (.tmp 29) (.tmp 28) rfl b (k * 6) (plC ⟨c, fr, p.gen + 1⟩).toArray rfl rfl (by exact HTH.out) (by kernel_rfl) (plC_one _) ?_
      refine hK.out _ _ (fun h => absurd rfl h) ?_
      clear hK K
      refine wpL_done (by kernel_rfl) ?_
      refine NoPanic.normal ?_
      have hT2 : Tb (v1.drew.setCells b (k * 6) (plC ⟨c, fr, p.gen + 1⟩)) base b (T.set k ⟨c, fr, p.gen + 1⟩) := Tb.set (w := v1.drew) ⟨HT.out.lo, HT.out.len, HT.out.row⟩ hi _
      have HTo : Hid (Touch b w (v1.drew.setCells b (k * 6) (plC ⟨c, fr, p.gen + 1⟩))) := Touch.setCells _ _ _ (Touch.drew ⟨HB.out.os, HB.out.tape, HB.out.output, HB.out.size, fun x hx _ => HB.out.block x hx⟩)
      have HK3 : Hid ((v1.drew.setCells b (k * 6) (plC ⟨c, fr, p.gen + 1⟩)).heap[w.heap.size + 1]? = some (hO 0 0)) := by rw [heap_sc_ne _ _ _ (by omega)]; exact HK2.out
      have c5 : (v1.drew.setCells b (k * 6) (plC ⟨c, fr, p.gen + 1⟩)).cell? ⟨b, k * 6 + 5, none⟩ = some (i64 (p.gen + 1)) := hT2.cell (i := k) (p := ⟨c, fr, p.gen + 1⟩) (by rw [List.getElem?_set_self (by have := HL.out; omega)]) 5 (by omega)
      have k0 : (v1.drew.setCells b (k * 6) (plC ⟨c, fr, p.gen + 1⟩)).cell? ⟨w.heap.size + 1, 0, none⟩ = some (i64 0) := blk_cell HK3.out 0
      have k1 : (v1.drew.setCells b (k * 6) (plC ⟨c, fr, p.gen + 1⟩)).cell? ⟨w.heap.size + 1, 1, none⟩ = some (i64 0) := blk_cell HK3.out 1
      have kf : ∀ j, (v1.drew.setCells b (k * 6) (plC ⟨c, fr, p.gen + 1⟩)).frozen? ⟨w.heap.size + 1, j, none⟩ = false := blk_frozen HK3.out
      have HT2 := hid hT2
      clear hT2
      generalize v1.drew.setCells b (k * 6) (plC ⟨c, fr, p.gen + 1⟩) = U at *
      simp only [Act.put, List.setIfInBounds_toArray]
      go_wp2_with fail
      exact bodyPost_ret (results_cell Try.results88 rfl rfl (load42 (set2 HK3.out _ _))) rfl ⟨rfl, ⟨HT2.out.lo, HT2.out.len, by rw [Below.heap_setCell _ _ _ _ (by show b ≠ w.heap.size + 1; omega), Below.heap_setCell _ _ _ _ (by show b ≠ w.heap.size + 1; omega)]; exact HT2.out.row⟩, (HTo.out.setNew (by show w.heap.size ≤ w.heap.size + 1; omega) _).setNew (by show w.heap.size ≤ w.heap.size + 1; omega) _⟩
end Go.Proofs.Ytnknhencobhjdaa.Cp
