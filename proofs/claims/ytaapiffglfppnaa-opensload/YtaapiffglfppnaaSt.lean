/- OpensSteps' walk; no statement is proved in this text. -/
import Derived.Test.YtaapiffglfppnaaDo
import Derived.Test.YtaapiffglfppnaaNi
namespace Go.Proofs.Ytaapiffglfppnaa
open Go.ChangeShapes Go.WideShapes Go.ChangeAt Go.RowKit Go.Deep
attribute [local go_sem ↓] Go.wp_at_zero Go.wp_at_succ

theorem zero30 (w : World) : (zeroValue 30).run Try.prog w = .ok (.agg #[.slice none 0 0, .slice none 0 0]) w := by kernel_rfl
theorem eq41 (w : World) (p s a b c : Int) : (Op.equalIn 10000 41 (ev p s a b c) (ev p s a b c)).run Try.prog w = .ok true w := by
  rw [run_equalIn_struct w 9999 41 _ _ (by kernel_rfl) (by kernel_rfl)]
  have p0 : ∀ (p s a b c : Int) (w : World), (part 3 #[i64 p, i64 s, i64 a, i64 b, i64 c] 0).run Try.prog w = .ok (i64 p) w := fun _ _ _ _ _ w => by kernel_rfl
  have p1 : ∀ (p s a b c : Int) (w : World), (part 3 #[i64 p, i64 s, i64 a, i64 b, i64 c] 1).run Try.prog w = .ok (i64 s) w := fun _ _ _ _ _ w => by kernel_rfl
  have p2 : ∀ (p s a b c : Int) (w : World), (part 3 #[i64 p, i64 s, i64 a, i64 b, i64 c] 2).run Try.prog w = .ok (i64 a) w := fun _ _ _ _ _ w => by kernel_rfl
  have p3 : ∀ (p s a b c : Int) (w : World), (part 3 #[i64 p, i64 s, i64 a, i64 b, i64 c] 3).run Try.prog w = .ok (i64 b) w := fun _ _ _ _ _ w => by kernel_rfl
  have p4 : ∀ (p s a b c : Int) (w : World), (part 3 #[i64 p, i64 s, i64 a, i64 b, i64 c] 4).run Try.prog w = .ok (i64 c) w := fun _ _ _ _ _ w => by kernel_rfl
  simp only [Program.fieldsOf, Try.underlying41]
  simp [Op.eqFields, p0, p1, p2, p3, p4, eqIn, Result.andThen]
theorem jn0 : Jn A0 V0 := ⟨fun _ _ _ _ _ h => (by cases h), fun _ _ _ _ _ _ _ _ _ _ h => (by cases h), fun _ _ _ _ _ h => (by cases h)⟩
theorem bs_new {W : World} {t : Nat} (h : Tg W t A0 V0) : BsX (W.alloc (.cells #[.slice none 0 0, .slice none 0 0] 30)) t W.heap.size W.heap.size := ⟨A0, V0, jn0, h.below (below_one W _), rt_new W _ (Nat.le_refl _), Nat.le_of_lt h.lt⟩
theorem get_two {t b r : Nat} {A : Tab} {V : Nat → Op4} (hJ : Jn A V) (p s : Int) : ∃ p0 s0 a0 b0 c0 er : Int, (∀ W, Tg W t A V → Calls Try.prog 14 #[pq t, i64 p, i64 s] W fun e w' => e = .returned (.tuple #[ev p0 s0 a0 b0 c0, i64 er]) ∧ Below W.heap.size W w') ∧ ∀ W, Rt W b r (opL A V) (slL A V) → Calls Try.prog 15 #[pq r, i64 p, i64 s] W fun e w' => e = .returned (.tuple #[ev p0 s0 a0 b0 c0, i64 er]) ∧ Below W.heap.size W w' := by
  have hl := sl_len A V
  have hO := op_len A V
  cases ha : atA A p s with
  | none => exact ⟨0, 0, 0, 0, 0, 6, fun W h => get_none W (pq t) A V p s h.tv ha, fun W h => rget_none p s h (by omega) (find_none ha)⟩
  | some a =>
    have hs := find_at2 (V := V) ha
    refine ⟨p, s, (V a).2.1, (V a).2.2.1, (V a).2.2.2, 0, fun W h => get_some W (pq t) A V p s a h.tv ha, fun W h => ?_⟩
    obtain ⟨u, g, rfl, rfl, hu, hg, hA⟩ := atA_some ha
    exact rget_some _ _ _ (V a) h (by omega) (by omega) hs (op_find hJ hu hg hA)
set_option maxRecDepth 100000 in
set_option maxHeartbeats 12800000 in
theorem steps_any (w : World) (ao : Option Addr) (len cap : Nat) (f : Nat → Stp) (hlen : len ≤ maxLen) (hS : SSl w ao len f) : Calls Try.prog 3 #[.slice ao len cap] w fun e w' => e = .returned (.bool true) ∧ Below w.heap.size w w' := by
  have hm : (len : Int) ≤ 9223372036854775807 := by unfold maxLen at hlen; omega
  have HSb := hid hS
  have HNw := hid (new_ok w V0)
  obtain ⟨t, ht⟩ : ∃ t, t = w.heap.size := ⟨_, rfl⟩
  have HT := hid ht
  rw [← ht] at HNw ⊢
  clear hS hlen ht
  by_cases h60 : 60 < len
  · have h60' : (60 : Int) < len := by omega
    go_enter Try.func3, Try.ntmps3
    go_wp2_with fail
    refine HNw.out.mono ?_
    rintro e w1 ⟨rfl, ht1, hb1⟩
    have HB1 : Hid (Below t w w1) := hb1
    have hlo1 : t ≤ w1.heap.size := Nat.le_of_lt ht1.lt
    clear ht1 hb1 HNw
    go_wp2_with fail
    refine (nine_ok w1).mono ?_
    rintro e w2 ⟨rfl, hb2⟩
    have HB2 : Hid (Below t w w2) := HB1.out.trans (hb2.mono hlo1)
    clear hb2
    go_wp2_with fail
    go_ret
    exact ⟨rfl, HB2.out⟩
  have h60' : ¬ (60 : Int) < len := by omega
  go_enter Try.func3, Try.ntmps3
  go_wp2_with fail
  refine HNw.out.mono ?_
  rintro e w1 ⟨rfl, ht1, hb1⟩
  have HT1 := hid ht1
  have HB1 : Hid (Below t w w1) := hb1
  clear ht1 hb1 HNw
  have hz30 := zero30
  go_wp2_with fail
  have HW3 : Hid (BsX (w1.alloc (.cells #[.slice none 0 0, .slice none 0 0] 30)) t w1.heap.size w1.heap.size) := bs_new HT1.out
  have HB3 : Hid (Below t w (w1.alloc (.cells #[.slice none 0 0, .slice none 0 0] 30))) := HB1.out.trans ((below_one w1 _).mono (Nat.le_of_lt HT1.out.lt))
  clear hz30
  obtain ⟨r, hr⟩ : ∃ r, r = w1.heap.size := ⟨_, rfl⟩
  rw [← hr] at HW3 ⊢
  generalize w1.alloc (.cells #[.slice none 0 0, .slice none 0 0] 30) = w3 at *
  clear hr HT1 HB1
  go_loopw [28] (fun u wr => ∃ (k : Nat), k ≤ len ∧ u = i64 k ∧ Hid (BsX wr t r r) ∧ Hid (Below t w wr)) (fun u _ => len - (intOf u).toNat)
  case atStart => exact ⟨0, by omega, rfl, HW3, HB3⟩
  case round =>
    obtain ⟨k, hk, rfl, HBo, HBw⟩ := hrel
    by_cases hlt : k < len
    · have hkI : (k : Int) < len := by omega
      obtain ⟨b0, off, rfl, hbl, hr⟩ := (HSb.out.below (HT.out ▸ HBw.out)).at hlt
      obtain ⟨x, hx⟩ : ∃ x, f k = x := ⟨_, rfl⟩
      rw [hx] at hr
      have c0 : wr.cell? ⟨b0, off + k * 6, none⟩ = some (i64 x.what) := hr 0 _ rfl
      have c1 : wr.cell? ⟨b0, off + k * 6 + 1, none⟩ = some (i64 x.pid) := hr 1 _ rfl
      have c2 : wr.cell? ⟨b0, off + k * 6 + 2, none⟩ = some (i64 x.slot) := hr 2 _ rfl
      have c3 : wr.cell? ⟨b0, off + k * 6 + 3, none⟩ = some (i64 x.kind) := hr 3 _ rfl
      have c4 : wr.cell? ⟨b0, off + k * 6 + 4, none⟩ = some (i64 x.obj) := hr 4 _ rfl
      have c5 : wr.cell? ⟨b0, off + k * 6 + 5, none⟩ = some (i64 x.n) := hr 5 _ rfl
      have HBV : Hid (Below t w (wr.alloc (spO x))) := HBw.out.alloc HBo.out.lob _
      have HBoV : Hid (BsX (wr.alloc (spO x)) t r r) := HBo.out.below (below_one wr _)
      have HX : Hid ((wr.alloc (spO x)).heap[wr.heap.size]? = some (spO x)) := heap_last wr _
      clear hx hr
      have HD := hid (does_ok (wr.alloc (spO x)).drew t r r x HBoV.out.drew)
      clear HW3 HB3
      go_upto_region 8 with fail
      have HSd : Hid ((fun W : World => W.heap[wr.heap.size]? = some (spO x)) (wr.alloc (spO x)).drew) := HX.out
      clear c0 c1 c2 c3 c4 c5
      refine wp_region_noPanic ?_
      refine wp_region_last (fun W : World => W.heap[wr.heap.size]? = some (spO x)) 25 (by kernel_rfl) ?_
      refine wpL_take 0 32 (pq t) [3, 5, 8, 11] rfl rfl (by kernel_rfl) (by decide) (by kernel_rfl) (by kernel_rfl) (by kernel_rfl) (fun _ _ _ h => h) HSd.out (by rfl) (fun W hW => by obtain ⟨y0, y1, y2, y3, y4, y5⟩ := six_cells hW; go_simp) ?_
      simp only [Act.put, List.setIfInBounds_toArray, List.set_cons_zero, List.set_cons_succ]
      refine wpL_take 1 33 (pq r) [3, 5, 8, 11] rfl rfl (by kernel_rfl) (by decide) (by kernel_rfl) (by kernel_rfl) (by kernel_rfl) (fun _ _ _ h => h) HSd.out (by rfl) (fun W hW => by obtain ⟨y0, y1, y2, y3, y4, y5⟩ := six_cells hW; go_simp) ?_
      simp only [Act.put, List.setIfInBounds_toArray, List.set_cons_zero, List.set_cons_succ]
      refine wpL_take 2 34 (x.v) [3, 5, 8, 11] rfl rfl (by kernel_rfl) (by decide) (by kernel_rfl) (by kernel_rfl) (by kernel_rfl) (fun _ _ _ h => h) HSd.out (by rfl) (fun W hW => by obtain ⟨y0, y1, y2, y3, y4, y5⟩ := six_cells hW; go_simp) ?_
      simp only [Act.put, List.setIfInBounds_toArray, List.set_cons_zero, List.set_cons_succ]
      refine wpL_one 3 rfl (by kernel_rfl) (by rfl) (fun K hK => ?_)
      go_simp
      refine HD.out.mono ?_
      rintro e w5 ⟨rfl, hbo5, hf5⟩
      have HB5 : Hid (Below t w w5) := HBV.out.drew.trans hf5.below
      have HS5 : Hid ((fun W : World => W.heap[wr.heap.size]? = some (spO x)) w5) := hf5.kept _ _ HX.out rfl
      obtain ⟨A, V, hbo⟩ := hbo5
      have HBo5 := hid hbo
      have HSm := hid (same_ok hbo.tg hbo.jn hbo.rt)
      have HRp := hid fun W (hW : Bs W t r r A V) => refs_ok W (pq t) A V x.kind x.obj hW.tg.tv
      have HRd : Hid (∀ W, Bs W t r r A V → Calls Try.prog 13 #[pq r, i64 x.kind, i64 x.obj] W fun e w' => e = .returned (i64 (refN (nmL A V) x.kind x.obj)) ∧ Below W.heap.size W w') := fun W hW => by
        have h1 := rrefs_ok x.kind x.obj hW.rt (by have := op_len A V; omega) (by have := sl_len A V; omega) (named_op hW.jn)
        rw [ref_op hW.jn] at h1
        exact h1
      obtain ⟨p0, s0, a0, b1, d0, er, hg1, hg2⟩ := get_two (t := t) (b := r) (r := r) hbo.jn x.pid x.slot
      have HG1 := hid hg1
      have HG2 := hid hg2
      generalize refN (nmL A V) x.kind x.obj = NR at *
      clear hbo hf5 HD hg1 hg2
      go_simp
      refine hK.out _ _ (fun _ => HS5.out) ?_
      clear hK K
      refine wpL_take 4 36 (.bool false) [5, 8, 11] rfl rfl (by kernel_rfl) (by decide) (by kernel_rfl) (by kernel_rfl) (by kernel_rfl) (fun _ _ _ h => h) HS5.out (by rfl) (fun W hW => by obtain ⟨y0, y1, y2, y3, y4, y5⟩ := six_cells hW; go_simp) ?_
      simp only [Act.put, List.setIfInBounds_toArray, List.set_cons_zero, List.set_cons_succ]
      refine wpL_take 5 37 (.bool false) [8, 11] rfl rfl (by kernel_rfl) (by decide) (by kernel_rfl) (by kernel_rfl) (by kernel_rfl) (fun _ _ _ h => h) HS5.out (by rfl) (fun W hW => by obtain ⟨y0, y1, y2, y3, y4, y5⟩ := six_cells hW; go_simp) ?_
      simp only [Act.put, List.setIfInBounds_toArray, List.set_cons_zero, List.set_cons_succ]
      refine wpL_take 6 38 (pq t) [8, 11] rfl rfl (by kernel_rfl) (by decide) (by kernel_rfl) (by kernel_rfl) (by kernel_rfl) (fun _ _ _ h => h) HS5.out (by rfl) (fun W hW => by obtain ⟨y0, y1, y2, y3, y4, y5⟩ := six_cells hW; go_simp) ?_
      simp only [Act.put, List.setIfInBounds_toArray, List.set_cons_zero, List.set_cons_succ]
      refine wpL_take 7 39 (pq r) [8, 11] rfl rfl (by kernel_rfl) (by decide) (by kernel_rfl) (by kernel_rfl) (by kernel_rfl) (fun _ _ _ h => h) HS5.out (by rfl) (fun W hW => by obtain ⟨y0, y1, y2, y3, y4, y5⟩ := six_cells hW; go_simp) ?_
      simp only [Act.put, List.setIfInBounds_toArray, List.set_cons_zero, List.set_cons_succ]
      refine wpL_one 8 rfl (by kernel_rfl) (by rfl) (fun K hK => ?_)
      go_simp
      refine HSm.out.mono ?_
      rintro e w6 ⟨rfl, hb⟩
      have HB6 : Hid (Below t w w6) := HB5.out.trans (hb.mono HBo5.out.lob)
      have HBo6 := hid (HBo5.out.below hb)
      have HS6 : Hid ((fun W : World => W.heap[wr.heap.size]? = some (spO x)) w6) := blk_below HS5.out hb
      have HR6 := hid (HRp.out w6 HBo6.out)
      clear hb HSm
      go_simp
      refine hK.out _ _ (fun _ => HS6.out) ?_
      clear hK K
      refine wpL_take 9 41 (.bool false) [10, 11] rfl rfl (by kernel_rfl) (by decide) (by kernel_rfl) (by kernel_rfl) (by kernel_rfl) (fun _ _ _ h => h) HS6.out (by rfl) (fun W hW => by obtain ⟨y0, y1, y2, y3, y4, y5⟩ := six_cells hW; go_simp) ?_
      simp only [Act.put, List.setIfInBounds_toArray, List.set_cons_zero, List.set_cons_succ]
      refine wpL_take 10 42 (.bool false) [11] rfl rfl (by kernel_rfl) (by decide) (by kernel_rfl) (by kernel_rfl) (by kernel_rfl) (fun _ _ _ h => h) HS6.out (by rfl) (fun W hW => by obtain ⟨y0, y1, y2, y3, y4, y5⟩ := six_cells hW; go_simp) ?_
      simp only [Act.put, List.setIfInBounds_toArray, List.set_cons_zero, List.set_cons_succ]
      refine wpL_take 11 43 (.bool false) [] rfl rfl (by kernel_rfl) (by decide) (by kernel_rfl) (by kernel_rfl) (by kernel_rfl) (fun _ _ _ h => h) HS6.out (by rfl) (fun W hW => by obtain ⟨y0, y1, y2, y3, y4, y5⟩ := six_cells hW; go_simp) ?_
      simp only [Act.put, List.setIfInBounds_toArray, List.set_cons_zero, List.set_cons_succ]
      refine wpL_take 12 44 (pq t) [17, 24] rfl rfl (by kernel_rfl) (by decide) (by kernel_rfl) (by kernel_rfl) (by kernel_rfl) (fun _ _ _ h => h) HS6.out (by rfl) (fun W hW => by obtain ⟨y0, y1, y2, y3, y4, y5⟩ := six_cells hW; go_simp) ?_
      simp only [Act.put, List.setIfInBounds_toArray, List.set_cons_zero, List.set_cons_succ]
      refine wpL_take 13 45 (.pointer (some ⟨wr.heap.size, 3, none⟩)) [14, 17, 24] rfl rfl (by kernel_rfl) (by decide) (by kernel_rfl) (by kernel_rfl) (by kernel_rfl) (fun _ _ _ h => h) HS6.out (by rfl) (fun W hW => by obtain ⟨y0, y1, y2, y3, y4, y5⟩ := six_cells hW; go_simp) ?_
      simp only [Act.put, List.setIfInBounds_toArray, List.set_cons_zero, List.set_cons_succ]
      refine wpL_take 14 46 (i64 x.kind) [17, 24] rfl rfl (by kernel_rfl) (by decide) (by kernel_rfl) (by kernel_rfl) (by kernel_rfl) (fun _ _ _ h => h) HS6.out (by rfl) (fun W hW => by obtain ⟨y0, y1, y2, y3, y4, y5⟩ := six_cells hW; go_simp) ?_
      simp only [Act.put, List.setIfInBounds_toArray, List.set_cons_zero, List.set_cons_succ]
      refine wpL_take 15 47 (.pointer (some ⟨wr.heap.size, 4, none⟩)) [16, 17, 24] rfl rfl (by kernel_rfl) (by decide) (by kernel_rfl) (by kernel_rfl) (by kernel_rfl) (fun _ _ _ h => h) HS6.out (by rfl) (fun W hW => by obtain ⟨y0, y1, y2, y3, y4, y5⟩ := six_cells hW; go_simp) ?_
      simp only [Act.put, List.setIfInBounds_toArray, List.set_cons_zero, List.set_cons_succ]
      refine wpL_take 16 48 (i64 x.obj) [17, 24] rfl rfl (by kernel_rfl) (by decide) (by kernel_rfl) (by kernel_rfl) (by kernel_rfl) (fun _ _ _ h => h) HS6.out (by rfl) (fun W hW => by obtain ⟨y0, y1, y2, y3, y4, y5⟩ := six_cells hW; go_simp) ?_
      simp only [Act.put, List.setIfInBounds_toArray, List.set_cons_zero, List.set_cons_succ]
      refine wpL_take 18 50 (pq r) [23, 24] rfl rfl (by kernel_rfl) (by decide) (by kernel_rfl) (by kernel_rfl) (by kernel_rfl) (fun _ _ _ h => h) HS6.out (by rfl) (fun W hW => by obtain ⟨y0, y1, y2, y3, y4, y5⟩ := six_cells hW; go_simp) ?_
      simp only [Act.put, List.setIfInBounds_toArray, List.set_cons_zero, List.set_cons_succ]
      refine wpL_take 19 51 (.pointer (some ⟨wr.heap.size, 3, none⟩)) [20, 23, 24] rfl rfl (by kernel_rfl) (by decide) (by kernel_rfl) (by kernel_rfl) (by kernel_rfl) (fun _ _ _ h => h) HS6.out (by rfl) (fun W hW => by obtain ⟨y0, y1, y2, y3, y4, y5⟩ := six_cells hW; go_simp) ?_
      simp only [Act.put, List.setIfInBounds_toArray, List.set_cons_zero, List.set_cons_succ]
      refine wpL_take 20 52 (i64 x.kind) [23, 24] rfl rfl (by kernel_rfl) (by decide) (by kernel_rfl) (by kernel_rfl) (by kernel_rfl) (fun _ _ _ h => h) HS6.out (by rfl) (fun W hW => by obtain ⟨y0, y1, y2, y3, y4, y5⟩ := six_cells hW; go_simp) ?_
      simp only [Act.put, List.setIfInBounds_toArray, List.set_cons_zero, List.set_cons_succ]
      refine wpL_take 21 53 (.pointer (some ⟨wr.heap.size, 4, none⟩)) [22, 23, 24] rfl rfl (by kernel_rfl) (by decide) (by kernel_rfl) (by kernel_rfl) (by kernel_rfl) (fun _ _ _ h => h) HS6.out (by rfl) (fun W hW => by obtain ⟨y0, y1, y2, y3, y4, y5⟩ := six_cells hW; go_simp) ?_
      simp only [Act.put, List.setIfInBounds_toArray, List.set_cons_zero, List.set_cons_succ]
      refine wpL_take 22 54 (i64 x.obj) [23, 24] rfl rfl (by kernel_rfl) (by decide) (by kernel_rfl) (by kernel_rfl) (by kernel_rfl) (fun _ _ _ h => h) HS6.out (by rfl) (fun W hW => by obtain ⟨y0, y1, y2, y3, y4, y5⟩ := six_cells hW; go_simp) ?_
      simp only [Act.put, List.setIfInBounds_toArray, List.set_cons_zero, List.set_cons_succ]
      refine wpL_one 17 rfl (by kernel_rfl) (by rfl) (fun K hK => ?_)
      go_simp
      refine HR6.out.mono ?_
      rintro e w7 ⟨rfl, hb⟩
      have HB7 : Hid (Below t w w7) := HB6.out.trans (hb.mono HBo6.out.lob)
      have HBo7 := hid (HBo6.out.below hb)
      have HS7 : Hid ((fun W : World => W.heap[wr.heap.size]? = some (spO x)) w7) := blk_below HS6.out hb
      have HR7 := hid (HRd.out w7 HBo7.out)
      clear hb HR6
      go_simp
      refine hK.out _ _ (fun _ => HS7.out) ?_
      clear hK K
      refine wpL_one 23 rfl (by kernel_rfl) (by rfl) (fun K hK => ?_)
      go_simp
      refine HR7.out.mono ?_
      rintro e w8 ⟨rfl, hb⟩
      have HB8 : Hid (Below t w w8) := HB7.out.trans (hb.mono HBo7.out.lob)
      have HBo8 := hid (HBo7.out.below hb)
      have HS8 : Hid ((fun W : World => W.heap[wr.heap.size]? = some (spO x)) w8) := blk_below HS7.out hb
      have HG8 := hid (HG1.out w8 HBo8.out.tg)
      clear hb HR7
      go_simp
      refine hK.out _ _ (fun _ => HS8.out) ?_
      clear hK K
      refine wpL_take 24 56 (.bool false) [] rfl rfl (by kernel_rfl) (by decide) (by kernel_rfl) (by kernel_rfl) (by kernel_rfl) (fun _ _ _ h => h) HS8.out (by rfl) (fun W hW => by obtain ⟨y0, y1, y2, y3, y4, y5⟩ := six_cells hW; go_simp) ?_
      simp only [Act.put, List.setIfInBounds_toArray, List.set_cons_zero, List.set_cons_succ]
      refine wpL_one 25 rfl (by kernel_rfl) (by rfl) (fun K hK => ?_)
      go_simp
      refine hK.out _ _ (fun h => absurd rfl h) ?_
      clear hK K
      refine wpL_done (by kernel_rfl) ?_
      refine NoPanic.normal ?_
      obtain ⟨y0, y1, y2, y3, y4, y5⟩ := six_cells HS8.out
      have hxl8 := blk_lt HS8.out
      go_wp2_with fail
      refine HG8.out.mono ?_
      rintro e w9 ⟨rfl, hb⟩
      have HB9 : Hid (Below t w (w9.alloc (enO p0 s0 a0 b1 d0 37))) := HB8.out.trans ((hb.alloc hb.size _).mono HBo8.out.lob)
      have HBo9 := hid ((HBo8.out.below hb).below (below_one w9 (enO p0 s0 a0 b1 d0 37)))
      have HS9 : Hid ((w9.alloc (enO p0 s0 a0 b1 d0 37)).heap[wr.heap.size]? = some (spO x)) := blk_alloc (blk_below HS8.out hb) _
      have HY9 := hid (heap_last w9 (enO p0 s0 a0 b1 d0 37))
      have HG9 := hid (HG2.out _ HBo9.out.rt)
      have hS9 : w9.heap[wr.heap.size]? = some (spO x) := blk_below HS8.out hb
      clear hb HG8 y0 y1 y2 y3 y4 y5 hxl8
      obtain ⟨y0, y1, y2, y3, y4, y5⟩ := six_cells hS9
      have hxl9 := blk_lt hS9
      go_wp2_with fail
      refine HG9.out.mono ?_
      rintro e w10 ⟨rfl, hb⟩
      have HBa : Hid (Below t w (w10.alloc (enO p0 s0 a0 b1 d0 41))) := HB9.out.trans ((hb.alloc hb.size _).mono HBo9.out.lob)
      have HBoa : Hid (BsX (w10.alloc (enO p0 s0 a0 b1 d0 41)) t r r) := ⟨A, V, (HBo9.out.below hb).below (below_one w10 _)⟩
      have HYa := hid (blk_below HY9.out hb)
      obtain ⟨v0, v1, v2, v3, v4⟩ := five_cells HYa.out
      have hyl := blk_lt HYa.out
      have hq := fun W => eq41 W p0 s0 a0 b1 d0
      clear hb HG9 y0 y1 y2 y3 y4 y5 hxl9 hS9
      go_wp2_with fail
      exact ⟨⟨k + 1, by omega, by go_num, HBoa, HBa⟩, by simp [intOf]; omega⟩
    · clear HW3 HB3
      have HN := hid (nine_ok wr)
      go_wp2_with fail
      refine HN.out.mono ?_
      rintro e w2 ⟨rfl, hb2⟩
      have HB2 : Hid (Below t w w2) := HBw.out.trans (hb2.mono HBo.out.lob)
      clear hb2 HN
      go_wp2_with fail
      go_ret
      exact ⟨rfl, HB2.out⟩
end Go.Proofs.Ytaapiffglfppnaa
