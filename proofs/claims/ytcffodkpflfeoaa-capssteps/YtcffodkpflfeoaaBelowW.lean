/- CapsBelow's walk; no statement is proved in this text. -/
import Derived.Test.YtcffodkpflfeoaaBelowP
namespace Go.Proofs.Ytcffodkpflfeoaa
open Go.ChangeShapes Go.WideShapes Go.ChangeAt Go.RowKit Go.Deep
attribute [local go_sem ↓] Go.wp_at_zero Go.wp_at_succ

theorem new_tb (w : World) : Calls Try.prog 8 #[] w fun e w' => e = .returned (pq w.heap.size) ∧ Tb w' w.heap.size w.heap.size z128 ∧ Below w.heap.size w w' ∧ w.heap.size < w'.heap.size :=
  (new_ok w).mono fun e w' ⟨h1, h2⟩ => ⟨h1, by rw [h2]; exact Tb.new w, by rw [h2]; exact below_one w _, by rw [h2]; simp⟩
set_option maxRecDepth 100000 in
set_option maxHeartbeats 1000000 in
theorem below_out (w : World) (ao : Option Addr) (len cap : Nat) (at' : Int) (hlen : len ≤ maxLen) (h : 100 < len ∨ at' < 0 ∨ (len : Int) ≤ at') :
    Calls Try.prog 6 #[.slice ao len cap, i64 at'] w fun e w' => e = .returned (.bool true) ∧ Below w.heap.size w w' := by
  unfold maxLen at hlen
  have h' : (100 : Int) < len ∨ (¬ (100 : Int) < len ∧ at' < 0) ∨ (¬ (100 : Int) < len ∧ ¬ at' < 0 ∧ (len : Int) ≤ at') := by omega
  clear h
  rcases h' with h | ⟨h0, h⟩ | ⟨h0, h1, h⟩
  all_goals
    go_enter Try.func6, Try.ntmps6
    go_wp2_with fail
    refine (new_tb _).mono ?_
    rintro e w1 ⟨rfl, _, hb1, _⟩
    have HB1 := hid hb1
    clear hb1
    go_wp2_with fail
    refine (two_ok _).mono ?_
    rintro e w2 ⟨rfl, hb2⟩
    have HB2 : Hid (Below w.heap.size w w2) := HB1.out.trans (hb2.mono HB1.out.size)
    clear hb2
    go_wp2_with fail
    go_ret
    exact ⟨rfl, HB2.out⟩
structure SqB (B off a g a1 : Nat) (x : Int) (W : World) : Prop where
  s0 : W.cell? ⟨B, off + a, none⟩ = some (i64 x)
  s1 : W.cell? ⟨g, a1 * 2, none⟩ = some (i64 (a1 : Nat))
  s2 : W.cell? ⟨g, a1 * 2 + 1, none⟩ = some (i64 1)
theorem envB_false {n : Int} (h : envB n = false) : n < 1 ∨ 3 < n := by
  unfold envB at h
  rw [decide_eq_false_iff_not] at h
  omega
set_option maxRecDepth 100000 in
set_option maxHeartbeats 8000000 in
theorem below_in (w : World) (ao : Option Addr) (len cap : Nat) (at' : Nat) (f : Nat → Int) (hl : len ≤ 100) (ha : at' < len) (hS : NSl w ao len f) :
    Calls Try.prog 6 #[.slice ao len cap, i64 (at' : Nat)] w fun e w' => e = .returned (.bool true) ∧ Below w.heap.size w w' := by
  obtain ⟨b, hb⟩ : ∃ b, b = w.heap.size := ⟨_, rfl⟩
  have hlo : w.heap.size ≤ b := by omega
  have HNb : Hid (Calls Try.prog 8 #[] w fun e w' => e = .returned (pq b) ∧ Tb w' b b z128 ∧ Below w.heap.size w w' ∧ b < w'.heap.size) := by rw [hb]; exact new_tb w
  have HM : Hid (∀ W, Tb W b b z128 → Calls Try.prog 21 #[pq b, .agg #[i64 1, i64 3, i64 63, i64 3]] W fun e w' => e = .returned (.tuple #[.agg #[i64 (0 : Nat), i64 1], i64 0]) ∧ Tb w' b b (chT f 0) ∧ Touch b W w') := fun W hW => by
    have := mint_ok hW ⟨1, 3, 63, 3⟩ (by decide) 0 ⟨zC, 0, 0⟩ (by decide +kernel) rfl two_free0 (by decide) (by decide)
    rw [← chT_zero]
    exact this
  have HSl := hid hS
  have hlI : (len : Int) ≤ 100 := by omega
  have haI : ((at' : Nat) : Int) < len := by omega
  clear hb hS
  go_enter Try.func6, Try.ntmps6
  go_wp2_with fail
  refine HNb.out.mono ?_
  rintro e w1 ⟨rfl, hT1, hB1, hl1⟩
  have HT1 := hid hT1
  have HB1 := hid hB1
  clear hT1 hB1
  go_wp2_with fail
  refine (HM.out w1 HT1.out).mono ?_
  rintro e w2 ⟨rfl, hT2, ht2⟩
  have hl2 : b < w2.heap.size := by have := ht2.size; omega
  have hb2 := Touch.tb_below hlo HB1.out ht2
  have HB2 : Hid (Below w.heap.size w (w2.alloc (hO (0 : Nat) 1))) := hb2.alloc hb2.size _
  have HT2 : Hid (Tb (w2.alloc (hO (0 : Nat) 1)) b b (chT f 0)) := hT2.below (below_one _ _)
  have HK2 : Hid ((w2.alloc (hO (0 : Nat) 1)).heap[w2.heap.size]? = some (hO (0 : Nat) 1)) := heap_last w2 _
  clear hT2 ht2 hb2
  go_upto_region 9 with fail
  have k0 : (w2.alloc (hO (0 : Nat) 1)).cell? ⟨w2.heap.size, 0, none⟩ = some (i64 (0 : Nat)) := blk_cell HK2.out 0
  have k1 : (w2.alloc (hO (0 : Nat) 1)).cell? ⟨w2.heap.size, 1, none⟩ = some (i64 1) := blk_cell HK2.out 1
  have hs2 : (w2.alloc (hO (0 : Nat) 1)).heap.size = w2.heap.size + 1 := by simp
  have hm2 : w2.heap.size < (w2.alloc (hO (0 : Nat) 1)).heap.size := by omega
  clear hs2
  unfold hO at *
  generalize w2.alloc (.cells #[i64 (0 : Nat), i64 1] 42) = u2 at *
  generalize w2.heap.size = x at *
  obtain ⟨bs, hbs⟩ : ∃ bs, bs = u2.heap.size := ⟨_, rfl⟩
  have hxs : x < bs := by omega
  have hbs2 : b < bs := by omega
  have hws : w.heap.size ≤ bs := by have := HB2.out.size; omega
  obtain ⟨ao2, cap2, w3, hrun, hown, hfr, _⟩ := app_one (te := 42) under31 info42x rfl (by omega) (by omega) (World.ownsRow_nil u2 bs 42 2) [i64 (0 : Nat), i64 1] rfl (by intro u hu; simp only [List.mem_cons, List.not_mem_nil, or_false] at hu; rcases hu with rfl | rfl <;> rfl) (by omega) (by omega)
  have HRUN := hid hrun
  have HO3 : Hid (w3.ownsRow bs 42 2 (.slice ao2 (0 + 1) cap2) (hdc 1).length (hcn (hdc 1))) := hown
  have HB3 : Hid (Below w.heap.size w w3) := HB2.out.trans (hfr.below.mono hws)
  have HT3 : Hid (Tb w3 b b (chT f 0)) := ⟨HT2.out.lo, HT2.out.len, by rw [hfr.below.block b (by omega)]; exact HT2.out.row⟩
  have HK3 : Hid (w3.heap[x]? = some (hO (0 : Nat) 1)) := (hfr.below.block x (by omega)).trans HK2.out
  clear hrun hown hfr hbs
  go_wp2_with (at_builtin; refine wpList_app_run rfl (.tmp 49) (.tmp 51) 31 rfl _ _ rfl rfl 31 rfl _ _ HRUN.out ?_)
  go_loopw [6, 7, 55] (fun v o u wr => ∃ (k : Nat), k ≤ len ∧ u = i64 k ∧ o = i64 (ownF f k) ∧ Hid (wr.ownsRow bs 42 2 v (hdc (k + 1)).length (hcn (hdc (k + 1)))) ∧ Hid (Tb wr b b (chT f k)) ∧ Hid (wr.heap[x]? = some (hO (k : Nat) 1)) ∧ Hid (Below w.heap.size w wr) ∧ Hid (∀ i, i < k → envB (f i) = true)) (fun _ _ u _ => len - (intOf u).toNat)
  case atStart => exact ⟨0, by omega, rfl, rfl, HO3, HT3, HK3, HB3, fun i hi => by omega⟩
  case round =>
    obtain ⟨k, hk, rfl, rfl, HO, HT, HK, HB, HEv⟩ := hrel
    by_cases hlt : k < len
    · obtain ⟨B, off, rfl, hBl, hcell⟩ := (HSl.out.below HB.out).at hlt
      have hkI : (k : Int) < len := by omega
      have x0 : wr.cell? ⟨x, 0, none⟩ = some (i64 (k : Nat)) := blk_cell HK.out 0
      have x1 : wr.cell? ⟨x, 1, none⟩ = some (i64 1) := blk_cell HK.out 1
      have hLk := looks_tb HT.out (ownF f k) k 1
      rw [chT_look f k k (Nat.le_refl _) (by omega)] at hLk
      by_cases he : envB (f k) = true
      · have hD := derive_ok HT.out (ownF f k) k 1 (f k) 3 (chC f k) hLk he (by decide) (by rfl) (by rfl) (k + 1) ⟨zC, 0, 0⟩ (chT_free f k (by omega)) rfl (chT_no f k) (by decide) (by decide)
        have hset : (chT f k).set (k + 1) ⟨⟨f k, (chC f k).kind, (chC f k).num, 3⟩, ((k : Nat) : Int), (⟨zC, 0, 0⟩ : Pl).gen + 1⟩ = chT f (k + 1) := chT_succ f k (by omega)
        rw [hset] at hD
        obtain ⟨k2, hk2⟩ : ∃ k2 : Nat, k2 = k + 1 := ⟨_, rfl⟩
        have HK2e := hid hk2
        have hk2l : k2 ≤ len := by omega
        have HD : Hid (Calls Try.prog 20 #[pq b, i64 (ownF f k), .agg #[i64 (k : Nat), i64 1], i64 (f k), i64 3] wr fun e w' => e = .returned (.tuple #[.agg #[i64 (k2 : Nat), i64 1], i64 0]) ∧ Tb w' b b (chT f k2) ∧ Touch b wr w') := by rw [hk2]; exact hD
        have HEv2 : Hid (∀ i, i < k2 → envB (f i) = true) := fun i hi => by
          by_cases h : i = k
          · rw [h]; exact he
          · exact HEv.out i (by omega)
        have hf1 : 1 ≤ f k := by have := envB_iff.1 he; omega
        have hf3 : f k ≤ 3 := by have := envB_iff.1 he; omega
        obtain ⟨ao4, cap4, rfl, _⟩ := own_slice HO.out
        clear hLk he hD hset hk2
        go_wp2_with fail
        refine HD.out.mono ?_
        rintro e w4 ⟨rfl, hT4, ht4⟩
        have hl4 : x < w4.heap.size := by have := ht4.size; have := blk_lt HK.out; omega
        have hb4 := Touch.tb_below hlo HB.out ht4
        have HB4 : Hid (Below w.heap.size w (w4.alloc (hO (k2 : Nat) 1))) := hb4.alloc hb4.size _
        have HT4 : Hid (Tb (w4.alloc (hO (k2 : Nat) 1)) b b (chT f k2)) := hT4.below (below_one _ _)
        have HK4 : Hid ((w4.alloc (hO (k2 : Nat) 1)).heap[x]? = some (hO (k : Nat) 1)) := blk_alloc ((ht4.block x (blk_lt HK.out) (by have := HT.out.lt; intro e; have := HT.out.row; rw [← e, HK.out] at this; simp at this)).trans HK.out) _
        have HJ4 : Hid ((w4.alloc (hO (k2 : Nat) 1)).heap[w4.heap.size]? = some (hO (k2 : Nat) 1)) := heap_last w4 _
        have HO4 : Hid ((w4.alloc (hO (k2 : Nat) 1)).ownsRow bs 42 2 (.slice ao4 (hdc (k + 1)).length cap4) (hdc (k + 1)).length (hcn (hdc (k + 1)))) := own_keep HO.out (fun g C hC => blk_alloc ((ht4.block g (blk_lt hC) (fun e => by have := HT.out.row; rw [← e, hC] at this; simp at this)).trans hC) _)
        clear hT4 ht4 hb4 x0 x1 hcell
        go_upto_region 19 with fail
        have y0 : (w4.alloc (hO (k2 : Nat) 1)).cell? ⟨w4.heap.size, 0, none⟩ = some (i64 (k2 : Nat)) := blk_cell HJ4.out 0
        have y1 : (w4.alloc (hO (k2 : Nat) 1)).cell? ⟨w4.heap.size, 1, none⟩ = some (i64 1) := blk_cell HJ4.out 1
        have x0 : (w4.alloc (hO (k2 : Nat) 1)).cell? ⟨x, 0, none⟩ = some (i64 (k : Nat)) := blk_cell HK4.out 0
        have x1 : (w4.alloc (hO (k2 : Nat) 1)).cell? ⟨x, 1, none⟩ = some (i64 1) := blk_cell HK4.out 1
        have xf : ∀ j, (w4.alloc (hO (k2 : Nat) 1)).frozen? ⟨x, j, none⟩ = false := blk_frozen HK4.out
        unfold hO at *
        generalize w4.alloc (.cells #[i64 (k2 : Nat), i64 1] 42) = U at *
        generalize w4.heap.size = y at *
        go_upto_region 20 with fail
        have HK5 : Hid (((U.setCell ⟨x, 0, none⟩ (i64 (k2 : Nat))).setCell ⟨x, 1, none⟩ (i64 1)).heap[x]? = some (hO (k2 : Nat) 1)) := set2 HK4.out _ _
        have HB5 : Hid (Below w.heap.size w ((U.setCell ⟨x, 0, none⟩ (i64 (k2 : Nat))).setCell ⟨x, 1, none⟩ (i64 1))) := bel2 HB4.out (by omega) _ _
        have HT5 : Hid (Tb ((U.setCell ⟨x, 0, none⟩ (i64 (k2 : Nat))).setCell ⟨x, 1, none⟩ (i64 1)) b b (chT f k2)) := HT4.out.set_new (by omega) _ _
        have HJ5 : Hid (((U.setCell ⟨x, 0, none⟩ (i64 (k2 : Nat))).setCell ⟨x, 1, none⟩ (i64 1)).heap[y]? = some (hO (k2 : Nat) 1)) := by rw [Below.heap_setCell _ _ _ _ (by show y ≠ x; omega), Below.heap_setCell _ _ _ _ (by show y ≠ x; omega)]; exact HJ4.out
        have HO5 : Hid (((U.setCell ⟨x, 0, none⟩ (i64 (k2 : Nat))).setCell ⟨x, 1, none⟩ (i64 1)).ownsRow bs 42 2 (.slice ao4 (hdc (k + 1)).length cap4) (hdc (k + 1)).length (hcn (hdc (k + 1)))) := by
          rcases HO4.out with ⟨h1, h2⟩
          refine ⟨h1, ?_⟩
          rcases h2 with hn | ⟨g, cp, cur, e1, hbg, hgg, rest⟩
          · exact .inl hn
          · exact .inr ⟨g, cp, cur, e1, hbg, by rw [Below.heap_setCell _ _ _ _ (by show g ≠ x; omega), Below.heap_setCell _ _ _ _ (by show g ≠ x; omega)]; exact hgg, rest⟩
        generalize (U.setCell ⟨x, 0, none⟩ (i64 (k2 : Nat))).setCell ⟨x, 1, none⟩ (i64 1) = U5 at *
        clear x0 x1 xf y0 y1
        have y0 : U5.cell? ⟨y, 0, none⟩ = some (i64 (k2 : Nat)) := blk_cell HJ5.out 0
        have y1 : U5.cell? ⟨y, 1, none⟩ = some (i64 1) := blk_cell HJ5.out 1
        have hbs5 : bs ≤ U5.heap.size := by
          rcases HO5.out.2 with ⟨_, hn⟩ | ⟨g, cp, cur, e1, hbg, hgg, _⟩
          · rw [hdc_len] at hn; omega
          · have := blk_lt hgg; omega
        obtain ⟨ao6, cap6, w6, hrun, hown, hfr, _⟩ := app_one (te := 42) under31 info42x rfl (by omega) (by omega) HO5.out [i64 (k2 : Nat), i64 1] rfl (by intro u hu; simp only [List.mem_cons, List.not_mem_nil, or_false] at hu; rcases hu with rfl | rfl <;> rfl) (by rw [hdc_len]; omega) hbs5
        have HR6 := hid hrun
        have HO6 : Hid (w6.ownsRow bs 42 2 (.slice ao6 ((hdc (k + 1)).length + 1) cap6) (hdc (k2 + 1)).length (hcn (hdc (k2 + 1)))) := by rw [HK2e.out, hdc_succ (k + 1), List.length_append, hcn_app]; rw [HK2e.out] at hown; exact hown
        have HB6 : Hid (Below w.heap.size w w6) := HB5.out.trans (hfr.below.mono hws)
        have HT6 : Hid (Tb w6 b b (chT f k2)) := ⟨HT5.out.lo, HT5.out.len, by rw [hfr.below.block b (by omega)]; exact HT5.out.row⟩
        have HK6 : Hid (w6.heap[x]? = some (hO (k2 : Nat) 1)) := (hfr.below.block x (by omega)).trans HK5.out
        clear hrun hown hfr
        generalize (hdc (k + 1)).length = n at *
        go_wp2_with (at_builtin; refine wpList_app_run rfl (.tmp 82) (.tmp 84) 31 rfl _ _ rfl rfl 31 rfl _ _ HR6.out ?_)
        exact ⟨⟨k2, hk2l, by rw [HK2e.out]; go_num, by rw [HK2e.out]; rfl, HO6, HT6, HK6, HB6, HEv2⟩, by simp [intOf]; omega⟩
      · have hD := derive_to (pq b) (ownF f k) k 1 (f k) 3 _ _ _ _ hLk (by simpa using he)
        have HD : Hid (Calls Try.prog 20 #[pq b, i64 (ownF f k), .agg #[i64 (k : Nat), i64 1], i64 (f k), i64 3] wr fun e w' => e = .returned (.tuple #[.agg #[i64 0, i64 0], i64 1]) ∧ Below wr.heap.size wr w') := hD
        have hf := envB_false (by simpa using he)
        have hf' : f k < 1 ∨ (¬ f k < 1 ∧ 3 < f k) := by omega
        clear hLk he hD hf
        rcases hf' with hf | ⟨hf0, hf⟩
        all_goals
          go_wp2_with fail
          refine HD.out.mono ?_
          rintro e w4 ⟨rfl, hb4⟩
          have HB4 : Hid (∀ o, Below w.heap.size w (w4.alloc o)) := fun o => (HB.out.trans (hb4.mono HB.out.size)).alloc (HB.out.trans (hb4.mono HB.out.size)).size o
          clear hb4
          go_wp2_with fail
          refine (two_ok _).mono ?_
          rintro e w5 ⟨rfl, hb5⟩
          have HB5 : Hid (Below w.heap.size w w5) := (HB4.out _).trans (hb5.mono (HB4.out _).size)
          clear hb5
          go_wp2_with fail
          go_ret
          exact ⟨rfl, HB5.out⟩
    · have hkl : len = k := by omega
      subst hkl
      obtain ⟨B, off, rfl, hBl, hcell⟩ := (HSl.out.below HB.out).at ha
      have hn := hdc_len (len + 1)
      rw [hn] at HO
      obtain ⟨ao4, cap4, rfl, _⟩ := own_slice HO.out
      have hcap : len + 1 ≤ cap4 ∧ ∃ g, ao4 = some ⟨g, 0, none⟩ ∧ bs ≤ g := by
        rcases HO.out.2 with ⟨hv, _⟩ | ⟨g, cp, cur, hv, hbg, hgg, hc, _⟩
        · simp at hv
        · simp only [Value.slice.injEq] at hv
          obtain ⟨h1, _, rfl⟩ := hv
          exact ⟨hc, g, h1, hbg⟩
      obtain ⟨hcap1, g, rfl, hbg⟩ := hcap
      obtain ⟨a1, ha1⟩ : ∃ a1 : Nat, a1 = at' + 1 := ⟨_, rfl⟩
      have ha1l : a1 ≤ len := by omega
      have hG : ∀ j : Nat, j ≤ len → wr.cell? ⟨g, j * 2, none⟩ = some (i64 (j : Nat)) ∧ wr.cell? ⟨g, j * 2 + 1, none⟩ = some (i64 1) := fun j hj => by
        have := hcn_get (hdc (len + 1)) j (j, 1) (hdc_get (len + 1) j (by omega))
        rw [HO.out.cellAt _ (by omega), HO.out.cellAt _ (by omega)]
        exact this
      have hDr : Calls Try.prog 22 #[pq b, i64 (f at'), .agg #[i64 (a1 : Nat), i64 1]] wr.drew fun e w' => e = .returned (.tuple #[i64 ((len : Int) - at'), i64 0]) ∧ Tb w' b b (dnT f len a1) ∧ Touch b wr.drew w' := by
        have hT : Tb wr.drew b b (chT f len) := ⟨HT.out.lo, HT.out.len, HT.out.row⟩
        have hL := looks_tb hT (f at') (a1 : Nat) 1
        have e1 : f at' = ownF f a1 := by rw [ha1]; rfl
        rw [e1, chT_look f len a1 ha1l (by omega), ← e1] at hL
        have := drop_ok hT (f at') (a1 : Nat) 1 (chC f a1) hL rk7 (chT_rk f len) 130 (fun s => by unfold rk7; omega)
        rw [chT_count f len a1 (by omega) ha1l, show ((len + 1 - a1 : Nat) : Int) = (len : Int) - at' by omega] at this
        exact this
      have HDr := hid hDr
      obtain ⟨g0, g1⟩ := hG a1 ha1l
      have HS : Hid (SqB B off at' g a1 (f at') wr.drew) := ⟨hcell, g0, g1⟩
      have HG := hid hG
      have ha1I : (at' : Int) + 1 = a1 := by omega
      have ha1J : (a1 : Int) ≤ len := by omega
      have hcapI : (len : Int) + 1 ≤ cap4 := by omega
      have HA1 := hid ha1I
      have hBb : B ≠ b := by intro e; have h1 := HSl.out; rcases h1 with h0 | ⟨B', off', he, hlt', _⟩ <;> first | omega | (simp only [Option.some.injEq, Addr.mk.injEq] at he; omega)
      have hgb : g ≠ b := by omega
      clear hDr g0 g1 hG hcell ha1 ha1I hn
      go_upto_region 24 with fail
      refine wp_region_noPanic ?_
      refine wp_region_last (SqB B off at' g a1 (f at')) 15 (by kernel_rfl) ?_
      refine wpL_take 0 94 (pq b) [] rfl rfl (by kernel_rfl) (by decide) (by kernel_rfl) (by kernel_rfl) (by kernel_rfl) (fun _ _ _ h => h) HS.out (by rfl) (fun W hW => by obtain ⟨s0, s1, s2⟩ := hW; go_simp) ?_
      simp only [Act.put, List.setIfInBounds_toArray, List.set_cons_zero, List.set_cons_succ]
      refine wpL_take 1 95 (.slice (some ⟨B, off, none⟩) len cap) [] rfl rfl (by kernel_rfl) (by decide) (by kernel_rfl) (by kernel_rfl) (by kernel_rfl) (fun _ _ _ h => h) HS.out (by rfl) (fun W hW => by obtain ⟨s0, s1, s2⟩ := hW; go_simp) ?_
      simp only [Act.put, List.setIfInBounds_toArray, List.set_cons_zero, List.set_cons_succ]
      refine wpL_take 2 96 (i64 (at' : Nat)) [] rfl rfl (by kernel_rfl) (by decide) (by kernel_rfl) (by kernel_rfl) (by kernel_rfl) (fun _ _ _ h => h) HS.out (by rfl) (fun W hW => by obtain ⟨s0, s1, s2⟩ := hW; go_simp) ?_
      simp only [Act.put, List.setIfInBounds_toArray, List.set_cons_zero, List.set_cons_succ]
      refine wpL_take 3 97 (.pointer (some ⟨B, off + at', none⟩)) [] rfl rfl (by kernel_rfl) (by decide) (by kernel_rfl) (by kernel_rfl) (by kernel_rfl) (fun _ _ _ h => h) HS.out (by rfl) (fun W hW => by obtain ⟨s0, s1, s2⟩ := hW; go_simp) ?_
      simp only [Act.put, List.setIfInBounds_toArray, List.set_cons_zero, List.set_cons_succ]
      refine wpL_take 4 98 (i64 (f at')) [] rfl rfl (by kernel_rfl) (by decide) (by kernel_rfl) (by kernel_rfl) (by kernel_rfl) (fun _ _ _ h => h) HS.out (by rfl) (fun W hW => by obtain ⟨s0, s1, s2⟩ := hW; go_simp) ?_
      simp only [Act.put, List.setIfInBounds_toArray, List.set_cons_zero, List.set_cons_succ]
      refine wpL_take 5 99 (.slice (some ⟨g, 0, none⟩) (len + 1) cap4) [] rfl rfl (by kernel_rfl) (by decide) (by kernel_rfl) (by kernel_rfl) (by kernel_rfl) (fun _ _ _ h => h) HS.out (by rfl) (fun W hW => by obtain ⟨s0, s1, s2⟩ := hW; go_simp) ?_
      simp only [Act.put, List.setIfInBounds_toArray, List.set_cons_zero, List.set_cons_succ]
      refine wpL_take 6 100 (i64 (at' : Nat)) [] rfl rfl (by kernel_rfl) (by decide) (by kernel_rfl) (by kernel_rfl) (by kernel_rfl) (fun _ _ _ h => h) HS.out (by rfl) (fun W hW => by obtain ⟨s0, s1, s2⟩ := hW; go_simp) ?_
      simp only [Act.put, List.setIfInBounds_toArray, List.set_cons_zero, List.set_cons_succ]
      refine wpL_take 7 101 (i64 (a1 : Nat)) [] rfl rfl (by kernel_rfl) (by decide) (by kernel_rfl) (by kernel_rfl) (by kernel_rfl) (fun _ _ _ h => h) HS.out (by rfl) (fun W hW => by obtain ⟨s0, s1, s2⟩ := hW; go_simp; rw [HA1.out]; exact wrap_id (by omega) (by omega)) ?_
      simp only [Act.put, List.setIfInBounds_toArray, List.set_cons_zero, List.set_cons_succ]
      refine wpL_take 8 102 (.pointer (some ⟨g, a1 * 2, none⟩)) [] rfl rfl (by kernel_rfl) (by decide) (by kernel_rfl) (by kernel_rfl) (by kernel_rfl) (fun _ _ _ h => h) HS.out (by rfl) (fun W hW => by obtain ⟨s0, s1, s2⟩ := hW; go_simp; intro h; omega) ?_
      simp only [Act.put, List.setIfInBounds_toArray, List.set_cons_zero, List.set_cons_succ]
      refine wpL_take 9 103 (.agg #[i64 (a1 : Nat), i64 1]) [] rfl rfl (by kernel_rfl) (by decide) (by kernel_rfl) (by kernel_rfl) (by kernel_rfl) (fun _ _ _ h => h) HS.out (by rfl) (fun W hW => by obtain ⟨s0, s1, s2⟩ := hW; go_simp) ?_
      simp only [Act.put, List.setIfInBounds_toArray, List.set_cons_zero, List.set_cons_succ]
      refine wpL_one 10 rfl (by kernel_rfl) (by rfl) (fun K hK => ?_)
      go_simp
      refine HDr.out.mono ?_
      rintro e w5 ⟨rfl, hT5, ht5⟩
      have HS2 : Hid (SqB B off at' g a1 (f at') w5) := ⟨(ht5.cell (p := ⟨B, _, none⟩) (World.block_lt_of_cell? _ _ HS.out.s0) hBb).trans HS.out.s0, (ht5.cell (p := ⟨g, _, none⟩) (World.block_lt_of_cell? _ _ HS.out.s1) hgb).trans HS.out.s1, (ht5.cell (p := ⟨g, _, none⟩) (World.block_lt_of_cell? _ _ HS.out.s2) hgb).trans HS.out.s2⟩
      have HT5 := hid hT5
      have HB5 : Hid (Below w.heap.size w w5) := Touch.tb_below hlo HB.out.drew ht5
      have HG5 : Hid (∀ j : Nat, j ≤ len → w5.cell? ⟨g, j * 2, none⟩ = some (i64 (j : Nat)) ∧ w5.cell? ⟨g, j * 2 + 1, none⟩ = some (i64 1)) := fun j hj => by
        obtain ⟨h1, h2⟩ := HG.out j hj
        exact ⟨(ht5.cell (p := ⟨g, _, none⟩) (World.block_lt_of_cell? wr _ h1) hgb).trans h1, (ht5.cell (p := ⟨g, _, none⟩) (World.block_lt_of_cell? wr _ h2) hgb).trans h2⟩
      clear hT5 ht5
      go_simp
      refine hK.out _ _ (fun _ => HS2.out) ?_
      clear hK K
      refine wpL_take 11 93 (.tuple #[i64 ((len : Int) - at'), i64 0]) [] rfl rfl (by kernel_rfl) (by decide) (by kernel_rfl) (by kernel_rfl) (by kernel_rfl) (fun _ _ _ h => h) HS2.out (by rfl) (fun W hW => by obtain ⟨s0, s1, s2⟩ := hW; go_simp) ?_
      simp only [Act.put, List.setIfInBounds_toArray, List.set_cons_zero, List.set_cons_succ]
      refine wpL_take 12 105 (i64 ((len : Int) - at')) [] rfl rfl (by kernel_rfl) (by decide) (by kernel_rfl) (by kernel_rfl) (by kernel_rfl) (fun _ _ _ h => h) HS2.out (by rfl) (fun W hW => by obtain ⟨s0, s1, s2⟩ := hW; go_simp) ?_
      simp only [Act.put, List.setIfInBounds_toArray, List.set_cons_zero, List.set_cons_succ]
      refine wpL_take 13 106 (i64 0) [] rfl rfl (by kernel_rfl) (by decide) (by kernel_rfl) (by kernel_rfl) (by kernel_rfl) (fun _ _ _ h => h) HS2.out (by rfl) (fun W hW => by obtain ⟨s0, s1, s2⟩ := hW; go_simp) ?_
      simp only [Act.put, List.setIfInBounds_toArray, List.set_cons_zero, List.set_cons_succ]
      refine wpL_one 14 rfl (by kernel_rfl) (by rfl) (fun K hK => ?_)
      go_simp
      refine hK.out _ _ (fun _ => HS2.out) ?_
      clear hK K
      refine wpL_one 15 rfl (by kernel_rfl) (by rfl) (fun K hK => ?_)
      go_simp
      refine hK.out _ _ (fun h => absurd rfl h) ?_
      clear hK K
      refine wpL_done (by kernel_rfl) ?_
      refine NoPanic.normal ?_
      have HLv : Hid (Calls Try.prog 11 #[pq b] w5 fun e w' => e = .returned (i64 ((at' : Int) + 1)) ∧ Below w5.heap.size w5 w') := by
        have h1 := live_ok HT5.out
        have h2 := dnT_live f len at' (by omega) (by omega)
        have h3 : a1 = at' + 1 := by have := HA1.out; omega
        rw [← h3] at h2
        rcases h2 with h2 | h2
        · rw [h2, show ((a1 : Nat) : Int) = (at' : Int) + 1 by omega] at h1; exact h1
        · omega
      go_wp2_with fail
      refine HLv.out.mono ?_
      rintro e w6 ⟨rfl, hb6⟩
      have HT6 := hid (HT5.out.below hb6)
      have HB6 : Hid (Below w.heap.size w w6) := HB5.out.trans (hb6.mono HB5.out.size)
      have HG6 : Hid (∀ j : Nat, j ≤ len → w6.cell? ⟨g, j * 2, none⟩ = some (i64 (j : Nat)) ∧ w6.cell? ⟨g, j * 2 + 1, none⟩ = some (i64 1)) := fun j hj => by
        obtain ⟨h1, h2⟩ := HG5.out j hj
        exact ⟨(hb6.cell (p := ⟨g, _, none⟩) (World.block_lt_of_cell? w5 _ h1)).trans h1, (hb6.cell (p := ⟨g, _, none⟩) (World.block_lt_of_cell? w5 _ h2)).trans h2⟩
      clear hb6
      have HRt := hid (dnT_rts f len a1 (by omega) HEv.out)
      go_wp2_with fail
      go_loopw [126] (fun u wq => ∃ (j : Nat), j ≤ len ∧ u = i64 j ∧ Hid (Tb wq b b (dnT f len a1)) ∧ Hid (∀ j : Nat, j ≤ len → wq.cell? ⟨g, j * 2, none⟩ = some (i64 (j : Nat)) ∧ wq.cell? ⟨g, j * 2 + 1, none⟩ = some (i64 1)) ∧ Hid (Below w.heap.size w wq)) (fun u _ => len - (intOf u).toNat)
      case atStart => exact ⟨0, by omega, rfl, HT6, HG6, HB6⟩
      case round =>
        obtain ⟨j, hj, rfl, HTj, HGj, HBj⟩ := hrel
        by_cases hltj : j < len
        · have hcj : wr.cell? ⟨B, off + j, none⟩ = some (i64 (f j)) := by
            obtain ⟨B2, off2, e2, _, h2⟩ := (HSl.out.below HBj.out).at hltj
            simp only [Option.some.injEq, Addr.mk.injEq] at e2
            obtain ⟨rfl, rfl, _⟩ := e2
            exact h2
          obtain ⟨g0', g1⟩ := HGj.out (j + 1) (by omega)
          have g0 : wr.cell? ⟨g, (j + 1) * 2, none⟩ = some (i64 ((j : Int) + 1)) := by rw [g0']; simp
          clear g0'
          have hjI : (j : Int) < len := by omega
          have hCh := check_any HTj.out HRt.out (f j) ((j : Int) + 1) 1 2
          have hlk := dnT_look f len a1 j (by omega) hltj
          rw [show ((j + 1 : Nat) : Int) = (j : Int) + 1 by omega] at hlk
          rw [hlk] at hCh
          have ha1 := HA1.out
          by_cases hja : j < at'
          · rw [if_pos (by omega)] at hCh
            have HCh := hid hCh
            have hjb : decide ((j : Int) < at') = true := decide_eq_true (by omega)
            clear hCh hlk ha1
            go_wp2_with fail
            refine HCh.out.mono ?_
            rintro e w7 ⟨rfl, hb7⟩
            have HTj2 := hid (HTj.out.below hb7)
            have HBj2 : Hid (Below w.heap.size w w7) := HBj.out.trans (hb7.mono HBj.out.size)
            have HGj2 : Hid (∀ j : Nat, j ≤ len → w7.cell? ⟨g, j * 2, none⟩ = some (i64 (j : Nat)) ∧ w7.cell? ⟨g, j * 2 + 1, none⟩ = some (i64 1)) := fun j hj => by
              obtain ⟨h1, h2⟩ := HGj.out j hj
              exact ⟨(hb7.cell (p := ⟨g, _, none⟩) (World.block_lt_of_cell? wr _ h1)).trans h1, (hb7.cell (p := ⟨g, _, none⟩) (World.block_lt_of_cell? wr _ h2)).trans h2⟩
            clear hb7
            go_wp2_with fail
            exact ⟨⟨j + 1, by omega, by go_num, HTj2, HGj2, HBj2⟩, by simp [intOf]; omega⟩
          · rw [if_neg (by omega)] at hCh
            have HCh := hid hCh
            have hjb : decide ((j : Int) < at') = false := decide_eq_false (by omega)
            clear hCh hlk ha1
            go_wp2_with fail
            refine HCh.out.mono ?_
            rintro e w7 ⟨rfl, hb7⟩
            have HTj2 := hid (HTj.out.below hb7)
            have HBj2 : Hid (Below w.heap.size w w7) := HBj.out.trans (hb7.mono HBj.out.size)
            have HGj2 : Hid (∀ j : Nat, j ≤ len → w7.cell? ⟨g, j * 2, none⟩ = some (i64 (j : Nat)) ∧ w7.cell? ⟨g, j * 2 + 1, none⟩ = some (i64 1)) := fun j hj => by
              obtain ⟨h1, h2⟩ := HGj.out j hj
              exact ⟨(hb7.cell (p := ⟨g, _, none⟩) (World.block_lt_of_cell? wr _ h1)).trans h1, (hb7.cell (p := ⟨g, _, none⟩) (World.block_lt_of_cell? wr _ h2)).trans h2⟩
            clear hb7
            go_wp2_with fail
            exact ⟨⟨j + 1, by omega, by go_num, HTj2, HGj2, HBj2⟩, by simp [intOf]; omega⟩
        · go_wp2_with fail
          refine (two_ok _).mono ?_
          rintro e w8 ⟨rfl, hb8⟩
          have HB8 : Hid (Below w.heap.size w w8) := HBj.out.trans (hb8.mono HBj.out.size)
          clear hb8
          go_wp2_with fail
          go_ret
          exact ⟨rfl, HB8.out⟩
theorem below_any (w : World) (ao : Option Addr) (len cap : Nat) (n : Int) (f : Nat → Int) (hlen : len ≤ maxLen) (hS : NSl w ao len f) : Calls Try.prog 6 #[.slice ao len cap, i64 n] w fun e w' => e = .returned (.bool true) ∧ Below w.heap.size w w' := by
  by_cases h : 100 < len ∨ n < 0 ∨ (len : Int) ≤ n
  · exact below_out w ao len cap n hlen h
  · obtain ⟨a, rfl⟩ : ∃ a : Nat, n = a := ⟨n.toNat, by omega⟩
    exact below_in w ao len cap a f (by omega) (by omega) hS
end Go.Proofs.Ytcffodkpflfeoaa
