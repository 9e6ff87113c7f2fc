/- DescSteps' walk; no statement is proved in this text. -/
import Derived.Test.YtdgkajhlofpdeaaLb
namespace Go.Proofs.Ytdgkajhlofpdeaa
open Go.ChangeShapes Go.WideShapes Go.ChangeAt Go.RowKit Go.Deep
attribute [local go_sem ↓] Go.wp_at_zero Go.wp_at_succ

theorem wpL_skip {P : Program} {ops : Array Oper} {Q : Exit → Act → World → Prop} {md : Region.Mode} {S : World → Prop} {z : Nat} (i d : Nat) (p : List Nat) {oi : Oper} {fuel : Nat} {listed : Array Bool} {a : Act} {w : World} (hi : ops[i]? = some oi) (hd : oi.dst = some d) (hp : anc md ops (i :: (p ++ [z])) = true) (hiz : i ≠ z)
    (hs : Region.noSelect ops = true) (hf : Region.free md ops listed i = true) (hr : (Region.ready md ops listed).contains i = true)
    (hQ : ∀ c a w, Q (.panic c) (a.put (some d) undef) w → Q (.panic c) a w) (hS : S w) (hw : Region.wanted oi (yielded ops a.tmps) = false)
    (h : wpL P md ops Q S z fuel (listed.setIfInBounds i true) (a.put (some d) undef) w) : wpL P md ops Q S z (fuel + 1) listed a w := fun hc =>
  have hr' : i ∈ Region.ready md ops listed := by simpa using hr
  wpAnyL_first hp hiz hi (Region.noSelect_spec hs) (by rw [hd]; exact hQ) fuel listed a w hc (Region.free_spec hi hf) hr' (Or.inr ⟨hw, rfl⟩) hS (by rw [hd]; exact h (hc.step hr'))
theorem run_agg31 (W : World) (X : Nat) (x : Sp) (h : W.heap[X]? = some (spO x)) : (loadVar 31 ⟨X, 0, none⟩).run Try.prog W = .ok x.v W := by
  refine run_loadVar_mid _ _ 0 31 x.c' _ (fun j v hv => ?_) Try.underlying31 rfl (by kernel_rfl)
  rw [Nat.zero_add, cell_of_row _ _ _ _ 31 (0, 0) h]
  simpa using hv
structure SqP (Y r g o i N cap : Nat) (e : En) (W : World) : Prop where
  sq : SqS Y g (o + i * 5) e W
  rlt : r < W.heap.size
  rc : W.cell? ⟨r, 0, none⟩ = some (.slice (some ⟨g, o, none⟩) N cap)
theorem SqP.below {Y r g o i N cap : Nat} {e : En} {W W' : World} (h : SqP Y r g o i N cap e W) (hb : Below W.heap.size W W') : SqP Y r g o i N cap e W' :=
  ⟨h.sq.below hb, Nat.lt_of_lt_of_le h.rlt hb.size, (hb.cell (p := ⟨r, 0, none⟩) h.rlt).trans h.rc⟩
set_option maxRecDepth 100000 in
set_option maxHeartbeats 12800000 in
theorem steps_any (w : World) (ao : Option Addr) (len cap : Nat) (f : Nat → Sp) (hlen : len ≤ maxLen) (hS : SSl w ao len f) : Calls Try.prog 3 #[.slice ao len cap] w fun e w' => e = .returned (.bool true) ∧ Below w.heap.size w w' := by
  have hm : (len : Int) ≤ 9223372036854775807 := by unfold maxLen at hlen; omega
  have HSb := hid hS
  have HNw := hid (new_ok w)
  obtain ⟨b, hb⟩ : ∃ b, b = w.heap.size := ⟨_, rfl⟩
  have HB := hid hb
  rw [← hb] at HNw ⊢
  clear hS hlen hb
  by_cases h60 : 60 < len
  · have h60' : (60 : Int) < len := by omega
    go_enter Try.func3, Try.ntmps3
    go_wp2_with fail
    refine HNw.out.mono ?_
    rintro e w1 ⟨rfl, ht1, hb1⟩
    have HB1 : Hid (Below b w w1) := hb1
    have hlo1 : b ≤ w1.heap.size := Nat.le_of_lt ht1.lt
    clear ht1 hb1 HNw
    go_wp2_with fail
    refine (five_ok w1).mono ?_
    rintro e w2 ⟨rfl, hb2⟩
    have HB2 : Hid (Below b w w2) := HB1.out.trans (hb2.mono hlo1)
    clear hb2
    go_wp2_with fail
    go_ret
    exact ⟨rfl, HB2.out⟩
  have h60' : ¬ (60 : Int) < len := by omega
  go_enter Try.func3, Try.ntmps3
  go_wp2_with fail
  refine HNw.out.mono ?_
  rintro e w1 ⟨rfl, ht1, hb1⟩
  have HT1 := hid ht1
  have HB1 : Hid (Below b w w1) := hb1
  clear ht1 hb1 HNw
  have hz29 := zero29
  go_wp2_with fail
  have hlo1 : b ≤ w1.heap.size := Nat.le_of_lt HT1.out.lt
  have HW3 : Hid (Bo (w1.alloc (.cells #[.slice none 0 0] 29)) b b w1.heap.size noSt) := ⟨HT1.out.below (below_one w1 _), rb_new w1 b hlo1, ins_no⟩
  have HB3 : Hid (Below b w (w1.alloc (.cells #[.slice none 0 0] 29))) := HB1.out.trans ((below_one w1 _).mono hlo1)
  clear hz29
  obtain ⟨r, hr⟩ : ∃ r, r = w1.heap.size := ⟨_, rfl⟩
  rw [← hr] at HW3 ⊢
  generalize w1.alloc (.cells #[.slice none 0 0] 29) = w3 at *
  clear hr hlo1 HT1 HB1
  go_loopw [27] (fun u wr => ∃ (k : Nat) (S : St), k ≤ len ∧ u = i64 k ∧ Hid (Bo wr b b r S) ∧ Hid (Below b w wr)) (fun u _ => len - (intOf u).toNat)
  case atStart => exact ⟨0, noSt, by omega, rfl, HW3, HB3⟩
  case round =>
    obtain ⟨k, S, hk, rfl, HBo, HBw⟩ := hrel
    by_cases hlt : k < len
    · have hkI : (k : Int) < len := by omega
      obtain ⟨B, off, hao, hb, hr⟩ := (HSb.out.below (by rw [← HB.out]; exact HBw.out)).at hlt
      subst hao
      obtain ⟨x, hx⟩ : ∃ x, x = f k := ⟨_, rfl⟩
      rw [← hx] at hr
      have c0 : wr.cell? ⟨B, off + k * 6, none⟩ = some (i64 x.what) := hr 0 _ rfl
      have c1 : wr.cell? ⟨B, off + k * 6 + 1, none⟩ = some (i64 x.pid) := hr 1 _ rfl
      have c2 : wr.cell? ⟨B, off + k * 6 + 2, none⟩ = some (i64 x.slot) := hr 2 _ rfl
      have c3 : wr.cell? ⟨B, off + k * 6 + 3, none⟩ = some (i64 x.kind) := hr 3 _ rfl
      have c4 : wr.cell? ⟨B, off + k * 6 + 4, none⟩ = some (i64 x.obj) := hr 4 _ rfl
      have c5 : wr.cell? ⟨B, off + k * 6 + 5, none⟩ = some (i64 x.n) := hr 5 _ rfl
      have HBV : Hid (Below b w (wr.alloc (spO x))) := HBw.out.trans ((below_one wr _).mono HBo.out.lob)
      have HBoV : Hid (Bo (wr.alloc (spO x)) b b r S) := HBo.out.below (below_one wr _)
      have HX : Hid ((wr.alloc (spO x)).heap[wr.heap.size]? = some (spO x)) := heap_last wr _
      clear hx hr hb
      have HS0 : Hid ((wr.alloc (spO x)).drew.heap[wr.heap.size]? = some (spO x)) := HX.out
      go_upto_region 8 with fail
      obtain ⟨X, hX⟩ : ∃ X, X = wr.heap.size := ⟨_, rfl⟩
      rw [← hX] at HX HS0 ⊢
      clear hX c0 c1 c2 c3 c4 c5
      generalize wr.alloc (spO x) = V at *
      have HS : Hid (V.drew.heap[X]? = some (spO x)) := HX.out
      have HD := hid (does_ok V.drew b b r S x (HBoV.out.below ⟨rfl, rfl, rfl, Nat.le_refl _, fun _ _ => rfl⟩))
      generalize stp S x = S2 at *
      refine wp_region_noPanic ?_
      refine wp_region_last (fun W => W.heap[X]? = some (spO x)) 29 (by kernel_rfl) ?_
      refine wpL_take 0 31 (pq b) [3, 5, 13, 14, 15] rfl rfl (by kernel_rfl) (by decide) (by kernel_rfl) (by kernel_rfl) (by kernel_rfl) (fun _ _ _ h => h) HS.out (by rfl) (fun W hW => by go_simp) ?_
      simp only [Act.put, List.setIfInBounds_toArray, List.set_cons_zero, List.set_cons_succ]
      refine wpL_take 1 32 (pq r) [3, 5, 13, 14, 15] rfl rfl (by kernel_rfl) (by decide) (by kernel_rfl) (by kernel_rfl) (by kernel_rfl) (fun _ _ _ h => h) HS.out (by rfl) (fun W hW => by go_simp) ?_
      simp only [Act.put, List.setIfInBounds_toArray, List.set_cons_zero, List.set_cons_succ]
      refine wpL_take 2 33 (x.v) [3, 5, 13, 14, 15] rfl rfl (by kernel_rfl) (by decide) (by kernel_rfl) (by kernel_rfl) (by kernel_rfl) (fun _ _ _ h => h) HS.out (by rfl) (fun W hW => by exact exec_load 31 (.tmp 6) rfl rfl (run_agg31 W X x hW)) ?_
      simp only [Act.put, List.setIfInBounds_toArray, List.set_cons_zero, List.set_cons_succ]
      refine wpL_one 3 rfl (by kernel_rfl) (by rfl) (fun K hK => ?_)
      go_simp
      refine HD.out.mono ?_
      rintro e w5 ⟨rfl, hbo5, hf5⟩
      have HBo5 := hid hbo5
      have HB5 : Hid (Below b w w5) := HBV.out.drew.trans hf5.below
      have HS1 : Hid (w5.heap[X]? = some (spO x)) := hf5.kept _ _ HS.out rfl
      obtain ⟨_, ao5, cap5, hbk5, hown5⟩ := hbo5.rb
      have HC5 : Hid (w5.cell? ⟨r, 0, none⟩ = some (.slice ao5 (lst S2).length cap5)) := blk_cell hbk5 0
      have HRd5 : Hid (Rd5 w5 ao5 (lst S2)) := Rd5.own hown5
      have HLst := hid (list_ok w5 b (pq b) S2 hbo5.tb.tv)
      have hln := lst_len S2
      clear hbo5 hf5 hbk5 hown5
      go_simp
      refine hK.out _ _ (fun _ => HS1.out) ?_
      clear hK K
      refine wpL_take 4 35 (.bool false) [5, 13, 14, 15] rfl rfl (by kernel_rfl) (by decide) (by kernel_rfl) (by kernel_rfl) (by kernel_rfl) (fun _ _ _ h => h) HS1.out (by rfl) (fun W hW => by go_simp) ?_
      simp only [Act.put, List.setIfInBounds_toArray, List.set_cons_zero, List.set_cons_succ]
      refine wpL_take 5 36 (.bool false) [13, 14, 15] rfl rfl (by kernel_rfl) (by decide) (by kernel_rfl) (by kernel_rfl) (by kernel_rfl) (fun _ _ _ h => h) HS1.out (by rfl) (fun W hW => by go_simp) ?_
      simp only [Act.put, List.setIfInBounds_toArray, List.set_cons_zero, List.set_cons_succ]
      refine wpL_take 6 37 (pq b) [7, 12, 13, 14, 15] rfl rfl (by kernel_rfl) (by decide) (by kernel_rfl) (by kernel_rfl) (by kernel_rfl) (fun _ _ _ h => h) HS1.out (by rfl) (fun W hW => by go_simp) ?_
      simp only [Act.put, List.setIfInBounds_toArray, List.set_cons_zero, List.set_cons_succ]
      refine wpL_take 8 39 (pq r) [9, 10, 11, 12, 13, 14, 15] rfl rfl (by kernel_rfl) (by decide) (by kernel_rfl) (by kernel_rfl) (by kernel_rfl) (fun _ _ _ h => h) HS1.out (by rfl) (fun W hW => by go_simp) ?_
      simp only [Act.put, List.setIfInBounds_toArray, List.set_cons_zero, List.set_cons_succ]
      refine wpL_take 9 40 (pq r) [10, 11, 12, 13, 14, 15] rfl rfl (by kernel_rfl) (by decide) (by kernel_rfl) (by kernel_rfl) (by kernel_rfl) (fun _ _ _ h => h) HS1.out (by rfl) (fun W hW => by go_simp) ?_
      simp only [Act.put, List.setIfInBounds_toArray, List.set_cons_zero, List.set_cons_succ]
      refine wpL_take 10 41 (.pointer (some ⟨r, 0, none⟩)) [11, 12, 13, 14, 15] rfl rfl (by kernel_rfl) (by decide) (by kernel_rfl) (by kernel_rfl) (by kernel_rfl) (fun _ _ _ h => h) HS1.out (by rfl) (fun W hW => by go_simp) ?_
      simp only [Act.put, List.setIfInBounds_toArray, List.set_cons_zero, List.set_cons_succ]
      refine wpL_two 7 11 rfl rfl (by kernel_rfl) (by rfl) (by rfl) (fun K hK => ?_) (fun K hK => ?_)
      · go_simp
        refine HLst.out.mono ?_
        rintro e w6 ⟨a6, c6, rfl, ho6, hb6⟩
        have HB6 : Hid (Below b w w6) := HB5.out.trans (hb6.mono HBo5.out.lob)
        have HBo6 : Hid (Bo w6 b b r S2) := HBo5.out.below hb6
        have HS6 : Hid (w6.heap[X]? = some (spO x)) := blk_below HS1.out hb6
        have HSame := hid (same_ok w6 a6 ao5 c6 cap5 (lst S2) (by omega) (Rd5.own ho6) (HRd5.out.below hb6))
        have e6 : w6.cell? ⟨r, 0, none⟩ = some (.slice ao5 (lst S2).length cap5) := by rw [hb6.cell (by exact HBo5.out.rb.lt)]; exact HC5.out
        clear ho6 hb6
        go_simp
        refine hK.out _ _ (fun _ => HS6.out) ?_
        clear hK K
        refine wpL_one 11 rfl (by kernel_rfl) (by rfl) (fun K hK => ?_)
        go_simp
        refine hK.out _ _ (fun _ => HS6.out) ?_
        clear hK K
        refine wpL_one 12 rfl (by kernel_rfl) (by rfl) (fun K hK => ?_)
        go_simp
        refine HSame.out.mono ?_
        rintro e w7 ⟨rfl, hb7⟩
        have HB7 : Hid (Below b w w7) := HB6.out.trans (hb7.mono HBo6.out.lob)
        have HBo7 : Hid (Bo w7 b b r S2) := HBo6.out.below hb7
        have HS7 : Hid (w7.heap[X]? = some (spO x)) := blk_below HS6.out hb7
        have HRf := hid (refs_ok w7 b (pq b) S2 x.kind x.obj HBo7.out.tb.tv)
        clear hb7
        go_simp
        refine hK.out _ _ (fun _ => HS7.out) ?_
        clear hK K
        refine wpL_take 13 44 (.bool false) [14, 15] rfl rfl (by kernel_rfl) (by decide) (by kernel_rfl) (by kernel_rfl) (by kernel_rfl) (fun _ _ _ h => h) HS7.out (by rfl) (fun W hW => by go_simp) ?_
        simp only [Act.put, List.setIfInBounds_toArray, List.set_cons_zero, List.set_cons_succ]
        refine wpL_take 14 45 (.bool false) [15] rfl rfl (by kernel_rfl) (by decide) (by kernel_rfl) (by kernel_rfl) (by kernel_rfl) (fun _ _ _ h => h) HS7.out (by rfl) (fun W hW => by go_simp) ?_
        simp only [Act.put, List.setIfInBounds_toArray, List.set_cons_zero, List.set_cons_succ]
        refine wpL_take 15 46 (.bool false) [] rfl rfl (by kernel_rfl) (by decide) (by kernel_rfl) (by kernel_rfl) (by kernel_rfl) (fun _ _ _ h => h) HS7.out (by rfl) (fun W hW => by go_simp) ?_
        simp only [Act.put, List.setIfInBounds_toArray, List.set_cons_zero, List.set_cons_succ]
        refine wpL_take 16 47 (pq b) [21, 28] rfl rfl (by kernel_rfl) (by decide) (by kernel_rfl) (by kernel_rfl) (by kernel_rfl) (fun _ _ _ h => h) HS7.out (by rfl) (fun W hW => by go_simp) ?_
        simp only [Act.put, List.setIfInBounds_toArray, List.set_cons_zero, List.set_cons_succ]
        refine wpL_take 17 48 (.pointer (some ⟨X, 3, none⟩)) [18, 21, 28] rfl rfl (by kernel_rfl) (by decide) (by kernel_rfl) (by kernel_rfl) (by kernel_rfl) (fun _ _ _ h => h) HS7.out (by rfl) (fun W hW => by go_simp) ?_
        simp only [Act.put, List.setIfInBounds_toArray, List.set_cons_zero, List.set_cons_succ]
        refine wpL_take 18 49 (i64 x.kind) [21, 28] rfl rfl (by kernel_rfl) (by decide) (by kernel_rfl) (by kernel_rfl) (by kernel_rfl) (fun _ _ _ h => h) HS7.out (by rfl) (fun W hW => by obtain ⟨y0, y1, y2, y3, y4, y5⟩ := six_cells hW; go_simp) ?_
        simp only [Act.put, List.setIfInBounds_toArray, List.set_cons_zero, List.set_cons_succ]
        refine wpL_take 19 50 (.pointer (some ⟨X, 4, none⟩)) [20, 21, 28] rfl rfl (by kernel_rfl) (by decide) (by kernel_rfl) (by kernel_rfl) (by kernel_rfl) (fun _ _ _ h => h) HS7.out (by rfl) (fun W hW => by go_simp) ?_
        simp only [Act.put, List.setIfInBounds_toArray, List.set_cons_zero, List.set_cons_succ]
        refine wpL_take 20 51 (i64 x.obj) [21, 28] rfl rfl (by kernel_rfl) (by decide) (by kernel_rfl) (by kernel_rfl) (by kernel_rfl) (fun _ _ _ h => h) HS7.out (by rfl) (fun W hW => by obtain ⟨y0, y1, y2, y3, y4, y5⟩ := six_cells hW; go_simp) ?_
        simp only [Act.put, List.setIfInBounds_toArray, List.set_cons_zero, List.set_cons_succ]
        refine wpL_take 22 53 (pq r) [27, 28] rfl rfl (by kernel_rfl) (by decide) (by kernel_rfl) (by kernel_rfl) (by kernel_rfl) (fun _ _ _ h => h) HS7.out (by rfl) (fun W hW => by go_simp) ?_
        simp only [Act.put, List.setIfInBounds_toArray, List.set_cons_zero, List.set_cons_succ]
        refine wpL_take 23 54 (.pointer (some ⟨X, 3, none⟩)) [24, 27, 28] rfl rfl (by kernel_rfl) (by decide) (by kernel_rfl) (by kernel_rfl) (by kernel_rfl) (fun _ _ _ h => h) HS7.out (by rfl) (fun W hW => by go_simp) ?_
        simp only [Act.put, List.setIfInBounds_toArray, List.set_cons_zero, List.set_cons_succ]
        refine wpL_take 24 55 (i64 x.kind) [27, 28] rfl rfl (by kernel_rfl) (by decide) (by kernel_rfl) (by kernel_rfl) (by kernel_rfl) (fun _ _ _ h => h) HS7.out (by rfl) (fun W hW => by obtain ⟨y0, y1, y2, y3, y4, y5⟩ := six_cells hW; go_simp) ?_
        simp only [Act.put, List.setIfInBounds_toArray, List.set_cons_zero, List.set_cons_succ]
        refine wpL_take 25 56 (.pointer (some ⟨X, 4, none⟩)) [26, 27, 28] rfl rfl (by kernel_rfl) (by decide) (by kernel_rfl) (by kernel_rfl) (by kernel_rfl) (fun _ _ _ h => h) HS7.out (by rfl) (fun W hW => by go_simp) ?_
        simp only [Act.put, List.setIfInBounds_toArray, List.set_cons_zero, List.set_cons_succ]
        refine wpL_take 26 57 (i64 x.obj) [27, 28] rfl rfl (by kernel_rfl) (by decide) (by kernel_rfl) (by kernel_rfl) (by kernel_rfl) (fun _ _ _ h => h) HS7.out (by rfl) (fun W hW => by obtain ⟨y0, y1, y2, y3, y4, y5⟩ := six_cells hW; go_simp) ?_
        simp only [Act.put, List.setIfInBounds_toArray, List.set_cons_zero, List.set_cons_succ]
        refine wpL_one 21 rfl (by kernel_rfl) (by rfl) (fun K hK => ?_)
        go_simp
        refine HRf.out.mono ?_
        rintro e w8 ⟨rfl, hb8⟩
        have HB8 : Hid (Below b w w8) := HB7.out.trans (hb8.mono HBo7.out.lob)
        have HBo8 : Hid (Bo w8 b b r S2) := HBo7.out.below hb8
        have HS8 : Hid (w8.heap[X]? = some (spO x)) := blk_below HS7.out hb8
        have HRr := hid (rrefs_ok HBo8.out.rb (by omega) x.kind x.obj)
        clear hb8
        go_simp
        refine hK.out _ _ (fun _ => HS8.out) ?_
        clear hK K
        refine wpL_one 27 rfl (by kernel_rfl) (by rfl) (fun K hK => ?_)
        go_simp
        refine HRr.out.mono ?_
        rintro e w9 ⟨rfl, hb9⟩
        have HB9 : Hid (Below b w w9) := HB8.out.trans (hb9.mono HBo8.out.lob)
        have HBo9 : Hid (Bo w9 b b r S2) := HBo8.out.below hb9
        have HS9 : Hid (w9.heap[X]? = some (spO x)) := blk_below HS8.out hb9
        clear hb9 HRf HRr HSame HLst HRd5 HC5
        go_simp
        refine hK.out _ _ (fun _ => HS9.out) ?_
        clear hK K
        refine wpL_take 28 59 (.bool false) [] rfl rfl (by kernel_rfl) (by decide) (by kernel_rfl) (by kernel_rfl) (by kernel_rfl) (fun _ _ _ h => h) HS9.out (by rfl) (fun W hW => by go_simp) ?_
        simp only [Act.put, List.setIfInBounds_toArray, List.set_cons_zero, List.set_cons_succ]
        refine wpL_one 29 rfl (by kernel_rfl) (by rfl) (fun K hK => ?_)
        go_simp
        refine hK.out _ _ (fun h => absurd rfl h) ?_
        clear hK K
        refine wpL_done (by kernel_rfl) ?_
        refine NoPanic.normal ?_
        obtain ⟨m0, m1, m2, m3, m4, m5⟩ := six_cells HS9.out
        have HG := hid (get_ok w9 b (pq b) S2 x.pid x.slot HBo9.out.tb.tv)
        unfold getE at HG
        rcases h2 : S2 (x.pid, x.slot) with _ | ⟨ta, tb, tc⟩
        · rw [h2] at HG
          have HAt := hid fun W (hW : Bo W b b r S2) => rat_ok hW.rb (by omega) x.pid x.slot
          have hpn := pos_none HBo9.out.ins (x.pid, x.slot) h2
          rw [hpn] at HAt
          replace HG : Hid (Calls Try.prog 16 #[pq b, i64 x.pid, i64 x.slot] w9 fun e w' => e = .returned (.tuple #[ev 0 0 0 0 0, i64 6]) ∧ Below w9.heap.size w9 w') := HG
          clear hpn h2
          go_wp2_with fail
          refine HG.out.mono ?_
          rintro e w10 ⟨rfl, hb10⟩
          have HBo10 : Hid (Bo (w10.alloc (enO 0 0 0 0 0 38)) b b r S2) := (HBo9.out.below hb10).below (below_one w10 _)
          have HB10 : Hid (Below b w (w10.alloc (enO 0 0 0 0 0 38))) := (HB9.out.trans (hb10.mono HBo9.out.lob)).alloc (Nat.le_trans HBo9.out.lob hb10.size) _
          have HY10 := hid (heap_last w10 (enO 0 0 0 0 0 38))
          obtain ⟨y0, y1, y2, y3, y4, y5⟩ := six_cells (blk_below HS9.out hb10)
          have hXl : X < w10.heap.size := blk_lt (blk_below HS9.out hb10)
          have HA := hid (HAt.out (w10.alloc (enO 0 0 0 0 0 38)) HBo10.out)
          clear hb10 HG HAt m0 m1 m2 m3 m4 m5
          go_wp2_with fail
          refine HA.out.mono ?_
          rintro e w11 ⟨rfl, hb11⟩
          have HBo11 : Hid (Bo w11 b b r S2) := HBo10.out.below hb11
          have HB11 : Hid (Below b w w11) := HB10.out.trans (hb11.mono HBo10.out.lob)
          obtain ⟨z0, z1, z2, z3, z4⟩ := five_cells (blk_below HY10.out hb11)
          have qe := same38 0 0 0 0 0
          have hz := zero38
          clear hb11 HA y0 y1 y2 y3 y4 y5
          go_upto_region 12 with fail
          go_quiet (fail)
          go_wp2_with fail
          exact ⟨⟨k + 1, S2, by omega, by go_num, ⟨HBo11.out.tb.below ⟨rfl, rfl, rfl, Nat.le_refl _, fun _ _ => rfl⟩, HBo11.out.rb.below ⟨rfl, rfl, rfl, Nat.le_refl _, fun _ _ => rfl⟩, HBo11.out.ins⟩, below_drewN HB11.out _⟩, by simp [intOf]; omega⟩
        · rw [h2] at HG
          have HAt := hid fun W (hW : Bo W b b r S2) => rat_ok hW.rb (by omega) x.pid x.slot
          obtain ⟨i, hi, hpos, hget⟩ := pos_some HBo9.out.ins (x.pid, x.slot) _ h2
          rw [hpos] at HAt
          replace HG : Hid (Calls Try.prog 16 #[pq b, i64 x.pid, i64 x.slot] w9 fun e w' => e = .returned (.tuple #[ev x.pid x.slot ta tb tc, i64 0]) ∧ Below w9.heap.size w9 w') := HG
          have HGet := hid hget
          clear hpos h2 hget
          go_wp2_with fail
          refine HG.out.mono ?_
          rintro e w10 ⟨rfl, hb10⟩
          have HBo10 : Hid (Bo (w10.alloc (enO x.pid x.slot ta tb tc 38)) b b r S2) := (HBo9.out.below hb10).below (below_one w10 _)
          have HB10 : Hid (Below b w (w10.alloc (enO x.pid x.slot ta tb tc 38))) := (HB9.out.trans (hb10.mono HBo9.out.lob)).alloc (Nat.le_trans HBo9.out.lob hb10.size) _
          have HY10 := hid (heap_last w10 (enO x.pid x.slot ta tb tc 38))
          obtain ⟨y0, y1, y2, y3, y4, y5⟩ := six_cells (blk_below HS9.out hb10)
          have hXl : X < w10.heap.size := blk_lt (blk_below HS9.out hb10)
          have HA := hid (HAt.out (w10.alloc (enO x.pid x.slot ta tb tc 38)) HBo10.out)
          clear hb10 HG HAt m0 m1 m2 m3 m4 m5
          go_wp2_with fail
          refine HA.out.mono ?_
          rintro e w11 ⟨rfl, hb11⟩
          have HBo11 : Hid (Bo w11 b b r S2) := HBo10.out.below hb11
          have HB11 : Hid (Below b w w11) := HB10.out.trans (hb11.mono HBo10.out.lob)
          obtain ⟨_, ao7, cap, hbk7, hown7⟩ := HBo11.out.rb
          obtain ⟨g, o, rfl, hgl, d0, d1, d2, d3, d4⟩ := Rd5.own hown7 i _ HGet.out
          have hcap := own_cap hown7
          obtain ⟨N, hN⟩ : ∃ N, N = (lst S2).length := ⟨_, rfl⟩
          have HQ0 : Hid (SqP w10.heap.size r g o i N cap ((x.pid, x.slot), (ta, tb, tc)) w11.drew) := ⟨⟨blk_below HY10.out hb11.drew, hgl, d0, d1, d2, d3, d4⟩, blk_lt hbk7, by rw [hN]; exact blk_cell hbk7 0⟩
          rw [← hN] at hi hcap
          have hiI : (i : Int) < N := by omega
          have hi0 : ¬ (i : Int) < 0 := by omega
          clear hN
          clear hb11 HA y0 y1 y2 y3 y4 y5 hbk7 hown7 d0 d1 d2 d3 d4
          go_upto_region 12 with fail
          obtain ⟨Y, hY⟩ : ∃ Y, Y = w10.heap.size := ⟨_, rfl⟩
          have HQ := HQ0
          rw [← hY] at HQ ⊢
          clear hY HQ0
          refine wp_region_noPanic ?_
          refine wp_region_last (SqP Y r g o i N cap ((x.pid, x.slot), (ta, tb, tc))) 30 (by kernel_rfl) ?_
          refine wpL_take 0 76 (i64 i) [1, 2, 10, 11] rfl rfl (by kernel_rfl) (by decide) (by kernel_rfl) (by kernel_rfl) (by kernel_rfl) (fun _ _ _ h => h) HQ.out (by rfl) (fun W hW => by go_simp) ?_
          simp only [Act.put, List.setIfInBounds_toArray, List.set_cons_zero, List.set_cons_succ]
          refine wpL_take 1 77 (.bool false) [2, 10, 11] rfl rfl (by kernel_rfl) (by decide) (by kernel_rfl) (by kernel_rfl) (by kernel_rfl) (fun _ _ _ h => h) HQ.out (by rfl) (fun W hW => by go_simp) ?_
          simp only [Act.put, List.setIfInBounds_toArray, List.set_cons_zero, List.set_cons_succ]
          refine wpL_take 2 78 (.bool false) [10, 11] rfl rfl (by kernel_rfl) (by decide) (by kernel_rfl) (by kernel_rfl) (by kernel_rfl) (fun _ _ _ h => h) HQ.out (by rfl) (fun W hW => by go_simp) ?_
          simp only [Act.put, List.setIfInBounds_toArray, List.set_cons_zero, List.set_cons_succ]
          refine wpL_skip 3 79 [4, 5, 11] rfl rfl (by kernel_rfl) (by decide) (by kernel_rfl) (by kernel_rfl) (by kernel_rfl) (fun _ _ _ h => h) HQ.out (by rfl) ?_
          simp only [Act.put, List.setIfInBounds_toArray, List.set_cons_zero, List.set_cons_succ]
          refine wpL_skip 4 80 [5, 11] rfl rfl (by kernel_rfl) (by decide) (by kernel_rfl) (by kernel_rfl) (by kernel_rfl) (fun _ _ _ h => h) HQ.out (by rfl) ?_
          simp only [Act.put, List.setIfInBounds_toArray, List.set_cons_zero, List.set_cons_succ]
          refine wpL_skip 5 81 [11] rfl rfl (by kernel_rfl) (by decide) (by kernel_rfl) (by kernel_rfl) (by kernel_rfl) (fun _ _ _ h => h) HQ.out (by rfl) ?_
          simp only [Act.put, List.setIfInBounds_toArray, List.set_cons_zero, List.set_cons_succ]
          refine wpL_skip 6 82 [8, 9, 10, 11] rfl rfl (by kernel_rfl) (by decide) (by kernel_rfl) (by kernel_rfl) (by kernel_rfl) (fun _ _ _ h => h) HQ.out (by rfl) ?_
          simp only [Act.put, List.setIfInBounds_toArray, List.set_cons_zero, List.set_cons_succ]
          refine wpL_skip 7 83 [8, 9, 10, 11] rfl rfl (by kernel_rfl) (by decide) (by kernel_rfl) (by kernel_rfl) (by kernel_rfl) (fun _ _ _ h => h) HQ.out (by rfl) ?_
          simp only [Act.put, List.setIfInBounds_toArray, List.set_cons_zero, List.set_cons_succ]
          refine wpL_skip 8 84 [9, 10, 11] rfl rfl (by kernel_rfl) (by decide) (by kernel_rfl) (by kernel_rfl) (by kernel_rfl) (fun _ _ _ h => h) HQ.out (by rfl) ?_
          simp only [Act.put, List.setIfInBounds_toArray, List.set_cons_zero, List.set_cons_succ]
          refine wpL_skip 9 85 [10, 11] rfl rfl (by kernel_rfl) (by decide) (by kernel_rfl) (by kernel_rfl) (by kernel_rfl) (fun _ _ _ h => h) HQ.out (by rfl) ?_
          simp only [Act.put, List.setIfInBounds_toArray, List.set_cons_zero, List.set_cons_succ]
          refine wpL_take 10 86 (.bool false) [11] rfl rfl (by kernel_rfl) (by decide) (by kernel_rfl) (by kernel_rfl) (by kernel_rfl) (fun _ _ _ h => h) HQ.out (by rfl) (fun W hW => by go_simp) ?_
          simp only [Act.put, List.setIfInBounds_toArray, List.set_cons_zero, List.set_cons_succ]
          refine wpL_take 11 87 (.bool false) [] rfl rfl (by kernel_rfl) (by decide) (by kernel_rfl) (by kernel_rfl) (by kernel_rfl) (fun _ _ _ h => h) HQ.out (by rfl) (fun W hW => by go_simp) ?_
          simp only [Act.put, List.setIfInBounds_toArray, List.set_cons_zero, List.set_cons_succ]
          refine wpL_take 12 88 (i64 i) [13, 14, 29] rfl rfl (by kernel_rfl) (by decide) (by kernel_rfl) (by kernel_rfl) (by kernel_rfl) (fun _ _ _ h => h) HQ.out (by rfl) (fun W hW => by go_simp) ?_
          simp only [Act.put, List.setIfInBounds_toArray, List.set_cons_zero, List.set_cons_succ]
          refine wpL_take 13 89 (.bool true) [14, 29] rfl rfl (by kernel_rfl) (by decide) (by kernel_rfl) (by kernel_rfl) (by kernel_rfl) (fun _ _ _ h => h) HQ.out (by rfl) (fun W hW => by go_simp) ?_
          simp only [Act.put, List.setIfInBounds_toArray, List.set_cons_zero, List.set_cons_succ]
          refine wpL_take 14 90 (.bool true) [29] rfl rfl (by kernel_rfl) (by decide) (by kernel_rfl) (by kernel_rfl) (by kernel_rfl) (fun _ _ _ h => h) HQ.out (by rfl) (fun W hW => by go_simp) ?_
          simp only [Act.put, List.setIfInBounds_toArray, List.set_cons_zero, List.set_cons_succ]
          refine wpL_take 15 91 (i64 0) [16, 17, 28, 29] rfl rfl (by kernel_rfl) (by decide) (by kernel_rfl) (by kernel_rfl) (by kernel_rfl) (fun _ _ _ h => h) HQ.out (by rfl) (fun W hW => by go_simp) ?_
          simp only [Act.put, List.setIfInBounds_toArray, List.set_cons_zero, List.set_cons_succ]
          refine wpL_take 16 92 (.bool false) [17, 28, 29] rfl rfl (by kernel_rfl) (by decide) (by kernel_rfl) (by kernel_rfl) (by kernel_rfl) (fun _ _ _ h => h) HQ.out (by rfl) (fun W hW => by go_simp) ?_
          simp only [Act.put, List.setIfInBounds_toArray, List.set_cons_zero, List.set_cons_succ]
          refine wpL_take 17 93 (.bool false) [28, 29] rfl rfl (by kernel_rfl) (by decide) (by kernel_rfl) (by kernel_rfl) (by kernel_rfl) (fun _ _ _ h => h) HQ.out (by rfl) (fun W hW => by go_simp) ?_
          simp only [Act.put, List.setIfInBounds_toArray, List.set_cons_zero, List.set_cons_succ]
          refine wpL_take 18 94 (ev x.pid x.slot ta tb tc) [19, 27, 28, 29] rfl rfl (by kernel_rfl) (by decide) (by kernel_rfl) (by kernel_rfl) (by kernel_rfl) (fun _ _ _ h => h) HQ.out (by rfl) (fun W hW => by obtain ⟨y0, y1, y2, y3, y4⟩ := five_cells hW.sq.one; go_simp) ?_
          simp only [Act.put, List.setIfInBounds_toArray, List.set_cons_zero, List.set_cons_succ]
          refine wpL_take 20 96 (pq r) [21, 22, 23, 25, 26, 27, 28, 29] rfl rfl (by kernel_rfl) (by decide) (by kernel_rfl) (by kernel_rfl) (by kernel_rfl) (fun _ _ _ h => h) HQ.out (by rfl) (fun W hW => by go_simp) ?_
          simp only [Act.put, List.setIfInBounds_toArray, List.set_cons_zero, List.set_cons_succ]
          refine wpL_take 21 97 (pq r) [22, 23, 25, 26, 27, 28, 29] rfl rfl (by kernel_rfl) (by decide) (by kernel_rfl) (by kernel_rfl) (by kernel_rfl) (fun _ _ _ h => h) HQ.out (by rfl) (fun W hW => by have o0 := hW.rc; go_simp) ?_
          simp only [Act.put, List.setIfInBounds_toArray, List.set_cons_zero, List.set_cons_succ]
          refine wpL_take 22 98 (.pointer (some ⟨r, 0, none⟩)) [23, 25, 26, 27, 28, 29] rfl rfl (by kernel_rfl) (by decide) (by kernel_rfl) (by kernel_rfl) (by kernel_rfl) (fun _ _ _ h => h) HQ.out (by rfl) (fun W hW => by go_simp) ?_
          simp only [Act.put, List.setIfInBounds_toArray, List.set_cons_zero, List.set_cons_succ]
          refine wpL_take 23 99 (.slice (some ⟨g, o, none⟩) N cap) [25, 26, 27, 28, 29] rfl rfl (by kernel_rfl) (by decide) (by kernel_rfl) (by kernel_rfl) (by kernel_rfl) (fun _ _ _ h => h) HQ.out (by rfl) (fun W hW => by have o0 := hW.rc; go_simp) ?_
          simp only [Act.put, List.setIfInBounds_toArray, List.set_cons_zero, List.set_cons_succ]
          refine wpL_take 24 100 (i64 i) [25, 26, 27, 28, 29] rfl rfl (by kernel_rfl) (by decide) (by kernel_rfl) (by kernel_rfl) (by kernel_rfl) (fun _ _ _ h => h) HQ.out (by rfl) (fun W hW => by go_simp) ?_
          simp only [Act.put, List.setIfInBounds_toArray, List.set_cons_zero, List.set_cons_succ]
          refine wpL_take 25 101 (.pointer (some ⟨g, o + i * 5, none⟩)) [26, 27, 28, 29] rfl rfl (by kernel_rfl) (by decide) (by kernel_rfl) (by kernel_rfl) (by kernel_rfl) (fun _ _ _ h => h) HQ.out (by rfl) (fun W hW => by go_simp) ?_
          simp only [Act.put, List.setIfInBounds_toArray, List.set_cons_zero, List.set_cons_succ]
          refine wpL_take 26 102 (ev x.pid x.slot ta tb tc) [27, 28, 29] rfl rfl (by kernel_rfl) (by decide) (by kernel_rfl) (by kernel_rfl) (by kernel_rfl) (fun _ _ _ h => h) HQ.out (by rfl) (fun W hW => by have z0 := hW.sq.c0; have z1 := hW.sq.c1; have z2 := hW.sq.c2; have z3 := hW.sq.c3; have z4 := hW.sq.c4; go_simp) ?_
          simp only [Act.put, List.setIfInBounds_toArray, List.set_cons_zero, List.set_cons_succ]
          refine wpL_one 19 rfl (by kernel_rfl) (by rfl) (fun K hK => ?_)
          go_simp
          refine (ref_ok w11.drew x.pid x.slot ta tb tc).mono ?_
          rintro e w12 ⟨rfl, hb12⟩
          have HQ2 : Hid (SqP Y r g o i N cap ((x.pid, x.slot), (ta, tb, tc)) w12) := HQ.out.below hb12
          have hb12' : Below w11.heap.size w11 w12 := ⟨hb12.os, hb12.tape, hb12.output, hb12.size, hb12.block⟩
          have HBo12 : Hid (Bo w12 b b r S2) := HBo11.out.below hb12'
          have HB12 : Hid (Below b w w12) := HB11.out.trans (hb12'.mono HBo11.out.lob)
          clear hb12 hb12'
          go_simp
          refine hK.out _ _ (fun _ => HQ2.out) ?_
          clear hK K
          refine wpL_take 27 103 (.bool false) [28, 29] rfl rfl (by kernel_rfl) (by decide) (by kernel_rfl) (by kernel_rfl) (by kernel_rfl) (fun _ _ _ h => h) HQ2.out (by rfl) (fun W hW => by have q := same42; go_simp) ?_
          simp only [Act.put, List.setIfInBounds_toArray, List.set_cons_zero, List.set_cons_succ]
          refine wpL_take 28 104 (.bool false) [29] rfl rfl (by kernel_rfl) (by decide) (by kernel_rfl) (by kernel_rfl) (by kernel_rfl) (fun _ _ _ h => h) HQ2.out (by rfl) (fun W hW => by go_simp) ?_
          simp only [Act.put, List.setIfInBounds_toArray, List.set_cons_zero, List.set_cons_succ]
          refine wpL_take 29 105 (.bool false) [] rfl rfl (by kernel_rfl) (by decide) (by kernel_rfl) (by kernel_rfl) (by kernel_rfl) (fun _ _ _ h => h) HQ2.out (by rfl) (fun W hW => by go_simp) ?_
          simp only [Act.put, List.setIfInBounds_toArray, List.set_cons_zero, List.set_cons_succ]
          refine wpL_one 30 rfl (by kernel_rfl) (by rfl) (fun K hK => ?_)
          go_simp
          refine hK.out _ _ (fun h => absurd rfl h) ?_
          clear hK K
          refine wpL_done (by kernel_rfl) ?_
          refine NoPanic.normal ?_
          go_wp2_with fail
          exact ⟨⟨k + 1, S2, by omega, by go_num, HBo12, HB12⟩, by simp [intOf]; omega⟩
      · have e5 := HC5.out
        go_simp
        refine hK.out _ _ (fun _ => HS1.out) ?_
        clear hK K
        refine wpL_one 7 rfl (by kernel_rfl) (by rfl) (fun K hK => ?_)
        go_simp
        refine HLst.out.mono ?_
        rintro e w6 ⟨a6, c6, rfl, ho6, hb6⟩
        have HB6 : Hid (Below b w w6) := HB5.out.trans (hb6.mono HBo5.out.lob)
        have HBo6 : Hid (Bo w6 b b r S2) := HBo5.out.below hb6
        have HS6 : Hid (w6.heap[X]? = some (spO x)) := blk_below HS1.out hb6
        have HSame := hid (same_ok w6 a6 ao5 c6 cap5 (lst S2) (by omega) (Rd5.own ho6) (HRd5.out.below hb6))
        have e6 : w6.cell? ⟨r, 0, none⟩ = some (.slice ao5 (lst S2).length cap5) := by rw [hb6.cell (by exact HBo5.out.rb.lt)]; exact HC5.out
        clear ho6 hb6
        go_simp
        refine hK.out _ _ (fun _ => HS6.out) ?_
        clear hK K
        refine wpL_one 12 rfl (by kernel_rfl) (by rfl) (fun K hK => ?_)
        go_simp
        refine HSame.out.mono ?_
        rintro e w7 ⟨rfl, hb7⟩
        have HB7 : Hid (Below b w w7) := HB6.out.trans (hb7.mono HBo6.out.lob)
        have HBo7 : Hid (Bo w7 b b r S2) := HBo6.out.below hb7
        have HS7 : Hid (w7.heap[X]? = some (spO x)) := blk_below HS6.out hb7
        have HRf := hid (refs_ok w7 b (pq b) S2 x.kind x.obj HBo7.out.tb.tv)
        clear hb7
        go_simp
        refine hK.out _ _ (fun _ => HS7.out) ?_
        clear hK K
        refine wpL_take 13 44 (.bool false) [14, 15] rfl rfl (by kernel_rfl) (by decide) (by kernel_rfl) (by kernel_rfl) (by kernel_rfl) (fun _ _ _ h => h) HS7.out (by rfl) (fun W hW => by go_simp) ?_
        simp only [Act.put, List.setIfInBounds_toArray, List.set_cons_zero, List.set_cons_succ]
        refine wpL_take 14 45 (.bool false) [15] rfl rfl (by kernel_rfl) (by decide) (by kernel_rfl) (by kernel_rfl) (by kernel_rfl) (fun _ _ _ h => h) HS7.out (by rfl) (fun W hW => by go_simp) ?_
        simp only [Act.put, List.setIfInBounds_toArray, List.set_cons_zero, List.set_cons_succ]
        refine wpL_take 15 46 (.bool false) [] rfl rfl (by kernel_rfl) (by decide) (by kernel_rfl) (by kernel_rfl) (by kernel_rfl) (fun _ _ _ h => h) HS7.out (by rfl) (fun W hW => by go_simp) ?_
        simp only [Act.put, List.setIfInBounds_toArray, List.set_cons_zero, List.set_cons_succ]
        refine wpL_take 16 47 (pq b) [21, 28] rfl rfl (by kernel_rfl) (by decide) (by kernel_rfl) (by kernel_rfl) (by kernel_rfl) (fun _ _ _ h => h) HS7.out (by rfl) (fun W hW => by go_simp) ?_
        simp only [Act.put, List.setIfInBounds_toArray, List.set_cons_zero, List.set_cons_succ]
        refine wpL_take 17 48 (.pointer (some ⟨X, 3, none⟩)) [18, 21, 28] rfl rfl (by kernel_rfl) (by decide) (by kernel_rfl) (by kernel_rfl) (by kernel_rfl) (fun _ _ _ h => h) HS7.out (by rfl) (fun W hW => by go_simp) ?_
        simp only [Act.put, List.setIfInBounds_toArray, List.set_cons_zero, List.set_cons_succ]
        refine wpL_take 18 49 (i64 x.kind) [21, 28] rfl rfl (by kernel_rfl) (by decide) (by kernel_rfl) (by kernel_rfl) (by kernel_rfl) (fun _ _ _ h => h) HS7.out (by rfl) (fun W hW => by obtain ⟨y0, y1, y2, y3, y4, y5⟩ := six_cells hW; go_simp) ?_
        simp only [Act.put, List.setIfInBounds_toArray, List.set_cons_zero, List.set_cons_succ]
        refine wpL_take 19 50 (.pointer (some ⟨X, 4, none⟩)) [20, 21, 28] rfl rfl (by kernel_rfl) (by decide) (by kernel_rfl) (by kernel_rfl) (by kernel_rfl) (fun _ _ _ h => h) HS7.out (by rfl) (fun W hW => by go_simp) ?_
        simp only [Act.put, List.setIfInBounds_toArray, List.set_cons_zero, List.set_cons_succ]
        refine wpL_take 20 51 (i64 x.obj) [21, 28] rfl rfl (by kernel_rfl) (by decide) (by kernel_rfl) (by kernel_rfl) (by kernel_rfl) (fun _ _ _ h => h) HS7.out (by rfl) (fun W hW => by obtain ⟨y0, y1, y2, y3, y4, y5⟩ := six_cells hW; go_simp) ?_
        simp only [Act.put, List.setIfInBounds_toArray, List.set_cons_zero, List.set_cons_succ]
        refine wpL_take 22 53 (pq r) [27, 28] rfl rfl (by kernel_rfl) (by decide) (by kernel_rfl) (by kernel_rfl) (by kernel_rfl) (fun _ _ _ h => h) HS7.out (by rfl) (fun W hW => by go_simp) ?_
        simp only [Act.put, List.setIfInBounds_toArray, List.set_cons_zero, List.set_cons_succ]
        refine wpL_take 23 54 (.pointer (some ⟨X, 3, none⟩)) [24, 27, 28] rfl rfl (by kernel_rfl) (by decide) (by kernel_rfl) (by kernel_rfl) (by kernel_rfl) (fun _ _ _ h => h) HS7.out (by rfl) (fun W hW => by go_simp) ?_
        simp only [Act.put, List.setIfInBounds_toArray, List.set_cons_zero, List.set_cons_succ]
        refine wpL_take 24 55 (i64 x.kind) [27, 28] rfl rfl (by kernel_rfl) (by decide) (by kernel_rfl) (by kernel_rfl) (by kernel_rfl) (fun _ _ _ h => h) HS7.out (by rfl) (fun W hW => by obtain ⟨y0, y1, y2, y3, y4, y5⟩ := six_cells hW; go_simp) ?_
        simp only [Act.put, List.setIfInBounds_toArray, List.set_cons_zero, List.set_cons_succ]
        refine wpL_take 25 56 (.pointer (some ⟨X, 4, none⟩)) [26, 27, 28] rfl rfl (by kernel_rfl) (by decide) (by kernel_rfl) (by kernel_rfl) (by kernel_rfl) (fun _ _ _ h => h) HS7.out (by rfl) (fun W hW => by go_simp) ?_
        simp only [Act.put, List.setIfInBounds_toArray, List.set_cons_zero, List.set_cons_succ]
        refine wpL_take 26 57 (i64 x.obj) [27, 28] rfl rfl (by kernel_rfl) (by decide) (by kernel_rfl) (by kernel_rfl) (by kernel_rfl) (fun _ _ _ h => h) HS7.out (by rfl) (fun W hW => by obtain ⟨y0, y1, y2, y3, y4, y5⟩ := six_cells hW; go_simp) ?_
        simp only [Act.put, List.setIfInBounds_toArray, List.set_cons_zero, List.set_cons_succ]
        refine wpL_one 21 rfl (by kernel_rfl) (by rfl) (fun K hK => ?_)
        go_simp
        refine HRf.out.mono ?_
        rintro e w8 ⟨rfl, hb8⟩
        have HB8 : Hid (Below b w w8) := HB7.out.trans (hb8.mono HBo7.out.lob)
        have HBo8 : Hid (Bo w8 b b r S2) := HBo7.out.below hb8
        have HS8 : Hid (w8.heap[X]? = some (spO x)) := blk_below HS7.out hb8
        have HRr := hid (rrefs_ok HBo8.out.rb (by omega) x.kind x.obj)
        clear hb8
        go_simp
        refine hK.out _ _ (fun _ => HS8.out) ?_
        clear hK K
        refine wpL_one 27 rfl (by kernel_rfl) (by rfl) (fun K hK => ?_)
        go_simp
        refine HRr.out.mono ?_
        rintro e w9 ⟨rfl, hb9⟩
        have HB9 : Hid (Below b w w9) := HB8.out.trans (hb9.mono HBo8.out.lob)
        have HBo9 : Hid (Bo w9 b b r S2) := HBo8.out.below hb9
        have HS9 : Hid (w9.heap[X]? = some (spO x)) := blk_below HS8.out hb9
        clear hb9 HRf HRr HSame HLst HRd5 HC5
        go_simp
        refine hK.out _ _ (fun _ => HS9.out) ?_
        clear hK K
        refine wpL_take 28 59 (.bool false) [] rfl rfl (by kernel_rfl) (by decide) (by kernel_rfl) (by kernel_rfl) (by kernel_rfl) (fun _ _ _ h => h) HS9.out (by rfl) (fun W hW => by go_simp) ?_
        simp only [Act.put, List.setIfInBounds_toArray, List.set_cons_zero, List.set_cons_succ]
        refine wpL_one 29 rfl (by kernel_rfl) (by rfl) (fun K hK => ?_)
        go_simp
        refine hK.out _ _ (fun h => absurd rfl h) ?_
        clear hK K
        refine wpL_done (by kernel_rfl) ?_
        refine NoPanic.normal ?_
        obtain ⟨m0, m1, m2, m3, m4, m5⟩ := six_cells HS9.out
        have HG := hid (get_ok w9 b (pq b) S2 x.pid x.slot HBo9.out.tb.tv)
        unfold getE at HG
        rcases h2 : S2 (x.pid, x.slot) with _ | ⟨ta, tb, tc⟩
        · rw [h2] at HG
          have HAt := hid fun W (hW : Bo W b b r S2) => rat_ok hW.rb (by omega) x.pid x.slot
          have hpn := pos_none HBo9.out.ins (x.pid, x.slot) h2
          rw [hpn] at HAt
          replace HG : Hid (Calls Try.prog 16 #[pq b, i64 x.pid, i64 x.slot] w9 fun e w' => e = .returned (.tuple #[ev 0 0 0 0 0, i64 6]) ∧ Below w9.heap.size w9 w') := HG
          clear hpn h2
          go_wp2_with fail
          refine HG.out.mono ?_
          rintro e w10 ⟨rfl, hb10⟩
          have HBo10 : Hid (Bo (w10.alloc (enO 0 0 0 0 0 38)) b b r S2) := (HBo9.out.below hb10).below (below_one w10 _)
          have HB10 : Hid (Below b w (w10.alloc (enO 0 0 0 0 0 38))) := (HB9.out.trans (hb10.mono HBo9.out.lob)).alloc (Nat.le_trans HBo9.out.lob hb10.size) _
          have HY10 := hid (heap_last w10 (enO 0 0 0 0 0 38))
          obtain ⟨y0, y1, y2, y3, y4, y5⟩ := six_cells (blk_below HS9.out hb10)
          have hXl : X < w10.heap.size := blk_lt (blk_below HS9.out hb10)
          have HA := hid (HAt.out (w10.alloc (enO 0 0 0 0 0 38)) HBo10.out)
          clear hb10 HG HAt m0 m1 m2 m3 m4 m5
          go_wp2_with fail
          refine HA.out.mono ?_
          rintro e w11 ⟨rfl, hb11⟩
          have HBo11 : Hid (Bo w11 b b r S2) := HBo10.out.below hb11
          have HB11 : Hid (Below b w w11) := HB10.out.trans (hb11.mono HBo10.out.lob)
          obtain ⟨z0, z1, z2, z3, z4⟩ := five_cells (blk_below HY10.out hb11)
          have qe := same38 0 0 0 0 0
          have hz := zero38
          clear hb11 HA y0 y1 y2 y3 y4 y5
          go_upto_region 12 with fail
          go_quiet (fail)
          go_wp2_with fail
          exact ⟨⟨k + 1, S2, by omega, by go_num, ⟨HBo11.out.tb.below ⟨rfl, rfl, rfl, Nat.le_refl _, fun _ _ => rfl⟩, HBo11.out.rb.below ⟨rfl, rfl, rfl, Nat.le_refl _, fun _ _ => rfl⟩, HBo11.out.ins⟩, below_drewN HB11.out _⟩, by simp [intOf]; omega⟩
        · rw [h2] at HG
          have HAt := hid fun W (hW : Bo W b b r S2) => rat_ok hW.rb (by omega) x.pid x.slot
          obtain ⟨i, hi, hpos, hget⟩ := pos_some HBo9.out.ins (x.pid, x.slot) _ h2
          rw [hpos] at HAt
          replace HG : Hid (Calls Try.prog 16 #[pq b, i64 x.pid, i64 x.slot] w9 fun e w' => e = .returned (.tuple #[ev x.pid x.slot ta tb tc, i64 0]) ∧ Below w9.heap.size w9 w') := HG
          have HGet := hid hget
          clear hpos h2 hget
          go_wp2_with fail
          refine HG.out.mono ?_
          rintro e w10 ⟨rfl, hb10⟩
          have HBo10 : Hid (Bo (w10.alloc (enO x.pid x.slot ta tb tc 38)) b b r S2) := (HBo9.out.below hb10).below (below_one w10 _)
          have HB10 : Hid (Below b w (w10.alloc (enO x.pid x.slot ta tb tc 38))) := (HB9.out.trans (hb10.mono HBo9.out.lob)).alloc (Nat.le_trans HBo9.out.lob hb10.size) _
          have HY10 := hid (heap_last w10 (enO x.pid x.slot ta tb tc 38))
          obtain ⟨y0, y1, y2, y3, y4, y5⟩ := six_cells (blk_below HS9.out hb10)
          have hXl : X < w10.heap.size := blk_lt (blk_below HS9.out hb10)
          have HA := hid (HAt.out (w10.alloc (enO x.pid x.slot ta tb tc 38)) HBo10.out)
          clear hb10 HG HAt m0 m1 m2 m3 m4 m5
          go_wp2_with fail
          refine HA.out.mono ?_
          rintro e w11 ⟨rfl, hb11⟩
          have HBo11 : Hid (Bo w11 b b r S2) := HBo10.out.below hb11
          have HB11 : Hid (Below b w w11) := HB10.out.trans (hb11.mono HBo10.out.lob)
          obtain ⟨_, ao7, cap, hbk7, hown7⟩ := HBo11.out.rb
          obtain ⟨g, o, rfl, hgl, d0, d1, d2, d3, d4⟩ := Rd5.own hown7 i _ HGet.out
          have hcap := own_cap hown7
          obtain ⟨N, hN⟩ : ∃ N, N = (lst S2).length := ⟨_, rfl⟩
          have HQ0 : Hid (SqP w10.heap.size r g o i N cap ((x.pid, x.slot), (ta, tb, tc)) w11.drew) := ⟨⟨blk_below HY10.out hb11.drew, hgl, d0, d1, d2, d3, d4⟩, blk_lt hbk7, by rw [hN]; exact blk_cell hbk7 0⟩
          rw [← hN] at hi hcap
          have hiI : (i : Int) < N := by omega
          have hi0 : ¬ (i : Int) < 0 := by omega
          clear hN
          clear hb11 HA y0 y1 y2 y3 y4 y5 hbk7 hown7 d0 d1 d2 d3 d4
          go_upto_region 12 with fail
          obtain ⟨Y, hY⟩ : ∃ Y, Y = w10.heap.size := ⟨_, rfl⟩
          have HQ := HQ0
          rw [← hY] at HQ ⊢
          clear hY HQ0
          refine wp_region_noPanic ?_
          refine wp_region_last (SqP Y r g o i N cap ((x.pid, x.slot), (ta, tb, tc))) 30 (by kernel_rfl) ?_
          refine wpL_take 0 76 (i64 i) [1, 2, 10, 11] rfl rfl (by kernel_rfl) (by decide) (by kernel_rfl) (by kernel_rfl) (by kernel_rfl) (fun _ _ _ h => h) HQ.out (by rfl) (fun W hW => by go_simp) ?_
          simp only [Act.put, List.setIfInBounds_toArray, List.set_cons_zero, List.set_cons_succ]
          refine wpL_take 1 77 (.bool false) [2, 10, 11] rfl rfl (by kernel_rfl) (by decide) (by kernel_rfl) (by kernel_rfl) (by kernel_rfl) (fun _ _ _ h => h) HQ.out (by rfl) (fun W hW => by go_simp) ?_
          simp only [Act.put, List.setIfInBounds_toArray, List.set_cons_zero, List.set_cons_succ]
          refine wpL_take 2 78 (.bool false) [10, 11] rfl rfl (by kernel_rfl) (by decide) (by kernel_rfl) (by kernel_rfl) (by kernel_rfl) (fun _ _ _ h => h) HQ.out (by rfl) (fun W hW => by go_simp) ?_
          simp only [Act.put, List.setIfInBounds_toArray, List.set_cons_zero, List.set_cons_succ]
          refine wpL_skip 3 79 [4, 5, 11] rfl rfl (by kernel_rfl) (by decide) (by kernel_rfl) (by kernel_rfl) (by kernel_rfl) (fun _ _ _ h => h) HQ.out (by rfl) ?_
          simp only [Act.put, List.setIfInBounds_toArray, List.set_cons_zero, List.set_cons_succ]
          refine wpL_skip 4 80 [5, 11] rfl rfl (by kernel_rfl) (by decide) (by kernel_rfl) (by kernel_rfl) (by kernel_rfl) (fun _ _ _ h => h) HQ.out (by rfl) ?_
          simp only [Act.put, List.setIfInBounds_toArray, List.set_cons_zero, List.set_cons_succ]
          refine wpL_skip 5 81 [11] rfl rfl (by kernel_rfl) (by decide) (by kernel_rfl) (by kernel_rfl) (by kernel_rfl) (fun _ _ _ h => h) HQ.out (by rfl) ?_
          simp only [Act.put, List.setIfInBounds_toArray, List.set_cons_zero, List.set_cons_succ]
          refine wpL_skip 6 82 [8, 9, 10, 11] rfl rfl (by kernel_rfl) (by decide) (by kernel_rfl) (by kernel_rfl) (by kernel_rfl) (fun _ _ _ h => h) HQ.out (by rfl) ?_
          simp only [Act.put, List.setIfInBounds_toArray, List.set_cons_zero, List.set_cons_succ]
          refine wpL_skip 7 83 [8, 9, 10, 11] rfl rfl (by kernel_rfl) (by decide) (by kernel_rfl) (by kernel_rfl) (by kernel_rfl) (fun _ _ _ h => h) HQ.out (by rfl) ?_
          simp only [Act.put, List.setIfInBounds_toArray, List.set_cons_zero, List.set_cons_succ]
          refine wpL_skip 8 84 [9, 10, 11] rfl rfl (by kernel_rfl) (by decide) (by kernel_rfl) (by kernel_rfl) (by kernel_rfl) (fun _ _ _ h => h) HQ.out (by rfl) ?_
          simp only [Act.put, List.setIfInBounds_toArray, List.set_cons_zero, List.set_cons_succ]
          refine wpL_skip 9 85 [10, 11] rfl rfl (by kernel_rfl) (by decide) (by kernel_rfl) (by kernel_rfl) (by kernel_rfl) (fun _ _ _ h => h) HQ.out (by rfl) ?_
          simp only [Act.put, List.setIfInBounds_toArray, List.set_cons_zero, List.set_cons_succ]
          refine wpL_take 10 86 (.bool false) [11] rfl rfl (by kernel_rfl) (by decide) (by kernel_rfl) (by kernel_rfl) (by kernel_rfl) (fun _ _ _ h => h) HQ.out (by rfl) (fun W hW => by go_simp) ?_
          simp only [Act.put, List.setIfInBounds_toArray, List.set_cons_zero, List.set_cons_succ]
          refine wpL_take 11 87 (.bool false) [] rfl rfl (by kernel_rfl) (by decide) (by kernel_rfl) (by kernel_rfl) (by kernel_rfl) (fun _ _ _ h => h) HQ.out (by rfl) (fun W hW => by go_simp) ?_
          simp only [Act.put, List.setIfInBounds_toArray, List.set_cons_zero, List.set_cons_succ]
          refine wpL_take 12 88 (i64 i) [13, 14, 29] rfl rfl (by kernel_rfl) (by decide) (by kernel_rfl) (by kernel_rfl) (by kernel_rfl) (fun _ _ _ h => h) HQ.out (by rfl) (fun W hW => by go_simp) ?_
          simp only [Act.put, List.setIfInBounds_toArray, List.set_cons_zero, List.set_cons_succ]
          refine wpL_take 13 89 (.bool true) [14, 29] rfl rfl (by kernel_rfl) (by decide) (by kernel_rfl) (by kernel_rfl) (by kernel_rfl) (fun _ _ _ h => h) HQ.out (by rfl) (fun W hW => by go_simp) ?_
          simp only [Act.put, List.setIfInBounds_toArray, List.set_cons_zero, List.set_cons_succ]
          refine wpL_take 14 90 (.bool true) [29] rfl rfl (by kernel_rfl) (by decide) (by kernel_rfl) (by kernel_rfl) (by kernel_rfl) (fun _ _ _ h => h) HQ.out (by rfl) (fun W hW => by go_simp) ?_
          simp only [Act.put, List.setIfInBounds_toArray, List.set_cons_zero, List.set_cons_succ]
          refine wpL_take 15 91 (i64 0) [16, 17, 28, 29] rfl rfl (by kernel_rfl) (by decide) (by kernel_rfl) (by kernel_rfl) (by kernel_rfl) (fun _ _ _ h => h) HQ.out (by rfl) (fun W hW => by go_simp) ?_
          simp only [Act.put, List.setIfInBounds_toArray, List.set_cons_zero, List.set_cons_succ]
          refine wpL_take 16 92 (.bool false) [17, 28, 29] rfl rfl (by kernel_rfl) (by decide) (by kernel_rfl) (by kernel_rfl) (by kernel_rfl) (fun _ _ _ h => h) HQ.out (by rfl) (fun W hW => by go_simp) ?_
          simp only [Act.put, List.setIfInBounds_toArray, List.set_cons_zero, List.set_cons_succ]
          refine wpL_take 17 93 (.bool false) [28, 29] rfl rfl (by kernel_rfl) (by decide) (by kernel_rfl) (by kernel_rfl) (by kernel_rfl) (fun _ _ _ h => h) HQ.out (by rfl) (fun W hW => by go_simp) ?_
          simp only [Act.put, List.setIfInBounds_toArray, List.set_cons_zero, List.set_cons_succ]
          refine wpL_take 18 94 (ev x.pid x.slot ta tb tc) [19, 27, 28, 29] rfl rfl (by kernel_rfl) (by decide) (by kernel_rfl) (by kernel_rfl) (by kernel_rfl) (fun _ _ _ h => h) HQ.out (by rfl) (fun W hW => by obtain ⟨y0, y1, y2, y3, y4⟩ := five_cells hW.sq.one; go_simp) ?_
          simp only [Act.put, List.setIfInBounds_toArray, List.set_cons_zero, List.set_cons_succ]
          refine wpL_take 20 96 (pq r) [21, 22, 23, 25, 26, 27, 28, 29] rfl rfl (by kernel_rfl) (by decide) (by kernel_rfl) (by kernel_rfl) (by kernel_rfl) (fun _ _ _ h => h) HQ.out (by rfl) (fun W hW => by go_simp) ?_
          simp only [Act.put, List.setIfInBounds_toArray, List.set_cons_zero, List.set_cons_succ]
          refine wpL_take 21 97 (pq r) [22, 23, 25, 26, 27, 28, 29] rfl rfl (by kernel_rfl) (by decide) (by kernel_rfl) (by kernel_rfl) (by kernel_rfl) (fun _ _ _ h => h) HQ.out (by rfl) (fun W hW => by have o0 := hW.rc; go_simp) ?_
          simp only [Act.put, List.setIfInBounds_toArray, List.set_cons_zero, List.set_cons_succ]
          refine wpL_take 22 98 (.pointer (some ⟨r, 0, none⟩)) [23, 25, 26, 27, 28, 29] rfl rfl (by kernel_rfl) (by decide) (by kernel_rfl) (by kernel_rfl) (by kernel_rfl) (fun _ _ _ h => h) HQ.out (by rfl) (fun W hW => by go_simp) ?_
          simp only [Act.put, List.setIfInBounds_toArray, List.set_cons_zero, List.set_cons_succ]
          refine wpL_take 23 99 (.slice (some ⟨g, o, none⟩) N cap) [25, 26, 27, 28, 29] rfl rfl (by kernel_rfl) (by decide) (by kernel_rfl) (by kernel_rfl) (by kernel_rfl) (fun _ _ _ h => h) HQ.out (by rfl) (fun W hW => by have o0 := hW.rc; go_simp) ?_
          simp only [Act.put, List.setIfInBounds_toArray, List.set_cons_zero, List.set_cons_succ]
          refine wpL_take 24 100 (i64 i) [25, 26, 27, 28, 29] rfl rfl (by kernel_rfl) (by decide) (by kernel_rfl) (by kernel_rfl) (by kernel_rfl) (fun _ _ _ h => h) HQ.out (by rfl) (fun W hW => by go_simp) ?_
          simp only [Act.put, List.setIfInBounds_toArray, List.set_cons_zero, List.set_cons_succ]
          refine wpL_take 25 101 (.pointer (some ⟨g, o + i * 5, none⟩)) [26, 27, 28, 29] rfl rfl (by kernel_rfl) (by decide) (by kernel_rfl) (by kernel_rfl) (by kernel_rfl) (fun _ _ _ h => h) HQ.out (by rfl) (fun W hW => by go_simp) ?_
          simp only [Act.put, List.setIfInBounds_toArray, List.set_cons_zero, List.set_cons_succ]
          refine wpL_take 26 102 (ev x.pid x.slot ta tb tc) [27, 28, 29] rfl rfl (by kernel_rfl) (by decide) (by kernel_rfl) (by kernel_rfl) (by kernel_rfl) (fun _ _ _ h => h) HQ.out (by rfl) (fun W hW => by have z0 := hW.sq.c0; have z1 := hW.sq.c1; have z2 := hW.sq.c2; have z3 := hW.sq.c3; have z4 := hW.sq.c4; go_simp) ?_
          simp only [Act.put, List.setIfInBounds_toArray, List.set_cons_zero, List.set_cons_succ]
          refine wpL_one 19 rfl (by kernel_rfl) (by rfl) (fun K hK => ?_)
          go_simp
          refine (ref_ok w11.drew x.pid x.slot ta tb tc).mono ?_
          rintro e w12 ⟨rfl, hb12⟩
          have HQ2 : Hid (SqP Y r g o i N cap ((x.pid, x.slot), (ta, tb, tc)) w12) := HQ.out.below hb12
          have hb12' : Below w11.heap.size w11 w12 := ⟨hb12.os, hb12.tape, hb12.output, hb12.size, hb12.block⟩
          have HBo12 : Hid (Bo w12 b b r S2) := HBo11.out.below hb12'
          have HB12 : Hid (Below b w w12) := HB11.out.trans (hb12'.mono HBo11.out.lob)
          clear hb12 hb12'
          go_simp
          refine hK.out _ _ (fun _ => HQ2.out) ?_
          clear hK K
          refine wpL_take 27 103 (.bool false) [28, 29] rfl rfl (by kernel_rfl) (by decide) (by kernel_rfl) (by kernel_rfl) (by kernel_rfl) (fun _ _ _ h => h) HQ2.out (by rfl) (fun W hW => by have q := same42; go_simp) ?_
          simp only [Act.put, List.setIfInBounds_toArray, List.set_cons_zero, List.set_cons_succ]
          refine wpL_take 28 104 (.bool false) [29] rfl rfl (by kernel_rfl) (by decide) (by kernel_rfl) (by kernel_rfl) (by kernel_rfl) (fun _ _ _ h => h) HQ2.out (by rfl) (fun W hW => by go_simp) ?_
          simp only [Act.put, List.setIfInBounds_toArray, List.set_cons_zero, List.set_cons_succ]
          refine wpL_take 29 105 (.bool false) [] rfl rfl (by kernel_rfl) (by decide) (by kernel_rfl) (by kernel_rfl) (by kernel_rfl) (fun _ _ _ h => h) HQ2.out (by rfl) (fun W hW => by go_simp) ?_
          simp only [Act.put, List.setIfInBounds_toArray, List.set_cons_zero, List.set_cons_succ]
          refine wpL_one 30 rfl (by kernel_rfl) (by rfl) (fun K hK => ?_)
          go_simp
          refine hK.out _ _ (fun h => absurd rfl h) ?_
          clear hK K
          refine wpL_done (by kernel_rfl) ?_
          refine NoPanic.normal ?_
          go_wp2_with fail
          exact ⟨⟨k + 1, S2, by omega, by go_num, HBo12, HB12⟩, by simp [intOf]; omega⟩
    · clear HW3 HB3
      have hlo := HBo.out.lob
      go_wp2_with fail
      refine (five_ok wr).mono ?_
      rintro e w6 ⟨rfl, hb6⟩
      have HB6 : Hid (Below b w w6) := HBw.out.trans (hb6.mono hlo)
      clear hb6
      go_wp2_with fail
      go_ret
      exact ⟨rfl, HB6.out⟩
end Go.Proofs.Ytdgkajhlofpdeaa
