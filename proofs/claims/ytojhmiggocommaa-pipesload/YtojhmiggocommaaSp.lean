/- PipesSteps' walk; no statement is proved in this text. -/
import Derived.Test.YtojhmiggocommaaSm
namespace Go.Proofs.Ytojhmiggocommaa
open Go.ChangeShapes Go.WideShapes Go.ChangeAt Go.RowKit Go.Deep
attribute [local go_sem ↓] Go.wp_at_zero Go.wp_at_succ

theorem zero30 (w : World) : (zeroValue 30).run Try.prog w = .ok (.agg #[.slice none 0 0]) w := by kernel_rfl
theorem rb_new (w : World) (b : Nat) (hb : b ≤ w.heap.size) : Rb (w.alloc (.cells #[.slice none 0 0] 30)) b w.heap.size (lst noSt) := ⟨hb, _, heap_last w _, World.ownsRow_nil _ _ 47 2⟩
theorem run_agg32 (W : World) (X : Nat) (x : Sp) (h : W.heap[X]? = some (.cells #[i64 x.what, i64 x.id, i64 x.n, .string x.s] 32)) : (loadVar 32 ⟨X, 0, none⟩).run Try.prog W = .ok (.agg #[i64 x.what, i64 x.id, i64 x.n, .string x.s]) W := by
  refine run_loadVar_mid _ _ 0 32 x.c' _ (fun j v hv => ?_) Try.underlying32 rfl (by kernel_rfl)
  rw [Nat.zero_add, cell_of_row _ _ _ _ 32 (0, 0) h]
  simpa using hv
set_option maxRecDepth 100000 in
set_option maxHeartbeats 12800000 in
theorem steps_any (w : World) (ao : Option Addr) (len cap : Nat) (f : Nat → Sp) (hlen : len ≤ maxLen) (hS : SSl w ao len f) : Calls Try.prog 3 #[.slice ao len cap] w fun e w' => e = .returned (.bool true) ∧ Below w.heap.size w w' := by
  have hm : (len : Int) ≤ 9223372036854775807 := by unfold maxLen at hlen; omega
  have HSb := hid hS
  have HLn := hid hlen
  have HNw := hid (new_ok w)
  obtain ⟨b, hb⟩ : ∃ b, b = w.heap.size := ⟨_, rfl⟩
  have HB := hid hb
  rw [← hb] at HNw ⊢
  clear hS hlen hb
  go_enter Try.func3, Try.ntmps3
  go_wp2_with fail
  refine HNw.out.mono ?_
  rintro e w1 ⟨rfl, hp1, hb1⟩
  have HP1 := hid hp1
  have HB1 : Hid (Below b w w1) := hb1
  clear hp1 hb1 HNw
  have HL := hid (long_ok w1 ao len cap f HLn.out (HSb.out.below (by rw [← HB.out]; exact HB1.out)))
  go_wp2_with fail
  refine HL.out.mono ?_
  rintro e w2 ⟨bl, rfl, hbl, hb2⟩
  have HB2 : Hid (Below b w w2) := HB1.out.trans (hb2.mono (by have := HP1.out.lt; omega))
  have HP2 : Hid (PS w2 b b noSt) := HP1.out.below hb2
  have HBL : Hid (bl = false → len ≤ 61 ∧ ∀ i, i < len → (f i).s.size ≤ 100) := hbl
  clear hbl hb2 HL HP1 HB1
  cases bl with
  | true =>
    clear HBL
    go_wp2_with fail
    refine (abc_ok w2).mono ?_
    rintro e w3 ⟨rfl, hb3⟩
    have HB3 : Hid (Below b w w3) := HB2.out.trans (hb3.mono (by have := HP2.out.lt; omega))
    clear hb3
    go_wp2_with fail
    go_ret
    exact ⟨rfl, HB3.out⟩
  | false =>
    obtain ⟨h61, h100⟩ := HBL.out rfl
    have H100 := hid h100
    clear HBL h100
    have hz30 := zero30 w2
    go_wp2_with fail
    have HW3 : Hid (Bo (w2.alloc (.cells #[.slice none 0 0] 30)) b b w2.heap.size noSt) := ⟨HP2.out.below (below_one w2 _), rb_new w2 b (by have := HP2.out.lt; omega)⟩
    have HB3 : Hid (Below b w (w2.alloc (.cells #[.slice none 0 0] 30))) := HB2.out.trans ((below_one w2 _).mono (by have := HP2.out.lt; omega))
    clear hz30
    obtain ⟨r, hr⟩ : ∃ r, r = w2.heap.size := ⟨_, rfl⟩
    rw [← hr] at HW3 ⊢
    generalize w2.alloc (.cells #[.slice none 0 0] 30) = w3 at *
    clear hr
    go_loopw [23] (fun u wr => ∃ (k : Nat) (S : St), k ≤ len ∧ u = i64 k ∧ Hid (Bo wr b b r S) ∧ Hid (Below b w wr)) (fun u _ => len - (intOf u).toNat)
    case atStart => exact ⟨0, noSt, by omega, rfl, HW3, HB3⟩
    case round =>
      obtain ⟨k, S, hk, rfl, HBo, HBw⟩ := hrel
      by_cases hlt : k < len
      · have hkI : (k : Int) < len := by omega
        obtain ⟨B, off, hao, hb, hr⟩ := (HSb.out.below (by rw [← HB.out]; exact HBw.out)).at hlt
        subst hao
        obtain ⟨x, hx⟩ : ∃ x, x = f k := ⟨_, rfl⟩
        rw [← hx] at hr
        have HSZ : Hid (x.s.size ≤ 100) := by rw [hx]; exact H100.out k hlt
        have c0 : wr.cell? ⟨B, off + k * 4, none⟩ = some (i64 x.what) := hr 0 _ rfl
        have c1 : wr.cell? ⟨B, off + k * 4 + 1, none⟩ = some (i64 x.id) := hr 1 _ rfl
        have c2 : wr.cell? ⟨B, off + k * 4 + 2, none⟩ = some (i64 x.n) := hr 2 _ rfl
        have c3 : wr.cell? ⟨B, off + k * 4 + 3, none⟩ = some (.string x.s) := hr 3 _ rfl
        have HBV : Hid (Below b w (wr.alloc (.cells #[i64 x.what, i64 x.id, i64 x.n, .string x.s] 32))) := HBw.out.trans ((below_one wr _).mono HBo.out.lob)
        have HBoV : Hid (Bo (wr.alloc (.cells #[i64 x.what, i64 x.id, i64 x.n, .string x.s] 32)) b b r S) := HBo.out.below (below_one wr _)
        have HX : Hid ((wr.alloc (.cells #[i64 x.what, i64 x.id, i64 x.n, .string x.s] 32)).heap[wr.heap.size]? = some (.cells #[i64 x.what, i64 x.id, i64 x.n, .string x.s] 32)) := heap_last wr _
        clear hx hr hb
        go_upto_region 8 with fail
        obtain ⟨X, hX⟩ : ∃ X, X = wr.heap.size := ⟨_, rfl⟩
        rw [← hX] at HX ⊢
        clear hX
        generalize wr.alloc (.cells #[i64 x.what, i64 x.id, i64 x.n, .string x.s] 32) = V at *
        have HS : Hid (V.drew.heap[X]? = some (.cells #[i64 x.what, i64 x.id, i64 x.n, .string x.s] 32)) := HX.out
        have HD := hid (does_ok V.drew b b r S x ⟨HBoV.out.ps.below ⟨rfl, rfl, rfl, Nat.le_refl _, fun _ _ => rfl⟩, ⟨HBoV.out.rb.lo, HBoV.out.rb.own⟩⟩ HSZ.out)
        generalize stp S x = S2 at *
        refine wp_region_noPanic ?_
        refine wp_region_last (fun W => W.heap[X]? = some (.cells #[i64 x.what, i64 x.id, i64 x.n, .string x.s] 32)) 14 (by kernel_rfl) ?_
        refine wpL_take 0 27 (pq b) [3, 4, 5] rfl rfl (by kernel_rfl) (by decide) (by kernel_rfl) (by kernel_rfl) (by kernel_rfl) (fun _ _ _ h => h) HS.out (by rfl) (fun W hW => by go_simp) ?_
        simp only [Act.put, List.setIfInBounds_toArray, List.set_cons_zero, List.set_cons_succ]
        refine wpL_take 1 28 (pq r) [3, 4, 5] rfl rfl (by kernel_rfl) (by decide) (by kernel_rfl) (by kernel_rfl) (by kernel_rfl) (fun _ _ _ h => h) HS.out (by rfl) (fun W hW => by go_simp) ?_
        simp only [Act.put, List.setIfInBounds_toArray, List.set_cons_zero, List.set_cons_succ]
        refine wpL_take 2 29 (.agg #[i64 x.what, i64 x.id, i64 x.n, .string x.s]) [3, 4, 5] rfl rfl (by kernel_rfl) (by decide) (by kernel_rfl) (by kernel_rfl) (by kernel_rfl) (fun _ _ _ h => h) HS.out (by rfl) (fun W hW => by exact exec_load 32 (.tmp 6) rfl rfl (run_agg32 W X x hW)) ?_
        simp only [Act.put, List.setIfInBounds_toArray, List.set_cons_zero, List.set_cons_succ]
        refine wpL_one 3 rfl (by kernel_rfl) (by rfl) (fun K hK => ?_)
        go_simp
        refine HD.out.mono ?_
        rintro e w5 ⟨rfl, hbo5, hf5⟩
        have HBo5 := hid hbo5
        have HB5 : Hid (Below b w w5) := HBV.out.trans (below_of_drew hf5.below)
        have HS1 : Hid (w5.heap[X]? = some (.cells #[i64 x.what, i64 x.id, i64 x.n, .string x.s] 32)) := hf5.kept _ _ HS.out rfl
        obtain ⟨ao5, cap5, hbk5, hown5, _, _⟩ := hbo5.rb.row
        have HC5 : Hid (w5.cell? ⟨r, 0, none⟩ = some (.slice ao5 (lst S2).length cap5)) := blk_cell hbk5 0
        have HRd5 : Hid (Rd2 w5 ao5 (lst S2)) := Rd2.own hown5
        have HLst := hid (list_ok w5 b b S2 hbo5.ps)
        clear hbo5 hf5 hbk5 hown5
        go_simp
        refine hK.out _ _ (fun _ => HS1.out) ?_
        clear hK K
        refine wpL_take 4 31 (.bool false) [5] rfl rfl (by kernel_rfl) (by decide) (by kernel_rfl) (by kernel_rfl) (by kernel_rfl) (fun _ _ _ h => h) HS1.out (by rfl) (fun W hW => by go_simp) ?_
        simp only [Act.put, List.setIfInBounds_toArray, List.set_cons_zero, List.set_cons_succ]
        refine wpL_take 5 32 (.bool false) [] rfl rfl (by kernel_rfl) (by decide) (by kernel_rfl) (by kernel_rfl) (by kernel_rfl) (fun _ _ _ h => h) HS1.out (by rfl) (fun W hW => by go_simp) ?_
        simp only [Act.put, List.setIfInBounds_toArray, List.set_cons_zero, List.set_cons_succ]
        refine wpL_take 6 33 (pq b) [7, 12, 13] rfl rfl (by kernel_rfl) (by decide) (by kernel_rfl) (by kernel_rfl) (by kernel_rfl) (fun _ _ _ h => h) HS1.out (by rfl) (fun W hW => by go_simp) ?_
        simp only [Act.put, List.setIfInBounds_toArray, List.set_cons_zero, List.set_cons_succ]
        refine wpL_take 8 35 (pq r) [9, 10, 11, 12, 13] rfl rfl (by kernel_rfl) (by decide) (by kernel_rfl) (by kernel_rfl) (by kernel_rfl) (fun _ _ _ h => h) HS1.out (by rfl) (fun W hW => by go_simp) ?_
        simp only [Act.put, List.setIfInBounds_toArray, List.set_cons_zero, List.set_cons_succ]
        refine wpL_take 9 36 (pq r) [10, 11, 12, 13] rfl rfl (by kernel_rfl) (by decide) (by kernel_rfl) (by kernel_rfl) (by kernel_rfl) (fun _ _ _ h => h) HS1.out (by rfl) (fun W hW => by go_simp) ?_
        simp only [Act.put, List.setIfInBounds_toArray, List.set_cons_zero, List.set_cons_succ]
        refine wpL_take 10 37 (pq r) [11, 12, 13] rfl rfl (by kernel_rfl) (by decide) (by kernel_rfl) (by kernel_rfl) (by kernel_rfl) (fun _ _ _ h => h) HS1.out (by rfl) (fun W hW => by go_simp) ?_
        simp only [Act.put, List.setIfInBounds_toArray, List.set_cons_zero, List.set_cons_succ]
        refine wpL_two 7 11 rfl rfl (by kernel_rfl) (by rfl) (by rfl) (fun K hK => ?_) (fun K hK => ?_)
        · go_simp
          refine HLst.out.mono ?_
          rintro e w6 ⟨a6, c6, rfl, ho6, hb6⟩
          have HB6 : Hid (Below b w w6) := HB5.out.trans (hb6.mono HBo5.out.lob)
          have HBo6 : Hid (Bo w6 b b r S2) := HBo5.out.below hb6
          have HS6 : Hid (w6.heap[X]? = some (.cells #[i64 x.what, i64 x.id, i64 x.n, .string x.s] 32)) := blk_below HS1.out hb6
          have HSame : Hid (Calls Try.prog 12 #[.slice a6 (lst S2).length c6, .slice ao5 (lst S2).length cap5] w6 fun e w' => e = .returned (.bool true) ∧ Below w6.heap.size w6 w') := same_ok w6 a6 ao5 c6 cap5 (lst S2) (by have := lst_len S2; omega) (Rd2.own ho6) (HRd5.out.below hb6)
          have e6 : w6.cell? ⟨r, 0, none⟩ = some (.slice ao5 (lst S2).length cap5) := by rw [hb6.cell (by exact HBo5.out.rb.lt)]; exact HC5.out
          clear ho6 hb6
          go_simp
          refine hK.out _ _ (fun _ => HS6.out) ?_
          clear hK K
          refine wpL_one 11 rfl (by kernel_rfl) (by rfl) (fun K hK => ?_)
          go_simp
          refine hK.out _ _ (fun _ => HS6.out) ?_
          clear hK K
          refine wpL_one 12 rfl (by kernel_rfl) (by rfl) (fun K hK => ?_)
          go_simp
          refine HSame.out.mono ?_
          rintro e w7 ⟨rfl, hb7⟩
          have HB7 : Hid (Below b w w7) := HB6.out.trans (hb7.mono HBo6.out.lob)
          have HBo7 : Hid (Bo w7 b b r S2) := HBo6.out.below hb7
          have HS7 : Hid (w7.heap[X]? = some (.cells #[i64 x.what, i64 x.id, i64 x.n, .string x.s] 32)) := blk_below HS6.out hb7
          clear hb7
          go_simp
          refine hK.out _ _ (fun _ => HS7.out) ?_
          clear hK K
          refine wpL_take 13 40 (.bool false) [] rfl rfl (by kernel_rfl) (by decide) (by kernel_rfl) (by kernel_rfl) (by kernel_rfl) (fun _ _ _ h => h) HS7.out (by rfl) (fun W hW => by go_simp) ?_
          simp only [Act.put, List.setIfInBounds_toArray, List.set_cons_zero, List.set_cons_succ]
          refine wpL_one 14 rfl (by kernel_rfl) (by rfl) (fun K hK => ?_)
          go_simp
          refine hK.out _ _ (fun h => absurd rfl h) ?_
          clear hK K
          refine wpL_done (by kernel_rfl) ?_
          refine NoPanic.normal ?_
          go_wp2_with fail
          exact ⟨⟨k + 1, S2, by omega, by go_num, HBo7, HB7⟩, by simp [intOf]; omega⟩
        · have e5 := HC5.out
          go_simp
          refine hK.out _ _ (fun _ => HS1.out) ?_
          clear hK K
          refine wpL_one 7 rfl (by kernel_rfl) (by rfl) (fun K hK => ?_)
          go_simp
          refine HLst.out.mono ?_
          rintro e w6 ⟨a6, c6, rfl, ho6, hb6⟩
          have HB6 : Hid (Below b w w6) := HB5.out.trans (hb6.mono HBo5.out.lob)
          have HBo6 : Hid (Bo w6 b b r S2) := HBo5.out.below hb6
          have HS6 : Hid (w6.heap[X]? = some (.cells #[i64 x.what, i64 x.id, i64 x.n, .string x.s] 32)) := blk_below HS1.out hb6
          have HSame : Hid (Calls Try.prog 12 #[.slice a6 (lst S2).length c6, .slice ao5 (lst S2).length cap5] w6 fun e w' => e = .returned (.bool true) ∧ Below w6.heap.size w6 w') := same_ok w6 a6 ao5 c6 cap5 (lst S2) (by have := lst_len S2; omega) (Rd2.own ho6) (HRd5.out.below hb6)
          have e6 : w6.cell? ⟨r, 0, none⟩ = some (.slice ao5 (lst S2).length cap5) := by rw [hb6.cell (by exact HBo5.out.rb.lt)]; exact HC5.out
          clear ho6 hb6
          go_simp
          refine hK.out _ _ (fun _ => HS6.out) ?_
          clear hK K
          refine wpL_one 12 rfl (by kernel_rfl) (by rfl) (fun K hK => ?_)
          go_simp
          refine HSame.out.mono ?_
          rintro e w7 ⟨rfl, hb7⟩
          have HB7 : Hid (Below b w w7) := HB6.out.trans (hb7.mono HBo6.out.lob)
          have HBo7 : Hid (Bo w7 b b r S2) := HBo6.out.below hb7
          have HS7 : Hid (w7.heap[X]? = some (.cells #[i64 x.what, i64 x.id, i64 x.n, .string x.s] 32)) := blk_below HS6.out hb7
          clear hb7
          go_simp
          refine hK.out _ _ (fun _ => HS7.out) ?_
          clear hK K
          refine wpL_take 13 40 (.bool false) [] rfl rfl (by kernel_rfl) (by decide) (by kernel_rfl) (by kernel_rfl) (by kernel_rfl) (fun _ _ _ h => h) HS7.out (by rfl) (fun W hW => by go_simp) ?_
          simp only [Act.put, List.setIfInBounds_toArray, List.set_cons_zero, List.set_cons_succ]
          refine wpL_one 14 rfl (by kernel_rfl) (by rfl) (fun K hK => ?_)
          go_simp
          refine hK.out _ _ (fun h => absurd rfl h) ?_
          clear hK K
          refine wpL_done (by kernel_rfl) ?_
          refine NoPanic.normal ?_
          go_wp2_with fail
          exact ⟨⟨k + 1, S2, by omega, by go_num, HBo7, HB7⟩, by simp [intOf]; omega⟩
      · go_wp2_with fail
        refine (abc_ok wr).mono ?_
        rintro e w9 ⟨rfl, hb9⟩
        have HB9 : Hid (Below b w w9) := HBw.out.trans (hb9.mono HBo.out.lob)
        clear hb9
        go_wp2_with fail
        go_ret
        exact ⟨rfl, HB9.out⟩
end Go.Proofs.Ytojhmiggocommaa
