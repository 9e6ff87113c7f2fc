/- DescFork's walk; no statement is proved in this text. -/
import Derived.Test.YtdgkajhlofpdeaaLb
namespace Go.Proofs.Ytdgkajhlofpdeaa
open Go.ChangeShapes Go.WideShapes Go.ChangeAt Go.RowKit Go.Deep
attribute [local go_sem ↓] Go.wp_at_zero Go.wp_at_succ

set_option maxRecDepth 100000 in
set_option maxHeartbeats 3200000 in
theorem fork_any (w : World) (ao : Option Addr) (len cap : Nat) (p c : Int) (f : Nat → Sp) (hlen : len ≤ maxLen) (hS : SSl w ao len f) : Calls Try.prog 6 #[.slice ao len cap, i64 p, i64 c] w fun e w' => e = .returned (.bool true) ∧ Below w.heap.size w w' := by
  have hm : (len : Int) ≤ 9223372036854775807 := by unfold maxLen at hlen; omega
  have HSb := hid hS
  have HNw := hid (new_ok w)
  obtain ⟨b, hb⟩ : ∃ b, b = w.heap.size := ⟨_, rfl⟩
  have HB := hid hb
  rw [← hb] at HNw ⊢
  clear hS hlen hb
  by_cases h60 : 60 < len
  · have h60' : (60 : Int) < len := by omega
    go_enter Try.func6, Try.ntmps6
    go_wp2_with fail
    refine HNw.out.mono ?_
    rintro e w1 ⟨rfl, ht1, hb1⟩
    have HB1 : Hid (Below b w w1) := hb1
    have hlo1 : b ≤ w1.heap.size := Nat.le_of_lt ht1.lt
    clear ht1 hb1 HNw
    go_wp2_with fail
    refine (five_ok w1).mono ?_
    rintro e w2 ⟨rfl, hb2⟩
    have HB2 : Hid (Below b w w2) := HB1.out.trans (hb2.mono hlo1)
    clear hb2
    go_wp2_with fail
    go_ret
    exact ⟨rfl, HB2.out⟩
  have h60' : ¬ (60 : Int) < len := by omega
  go_enter Try.func6, Try.ntmps6
  go_wp2_with fail
  refine HNw.out.mono ?_
  rintro e w1 ⟨rfl, ht1, hb1⟩
  have HT1 := hid ht1
  have HB1 : Hid (Below b w w1) := hb1
  clear ht1 hb1 HNw
  have hz29 := zero29
  go_wp2_with fail
  have hlo1 : b ≤ w1.heap.size := Nat.le_of_lt HT1.out.lt
  have HW3 : Hid (Bo (w1.alloc (.cells #[.slice none 0 0] 29)) b b w1.heap.size noSt) := ⟨HT1.out.below (below_one w1 _), rb_new w1 b hlo1, ins_no⟩
  have HB3 : Hid (Below b w (w1.alloc (.cells #[.slice none 0 0] 29))) := HB1.out.trans ((below_one w1 _).mono hlo1)
  clear hz29
  obtain ⟨r, hr⟩ : ∃ r, r = w1.heap.size := ⟨_, rfl⟩
  rw [← hr] at HW3 ⊢
  generalize w1.alloc (.cells #[.slice none 0 0] 29) = w3 at *
  clear hr hlo1 HT1 HB1
  go_loopw [33] (fun u wr => ∃ (k : Nat) (S : St), k ≤ len ∧ u = i64 k ∧ Hid (Bo wr b b r S) ∧ Hid (Rgt S) ∧ Hid (Below b w wr)) (fun u _ => len - (intOf u).toNat)
  case atStart => exact ⟨0, noSt, by omega, rfl, HW3, rgt_no, HB3⟩
  case round =>
    obtain ⟨k, S, hk, rfl, HBo, HRt, HBw⟩ := hrel
    by_cases hlt : k < len
    · have hkI : (k : Int) < len := by omega
      obtain ⟨B, off, hao, hb, hr⟩ := (HSb.out.below (by rw [← HB.out]; exact HBw.out)).at hlt
      subst hao
      obtain ⟨x, hx⟩ : ∃ x, x = f k := ⟨_, rfl⟩
      rw [← hx] at hr
      have c0 : wr.cell? ⟨B, off + k * 6, none⟩ = some (i64 x.what) := hr 0 _ rfl
      have c1 : wr.cell? ⟨B, off + k * 6 + 1, none⟩ = some (i64 x.pid) := hr 1 _ rfl
      have c2 : wr.cell? ⟨B, off + k * 6 + 2, none⟩ = some (i64 x.slot) := hr 2 _ rfl
      have c3 : wr.cell? ⟨B, off + k * 6 + 3, none⟩ = some (i64 x.kind) := hr 3 _ rfl
      have c4 : wr.cell? ⟨B, off + k * 6 + 4, none⟩ = some (i64 x.obj) := hr 4 _ rfl
      have c5 : wr.cell? ⟨B, off + k * 6 + 5, none⟩ = some (i64 x.n) := hr 5 _ rfl
      have HBV : Hid (Below b w (wr.alloc (spO x))) := HBw.out.trans ((below_one wr _).mono HBo.out.lob)
      have HBoV : Hid (Bo (wr.alloc (spO x)) b b r S) := HBo.out.below (below_one wr _)
      have HX : Hid ((wr.alloc (spO x)).heap[wr.heap.size]? = some (spO x)) := heap_last wr _
      clear hx hr hb
      have HD := hid (does_ok (wr.alloc (spO x)) b b r S x HBoV.out)
      have HRt2 := hid (HRt.out.stp x)
      generalize stp S x = S2 at *
      go_wp2_with fail
      refine HD.out.mono ?_
      rintro e w5 ⟨rfl, hbo5, hf5⟩
      have HBo5 := hid hbo5
      have HB5 : Hid (Below b w w5) := HBV.out.trans hf5.below
      clear hbo5 hf5
      go_wp2_with fail
      exact ⟨⟨k + 1, S2, by omega, by go_num, HBo5, HRt2, HB5⟩, by simp [intOf]; omega⟩
    · clear HW3 HB3
      have HFk := hid (fork_ok wr b b S p c HBo.out.tb)
      have HIn := hid HBo.out.ins
      by_cases hE : forkE S p c = 0
      · rw [hE] at HFk
        have HG := hid fun s => fork_get HIn.out hE s
        generalize forkS S p c = S2 at *
        clear hE
        go_wp2_with fail
        refine HFk.out.mono ?_
        rintro e w4 ⟨rfl, ht4, hf4⟩
        have HT4 := hid ht4
        have HB4 : Hid (Below b w w4) := HBw.out.trans hf4.below
        clear ht4 hf4 HFk
        go_wp2_with fail
        go_loopw [11] (fun u wr => ∃ (j : Nat), j ≤ 6 ∧ u = i64 j ∧ Hid (Tb wr b b S2) ∧ Hid (Below b w wr)) (fun u _ => 6 - (intOf u).toNat)
        case atStart => exact ⟨0, by omega, rfl, HT4, HB4⟩
        case round =>
          obtain ⟨j, hj, rfl, HT, HBr⟩ := hrel
          by_cases hj6 : j < 6
          · have hjI : (j : Int) < 6 := by omega
            have C1 := hid (get_ok wr b (pq b) S2 p j HT.out.tv)
            obtain ⟨g1, g2⟩ := HG.out (j : Int)
            unfold getE at C1
            rw [g1] at C1
            have C2 : Hid (∀ W, Tb W b b S2 → Calls Try.prog 16 #[pq b, i64 c, i64 j] W fun e w' => e = .returned (.tuple #[lkE (c, (j : Int)) (S (p, (j : Int))), i64 (if (S (p, (j : Int))).isSome then 0 else 6)]) ∧ Below W.heap.size W w') := fun W hW => by
              have := get_ok W b (pq b) S2 c j hW.tv
              unfold getE at this
              rw [g2] at this
              exact this
            clear g1 g2
            rcases hSp : S (p, (j : Int)) with _ | ⟨ta, tb, tc⟩
            all_goals (
              rw [hSp] at C1 C2
              clear hSp)
            · replace C1 : Hid (Calls Try.prog 16 #[pq b, i64 p, i64 j] wr fun e w' => e = .returned (.tuple #[ev 0 0 0 0 0, i64 6]) ∧ Below wr.heap.size wr w') := C1
              replace C2 : Hid (∀ W, Tb W b b S2 → Calls Try.prog 16 #[pq b, i64 c, i64 j] W fun e w' => e = .returned (.tuple #[ev 0 0 0 0 0, i64 6]) ∧ Below W.heap.size W w') := C2
              go_wp2_with fail
              refine C1.out.mono ?_
              rintro e w5 ⟨rfl, hb5⟩
              have hlo : b ≤ wr.heap.size := by have := HT.out.lo; have := HT.out.lt; omega
              have HT5 : Hid (Tb (w5.alloc (enO 0 0 0 0 0 38)) b b S2) := (HT.out.below hb5).below (below_one w5 _)
              have HB5 : Hid (Below b w (w5.alloc (enO 0 0 0 0 0 38))) := (HBr.out.trans (hb5.mono hlo)).alloc (Nat.le_trans hlo hb5.size) _
              have HX5 := hid (heap_last w5 (enO 0 0 0 0 0 38))
              have hlo5 : b ≤ (w5.alloc (enO 0 0 0 0 0 38)).heap.size := by have := HT5.out.lt; have := HT5.out.lo; omega
              clear hb5 C1
              have C3 := hid (C2.out (w5.alloc (enO 0 0 0 0 0 38)) HT5.out)
              go_wp2_with fail
              refine C3.out.mono ?_
              rintro e w6 ⟨rfl, hb6⟩
              have HT6 : Hid (Tb (w6.alloc (enO 0 0 0 0 0 38)) b b S2) := (HT5.out.below hb6).below (below_one w6 _)
              have HB6 : Hid (Below b w (w6.alloc (enO 0 0 0 0 0 38))) := (HB5.out.trans (hb6.mono hlo5)).alloc (Nat.le_trans hlo5 hb6.size) _
              obtain ⟨x0, x1, x2, x3, x4⟩ := five_cells (blk_below HX5.out hb6)
              have hsz : w5.heap.size < w6.heap.size := blk_lt (blk_below HX5.out hb6)
              clear hb6 C2 C3 hlo5
              go_wp2_with fail
              exact ⟨⟨j + 1, by omega, by go_num, HT6, HB6⟩, by simp [intOf]; omega⟩
            · replace C1 : Hid (Calls Try.prog 16 #[pq b, i64 p, i64 j] wr fun e w' => e = .returned (.tuple #[ev p j ta tb tc, i64 0]) ∧ Below wr.heap.size wr w') := C1
              replace C2 : Hid (∀ W, Tb W b b S2 → Calls Try.prog 16 #[pq b, i64 c, i64 j] W fun e w' => e = .returned (.tuple #[ev c j ta tb tc, i64 0]) ∧ Below W.heap.size W w') := C2
              go_wp2_with fail
              refine C1.out.mono ?_
              rintro e w5 ⟨rfl, hb5⟩
              have hlo : b ≤ wr.heap.size := by have := HT.out.lo; have := HT.out.lt; omega
              have HT5 : Hid (Tb (w5.alloc (enO p j ta tb tc 38)) b b S2) := (HT.out.below hb5).below (below_one w5 _)
              have HB5 : Hid (Below b w (w5.alloc (enO p j ta tb tc 38))) := (HBr.out.trans (hb5.mono hlo)).alloc (Nat.le_trans hlo hb5.size) _
              have HX5 := hid (heap_last w5 (enO p j ta tb tc 38))
              have hlo5 : b ≤ (w5.alloc (enO p j ta tb tc 38)).heap.size := by have := HT5.out.lt; have := HT5.out.lo; omega
              clear hb5 C1
              have C3 := hid (C2.out (w5.alloc (enO p j ta tb tc 38)) HT5.out)
              go_wp2_with fail
              refine C3.out.mono ?_
              rintro e w6 ⟨rfl, hb6⟩
              have HT6 : Hid (Tb (w6.alloc (enO c j ta tb tc 38)) b b S2) := (HT5.out.below hb6).below (below_one w6 _)
              have HB6 : Hid (Below b w (w6.alloc (enO c j ta tb tc 38))) := (HB5.out.trans (hb6.mono hlo5)).alloc (Nat.le_trans hlo5 hb6.size) _
              obtain ⟨x0, x1, x2, x3, x4⟩ := five_cells (blk_below HX5.out hb6)
              have hsz : w5.heap.size < w6.heap.size := blk_lt (blk_below HX5.out hb6)
              clear hb6 C2 C3 hlo5
              go_wp2_with fail
              exact ⟨⟨j + 1, by omega, by go_num, HT6, HB6⟩, by simp [intOf]; omega⟩
          · go_wp2_with fail
            have hlo : b ≤ wr.heap.size := by have := HT.out.lo; have := HT.out.lt; omega
            refine (five_ok wr).mono ?_
            rintro e w6 ⟨rfl, hb6⟩
            have HB6 : Hid (Below b w w6) := HBr.out.trans (hb6.mono hlo)
            clear hb6
            go_wp2_with fail
            go_ret
            exact ⟨rfl, HB6.out⟩
      · have HE : Hid (∃ E, E ≠ 0 ∧ forkE S p c = E ∧ forkS S p c = S) := ⟨_, hE, rfl, by unfold forkS; rw [if_neg hE]⟩
        obtain ⟨E, hE0, hE1, hE2⟩ := HE.out
        rw [hE1, hE2] at HFk
        have q : (E != 0) = true := by rw [bne, beq_false_of_ne hE0]; rfl
        clear HE hE hE0 hE1 hE2
        go_wp2_with fail
        refine HFk.out.mono ?_
        rintro e w4 ⟨rfl, ht4, hf4⟩
        have HBo4 : Hid (Bo w4 b b r S) := ⟨ht4, HBo.out.rb.fr hf4 rfl rfl, HIn.out⟩
        have HB4 : Hid (Below b w w4) := HBw.out.trans hf4.below
        clear ht4 hf4 HFk
        go_upto_region 11 with fail
        obtain ⟨_, ao5, cap5, hbk, hown⟩ := HBo4.out.rb
        have HRd : Hid (Rd5 w4.drew ao5 (lst S)) := Rd5.own (w := w4.drew) hown
        have HS : Hid (w4.drew.cell? ⟨r, 0, none⟩ = some (.slice ao5 (lst S).length cap5)) := blk_cell hbk 0
        have HLst := hid (list_ok w4.drew b (pq b) S (HBo4.out.tb.below (w' := w4.drew) ⟨rfl, rfl, rfl, Nat.le_refl _, fun _ _ => rfl⟩).tv)
        have hln := lst_len S
        clear hbk hown
        have hrl : r < w4.heap.size := HBo4.out.rb.lt
        have hlo4 := HBo4.out.lob
        refine wp_region_noPanic ?_
        refine wp_region_last (fun W => W.cell? ⟨r, 0, none⟩ = some (.slice ao5 (lst S).length cap5)) 10 (by kernel_rfl) ?_
        refine wpL_take 0 47 (pq b) [] rfl rfl (by kernel_rfl) (by decide) (by kernel_rfl) (by kernel_rfl) (by kernel_rfl) (fun _ _ _ h => h) HS.out (by rfl) (fun W hW => by go_simp) ?_
        simp only [Act.put, List.setIfInBounds_toArray, List.set_cons_zero, List.set_cons_succ]
        refine wpL_take 2 49 (pq r) [] rfl rfl (by kernel_rfl) (by decide) (by kernel_rfl) (by kernel_rfl) (by kernel_rfl) (fun _ _ _ h => h) HS.out (by rfl) (fun W hW => by go_simp) ?_
        simp only [Act.put, List.setIfInBounds_toArray, List.set_cons_zero, List.set_cons_succ]
        refine wpL_take 3 50 (pq r) [] rfl rfl (by kernel_rfl) (by decide) (by kernel_rfl) (by kernel_rfl) (by kernel_rfl) (fun _ _ _ h => h) HS.out (by rfl) (fun W hW => by have o0 : W.cell? ⟨r, 0, none⟩ = some (.slice ao5 (lst S).length cap5) := hW; go_simp) ?_
        simp only [Act.put, List.setIfInBounds_toArray, List.set_cons_zero, List.set_cons_succ]
        refine wpL_take 4 51 (.pointer (some ⟨r, 0, none⟩)) [] rfl rfl (by kernel_rfl) (by decide) (by kernel_rfl) (by kernel_rfl) (by kernel_rfl) (fun _ _ _ h => h) HS.out (by rfl) (fun W hW => by go_simp) ?_
        simp only [Act.put, List.setIfInBounds_toArray, List.set_cons_zero, List.set_cons_succ]
        refine wpL_take 5 52 (.slice ao5 (lst S).length cap5) [] rfl rfl (by kernel_rfl) (by decide) (by kernel_rfl) (by kernel_rfl) (by kernel_rfl) (fun _ _ _ h => h) HS.out (by rfl) (fun W hW => by have o0 : W.cell? ⟨r, 0, none⟩ = some (.slice ao5 (lst S).length cap5) := hW; go_simp) ?_
        simp only [Act.put, List.setIfInBounds_toArray, List.set_cons_zero, List.set_cons_succ]
        refine wpL_one 1 rfl (by kernel_rfl) (by rfl) (fun K hK => ?_)
        go_simp
        refine HLst.out.mono ?_
        rintro e w6 ⟨a6, c6, rfl, ho6, hb6⟩
        have hb6' : Below w4.heap.size w4 w6 := ⟨hb6.os, hb6.tape, hb6.output, hb6.size, hb6.block⟩
        have HB6 : Hid (Below b w w6) := HB4.out.trans (hb6'.mono hlo4)
        have HS6 : Hid (w6.cell? ⟨r, 0, none⟩ = some (.slice ao5 (lst S).length cap5)) := (hb6'.cell (p := ⟨r, 0, none⟩) hrl).trans HS.out
        have HSame := hid (same_ok w6 a6 ao5 c6 cap5 (lst S) (by omega) (Rd5.own ho6) (HRd.out.below hb6))
        have hlo6 : b ≤ w6.heap.size := Nat.le_trans hlo4 hb6'.size
        clear ho6 hb6 hb6'
        go_simp
        refine hK.out _ _ (fun _ => HS6.out) ?_
        clear hK K
        refine wpL_one 6 rfl (by kernel_rfl) (by rfl) (fun K hK => ?_)
        go_simp
        refine HSame.out.mono ?_
        rintro e w7 ⟨rfl, hb7⟩
        have HB7 : Hid (Below b w w7) := HB6.out.trans (hb7.mono hlo6)
        have hrl6 : r < w6.heap.size := World.block_lt_of_cell? w6 _ HS6.out
        have HS7 : Hid (w7.cell? ⟨r, 0, none⟩ = some (.slice ao5 (lst S).length cap5)) := (hb7.cell (p := ⟨r, 0, none⟩) hrl6).trans HS6.out
        have hlo7 : b ≤ w7.heap.size := Nat.le_trans hlo6 hb7.size
        clear hb7
        go_simp
        refine hK.out _ _ (fun _ => HS7.out) ?_
        clear hK K
        refine wpL_take 7 54 (.bool true) [] rfl rfl (by kernel_rfl) (by decide) (by kernel_rfl) (by kernel_rfl) (by kernel_rfl) (fun _ _ _ h => h) HS7.out (by rfl) (fun W hW => by go_simp) ?_
        simp only [Act.put, List.setIfInBounds_toArray, List.set_cons_zero, List.set_cons_succ]
        refine wpL_one 8 rfl (by kernel_rfl) (by rfl) (fun K hK => ?_)
        go_simp
        refine (five_ok w7).mono ?_
        rintro e w8 ⟨rfl, hb8⟩
        have HB8 : Hid (Below b w w8) := HB7.out.trans (hb8.mono hlo7)
        have hrl7 : r < w7.heap.size := World.block_lt_of_cell? w7 _ HS7.out
        have HS8 : Hid (w8.cell? ⟨r, 0, none⟩ = some (.slice ao5 (lst S).length cap5)) := (hb8.cell (p := ⟨r, 0, none⟩) hrl7).trans HS7.out
        clear hb8
        go_simp
        refine hK.out _ _ (fun _ => HS8.out) ?_
        clear hK K
        refine wpL_take 9 56 (.bool true) [] rfl rfl (by kernel_rfl) (by decide) (by kernel_rfl) (by kernel_rfl) (by kernel_rfl) (fun _ _ _ h => h) HS8.out (by rfl) (fun W hW => by go_simp) ?_
        simp only [Act.put, List.setIfInBounds_toArray, List.set_cons_zero, List.set_cons_succ]
        refine wpL_one 10 rfl (by kernel_rfl) (by rfl) (fun K hK => ?_)
        go_simp
        refine hK.out _ _ (fun h => absurd rfl h) ?_
        clear hK K
        refine wpL_done (by kernel_rfl) ?_
        refine NoPanic.normal ?_
        go_wp2_with fail
        go_ret
        exact ⟨rfl, HB8.out⟩
end Go.Proofs.Ytdgkajhlofpdeaa
