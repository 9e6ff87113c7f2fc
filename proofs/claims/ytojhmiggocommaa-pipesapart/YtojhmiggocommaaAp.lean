/- PipesApart's walk; no statement is proved in this text. -/
import Derived.Test.YtojhmiggocommaaSp
namespace Go.Proofs.Ytojhmiggocommaa
open Go.ChangeShapes Go.WideShapes Go.ChangeAt Go.RowKit Go.Deep
attribute [local go_sem ↓] Go.wp_at_zero Go.wp_at_succ

theorem err_in {S : St} {id : Int} (h : errA S id = 0) : 0 ≤ id ∧ id < 3 := by
  by_cases hr : 0 ≤ id ∧ id < 3
  · exact hr
  · unfold errA at h
    rw [if_neg hr] at h
    cases h
theorem stp_other (S : St) (x : Sp) (id : Int) (hr : 0 ≤ id ∧ id < 3) (hne : x.id ≠ id) (hw : 1 < x.what) : stp S x id.toNat = S id.toNat := by
  unfold stp
  rw [if_neg (by omega)]
  have key : ∀ y, errA S x.id = 0 → upd S x.id.toNat y id.toNat = S id.toNat := fun y h => by
    have := err_in h
    exact upd_other _ _ _ _ (by omega)
  split
  · unfold clsS
    split
    · exact key _ ‹_›
    · rfl
  · split
    · unfold wrtS
      split
      · rename_i h
        refine key _ ?_
        unfold wrtE at h
        by_cases h0 : errA S x.id = 0
        · exact h0
        · rw [if_neg h0] at h
          exact h
      · rfl
    · split
      · unfold redS
        split
        · rename_i h
          refine key _ ?_
          unfold redE at h
          split at h
          · cases h
          · exact h
        · rfl
      · rfl
theorem err_same {S T : St} {id : Int} (h : (0 ≤ id ∧ id < 3) → S id.toNat = T id.toNat) : errA S id = errA T id ∧ wtsV S id = wtsV T id := by
  have h1 : errA S id = errA T id := by
    unfold errA
    by_cases hr : 0 ≤ id ∧ id < 3
    · rw [if_pos hr, if_pos hr, h hr]
    · rw [if_neg hr, if_neg hr]
  refine ⟨h1, ?_⟩
  unfold wtsV
  rw [h1]
  by_cases h0 : errA T id = 0
  · rw [if_pos h0, if_pos h0]
    unfold gd
    rw [h (err_in h0)]
  · rw [if_neg h0, if_neg h0]
set_option maxRecDepth 100000 in
set_option maxHeartbeats 12800000 in
theorem apart_any (w : World) (ao : Option Addr) (len cap : Nat) (id : Int) (f : Nat → Sp) (hlen : len ≤ maxLen) (hS : SSl w ao len f) : Calls Try.prog 6 #[.slice ao len cap, i64 id] w fun e w' => e = .returned (.bool true) ∧ Below w.heap.size w w' := by
  have hm : (len : Int) ≤ 9223372036854775807 := by unfold maxLen at hlen; omega
  have HSb := hid hS
  have HLn := hid hlen
  have HNw := hid (new_ok w)
  obtain ⟨b, hb⟩ : ∃ b, b = w.heap.size := ⟨_, rfl⟩
  have HB := hid hb
  rw [← hb] at HNw ⊢
  clear hS hlen hb
  go_enter Try.func6, Try.ntmps6
  go_wp2_with fail
  refine HNw.out.mono ?_
  rintro e w1 ⟨rfl, hp1, hb1⟩
  have HP1 := hid hp1
  have HB1 : Hid (Below b w w1) := hb1
  clear hp1 hb1 HNw
  have HL := hid (long_ok w1 ao len cap f HLn.out (HSb.out.below (by rw [← HB.out]; exact HB1.out)))
  go_wp2_with fail
  refine HL.out.mono ?_
  rintro e w2 ⟨bl, rfl, hbl, hb2⟩
  have HB2 : Hid (Below b w w2) := HB1.out.trans (hb2.mono (by have := HP1.out.lt; omega))
  have HP2 : Hid (PS w2 b b noSt) := HP1.out.below hb2
  have HBL : Hid (bl = false → len ≤ 61 ∧ ∀ i, i < len → (f i).s.size ≤ 100) := hbl
  clear hbl hb2 HL HP1 HB1
  cases bl with
  | true =>
    clear HBL
    go_wp2_with fail
    refine (abc_ok w2).mono ?_
    rintro e w3 ⟨rfl, hb3⟩
    have HB3 : Hid (Below b w w3) := HB2.out.trans (hb3.mono (by have := HP2.out.lt; omega))
    clear hb3
    go_wp2_with fail
    go_ret
    exact ⟨rfl, HB3.out⟩
  | false =>
    obtain ⟨h61, h100⟩ := HBL.out rfl
    have H100 := hid h100
    clear HBL h100
    have hz30 := zero30 w2
    go_wp2_with fail
    have HW3 : Hid (Bo (w2.alloc (.cells #[.slice none 0 0] 30)) b b w2.heap.size noSt) := ⟨HP2.out.below (below_one w2 _), rb_new w2 b (by have := HP2.out.lt; omega)⟩
    have HB3 : Hid (Below b w (w2.alloc (.cells #[.slice none 0 0] 30))) := HB2.out.trans ((below_one w2 _).mono (by have := HP2.out.lt; omega))
    clear hz30
    obtain ⟨r, hr⟩ : ∃ r, r = w2.heap.size := ⟨_, rfl⟩
    rw [← hr] at HW3 ⊢
    generalize w2.alloc (.cells #[.slice none 0 0] 30) = w3 at *
    clear hr
    go_loopw [29] (fun u wr => ∃ (k : Nat) (S : St), k ≤ len ∧ u = i64 k ∧ Hid (Bo wr b b r S) ∧ Hid (Below b w wr)) (fun u _ => len - (intOf u).toNat)
    case atStart => exact ⟨0, noSt, by omega, rfl, HW3, HB3⟩
    case round =>
      obtain ⟨k, S, hk, rfl, HBo, HBw⟩ := hrel
      by_cases hlt : k < len
      · have hkI : (k : Int) < len := by omega
        obtain ⟨B, off, hao, hb, hr⟩ := (HSb.out.below (by rw [← HB.out]; exact HBw.out)).at hlt
        subst hao
        obtain ⟨x, hx⟩ : ∃ x, x = f k := ⟨_, rfl⟩
        rw [← hx] at hr
        have HSZ : Hid (x.s.size ≤ 100) := by rw [hx]; exact H100.out k hlt
        have c0 : wr.cell? ⟨B, off + k * 4, none⟩ = some (i64 x.what) := hr 0 _ rfl
        have c1 : wr.cell? ⟨B, off + k * 4 + 1, none⟩ = some (i64 x.id) := hr 1 _ rfl
        have c2 : wr.cell? ⟨B, off + k * 4 + 2, none⟩ = some (i64 x.n) := hr 2 _ rfl
        have c3 : wr.cell? ⟨B, off + k * 4 + 3, none⟩ = some (.string x.s) := hr 3 _ rfl
        have HBV : Hid (Below b w (wr.alloc (.cells #[i64 x.what, i64 x.id, i64 x.n, .string x.s] 32))) := HBw.out.trans ((below_one wr _).mono HBo.out.lob)
        have HBoV : Hid (Bo (wr.alloc (.cells #[i64 x.what, i64 x.id, i64 x.n, .string x.s] 32)) b b r S) := HBo.out.below (below_one wr _)
        have HX : Hid ((wr.alloc (.cells #[i64 x.what, i64 x.id, i64 x.n, .string x.s] 32)).heap[wr.heap.size]? = some (.cells #[i64 x.what, i64 x.id, i64 x.n, .string x.s] 32)) := heap_last wr _
        clear hx hr hb
        have HD := hid (does_ok (wr.alloc (.cells #[i64 x.what, i64 x.id, i64 x.n, .string x.s] 32)) b b r S x HBoV.out HSZ.out)
        have HW1 := hid (waits_ok (wr.alloc (.cells #[i64 x.what, i64 x.id, i64 x.n, .string x.s] 32)) b b S id HBoV.out.ps)
        have HW2 : Hid (∀ W, PS W b b (stp S x) → Calls Try.prog 19 #[pq b, i64 id] W fun e w' => e = .returned (.tuple #[i64 (wtsV (stp S x) id), i64 (errA (stp S x) id)]) ∧ w' = W) := fun W hW => waits_ok W b b (stp S x) id hW
        have HEQ : Hid (x.id ≠ id → 1 < x.what → errA (stp S x) id = errA S id ∧ wtsV (stp S x) id = wtsV S id) := fun h1 h2 => err_same fun hr => stp_other S x id hr h1 h2
        generalize errA (stp S x) id = E2 at *
        generalize wtsV (stp S x) id = A2 at *
        generalize stp S x = S2 at *
        generalize errA S id = E1 at *
        generalize wtsV S id = A1 at *
        go_upto_region 8 with fail
        obtain ⟨X, hX⟩ : ∃ X, X = wr.heap.size := ⟨_, rfl⟩
        rw [← hX] at HX ⊢
        clear hX
        generalize wr.alloc (.cells #[i64 x.what, i64 x.id, i64 x.n, .string x.s] 32) = V at *
        have g0 : V.cell? ⟨X, 0, none⟩ = some (i64 x.what) := blk_cell HX.out 0
        have g1 : V.cell? ⟨X, 1, none⟩ = some (i64 x.id) := blk_cell HX.out 1
        have g2 : V.cell? ⟨X, 2, none⟩ = some (i64 x.n) := blk_cell HX.out 2
        have g3 : V.cell? ⟨X, 3, none⟩ = some (.string x.s) := blk_cell HX.out 3
        by_cases hid1 : x.id = id
        · have q1 : (x.id != id) = false := by simpa using hid1
          clear hid1
          go_wp2_with fail
          refine HW1.out.mono ?_
          rintro e w4 ⟨rfl, hw4⟩
          subst hw4
          go_wp2_with fail
          refine HD.out.mono ?_
          rintro e w5 ⟨rfl, hbo5, hf5⟩
          have HBo5 := hid hbo5
          have HB5 : Hid (Below b w w5) := HBV.out.trans hf5.below
          have HX5 : Hid (w5.heap[X]? = some (.cells #[i64 x.what, i64 x.id, i64 x.n, .string x.s] 32)) := hf5.kept _ _ HX.out rfl
          clear hbo5 hf5
          have d0 : w5.cell? ⟨X, 0, none⟩ = some (i64 x.what) := blk_cell HX5.out 0
          have d1 : w5.cell? ⟨X, 1, none⟩ = some (i64 x.id) := blk_cell HX5.out 1
          go_wp2_with fail
          refine (HW2.out w5 HBo5.out.ps).mono ?_
          rintro e w6 ⟨rfl, hw6⟩
          replace hw6 := hw6.symm
          subst hw6
          go_wp2_with fail
          exact ⟨⟨k + 1, S2, by omega, by go_num, HBo5, HB5⟩, by simp [intOf]; omega⟩
        · have q1 : (x.id != id) = true := by simpa using hid1
          by_cases hw1 : 1 < x.what
          · obtain ⟨h1, h2⟩ := HEQ.out hid1 hw1
            rw [h1, h2] at HW2
            have q2 : (A1 != A1) = false := by simp
            have q3 : (E1 != E1) = false := by simp
            clear hid1 h1 h2
            go_wp2_with fail
            refine HW1.out.mono ?_
            rintro e w4 ⟨rfl, hw4⟩
            subst hw4
            go_wp2_with fail
            refine HD.out.mono ?_
            rintro e w5 ⟨rfl, hbo5, hf5⟩
            have HBo5 := hid hbo5
            have HB5 : Hid (Below b w w5) := HBV.out.trans hf5.below
            have HX5 : Hid (w5.heap[X]? = some (.cells #[i64 x.what, i64 x.id, i64 x.n, .string x.s] 32)) := hf5.kept _ _ HX.out rfl
            clear hbo5 hf5
            have d0 : w5.cell? ⟨X, 0, none⟩ = some (i64 x.what) := blk_cell HX5.out 0
            have d1 : w5.cell? ⟨X, 1, none⟩ = some (i64 x.id) := blk_cell HX5.out 1
            go_wp2_with fail
            refine (HW2.out w5 HBo5.out.ps).mono ?_
            rintro e w6 ⟨rfl, hw6⟩
            replace hw6 := hw6.symm
            subst hw6
            go_wp2_with fail
            exact ⟨⟨k + 1, S2, by omega, by go_num, HBo5, HB5⟩, by simp [intOf]; omega⟩
          · clear hid1
            go_wp2_with fail
            refine HW1.out.mono ?_
            rintro e w4 ⟨rfl, hw4⟩
            subst hw4
            go_wp2_with fail
            refine HD.out.mono ?_
            rintro e w5 ⟨rfl, hbo5, hf5⟩
            have HBo5 := hid hbo5
            have HB5 : Hid (Below b w w5) := HBV.out.trans hf5.below
            have HX5 : Hid (w5.heap[X]? = some (.cells #[i64 x.what, i64 x.id, i64 x.n, .string x.s] 32)) := hf5.kept _ _ HX.out rfl
            clear hbo5 hf5
            have d0 : w5.cell? ⟨X, 0, none⟩ = some (i64 x.what) := blk_cell HX5.out 0
            have d1 : w5.cell? ⟨X, 1, none⟩ = some (i64 x.id) := blk_cell HX5.out 1
            go_wp2_with fail
            refine (HW2.out w5 HBo5.out.ps).mono ?_
            rintro e w6 ⟨rfl, hw6⟩
            replace hw6 := hw6.symm
            subst hw6
            go_wp2_with fail
            exact ⟨⟨k + 1, S2, by omega, by go_num, HBo5, HB5⟩, by simp [intOf]; omega⟩
      · go_wp2_with fail
        refine (abc_ok wr).mono ?_
        rintro e w9 ⟨rfl, hb9⟩
        have HB9 : Hid (Below b w w9) := HBw.out.trans (hb9.mono HBo.out.lob)
        clear hb9
        go_wp2_with fail
        go_ret
        exact ⟨rfl, HB9.out⟩
end Go.Proofs.Ytojhmiggocommaa
