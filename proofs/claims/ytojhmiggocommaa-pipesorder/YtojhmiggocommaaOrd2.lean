/- PipesOrder's walk; no statement is proved in this text. -/
import Derived.Test.YtojhmiggocommaaLo
namespace Go.Proofs.Ytojhmiggocommaa
open Go.ChangeShapes Go.WideShapes Go.ChangeAt Go.RowKit Go.Deep
attribute [local go_sem ↓] Go.wp_at_zero Go.wp_at_succ

theorem PS.le {w : World} {base P : Nat} {S : St} (h : PS w base P S) {i : Nat} (hi : i < 3) {D : List UInt8} (hS : S i = some D) : D.length ≤ 16 := by
  obtain ⟨A, h⟩ := h
  rcases h.known i hi with ⟨_, hn⟩ | ⟨b, E, _, hE, hp⟩
  · rw [hn] at hS; cases hS
  · rw [hE] at hS; cases hS; exact hp.le
theorem err0 (S : St) (D : List UInt8) (h : S 0 = some D) : errA S 0 = 0 := by
  unfold errA
  rw [if_pos (by omega)]
  rw [show (0 : Int).toNat = 0 from rfl, h]
theorem gd0 (S : St) (D : List UInt8) (h : S 0 = some D) : gd S 0 = D := by
  unfold gd
  rw [show (0 : Int).toNat = 0 from rfl, h]
  rfl
theorem ord_write (S : St) (D s : List UInt8) (h : S 0 = some D) : (wrtE S 0 s = 0 ∧ wrtS S 0 s 0 = some (D ++ s)) ∨ (wrtE S 0 s = 5 ∧ wrtS S 0 s = S) := by
  have hE : wrtE S 0 s = if 16 < D.length + s.length then 5 else 0 := by unfold wrtE; rw [err0 S D h, if_pos rfl, gd0 S D h]
  by_cases hf : 16 < D.length + s.length
  · rw [if_pos hf] at hE
    exact .inr ⟨hE, by unfold wrtS; rw [hE, if_neg (by decide)]⟩
  · rw [if_neg hf] at hE
    exact .inl ⟨hE, by unfold wrtS; rw [hE, if_pos rfl, gd0 S D h]; exact upd_same _ _ _⟩
theorem ord_read (S : St) (D : List UInt8) (n : Int) (h : S 0 = some D) : ∃ E, redS S 0 n 0 = some E ∧ redT S 0 n ++ E = D := by
  by_cases hn : n < 0
  · have hE : redE S 0 n = 1 := by unfold redE; rw [if_pos hn]
    refine ⟨D, ?_, ?_⟩
    · unfold redS; rw [hE, if_neg (by decide)]; exact h
    · unfold redT; rw [hE, if_neg (by decide)]; rfl
  · have hE : redE S 0 n = 0 := by unfold redE; rw [if_neg hn]; exact err0 S D h
    refine ⟨D.drop n.toNat, ?_, ?_⟩
    · unfold redS; rw [hE, if_pos rfl, gd0 S D h]; exact upd_same _ _ _
    · unfold redT; rw [hE, if_pos rfl, gd0 S D h]; exact List.take_append_drop _ _
theorem ord_last (S : St) (D : List UInt8) (h : S 0 = some D) (hl : D.length ≤ 16) : redE S 0 16 = 0 ∧ redT S 0 16 = D := by
  have hE : redE S 0 16 = 0 := by unfold redE; rw [if_neg (by decide)]; exact err0 S D h
  refine ⟨hE, ?_⟩
  unfold redT
  rw [hE, if_pos rfl, gd0 S D h]
  exact List.take_of_length_le hl
set_option maxRecDepth 100000 in
set_option maxHeartbeats 12800000 in
theorem order_any (w : World) (ao : Option Addr) (len cap : Nat) (f : Nat → Sp) (hlen : len ≤ maxLen) (hS : SSl w ao len f) : Calls Try.prog 4 #[.slice ao len cap] w fun e w' => e = .returned (.bool true) ∧ Below w.heap.size w w' := by
  have hm : (len : Int) ≤ 9223372036854775807 := by unfold maxLen at hlen; omega
  have HSb := hid hS
  have HLn := hid hlen
  have HNw := hid (new_ok w)
  obtain ⟨b, hb⟩ : ∃ b, b = w.heap.size := ⟨_, rfl⟩
  have HB := hid hb
  rw [← hb] at HNw ⊢
  clear hS hlen hb
  go_enter Try.func4, Try.ntmps4
  go_wp2_with fail
  refine HNw.out.mono ?_
  rintro e w1 ⟨rfl, hp1, hb1⟩
  have HP1 := hid hp1
  have HB1 : Hid (Below b w w1) := hb1
  clear hp1 hb1 HNw
  have HL := hid (long_ok w1 ao len cap f HLn.out (HSb.out.below (by rw [← HB.out]; exact HB1.out)))
  go_wp2_with fail
  refine HL.out.mono ?_
  rintro e w2 ⟨bl, rfl, hbl, hb2⟩
  have HB2 : Hid (Below b w w2) := HB1.out.trans (hb2.mono (by have := HP1.out.lt; omega))
  have HP2 : Hid (PS w2 b b noSt) := HP1.out.below hb2
  have HBL : Hid (bl = false → len ≤ 61 ∧ ∀ i, i < len → (f i).s.size ≤ 100) := hbl
  clear hbl hb2 HL HP1 HB1
  cases bl with
  | true =>
    clear HBL
    go_wp2_with fail
    refine (abc_ok w2).mono ?_
    rintro e w3 ⟨rfl, hb3⟩
    have HB3 : Hid (Below b w w3) := HB2.out.trans (hb3.mono (by have := HP2.out.lt; omega))
    clear hb3
    go_wp2_with fail
    go_ret
    exact ⟨rfl, HB3.out⟩
  | false =>
    obtain ⟨h61, h100⟩ := HBL.out rfl
    have H100 := hid h100
    clear HBL h100
    go_wp2_with fail
    refine (open_ok w2 b b noSt HP2.out).mono ?_
    rw [s0i, s0e]
    rintro e w3 ⟨rfl, hp3, hf3⟩
    have HP3 : Hid (PS w3 b b S1) := hp3
    have HB3 : Hid (Below b w w3) := HB2.out.trans hf3.below
    clear hp3 hf3
    go_wp2_with fail
    go_loopw [6, 7, 39] (fun u6 u7 u39 wr => ∃ (k : Nat) (X Y D : List UInt8) (S : St), k ≤ len ∧ u39 = i64 k ∧ u6 = str X ∧ u7 = str Y ∧ Hid (X = Y ++ D ∧ X.length ≤ 100 * k) ∧ Hid (S 0 = some D) ∧ Hid (PS wr b b S) ∧ Hid (Below b w wr)) (fun _ _ u _ => len - (intOf u).toNat)
    case atStart => exact ⟨0, [], [], [], S1, by omega, rfl, rfl, rfl, ⟨rfl, by simp⟩, rfl, HP3, HB3⟩
    case round =>
      obtain ⟨k, X, Y, D, S, hk, rfl, rfl, rfl, HX, HS, HP, HBw⟩ := hrel
      by_cases hlt : k < len
      · have hkI : (k : Int) < len := by omega
        obtain ⟨B, off, hao, hb, hr⟩ := (HSb.out.below (by rw [← HB.out]; exact HBw.out)).at hlt
        subst hao
        obtain ⟨x, hx⟩ : ∃ x, x = f k := ⟨_, rfl⟩
        rw [← hx] at hr
        have c0 : wr.cell? ⟨B, off + k * 4, none⟩ = some (i64 x.what) := hr 0 _ rfl
        have c1 : wr.cell? ⟨B, off + k * 4 + 1, none⟩ = some (i64 x.id) := hr 1 _ rfl
        have c2 : wr.cell? ⟨B, off + k * 4 + 2, none⟩ = some (i64 x.n) := hr 2 _ rfl
        have c3 : wr.cell? ⟨B, off + k * 4 + 3, none⟩ = some (.string x.s) := hr 3 _ rfl
        have hbl := HP.out.lt
        have HBV : Hid (Below b w (wr.alloc (spO x))) := HBw.out.trans ((below_one wr _).mono (by omega))
        have HPV : Hid (PS (wr.alloc (spO x)) b b S) := HP.out.below (below_one wr _)
        have HWR : Hid ((wr.alloc (spO x)).heap[wr.heap.size]? = some (spO x)) := heap_last wr _
        have hz1 : ¬ 9223372036854775807 < (bs X).size + x.s.size := by rw [bs_size]; have := HX.out.2; have := H100.out k hlt; rw [← hx] at this; omega
        have HZ2 : Hid ((X ++ x.s.data.toList).length ≤ 100 * (k + 1)) := by show _ ≤ _; rw [List.length_append, show x.s.data.toList.length = x.s.size from rfl]; have := HX.out.2; have := H100.out k hlt; rw [← hx] at this; omega
        clear hx hr hb hbl
        by_cases hwr : x.what = 3 ∨ x.what = 4 ∨ x.what = 5
        · have HW := hid (write_ok (wr.alloc (spO x)) b b S 0 x.s HPV.out)
          rcases ord_write S D x.s.data.toList HS.out with ⟨hE, hS2⟩ | ⟨hE, hS2⟩
          · rw [hE] at HW
            have HS2 := hid hS2
            clear hE hS2
            rcases hwr with hw | hw | hw
            · have q3 : (x.what == 3) = true := by simp only [beq_iff_eq]; omega
              clear hw
              go_wp2_with fail
              refine HW.out.mono ?_
              rintro e w4 ⟨rfl, hp4, hf4⟩
              have HP4 := hid hp4
              have HB4 : Hid (Below b w w4) := HBV.out.trans hf4.below
              have HC4 : Hid (w4.heap[wr.heap.size]? = some (spO x)) := hf4.kept _ _ HWR.out rfl
              clear hp4 hf4
              have c3' : w4.cell? ⟨wr.heap.size, 3, none⟩ = some (.string x.s) := blk_cell HC4.out 3
              go_wp2_with fail
              rw [bs_app]
              exact ⟨⟨k + 1, X ++ x.s.data.toList, Y, D ++ x.s.data.toList, _, by omega, by go_num, rfl, rfl, ⟨by rw [HX.out.1, List.append_assoc], HZ2.out⟩, HS2, HP4, HB4⟩, by simp [intOf]; omega⟩
            · have q3 : (x.what == 3) = false := by simp only [beq_eq_false_iff_ne]; omega
              have q4 : (x.what == 4) = true := by simp only [beq_iff_eq]; omega
              clear hw
              go_wp2_with fail
              refine HW.out.mono ?_
              rintro e w4 ⟨rfl, hp4, hf4⟩
              have HP4 := hid hp4
              have HB4 : Hid (Below b w w4) := HBV.out.trans hf4.below
              have HC4 : Hid (w4.heap[wr.heap.size]? = some (spO x)) := hf4.kept _ _ HWR.out rfl
              clear hp4 hf4
              have c3' : w4.cell? ⟨wr.heap.size, 3, none⟩ = some (.string x.s) := blk_cell HC4.out 3
              go_wp2_with fail
              rw [bs_app]
              exact ⟨⟨k + 1, X ++ x.s.data.toList, Y, D ++ x.s.data.toList, _, by omega, by go_num, rfl, rfl, ⟨by rw [HX.out.1, List.append_assoc], HZ2.out⟩, HS2, HP4, HB4⟩, by simp [intOf]; omega⟩
            · have q3 : (x.what == 3) = false := by simp only [beq_eq_false_iff_ne]; omega
              have q4 : (x.what == 4) = false := by simp only [beq_eq_false_iff_ne]; omega
              have q5 : (x.what == 5) = true := by simp only [beq_iff_eq]; omega
              clear hw
              go_wp2_with fail
              refine HW.out.mono ?_
              rintro e w4 ⟨rfl, hp4, hf4⟩
              have HP4 := hid hp4
              have HB4 : Hid (Below b w w4) := HBV.out.trans hf4.below
              have HC4 : Hid (w4.heap[wr.heap.size]? = some (spO x)) := hf4.kept _ _ HWR.out rfl
              clear hp4 hf4
              have c3' : w4.cell? ⟨wr.heap.size, 3, none⟩ = some (.string x.s) := blk_cell HC4.out 3
              go_wp2_with fail
              rw [bs_app]
              exact ⟨⟨k + 1, X ++ x.s.data.toList, Y, D ++ x.s.data.toList, _, by omega, by go_num, rfl, rfl, ⟨by rw [HX.out.1, List.append_assoc], HZ2.out⟩, HS2, HP4, HB4⟩, by simp [intOf]; omega⟩
          · rw [hE] at HW
            have HS2 := hid hS2
            clear hE hS2
            rcases hwr with hw | hw | hw
            · have q3 : (x.what == 3) = true := by simp only [beq_iff_eq]; omega
              clear hw
              go_wp2_with fail
              refine HW.out.mono ?_
              rintro e w4 ⟨rfl, hp4, hf4⟩
              have HP4 := hid hp4
              have HB4 : Hid (Below b w w4) := HBV.out.trans hf4.below
              have HC4 : Hid (w4.heap[wr.heap.size]? = some (spO x)) := hf4.kept _ _ HWR.out rfl
              clear hp4 hf4
              have c3' : w4.cell? ⟨wr.heap.size, 3, none⟩ = some (.string x.s) := blk_cell HC4.out 3
              go_wp2_with fail
              exact ⟨⟨k + 1, X, Y, D, S, by omega, by go_num, rfl, rfl, ⟨HX.out.1, by have := HX.out.2; omega⟩, HS, by rw [← HS2.out]; exact HP4, HB4⟩, by simp [intOf]; omega⟩
            · have q3 : (x.what == 3) = false := by simp only [beq_eq_false_iff_ne]; omega
              have q4 : (x.what == 4) = true := by simp only [beq_iff_eq]; omega
              clear hw
              go_wp2_with fail
              refine HW.out.mono ?_
              rintro e w4 ⟨rfl, hp4, hf4⟩
              have HP4 := hid hp4
              have HB4 : Hid (Below b w w4) := HBV.out.trans hf4.below
              have HC4 : Hid (w4.heap[wr.heap.size]? = some (spO x)) := hf4.kept _ _ HWR.out rfl
              clear hp4 hf4
              have c3' : w4.cell? ⟨wr.heap.size, 3, none⟩ = some (.string x.s) := blk_cell HC4.out 3
              go_wp2_with fail
              exact ⟨⟨k + 1, X, Y, D, S, by omega, by go_num, rfl, rfl, ⟨HX.out.1, by have := HX.out.2; omega⟩, HS, by rw [← HS2.out]; exact HP4, HB4⟩, by simp [intOf]; omega⟩
            · have q3 : (x.what == 3) = false := by simp only [beq_eq_false_iff_ne]; omega
              have q4 : (x.what == 4) = false := by simp only [beq_eq_false_iff_ne]; omega
              have q5 : (x.what == 5) = true := by simp only [beq_iff_eq]; omega
              clear hw
              go_wp2_with fail
              refine HW.out.mono ?_
              rintro e w4 ⟨rfl, hp4, hf4⟩
              have HP4 := hid hp4
              have HB4 : Hid (Below b w w4) := HBV.out.trans hf4.below
              have HC4 : Hid (w4.heap[wr.heap.size]? = some (spO x)) := hf4.kept _ _ HWR.out rfl
              clear hp4 hf4
              have c3' : w4.cell? ⟨wr.heap.size, 3, none⟩ = some (.string x.s) := blk_cell HC4.out 3
              go_wp2_with fail
              exact ⟨⟨k + 1, X, Y, D, S, by omega, by go_num, rfl, rfl, ⟨HX.out.1, by have := HX.out.2; omega⟩, HS, by rw [← HS2.out]; exact HP4, HB4⟩, by simp [intOf]; omega⟩
        · by_cases hrd : x.what = 6 ∨ x.what = 7
          · have HR := hid (read_ok (wr.alloc (spO x)) b b S 0 x.n HPV.out)
            obtain ⟨E, hE, hT⟩ := ord_read S D x.n HS.out
            have HE := hid hE
            have HT := hid hT
            clear hE hT
            generalize redT S 0 x.n = T at *
            have hz3 : ¬ 9223372036854775807 < (bs Y).size + (bs T).size := by rw [bs_size, bs_size]; have h1 := HX.out.2; have h2 := congrArg List.length HT.out; rw [HX.out.1, List.length_append] at h1; rw [List.length_append] at h2; omega
            rcases hrd with hw | hw
            · have q3 : (x.what == 3) = false := by simp only [beq_eq_false_iff_ne]; omega
              have q4 : (x.what == 4) = false := by simp only [beq_eq_false_iff_ne]; omega
              have q5 : (x.what == 5) = false := by simp only [beq_eq_false_iff_ne]; omega
              have q6 : (x.what == 6) = true := by simp only [beq_iff_eq]; omega
              clear hw hwr
              go_wp2_with fail
              refine HR.out.mono ?_
              rintro e w4 ⟨rfl, hp4, hf4⟩
              have HP4 := hid hp4
              have HB4 : Hid (Below b w w4) := HBV.out.trans hf4.below
              clear hp4 hf4
              go_wp2_with fail
              rw [bs_app]
              exact ⟨⟨k + 1, X, Y ++ T, E, _, by omega, by go_num, rfl, rfl, ⟨by rw [HX.out.1, ← HT.out, List.append_assoc], by have := HX.out.2; omega⟩, HE, HP4, HB4⟩, by simp [intOf]; omega⟩
            · have q3 : (x.what == 3) = false := by simp only [beq_eq_false_iff_ne]; omega
              have q4 : (x.what == 4) = false := by simp only [beq_eq_false_iff_ne]; omega
              have q5 : (x.what == 5) = false := by simp only [beq_eq_false_iff_ne]; omega
              have q6 : (x.what == 6) = false := by simp only [beq_eq_false_iff_ne]; omega
              have q7 : (x.what == 7) = true := by simp only [beq_iff_eq]; omega
              clear hw hwr
              go_wp2_with fail
              refine HR.out.mono ?_
              rintro e w4 ⟨rfl, hp4, hf4⟩
              have HP4 := hid hp4
              have HB4 : Hid (Below b w w4) := HBV.out.trans hf4.below
              clear hp4 hf4
              go_wp2_with fail
              rw [bs_app]
              exact ⟨⟨k + 1, X, Y ++ T, E, _, by omega, by go_num, rfl, rfl, ⟨by rw [HX.out.1, ← HT.out, List.append_assoc], by have := HX.out.2; omega⟩, HE, HP4, HB4⟩, by simp [intOf]; omega⟩
          · have q3 : (x.what == 3) = false := by simp only [beq_eq_false_iff_ne]; omega
            have q4 : (x.what == 4) = false := by simp only [beq_eq_false_iff_ne]; omega
            have q5 : (x.what == 5) = false := by simp only [beq_eq_false_iff_ne]; omega
            have q6 : (x.what == 6) = false := by simp only [beq_eq_false_iff_ne]; omega
            have q7 : (x.what == 7) = false := by simp only [beq_eq_false_iff_ne]; omega
            clear hwr hrd
            go_wp2_with fail
            exact ⟨⟨k + 1, X, Y, D, S, by omega, by go_num, rfl, rfl, ⟨HX.out.1, by have := HX.out.2; omega⟩, HS, HPV, HBV⟩, by simp [intOf]; omega⟩
      · obtain ⟨hE, hT⟩ := ord_last S D HS.out (HP.out.le (by omega) HS.out)
        have HR := hid (read_ok wr b b S 0 16 HP.out)
        rw [hE, hT] at HR
        have HXY : Hid (bs Y ++ bs D = bs X) := by rw [HX.out.1]; exact bs_app Y (bs D)
        have hz3 : ¬ 9223372036854775807 < (bs Y).size + (bs D).size := by rw [bs_size, bs_size]; have h1 := HX.out.2; rw [HX.out.1, List.length_append] at h1; omega
        clear hE hT
        go_wp2_with fail
        refine HR.out.mono ?_
        rintro e w5 ⟨rfl, hp5, hf5⟩
        have HB5 : Hid (Below b w w5) := HBw.out.trans hf5.below
        have HZ5 : Hid (b ≤ w5.heap.size) := by have := hp5.lt; show _ ≤ _; omega
        clear hp5 hf5 HR
        have hEq : (bs Y ++ bs D).toList = (bs X).toList := by rw [HXY.out]
        go_wp2_with fail
        refine (abc_ok w5).mono ?_
        rintro e w6 ⟨rfl, hb6⟩
        have HB6 : Hid (Below b w w6) := HB5.out.trans (hb6.mono HZ5.out)
        clear hb6
        go_wp2_with fail
        go_ret
        exact ⟨rfl, HB6.out⟩
end Go.Proofs.Ytojhmiggocommaa
