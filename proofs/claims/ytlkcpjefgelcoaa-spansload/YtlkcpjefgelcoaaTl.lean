/- lay, Map, from, Unmap, Protect, May; no statement is proved in this text. -/
import Derived.Test.YtlkcpjefgelcoaaQv
namespace Go.Proofs.Ytlkcpjefgelcoaa
open Go.ChangeShapes Go.WideShapes Go.ChangeAt Go.RowKit Go.Deep
attribute [local go_sem ↓] Go.wp_at_zero Go.wp_at_succ

/-- A table of spans in memory, or none. -/
abbrev Tb (w : World) (t : Nat) (L : List Sp) : Prop := Tg w t (Gl L)
theorem of_any (w : World) (t : Nat) (L : List Sp) (p : Int) (h : Tb w t L) (hG : GS L) : Calls Try.prog 37 #[pq t, i64 p] w fun e w' => GotS w w' e (ofL L p) ∧ Below w.heap.size w w' := by
  by_cases hp : 1 ≤ p ∧ p ≤ 6
  · obtain ⟨r, rfl⟩ : ∃ r : Nat, p = (r : Int) + 1 := ⟨(p - 1).toNat, by omega⟩
    have := of_yes w t r (Gl L) h (by omega) (fun k hk h0 h1 => hG.some _ k hk h0 h1)
    rw [show rowO ((r : Int) + 1) (Gl L r) 16 = ofL L ((r : Int) + 1) from hG.ofL _] at this
    exact this
  · rw [of_out hG hp]
    exact of_no w (pq t) p (.inr hp) (.inr ⟨t, rfl⟩)
set_option maxRecDepth 100000 in
set_option maxHeartbeats 1600000 in
theorem slay_ok (w : World) (t r f n : Nat) (o : Int) (L : List Sp) (h : Tb w t L) (hG : GS L) (hr : r < 6) (hn : 1 ≤ n) (hfn : f + n ≤ 16) :
    Calls Try.prog 39 #[pq t, .agg #[i64 ((r : Int) + 1), i64 f, i64 n, i64 o]] w fun e w' => e = .returned (.bool (layB (L.map ar) ((r : Int) + 1, (f : Int), (n : Int)))) ∧ Tb w' t (if layB (L.map ar) ((r : Int) + 1, (f : Int), (n : Int)) = true then L ++ [((r : Int) + 1, (f : Int), (n : Int), o)] else L) ∧ Touch t w w' := by
  have HB := hid (below_one w (.cells #[i64 ((r : Int) + 1), i64 f, i64 n, i64 o] 71))
  have HX := hid (heap_last w (.cells #[i64 ((r : Int) + 1), i64 f, i64 n, i64 o] 71))
  have ht := h.lt
  have HC := hid (of_any (w.alloc (.cells #[i64 ((r : Int) + 1), i64 f, i64 n, i64 o] 71)) t L ((r : Int) + 1) (h.alloc _) hG)
  have HT := hid h
  have hlen : (ofL L ((r : Int) + 1)).length = cntL (L.map ar) ((r : Int) + 1) := hG.cnt _
  have h4 := hG.four ((r : Int) + 1)
  have HN := hid hlen
  have HA := hid (hG.any r f n hn)
  have HLB : Hid (layB (L.map ar) ((r : Int) + 1, (f : Int), (n : Int)) = (decide (cntL (L.map ar) ((r : Int) + 1) < 4) && !((L.map ar).any (meetF ((r : Int) + 1, (f : Int), (n : Int)))))) := rfl
  have HP := hid fun W (hW : t < W.heap.size) => pages_ok W t r f n o hr hn hfn hW
  have HCF := hid fun W (hW : Tb W t L) => cfn_ok W t (r * 32 + f * 2) n (16 - f) _ (hW.rdc hr hfn) (by omega) (by omega)
  have HFI := hid fun W (hW : Tb W t L) => fill_ok W t r f n o (Gl L) hW hr hn hfn
  have HFS := hid fun (hm : ∀ x ∈ L, meetF ((r : Int) + 1, (f : Int), (n : Int)) (ar x) = false) => fill_snoc (L := L) r f n o hm
  rw [HLB.out, ← HN.out]
  generalize hM : ofL L ((r : Int) + 1) = M at *
  clear h hlen hM
  by_cases hc : M.length = 4
  · have hD : (decide (M.length < 4) && !((L.map ar).any (meetF ((r : Int) + 1, (f : Int), (n : Int))))) = false := by rw [decide_eq_false (by omega)]; rfl
    rw [hD, if_neg (by decide)]
    have hlt : (M.length : Int) = 4 := by omega
    clear hD HA HLB HP HCF HFI HFS HN hc
    go_enter Try.func39, Try.ntmps39
    go_wp2_with fail
    refine HC.out.mono ?_
    rintro e2 w2 ⟨⟨ao, cap, rfl, _⟩, hb2⟩
    have HB2 : Hid (Below w.heap.size w w2) := HB.out.trans (hb2.mono HB.out.size)
    clear HB HC hb2
    go_wp2_with fail
    go_ret
    exact ⟨rfl, HT.out.below HB2.out, Touch.of_below HB2.out⟩
  · have hD : (decide (M.length < 4) && !((L.map ar).any (meetF ((r : Int) + 1, (f : Int), (n : Int))))) = !((L.map ar).any (meetF ((r : Int) + 1, (f : Int), (n : Int)))) := by rw [decide_eq_true (by omega)]; rfl
    rw [hD]
    have hlt : ((M.length : Int) == 4) = false := beq_false_of_ne (by omega)
    obtain ⟨m, hm⟩ : ∃ m, m = M.length := ⟨_, rfl⟩
    rw [← hm] at hlt hc h4
    have HM := hid hm
    cases hA2 : (L.map ar).any (meetF ((r : Int) + 1, (f : Int), (n : Int)))
    · rw [hA2] at HA
      have hmm : ∀ x ∈ L, meetF ((r : Int) + 1, (f : Int), (n : Int)) (ar x) = false := fun x hx => by
        rw [List.any_eq_false] at hA2
        simpa using hA2 _ (List.mem_map_of_mem hx)
      rw [if_pos (by decide)]
      have HFS2 := hid (HFS.out hmm)
      clear hD HLB HN hA2 hmm HFS hm
      go_enter Try.func39, Try.ntmps39
      go_wp2_with fail
      refine HC.out.mono ?_
      rintro e2 w2 ⟨⟨ao, cap, rfl, _⟩, hb2⟩
      have HB2 : Hid (Below w.heap.size w w2) := HB.out.trans (hb2.mono HB.out.size)
      have HX2 := hid (blk_below HX.out hb2)
      have ht2 : t < w2.heap.size := Nat.lt_of_lt_of_le ht HB2.out.size
      obtain ⟨x0, x1, x2, x3⟩ := four_cells HX2.out
      have hbl := blk_lt HX2.out
      rw [← HM.out]
      clear HB HC HX hb2
      go_wp2_with fail
      refine (HP.out w2 ht2).mono ?_
      rintro e3 w3 ⟨rfl, hb3⟩
      have HB3 : Hid (Below w.heap.size w w3) := HB2.out.trans (hb3.mono HB2.out.size)
      have HX3 := hid (blk_below HX2.out hb3)
      clear hb3 x0 x1 x2 x3 hbl
      go_wp2_with fail
      refine (HCF.out w3 (HT.out.below HB3.out)).mono ?_
      rintro e4 w4 ⟨rfl, hb4⟩
      have HB4 : Hid (Below w.heap.size w w4) := HB3.out.trans (hb4.mono HB3.out.size)
      have HX4 := hid (blk_below HX3.out hb4)
      rw [HA.out]
      obtain ⟨x0, x1, x2, x3⟩ := four_cells HX4.out
      have hbl := blk_lt HX4.out
      clear hb4 HA
      go_wp2_with fail
      refine (HFI.out w4 (HT.out.below HB4.out)).mono ?_
      rintro e5 w5 ⟨rfl, hT5, hO5⟩
      have HT5 : Hid (Tb w5 t (L ++ [((r : Int) + 1, (f : Int), (n : Int), o)])) := hT5.ext fun r' g _ _ => HFS2.out r' g
      have HO5 : Hid (Touch t w w5) := (Touch.of_below HB4.out).trans hO5
      clear hT5 hO5
      go_wp2_with fail
      go_ret
      exact ⟨rfl, HT5.out, HO5.out⟩
    · rw [hA2] at HA
      rw [if_neg (by decide)]
      clear hD HLB HN hA2 HFS HFI hm
      go_enter Try.func39, Try.ntmps39
      go_wp2_with fail
      refine HC.out.mono ?_
      rintro e2 w2 ⟨⟨ao, cap, rfl, _⟩, hb2⟩
      have HB2 : Hid (Below w.heap.size w w2) := HB.out.trans (hb2.mono HB.out.size)
      have HX2 := hid (blk_below HX.out hb2)
      have ht2 : t < w2.heap.size := Nat.lt_of_lt_of_le ht HB2.out.size
      obtain ⟨x0, x1, x2, x3⟩ := four_cells HX2.out
      have hbl := blk_lt HX2.out
      rw [← HM.out]
      clear HB HC HX hb2
      go_wp2_with fail
      refine (HP.out w2 ht2).mono ?_
      rintro e3 w3 ⟨rfl, hb3⟩
      have HB3 : Hid (Below w.heap.size w w3) := HB2.out.trans (hb3.mono HB2.out.size)
      clear hb3 x0 x1 x2 x3 hbl
      go_wp2_with fail
      refine (HCF.out w3 (HT.out.below HB3.out)).mono ?_
      rintro e4 w4 ⟨rfl, hb4⟩
      have HB4 : Hid (Below w.heap.size w w4) := HB3.out.trans (hb4.mono HB3.out.size)
      rw [HA.out]
      clear hb4 HA
      go_wp2_with fail
      go_ret
      exact ⟨rfl, HT.out.below HB4.out, Touch.of_below HB4.out⟩
end Go.Proofs.Ytlkcpjefgelcoaa
