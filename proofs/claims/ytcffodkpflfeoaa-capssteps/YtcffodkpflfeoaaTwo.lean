/- imagolaw09.two: its contract; no statement is proved in this text. -/
import Derived.Test.YtcffodkpflfeoaaEach
namespace Go.Proofs.Ytcffodkpflfeoaa
open Go.ChangeShapes Go.WideShapes Go.ChangeAt Go.RowKit Go.Deep
attribute [local go_sem ↓] Go.wp_at_zero Go.wp_at_succ

def c1 : Cp := ⟨1, 1, 5, 3⟩
def c2 : Cp := ⟨2, 1, 5, 1⟩
def t1 : List Pl := z128.set 0 ⟨c1, -1, 1⟩
def t2 : List Pl := t1.set 1 ⟨c2, 0, 1⟩
def t3 : List Pl := clr t2 (gnL t2 (mDrop 0) 130 128)
def rk7 (s : Nat) : Nat := min s 127
theorem t2_rk : Rk t2 rk7 := ⟨by
  intro s p hp hc
  have hs : s < 128 := by have := (List.getElem?_eq_some_iff.1 hp).1; simpa [t2, t1, z128] using this
  unfold t2 t1 at hp
  by_cases h1 : s = 1
  · subst h1
    rw [List.getElem?_set_self (by simp [z128])] at hp
    cases hp
    exact Or.inr ⟨0, ⟨c1, -1, 1⟩, rfl, by decide +kernel, by decide, by decide⟩
  · rw [List.getElem?_set_ne (fun e => h1 e.symm)] at hp
    by_cases h0 : s = 0
    · subst h0
      rw [List.getElem?_set_self (by simp [z128])] at hp
      cases hp
      exact Or.inl rfl
    · rw [List.getElem?_set_ne (fun e => h0 e.symm), z128, List.getElem?_replicate] at hp
      simp [hs] at hp
      subst hp
      exact absurd rfl hc⟩
theorem two_gone : gnL t2 (mDrop 0) 130 128 = [0, 1] := by decide +kernel
theorem two_live : lvL t3 128 = [] := by decide +kernel
theorem two_l1 : lookF t1 1 0 1 = some c1 := by decide +kernel
theorem two_l2 : lookF t2 2 1 1 = some c2 := by decide +kernel
theorem two_l3 : lookF t2 1 0 1 = some c1 := by decide +kernel
theorem two_l4 : lookF t3 2 1 1 = none := by decide +kernel
theorem two_free0 : ∀ j q, j < 0 → z128[j]? = some q → q.c ≠ zC := fun j q h => by omega
theorem two_free1 : ∀ j q, j < 1 → t1[j]? = some q → q.c ≠ zC := fun j q h hq => by
  obtain rfl : j = 0 := by omega
  have : t1[0]? = some ⟨c1, -1, 1⟩ := by decide +kernel
  rw [this] at hq
  cases hq
  decide
theorem Touch.tb_below {w w1 w2 : World} {b : Nat} (hb : w.heap.size ≤ b) (h : Below w.heap.size w w1) (ht : Touch b w1 w2) : Below w.heap.size w w2 := h.trans (ht.below hb h.size)
theorem t3_rts : Rts t3 := fun i p hp hc => by
  have hl : lvL t3 128 = [] := two_live
  exfalso
  have hi : i < 128 := by have := (List.getElem?_eq_some_iff.1 hp).1; simpa [t3, clr_len, t2, t1, z128] using this
  have : i ∈ lvL t3 128 := by unfold lvL; rw [List.mem_filter]; exact ⟨by simpa using hi, by simp [tkB, hp, hc]⟩
  rw [hl] at this
  cases this
set_option maxRecDepth 100000 in
set_option maxHeartbeats 3200000 in
theorem two_ok (w : World) : Calls Try.prog 9 #[] w fun e w' => e = .returned (.bool true) ∧ Below w.heap.size w w' := by
  obtain ⟨b, hb⟩ : ∃ b, b = w.heap.size := ⟨_, rfl⟩
  have hlo : w.heap.size ≤ b := by omega
  have HM : Hid (∀ W, Tb W b b z128 → Calls Try.prog 21 #[pq b, .agg #[i64 1, i64 1, i64 5, i64 3]] W fun e w' => e = .returned (.tuple #[.agg #[i64 0, i64 1], i64 0]) ∧ Tb w' b b t1 ∧ Touch b W w') := fun W hW =>
    mint_ok hW c1 (by decide) 0 ⟨zC, 0, 0⟩ (by decide +kernel) rfl two_free0 (by decide) (by decide)
  have HD : Hid (∀ W, Tb W b b t1 → Calls Try.prog 20 #[pq b, i64 1, .agg #[i64 0, i64 1], i64 2, i64 1] W fun e w' => e = .returned (.tuple #[.agg #[i64 1, i64 1], i64 0]) ∧ Tb w' b b t2 ∧ Touch b W w') := fun W hW =>
    derive_ok hW 1 0 1 2 1 c1 (by have := looks_tb hW 1 0 1; rw [two_l1] at this; exact this) (by decide) (by decide) (by decide) (by decide) 1 ⟨zC, 0, 0⟩ (by decide +kernel) rfl two_free1 (by decide) (by decide)
  have HL : Hid (∀ W, Tb W b b t2 → Calls Try.prog 19 #[pq b, i64 2, .agg #[i64 1, i64 1]] W fun e w' => e = .returned (.tuple #[.agg #[i64 2, i64 1, i64 5, i64 1], i64 0]) ∧ Below W.heap.size W w') := fun W hW => by
    have := look_any hW 2 1 1; rw [two_l2] at this; exact this
  have HDr : Hid (∀ W, Tb W b b t2 → Calls Try.prog 22 #[pq b, i64 1, .agg #[i64 0, i64 1]] W fun e w' => e = .returned (.tuple #[i64 2, i64 0]) ∧ Tb w' b b t3 ∧ Touch b W w') := fun W hW => by
    have := drop_ok hW 1 0 1 c1 (by have := looks_tb hW 1 0 1; rw [two_l3] at this; exact this) rk7 t2_rk 130 (fun s => by unfold rk7; omega)
    rw [two_gone] at this
    unfold t3
    rw [two_gone]
    exact this
  have HC : Hid (∀ W, Tb W b b t3 → Calls Try.prog 16 #[pq b, i64 2, .agg #[i64 1, i64 1], i64 1] W fun e w' => e = .returned (i64 90) ∧ Below W.heap.size W w') := fun W hW => by
    have := check_any hW t3_rts 2 1 1 1; rw [two_l4] at this; exact this
  have HLv : Hid (∀ W, Tb W b b t3 → Calls Try.prog 11 #[pq b] W fun e w' => e = .returned (i64 0) ∧ Below W.heap.size W w') := fun W hW => by
    have := live_ok hW; rw [two_live] at this; exact this
  have HN : Hid (Calls Try.prog 8 #[] w fun e w' => e = .returned (pq b) ∧ Tb w' b b z128 ∧ Below w.heap.size w w' ∧ b < w'.heap.size) := (new_ok w).mono fun e w' ⟨h1, h2⟩ => ⟨by rw [h1, hb], by rw [h2, hb]; exact Tb.new w, by rw [h2]; exact below_one w _, by rw [h2, hb]; simp⟩
  clear hb
  go_enter Try.func9, Try.ntmps9
  go_wp2_with fail
  refine HN.out.mono ?_
  rintro e w1 ⟨rfl, hT1, hB1, hl1⟩
  have HT1 := hid hT1
  have HB1 := hid hB1
  clear hT1 hB1
  go_wp2_with fail
  refine (HM.out w1 HT1.out).mono ?_
  rintro e w2 ⟨rfl, hT2, ht2⟩
  have hl2 : b < w2.heap.size := by have := ht2.size; omega
  have HB2 : Hid (Below w.heap.size w (w2.alloc (hO 0 1))) := (Touch.tb_below hlo HB1.out ht2).alloc (Touch.tb_below hlo HB1.out ht2).size _
  have HT2 : Hid (Tb (w2.alloc (hO 0 1)) b b t1) := hT2.below (below_one _ _)
  have HK2 : Hid ((w2.alloc (hO 0 1)).heap[w2.heap.size]? = some (hO 0 1)) := heap_last w2 _
  clear hT2 ht2
  go_upto_region 3 with fail
  have k0 : (w2.alloc (hO 0 1)).cell? ⟨w2.heap.size, 0, none⟩ = some (i64 0) := blk_cell HK2.out 0
  have k1 : (w2.alloc (hO 0 1)).cell? ⟨w2.heap.size, 1, none⟩ = some (i64 1) := blk_cell HK2.out 1
  have hs2 : (w2.alloc (hO 0 1)).heap.size = w2.heap.size + 1 := by simp
  have hm2 : w2.heap.size < (w2.alloc (hO 0 1)).heap.size := by omega
  clear hs2
  unfold hO at *
  generalize w2.alloc (.cells #[i64 0, i64 1] 42) = u2 at *
  generalize w2.heap.size = x at *
  go_wp2_with fail
  refine (HD.out u2 HT2.out).mono ?_
  rintro e w3 ⟨rfl, hT3, ht3⟩
  have hl3 : x < w3.heap.size := by have := ht3.size; omega
  have HB3 : Hid (Below w.heap.size w (w3.alloc (hO 1 1))) := (Touch.tb_below hlo HB2.out ht3).alloc (Touch.tb_below hlo HB2.out ht3).size _
  have HT3 : Hid (Tb (w3.alloc (hO 1 1)) b b t2) := hT3.below (below_one _ _)
  have HK3 : Hid ((w3.alloc (hO 1 1)).heap[x]? = some (hO 0 1)) := blk_alloc ((ht3.block x hm2 (by omega)).trans HK2.out) _
  have HJ3 : Hid ((w3.alloc (hO 1 1)).heap[w3.heap.size]? = some (hO 1 1)) := heap_last w3 _
  clear hT3 ht3 k0 k1
  go_upto_region 4 with fail
  have j0 : (w3.alloc (hO 1 1)).cell? ⟨w3.heap.size, 0, none⟩ = some (i64 1) := blk_cell HJ3.out 0
  have j1 : (w3.alloc (hO 1 1)).cell? ⟨w3.heap.size, 1, none⟩ = some (i64 1) := blk_cell HJ3.out 1
  unfold hO at *
  generalize w3.alloc (.cells #[i64 1, i64 1] 42) = u3 at *
  generalize w3.heap.size = y at *
  go_wp2_with fail
  refine (HL.out u3 HT3.out).mono ?_
  rintro e w4 ⟨rfl, hb4⟩
  have HB4 : Hid (Below w.heap.size w (w4.alloc (cO c2))) := (HB3.out.trans (hb4.mono HB3.out.size)).alloc (HB3.out.trans (hb4.mono HB3.out.size)).size _
  have HT4 : Hid (Tb (w4.alloc (cO c2)) b b t2) := (HT3.out.below hb4).below (below_one _ _)
  have HK4 : Hid ((w4.alloc (cO c2)).heap[x]? = some (hO 0 1)) := blk_alloc (blk_below HK3.out hb4) _
  have HJ4 : Hid ((w4.alloc (cO c2)).heap[y]? = some (hO 1 1)) := blk_alloc (blk_below HJ3.out hb4) _
  have HI4 : Hid ((w4.alloc (cO c2)).heap[w4.heap.size]? = some (cO c2)) := heap_last w4 _
  have hbz : b < w4.heap.size := by have := hb4.size; have := HT3.out.lt; omega
  clear hb4 j0 j1
  go_upto_region 5 with fail
  have k0 : (w4.alloc (cO c2)).cell? ⟨x, 0, none⟩ = some (i64 0) := blk_cell HK4.out 0
  have k1 : (w4.alloc (cO c2)).cell? ⟨x, 1, none⟩ = some (i64 1) := blk_cell HK4.out 1
  unfold cO c2 at *
  generalize w4.alloc (.cells #[i64 2, i64 1, i64 5, i64 1] 36) = u4 at *
  generalize w4.heap.size = z at *
  go_wp2_with fail
  refine (HDr.out u4 HT4.out).mono ?_
  rintro e w5 ⟨rfl, hT5, ht5⟩
  have HB5 : Hid (Below w.heap.size w w5) := Touch.tb_below hlo HB4.out ht5
  have HT5 := hid hT5
  have hJ5 : w5.heap[y]? = some (hO 1 1) := (ht5.block y (blk_lt HJ4.out) (fun e => by have := HT4.out.row; rw [← e, HJ4.out] at this; simp at this)).trans HJ4.out
  have hI5 : w5.heap[z]? = some (.cells #[i64 2, i64 1, i64 5, i64 1] 36) := (ht5.block z (blk_lt HI4.out) (by omega)).trans HI4.out
  have j0 : w5.cell? ⟨y, 0, none⟩ = some (i64 1) := blk_cell hJ5 0
  have j1 : w5.cell? ⟨y, 1, none⟩ = some (i64 1) := blk_cell hJ5 1
  have i2 : w5.cell? ⟨z, 2, none⟩ = some (i64 5) := blk_cell hI5 2
  clear hT5 ht5 k0 k1 hJ5 hI5
  go_wp2_with fail
  refine (HC.out w5 HT5.out).mono ?_
  rintro e w6 ⟨rfl, hb6⟩
  have HB6 : Hid (Below w.heap.size w w6) := HB5.out.trans (hb6.mono HB5.out.size)
  have HT6 := hid (HT5.out.below hb6)
  clear hb6
  go_wp2_with fail
  refine (HLv.out w6 HT6.out).mono ?_
  rintro e w7 ⟨rfl, hb7⟩
  have HB7 : Hid (Below w.heap.size w w7) := HB6.out.trans (hb7.mono HB6.out.size)
  clear hb7
  go_wp2_with fail
  go_ret
  exact ⟨rfl, HB7.out⟩
end Go.Proofs.Ytcffodkpflfeoaa
