/- AreasLoad; no statement is proved in this text. -/
import Derived.Test.YtmebkpdijamdgaaOn
namespace Go.Proofs.Ytmebkpdijamdgaa
open Go.ChangeShapes Go.WideShapes Go.ChangeAt Go.RowKit Go.Deep
attribute [local go_sem ↓] Go.wp_at_zero Go.wp_at_succ

theorem load_good {w : World} {ao : Option Addr} {cap : Nat} {X : List Ar} (hg : Good X) (hX : X.length ≤ 1000) (hR : Rd3 w ao X) : Calls Try.prog 18 #[.slice ao X.length cap] w fun e w' => e = .returned (.tuple #[pq w.heap.size, i64 0]) ∧ Lb w' w.heap.size w.heap.size X ∧ Below w.heap.size w w' :=
  (load_ok w ao cap X hX hR fun a ha => by have := isA_of (hg.isA a ha); omega).mono (by
    rintro e w' ⟨h, hb⟩
    rcases h with ⟨_, rfl, hl⟩ | ⟨hn, _⟩
    · exact ⟨rfl, hl, hb⟩
    · exact absurd hg hn)
theorem load_bad {w : World} {ao : Option Addr} {cap : Nat} {X : List Ar} (hg : ¬ Good X) (hX : X.length ≤ 1000) (hR : Rd3 w ao X) (hm : ∀ a ∈ X, a.2.1 ≤ 9223372036854775807) : Calls Try.prog 18 #[.slice ao X.length cap] w fun e w' => e = .returned (.tuple #[.pointer none, i64 4]) ∧ Below w.heap.size w w' :=
  (load_ok w ao cap X hX hR hm).mono (by
    rintro e w' ⟨h, hb⟩
    rcases h with ⟨hn, _⟩ | ⟨_, rfl⟩
    · exact absurd hn hg
    · exact ⟨rfl, hb⟩)
theorem right_b {w : World} {ao : Option Addr} {cap : Nat} {X : List Ar} {B : Bool} (hg : (Good X ∧ B = true) ∨ (¬ Good X ∧ B = false)) (hX : X.length ≤ 1000) (hR : Rd3 w ao X) : Calls Try.prog 16 #[.slice ao X.length cap] w fun e w' => e = .returned (.bool B) ∧ Below w.heap.size w w' :=
  (right_ok w ao cap X hX hR).mono (by
    rintro e w' ⟨h, hb⟩
    rcases h with ⟨h1, rfl⟩ | ⟨h1, rfl⟩ <;> rcases hg with ⟨h2, rfl⟩ | ⟨h2, rfl⟩
    · exact ⟨rfl, hb⟩
    · exact absurd h1 h2
    · exact absurd h2 h1
    · exact ⟨rfl, hb⟩)
set_option maxRecDepth 100000 in
set_option maxHeartbeats 12800000 in
theorem load_any (w : World) (ao : Option Addr) (len cap : Nat) (f : Nat → Sp) (hlen : len ≤ maxLen) (hS : SSl w ao len f) (a1 : Option Addr) (len1 cap1 : Nat) (X : List Ar) (hX : X.length = len1) (hlen1 : len1 ≤ maxLen) (hG : Rd3 w a1 X) (hMX : ∀ x ∈ X, x.2.1 ≤ 9223372036854775807) : Calls Try.prog 6 #[.slice ao len cap, .slice a1 len1 cap1] w fun e w' => e = .returned (.bool true) ∧ Below w.heap.size w w' := by
  have HGX := hid hG
  have HMX := hid hMX
  have HM1 : Hid (len1 = X.length) := hX.symm
  have hm1 : (len1 : Int) ≤ 9223372036854775807 := by unfold maxLen at hlen1; omega
  clear hG hMX hX hlen1
  have hm : (len : Int) ≤ 9223372036854775807 := by unfold maxLen at hlen; omega
  have HSb := hid hS
  have HNw := hid (new_ok w)
  obtain ⟨b, hb⟩ : ∃ b, b = w.heap.size := ⟨_, rfl⟩
  have HB := hid hb
  rw [← hb] at HNw ⊢
  clear hS hlen hb
  by_cases h60 : 60 < len
  · have h60' : (60 : Int) < len := by omega
    go_enter Try.func6, Try.ntmps6
    go_wp2_with fail
    refine HNw.out.mono ?_
    rintro e w1 ⟨rfl, ht1, hb1⟩
    have HB1 : Hid (Below b w w1) := hb1
    have hlo1 : b ≤ w1.heap.size := Nat.le_of_lt ht1.lt
    clear ht1 hb1 HNw
    go_wp2_with fail
    refine (three_ok w1).mono ?_
    rintro e w2 ⟨rfl, hb2⟩
    have HB2 : Hid (Below b w w2) := HB1.out.trans (hb2.mono hlo1)
    clear hb2
    go_wp2_with fail
    go_ret
    exact ⟨rfl, HB2.out⟩
  have h60' : ¬ (60 : Int) < len := by omega
  by_cases h61 : 60 < len1
  · have h61' : (60 : Int) < len1 := by omega
    go_enter Try.func6, Try.ntmps6
    go_wp2_with fail
    refine HNw.out.mono ?_
    rintro e w1 ⟨rfl, ht1, hb1⟩
    have HB1 : Hid (Below b w w1) := hb1
    have hlo1 : b ≤ w1.heap.size := Nat.le_of_lt ht1.lt
    clear ht1 hb1 HNw
    go_wp2_with fail
    refine (three_ok w1).mono ?_
    rintro e w2 ⟨rfl, hb2⟩
    have HB2 : Hid (Below b w w2) := HB1.out.trans (hb2.mono hlo1)
    clear hb2
    go_wp2_with fail
    go_ret
    exact ⟨rfl, HB2.out⟩
  have h61' : ¬ (60 : Int) < len1 := by omega
  have hXX : X.length ≤ 1000 := by rw [← HM1.out]; omega
  by_cases hGX : Good X
  · have HG := hid hGX
    clear hGX
    go_enter Try.func6, Try.ntmps6
    go_wp2_with fail
    refine HNw.out.mono ?_
    rintro e w1 ⟨rfl, ht1, hb1⟩
    have HT1 := hid ht1
    have HB1 : Hid (Below b w w1) := hb1
    clear ht1 hb1 HNw
    have hz29 := zero29
    go_wp2_with fail
    have hlo1 : b ≤ w1.heap.size := Nat.le_of_lt HT1.out.lt
    have HW3 : Hid (BoX (w1.alloc (.cells #[.slice none 0 0] 29)) b b w1.heap.size) := ⟨[], HT1.out.below (below_one w1 _), rb_new w1 b hlo1, .nil⟩
    have HB3 : Hid (Below b w (w1.alloc (.cells #[.slice none 0 0] 29))) := HB1.out.trans ((below_one w1 _).mono hlo1)
    clear hz29
    obtain ⟨r, hr⟩ : ∃ r, r = w1.heap.size := ⟨_, rfl⟩
    rw [← hr] at HW3 ⊢
    generalize w1.alloc (.cells #[.slice none 0 0] 29) = w3 at *
    clear hr hlo1 HT1 HB1
    go_loopw [35] (fun u wr => ∃ (k : Nat), k ≤ len ∧ u = i64 k ∧ Hid (BoX wr b b r) ∧ Hid (Below b w wr)) (fun u _ => len - (intOf u).toNat)
    case atStart => exact ⟨0, by omega, rfl, HW3, HB3⟩
    case round =>
      obtain ⟨k, hk, rfl, HBo, HBw⟩ := hrel
      by_cases hlt : k < len
      · have hkI : (k : Int) < len := by omega
        obtain ⟨B, off, hao, hb, hr⟩ := (HSb.out.below (by rw [← HB.out]; exact HBw.out)).at hlt
        subst hao
        obtain ⟨x, hx⟩ : ∃ x, x = f k := ⟨_, rfl⟩
        rw [← hx] at hr
        have c0 : wr.cell? ⟨B, off + k * 4, none⟩ = some (i64 x.what) := hr 0 _ rfl
        have c1 : wr.cell? ⟨B, off + k * 4 + 1, none⟩ = some (i64 x.pid) := hr 1 _ rfl
        have c2 : wr.cell? ⟨B, off + k * 4 + 2, none⟩ = some (i64 x.fst) := hr 2 _ rfl
        have c3 : wr.cell? ⟨B, off + k * 4 + 3, none⟩ = some (i64 x.n) := hr 3 _ rfl
        have HBV : Hid (Below b w (wr.alloc (spO x))) := HBw.out.trans ((below_one wr _).mono (HBo.out.lob))
        have HBoV : Hid (BoX (wr.alloc (spO x)) b b r) := HBo.out.below (below_one wr _)
        have HX : Hid ((wr.alloc (spO x)).heap[wr.heap.size]? = some (spO x)) := heap_last wr _
        clear hx hr hb
        have HD := hid (does_ok (wr.alloc (spO x)) b b r x HBoV.out)
        go_wp2_with fail
        refine HD.out.mono ?_
        rintro e w5 ⟨rfl, hbo5, hf5⟩
        have HBo5 := hid hbo5
        have HB5 : Hid (Below b w w5) := HBV.out.trans hf5.below
        clear hbo5 hf5
        go_wp2_with fail
        exact ⟨⟨k + 1, by omega, by go_num, HBo5, HB5⟩, by simp [intOf]; omega⟩
      · clear HW3 HB3
        obtain ⟨L, hbo⟩ := HBo.out
        have HBoL := hid hbo
        obtain ⟨_, aoR, capR, hrk, hro⟩ := hbo.rb
        have HRk := hid hrk
        have HRr := hid (Rd3.own hro)
        have hll : L.length ≤ 1000 := hbo.len
        have HA0 := hid (all_ok wr b (pq b) L hbo.lb.lv hll)
        obtain ⟨N, hN⟩ : ∃ N, N = L.length := ⟨_, rfl⟩
        have HN := hid hN
        rw [← hN] at HRk
        have hbl : b ≤ wr.heap.size := hbo.lob
        clear hbo hrk hro hN HBo
        go_wp2_with fail
        refine HA0.out.mono ?_
        rintro e w6 ⟨⟨ao6, cap6, rfl, ho6⟩, hb6⟩
        have HB6 : Hid (Below b w w6) := HBw.out.trans (hb6.mono hbl)
        have hbl6 : b ≤ w6.heap.size := Nat.le_trans hbl hb6.size
        have HRk6 := hid (blk_below HRk.out hb6)
        have HRr6 := hid (HRr.out.below hb6)
        have HLo := hid (load_good (cap := cap6) HBoL.out.gd hll (Rd3.own ho6))
        obtain ⟨u, hu⟩ : ∃ u, u = w6.heap.size := ⟨_, rfl⟩
        rw [← hu] at HLo
        have hu' : w6.heap.size ≤ u := by omega
        rw [← HN.out] at HLo ⊢
        have HU := hid hu
        clear ho6 hb6 HA0 hu
        go_wp2_with fail
        refine HLo.out.mono ?_
        rintro e w7 ⟨rfl, hl7, hb7⟩
        have hb7' : Below w6.heap.size w6 w7 := by rw [← HU.out]; exact hb7
        have HLu7 := hid hl7
        have HB7 : Hid (Below b w w7) := HB6.out.trans (hb7'.mono hbl6)
        have hbl7 : b ≤ w7.heap.size := Nat.le_trans hbl6 hb7'.size
        have HRk7 := hid (blk_below HRk6.out hb7')
        have HRr7 := hid (HRr6.out.below hb7')
        have HL2 := hid (load_good (cap := cap1) HG.out hXX (HGX.out.below (by rw [← HB.out]; exact HB7.out)))
        obtain ⟨z, hz⟩ : ∃ z, z = w7.heap.size := ⟨_, rfl⟩
        have HZ := hid hz
        rw [← hz] at HL2
        rw [← HM1.out] at HL2
        clear hl7 hb7 hb7' HLo hz
        go_wp2_with fail
        refine HL2.out.mono ?_
        rintro e w8 ⟨rfl, hl8, hb8⟩
        have HLz8 := hid hl8
        clear hl8
        have hb8' : Below w7.heap.size w7 w8 := by rw [← HZ.out]; exact hb8
        have HLu8 := hid (HLu7.out.below hb8')
        have HB8 : Hid (Below b w w8) := HB7.out.trans (hb8'.mono hbl7)
        have hbl8 : b ≤ w8.heap.size := Nat.le_trans hbl7 hb8'.size
        have HRk8 := hid (blk_below HRk7.out hb8')
        have HRr8 := hid (HRr7.out.below hb8')
        clear hb8 hb8' HL2
        go_upto_region 12 with fail
        have HS : Hid ((fun W : World => W.heap[r]? = some (.cells #[.slice aoR N capR] 29)) w8.drew) := HRk8.out
        have HLd : Hid (Lb w8.drew u u L) := by obtain ⟨v, h1, h2, h3⟩ := HLu8.out; exact ⟨v, h1, h2, own_keep h3 (fun _ _ h => h)⟩
        have HRd8 : Hid (Rd3 w8.drew aoR L) := HRr8.out
        have HA := hid (all_ok w8.drew u (pq u) L HLd.out.lv hll)
        refine wp_region_noPanic ?_
        refine wp_region_last (fun W : World => W.heap[r]? = some (.cells #[.slice aoR N capR] 29)) 16 (by kernel_rfl) ?_
        refine wpL_take 0 55 (i64 0) [1, 2, 6] rfl rfl (by kernel_rfl) (by decide) (by kernel_rfl) (by kernel_rfl) (by kernel_rfl) (fun _ _ _ h => h) HS.out (by rfl) (fun W hW => by go_simp) ?_
        simp only [Act.put, List.setIfInBounds_toArray, List.set_cons_zero, List.set_cons_succ]
        refine wpL_take 1 56 (.bool false) [2, 6] rfl rfl (by kernel_rfl) (by decide) (by kernel_rfl) (by kernel_rfl) (by kernel_rfl) (fun _ _ _ h => h) HS.out (by rfl) (fun W hW => by go_simp) ?_
        simp only [Act.put, List.setIfInBounds_toArray, List.set_cons_zero, List.set_cons_succ]
        refine wpL_take 2 57 (.bool false) [6] rfl rfl (by kernel_rfl) (by decide) (by kernel_rfl) (by kernel_rfl) (by kernel_rfl) (fun _ _ _ h => h) HS.out (by rfl) (fun W hW => by go_simp) ?_
        simp only [Act.put, List.setIfInBounds_toArray, List.set_cons_zero, List.set_cons_succ]
        refine wpL_take 3 58 (pq u) [4, 5, 6] rfl rfl (by kernel_rfl) (by decide) (by kernel_rfl) (by kernel_rfl) (by kernel_rfl) (fun _ _ _ h => h) HS.out (by rfl) (fun W hW => by go_simp) ?_
        simp only [Act.put, List.setIfInBounds_toArray, List.set_cons_zero, List.set_cons_succ]
        refine wpL_take 4 59 (.bool false) [5, 6] rfl rfl (by kernel_rfl) (by decide) (by kernel_rfl) (by kernel_rfl) (by kernel_rfl) (fun _ _ _ h => h) HS.out (by rfl) (fun W hW => by go_simp) ?_
        simp only [Act.put, List.setIfInBounds_toArray, List.set_cons_zero, List.set_cons_succ]
        refine wpL_take 5 60 (.bool false) [6] rfl rfl (by kernel_rfl) (by decide) (by kernel_rfl) (by kernel_rfl) (by kernel_rfl) (fun _ _ _ h => h) HS.out (by rfl) (fun W hW => by go_simp) ?_
        simp only [Act.put, List.setIfInBounds_toArray, List.set_cons_zero, List.set_cons_succ]
        refine wpL_take 6 61 (.bool false) [] rfl rfl (by kernel_rfl) (by decide) (by kernel_rfl) (by kernel_rfl) (by kernel_rfl) (fun _ _ _ h => h) HS.out (by rfl) (fun W hW => by go_simp) ?_
        simp only [Act.put, List.setIfInBounds_toArray, List.set_cons_zero, List.set_cons_succ]
        refine wpL_take 7 62 (pq u) [8, 9, 14, 15] rfl rfl (by kernel_rfl) (by decide) (by kernel_rfl) (by kernel_rfl) (by kernel_rfl) (fun _ _ _ h => h) HS.out (by rfl) (fun W hW => by go_simp) ?_
        simp only [Act.put, List.setIfInBounds_toArray, List.set_cons_zero, List.set_cons_succ]
        refine wpL_take 10 65 (pq r) [11, 12, 13, 14, 15] rfl rfl (by kernel_rfl) (by decide) (by kernel_rfl) (by kernel_rfl) (by kernel_rfl) (fun _ _ _ h => h) HS.out (by rfl) (fun W hW => by go_simp) ?_
        simp only [Act.put, List.setIfInBounds_toArray, List.set_cons_zero, List.set_cons_succ]
        refine wpL_take 11 66 (pq r) [12, 13, 14, 15] rfl rfl (by kernel_rfl) (by decide) (by kernel_rfl) (by kernel_rfl) (by kernel_rfl) (fun _ _ _ h => h) HS.out (by rfl) (fun W hW => by go_simp) ?_
        simp only [Act.put, List.setIfInBounds_toArray, List.set_cons_zero, List.set_cons_succ]
        refine wpL_take 12 67 (pq r) [13, 14, 15] rfl rfl (by kernel_rfl) (by decide) (by kernel_rfl) (by kernel_rfl) (by kernel_rfl) (fun _ _ _ h => h) HS.out (by rfl) (fun W hW => by go_simp) ?_
        simp only [Act.put, List.setIfInBounds_toArray, List.set_cons_zero, List.set_cons_succ]
        refine wpL_take 13 68 (.slice aoR N capR) [14, 15] rfl rfl (by kernel_rfl) (by decide) (by kernel_rfl) (by kernel_rfl) (by kernel_rfl) (fun _ _ _ h => h) HS.out (by rfl) (fun W hW => by have r0 := blk_cell hW 0; simp only [List.getElem?_toArray, List.getElem?_cons_zero] at r0; go_simp) ?_
        simp only [Act.put, List.setIfInBounds_toArray, List.set_cons_zero, List.set_cons_succ]
        refine wpL_one 8 rfl (by kernel_rfl) (by rfl) (fun K hK => ?_)
        go_simp
        refine HA.out.mono ?_
        rintro e w9 ⟨⟨ao9, cap9, rfl, ho9⟩, hb9⟩
        have HB9 : Hid (Below b w w9) := HB8.out.drew.trans (hb9.mono (by exact hbl8))
        have HRr9 := hid (HRd8.out.below hb9)
        have HS9 : Hid ((fun W : World => W.heap[r]? = some (.cells #[.slice aoR N capR] 29)) w9) := blk_below HS.out hb9
        have HBc9 : Hid (Below w8.heap.size w8 w9) := ⟨hb9.os, hb9.tape, hb9.output, hb9.size, hb9.block⟩
        have hbl9 : b ≤ w9.heap.size := Nat.le_trans hbl8 hb9.size
        have HRf := hid (refs_ok w9 ao9 cap9 L hll (Rd3.own ho9))
        rw [← HN.out] at HRf ⊢
        clear ho9 hb9 HA
        go_simp
        refine hK.out _ _ (fun _ => HS9.out) ?_
        clear hK K
        refine wpL_one 9 rfl (by kernel_rfl) (by rfl) (fun K hK => ?_)
        go_simp
        refine HRf.out.mono ?_
        rintro e w10 ⟨⟨ao10, cap10, rfl, ho10⟩, hb10⟩
        have HB10 : Hid (Below b w w10) := HB9.out.trans (hb10.mono hbl9)
        have HRr10 := hid (HRr9.out.below hb10)
        have HS10 : Hid ((fun W : World => W.heap[r]? = some (.cells #[.slice aoR N capR] 29)) w10) := blk_below HS9.out hb10
        have HBc10 : Hid (Below w8.heap.size w8 w10) := HBc9.out.trans (hb10.mono HBc9.out.size)
        have hbl10 : b ≤ w10.heap.size := Nat.le_trans hbl9 hb10.size
        have HSm := hid (same_ok w10 ao10 aoR cap10 capR L hll (Rd3.own ho10) HRr10.out)
        rw [← HN.out] at HSm ⊢
        clear ho10 hb10 HRf
        go_simp
        refine hK.out _ _ (fun _ => HS10.out) ?_
        clear hK K
        refine wpL_one 14 rfl (by kernel_rfl) (by rfl) (fun K hK => ?_)
        go_simp
        refine HSm.out.mono ?_
        rintro e w11 ⟨rfl, hb11⟩
        have HB11 : Hid (Below b w w11) := HB10.out.trans (hb11.mono hbl10)
        have HS11 : Hid ((fun W : World => W.heap[r]? = some (.cells #[.slice aoR N capR] 29)) w11) := blk_below HS10.out hb11
        have HBc11 : Hid (Below w8.heap.size w8 w11) := HBc10.out.trans (hb11.mono HBc10.out.size)
        have hbl11 : b ≤ w11.heap.size := Nat.le_trans hbl10 hb11.size
        clear hb11 HSm
        go_simp
        refine hK.out _ _ (fun _ => HS11.out) ?_
        clear hK K
        refine wpL_take 15 70 (.bool false) [] rfl rfl (by kernel_rfl) (by decide) (by kernel_rfl) (by kernel_rfl) (by kernel_rfl) (fun _ _ _ h => h) HS11.out (by rfl) (fun W hW => by go_simp) ?_
        simp only [Act.put, List.setIfInBounds_toArray, List.set_cons_zero, List.set_cons_succ]
        refine wpL_one 16 rfl (by kernel_rfl) (by rfl) (fun K hK => ?_)
        go_simp
        refine hK.out _ _ (fun h => absurd rfl h) ?_
        clear hK K
        refine wpL_done (by kernel_rfl) ?_
        refine NoPanic.normal ?_
        have HRX := hid (refs_ok w11 a1 cap1 X hXX (HGX.out.below (by rw [← HB.out]; exact HB11.out)))
        rw [← HM1.out] at HRX
        go_wp2_with fail
        refine HRX.out.mono ?_
        rintro e w12 ⟨⟨ao12, cap12, rfl, ho12⟩, hb12⟩
        have HB12 : Hid (Below b w w12) := HB11.out.trans (hb12.mono hbl11)
        have HBc12 : Hid (Below w8.heap.size w8 w12) := HBc11.out.trans (hb12.mono HBc11.out.size)
        have hbl12 : b ≤ w12.heap.size := Nat.le_trans hbl11 hb12.size
        have HRi := hid (right_b (cap := cap12) (B := true) (.inl ⟨HG.out, rfl⟩) hXX (Rd3.own ho12))
        rw [← HM1.out] at HRi ⊢
        clear ho12 hb12 HRX
        go_wp2_with fail
        refine HRi.out.mono ?_
        rintro e w13 ⟨rfl, hb13⟩
        have HB13 : Hid (Below b w w13) := HB12.out.trans (hb13.mono hbl12)
        have HBc13 : Hid (Below w8.heap.size w8 w13) := HBc12.out.trans (hb13.mono HBc12.out.size)
        have hbl13 : b ≤ w13.heap.size := Nat.le_trans hbl12 hb13.size
        clear hb13 HRi
        have HAz := hid (all_ok w13 z (pq z) X (HLz8.out.below HBc13.out).lv hXX)
        go_wp2_with fail
        refine HAz.out.mono ?_
        rintro e w14 ⟨⟨ao14, cap14, rfl, ho14⟩, hb14⟩
        have HB14 : Hid (Below b w w14) := HB13.out.trans (hb14.mono hbl13)
        have hbl14 : b ≤ w14.heap.size := Nat.le_trans hbl13 hb14.size
        have HRf2 := hid (refs_ok w14 ao14 cap14 X hXX (Rd3.own ho14))
        rw [← HM1.out] at HRf2 ⊢
        clear ho14 hb14 HAz
        go_wp2_with fail
        refine HRf2.out.mono ?_
        rintro e w15 ⟨⟨ao15, cap15, rfl, ho15⟩, hb15⟩
        have HB15 : Hid (Below b w w15) := HB14.out.trans (hb15.mono hbl14)
        have hbl15 : b ≤ w15.heap.size := Nat.le_trans hbl14 hb15.size
        have HR15 := hid (Rd3.own ho15)
        have HRX2 := hid (refs_ok w15 a1 cap1 X hXX (HGX.out.below (by rw [← HB.out]; exact HB15.out)))
        rw [← HM1.out] at HRX2 ⊢
        clear ho15 hb15 HRf2
        go_wp2_with fail
        refine HRX2.out.mono ?_
        rintro e w16 ⟨⟨ao16, cap16, rfl, ho16⟩, hb16⟩
        have HB16 : Hid (Below b w w16) := HB15.out.trans (hb16.mono hbl15)
        have hbl16 : b ≤ w16.heap.size := Nat.le_trans hbl15 hb16.size
        have HSm2 := hid (same_ok w16 ao15 ao16 cap15 cap16 X hXX (HR15.out.below hb16) (Rd3.own ho16))
        rw [← HM1.out] at HSm2 ⊢
        clear ho16 hb16 HRX2
        go_wp2_with fail
        refine HSm2.out.mono ?_
        rintro e w17 ⟨rfl, hb17⟩
        have HB17 : Hid (Below b w w17) := HB16.out.trans (hb17.mono hbl16)
        have hbl17 : b ≤ w17.heap.size := Nat.le_trans hbl16 hb17.size
        clear hb17 HSm2
        go_wp2_with fail
        refine (three_ok w17).mono ?_
        rintro e w18 ⟨rfl, hbz⟩
        have HBz : Hid (Below b w w18) := HB17.out.trans (hbz.mono hbl17)
        clear hbz
        go_wp2_with fail
        go_ret
        exact ⟨rfl, HBz.out⟩
  · have HG := hid hGX
    clear hGX
    go_enter Try.func6, Try.ntmps6
    go_wp2_with fail
    refine HNw.out.mono ?_
    rintro e w1 ⟨rfl, ht1, hb1⟩
    have HT1 := hid ht1
    have HB1 : Hid (Below b w w1) := hb1
    clear ht1 hb1 HNw
    have hz29 := zero29
    go_wp2_with fail
    have hlo1 : b ≤ w1.heap.size := Nat.le_of_lt HT1.out.lt
    have HW3 : Hid (BoX (w1.alloc (.cells #[.slice none 0 0] 29)) b b w1.heap.size) := ⟨[], HT1.out.below (below_one w1 _), rb_new w1 b hlo1, .nil⟩
    have HB3 : Hid (Below b w (w1.alloc (.cells #[.slice none 0 0] 29))) := HB1.out.trans ((below_one w1 _).mono hlo1)
    clear hz29
    obtain ⟨r, hr⟩ : ∃ r, r = w1.heap.size := ⟨_, rfl⟩
    rw [← hr] at HW3 ⊢
    generalize w1.alloc (.cells #[.slice none 0 0] 29) = w3 at *
    clear hr hlo1 HT1 HB1
    go_loopw [35] (fun u wr => ∃ (k : Nat), k ≤ len ∧ u = i64 k ∧ Hid (BoX wr b b r) ∧ Hid (Below b w wr)) (fun u _ => len - (intOf u).toNat)
    case atStart => exact ⟨0, by omega, rfl, HW3, HB3⟩
    case round =>
      obtain ⟨k, hk, rfl, HBo, HBw⟩ := hrel
      by_cases hlt : k < len
      · have hkI : (k : Int) < len := by omega
        obtain ⟨B, off, hao, hb, hr⟩ := (HSb.out.below (by rw [← HB.out]; exact HBw.out)).at hlt
        subst hao
        obtain ⟨x, hx⟩ : ∃ x, x = f k := ⟨_, rfl⟩
        rw [← hx] at hr
        have c0 : wr.cell? ⟨B, off + k * 4, none⟩ = some (i64 x.what) := hr 0 _ rfl
        have c1 : wr.cell? ⟨B, off + k * 4 + 1, none⟩ = some (i64 x.pid) := hr 1 _ rfl
        have c2 : wr.cell? ⟨B, off + k * 4 + 2, none⟩ = some (i64 x.fst) := hr 2 _ rfl
        have c3 : wr.cell? ⟨B, off + k * 4 + 3, none⟩ = some (i64 x.n) := hr 3 _ rfl
        have HBV : Hid (Below b w (wr.alloc (spO x))) := HBw.out.trans ((below_one wr _).mono (HBo.out.lob))
        have HBoV : Hid (BoX (wr.alloc (spO x)) b b r) := HBo.out.below (below_one wr _)
        have HX : Hid ((wr.alloc (spO x)).heap[wr.heap.size]? = some (spO x)) := heap_last wr _
        clear hx hr hb
        have HD := hid (does_ok (wr.alloc (spO x)) b b r x HBoV.out)
        go_wp2_with fail
        refine HD.out.mono ?_
        rintro e w5 ⟨rfl, hbo5, hf5⟩
        have HBo5 := hid hbo5
        have HB5 : Hid (Below b w w5) := HBV.out.trans hf5.below
        clear hbo5 hf5
        go_wp2_with fail
        exact ⟨⟨k + 1, by omega, by go_num, HBo5, HB5⟩, by simp [intOf]; omega⟩
      · clear HW3 HB3
        obtain ⟨L, hbo⟩ := HBo.out
        have HBoL := hid hbo
        obtain ⟨_, aoR, capR, hrk, hro⟩ := hbo.rb
        have HRk := hid hrk
        have HRr := hid (Rd3.own hro)
        have hll : L.length ≤ 1000 := hbo.len
        have HA0 := hid (all_ok wr b (pq b) L hbo.lb.lv hll)
        obtain ⟨N, hN⟩ : ∃ N, N = L.length := ⟨_, rfl⟩
        have HN := hid hN
        rw [← hN] at HRk
        have hbl : b ≤ wr.heap.size := hbo.lob
        clear hbo hrk hro hN HBo
        go_wp2_with fail
        refine HA0.out.mono ?_
        rintro e w6 ⟨⟨ao6, cap6, rfl, ho6⟩, hb6⟩
        have HB6 : Hid (Below b w w6) := HBw.out.trans (hb6.mono hbl)
        have hbl6 : b ≤ w6.heap.size := Nat.le_trans hbl hb6.size
        have HRk6 := hid (blk_below HRk.out hb6)
        have HRr6 := hid (HRr.out.below hb6)
        have HLo := hid (load_good (cap := cap6) HBoL.out.gd hll (Rd3.own ho6))
        obtain ⟨u, hu⟩ : ∃ u, u = w6.heap.size := ⟨_, rfl⟩
        rw [← hu] at HLo
        have hu' : w6.heap.size ≤ u := by omega
        rw [← HN.out] at HLo ⊢
        have HU := hid hu
        clear ho6 hb6 HA0 hu
        go_wp2_with fail
        refine HLo.out.mono ?_
        rintro e w7 ⟨rfl, hl7, hb7⟩
        have hb7' : Below w6.heap.size w6 w7 := by rw [← HU.out]; exact hb7
        have HLu7 := hid hl7
        have HB7 : Hid (Below b w w7) := HB6.out.trans (hb7'.mono hbl6)
        have hbl7 : b ≤ w7.heap.size := Nat.le_trans hbl6 hb7'.size
        have HRk7 := hid (blk_below HRk6.out hb7')
        have HRr7 := hid (HRr6.out.below hb7')
        have HL2 := hid (load_bad (cap := cap1) HG.out hXX (HGX.out.below (by rw [← HB.out]; exact HB7.out)) HMX.out)
        obtain ⟨z, hz⟩ : ∃ z, z = w7.heap.size := ⟨_, rfl⟩
        have HZ := hid hz
        rw [← hz] at HL2
        rw [← HM1.out] at HL2
        clear hl7 hb7 hb7' HLo hz
        go_wp2_with fail
        refine HL2.out.mono ?_
        rintro e w8 ⟨rfl, hb8⟩
        have hb8' : Below w7.heap.size w7 w8 := by rw [← HZ.out]; exact hb8
        have HLu8 := hid (HLu7.out.below hb8')
        have HB8 : Hid (Below b w w8) := HB7.out.trans (hb8'.mono hbl7)
        have hbl8 : b ≤ w8.heap.size := Nat.le_trans hbl7 hb8'.size
        have HRk8 := hid (blk_below HRk7.out hb8')
        have HRr8 := hid (HRr7.out.below hb8')
        clear hb8 hb8' HL2
        go_upto_region 12 with fail
        have HS : Hid ((fun W : World => W.heap[r]? = some (.cells #[.slice aoR N capR] 29)) w8.drew) := HRk8.out
        have HLd : Hid (Lb w8.drew u u L) := by obtain ⟨v, h1, h2, h3⟩ := HLu8.out; exact ⟨v, h1, h2, own_keep h3 (fun _ _ h => h)⟩
        have HRd8 : Hid (Rd3 w8.drew aoR L) := HRr8.out
        have HA := hid (all_ok w8.drew u (pq u) L HLd.out.lv hll)
        refine wp_region_noPanic ?_
        refine wp_region_last (fun W : World => W.heap[r]? = some (.cells #[.slice aoR N capR] 29)) 16 (by kernel_rfl) ?_
        refine wpL_take 0 55 (i64 0) [1, 2, 6] rfl rfl (by kernel_rfl) (by decide) (by kernel_rfl) (by kernel_rfl) (by kernel_rfl) (fun _ _ _ h => h) HS.out (by rfl) (fun W hW => by go_simp) ?_
        simp only [Act.put, List.setIfInBounds_toArray, List.set_cons_zero, List.set_cons_succ]
        refine wpL_take 1 56 (.bool false) [2, 6] rfl rfl (by kernel_rfl) (by decide) (by kernel_rfl) (by kernel_rfl) (by kernel_rfl) (fun _ _ _ h => h) HS.out (by rfl) (fun W hW => by go_simp) ?_
        simp only [Act.put, List.setIfInBounds_toArray, List.set_cons_zero, List.set_cons_succ]
        refine wpL_take 2 57 (.bool false) [6] rfl rfl (by kernel_rfl) (by decide) (by kernel_rfl) (by kernel_rfl) (by kernel_rfl) (fun _ _ _ h => h) HS.out (by rfl) (fun W hW => by go_simp) ?_
        simp only [Act.put, List.setIfInBounds_toArray, List.set_cons_zero, List.set_cons_succ]
        refine wpL_take 3 58 (pq u) [4, 5, 6] rfl rfl (by kernel_rfl) (by decide) (by kernel_rfl) (by kernel_rfl) (by kernel_rfl) (fun _ _ _ h => h) HS.out (by rfl) (fun W hW => by go_simp) ?_
        simp only [Act.put, List.setIfInBounds_toArray, List.set_cons_zero, List.set_cons_succ]
        refine wpL_take 4 59 (.bool false) [5, 6] rfl rfl (by kernel_rfl) (by decide) (by kernel_rfl) (by kernel_rfl) (by kernel_rfl) (fun _ _ _ h => h) HS.out (by rfl) (fun W hW => by go_simp) ?_
        simp only [Act.put, List.setIfInBounds_toArray, List.set_cons_zero, List.set_cons_succ]
        refine wpL_take 5 60 (.bool false) [6] rfl rfl (by kernel_rfl) (by decide) (by kernel_rfl) (by kernel_rfl) (by kernel_rfl) (fun _ _ _ h => h) HS.out (by rfl) (fun W hW => by go_simp) ?_
        simp only [Act.put, List.setIfInBounds_toArray, List.set_cons_zero, List.set_cons_succ]
        refine wpL_take 6 61 (.bool false) [] rfl rfl (by kernel_rfl) (by decide) (by kernel_rfl) (by kernel_rfl) (by kernel_rfl) (fun _ _ _ h => h) HS.out (by rfl) (fun W hW => by go_simp) ?_
        simp only [Act.put, List.setIfInBounds_toArray, List.set_cons_zero, List.set_cons_succ]
        refine wpL_take 7 62 (pq u) [8, 9, 14, 15] rfl rfl (by kernel_rfl) (by decide) (by kernel_rfl) (by kernel_rfl) (by kernel_rfl) (fun _ _ _ h => h) HS.out (by rfl) (fun W hW => by go_simp) ?_
        simp only [Act.put, List.setIfInBounds_toArray, List.set_cons_zero, List.set_cons_succ]
        refine wpL_take 10 65 (pq r) [11, 12, 13, 14, 15] rfl rfl (by kernel_rfl) (by decide) (by kernel_rfl) (by kernel_rfl) (by kernel_rfl) (fun _ _ _ h => h) HS.out (by rfl) (fun W hW => by go_simp) ?_
        simp only [Act.put, List.setIfInBounds_toArray, List.set_cons_zero, List.set_cons_succ]
        refine wpL_take 11 66 (pq r) [12, 13, 14, 15] rfl rfl (by kernel_rfl) (by decide) (by kernel_rfl) (by kernel_rfl) (by kernel_rfl) (fun _ _ _ h => h) HS.out (by rfl) (fun W hW => by go_simp) ?_
        simp only [Act.put, List.setIfInBounds_toArray, List.set_cons_zero, List.set_cons_succ]
        refine wpL_take 12 67 (pq r) [13, 14, 15] rfl rfl (by kernel_rfl) (by decide) (by kernel_rfl) (by kernel_rfl) (by kernel_rfl) (fun _ _ _ h => h) HS.out (by rfl) (fun W hW => by go_simp) ?_
        simp only [Act.put, List.setIfInBounds_toArray, List.set_cons_zero, List.set_cons_succ]
        refine wpL_take 13 68 (.slice aoR N capR) [14, 15] rfl rfl (by kernel_rfl) (by decide) (by kernel_rfl) (by kernel_rfl) (by kernel_rfl) (fun _ _ _ h => h) HS.out (by rfl) (fun W hW => by have r0 := blk_cell hW 0; simp only [List.getElem?_toArray, List.getElem?_cons_zero] at r0; go_simp) ?_
        simp only [Act.put, List.setIfInBounds_toArray, List.set_cons_zero, List.set_cons_succ]
        refine wpL_one 8 rfl (by kernel_rfl) (by rfl) (fun K hK => ?_)
        go_simp
        refine HA.out.mono ?_
        rintro e w9 ⟨⟨ao9, cap9, rfl, ho9⟩, hb9⟩
        have HB9 : Hid (Below b w w9) := HB8.out.drew.trans (hb9.mono (by exact hbl8))
        have HRr9 := hid (HRd8.out.below hb9)
        have HS9 : Hid ((fun W : World => W.heap[r]? = some (.cells #[.slice aoR N capR] 29)) w9) := blk_below HS.out hb9
        have HBc9 : Hid (Below w8.heap.size w8 w9) := ⟨hb9.os, hb9.tape, hb9.output, hb9.size, hb9.block⟩
        have hbl9 : b ≤ w9.heap.size := Nat.le_trans hbl8 hb9.size
        have HRf := hid (refs_ok w9 ao9 cap9 L hll (Rd3.own ho9))
        rw [← HN.out] at HRf ⊢
        clear ho9 hb9 HA
        go_simp
        refine hK.out _ _ (fun _ => HS9.out) ?_
        clear hK K
        refine wpL_one 9 rfl (by kernel_rfl) (by rfl) (fun K hK => ?_)
        go_simp
        refine HRf.out.mono ?_
        rintro e w10 ⟨⟨ao10, cap10, rfl, ho10⟩, hb10⟩
        have HB10 : Hid (Below b w w10) := HB9.out.trans (hb10.mono hbl9)
        have HRr10 := hid (HRr9.out.below hb10)
        have HS10 : Hid ((fun W : World => W.heap[r]? = some (.cells #[.slice aoR N capR] 29)) w10) := blk_below HS9.out hb10
        have HBc10 : Hid (Below w8.heap.size w8 w10) := HBc9.out.trans (hb10.mono HBc9.out.size)
        have hbl10 : b ≤ w10.heap.size := Nat.le_trans hbl9 hb10.size
        have HSm := hid (same_ok w10 ao10 aoR cap10 capR L hll (Rd3.own ho10) HRr10.out)
        rw [← HN.out] at HSm ⊢
        clear ho10 hb10 HRf
        go_simp
        refine hK.out _ _ (fun _ => HS10.out) ?_
        clear hK K
        refine wpL_one 14 rfl (by kernel_rfl) (by rfl) (fun K hK => ?_)
        go_simp
        refine HSm.out.mono ?_
        rintro e w11 ⟨rfl, hb11⟩
        have HB11 : Hid (Below b w w11) := HB10.out.trans (hb11.mono hbl10)
        have HS11 : Hid ((fun W : World => W.heap[r]? = some (.cells #[.slice aoR N capR] 29)) w11) := blk_below HS10.out hb11
        have HBc11 : Hid (Below w8.heap.size w8 w11) := HBc10.out.trans (hb11.mono HBc10.out.size)
        have hbl11 : b ≤ w11.heap.size := Nat.le_trans hbl10 hb11.size
        clear hb11 HSm
        go_simp
        refine hK.out _ _ (fun _ => HS11.out) ?_
        clear hK K
        refine wpL_take 15 70 (.bool false) [] rfl rfl (by kernel_rfl) (by decide) (by kernel_rfl) (by kernel_rfl) (by kernel_rfl) (fun _ _ _ h => h) HS11.out (by rfl) (fun W hW => by go_simp) ?_
        simp only [Act.put, List.setIfInBounds_toArray, List.set_cons_zero, List.set_cons_succ]
        refine wpL_one 16 rfl (by kernel_rfl) (by rfl) (fun K hK => ?_)
        go_simp
        refine hK.out _ _ (fun h => absurd rfl h) ?_
        clear hK K
        refine wpL_done (by kernel_rfl) ?_
        refine NoPanic.normal ?_
        have HRX := hid (refs_ok w11 a1 cap1 X hXX (HGX.out.below (by rw [← HB.out]; exact HB11.out)))
        rw [← HM1.out] at HRX
        go_wp2_with fail
        refine HRX.out.mono ?_
        rintro e w12 ⟨⟨ao12, cap12, rfl, ho12⟩, hb12⟩
        have HB12 : Hid (Below b w w12) := HB11.out.trans (hb12.mono hbl11)
        have HBc12 : Hid (Below w8.heap.size w8 w12) := HBc11.out.trans (hb12.mono HBc11.out.size)
        have hbl12 : b ≤ w12.heap.size := Nat.le_trans hbl11 hb12.size
        have HRi := hid (right_b (cap := cap12) (B := false) (.inr ⟨HG.out, rfl⟩) hXX (Rd3.own ho12))
        rw [← HM1.out] at HRi ⊢
        clear ho12 hb12 HRX
        go_wp2_with fail
        refine HRi.out.mono ?_
        rintro e w13 ⟨rfl, hb13⟩
        have HB13 : Hid (Below b w w13) := HB12.out.trans (hb13.mono hbl12)
        have HBc13 : Hid (Below w8.heap.size w8 w13) := HBc12.out.trans (hb13.mono HBc12.out.size)
        have hbl13 : b ≤ w13.heap.size := Nat.le_trans hbl12 hb13.size
        clear hb13 HRi
        go_wp2_with fail
        refine (three_ok w13).mono ?_
        rintro e w14 ⟨rfl, hbz⟩
        have HBz : Hid (Below b w w14) := HB13.out.trans (hbz.mono hbl13)
        clear hbz
        go_wp2_with fail
        go_ret
        exact ⟨rfl, HBz.out⟩
end Go.Proofs.Ytmebkpdijamdgaa
