/- PipesLoad's walk; no statement is proved in this text. -/
import Derived.Test.YtojhmiggocommaaRg
namespace Go.Proofs.Ytojhmiggocommaa
open Go.ChangeShapes Go.WideShapes Go.ChangeAt Go.RowKit Go.Deep
attribute [local go_sem ↓] Go.wp_at_zero Go.wp_at_succ

theorem infos_list {w : World} {ao : Option Addr} {len : Nat} {f : Nat → In} (h : ISl2 w ao len f) : ∃ Y : List In, Y.length = len ∧ Rd3 w ao Y := by
  refine ⟨(List.range len).map f, by simp, fun i p hp => ?_⟩
  have hi : i < len := by
    have := (List.getElem?_eq_some_iff.1 hp).1
    simpa using this
  rw [List.getElem?_map, List.getElem?_range hi] at hp
  simp only [Option.map_some, Option.some.injEq] at hp
  obtain ⟨b, off, h1, h2, h3⟩ := h.at hi
  subst hp
  exact ⟨b, off, h1, h2, h3 0 _ rfl, h3 1 _ rfl⟩
set_option maxRecDepth 100000 in
set_option maxHeartbeats 25600000 in
theorem load_any (w : World) (ao : Option Addr) (len cap : Nat) (f : Nat → Sp) (hlen : len ≤ maxLen) (hS : SSl w ao len f) (a1 : Option Addr) (len1 cap1 : Nat) (gg : Nat → In) (hlen1 : len1 ≤ maxLen) (hG : ISl2 w a1 len1 gg) : Calls Try.prog 5 #[.slice ao len cap, .slice a1 len1 cap1] w fun e w' => e = .returned (.bool true) ∧ Below w.heap.size w w' := by
  have hm1 : (len1 : Int) ≤ 9223372036854775807 := by unfold maxLen at hlen1; omega
  clear hlen1
  have hm : (len : Int) ≤ 9223372036854775807 := by unfold maxLen at hlen; omega
  have HSb := hid hS
  have HLn := hid hlen
  have HNw := hid (new_ok w)
  obtain ⟨b, hb⟩ : ∃ b, b = w.heap.size := ⟨_, rfl⟩
  have HB := hid hb
  rw [← hb] at HNw ⊢
  clear hS hlen hb
  go_enter Try.func5, Try.ntmps5
  go_wp2_with fail
  refine HNw.out.mono ?_
  rintro e w1 ⟨rfl, hp1, hb1⟩
  have HP1 := hid hp1
  have HB1 : Hid (Below b w w1) := hb1
  clear hp1 hb1 HNw
  have HL := hid (long_ok w1 ao len cap f HLn.out (HSb.out.below (by rw [← HB.out]; exact HB1.out)))
  go_wp2_with fail
  refine HL.out.mono ?_
  rintro e w2 ⟨bl, rfl, hbl, hb2⟩
  have HB2 : Hid (Below b w w2) := HB1.out.trans (hb2.mono (by have := HP1.out.lt; omega))
  have HP2 : Hid (PS w2 b b noSt) := HP1.out.below hb2
  have HBL : Hid (bl = false → len ≤ 61 ∧ ∀ i, i < len → (f i).s.size ≤ 100) := hbl
  clear hbl hb2 HL HP1 HB1
  cases bl with
  | true =>
    clear HBL
    go_wp2_with fail
    refine (abc_ok w2).mono ?_
    rintro e w3 ⟨rfl, hb3⟩
    have HB3 : Hid (Below b w w3) := HB2.out.trans (hb3.mono (by have := HP2.out.lt; omega))
    clear hb3
    go_wp2_with fail
    go_ret
    exact ⟨rfl, HB3.out⟩
  | false =>
    obtain ⟨h61, h100⟩ := HBL.out rfl
    have H100 := hid h100
    clear HBL h100
    obtain ⟨Y, hYl, hRY⟩ := infos_list hG
    by_cases hl1 : 20 < len1
    · have hl2 : (20 : Int) < len1 := by omega
      clear hYl hRY hG hl1
      go_wp2_with fail
      refine (abc_ok w2).mono ?_
      rintro e w3 ⟨rfl, hb3⟩
      have HB3 : Hid (Below b w w3) := HB2.out.trans (hb3.mono (by have := HP2.out.lt; omega))
      clear hb3
      go_wp2_with fail
      go_ret
      exact ⟨rfl, HB3.out⟩
    · have hz30 := zero30 w2
      clear hG
      have HOth : Hid (Rd3 w a1 Y) := hid hRY
      have HYL := hid hYl
      have hl20 : (len1 : Int) ≤ 20 := by omega
      clear hRY hYl
      go_wp2_with fail
      have HW3 : Hid (Bo (w2.alloc (.cells #[.slice none 0 0] 30)) b b w2.heap.size noSt) := ⟨HP2.out.below (below_one w2 _), rb_new w2 b (by have := HP2.out.lt; omega)⟩
      have HB3 : Hid (Below b w (w2.alloc (.cells #[.slice none 0 0] 30))) := HB2.out.trans ((below_one w2 _).mono (by have := HP2.out.lt; omega))
      clear hz30
      obtain ⟨r, hr⟩ : ∃ r, r = w2.heap.size := ⟨_, rfl⟩
      rw [← hr] at HW3 ⊢
      generalize w2.alloc (.cells #[.slice none 0 0] 30) = w3 at *
      clear hr
      go_loopw [37] (fun u wr => ∃ (k : Nat) (S : St), k ≤ len ∧ u = i64 k ∧ Hid (Bo wr b b r S) ∧ Hid (Below b w wr)) (fun u _ => len - (intOf u).toNat)
      case atStart => exact ⟨0, noSt, by omega, rfl, HW3, HB3⟩
      case round =>
        obtain ⟨k, S, hk, rfl, HBo, HBw⟩ := hrel
        by_cases hlt : k < len
        · have hkI : (k : Int) < len := by omega
          obtain ⟨B, off, hao, hb, hr⟩ := (HSb.out.below (by rw [← HB.out]; exact HBw.out)).at hlt
          subst hao
          obtain ⟨x, hx⟩ : ∃ x, x = f k := ⟨_, rfl⟩
          rw [← hx] at hr
          have HSZ : Hid (x.s.size ≤ 100) := by rw [hx]; exact H100.out k hlt
          have c0 : wr.cell? ⟨B, off + k * 4, none⟩ = some (i64 x.what) := hr 0 _ rfl
          have c1 : wr.cell? ⟨B, off + k * 4 + 1, none⟩ = some (i64 x.id) := hr 1 _ rfl
          have c2 : wr.cell? ⟨B, off + k * 4 + 2, none⟩ = some (i64 x.n) := hr 2 _ rfl
          have c3 : wr.cell? ⟨B, off + k * 4 + 3, none⟩ = some (.string x.s) := hr 3 _ rfl
          have HBV : Hid (Below b w (wr.alloc (.cells #[i64 x.what, i64 x.id, i64 x.n, .string x.s] 32))) := HBw.out.trans ((below_one wr _).mono HBo.out.lob)
          have HBoV : Hid (Bo (wr.alloc (.cells #[i64 x.what, i64 x.id, i64 x.n, .string x.s] 32)) b b r S) := HBo.out.below (below_one wr _)
          have HX : Hid ((wr.alloc (.cells #[i64 x.what, i64 x.id, i64 x.n, .string x.s] 32)).heap[wr.heap.size]? = some (.cells #[i64 x.what, i64 x.id, i64 x.n, .string x.s] 32)) := heap_last wr _
          clear hx hr hb
          have HD := hid (does_ok (wr.alloc (.cells #[i64 x.what, i64 x.id, i64 x.n, .string x.s] 32)) b b r S x HBoV.out HSZ.out)
          generalize stp S x = S2 at *
          go_upto_region 8 with fail
          obtain ⟨X, hX⟩ : ∃ X, X = wr.heap.size := ⟨_, rfl⟩
          rw [← hX] at HX ⊢
          clear hX
          generalize wr.alloc (.cells #[i64 x.what, i64 x.id, i64 x.n, .string x.s] 32) = V at *
          have g0 : V.cell? ⟨X, 0, none⟩ = some (i64 x.what) := blk_cell HX.out 0
          have g1 : V.cell? ⟨X, 1, none⟩ = some (i64 x.id) := blk_cell HX.out 1
          have g2 : V.cell? ⟨X, 2, none⟩ = some (i64 x.n) := blk_cell HX.out 2
          have g3 : V.cell? ⟨X, 3, none⟩ = some (.string x.s) := blk_cell HX.out 3
          go_wp2_with fail
          refine HD.out.mono ?_
          rintro e w5 ⟨rfl, hbo5, hf5⟩
          have HBo5 := hid hbo5
          have HB5 : Hid (Below b w w5) := HBV.out.trans hf5.below
          clear hbo5 hf5
          go_wp2_with fail
          exact ⟨⟨k + 1, S2, by omega, by go_num, HBo5, HB5⟩, by simp [intOf]; omega⟩
        · have HLst := hid (list_ok wr b b S HBo.out.ps)
          have hlob := HBo.out.lob
          go_wp2_with fail
          refine HLst.out.mono ?_
          rintro e w4 ⟨a4, c4, rfl, ho4, hb4⟩
          have HB4 : Hid (Below b w w4) := HBw.out.trans (hb4.mono hlob)
          have HBo4 : Hid (Bo w4 b b r S) := HBo.out.below hb4
          have HLd := hid (load_ok w4 a4 c4 (lst S) (by have := lst_len S; omega) (Rd2.own ho4).rd3)
          clear ho4 hb4
          obtain ⟨T0, hT0, hTl⟩ := load_lst S HBo4.out.le
          rw [hT0] at HLd
          go_wp2_with fail
          refine HLd.out.mono ?_
          rintro e w5 (⟨h, _⟩ | ⟨T1, hT1, rfl, hp5, hb5⟩)
          · cases h
          cases hT1
          obtain ⟨b2, hb2⟩ : ∃ b2, b2 = w4.heap.size := ⟨_, rfl⟩
          rw [← hb2] at hp5 hb5 ⊢
          have HP5 := hid hp5
          have HB5 : Hid (Below b w w5) := HB4.out.trans (hb5.mono (by rw [hb2]; exact HBo4.out.lob))
          have HBo5 : Hid (Bo w5 b b r S) := HBo4.out.below (by rw [← hb2]; exact hb5)
          have HTl := hid hTl
          clear hp5 hb5 hT0 hTl hb2 hlob
          obtain ⟨ao5, cap5, hbk5, hown5, _, _⟩ := HBo5.out.rb.row
          have HC5 : Hid (w5.drew.cell? ⟨r, 0, none⟩ = some (.slice ao5 (lst S).length cap5)) := blk_cell (w := w5) hbk5 0
          have HRd5 : Hid (Rd2 w5 ao5 (lst S)) := Rd2.own hown5
          have HL5 := hid (list_ok w5.drew b2 b2 T0 (HP5.out.below ⟨rfl, rfl, rfl, Nat.le_refl _, fun _ _ => rfl⟩))
          rw [HTl.out] at HL5
          clear hbk5 hown5
          go_upto_region 11 with fail
          obtain ⟨N5, hN5⟩ : ∃ N5, N5 = (lst S).length := ⟨_, rfl⟩
          rw [← hN5] at HC5 HL5
          have HN5 := hid hN5
          clear hN5
          have HS := HC5
          refine wp_region_noPanic ?_
          refine wp_region_last (fun W => W.cell? ⟨r, 0, none⟩ = some (.slice ao5 N5 cap5)) 15 (by kernel_rfl) ?_
          refine wpL_take 0 52 (i64 0) [1, 2, 6] rfl rfl (by kernel_rfl) (by decide) (by kernel_rfl) (by kernel_rfl) (by kernel_rfl) (fun _ _ _ h => h) HS.out (by rfl) (fun W hW => by go_simp) ?_
          simp only [Act.put, List.setIfInBounds_toArray, List.set_cons_zero, List.set_cons_succ]
          refine wpL_take 1 53 (.bool false) [2, 6] rfl rfl (by kernel_rfl) (by decide) (by kernel_rfl) (by kernel_rfl) (by kernel_rfl) (fun _ _ _ h => h) HS.out (by rfl) (fun W hW => by go_simp) ?_
          simp only [Act.put, List.setIfInBounds_toArray, List.set_cons_zero, List.set_cons_succ]
          refine wpL_take 2 54 (.bool false) [6] rfl rfl (by kernel_rfl) (by decide) (by kernel_rfl) (by kernel_rfl) (by kernel_rfl) (fun _ _ _ h => h) HS.out (by rfl) (fun W hW => by go_simp) ?_
          simp only [Act.put, List.setIfInBounds_toArray, List.set_cons_zero, List.set_cons_succ]
          refine wpL_take 3 55 (pq b2) [4, 5, 6] rfl rfl (by kernel_rfl) (by decide) (by kernel_rfl) (by kernel_rfl) (by kernel_rfl) (fun _ _ _ h => h) HS.out (by rfl) (fun W hW => by go_simp) ?_
          simp only [Act.put, List.setIfInBounds_toArray, List.set_cons_zero, List.set_cons_succ]
          refine wpL_take 4 56 (.bool false) [5, 6] rfl rfl (by kernel_rfl) (by decide) (by kernel_rfl) (by kernel_rfl) (by kernel_rfl) (fun _ _ _ h => h) HS.out (by rfl) (fun W hW => by go_simp) ?_
          simp only [Act.put, List.setIfInBounds_toArray, List.set_cons_zero, List.set_cons_succ]
          refine wpL_take 5 57 (.bool false) [6] rfl rfl (by kernel_rfl) (by decide) (by kernel_rfl) (by kernel_rfl) (by kernel_rfl) (fun _ _ _ h => h) HS.out (by rfl) (fun W hW => by go_simp) ?_
          simp only [Act.put, List.setIfInBounds_toArray, List.set_cons_zero, List.set_cons_succ]
          refine wpL_take 6 58 (.bool false) [] rfl rfl (by kernel_rfl) (by decide) (by kernel_rfl) (by kernel_rfl) (by kernel_rfl) (fun _ _ _ h => h) HS.out (by rfl) (fun W hW => by go_simp) ?_
          simp only [Act.put, List.setIfInBounds_toArray, List.set_cons_zero, List.set_cons_succ]
          refine wpL_take 7 59 (pq b2) [8, 13, 14] rfl rfl (by kernel_rfl) (by decide) (by kernel_rfl) (by kernel_rfl) (by kernel_rfl) (fun _ _ _ h => h) HS.out (by rfl) (fun W hW => by go_simp) ?_
          simp only [Act.put, List.setIfInBounds_toArray, List.set_cons_zero, List.set_cons_succ]
          refine wpL_take 9 61 (pq r) [10, 11, 12, 13, 14] rfl rfl (by kernel_rfl) (by decide) (by kernel_rfl) (by kernel_rfl) (by kernel_rfl) (fun _ _ _ h => h) HS.out (by rfl) (fun W hW => by go_simp) ?_
          simp only [Act.put, List.setIfInBounds_toArray, List.set_cons_zero, List.set_cons_succ]
          refine wpL_take 10 62 (pq r) [11, 12, 13, 14] rfl rfl (by kernel_rfl) (by decide) (by kernel_rfl) (by kernel_rfl) (by kernel_rfl) (fun _ _ _ h => h) HS.out (by rfl) (fun W hW => by go_simp) ?_
          simp only [Act.put, List.setIfInBounds_toArray, List.set_cons_zero, List.set_cons_succ]
          refine wpL_take 11 63 (pq r) [12, 13, 14] rfl rfl (by kernel_rfl) (by decide) (by kernel_rfl) (by kernel_rfl) (by kernel_rfl) (fun _ _ _ h => h) HS.out (by rfl) (fun W hW => by go_simp) ?_
          simp only [Act.put, List.setIfInBounds_toArray, List.set_cons_zero, List.set_cons_succ]
          refine wpL_take 12 64 (.slice ao5 N5 cap5) [13, 14] rfl rfl (by kernel_rfl) (by decide) (by kernel_rfl) (by kernel_rfl) (by kernel_rfl) (fun _ _ _ h => h) HS.out (by rfl) (fun W hW => by have e := hW; go_simp) ?_
          simp only [Act.put, List.setIfInBounds_toArray, List.set_cons_zero, List.set_cons_succ]
          refine wpL_one 8 rfl (by kernel_rfl) (by rfl) (fun K hK => ?_)
          go_simp
          refine HL5.out.mono ?_
          rintro e w6 ⟨a6, c6, rfl, ho6, hb6⟩
          have hb6' : Below w5.heap.size w5 w6 := below_of_drew hb6
          have HB6 : Hid (Below b w w6) := HB5.out.trans (hb6'.mono HBo5.out.lob)
          have HBo6 : Hid (Bo w6 b b r S) := HBo5.out.below hb6'
          have HS6 : Hid (w6.cell? ⟨r, 0, none⟩ = some (.slice ao5 N5 cap5)) := by show _ = _; rw [hb6'.cell (by exact HBo5.out.rb.lt)]; exact HC5.out
          have HSame : Hid (Calls Try.prog 12 #[.slice a6 N5 c6, .slice ao5 N5 cap5] w6 fun e w' => e = .returned (.bool true) ∧ Below w6.heap.size w6 w') := by
            have := same_ok w6 a6 ao5 c6 cap5 (lst S) (by have := lst_len S; omega) (Rd2.own (by rw [← HN5.out]; exact ho6)) (HRd5.out.below hb6')
            rw [← HN5.out] at this
            exact this
          clear ho6 hb6 hb6'
          go_simp
          refine hK.out _ _ (fun _ => HS6.out) ?_
          clear hK K
          refine wpL_one 13 rfl (by kernel_rfl) (by rfl) (fun K hK => ?_)
          go_simp
          refine HSame.out.mono ?_
          rintro e w7 ⟨rfl, hb7⟩
          have HB7 : Hid (Below b w w7) := HB6.out.trans (hb7.mono HBo6.out.lob)
          have HLO7 : Hid (b ≤ w7.heap.size) := Nat.le_trans HBo6.out.lob hb7.size
          have HS9 : Hid (w7.cell? ⟨r, 0, none⟩ = some (.slice ao5 N5 cap5)) := by show _ = _; rw [hb7.cell (by exact HBo6.out.rb.lt)]; exact HS6.out
          clear hb7
          go_simp
          refine hK.out _ _ (fun _ => HS9.out) ?_
          clear hK K
          refine wpL_take 14 66 (.bool false) [] rfl rfl (by kernel_rfl) (by decide) (by kernel_rfl) (by kernel_rfl) (by kernel_rfl) (fun _ _ _ h => h) HS9.out (by rfl) (fun W hW => by go_simp) ?_
          simp only [Act.put, List.setIfInBounds_toArray, List.set_cons_zero, List.set_cons_succ]
          refine wpL_one 15 rfl (by kernel_rfl) (by rfl) (fun K hK => ?_)
          go_simp
          refine hK.out _ _ (fun h => absurd rfl h) ?_
          clear hK K
          refine wpL_done (by kernel_rfl) ?_
          refine NoPanic.normal ?_
          go_wp2_with fail
          clear HS9 HS6 HSame HRd5 HC5 HS HL5 HLst HLd
          go_loopw [11, 70] (fun c u wr => ∃ (k : Nat) (ao2 : Option Addr) (cap2 : Nat), k ≤ len1 ∧ u = i64 k ∧ c = .slice ao2 k cap2 ∧ Hid (wr.ownsRow w7.heap.size 47 2 (.slice ao2 k cap2) k (icn (Y.take k))) ∧ Hid (Below w7.heap.size w7 wr)) (fun _ u _ => len1 - (intOf u).toNat)
          case atStart => exact ⟨0, none, 0, by omega, rfl, rfl, World.ownsRow_nil _ _ 47 2, Below.refl _ _⟩
          case round =>
            obtain ⟨k2, ao2, cap2, hk2, rfl, rfl, HO, HBk⟩ := hrel
            have HBwk : Hid (Below b w wr) := HB7.out.trans (HBk.out.mono HLO7.out)
            have HLOk : Hid (b ≤ wr.heap.size) := Nat.le_trans HLO7.out HBk.out.size
            by_cases hlt2 : k2 < len1
            · obtain ⟨p, hp⟩ : ∃ p, Y[k2]? = some p := ⟨_, List.getElem?_eq_getElem (by rw [HYL.out]; exact hlt2)⟩
              obtain ⟨g, off, hg, hgl, c1, c2⟩ := (HOth.out.below (by rw [← HB.out]; exact HBwk.out)) k2 p hp
              subst hg
              have hkI2 : (k2 : Int) < len1 := by omega
              have HTk : Hid (Y.take (k2 + 1) = Y.take k2 ++ [p]) := by show _ = _; rw [List.take_add_one, hp]; rfl
              clear hp hgl
              by_cases h100 : 100 < p.2.length
              · have q1 : (100 : Int) < ((bs p.2).size : Int) := by rw [bs_size]; omega
                have HBV2 : Hid (Below b w (wr.alloc (.cells #[i64 p.1, str p.2] 46))) := HBwk.out.trans ((below_one wr _).mono HLOk.out)
                clear h100
                go_wp2_with fail
                refine (abc_ok _).mono ?_
                rintro e w9 ⟨rfl, hb9⟩
                have HB9 : Hid (Below b w w9) := HBV2.out.trans (hb9.mono (Nat.le_trans HLOk.out (by simp)))
                clear hb9
                go_wp2_with fail
                go_ret
                exact ⟨rfl, HB9.out⟩
              · have q1 : ¬ (100 : Int) < ((bs p.2).size : Int) := by rw [bs_size]; omega
                have hbA : Below w7.heap.size w7 (wr.alloc (.cells #[i64 p.1, str p.2] 46)) := HBk.out.alloc HBk.out.size _
                obtain ⟨ao3, cap3, w8, hrun, hown3, hfr3, _, _⟩ := app_far (te := 47) under28 info47x rfl (by omega) (by omega) (HO.out.alloc (.cells #[i64 p.1, str p.2] 46)) (inC p) rfl (inl_one p) (by omega) hbA.size
                have HRun : Hid ((Builtin.append_ #[28, 28] 28 #[.slice ao2 k2 cap2, .slice (some ⟨wr.heap.size + 1, 0, none⟩) 1 1]).run Try.prog ((wr.alloc (.cells #[i64 p.1, str p.2] 46)).alloc (.cells #[i64 p.1, str p.2] 47)) = .ok (.slice ao3 (k2 + 1) cap3) w8) := hid (by
                  have := hrun
                  rw [show (wr.alloc (.cells #[i64 p.1, str p.2] 46)).heap.size = wr.heap.size + 1 by simp] at this
                  exact this)
                have HE : Hid (w8.ownsRow w7.heap.size 47 2 (.slice ao3 (k2 + 1) cap3) (k2 + 1) (icn (Y.take (k2 + 1)))) := by rw [HTk.out, icn_app]; exact hown3
                have HB8 : Hid (Below w7.heap.size w7 w8) := hbA.trans hfr3.below
                clear h100 hrun hown3 hfr3 hbA
                go_wp2_with (at_builtin; refine wpList_app_run rfl (.tmp 79) (.tmp 85) 28 rfl _ _ rfl rfl 28 rfl _ _ HRun.out ?_)
                exact ⟨⟨k2 + 1, ao3, cap3, by omega, by go_num, rfl, HE, HB8⟩, by simp [intOf]; omega⟩
            · have HOF : Hid (wr.ownsRow w7.heap.size 47 2 (.slice ao2 Y.length cap2) Y.length (icn Y)) := by
                have := HO.out
                have e : k2 = Y.length := by rw [HYL.out]; omega
                rw [e, List.take_of_length_le (Nat.le_refl _)] at this
                exact this
              have HK2 : Hid (k2 = Y.length) := by show _ = _; rw [HYL.out]; omega
              have HLd2 : Hid (Calls Try.prog 17 #[.slice a1 len1 cap1] wr fun e w' => LdA wr wr.heap.size (loadF Y noSt) e w') := by
                have := load_ok wr a1 cap1 Y (by rw [HYL.out]; omega) (HOth.out.below (by rw [← HB.out]; exact HBwk.out))
                rw [HYL.out] at this
                exact this
              have hcap2 : Y.length ≤ cap2 := by
                rcases HOF.out.2 with ⟨_, h0⟩ | ⟨g, cap', cur, he, hbg, hgg, hc, _⟩
                · omega
                · simp only [Value.slice.injEq] at he
                  obtain ⟨_, _, rfl⟩ := he
                  exact hc
              have HRt : Hid (∀ W, Below wr.heap.size wr W → Calls Try.prog 18 #[.slice ao2 k2 cap2] W fun e w' => e = .returned (.bool (loadF Y noSt).isSome) ∧ Below W.heap.size W w') := fun W hW => by
                have := right_ok W ao2 cap2 Y (by rw [HYL.out]; omega) hcap2 ((Rd2.own HOF.out).below hW)
                rw [← HK2.out, ← load_right Y [] noSt (fun y hy => by cases hy) (fun j _ => ⟨fun _ y hy => (by cases hy), fun _ => rfl⟩)] at this
                exact this
              have HCt : Hid (∀ T1, loadF Y noSt = some T1 → (lst T1).length = len1) := fun T1 hT => by
                have := load_count Y noSt T1 hT
                rw [this, HYL.out]
                show 0 + len1 = len1
                omega
              clear hcap2 HOF HO HOth HYL
              go_wp2_with fail
              refine HLd2.out.mono ?_
              rintro e w8 (⟨hN, rfl, hb8⟩ | ⟨T1, hT1, rfl, hp8, hb8⟩)
              · have HR8 := hid (HRt.out w8 hb8)
                rw [hN] at HR8
                have HB8 : Hid (Below b w w8) := HBwk.out.trans (hb8.mono HLOk.out)
                have HLO8 : Hid (b ≤ w8.heap.size) := Nat.le_trans HLOk.out hb8.size
                clear hN hb8 HRt HLd2 HCt
                go_wp2_with fail
                refine HR8.out.mono ?_
                rintro e w9 ⟨rfl, hb9⟩
                have HB9 : Hid (Below b w w9) := HB8.out.trans (hb9.mono HLO8.out)
                have HLO9 : Hid (b ≤ w9.heap.size) := Nat.le_trans HLO8.out hb9.size
                clear hb9
                rw [show (none : Option St).isSome = false from rfl]
                go_wp2_with fail
                refine (abc_ok w9).mono ?_
                rintro e w10 ⟨rfl, hb10⟩
                have HB10 : Hid (Below b w w10) := HB9.out.trans (hb10.mono HLO9.out)
                clear hb10
                go_wp2_with fail
                go_ret
                exact ⟨rfl, HB10.out⟩
              · have HR8 := hid (HRt.out w8 hb8)
                have hct := HCt.out T1 hT1
                rw [hT1] at HR8
                have HB8 : Hid (Below b w w8) := HBwk.out.trans (hb8.mono HLOk.out)
                have HLO8 : Hid (b ≤ w8.heap.size) := Nat.le_trans HLOk.out hb8.size
                obtain ⟨b3, hb3⟩ : ∃ b3, b3 = wr.heap.size := ⟨_, rfl⟩
                rw [← hb3] at hp8 ⊢
                have HP8 := hid hp8
                have HCT := hid hct
                clear hT1 hb8 HRt HLd2 HCt hp8 hct hb3
                go_wp2_with fail
                refine HR8.out.mono ?_
                rintro e w9 ⟨rfl, hb9⟩
                have HB9 : Hid (Below b w w9) := HB8.out.trans (hb9.mono HLO8.out)
                have HLO9 : Hid (b ≤ w9.heap.size) := Nat.le_trans HLO8.out hb9.size
                have HL9 := hid (list_ok w9 b3 b3 T1 (HP8.out.below hb9))
                rw [HCT.out] at HL9
                clear hb9
                rw [show (some T1 : Option St).isSome = true from rfl]
                go_wp2_with fail
                refine HL9.out.mono ?_
                rintro e w10 ⟨a10, c10, rfl, _, hb10⟩
                have HB10 : Hid (Below b w w10) := HB9.out.trans (hb10.mono HLO9.out)
                have HLO10 : Hid (b ≤ w10.heap.size) := Nat.le_trans HLO9.out hb10.size
                clear hb10
                go_wp2_with fail
                refine (abc_ok w10).mono ?_
                rintro e w11 ⟨rfl, hb11⟩
                have HB11 : Hid (Below b w w11) := HB10.out.trans (hb11.mono HLO10.out)
                clear hb11
                go_wp2_with fail
                go_ret
                exact ⟨rfl, HB11.out⟩
end Go.Proofs.Ytojhmiggocommaa
