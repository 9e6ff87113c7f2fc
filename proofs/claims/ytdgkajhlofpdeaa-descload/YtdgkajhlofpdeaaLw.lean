/- DescLoad's walk; no statement is proved in this text. -/
import Derived.Test.YtdgkajhlofpdeaaLb
namespace Go.Proofs.Ytdgkajhlofpdeaa
open Go.ChangeShapes Go.WideShapes Go.ChangeAt Go.RowKit Go.Deep
attribute [local go_sem ↓] Go.wp_at_zero Go.wp_at_succ


/-- What the law knows of the others, so far. -/
def LdI (w : World) (b r : Nat) (X : List En) (k : Nat) (R : Bool) : Prop := (R = true ∧ ∃ S, Rb w b r (lst S) ∧ Rgt S ∧ ldF noSt X = ldF S (X.drop k)) ∨ (R = false ∧ ldF noSt X = none)
set_option maxRecDepth 100000 in
set_option maxHeartbeats 12800000 in
theorem load_any (w : World) (ao : Option Addr) (len cap : Nat) (f : Nat → Sp) (hlen : len ≤ maxLen) (hS : SSl w ao len f) (a1 : Option Addr) (len1 cap1 : Nat) (X : List En) (hX : X.length = len1) (hlen1 : len1 ≤ maxLen) (hG : Rd5 w a1 X) : Calls Try.prog 7 #[.slice ao len cap, .slice a1 len1 cap1] w fun e w' => e = .returned (.bool true) ∧ Below w.heap.size w w' := by
  have hm1 : (len1 : Int) ≤ 9223372036854775807 := by unfold maxLen at hlen1; omega
  have HXr := hid hG
  have HXl := hid hX
  clear hG hX hlen1
  have hm : (len : Int) ≤ 9223372036854775807 := by unfold maxLen at hlen; omega
  have HSb := hid hS
  have HNw := hid (new_ok w)
  obtain ⟨b, hb⟩ : ∃ b, b = w.heap.size := ⟨_, rfl⟩
  have HB := hid hb
  rw [← hb] at HNw ⊢
  clear hS hlen hb
  by_cases h60 : 60 < len
  · have h60' : (60 : Int) < len := by omega
    go_enter Try.func7, Try.ntmps7
    go_wp2_with fail
    refine HNw.out.mono ?_
    rintro e w1 ⟨rfl, ht1, hb1⟩
    have HB1 : Hid (Below b w w1) := hb1
    have hlo1 : b ≤ w1.heap.size := Nat.le_of_lt ht1.lt
    clear ht1 hb1 HNw
    go_wp2_with fail
    refine (five_ok w1).mono ?_
    rintro e w2 ⟨rfl, hb2⟩
    have HB2 : Hid (Below b w w2) := HB1.out.trans (hb2.mono hlo1)
    clear hb2
    go_wp2_with fail
    go_ret
    exact ⟨rfl, HB2.out⟩
  have h60' : ¬ (60 : Int) < len := by omega
  by_cases h60b : 60 < len1
  · have h60b' : (60 : Int) < len1 := by omega
    go_enter Try.func7, Try.ntmps7
    go_wp2_with fail
    refine HNw.out.mono ?_
    rintro e w1 ⟨rfl, ht1, hb1⟩
    have HB1 : Hid (Below b w w1) := hb1
    have hlo1 : b ≤ w1.heap.size := Nat.le_of_lt ht1.lt
    clear ht1 hb1 HNw
    go_wp2_with fail
    refine (five_ok w1).mono ?_
    rintro e w2 ⟨rfl, hb2⟩
    have HB2 : Hid (Below b w w2) := HB1.out.trans (hb2.mono hlo1)
    clear hb2
    go_wp2_with fail
    go_ret
    exact ⟨rfl, HB2.out⟩
  have h60b' : ¬ (60 : Int) < len1 := by omega
  go_enter Try.func7, Try.ntmps7
  go_wp2_with fail
  refine HNw.out.mono ?_
  rintro e w1 ⟨rfl, ht1, hb1⟩
  have HT1 := hid ht1
  have HB1 : Hid (Below b w w1) := hb1
  clear ht1 hb1 HNw
  have hz29 := zero29
  go_wp2_with fail
  have hlo1 : b ≤ w1.heap.size := Nat.le_of_lt HT1.out.lt
  have HW3 : Hid (Bo (w1.alloc (.cells #[.slice none 0 0] 29)) b b w1.heap.size noSt) := ⟨HT1.out.below (below_one w1 _), rb_new w1 b hlo1, ins_no⟩
  have HB3 : Hid (Below b w (w1.alloc (.cells #[.slice none 0 0] 29))) := HB1.out.trans ((below_one w1 _).mono hlo1)
  clear hz29
  obtain ⟨r, hr⟩ : ∃ r, r = w1.heap.size := ⟨_, rfl⟩
  rw [← hr] at HW3 ⊢
  generalize w1.alloc (.cells #[.slice none 0 0] 29) = w3 at *
  clear hr hlo1 HT1 HB1
  go_loopw [39] (fun u wr => ∃ (k : Nat) (S : St), k ≤ len ∧ u = i64 k ∧ Hid (Bo wr b b r S) ∧ Hid (Rgt S) ∧ Hid (Below b w wr)) (fun u _ => len - (intOf u).toNat)
  case atStart => exact ⟨0, noSt, by omega, rfl, HW3, rgt_no, HB3⟩
  case round =>
    obtain ⟨k, S, hk, rfl, HBo, HRt, HBw⟩ := hrel
    by_cases hlt : k < len
    · have hkI : (k : Int) < len := by omega
      obtain ⟨B, off, hao, hb, hr⟩ := (HSb.out.below (by rw [← HB.out]; exact HBw.out)).at hlt
      subst hao
      obtain ⟨x, hx⟩ : ∃ x, x = f k := ⟨_, rfl⟩
      rw [← hx] at hr
      have c0 : wr.cell? ⟨B, off + k * 6, none⟩ = some (i64 x.what) := hr 0 _ rfl
      have c1 : wr.cell? ⟨B, off + k * 6 + 1, none⟩ = some (i64 x.pid) := hr 1 _ rfl
      have c2 : wr.cell? ⟨B, off + k * 6 + 2, none⟩ = some (i64 x.slot) := hr 2 _ rfl
      have c3 : wr.cell? ⟨B, off + k * 6 + 3, none⟩ = some (i64 x.kind) := hr 3 _ rfl
      have c4 : wr.cell? ⟨B, off + k * 6 + 4, none⟩ = some (i64 x.obj) := hr 4 _ rfl
      have c5 : wr.cell? ⟨B, off + k * 6 + 5, none⟩ = some (i64 x.n) := hr 5 _ rfl
      have HBV : Hid (Below b w (wr.alloc (spO x))) := HBw.out.trans ((below_one wr _).mono HBo.out.lob)
      have HBoV : Hid (Bo (wr.alloc (spO x)) b b r S) := HBo.out.below (below_one wr _)
      have HX : Hid ((wr.alloc (spO x)).heap[wr.heap.size]? = some (spO x)) := heap_last wr _
      clear hx hr hb
      have HD := hid (does_ok (wr.alloc (spO x)) b b r S x HBoV.out)
      have HRt2 := hid (HRt.out.stp x)
      generalize stp S x = S2 at *
      go_wp2_with fail
      refine HD.out.mono ?_
      rintro e w5 ⟨rfl, hbo5, hf5⟩
      have HBo5 := hid hbo5
      have HB5 : Hid (Below b w w5) := HBV.out.trans hf5.below
      clear hbo5 hf5
      go_wp2_with fail
      exact ⟨⟨k + 1, S2, by omega, by go_num, HBo5, HRt2, HB5⟩, by simp [intOf]; omega⟩
    · clear HW3 HB3
      have HLst := hid (list_ok wr b (pq b) S HBo.out.tb.tv)
      have hln := lst_len S
      have hloW := HBo.out.lob
      go_wp2_with fail
      refine HLst.out.mono ?_
      rintro e w5 ⟨a5, c5, rfl, ho5, hb5⟩
      have HBo5 : Hid (Bo w5 b b r S) := HBo.out.below hb5
      have HB5 : Hid (Below b w w5) := HBw.out.trans (hb5.mono hloW)
      have hlo5 : b ≤ w5.heap.size := Nat.le_trans hloW hb5.size
      have HLd := hid (load_ok w5 a5 c5 (lst S) (by omega) (Rd5.own ho5))
      rw [ldF_lst HRt.out] at HLd
      clear ho5 hb5 HLst
      go_wp2_with fail
      refine HLd.out.mono ?_
      rintro e w6 ⟨hL6, hb6⟩
      obtain ⟨P1, rfl, ht6⟩ := hL6
      have HBo6 : Hid (Bo w6 b b r S) := HBo5.out.below hb6
      have HB6 : Hid (Below b w w6) := HB5.out.trans (hb6.mono hlo5)
      have hlo6 : b ≤ w6.heap.size := Nat.le_trans hlo5 hb6.size
      have HLst := hid (list_ok w6.drew w5.heap.size (pq P1) S (ht6.below (w' := w6.drew) ⟨rfl, rfl, rfl, Nat.le_refl _, fun _ _ => rfl⟩).tv)
      obtain ⟨_, ao5, cap5, hbk, hown⟩ := HBo6.out.rb
      have HRd : Hid (Rd5 w6.drew ao5 (lst S)) := Rd5.own (w := w6.drew) hown
      have HS : Hid (w6.drew.cell? ⟨r, 0, none⟩ = some (.slice ao5 (lst S).length cap5)) := blk_cell hbk 0
      have hrl : r < w6.heap.size := HBo6.out.rb.lt
      clear hbk hown ht6 hb6 HLd
      go_upto_region 11 with fail
      refine wp_region_noPanic ?_
      refine wp_region_last (fun W => W.cell? ⟨r, 0, none⟩ = some (.slice ao5 (lst S).length cap5)) 15 (by kernel_rfl) ?_
      refine wpL_take 0 54 (i64 0) [1, 2, 6] rfl rfl (by kernel_rfl) (by decide) (by kernel_rfl) (by kernel_rfl) (by kernel_rfl) (fun _ _ _ h => h) HS.out (by rfl) (fun W hW => by go_simp) ?_
      simp only [Act.put, List.setIfInBounds_toArray, List.set_cons_zero, List.set_cons_succ]
      refine wpL_take 1 55 (.bool false) [2, 6] rfl rfl (by kernel_rfl) (by decide) (by kernel_rfl) (by kernel_rfl) (by kernel_rfl) (fun _ _ _ h => h) HS.out (by rfl) (fun W hW => by go_simp) ?_
      simp only [Act.put, List.setIfInBounds_toArray, List.set_cons_zero, List.set_cons_succ]
      refine wpL_take 2 56 (.bool false) [6] rfl rfl (by kernel_rfl) (by decide) (by kernel_rfl) (by kernel_rfl) (by kernel_rfl) (fun _ _ _ h => h) HS.out (by rfl) (fun W hW => by go_simp) ?_
      simp only [Act.put, List.setIfInBounds_toArray, List.set_cons_zero, List.set_cons_succ]
      refine wpL_take 3 57 (pq P1) [4, 5, 6] rfl rfl (by kernel_rfl) (by decide) (by kernel_rfl) (by kernel_rfl) (by kernel_rfl) (fun _ _ _ h => h) HS.out (by rfl) (fun W hW => by go_simp) ?_
      simp only [Act.put, List.setIfInBounds_toArray, List.set_cons_zero, List.set_cons_succ]
      refine wpL_take 4 58 (.bool false) [5, 6] rfl rfl (by kernel_rfl) (by decide) (by kernel_rfl) (by kernel_rfl) (by kernel_rfl) (fun _ _ _ h => h) HS.out (by rfl) (fun W hW => by go_simp) ?_
      simp only [Act.put, List.setIfInBounds_toArray, List.set_cons_zero, List.set_cons_succ]
      refine wpL_take 5 59 (.bool false) [6] rfl rfl (by kernel_rfl) (by decide) (by kernel_rfl) (by kernel_rfl) (by kernel_rfl) (fun _ _ _ h => h) HS.out (by rfl) (fun W hW => by go_simp) ?_
      simp only [Act.put, List.setIfInBounds_toArray, List.set_cons_zero, List.set_cons_succ]
      refine wpL_take 6 60 (.bool false) [] rfl rfl (by kernel_rfl) (by decide) (by kernel_rfl) (by kernel_rfl) (by kernel_rfl) (fun _ _ _ h => h) HS.out (by rfl) (fun W hW => by go_simp) ?_
      simp only [Act.put, List.setIfInBounds_toArray, List.set_cons_zero, List.set_cons_succ]
      refine wpL_take 7 61 (pq P1) [8, 13, 14] rfl rfl (by kernel_rfl) (by decide) (by kernel_rfl) (by kernel_rfl) (by kernel_rfl) (fun _ _ _ h => h) HS.out (by rfl) (fun W hW => by go_simp) ?_
      simp only [Act.put, List.setIfInBounds_toArray, List.set_cons_zero, List.set_cons_succ]
      refine wpL_take 9 63 (pq r) [10, 11, 12, 13, 14] rfl rfl (by kernel_rfl) (by decide) (by kernel_rfl) (by kernel_rfl) (by kernel_rfl) (fun _ _ _ h => h) HS.out (by rfl) (fun W hW => by go_simp) ?_
      simp only [Act.put, List.setIfInBounds_toArray, List.set_cons_zero, List.set_cons_succ]
      refine wpL_take 10 64 (pq r) [11, 12, 13, 14] rfl rfl (by kernel_rfl) (by decide) (by kernel_rfl) (by kernel_rfl) (by kernel_rfl) (fun _ _ _ h => h) HS.out (by rfl) (fun W hW => by have o0 : W.cell? ⟨r, 0, none⟩ = some (.slice ao5 (lst S).length cap5) := hW; go_simp) ?_
      simp only [Act.put, List.setIfInBounds_toArray, List.set_cons_zero, List.set_cons_succ]
      refine wpL_take 11 65 (.pointer (some ⟨r, 0, none⟩)) [12, 13, 14] rfl rfl (by kernel_rfl) (by decide) (by kernel_rfl) (by kernel_rfl) (by kernel_rfl) (fun _ _ _ h => h) HS.out (by rfl) (fun W hW => by go_simp) ?_
      simp only [Act.put, List.setIfInBounds_toArray, List.set_cons_zero, List.set_cons_succ]
      refine wpL_take 12 66 (.slice ao5 (lst S).length cap5) [13, 14] rfl rfl (by kernel_rfl) (by decide) (by kernel_rfl) (by kernel_rfl) (by kernel_rfl) (fun _ _ _ h => h) HS.out (by rfl) (fun W hW => by have o0 : W.cell? ⟨r, 0, none⟩ = some (.slice ao5 (lst S).length cap5) := hW; go_simp) ?_
      simp only [Act.put, List.setIfInBounds_toArray, List.set_cons_zero, List.set_cons_succ]
      refine wpL_one 8 rfl (by kernel_rfl) (by rfl) (fun K hK => ?_)
      go_simp
      refine HLst.out.mono ?_
      rintro e w7 ⟨a7, c7, rfl, ho7, hb7⟩
      have hb7' : Below w6.heap.size w6 w7 := ⟨hb7.os, hb7.tape, hb7.output, hb7.size, hb7.block⟩
      have HB7 : Hid (Below b w w7) := HB6.out.trans (hb7'.mono hlo6)
      have HS7 : Hid (w7.cell? ⟨r, 0, none⟩ = some (.slice ao5 (lst S).length cap5)) := (hb7'.cell (p := ⟨r, 0, none⟩) hrl).trans HS.out
      have HSame := hid (same_ok w7 a7 ao5 c7 cap5 (lst S) (by omega) (Rd5.own ho7) (HRd.out.below hb7))
      have hlo7 : b ≤ w7.heap.size := Nat.le_trans hlo6 hb7'.size
      clear ho7 hb7 hb7'
      go_simp
      refine hK.out _ _ (fun _ => HS7.out) ?_
      clear hK K
      refine wpL_one 13 rfl (by kernel_rfl) (by rfl) (fun K hK => ?_)
      go_simp
      refine HSame.out.mono ?_
      rintro e w8 ⟨rfl, hb8⟩
      have HB8 : Hid (Below b w w8) := HB7.out.trans (hb8.mono hlo7)
      have HS8 : Hid (w8.cell? ⟨r, 0, none⟩ = some (.slice ao5 (lst S).length cap5)) := (hb8.cell (p := ⟨r, 0, none⟩) (World.block_lt_of_cell? w7 _ HS7.out)).trans HS7.out
      have hlo8 : b ≤ w8.heap.size := Nat.le_trans hlo7 hb8.size
      clear hb8
      go_simp
      refine hK.out _ _ (fun _ => HS8.out) ?_
      clear hK K
      refine wpL_take 14 68 (.bool false) [] rfl rfl (by kernel_rfl) (by decide) (by kernel_rfl) (by kernel_rfl) (by kernel_rfl) (fun _ _ _ h => h) HS8.out (by rfl) (fun W hW => by go_simp) ?_
      simp only [Act.put, List.setIfInBounds_toArray, List.set_cons_zero, List.set_cons_succ]
      refine wpL_one 15 rfl (by kernel_rfl) (by rfl) (fun K hK => ?_)
      go_simp
      refine hK.out _ _ (fun h => absurd rfl h) ?_
      clear hK K
      refine wpL_done (by kernel_rfl) ?_
      refine NoPanic.normal ?_
      clear HLst HRd HS HS7 HS8 HSame HB6 HB7 hlo6 hlo7 hrl
      have hz29 := zero29
      have HXw : Hid (Rb (w8.alloc (.cells #[.slice none 0 0] 29)) b w8.heap.size (lst noSt)) := rb_new w8 b hlo8
      have HBx : Hid (Below b w (w8.alloc (.cells #[.slice none 0 0] 29))) := HB8.out.trans ((below_one w8 _).mono hlo8)
      have hlx : b ≤ (w8.alloc (.cells #[.slice none 0 0] 29)).heap.size := by simp; omega
      go_wp2_with fail
      clear hz29
      obtain ⟨r2, hr2⟩ : ∃ r2, r2 = w8.heap.size := ⟨_, rfl⟩
      rw [← hr2] at HXw ⊢
      generalize w8.alloc (.cells #[.slice none 0 0] 29) = w9 at *
      clear hr2
      go_loopw [11, 74] (fun q u wr => ∃ (k : Nat) (R : Bool), k ≤ len1 ∧ u = i64 k ∧ q = .bool R ∧ Hid (LdI wr b r2 X k R) ∧ Hid (Below b w wr) ∧ Hid (b ≤ wr.heap.size)) (fun _ u _ => len1 - (intOf u).toNat)
      case atStart => exact ⟨0, true, by omega, rfl, rfl, .inl ⟨rfl, noSt, HXw.out, rgt_no, rfl⟩, HBx, hlx⟩
      case round =>
        obtain ⟨k2, R, hk2, rfl, rfl, HLI, HBr, HLo⟩ := hrel
        by_cases hlt2 : k2 < len1
        · have hk2I : (k2 : Int) < len1 := by omega
          obtain ⟨e, he⟩ : ∃ e, X[k2]? = some e := ⟨_, List.getElem?_eq_getElem (by rw [HXl.out]; exact hlt2)⟩
          obtain ⟨g, o, rfl, hgl, c0, c1, c2, c3, c4⟩ := HXr.out.below (by rw [← HB.out]; exact HBr.out) k2 e he
          have hdrop := drop_at he
          have HBV : Hid (Below b w (wr.alloc (enO e.1.1 e.1.2 e.2.1 e.2.2.1 e.2.2.2 38))) := HBr.out.alloc HLo.out _
          have HLoV : Hid (b ≤ (wr.alloc (enO e.1.1 e.1.2 e.2.1 e.2.2.1 e.2.2.2 38)).heap.size) := by have := HLo.out; show _ ≤ _; simp; omega
          have HOb := hid (heap_last wr (enO e.1.1 e.1.2 e.2.1 e.2.2.1 e.2.2.2 38))
          clear he
          cases R
          · have HI2 : Hid (LdI (wr.alloc (enO e.1.1 e.1.2 e.2.1 e.2.2.1 e.2.2.2 38)) b r2 X (k2 + 1) false) := by
              rcases HLI.out with ⟨h, _⟩ | ⟨_, h⟩
              · cases h
              · exact .inr ⟨rfl, h⟩
            clear HLI hdrop
            go_wp2_with fail
            exact ⟨⟨k2 + 1, false, by omega, by go_num, rfl, HI2, HBV, HLoV⟩, by simp [intOf]; omega⟩
          · obtain ⟨S2, hrb, hrt, hld⟩ : ∃ S, Rb wr b r2 (lst S) ∧ Rgt S ∧ ldF noSt X = ldF S (X.drop k2) := by
              rcases HLI.out with ⟨_, h⟩ | ⟨h, _⟩
              · exact h
              · cases h
            rw [hdrop, ldF] at hld
            have HRbV : Hid (Rb (wr.alloc (enO e.1.1 e.1.2 e.2.1 e.2.2.1 e.2.2.2 38)) b r2 (lst S2)) := hrb.below (below_one wr _)
            have HRt2 := hid hrt
            have hln2 := lst_len S2
            have HRr := hid fun W => rright_ok W e.1.1 e.1.2 e.2.1 e.2.2.1 e.2.2.2
            clear HLI hdrop hrb hrt
            cases hr : rightF e.1.1 e.1.2 e.2.1 e.2.2.1 e.2.2.2
            · rw [hr] at HRr
              have hno : ldF noSt X = none := by
                rw [hld, hr]
                simp
              have HNo := hid hno
              clear hno hld hr
              go_wp2_with fail
              refine (ref_ok _ e.1.1 e.1.2 e.2.1 e.2.2.1 e.2.2.2).mono ?_
              rintro e' w10 ⟨rfl, hb10⟩
              have HB10 : Hid (Below b w w10) := HBV.out.trans (hb10.mono HLoV.out)
              have hlo10 : b ≤ w10.heap.size := Nat.le_trans HLoV.out hb10.size
              clear hb10
              go_wp2_with fail
              refine (HRr.out w10).mono ?_
              rintro e' w11 ⟨rfl, hb11⟩
              have HB11 : Hid (Below b w w11) := HB10.out.trans (hb11.mono hlo10)
              have HLo11 : Hid (b ≤ w11.heap.size) := Nat.le_trans hlo10 hb11.size
              clear hb11
              go_wp2_with fail
              exact ⟨⟨k2 + 1, false, by omega, by go_num, rfl, .inr ⟨rfl, HNo.out⟩, HB11, HLo11⟩, by simp [intOf]; omega⟩
            · rw [hr] at HRr
              rw [hr] at hld
              have hrg : RightP e.1.1 e.1.2 e.2.1 e.2.2.1 e.2.2.2 := of_decide_eq_true hr
              have HRg := hid hrg
              clear hrg
              have HAt := hid fun W (hW : Rb W b r2 (lst S2)) => rat_ok hW (by omega) e.1.1 e.1.2
              clear hr
              rcases hSe : S2 e.1 with _ | t
              · rw [hSe, if_neg (by simp), if_pos rfl] at hld
                have HLd2 := hid hld
                rw [pos_none HRt2.out.ins _ hSe] at HAt
                obtain ⟨A, B, hL, hL2, hA, hB⟩ := lst_put HRt2.out.ins e.1 e.2 (right_rng HRg.out) hSe
                have HIns : Hid (∀ W, Rb W b r2 (lst S2) → Calls Try.prog 23 #[pq r2, ev e.1.1 e.1.2 e.2.1 e.2.2.1 e.2.2.2] W fun e' w' => e' = .returned (.tuple #[]) ∧ Rb w' b r2 (lst (upd S2 e.1 (some e.2))) ∧ Touch r2 W w') := fun W hW => by
                  rw [hL] at hW hln2
                  rw [hL2]
                  exact rins_ok hW (by omega) e.1.1 e.1.2 e.2.1 e.2.2.1 e.2.2.2 hA hB
                have HRt3 : Hid (Rgt (upd S2 e.1 (some e.2))) := HRt2.out.upd _ _ HRg.out
                clear hld hSe hL hL2 hA hB
                go_wp2_with fail
                refine (ref_ok _ e.1.1 e.1.2 e.2.1 e.2.2.1 e.2.2.2).mono ?_
                rintro e' w10 ⟨rfl, hb10⟩
                have HB10 : Hid (Below b w w10) := HBV.out.trans (hb10.mono HLoV.out)
                have HRb10 := hid (HRbV.out.below hb10)
                have HOb10 := hid (blk_below HOb.out hb10)
                have hlo10 : b ≤ w10.heap.size := Nat.le_trans HLoV.out hb10.size
                clear hb10
                go_wp2_with fail
                refine (HRr.out w10).mono ?_
                rintro e' w11 ⟨rfl, hb11⟩
                have HB11 : Hid (Below b w w11) := HB10.out.trans (hb11.mono hlo10)
                have HRb11 := hid (HRb10.out.below hb11)
                have HOb11 := hid (blk_below HOb10.out hb11)
                have hlo11 : b ≤ w11.heap.size := Nat.le_trans hlo10 hb11.size
                obtain ⟨y0, y1, y2, y3, y4⟩ := five_cells HOb11.out
                have HA := hid (HAt.out w11 HRb11.out)
                clear hb11
                go_wp2_with fail
                refine HA.out.mono ?_
                rintro e' w12 ⟨rfl, hb12⟩
                have HB12 : Hid (Below b w w12) := HB11.out.trans (hb12.mono hlo11)
                have HRb12 := hid (HRb11.out.below hb12)
                have HOb12 := hid (blk_below HOb11.out hb12)
                have hlo12 : b ≤ w12.heap.size := Nat.le_trans hlo11 hb12.size
                obtain ⟨z0, z1, z2, z3, z4⟩ := five_cells HOb12.out
                clear hb12 y0 y1 y2 y3 y4
                go_wp2_with fail
                refine (ref_ok _ e.1.1 e.1.2 e.2.1 e.2.2.1 e.2.2.2).mono ?_
                rintro e' w13 ⟨rfl, hb13⟩
                have HB13 : Hid (Below b w w13) := HB12.out.trans (hb13.mono hlo12)
                have HRb13 := hid (HRb12.out.below hb13)
                have hlo13 : b ≤ w13.heap.size := Nat.le_trans hlo12 hb13.size
                have HC := hid (HIns.out w13 HRb13.out)
                clear hb13
                go_wp2_with fail
                refine HC.out.mono ?_
                rintro e' w14 ⟨rfl, hr14, ht14⟩
                have HI2 : Hid (LdI w14 b r2 X (k2 + 1) true) := .inl ⟨rfl, _, hr14, HRt3.out, HLd2.out⟩
                have HB14 : Hid (Below b w w14) := HB13.out.trans (ht14.below (HRb13.out.lo) hlo13)
                have HLo14 : Hid (b ≤ w14.heap.size) := Nat.le_trans hlo13 ht14.size
                clear hr14 ht14
                go_wp2_with fail
                exact ⟨⟨k2 + 1, true, by omega, by go_num, rfl, HI2, HB14, HLo14⟩, by simp [intOf]; omega⟩
              · rw [hSe, if_pos Option.isSome_some] at hld
                have HNo := hid hld
                obtain ⟨i, hi, hpos, _⟩ := pos_some HRt2.out.ins _ _ hSe
                have hpos' : posF (lst S2) (e.1.1, e.1.2) 0 = (i : Int) := hpos
                rw [hpos'] at HAt
                have hi0 : ¬ (i : Int) < 0 := by omega
                clear hld hSe hpos hpos' hi
                go_wp2_with fail
                refine (ref_ok _ e.1.1 e.1.2 e.2.1 e.2.2.1 e.2.2.2).mono ?_
                rintro e' w10 ⟨rfl, hb10⟩
                have HB10 : Hid (Below b w w10) := HBV.out.trans (hb10.mono HLoV.out)
                have HRb10 := hid (HRbV.out.below hb10)
                have HOb10 := hid (blk_below HOb.out hb10)
                have hlo10 : b ≤ w10.heap.size := Nat.le_trans HLoV.out hb10.size
                clear hb10
                go_wp2_with fail
                refine (HRr.out w10).mono ?_
                rintro e' w11 ⟨rfl, hb11⟩
                have HB11 : Hid (Below b w w11) := HB10.out.trans (hb11.mono hlo10)
                have HRb11 := hid (HRb10.out.below hb11)
                have HOb11 := hid (blk_below HOb10.out hb11)
                have hlo11 : b ≤ w11.heap.size := Nat.le_trans hlo10 hb11.size
                obtain ⟨y0, y1, y2, y3, y4⟩ := five_cells HOb11.out
                have HA := hid (HAt.out w11 HRb11.out)
                clear hb11
                go_wp2_with fail
                refine HA.out.mono ?_
                rintro e' w12 ⟨rfl, hb12⟩
                have HB12 : Hid (Below b w w12) := HB11.out.trans (hb12.mono hlo11)
                have HLo12 : Hid (b ≤ w12.heap.size) := Nat.le_trans hlo11 hb12.size
                clear hb12 y0 y1 y2 y3 y4
                go_wp2_with fail
                exact ⟨⟨k2 + 1, false, by omega, by go_num, rfl, .inr ⟨rfl, HNo.out⟩, HB12, HLo12⟩, by simp [intOf]; omega⟩
        · have HL2 := hid (load_ok wr a1 cap1 X (by rw [HXl.out]; omega) (HXr.out.below (by rw [← HB.out]; exact HBr.out)))
          rw [HXl.out] at HL2
          have hloR := HLo.out
          cases R
          · have HNo : Hid (ldF noSt X = none) := by
              rcases HLI.out with ⟨h, _⟩ | ⟨_, h⟩
              · cases h
              · exact h
            rw [HNo.out] at HL2
            clear HLI
            go_wp2_with fail
            refine HL2.out.mono ?_
            rintro e w6 ⟨hL6, hb6⟩
            obtain rfl : e = .returned (.tuple #[.pointer none, i64 4]) := hL6
            have HB6 : Hid (Below b w w6) := HBr.out.trans (hb6.mono hloR)
            have hlo6 : b ≤ w6.heap.size := Nat.le_trans hloR hb6.size
            clear hb6
            go_wp2_with fail
            refine (five_ok w6).mono ?_
            rintro e w7 ⟨rfl, hb7⟩
            have HB7 : Hid (Below b w w7) := HB6.out.trans (hb7.mono hlo6)
            clear hb7
            go_wp2_with fail
            go_ret
            exact ⟨rfl, HB7.out⟩
          · obtain ⟨S2, hrb, hrt, hld⟩ : ∃ S, Rb wr b r2 (lst S) ∧ Rgt S ∧ ldF noSt X = ldF S (X.drop k2) := by
              rcases HLI.out with ⟨_, h⟩ | ⟨h, _⟩
              · exact h
              · cases h
            rw [List.drop_of_length_le (by rw [HXl.out]; omega), ldF] at hld
            rw [hld] at HL2
            have HRb2 := hid hrb
            have hln2 := lst_len S2
            clear HLI hrb hrt hld
            go_wp2_with fail
            refine HL2.out.mono ?_
            rintro e w6 ⟨hL6, hb6⟩
            obtain ⟨P2, rfl, ht6⟩ := hL6
            have HB6 : Hid (Below b w w6) := HBr.out.trans (hb6.mono hloR)
            have hlo6 : b ≤ w6.heap.size := Nat.le_trans hloR hb6.size
            have HLst := hid (list_ok w6.drew wr.heap.size (pq P2) S2 (ht6.below (w' := w6.drew) ⟨rfl, rfl, rfl, Nat.le_refl _, fun _ _ => rfl⟩).tv)
            obtain ⟨_, ao5, cap5, hbk, hown⟩ := HRb2.out.below hb6
            have HRd : Hid (Rd5 w6.drew ao5 (lst S2)) := Rd5.own (w := w6.drew) hown
            have HS : Hid (w6.drew.cell? ⟨r2, 0, none⟩ = some (.slice ao5 (lst S2).length cap5)) := blk_cell hbk 0
            have hrl : r2 < w6.heap.size := blk_lt hbk
            clear hbk hown ht6 hb6 HL2
            go_upto_region 25 with fail
            refine wp_region_noPanic ?_
            refine wp_region_last (fun W => W.cell? ⟨r2, 0, none⟩ = some (.slice ao5 (lst S2).length cap5)) 18 (by kernel_rfl) ?_
            refine wpL_take 0 115 (i64 0) [] rfl rfl (by kernel_rfl) (by decide) (by kernel_rfl) (by kernel_rfl) (by kernel_rfl) (fun _ _ _ h => h) HS.out (by rfl) (fun W hW => by go_simp) ?_
            simp only [Act.put, List.setIfInBounds_toArray, List.set_cons_zero, List.set_cons_succ]
            refine wpL_take 1 116 (.bool true) [] rfl rfl (by kernel_rfl) (by decide) (by kernel_rfl) (by kernel_rfl) (by kernel_rfl) (fun _ _ _ h => h) HS.out (by rfl) (fun W hW => by go_simp) ?_
            simp only [Act.put, List.setIfInBounds_toArray, List.set_cons_zero, List.set_cons_succ]
            refine wpL_take 2 117 (.bool true) [] rfl rfl (by kernel_rfl) (by decide) (by kernel_rfl) (by kernel_rfl) (by kernel_rfl) (fun _ _ _ h => h) HS.out (by rfl) (fun W hW => by go_simp) ?_
            simp only [Act.put, List.setIfInBounds_toArray, List.set_cons_zero, List.set_cons_succ]
            refine wpL_take 3 118 (pq P2) [] rfl rfl (by kernel_rfl) (by decide) (by kernel_rfl) (by kernel_rfl) (by kernel_rfl) (fun _ _ _ h => h) HS.out (by rfl) (fun W hW => by go_simp) ?_
            simp only [Act.put, List.setIfInBounds_toArray, List.set_cons_zero, List.set_cons_succ]
            refine wpL_take 4 119 (.bool true) [] rfl rfl (by kernel_rfl) (by decide) (by kernel_rfl) (by kernel_rfl) (by kernel_rfl) (fun _ _ _ h => h) HS.out (by rfl) (fun W hW => by go_simp) ?_
            simp only [Act.put, List.setIfInBounds_toArray, List.set_cons_zero, List.set_cons_succ]
            refine wpL_take 5 120 (.bool true) [] rfl rfl (by kernel_rfl) (by decide) (by kernel_rfl) (by kernel_rfl) (by kernel_rfl) (fun _ _ _ h => h) HS.out (by rfl) (fun W hW => by go_simp) ?_
            simp only [Act.put, List.setIfInBounds_toArray, List.set_cons_zero, List.set_cons_succ]
            refine wpL_take 6 121 (.bool true) [] rfl rfl (by kernel_rfl) (by decide) (by kernel_rfl) (by kernel_rfl) (by kernel_rfl) (fun _ _ _ h => h) HS.out (by rfl) (fun W hW => by go_simp) ?_
            simp only [Act.put, List.setIfInBounds_toArray, List.set_cons_zero, List.set_cons_succ]
            refine wpL_take 7 122 (pq P2) [] rfl rfl (by kernel_rfl) (by decide) (by kernel_rfl) (by kernel_rfl) (by kernel_rfl) (fun _ _ _ h => h) HS.out (by rfl) (fun W hW => by go_simp) ?_
            simp only [Act.put, List.setIfInBounds_toArray, List.set_cons_zero, List.set_cons_succ]
            refine wpL_take 9 124 (pq r2) [] rfl rfl (by kernel_rfl) (by decide) (by kernel_rfl) (by kernel_rfl) (by kernel_rfl) (fun _ _ _ h => h) HS.out (by rfl) (fun W hW => by go_simp) ?_
            simp only [Act.put, List.setIfInBounds_toArray, List.set_cons_zero, List.set_cons_succ]
            refine wpL_take 10 125 (pq r2) [] rfl rfl (by kernel_rfl) (by decide) (by kernel_rfl) (by kernel_rfl) (by kernel_rfl) (fun _ _ _ h => h) HS.out (by rfl) (fun W hW => by have o0 : W.cell? ⟨r2, 0, none⟩ = some (.slice ao5 (lst S2).length cap5) := hW; go_simp) ?_
            simp only [Act.put, List.setIfInBounds_toArray, List.set_cons_zero, List.set_cons_succ]
            refine wpL_take 11 126 (.pointer (some ⟨r2, 0, none⟩)) [] rfl rfl (by kernel_rfl) (by decide) (by kernel_rfl) (by kernel_rfl) (by kernel_rfl) (fun _ _ _ h => h) HS.out (by rfl) (fun W hW => by go_simp) ?_
            simp only [Act.put, List.setIfInBounds_toArray, List.set_cons_zero, List.set_cons_succ]
            refine wpL_take 12 127 (.slice ao5 (lst S2).length cap5) [] rfl rfl (by kernel_rfl) (by decide) (by kernel_rfl) (by kernel_rfl) (by kernel_rfl) (fun _ _ _ h => h) HS.out (by rfl) (fun W hW => by have o0 : W.cell? ⟨r2, 0, none⟩ = some (.slice ao5 (lst S2).length cap5) := hW; go_simp) ?_
            simp only [Act.put, List.setIfInBounds_toArray, List.set_cons_zero, List.set_cons_succ]
            refine wpL_one 8 rfl (by kernel_rfl) (by rfl) (fun K hK => ?_)
            go_simp
            refine HLst.out.mono ?_
            rintro e w7 ⟨a7, c7, rfl, ho7, hb7⟩
            have hb7' : Below w6.heap.size w6 w7 := ⟨hb7.os, hb7.tape, hb7.output, hb7.size, hb7.block⟩
            have HB7 : Hid (Below b w w7) := HB6.out.trans (hb7'.mono hlo6)
            have HS7 : Hid (w7.cell? ⟨r2, 0, none⟩ = some (.slice ao5 (lst S2).length cap5)) := (hb7'.cell (p := ⟨r2, 0, none⟩) hrl).trans HS.out
            have HSame := hid (same_ok w7 a7 ao5 c7 cap5 (lst S2) (by omega) (Rd5.own ho7) (HRd.out.below hb7))
            have hlo7 : b ≤ w7.heap.size := Nat.le_trans hlo6 hb7'.size
            clear ho7 hb7 hb7'
            go_simp
            refine hK.out _ _ (fun _ => HS7.out) ?_
            clear hK K
            refine wpL_one 13 rfl (by kernel_rfl) (by rfl) (fun K hK => ?_)
            go_simp
            refine HSame.out.mono ?_
            rintro e w8 ⟨rfl, hb8⟩
            have HB8 : Hid (Below b w w8) := HB7.out.trans (hb8.mono hlo7)
            have HS8 : Hid (w8.cell? ⟨r2, 0, none⟩ = some (.slice ao5 (lst S2).length cap5)) := (hb8.cell (p := ⟨r2, 0, none⟩) (World.block_lt_of_cell? w7 _ HS7.out)).trans HS7.out
            have hlo8 : b ≤ w8.heap.size := Nat.le_trans hlo7 hb8.size
            clear hb8
            go_simp
            refine hK.out _ _ (fun _ => HS8.out) ?_
            clear hK K
            refine wpL_take 14 129 (.bool true) [] rfl rfl (by kernel_rfl) (by decide) (by kernel_rfl) (by kernel_rfl) (by kernel_rfl) (fun _ _ _ h => h) HS8.out (by rfl) (fun W hW => by go_simp) ?_
            simp only [Act.put, List.setIfInBounds_toArray, List.set_cons_zero, List.set_cons_succ]
            refine wpL_take 15 130 (.bool true) [] rfl rfl (by kernel_rfl) (by decide) (by kernel_rfl) (by kernel_rfl) (by kernel_rfl) (fun _ _ _ h => h) HS8.out (by rfl) (fun W hW => by go_simp) ?_
            simp only [Act.put, List.setIfInBounds_toArray, List.set_cons_zero, List.set_cons_succ]
            refine wpL_one 16 rfl (by kernel_rfl) (by rfl) (fun K hK => ?_)
            go_simp
            refine (five_ok w8).mono ?_
            rintro e w9 ⟨rfl, hb9⟩
            have HB9 : Hid (Below b w w9) := HB8.out.trans (hb9.mono hlo8)
            have HS9 : Hid (w9.cell? ⟨r2, 0, none⟩ = some (.slice ao5 (lst S2).length cap5)) := (hb9.cell (p := ⟨r2, 0, none⟩) (World.block_lt_of_cell? w8 _ HS8.out)).trans HS8.out
            clear hb9
            go_simp
            refine hK.out _ _ (fun _ => HS9.out) ?_
            clear hK K
            refine wpL_take 17 132 (.bool true) [] rfl rfl (by kernel_rfl) (by decide) (by kernel_rfl) (by kernel_rfl) (by kernel_rfl) (fun _ _ _ h => h) HS9.out (by rfl) (fun W hW => by go_simp) ?_
            simp only [Act.put, List.setIfInBounds_toArray, List.set_cons_zero, List.set_cons_succ]
            refine wpL_one 18 rfl (by kernel_rfl) (by rfl) (fun K hK => ?_)
            go_simp
            refine hK.out _ _ (fun h => absurd rfl h) ?_
            clear hK K
            refine wpL_done (by kernel_rfl) ?_
            refine NoPanic.normal ?_
            go_wp2_with fail
            go_ret
            exact ⟨rfl, HB9.out⟩
end Go.Proofs.Ytdgkajhlofpdeaa
