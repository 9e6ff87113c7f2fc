/- TypesCut's walk; no statement is proved in this text. -/
import Derived.Test.YteecjilknembdaaDoorLaid
namespace Go.Proofs.YteecjilknembdaaDoor
open Go.ChangeShapes Go.WideShapes Go.ChangeAt Go.RowKit Go.Deep
attribute [local go_sem ↓] Go.wp_at_zero Go.wp_at_succ

set_option maxRecDepth 100000 in
set_option maxHeartbeats 12800000 in
theorem cut_walk (w : World) (hE : Env w) (T : Ty) (nv kv : Value) (hR : Rd w (fun _ => True) T nv kv) (l : Bs) (hl : l.length ≤ maxLen) : Calls Tryd.prog 7 #[tyV T.kind T.num nv kv, str l] w fun e w' => e = .returned (.bool true) ∧ Below w.heap.size w w' := by
  have hbl := bz l
  unfold maxLen at hl
  have HE := hid hE
  have HPID : Hid (∀ W, Below w.heap.size w W → Calls Tryd.prog 9 #[] W fun e w' => e = .returned (.bool true) ∧ Below W.heap.size W w') := fun W hW => pid_ok W (hE.below hW)
  have HRd := hid hR
  obtain ⟨an, cn, rfl, ak, ck, rfl⟩ := hR.form
  have HX : Hid ((w.alloc (.cells #[i64 T.kind, i64 T.num, .slice an T.names.length cn, .slice ak T.kids.length ck] 25)).heap[w.heap.size]? = some (.cells #[i64 T.kind, i64 T.num, .slice an T.names.length cn, .slice ak T.kids.length ck] 25)) := heap_last w _
  have HBV : Hid (Below w.heap.size w (w.alloc (.cells #[i64 T.kind, i64 T.num, .slice an T.names.length cn, .slice ak T.kids.length ck] 25))) := below_one w _
  clear hR hE
  go_enter Tryd.func7, Tryd.ntmps7
  go_upto_region 1 with fail
  obtain ⟨Z, hZ⟩ : ∃ Z, Z = w.heap.size := ⟨_, rfl⟩
  have HZw : Hid (w.heap.size ≤ Z) := by show _ ≤ _; omega
  rw [← hZ] at HX ⊢
  clear hZ
  generalize w.alloc (.cells #[i64 T.kind, i64 T.num, .slice an T.names.length cn, .slice ak T.kids.length ck] 25) = V at *
  have yc0 : V.cell? ⟨Z, 0, none⟩ = some (i64 T.kind) := blk_cell HX.out 0
  have yc1 : V.cell? ⟨Z, 1, none⟩ = some (i64 T.num) := blk_cell HX.out 1
  have yc2 : V.cell? ⟨Z, 2, none⟩ = some (.slice an T.names.length cn) := blk_cell HX.out 2
  have yc3 : V.cell? ⟨Z, 3, none⟩ = some (.slice ak T.kids.length ck) := blk_cell HX.out 3
  have HQ : Hid ((V.alloc (.cells #[i64 200] 29)).heap[V.heap.size]? = some (.cells #[i64 200] 29)) := heap_last V _
  have HBU : Hid (Below w.heap.size w (V.alloc (.cells #[i64 200] 29))) := HBV.out.trans ((below_one V _).mono HBV.out.size)
  have HXU : Hid ((V.alloc (.cells #[i64 200] 29)).heap[Z]? = some (.cells #[i64 T.kind, i64 T.num, .slice an T.names.length cn, .slice ak T.kids.length ck] 25)) := blk_alloc HX.out _
  have HLG : Hid (Calls Tryd.prog 8 #[tyV T.kind T.num (.slice an T.names.length cn) (.slice ak T.kids.length ck), pq V.heap.size, i64 1] (V.alloc (.cells #[i64 200] 29)) (LgOk (V.alloc (.cells #[i64 200] 29)) V.heap.size 200 T)) :=
    large_ok T.count T (Nat.le_refl _) _ _ _ _ 200 1 ((HRd.out.mono (S' := fun b => b ≠ V.heap.size) (fun b _ hb => by have := HBV.out.size; omega)).move HBU.out.size (fun b hb hlt => ⟨hb, HBU.out.block b hlt⟩)) HQ.out (by omega) (by omega) (by omega) (by omega)
  have hZV : Z < V.heap.size := blk_lt HX.out
  have hVw : w.heap.size ≤ V.heap.size := HBV.out.size
  go_wp2_with fail
  refine HLG.out.mono ?_
  rintro e w2 ⟨b0, m', rfl, _, ht2, hf2⟩
  have HB2 : Hid (Below w.heap.size w w2) := HBU.out.trans (ht2.below hVw HBU.out.size)
  have HX2 : Hid (w2.heap[Z]? = some (.cells #[i64 T.kind, i64 T.num, .slice an T.names.length cn, .slice ak T.kids.length ck] 25)) := by show _ = _; rw [ht2.block Z (blk_lt HXU.out) (by omega)]; exact HXU.out
  have HF2 : Hid (b0 = false → T.count ≤ 200) := fun h => by have := hf2 h; omega
  clear ht2 hf2 HLG yc0 yc1 yc2 yc3 hZV hVw HBV HBU HXU HQ
  have yc0 : w2.cell? ⟨Z, 0, none⟩ = some (i64 T.kind) := blk_cell HX2.out 0
  have yc1 : w2.cell? ⟨Z, 1, none⟩ = some (i64 T.num) := blk_cell HX2.out 1
  have yc2 : w2.cell? ⟨Z, 2, none⟩ = some (.slice an T.names.length cn) := blk_cell HX2.out 2
  have yc3 : w2.cell? ⟨Z, 3, none⟩ = some (.slice ak T.kids.length ck) := blk_cell HX2.out 3
  cases b0 with
  | true =>
    go_wp2_with fail
    refine (HPID.out w2 HB2.out).mono ?_
    rintro e w9 ⟨rfl, hb9⟩
    have HB9 : Hid (Below w.heap.size w w9) := HB2.out.trans (hb9.mono HB2.out.size)
    clear hb9
    go_wp2_with fail
    go_ret
    exact ⟨rfl, HB9.out⟩
  | false =>
    have hcnt := HF2.out rfl
    by_cases h1 : 100 < l.length
    · have h1I : (100 : Int) < l.length := by omega
      go_wp2_with fail
      refine (HPID.out w2 HB2.out).mono ?_
      rintro e w9 ⟨rfl, hb9⟩
      have HB9 : Hid (Below w.heap.size w w9) := HB2.out.trans (hb9.mono HB2.out.size)
      clear hb9
      go_wp2_with fail
      go_ret
      exact ⟨rfl, HB9.out⟩
    · by_cases h2 : l = []
      · subst h2
        go_wp2_with fail
        refine (HPID.out w2 HB2.out).mono ?_
        rintro e w9 ⟨rfl, hb9⟩
        have HB9 : Hid (Below w.heap.size w w9) := HB2.out.trans (hb9.mono HB2.out.size)
        clear hb9
        go_wp2_with fail
        go_ret
        exact ⟨rfl, HB9.out⟩
      · have hne : (l == []) = false := by simpa using h2
        by_cases hk : T.kind = 3 ∨ T.kind = 4
        · have HNE := hid h2
          have HK := hid hk
          have HPR : Hid (Calls Tryd.prog 10 #[tyV T.kind T.num (.slice an T.names.length cn) (.slice ak T.kids.length ck)] w2 fun e w' => e = .returned (.tuple #[str (if T.err = 0 then T.txt else []), i64 T.err]) ∧ Below w2.heap.size w2 w') := print_ok T w2 _ _ _ (HE.out.below HB2.out).pw (HRd.out.under HB2.out)
          have HBW : Hid (∀ W, Below w.heap.size w W → T.err = 0 → Calls Tryd.prog 15 #[.string ((⟨T.txt.toArray⟩ : ByteArray) ++ ⟨l.toArray⟩)] W (ParOk W (T.txt ++ l))) := fun W hW h0 => by
            rw [ba_append]
            have hr := (right_err T).2 h0
            have htl := txt_le T.count T (Nat.le_refl _) (right_formed hr).1
            exact parse_ok (T.txt ++ l) W (by rw [List.length_append]; omega) (HE.out.below hW).ml
          have HCUT : Hid (T.err = 0 → parseF (T.txt ++ l) = none) := fun h0 => parse_cut ((right_err T).2 h0) (by rcases HK.out with h | h <;> rw [h] <;> decide) HNE.out
          have HTL : Hid (T.err = 0 → T.txt.length ≤ 100000) := fun h0 => by have := txt_le T.count T (Nat.le_refl _) (right_formed ((right_err T).2 h0)).1; omega
          clear h2 hk
          by_cases h3 : T.kind = 3
          · have hk1 : (T.kind != 3) = false := by simpa using h3
            have H3 := hid h3
            clear h3
            go_wp2_with fail
            refine HPR.out.mono ?_
            rintro e w3 ⟨rfl, hb3⟩
            have HB3 : Hid (Below w.heap.size w w3) := HB2.out.trans (hb3.mono HB2.out.size)
            clear hb3
            by_cases h0 : T.err = 0
            · have HCA := hid (HBW.out w3 HB3.out h0)
              have HCN := hid (HCUT.out h0)
              have htl := HTL.out h0
              have hbt := bz T.txt
              rw [h0, if_pos rfl]
              clear h0
              go_wp2_with fail
              refine HCA.out.mono ?_
              rintro e w4 ⟨a1, n1, c1, a2, n2, c2, he, hb4, _⟩
              obtain ⟨g1, g2⟩ := parse_4 HCN.out
              rw [g1, g2] at he
              subst he
              have HB4 : Hid (Below w.heap.size w w4) := HB3.out.trans (hb4.mono HB3.out.size)
              clear hb4 g1 g2
              have HB5 : Hid (Below w.heap.size w (w4.alloc (.cells #[i64 0, i64 0, .slice a1 n1 c1, .slice a2 n2 c2] 25))) := HB4.out.trans ((below_one w4 _).mono HB4.out.size)
              go_wp2_with fail
              refine (HPID.out _ HB5.out).mono ?_
              rintro e w9 ⟨rfl, hb9⟩
              have HB9 : Hid (Below w.heap.size w w9) := HB5.out.trans (hb9.mono HB5.out.size)
              clear hb9
              go_wp2_with fail
              go_ret
              exact ⟨rfl, HB9.out⟩
            · have hne0 : (T.err != 0) = true := by simpa using h0
              rw [if_neg h0]
              have H0 := hid h0
              clear h0
              go_wp2_with fail
              refine (HPID.out w3 HB3.out).mono ?_
              rintro e w9 ⟨rfl, hb9⟩
              have HB9 : Hid (Below w.heap.size w w9) := HB3.out.trans (hb9.mono HB3.out.size)
              clear hb9
              go_wp2_with fail
              go_ret
              exact ⟨rfl, HB9.out⟩
          · have h4 : T.kind = 4 := by rcases HK.out with h | h <;> simp_all
            have hk1 : (T.kind != 3) = true := by simpa using h3
            have hk2 : (T.kind != 4) = false := by simpa using h4
            have H3 := hid h4
            clear h3 h4
            go_wp2_with fail
            refine HPR.out.mono ?_
            rintro e w3 ⟨rfl, hb3⟩
            have HB3 : Hid (Below w.heap.size w w3) := HB2.out.trans (hb3.mono HB2.out.size)
            clear hb3
            by_cases h0 : T.err = 0
            · have HCA := hid (HBW.out w3 HB3.out h0)
              have HCN := hid (HCUT.out h0)
              have htl := HTL.out h0
              have hbt := bz T.txt
              rw [h0, if_pos rfl]
              clear h0
              go_wp2_with fail
              refine HCA.out.mono ?_
              rintro e w4 ⟨a1, n1, c1, a2, n2, c2, he, hb4, _⟩
              obtain ⟨g1, g2⟩ := parse_4 HCN.out
              rw [g1, g2] at he
              subst he
              have HB4 : Hid (Below w.heap.size w w4) := HB3.out.trans (hb4.mono HB3.out.size)
              clear hb4 g1 g2
              have HB5 : Hid (Below w.heap.size w (w4.alloc (.cells #[i64 0, i64 0, .slice a1 n1 c1, .slice a2 n2 c2] 25))) := HB4.out.trans ((below_one w4 _).mono HB4.out.size)
              go_wp2_with fail
              refine (HPID.out _ HB5.out).mono ?_
              rintro e w9 ⟨rfl, hb9⟩
              have HB9 : Hid (Below w.heap.size w w9) := HB5.out.trans (hb9.mono HB5.out.size)
              clear hb9
              go_wp2_with fail
              go_ret
              exact ⟨rfl, HB9.out⟩
            · have hne0 : (T.err != 0) = true := by simpa using h0
              rw [if_neg h0]
              have H0 := hid h0
              clear h0
              go_wp2_with fail
              refine (HPID.out w3 HB3.out).mono ?_
              rintro e w9 ⟨rfl, hb9⟩
              have HB9 : Hid (Below w.heap.size w w9) := HB3.out.trans (hb9.mono HB3.out.size)
              clear hb9
              go_wp2_with fail
              go_ret
              exact ⟨rfl, HB9.out⟩
        · have hk1 : (T.kind != 3) = true := by simpa using (fun e => hk (Or.inl e))
          have hk2 : (T.kind != 4) = true := by simpa using (fun e => hk (Or.inr e))
          have HK := hid hk
          clear hk
          go_wp2_with fail
          refine (HPID.out w2 HB2.out).mono ?_
          rintro e w9 ⟨rfl, hb9⟩
          have HB9 : Hid (Below w.heap.size w w9) := HB2.out.trans (hb9.mono HB2.out.size)
          clear hb9
          go_wp2_with fail
          go_ret
          exact ⟨rfl, HB9.out⟩
end Go.Proofs.YteecjilknembdaaDoor
