/- TlbBounds' walk: never more than eight, what was put last is there, what was dropped isn't; no statement is proved in this text. -/
import Derived.Test.YtblhoaggonjhkaaBoundsPure
import Derived.Deep.DeepCutAuto
namespace Go.Proofs.Ytblhoaggonjhkaa
open Go.ChangeShapes Go.WideShapes Go.ChangeAt Go.RowKit Go.Deep

set_option maxRecDepth 100000 in
set_option maxHeartbeats 16000000 in
theorem bounds_walk (w : World) (ao : Option Addr) (len cap : Nat) (f : Nat → St) (hst : SSl w ao len f) (hlen : len ≤ maxLen) :
    Calls Try.prog 5 #[.slice ao len cap] w fun e w' => e = .returned (.bool true) ∧ Below w.heap.size w w' := by
  unfold maxLen at hlen
  have HS : Hid (SSl w ao len f) := hst
  clear hst
  go_enter Try.func5, Try.ntmps5
  go_wp2_with fail
  refine (new_ok w).mono ?_
  rintro e w0 ⟨rfl, hb0, hB0⟩
  have hsz0 := hB0.plt
  have HB0 : Hid (Below w.heap.size w w0) := hb0
  have HT0 : Hid (Two (w0.alloc (.cells #[.slice none 0 0, i64 0, i64 0] 29)) w.heap.size w.heap.size w0.heap.size [] 0 0) := two_start hB0
  clear hb0 hB0
  have HAL : Hid (∀ (V : World) (o : Obj), Below V.heap.size V (V.alloc o)) := fun V o => (Below.refl _ _).alloc (Nat.le_refl _) o
  by_cases hl : len ≤ 100
  · go_wp2_with fail
    go_loopw [30] (fun i wr => ∃ (k : Nat) (L : Ls) (h m : Nat), k ≤ len ∧ h ≤ 9 * k ∧ m ≤ 9 * k ∧ i = i64 k ∧ Below w.heap.size w wr ∧ Two wr w.heap.size w.heap.size w0.heap.size L h m) (fun i _ => len - (intOf i).toNat)
    case atStart => exact ⟨0, [], 0, 0, by omega, by omega, by omega, rfl, HB0.out.alloc (by omega) _, HT0.out⟩
    case round =>
      obtain ⟨k, L, h, m, hk, hhk, hmk, rfl, hb, ht⟩ := hrel
      by_cases hlt : k < len
      · obtain ⟨b, off, rfl, hbl, c0, c1, c2, c3, c4, c5⟩ := (HS.out.below hb).at hlt
        obtain ⟨s, hs⟩ : ∃ s, f k = s := ⟨_, rfl⟩
        rw [hs] at c0 c1 c2 c3 c4 c5
        clear hs
        have HB : Hid (Below w.heap.size w wr) := hb
        have HT : Hid (∀ o, Two (wr.alloc o) w.heap.size w.heap.size w0.heap.size L h m) := fun o => ht.below ((Below.refl _ _).alloc (Nat.le_refl _) o)
        clear hb ht
        go_wp2_with fail
        refine (does_any (HT.out _) s (by omega) (by omega)).mono ?_
        rintro e w1 ⟨rfl, hf, ht1⟩
        have HB1 : Hid (Below w.heap.size w w1) := (HB.out.alloc HB.out.size _).trans hf.below
        have hh1 := nextH_le s L h
        have hm1 := nextM_le s L m
        have HS1 : Hid (w1.heap[wr.heap.size]? = some (.cells s.cells.toArray 35 (0, 0))) := hf.kept _ _ (heap_last wr _) (by simp [keeps])
        have HG : Hid (∀ q, q ∈ nextL s L → Gone s q) := gone_next s L
        have HE : Hid (∀ T, Seen (nextL s L) s (nextL s L).length T → isPut s → T = true) := fun T => Seen.end
        generalize nextL s L = L1 at *
        generalize nextH s L h = h1 at *
        generalize nextM s L m = m1 at *
        have HT1 : Hid (Two w1 w.heap.size w.heap.size w0.heap.size L1 h1 m1) := ht1
        have hl8 := ht1.l8
        have hkl : (keysOf L1).length = L1.length := by simp [keysOf]
        have hkk := keys_ok HT1.out.b (by omega)
        clear hf ht1
        go_wp2_with fail
        refine hkk.mono ?_
        rintro e w2 ⟨hb2, v, rfl, ho⟩
        rw [hkl] at ho
        obtain ⟨ao2, cap2, rfl, _⟩ := own_slice ho
        have HK : Hid (KSl w2 ao2 (keysOf L1)) := (own_keys ho).1
        have HB2 : Hid (Below w.heap.size w w2) := HB1.out.trans (hb2.mono HB1.out.size)
        have HT2 : Hid (Two w2 w.heap.size w.heap.size w0.heap.size L1 h1 m1) := HT1.out.below hb2
        have HS2 : Hid (w2.heap[wr.heap.size]? = some (.cells s.cells.toArray 35 (0, 0))) := (hb2.block _ (Array.getElem?_eq_some_iff.1 HS1.out).1).trans HS1.out
        clear hkk hb2 ho hkl c0 c1 c2 c3 c4 c5
        obtain ⟨N, hN⟩ : ∃ N, L1.length = N := ⟨_, rfl⟩
        have HN : Hid (L1.length = N) := hN
        rw [hN] at hl8 ⊢
        clear hN
        clear HB HT HS1 HB1 HT1
        generalize wr.heap.size = S at *
        go_wp2_with fail
        go_loopw [8, 45] (fun u i wr' => ∃ (j h' : Nat) (T : Bool), Value.bool T = u ∧ j ≤ N ∧ i = i64 j ∧ h' ≤ h1 + j ∧ Seen L1 s j T ∧ Below w.heap.size w wr' ∧ Two wr' w.heap.size w.heap.size w0.heap.size L1 h' m1 ∧ KSl wr' ao2 (keysOf L1) ∧ wr'.heap[S]? = some (.cells s.cells.toArray 35 (0, 0))) (fun _ i _ => N - (intOf i).toNat)
        case atStart => exact ⟨0, h1, false, rfl, by omega, rfl, by omega, (fun i hi => by omega), HB2.out, HT2.out, HK.out, HS2.out⟩
        case round =>
          clear HK HB2 HT2 HS2
          obtain ⟨j, h', T, rfl, hj, rfl, hh', hseen, hb, ht, hks, hsb⟩ := hrel
          by_cases hjN : j < N
          · have hjL : j < L1.length := by rw [HN.out]; exact hjN
            obtain ⟨b2, rfl, hbl2, d0, d1, d2⟩ := keys_at hks hjL
            have hnx := hseen.next hjL
            have hmem : L1[j] ∈ L1 := List.getElem_mem hjL
            have hgo := HG.out _ hmem
            obtain ⟨⟨qk, qe⟩, hq⟩ : ∃ q, L1[j] = q := ⟨_, rfl⟩
            rw [hq] at d0 d1 d2 hnx hmem hgo
            clear hq hseen
            have HM : Hid ((qk, qe) ∈ L1) := hmem
            have HGO : Hid (Gone s (qk, qe)) := hgo
            have HB : Hid (Below w.heap.size w wr) := hb
            have HT : Hid (∀ o, Two (wr.alloc o) w.heap.size w.heap.size w0.heap.size L1 h' m1) := fun o => ht.below (HAL.out wr o)
            have HK : Hid (∀ o, KSl (wr.alloc o) (some ⟨b2, 0, none⟩) (keysOf L1)) := fun o => hks.kept (fun b C hC => ((HAL.out wr o).block _ (Array.getElem?_eq_some_iff.1 hC).1).trans hC)
            have HSB : Hid (∀ o, (wr.alloc o).heap[S]? = some (.cells s.cells.toArray 35 (0, 0))) := fun o => ((HAL.out wr o).block _ (Array.getElem?_eq_some_iff.1 hsb).1).trans hsb
            obtain ⟨X, hX⟩ : ∃ X, X = decide (qk = s.k) := ⟨_, rfl⟩
            obtain ⟨Y, hY⟩ : ∃ Y, Y = decide (qe = s.e) := ⟨_, rfl⟩
            have HNX : Hid (Seen L1 s (j + 1) (T || (X && Y))) := (by rw [hX, hY]; exact hnx : Seen L1 s (j + 1) (T || (X && Y)))
            have q31 : ∀ W, (binOp .eql 31 (.agg #[i64 qk.env, i64 qk.proc, i64 qk.page]) (.agg #[i64 s.k.env, i64 s.k.proc, i64 s.k.page])).run Try.prog W = .ok (.bool X) W := fun W => by rw [hX]; exact eqlV qk s.k W
            have q33 : ∀ W, (binOp .eql 33 (.agg #[i64 qe.frame, .bool qe.wr]) (.agg #[i64 s.e.frame, .bool s.e.wr])).run Try.prog W = .ok (.bool Y) W := fun W => by rw [hY]; exact eql33g qe s.e W
            have HX : Hid (X = decide (qk = s.k)) := hX
            clear hb ht hks hsb hmem hgo hnx hX hY
            go_wp2_with fail
            refine (get_has (HT.out _).b (qk, qe) HM.out (by omega) (by omega)).mono ?_
            rintro e w3 ⟨rfl, hf3, hb3⟩
            have hX3 : w3.heap[wr.heap.size]? = some (.cells #[i64 qk.env, i64 qk.proc, i64 qk.page] 31 (0, 0)) := hf3.kept _ _ (heap_last wr _) (by simp [keeps])
            have hS3 := hf3.kept _ _ (HSB.out _) (by simp [keeps])
            have hK3 := (HK.out _).kept (fun b C hC => hf3.kept b _ hC (by simp [keeps]))
            have hB3 : Below w.heap.size w w3 := (HB.out.alloc HB.out.size _).trans hf3.below
            have hR3 : RBuf w3 w.heap.size w0.heap.size L1 h' m1 := (HT.out _).r.kept (fun i o hi ho => hf3.kept i o hi (keeps_a o ho))
            have hnd : ND L1 := (HT.out (.cells #[] 0)).nd
            have hv : Below w3.heap.size w3 (w3.alloc (.cells #[i64 qe.frame, .bool qe.wr] 33)) := HAL.out _ _
            have hXV : (w3.alloc (.cells #[i64 qe.frame, .bool qe.wr] 33)).heap[wr.heap.size]? = some (.cells #[i64 qk.env, i64 qk.proc, i64 qk.page] 31 (0, 0)) := (hv.block _ (Array.getElem?_eq_some_iff.1 hX3).1).trans hX3
            obtain ⟨⟨x0, x1, x2⟩, _⟩ := three_cells hXV
            have HXV : Hid ((w3.alloc (.cells #[i64 qe.frame, .bool qe.wr] 33)).heap[wr.heap.size]? = some (.cells #[i64 qk.env, i64 qk.proc, i64 qk.page] 31 (0, 0))) := hXV
            have HSV : Hid ((w3.alloc (.cells #[i64 qe.frame, .bool qe.wr] 33)).heap[S]? = some (.cells s.cells.toArray 35 (0, 0))) := (hv.block _ (Array.getElem?_eq_some_iff.1 hS3).1).trans hS3
            have HKV : Hid (KSl (w3.alloc (.cells #[i64 qe.frame, .bool qe.wr] 33)) (some ⟨b2, 0, none⟩) (keysOf L1)) := hK3.kept (fun b C hC => (hv.block _ (Array.getElem?_eq_some_iff.1 hC).1).trans hC)
            have HBV : Hid (Below w.heap.size w (w3.alloc (.cells #[i64 qe.frame, .bool qe.wr] 33))) := hB3.alloc hB3.size _
            have HUV : Hid (Buf (w3.alloc (.cells #[i64 qe.frame, .bool qe.wr] 33)) w.heap.size w.heap.size L1 (keysOf L1) (h' + 1) m1) := hb3.below hv
            have HRV : Hid (RBuf (w3.alloc (.cells #[i64 qe.frame, .bool qe.wr] 33)) w.heap.size w0.heap.size L1 h' m1) := hR3.below hv
            have HYV : Hid ((w3.alloc (.cells #[i64 qe.frame, .bool qe.wr] 33)).heap[w3.heap.size]? = some (.cells #[i64 qe.frame, .bool qe.wr] 33 (0, 0))) := heap_last w3 _
            have HND : Hid (ND L1) := hnd
            clear hf3 hb3 hX3 hS3 hK3 hB3 hR3 hnd hv hXV d0 d1 d2
            go_wp2_with fail
            refine (ref_ok _ qk qe).mono ?_
            rintro e w4 ⟨rfl, hb4⟩
            have HB4 : Hid (Below w.heap.size w w4) := HBV.out.trans (hb4.mono HBV.out.size)
            have HX4 : Hid (w4.heap[wr.heap.size]? = some (.cells #[i64 qk.env, i64 qk.proc, i64 qk.page] 31 (0, 0))) := (hb4.block _ (Array.getElem?_eq_some_iff.1 HXV.out).1).trans HXV.out
            have HS4 : Hid (w4.heap[S]? = some (.cells s.cells.toArray 35 (0, 0))) := (hb4.block _ (Array.getElem?_eq_some_iff.1 HSV.out).1).trans HSV.out
            have HY4 : Hid (w4.heap[w3.heap.size]? = some (.cells #[i64 qe.frame, .bool qe.wr] 33 (0, 0))) := (hb4.block _ (Array.getElem?_eq_some_iff.1 HYV.out).1).trans HYV.out
            have HK4 : Hid (KSl w4 (some ⟨b2, 0, none⟩) (keysOf L1)) := HKV.out.kept (fun b C hC => (hb4.block _ (Array.getElem?_eq_some_iff.1 hC).1).trans hC)
            have HU4 : Hid (Buf w4 w.heap.size w.heap.size L1 (keysOf L1) (h' + 1) m1) := HUV.out.below hb4
            have HR4 : Hid (RBuf w4 w.heap.size w0.heap.size L1 h' m1) := HRV.out.below hb4
            clear hb4 x0 x1 x2 HXV HSV HKV HBV HUV HRV HYV
            go_wp2_with fail
            refine (rget_has HR4.out (by rw [HN.out]; omega) HND.out (qk, qe) HM.out (by omega) (by omega)).mono ?_
            rintro e w5 ⟨hf5, hr5, r, rfl⟩
            have HB5 : Hid (Below w.heap.size w w5) := HB4.out.trans hf5.below
            have HS5 : Hid (w5.heap[S]? = some (.cells s.cells.toArray 35 (0, 0))) := hf5.kept _ _ HS4.out (by simp [keeps])
            have HK5 : Hid (KSl w5 (some ⟨b2, 0, none⟩) (keysOf L1)) := HK4.out.kept (fun b C hC => hf5.kept b _ hC (by simp [keeps]))
            have HT5 : Hid (Two w5 w.heap.size w.heap.size w0.heap.size L1 (h' + 1) m1) := ⟨HU4.out.kept (fun i o hi ho => hf5.kept i o hi (keeps_sub o ho)), hr5, by rw [HN.out]; omega, HB5.out.size⟩
            obtain ⟨⟨x0, x1, x2⟩, _⟩ := three_cells (hf5.kept _ _ HX4.out (by simp [keeps]))
            obtain ⟨⟨y0, y1⟩, _⟩ := two_cells (hf5.kept _ _ HY4.out (by simp [keeps]))
            obtain ⟨s0, s1, s2, s3, s4, s5⟩ := five_cells HS5.out
            clear hf5 hr5
            have hT4 : T = true ∨ (T = false ∧ X = false) ∨ (T = false ∧ X = true ∧ Y = false) ∨ (T = false ∧ X = true ∧ Y = true) := by cases T <;> cases X <;> cases Y <;> simp
            go_upto_region 18 with fail
            go_cut [8] (fun u wx => u = Value.bool (T || (X && Y)) ∧ wx = w5)
            case first =>
              clear s0
              rcases hT4 with rfl | ⟨rfl, rfl⟩ | ⟨rfl, rfl, rfl⟩ | ⟨rfl, rfl, rfl⟩
              all_goals
                go_wp2_with fail
                go_meet
                exact ⟨rfl, rfl⟩
            case rest =>
              obtain ⟨rfl, rfl⟩ := hcut
              clear hT4 q33
              have HE5 : Hid (X = false → Gone s (qk, qe)) := fun _ => HGO.out
              obtain ⟨T', hT'⟩ : ∃ T', (T || (X && Y)) = T' := ⟨_, rfl⟩
              have HNX' : Hid (Seen L1 s (j + 1) T') := (by rw [← hT']; exact HNX.out : Seen L1 s (j + 1) T')
              rw [hT']
              clear hT' HE5
              rcases HGO.out with ⟨hw, hg⟩ | ⟨hw, hg⟩ | ⟨hw, hg, hg2⟩ | ⟨hw, hg⟩ | ⟨hw, hg⟩ | ⟨hw5, hw6, hw7, hw8⟩
              · obtain rfl : X = false := by rw [HX.out]; exact decide_eq_false hg
                rw [hw] at s0
                clear hg hw
                go_wp2_with fail
                exact ⟨⟨j + 1, h' + 1, T', rfl, by omega, by go_num, by omega, HNX'.out, HB5.out, HT5.out, HK5.out, HS5.out⟩, by simp [intOf]; omega⟩
              · have hgb : (qk.env == s.k.env) = false := by simpa using hg
                rw [hw] at s0
                clear hg hw
                go_wp2_with fail
                exact ⟨⟨j + 1, h' + 1, T', rfl, by omega, by go_num, by omega, HNX'.out, HB5.out, HT5.out, HK5.out, HS5.out⟩, by simp [intOf]; omega⟩
              · have hgb : (qk.env == s.k.env) = true := by simpa using hg
                have hgc : (qk.proc == s.k.proc) = false := by simpa using hg2
                rw [hw] at s0
                clear hg hg2 hw
                go_wp2_with fail
                exact ⟨⟨j + 1, h' + 1, T', rfl, by omega, by go_num, by omega, HNX'.out, HB5.out, HT5.out, HK5.out, HS5.out⟩, by simp [intOf]; omega⟩
              · have hgb : (qk.env == s.k.env) = false := by simpa using hg
                rw [hw] at s0
                clear hg hw
                go_wp2_with fail
                exact ⟨⟨j + 1, h' + 1, T', rfl, by omega, by go_num, by omega, HNX'.out, HB5.out, HT5.out, HK5.out, HS5.out⟩, by simp [intOf]; omega⟩
              · have hgb : (qe.frame == s.e.frame) = false := by simpa using hg
                rw [hw] at s0
                clear hg hw
                go_wp2_with fail
                exact ⟨⟨j + 1, h' + 1, T', rfl, by omega, by go_num, by omega, HNX'.out, HB5.out, HT5.out, HK5.out, HS5.out⟩, by simp [intOf]; omega⟩
              · have hg5 : (s.what == 5) = false := by simpa using hw5
                have hg6 : (s.what == 6) = false := by simpa using hw6
                have hg7 : (s.what == 7) = false := by simpa using hw7
                have hg8 : (s.what == 8) = false := by simpa using hw8
                clear hw5 hw6 hw7 hw8
                go_wp2_with fail
                exact ⟨⟨j + 1, h' + 1, T', rfl, by omega, by go_num, by omega, HNX'.out, HB5.out, HT5.out, HK5.out, HS5.out⟩, by simp [intOf]; omega⟩
          · obtain rfl : j = N := by omega
            have hend : isPut s → T = true := HE.out T (by rw [HN.out]; exact hseen)
            obtain ⟨s0, _⟩ := five_cells hsb
            have HB : Hid (Below w.heap.size w wr) := hb
            have HT : Hid (Two wr w.heap.size w.heap.size w0.heap.size L1 h' m1) := ht
            clear hb ht hks hsb hseen
            by_cases hw0 : 0 ≤ s.what
            · by_cases hw3 : s.what < 3
              · obtain rfl : T = true := hend ((isPut_iff s).2 ⟨hw0, hw3⟩)
                clear hend
                go_wp2_with fail
                exact ⟨⟨k + 1, L1, h', m1, by omega, by omega, by omega, by go_num, HB.out, HT.out⟩, by simp [intOf]; omega⟩
              · clear hend
                go_wp2_with fail
                exact ⟨⟨k + 1, L1, h', m1, by omega, by omega, by omega, by go_num, HB.out, HT.out⟩, by simp [intOf]; omega⟩
            · clear hend
              go_wp2_with fail
              exact ⟨⟨k + 1, L1, h', m1, by omega, by omega, by omega, by go_num, HB.out, HT.out⟩, by simp [intOf]; omega⟩
      · have HB : Hid (Below w.heap.size w wr) := hb
        clear hb ht
        go_wp2_with (go_at_call 8; refine (nine_ok _).mono ?_; rintro e w5 ⟨rfl, hb5⟩; have HB5 : Hid (Below w.heap.size w w5) := HB.out.trans (hb5.mono HB.out.size); clear hb5)
        go_ret
        exact ⟨rfl, HB5.out⟩
  · go_wp2_with (go_at_call 8; refine (nine_ok _).mono ?_; rintro e w5 ⟨rfl, hb5⟩; have HB5 : Hid (Below w.heap.size w w5) := HB0.out.trans (hb5.mono HB0.out.size); clear hb5)
    go_ret
    exact ⟨rfl, HB5.out⟩
end Go.Proofs.Ytblhoaggonjhkaa
