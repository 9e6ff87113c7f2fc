/- imagoref15's fields: its contract; no statement is proved in this text. -/
import Derived.Test.YteecjilknembdaaDoorRecJ
import Derived.Test.YteecjilknembdaaDoorTk4
namespace Go.Proofs.YteecjilknembdaaDoor
open Go.ChangeShapes Go.WideShapes Go.ChangeAt Go.RowKit Go.Deep
attribute [local go_sem ↓] Go.wp_at_zero Go.wp_at_succ

theorem sl_lk (w : World) (s : ByteArray) (j k : Nat) (hj : j ≤ k) (h : k ≤ s.size) : (Instr.slice 9 (.string s) (some (i64 j)) (some (i64 k)) none).run Tryd.prog w = .ok (str ((s.data.toList.drop j).take (k - j))) w := by
  have h1 : (0 : Int) ≤ (k : Int) := by omega
  have h2 : (k : Int) ≤ s.size := by omega
  have h3 : (0 : Int) ≤ j := by omega
  have e : (k : Int).toNat = k := by omega
  have hb := run_sliceBound (P := Tryd.prog) w .i64 (j : Int) k .sliceB h3 (by omega)
  have hx : s.extract j k = ⟨((s.data.toList.drop j).take (k - j)).toArray⟩ := by
    apply ByteArray.ext
    rw [ByteArray.data_extract]
    apply Array.ext'
    simp [List.extract_eq_take_drop]
  simp [Instr.slice, run_underlying Tryd.underlying9, Instr.sliceBounds, run_sliceBound, h1, h2, e]
  rw [hb]
  simp [hx]
set_option maxRecDepth 100000 in
set_option maxHeartbeats 12800000 in
theorem fields_ok (s : ByteArray) (a0 f : Nat) (w : World) (hs : s.size ≤ 1000000) (hf : f ≤ 5) (ha : a0 ≤ s.size)
    (htk : ∀ w k, k ≤ s.size → Calls Tryd.prog 33 #[.string s, i64 (k : Nat), i64 (f : Nat)] w (Gok w s.size (takeD f (s.data.toList.drop k)))) : Calls Tryd.prog 45 #[.string s, i64 a0, i64 (f + 1 : Nat)] w (Gok w s.size (recD (takeD f) 13 (s.data.toList.drop a0) [] [])) := by
  obtain ⟨res, hres⟩ : ∃ res, res = recD (takeD f) 13 (s.data.toList.drop a0) [] [] := ⟨_, rfl⟩
  rw [← hres]
  have HRes0 := hid hres
  have HTK0 := hid htk
  clear hres htk
  obtain ⟨D, hD⟩ : ∃ D : Int, D = ((f + 1 : Nat) : Int) := ⟨_, rfl⟩
  have hD1 : 1 ≤ D := by omega
  have hD6 : D ≤ 6 := by omega
  have HDe := hid hD
  have qD : (D == 0) = false := by simp; omega
  rw [← hD]
  clear hD
  have HX : Hid ((w.alloc (.cells #[i64 0, i64 0, .slice none 0 0, .slice none 0 0, i64 0] 63)).heap[w.heap.size]? = some (.cells #[i64 0, i64 0, .slice none 0 0, .slice none 0 0, i64 0] 63)) := heap_last w _
  have HBV : Hid (Below w.heap.size w (w.alloc (.cells #[i64 0, i64 0, .slice none 0 0, .slice none 0 0, i64 0] 63))) := below_one w _
  go_enter Tryd.func45, Tryd.ntmps45
  go_upto_region 1 with fail
  obtain ⟨R, hR⟩ : ∃ R, R = w.heap.size := ⟨_, rfl⟩
  have HRe : Hid (w.heap.size ≤ R) := by show _ ≤ _; omega
  rw [← hR] at HX ⊢
  clear hR
  generalize w.alloc (.cells #[i64 0, i64 0, .slice none 0 0, .slice none 0 0, i64 0] 63) = V at *
  have HB1 : Hid (Below V.heap.size V (V.alloc (recJ (.slice none 0 0) (.slice none 0 0)))) := below_one V _
  have HX1 : Hid ((V.alloc (recJ (.slice none 0 0) (.slice none 0 0))).heap[V.heap.size]? = some (recJ (.slice none 0 0) (.slice none 0 0))) := heap_last V _
  go_upto_region 2 with fail
  obtain ⟨Tb, hTb⟩ : ∃ Tb, Tb = V.heap.size := ⟨_, rfl⟩
  have HTe := hid hTb
  rw [← hTb] at HX1 ⊢
  clear hTb
  have HW : Hid (LowJ w R Tb) := ⟨HRe.out, by rw [HTe.out]; exact HBV.out.size, by have := blk_lt HX.out; have := HTe.out; omega⟩
  have HI0 : Hid (RecJ w (V.alloc (recJ (.slice none 0 0) (.slice none 0 0))) R Tb 0 [] [] (.slice none 0 0) (.slice none 0 0)) :=
    ⟨blk_below HX.out HB1.out, HX1.out, ⟨rfl, Or.inl ⟨rfl, rfl⟩⟩, KidsR.nil _ _ _ _, by simp [Value.ownBlock], rfl, rfl, (fun x hx => by cases hx), HBV.out.trans (HB1.out.mono HBV.out.size)⟩
  generalize V.alloc (recJ (.slice none 0 0) (.slice none 0 0)) = V1 at *
  clear HX1 HB1 HX HBV HTe
  go_wp2_with fail
  go_loopw [8] (fun u wr => ∃ (i j : Nat) (N : List Bs) (Ks : List Kd) (nv kv : Value), i ≤ s.size ∧ j ≤ 13 ∧ u = i64 i ∧ Hid (RecJ w wr R Tb j N Ks nv kv) ∧ Hid (res = recD (takeD f) (13 - j) (s.data.toList.drop i) N (Ks.map (·.1)))) (fun u _ => s.size - (intOf u).toNat)
  case atStart => exact ⟨a0, 0, [], [], _, _, ha, by omega, rfl, HI0, HRes0⟩
  case round =>
    obtain ⟨i, j, N, Ks, nv, kv, hi, hj, rfl, HI, HRs⟩ := hrel
    obtain ⟨⟨an, cn, rfl⟩, ak, ck, rfl⟩ := HI.out.nvF
    have y3 : wr.cell? ⟨Tb, 3, none⟩ = some (.slice ak j ck) := blk_cell HI.out.hT 3
    by_cases hlt : j < 13
    · have HRs2 : Hid (res = recD (takeD f) ((12 - j) + 1) (s.data.toList.drop i) N (Ks.map (·.1))) := by show _ = _; rw [HRs.out]; congr 1; omega
      clear HRs
      go_wp2_with fail
      go_loop [9] (fun u => ∃ k : Nat, i ≤ k ∧ k ≤ s.size ∧ u = i64 k ∧ Hid (∀ c ∈ (s.data.toList.drop i).take (k - i), isLow c = true)) (fun u => s.size - (intOf u).toNat)
      case atStart => exact ⟨i, Nat.le_refl _, hi, rfl, by show ∀ c ∈ _, _; rw [Nat.sub_self]; intro c hc; simp at hc⟩
      case round =>
        obtain ⟨k, hik, hks, rfl, HP⟩ := hrel
        by_cases hgo : ∃ h : k < s.size, isLow s[k] = true
        · obtain ⟨hk, hlow⟩ := hgo
          have HP2 : Hid (∀ c ∈ (s.data.toList.drop i).take (k + 1 - i), isLow c = true) := by
            show ∀ c ∈ _, _
            have hl : k - i < (s.data.toList.drop i).length := by rw [List.length_drop, Array.length_toList]; have : s.data.size = s.size := rfl; omega
            rw [show k + 1 - i = (k - i) + 1 by omega, List.take_succ_eq_append_getElem hl]
            intro c hc
            rcases List.mem_append.1 hc with hc | hc
            · exact HP.out c hc
            · rw [List.mem_singleton.1 hc, List.getElem_drop]
              have hx : s.data.toList[i + (k - i)]'(by rw [Array.length_toList]; have : s.data.size = s.size := rfl; omega) = s[k] := by
                simp only [show i + (k - i) = k by omega]
                rfl
              rw [hx]; exact hlow
          have h1 : (96 : Int) < (s[k].toNat : Int) := by simp only [isLow, Bool.and_eq_true, decide_eq_true_eq] at hlow; omega
          have h2 : (s[k].toNat : Int) < 123 := by simp only [isLow, Bool.and_eq_true, decide_eq_true_eq] at hlow; omega
          clear hlow HP
          go_wp2_with fail
          go_round
          case rel => exact ⟨k + 1, by omega, by omega, by go_num, HP2⟩
          case measure => simp [intOf]; omega
        · have HEX : Hid ((s.data.toList.drop i).takeWhile isLow = (s.data.toList.drop i).take (k - i) ∧ (s.data.toList.drop i).dropWhile isLow = s.data.toList.drop k) := by
            show _ ∧ _
            have hsz : s.data.size = s.size := rfl
            have hln : (s.data.toList.drop i).length = s.size - i := by rw [List.length_drop, Array.length_toList, hsz]
            have := low_exact (s.data.toList.drop i) (k - i) HP.out (by omega) (by
              by_cases hk : k < s.size
              · refine Or.inr ⟨by omega, ?_⟩
                rw [List.getElem_drop]
                have hx : s.data.toList[i + (k - i)]'(by rw [Array.length_toList]; omega) = s[k] := by
                  simp only [show i + (k - i) = k by omega]
                  rfl
                rw [hx]
                cases hl : isLow s[k] with
                | false => rfl
                | true => exact absurd ⟨hk, hl⟩ hgo
              · exact Or.inl (by omega))
            rw [List.drop_drop, show i + (k - i) = k by omega] at this
            exact this
          have hcase : (¬ k < s.size) ∨ (∃ h : k < s.size, ¬ (96 : Int) < (s[k].toNat : Int)) ∨ (∃ h : k < s.size, (96 : Int) < (s[k].toNat : Int) ∧ ¬ (s[k].toNat : Int) < 123) := by
            by_cases hk : k < s.size
            · refine Or.inr ?_
              by_cases h1 : (96 : Int) < (s[k].toNat : Int)
              · refine Or.inr ⟨hk, h1, fun h2 => hgo ⟨hk, ?_⟩⟩
                simp only [isLow, Bool.and_eq_true, decide_eq_true_eq]
                omega
              · exact Or.inl ⟨hk, h1⟩
            · exact Or.inl hk
          have HSL : Hid (∀ W : World, (Instr.slice 9 (.string s) (some (i64 i)) (some (i64 k)) none).run Tryd.prog W = .ok (str ((s.data.toList.drop i).take (k - i))) W) := fun W => sl_lk W s i k hik hks
          have HLN : Hid (((s.data.toList.drop i).take (k - i)).length ≤ maxLen) := by
            show _ ≤ _
            have : ((s.data.toList.drop i).take (k - i)).length ≤ k - i := List.length_take_le _ _
            unfold maxLen
            omega
          have HST := hid (recD_step (takeD f) (12 - j) (s.data.toList.drop i) _ _ N (Ks.map (·.1)) HEX.out.1 HEX.out.2)
          have HRs3 : Hid (res = if hdB (s.data.toList.drop k) 58 = true then recDm (takeD f) (12 - j) (N ++ [(s.data.toList.drop i).take (k - i)]) (Ks.map (·.1)) (takeD f (s.data.toList.drop k).tail) else none) := HRs2.out.trans HST.out
          generalize (s.data.toList.drop i).take (k - i) = nm at *
          clear HEX HST HRs2 HP hgo
          cases h58 : hdB (s.data.toList.drop k) 58 with
          | false =>
            rcases hcase with hk | ⟨hk, h1⟩ | ⟨hk, h1, h2⟩
            all_goals
              have HRes : Hid (res = none) := by show _ = _; rw [HRs3.out, h58]; rfl
              have HI5 : Hid (Calls Tryd.prog 44 #[.string s, i64 (k : Nat), .int .u8 58] wr fun e w' => e = .returned (.bool false) ∧ w' = wr) := by
                have := is_s s k 58 wr
                rw [h58] at this
                exact this
              clear h58 HRs3
              go_wp2_with fail
              refine HI5.out.mono ?_
              rintro e v9 ⟨rfl, hv9⟩
              replace hv9 := hv9.symm
              subst hv9
              have rc0 : wr.cell? ⟨R, 0, none⟩ = some (i64 0) := blk_cell HI.out.hR 0
              have rf0 : wr.frozen? ⟨R, 0, none⟩ = false := blk_frozen HI.out.hR 0
              have rc1 : wr.cell? ⟨R, 1, none⟩ = some (i64 0) := blk_cell HI.out.hR 1
              have rf1 : wr.frozen? ⟨R, 1, none⟩ = false := blk_frozen HI.out.hR 1
              have rc2 : wr.cell? ⟨R, 2, none⟩ = some (.slice none 0 0) := blk_cell HI.out.hR 2
              have rf2 : wr.frozen? ⟨R, 2, none⟩ = false := blk_frozen HI.out.hR 2
              have rc3 : wr.cell? ⟨R, 3, none⟩ = some (.slice none 0 0) := blk_cell HI.out.hR 3
              have rf3 : wr.frozen? ⟨R, 3, none⟩ = false := blk_frozen HI.out.hR 3
              have rc4 : wr.cell? ⟨R, 4, none⟩ = some (i64 0) := blk_cell HI.out.hR 4
              have rf4 : wr.frozen? ⟨R, 4, none⟩ = false := blk_frozen HI.out.hR 4
              go_wp2_with fail
              refine bodyPost_ret (v := gotV 0 0 (.slice none 0 0) (.slice none 0 0) (-1)) (results_one Tryd.results45 rfl (load63 (set5 HI.out.hR _ _ _ _ _))) rfl ?_
              exact ⟨below5 HI.out.bb HW.out.r _ _ _ _ _, fun _ => rfl, fun T r h => by rw [HRes.out] at h; cases h⟩
          | true =>
            have hks1 : k + 1 ≤ s.size := by
              by_cases h : k < s.size
              · exact h
              · rw [drop_end s k (by omega)] at h58; cases h58
            rcases hcase with hk | ⟨hk, h1⟩ | ⟨hk, h1, h2⟩
            · exact absurd hks1 hk
            all_goals
              obtain ⟨ro, hro⟩ : ∃ ro, ro = takeD f (s.data.toList.drop k).tail := ⟨_, rfl⟩
              have HRs4 : Hid (res = recDm (takeD f) (12 - j) (N ++ [nm]) (Ks.map (·.1)) ro) := by show _ = _; rw [HRs3.out, h58, hro]; rfl
              have HTK : Hid (Calls Tryd.prog 33 #[.string s, i64 ((k : Int) + 1), i64 (D - 1)] wr (Gok wr s.size ro)) := by
                have := HTK0.out wr (k + 1) hks1
                rw [← List.tail_drop, ← hro] at this
                rw [HDe.out, show (((f + 1 : Nat) : Int) - 1) = ((f : Nat) : Int) by omega]
                exact this
              have HSufx : Hid (∀ T rr, ro = some (T, rr) → s.data.toList.drop (s.size - rr.length) = rr ∧ rr.length + (k + 1) ≤ s.size) := by
                show ∀ T rr, _ → _
                intro T rr h
                have h1 := takeD_suf f _ T rr (hro ▸ h)
                rw [List.tail_drop] at h1
                exact ⟨suf_drop h1, by have := suf_le h1; omega⟩
              have HI5 : Hid (Calls Tryd.prog 44 #[.string s, i64 (k : Nat), .int .u8 58] wr fun e w' => e = .returned (.bool true) ∧ w' = wr) := by
                have := is_s s k 58 wr
                rw [h58] at this
                exact this
              clear h58 HRs3 hro
              go_wp2_with fail
              refine HI5.out.mono ?_
              rintro e v9 ⟨rfl, hv9⟩
              replace hv9 := hv9.symm
              subst hv9
              go_wp2_with fail
              refine HTK.out.mono ?_
              rintro e w2 ⟨hb2, hno, hyes⟩
              have HI2 := hid (HI.out.below hb2)
              have HNO := hid hno
              have HYES := hid hyes
              have HZ1 : Hid (w.heap.size ≤ wr.heap.size) := HI.out.bb.size
              have HZ2 : Hid (wr.heap.size ≤ w2.heap.size) := hb2.size
              clear hb2 hno hyes HTK y3
              rcases hre : ro with _ | ⟨T, rr⟩
              · obtain rfl := HNO.out hre
                have HRes : Hid (res = none) := by show _ = _; rw [HRs4.out, hre]; rfl
                have HI3 := hid (HI2.out.below (below_one w2 (.cells #[i64 0, i64 0, .slice none 0 0, .slice none 0 0, i64 (-1)] 63)))
                have HG3 : Hid ((w2.alloc (.cells #[i64 0, i64 0, .slice none 0 0, .slice none 0 0, i64 (-1)] 63)).heap[w2.heap.size]? = some (.cells #[i64 0, i64 0, .slice none 0 0, .slice none 0 0, i64 (-1)] 63)) := heap_last w2 _
                clear hre
                go_upto_region 10 with fail
                obtain ⟨G, hG⟩ : ∃ G, G = w2.heap.size := ⟨_, rfl⟩
                rw [← hG] at HG3 ⊢
                clear hG
                generalize w2.alloc (.cells #[i64 0, i64 0, .slice none 0 0, .slice none 0 0, i64 (-1)] 63) = X at *
                have g4 : X.cell? ⟨G, 4, none⟩ = some (i64 (-1)) := blk_cell HG3.out 4
                have rc0 : X.cell? ⟨R, 0, none⟩ = some (i64 0) := blk_cell HI3.out.hR 0
                have rf0 : X.frozen? ⟨R, 0, none⟩ = false := blk_frozen HI3.out.hR 0
                have rc1 : X.cell? ⟨R, 1, none⟩ = some (i64 0) := blk_cell HI3.out.hR 1
                have rf1 : X.frozen? ⟨R, 1, none⟩ = false := blk_frozen HI3.out.hR 1
                have rc2 : X.cell? ⟨R, 2, none⟩ = some (.slice none 0 0) := blk_cell HI3.out.hR 2
                have rf2 : X.frozen? ⟨R, 2, none⟩ = false := blk_frozen HI3.out.hR 2
                have rc3 : X.cell? ⟨R, 3, none⟩ = some (.slice none 0 0) := blk_cell HI3.out.hR 3
                have rf3 : X.frozen? ⟨R, 3, none⟩ = false := blk_frozen HI3.out.hR 3
                have rc4 : X.cell? ⟨R, 4, none⟩ = some (i64 0) := blk_cell HI3.out.hR 4
                have rf4 : X.frozen? ⟨R, 4, none⟩ = false := blk_frozen HI3.out.hR 4
                go_wp2_with fail
                refine bodyPost_ret (v := gotV 0 0 (.slice none 0 0) (.slice none 0 0) (-1)) (results_one Tryd.results45 rfl (load63 (set5 HI3.out.hR _ _ _ _ _))) rfl ?_
                exact ⟨below5 HI3.out.bb HW.out.r _ _ _ _ _, fun _ => rfl, fun T r h => by rw [HRes.out] at h; cases h⟩
              · obtain ⟨b1, n1, c1, b2, n2, c2, rfl, hrd⟩ := HYES.out T rr hre
                obtain ⟨hS1, hS2⟩ := HSufx.out T rr hre
                have HRs5 : Hid (res = recDe (takeD f) (12 - j) (N ++ [nm]) (Ks.map (·.1) ++ [T]) rr) := by show _ = _; rw [HRs4.out, hre]; rfl
                obtain ⟨F, hF⟩ : ∃ F, F = s.size - rr.length := ⟨_, rfl⟩
                rw [← hF] at hS1 ⊢
                have hF1 : F ≤ 1000000 := by omega
                have hF2 : k + 1 ≤ F := by omega
                have HFe := hid hF
                have HSx := hid hS1
                have HSl := hid hS2
                have HI3 := hid (HI2.out.below (below_one w2 (.cells #[i64 T.kind, i64 T.num, .slice b1 n1 c1, .slice b2 n2 c2, i64 F] 63)))
                have HG3 : Hid ((w2.alloc (.cells #[i64 T.kind, i64 T.num, .slice b1 n1 c1, .slice b2 n2 c2, i64 F] 63)).heap[w2.heap.size]? = some (.cells #[i64 T.kind, i64 T.num, .slice b1 n1 c1, .slice b2 n2 c2, i64 F] 63)) := heap_last w2 _
                have HRD : Hid (Rd (w2.alloc (.cells #[i64 T.kind, i64 T.num, .slice b1 n1 c1, .slice b2 n2 c2, i64 F] 63)) (fun b => Avj w.heap.size R Tb (.slice an j cn) b ∧ some b ≠ (Value.slice ak j ck).ownBlock) T (.slice b1 n1 c1) (.slice b2 n2 c2)) := by
                  show Rd _ _ _ _ _
                  have t2 := blk_lt HI.out.hR
                  have t3 := blk_lt HI.out.hT
                  have t4 := HZ1.out
                  refine hrd.move (below_one w2 _).size fun b hb hlt => ⟨⟨⟨by omega, by omega, by omega, fun e => ?_⟩, fun e => ?_⟩, (below_one w2 _).block b hlt⟩
                  · have := (HI.out.on.lt b e.symm).2; omega
                  · have := (HI.out.ok.own.lt b e.symm).2; omega
                clear hre hF hS1 hS2 hrd HRs4 HSufx HI HI2
                go_upto_region 10 with fail
                obtain ⟨G, hG⟩ : ∃ G, G = w2.heap.size := ⟨_, rfl⟩
                rw [← hG] at HG3 ⊢
                clear hG
                generalize w2.alloc (.cells #[i64 T.kind, i64 T.num, .slice b1 n1 c1, .slice b2 n2 c2, i64 F] 63) = X at *
                have g4 : X.cell? ⟨G, 4, none⟩ = some (i64 F) := blk_cell HG3.out 4
                go_upto_region 12 with fail
                have hpush := recj_push HW.out (HI3.out.below (show Below X.heap.size X X.drew from ⟨rfl, rfl, rfl, Nat.le_refl _, fun _ _ => rfl⟩)) T b1 n1 c1 b2 n2 c2 (HRD.out.under ⟨rfl, rfl, rfl, Nat.le_refl _, fun _ _ => rfl⟩) nm HLN.out hlt G _ HG3.out
                obtain ⟨ao1, cap1, Y1, ao2, cap2, Y3, hrun1, hT1, hT2, hK2, hrun2, hT3, hI5, hK5, _⟩ := hpush
                have HRUN1 := hid hrun1
                have HRUN2 := hid hrun2
                have HI5 := hid hI5
                have HSX : Hid ((fun W : World => W.heap[Tb]? = some (recJ (.slice an j cn) (.slice ak j ck))) X.drew) := HI3.out.hT
                have HTY1 := hid hT1
                have HTY2 := hid hT2
                have HKY2 := hid hK2
                have HTY3 := hid hT3
                have HKY5 := hid hK5
                clear hrun1 hrun2 hT1 hT2 hK2 hT3 hI5 hK5 HRD g4
                have hsl := HSL.out
                refine wp_region_noPanic ?_
                refine wp_region_last (fun W => W.heap[Tb]? = some (recJ (.slice an j cn) (.slice ak j ck))) 9 (by kernel_rfl) ?_
                refine wpL_take 0 51 (.pointer (some ⟨Tb, 2, none⟩)) [] rfl rfl (by kernel_rfl) (by decide) (by kernel_rfl) (by kernel_rfl) (by kernel_rfl) (fun _ _ _ h => h) HSX.out (by rfl) (fun W hW => by go_simp) ?_
                simp only [Act.put, List.setIfInBounds_toArray, List.set_cons_zero, List.set_cons_succ]
                refine wpL_take 1 52 (.slice an j cn) [] rfl rfl (by kernel_rfl) (by decide) (by kernel_rfl) (by kernel_rfl) (by kernel_rfl) (fun _ _ _ h => h) HSX.out (by rfl) (fun W hW => by have d0 : W.cell? ⟨Tb, 2, none⟩ = some (.slice an j cn) := blk_cell hW 2; go_simp) ?_
                simp only [Act.put, List.setIfInBounds_toArray, List.set_cons_zero, List.set_cons_succ]
                refine wpL_take 2 53 (.string s) [] rfl rfl (by kernel_rfl) (by decide) (by kernel_rfl) (by kernel_rfl) (by kernel_rfl) (fun _ _ _ h => h) HSX.out (by rfl) (fun W hW => by go_simp) ?_
                simp only [Act.put, List.setIfInBounds_toArray, List.set_cons_zero, List.set_cons_succ]
                refine wpL_take 3 54 (i64 i) [] rfl rfl (by kernel_rfl) (by decide) (by kernel_rfl) (by kernel_rfl) (by kernel_rfl) (fun _ _ _ h => h) HSX.out (by rfl) (fun W hW => by go_simp) ?_
                simp only [Act.put, List.setIfInBounds_toArray, List.set_cons_zero, List.set_cons_succ]
                refine wpL_take 4 55 (i64 k) [] rfl rfl (by kernel_rfl) (by decide) (by kernel_rfl) (by kernel_rfl) (by kernel_rfl) (fun _ _ _ h => h) HSX.out (by rfl) (fun W hW => by go_simp) ?_
                simp only [Act.put, List.setIfInBounds_toArray, List.set_cons_zero, List.set_cons_succ]
                refine wpL_take 5 56 (str nm) [] rfl rfl (by kernel_rfl) (by decide) (by kernel_rfl) (by kernel_rfl) (by kernel_rfl) (fun _ _ _ h => h) HSX.out (by rfl) (fun W hW => by have hs2 := hsl W; go_simp) ?_
                simp only [Act.put, List.setIfInBounds_toArray, List.set_cons_zero, List.set_cons_succ]
                clear hsl
                have HSA : Hid ((fun W : World => W.heap[Tb]? = some (recJ (.slice an j cn) (.slice ak j ck))) (X.drew.alloc (.cells #[str nm] 9))) := blk_alloc HSX.out _
                refine wpL_one 6 rfl (by kernel_rfl) (by rfl) (fun K hK => ?_)
                go_simp
                refine hK.out _ _ (fun _ => HSA.out) ?_
                clear hK K
                refine wpL_one 7 rfl (by kernel_rfl) (by rfl) (fun K hK => ?_)
                refine wp_app_run (.tmp 52) (.tmp 57) 22 rfl _ _ (by rfl) (by rfl) _ rfl _ _ HRUN1.out ?_
                refine hK.out _ _ (fun _ => HTY1.out) ?_
                clear hK K
                simp only [Act.put, List.setIfInBounds_toArray]
                refine wpL_take 8 59 (.pointer (some ⟨Tb, 2, none⟩)) [] rfl rfl (by kernel_rfl) (by decide) (by kernel_rfl) (by kernel_rfl) (by kernel_rfl) (fun _ _ _ h => h) HTY1.out (by rfl) (fun W hW => by go_simp) ?_
                simp only [Act.put]
                have u2 : Y1.cell? ⟨Tb, 2, none⟩ = some (.slice an j cn) := blk_cell HTY1.out 2
                have uf2 : Y1.frozen? ⟨Tb, 2, none⟩ = false := blk_frozen HTY1.out 2
                refine wpL_one 9 rfl (by kernel_rfl) (by rfl) (fun K hK => ?_)
                go_simp
                refine hK.out _ _ (fun h => absurd rfl h) ?_
                clear hK K
                refine wpL_done (by kernel_rfl) ?_
                refine NoPanic.normal ?_
                generalize Y1.setCell ⟨Tb, 2, none⟩ (.slice ao1 (j + 1) cap1) = Y2 at *
                clear u2 uf2
                have kc0 : Y2.cell? ⟨G, 0, none⟩ = some (i64 T.kind) := blk_cell HKY2.out 0
                have kc1 : Y2.cell? ⟨G, 1, none⟩ = some (i64 T.num) := blk_cell HKY2.out 1
                have kc2 : Y2.cell? ⟨G, 2, none⟩ = some (.slice b1 n1 c1) := blk_cell HKY2.out 2
                have kc3 : Y2.cell? ⟨G, 3, none⟩ = some (.slice b2 n2 c2) := blk_cell HKY2.out 3
                have v3 : Y2.cell? ⟨Tb, 3, none⟩ = some (.slice ak j ck) := blk_cell HTY2.out 3
                have s3 : Y3.cell? ⟨Tb, 3, none⟩ = some (.slice ak j ck) := blk_cell HTY3.out 3
                have sf3 : Y3.frozen? ⟨Tb, 3, none⟩ = false := blk_frozen HTY3.out 3
                go_upto_region 14 with (at_builtin; refine wpList_app_run rfl (.tmp 61) (.tmp 64) 35 rfl _ _ rfl rfl 35 rfl _ _ HRUN2.out ?_)
                generalize Y3.setCell ⟨Tb, 3, none⟩ (.slice ao2 (j + 1) cap2) = Y4 at *
                clear v3 s3 sf3 kc0 kc1 kc2 kc3 HRUN1 HRUN2 HTY1 HTY2 HTY3 HKY2 HSA HSX HI3 HG3
                have g4 : Y4.cell? ⟨G, 4, none⟩ = some (i64 F) := blk_cell HKY5.out 4
                cases h41 : hdB rr 41 with
                | true =>
                  have HI6 : Hid (Calls Tryd.prog 44 #[.string s, i64 (F : Nat), .int .u8 41] Y4 fun e w' => e = .returned (.bool true) ∧ w' = Y4) := by
                    have := is_s s F 41 Y4
                    rw [HSx.out, h41] at this
                    exact this
                  have HRes : Hid (res = some (.mk 4 0 (N ++ [nm]) ((Ks ++ [((T, Value.slice b1 n1 c1, Value.slice b2 n2 c2) : Kd)]).map (·.1)), rr.tail)) := by
                    show _ = _
                    rw [HRs5.out, List.map_append, recDe, h41, if_pos rfl]
                    rfl
                  have HEnd : Hid (((s.size - rr.tail.length : Nat) : Int) = (F : Int) + 1) := by
                    show _ = _
                    have h1 := HFe.out
                    have h2 := HSl.out
                    cases rr with
                    | nil => cases h41
                    | cons c r3 =>
                      rw [List.length_cons] at h1 h2
                      show ((s.size - r3.length : Nat) : Int) = _
                      omega
                  clear h41 HRs5
                  have rc0 : Y4.cell? ⟨R, 0, none⟩ = some (i64 0) := blk_cell HI5.out.hR 0
                  have rf0 : Y4.frozen? ⟨R, 0, none⟩ = false := blk_frozen HI5.out.hR 0
                  have rc1 : Y4.cell? ⟨R, 1, none⟩ = some (i64 0) := blk_cell HI5.out.hR 1
                  have rf1 : Y4.frozen? ⟨R, 1, none⟩ = false := blk_frozen HI5.out.hR 1
                  have rc2 : Y4.cell? ⟨R, 2, none⟩ = some (.slice none 0 0) := blk_cell HI5.out.hR 2
                  have rf2 : Y4.frozen? ⟨R, 2, none⟩ = false := blk_frozen HI5.out.hR 2
                  have rc3 : Y4.cell? ⟨R, 3, none⟩ = some (.slice none 0 0) := blk_cell HI5.out.hR 3
                  have rf3 : Y4.frozen? ⟨R, 3, none⟩ = false := blk_frozen HI5.out.hR 3
                  have rc4 : Y4.cell? ⟨R, 4, none⟩ = some (i64 0) := blk_cell HI5.out.hR 4
                  have rf4 : Y4.frozen? ⟨R, 4, none⟩ = false := blk_frozen HI5.out.hR 4
                  have tc0 : Y4.cell? ⟨Tb, 0, none⟩ = some (i64 4) := blk_cell HI5.out.hT 0
                  have tc1 : Y4.cell? ⟨Tb, 1, none⟩ = some (i64 0) := blk_cell HI5.out.hT 1
                  have tc2 : Y4.cell? ⟨Tb, 2, none⟩ = some (.slice ao1 (j + 1) cap1) := blk_cell HI5.out.hT 2
                  have tc3 : Y4.cell? ⟨Tb, 3, none⟩ = some (.slice ao2 (j + 1) cap2) := blk_cell HI5.out.hT 3
                  go_wp2_with fail
                  refine HI6.out.mono ?_
                  rintro e v9 ⟨rfl, hv9⟩
                  replace hv9 := hv9.symm
                  subst hv9
                  go_wp2_with fail
                  refine bodyPost_ret (v := gotV 4 0 (.slice ao1 (j + 1) cap1) (.slice ao2 (j + 1) cap2) (F + 1)) (results_one Tryd.results45 rfl (load63 (set5 HI5.out.hR _ _ _ _ _))) rfl ?_
                  refine ⟨below5 HI5.out.bb HW.out.r _ _ _ _ _, fun h => (by rw [HRes.out] at h; cases h), fun T' r' h => ?_⟩
                  rw [HRes.out] at h
                  cases h
                  exact ⟨ao1, j + 1, cap1, ao2, j + 1, cap2, by rw [HEnd.out]; rfl, HI5.out.rd _ _ _ _ _⟩
                | false =>
                  have HI6 : Hid (Calls Tryd.prog 44 #[.string s, i64 (F : Nat), .int .u8 41] Y4 fun e w' => e = .returned (.bool false) ∧ w' = Y4) := by
                    have := is_s s F 41 Y4
                    rw [HSx.out, h41] at this
                    exact this
                  cases h44 : hdB rr 44 with
                  | false =>
                    have HI7 : Hid (Calls Tryd.prog 44 #[.string s, i64 (F : Nat), .int .u8 44] Y4 fun e w' => e = .returned (.bool false) ∧ w' = Y4) := by
                      have := is_s s F 44 Y4
                      rw [HSx.out, h44] at this
                      exact this
                    have HRes : Hid (res = none) := by show _ = _; rw [HRs5.out, recDe, h41, h44]; rfl
                    clear h41 h44 HRs5
                    go_wp2_with fail
                    refine HI6.out.mono ?_
                    rintro e v9 ⟨rfl, hv9⟩
                    replace hv9 := hv9.symm
                    subst hv9
                    go_wp2_with fail
                    refine HI7.out.mono ?_
                    rintro e v9 ⟨rfl, hv9⟩
                    replace hv9 := hv9.symm
                    subst hv9
                    have rc0 : Y4.cell? ⟨R, 0, none⟩ = some (i64 0) := blk_cell HI5.out.hR 0
                    have rf0 : Y4.frozen? ⟨R, 0, none⟩ = false := blk_frozen HI5.out.hR 0
                    have rc1 : Y4.cell? ⟨R, 1, none⟩ = some (i64 0) := blk_cell HI5.out.hR 1
                    have rf1 : Y4.frozen? ⟨R, 1, none⟩ = false := blk_frozen HI5.out.hR 1
                    have rc2 : Y4.cell? ⟨R, 2, none⟩ = some (.slice none 0 0) := blk_cell HI5.out.hR 2
                    have rf2 : Y4.frozen? ⟨R, 2, none⟩ = false := blk_frozen HI5.out.hR 2
                    have rc3 : Y4.cell? ⟨R, 3, none⟩ = some (.slice none 0 0) := blk_cell HI5.out.hR 3
                    have rf3 : Y4.frozen? ⟨R, 3, none⟩ = false := blk_frozen HI5.out.hR 3
                    have rc4 : Y4.cell? ⟨R, 4, none⟩ = some (i64 0) := blk_cell HI5.out.hR 4
                    have rf4 : Y4.frozen? ⟨R, 4, none⟩ = false := blk_frozen HI5.out.hR 4
                    go_wp2_with fail
                    refine bodyPost_ret (v := gotV 0 0 (.slice none 0 0) (.slice none 0 0) (-1)) (results_one Tryd.results45 rfl (load63 (set5 HI5.out.hR _ _ _ _ _))) rfl ?_
                    exact ⟨below5 HI5.out.bb HW.out.r _ _ _ _ _, fun _ => rfl, fun T r h => by rw [HRes.out] at h; cases h⟩
                  | true =>
                    have HI7 : Hid (Calls Tryd.prog 44 #[.string s, i64 (F : Nat), .int .u8 44] Y4 fun e w' => e = .returned (.bool true) ∧ w' = Y4) := by
                      have := is_s s F 44 Y4
                      rw [HSx.out, h44] at this
                      exact this
                    have HTl : Hid (s.data.toList.drop (F + 1) = rr.tail ∧ F + 1 ≤ s.size) := by
                      show _ ∧ _
                      have h1 := HFe.out
                      have h2 := HSl.out
                      refine ⟨by rw [← List.tail_drop, HSx.out], ?_⟩
                      cases rr with
                      | nil => cases h44
                      | cons c r3 =>
                        rw [List.length_cons] at h1 h2
                        omega
                    have HRs6 : Hid (res = recD (takeD f) (13 - (j + 1)) (s.data.toList.drop (F + 1)) (N ++ [nm]) ((Ks ++ [((T, Value.slice b1 n1 c1, Value.slice b2 n2 c2) : Kd)]).map (·.1))) := by
                      show _ = _
                      rw [HRs5.out, List.map_append, recDe, h41, h44, HTl.out.1, show 13 - (j + 1) = 12 - j by omega]
                      rfl
                    clear h41 h44 HRs5
                    go_wp2_with fail
                    refine HI6.out.mono ?_
                    rintro e v9 ⟨rfl, hv9⟩
                    replace hv9 := hv9.symm
                    subst hv9
                    go_wp2_with fail
                    refine HI7.out.mono ?_
                    rintro e v9 ⟨rfl, hv9⟩
                    replace hv9 := hv9.symm
                    subst hv9
                    go_wp2_with fail
                    have hF3 := HTl.out.2
                    exact ⟨⟨F + 1, j + 1, _, _, _, _, hF3, by omega, by go_num, HI5, HRs6⟩, by simp [intOf]; omega⟩
    · have HRes : Hid (res = none) := by
        show _ = _
        rw [HRs.out, show 13 - j = 0 by omega]
        rfl
      have rc0 : wr.cell? ⟨R, 0, none⟩ = some (i64 0) := blk_cell HI.out.hR 0
      have rf0 : wr.frozen? ⟨R, 0, none⟩ = false := blk_frozen HI.out.hR 0
      have rc1 : wr.cell? ⟨R, 1, none⟩ = some (i64 0) := blk_cell HI.out.hR 1
      have rf1 : wr.frozen? ⟨R, 1, none⟩ = false := blk_frozen HI.out.hR 1
      have rc2 : wr.cell? ⟨R, 2, none⟩ = some (.slice none 0 0) := blk_cell HI.out.hR 2
      have rf2 : wr.frozen? ⟨R, 2, none⟩ = false := blk_frozen HI.out.hR 2
      have rc3 : wr.cell? ⟨R, 3, none⟩ = some (.slice none 0 0) := blk_cell HI.out.hR 3
      have rf3 : wr.frozen? ⟨R, 3, none⟩ = false := blk_frozen HI.out.hR 3
      have rc4 : wr.cell? ⟨R, 4, none⟩ = some (i64 0) := blk_cell HI.out.hR 4
      have rf4 : wr.frozen? ⟨R, 4, none⟩ = false := blk_frozen HI.out.hR 4
      go_wp2_with fail
      refine bodyPost_ret (v := gotV 0 0 (.slice none 0 0) (.slice none 0 0) (-1)) (results_one Tryd.results45 rfl (load63 (set5 HI.out.hR _ _ _ _ _))) rfl ?_
      exact ⟨below5 HI.out.bb HW.out.r _ _ _ _ _, fun _ => rfl, fun T r h => by rw [HRes.out] at h; cases h⟩
theorem tkd_any (s : ByteArray) (hs : s.size ≤ 1000000) : ∀ (f : Nat), f ≤ 6 → ∀ (w : World) (k : Nat), k ≤ s.size → Calls Tryd.prog 33 #[.string s, i64 (k : Nat), i64 (f : Nat)] w (Gok w s.size (takeD f (s.data.toList.drop k)))
  | 0, _, w, k, _ => tk_zero s k _ w
  | f + 1, hf, w, k, hk => by
    have hf5 : f ≤ 5 := by omega
    have ih := tkd_any s hs f (by omega)
    by_cases ha : k < s.size
    · by_cases h114 : s[k].toNat = 114
      · cases h40 : hdB (s.data.toList.drop (k + 1)) 40 with
        | true =>
          refine tk_rec s k f w hs hf5 ha h114 h40 (fun w' => fields_ok s (k + 2) f w' hs hf5 ?_ ih)
          by_cases h : k + 1 < s.size
          · omega
          · rw [drop_end s (k + 1) (by omega)] at h40; cases h40
        | false =>
          rcases hn : numD (s.data.toList.drop (k + 1)) with _ | ⟨n, r⟩
          · exact tk_r0 s k f w hs hf5 ha h114 h40 hn
          · exact tk_r1 s k f w hs hf5 ha h114 h40 n r hn
      · rcases hn : numD (s.data.toList.drop (k + 1)) with _ | ⟨n, r⟩
        · exact tk_n s k f w hs hf5 ha h114 hn
        · by_cases h105 : s[k].toNat = 105
          · exact tk_i s k f w hs hf5 ha h105 n r hn
          · by_cases h116 : s[k].toNat = 116
            · exact tk_t s k f w hs hf5 ha h116 n r hn
            · by_cases h108 : s[k].toNat = 108
              · cases h40 : hdB r 40 with
                | true => exact tk_l1 s k f w hs hf5 ha h108 n r hn h40 ih
                | false => exact tk_l0 s k f w hs hf5 ha h108 n r hn h40
              · exact tk_x s k f w hs hf5 ha h114 h105 h116 h108 n r hn
    · exact tk_end s k f w hf5 (by omega)
end Go.Proofs.YteecjilknembdaaDoor
