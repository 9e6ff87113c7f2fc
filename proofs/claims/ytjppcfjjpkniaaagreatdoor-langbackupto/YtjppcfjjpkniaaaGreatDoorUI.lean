/- Texts Fs Dg Pl Pl4 Lg2 Ps in one; no statement is proved in this text. -/
import Derived.Test.YtjppcfjjpkniaaaGreatDoorUH
import Derived.Test.YtjppcfjjpkniaaaGreatDoorUD
import Derived.Lib.ItoaLen
import Derived.Test.YtjppcfjjpkniaaaGreatDoorUE
import Derived.Test.YtjppcfjjpkniaaaGreatDoorUB
import Derived.Test.YtjppcfjjpkniaaaGreatDoorUA
namespace Go.Proofs.YtjppcfjjpkniaaaGreatDoor
open Go.ChangeShapes Go.WideShapes Go.ChangeAt Go.RowKit Go.Deep
attribute [local go_sem ↓] Go.wp_at_zero Go.wp_at_succ

theorem sl_lk (w : World) (s : ByteArray) (j k : Nat) (hj : j ≤ k) (h : k ≤ s.size) : (Instr.slice 9 (.string s) (some (i64 j)) (some (i64 k)) none).run Tryz.prog w = .ok (str ((s.data.toList.drop j).take (k - j))) w := by
  have h1 : (0 : Int) ≤ (k : Int) := by omega
  have h2 : (k : Int) ≤ s.size := by omega
  have h3 : (0 : Int) ≤ j := by omega
  have e : (k : Int).toNat = k := by omega
  have hb := run_sliceBound (P := Tryz.prog) w .i64 (j : Int) k .sliceB h3 (by omega)
  have hx : s.extract j k = ⟨((s.data.toList.drop j).take (k - j)).toArray⟩ := by
    apply ByteArray.ext
    rw [ByteArray.data_extract]
    apply Array.ext'
    simp [List.extract_eq_take_drop]
  simp [Instr.slice, run_underlying Tryz.underlying9, Instr.sliceBounds, run_sliceBound, h1, h2, e]
  rw [hb]
  simp [hx]
set_option maxRecDepth 100000 in
set_option maxHeartbeats 12800000 in
theorem fields_ok (s : ByteArray) (a0 f : Nat) (w : World) (hs : s.size ≤ 30000000) (hf : f ≤ 5) (ha : a0 ≤ s.size)
    (htk : ∀ w k, k ≤ s.size → Calls Tryz.prog 68 #[.string s, i64 (k : Nat), i64 (f : Nat)] w (Gok w s.size (takeD f (s.data.toList.drop k)))) : Calls Tryz.prog 89 #[.string s, i64 a0, i64 (f + 1 : Nat)] w (Gok w s.size (recD (takeD f) 13 (s.data.toList.drop a0) [] [])) := by
  obtain ⟨res, hres⟩ : ∃ res, res = recD (takeD f) 13 (s.data.toList.drop a0) [] [] := ⟨_, rfl⟩
  rw [← hres]
  have HRes0 := hid hres
  have HTK0 := hid htk
  clear hres htk
  obtain ⟨D, hD⟩ : ∃ D : Int, D = ((f + 1 : Nat) : Int) := ⟨_, rfl⟩
  have hD1 : 1 ≤ D := by omega
  have hD6 : D ≤ 6 := by omega
  have HDe := hid hD
  have qD : (D == 0) = false := by simp; omega
  rw [← hD]
  clear hD
  have HX : Hid ((w.alloc (.cells #[i64 0, i64 0, .slice none 0 0, .slice none 0 0, i64 0] 139)).heap[w.heap.size]? = some (.cells #[i64 0, i64 0, .slice none 0 0, .slice none 0 0, i64 0] 139)) := heap_last w _
  have HBV : Hid (Below w.heap.size w (w.alloc (.cells #[i64 0, i64 0, .slice none 0 0, .slice none 0 0, i64 0] 139))) := below_one w _
  go_enter Tryz.func89, Tryz.ntmps89
  go_upto_region 1 with fail
  obtain ⟨R, hR⟩ : ∃ R, R = w.heap.size := ⟨_, rfl⟩
  have HRe : Hid (w.heap.size ≤ R) := by show _ ≤ _; omega
  rw [← hR] at HX ⊢
  clear hR
  generalize w.alloc (.cells #[i64 0, i64 0, .slice none 0 0, .slice none 0 0, i64 0] 139) = V at *
  have HB1 : Hid (Below V.heap.size V (V.alloc (recJ (.slice none 0 0) (.slice none 0 0)))) := below_one V _
  have HX1 : Hid ((V.alloc (recJ (.slice none 0 0) (.slice none 0 0))).heap[V.heap.size]? = some (recJ (.slice none 0 0) (.slice none 0 0))) := heap_last V _
  go_upto_region 2 with fail
  obtain ⟨Tb, hTb⟩ : ∃ Tb, Tb = V.heap.size := ⟨_, rfl⟩
  have HTe := hid hTb
  rw [← hTb] at HX1 ⊢
  clear hTb
  have HW : Hid (LowJ w R Tb) := ⟨HRe.out, by rw [HTe.out]; exact HBV.out.size, by have := blk_lt HX.out; have := HTe.out; omega⟩
  have HI0 : Hid (RecJ w (V.alloc (recJ (.slice none 0 0) (.slice none 0 0))) R Tb 0 [] [] (.slice none 0 0) (.slice none 0 0)) :=
    ⟨blk_below HX.out HB1.out, HX1.out, ⟨rfl, Or.inl ⟨rfl, rfl⟩⟩, KidsR.nil _ _ _ _, by simp [Value.ownBlock], rfl, rfl, (fun x hx => by cases hx), HBV.out.trans (HB1.out.mono HBV.out.size)⟩
  generalize V.alloc (recJ (.slice none 0 0) (.slice none 0 0)) = V1 at *
  clear HX1 HB1 HX HBV HTe
  go_wp2_with fail
  go_loopw [8] (fun u wr => ∃ (i j : Nat) (N : List Bs) (Ks : List Kd) (nv kv : Value), i ≤ s.size ∧ j ≤ 13 ∧ u = i64 i ∧ Hid (RecJ w wr R Tb j N Ks nv kv) ∧ Hid (res = recD (takeD f) (13 - j) (s.data.toList.drop i) N (Ks.map (·.1)))) (fun u _ => s.size - (intOf u).toNat)
  case atStart => exact ⟨a0, 0, [], [], _, _, ha, by omega, rfl, HI0, HRes0⟩
  case round =>
    obtain ⟨i, j, N, Ks, nv, kv, hi, hj, rfl, HI, HRs⟩ := hrel
    obtain ⟨⟨an, cn, rfl⟩, ak, ck, rfl⟩ := HI.out.nvF
    have y3 : wr.cell? ⟨Tb, 3, none⟩ = some (.slice ak j ck) := blk_cell HI.out.hT 3
    by_cases hlt : j < 13
    · have HRs2 : Hid (res = recD (takeD f) ((12 - j) + 1) (s.data.toList.drop i) N (Ks.map (·.1))) := by show _ = _; rw [HRs.out]; congr 1; omega
      clear HRs
      go_wp2_with fail
      go_loop [9] (fun u => ∃ k : Nat, i ≤ k ∧ k ≤ s.size ∧ u = i64 k ∧ Hid (∀ c ∈ (s.data.toList.drop i).take (k - i), isLow c = true)) (fun u => s.size - (intOf u).toNat)
      case atStart => exact ⟨i, Nat.le_refl _, hi, rfl, by show ∀ c ∈ _, _; rw [Nat.sub_self]; intro c hc; simp at hc⟩
      case round =>
        obtain ⟨k, hik, hks, rfl, HP⟩ := hrel
        by_cases hgo : ∃ h : k < s.size, isLow s[k] = true
        · obtain ⟨hk, hlow⟩ := hgo
          have HP2 : Hid (∀ c ∈ (s.data.toList.drop i).take (k + 1 - i), isLow c = true) := by
            show ∀ c ∈ _, _
            have hl : k - i < (s.data.toList.drop i).length := by rw [List.length_drop, Array.length_toList]; have : s.data.size = s.size := rfl; omega
            rw [show k + 1 - i = (k - i) + 1 by omega, List.take_succ_eq_append_getElem hl]
            intro c hc
            rcases List.mem_append.1 hc with hc | hc
            · exact HP.out c hc
            · rw [List.mem_singleton.1 hc, List.getElem_drop]
              have hx : s.data.toList[i + (k - i)]'(by rw [Array.length_toList]; have : s.data.size = s.size := rfl; omega) = s[k] := by
                simp only [show i + (k - i) = k by omega]
                rfl
              rw [hx]; exact hlow
          have h1 : (96 : Int) < (s[k].toNat : Int) := by simp only [isLow, Bool.and_eq_true, decide_eq_true_eq] at hlow; omega
          have h2 : (s[k].toNat : Int) < 123 := by simp only [isLow, Bool.and_eq_true, decide_eq_true_eq] at hlow; omega
          clear hlow HP
          go_wp2_with fail
          go_round
          case rel => exact ⟨k + 1, by omega, by omega, by go_num, HP2⟩
          case measure => simp [intOf]; omega
        · have HEX : Hid ((s.data.toList.drop i).takeWhile isLow = (s.data.toList.drop i).take (k - i) ∧ (s.data.toList.drop i).dropWhile isLow = s.data.toList.drop k) := by
            show _ ∧ _
            have hsz : s.data.size = s.size := rfl
            have hln : (s.data.toList.drop i).length = s.size - i := by rw [List.length_drop, Array.length_toList, hsz]
            have := low_exact (s.data.toList.drop i) (k - i) HP.out (by omega) (by
              by_cases hk : k < s.size
              · refine Or.inr ⟨by omega, ?_⟩
                rw [List.getElem_drop]
                have hx : s.data.toList[i + (k - i)]'(by rw [Array.length_toList]; omega) = s[k] := by
                  simp only [show i + (k - i) = k by omega]
                  rfl
                rw [hx]
                cases hl : isLow s[k] with
                | false => rfl
                | true => exact absurd ⟨hk, hl⟩ hgo
              · exact Or.inl (by omega))
            rw [List.drop_drop, show i + (k - i) = k by omega] at this
            exact this
          have hcase : (¬ k < s.size) ∨ (∃ h : k < s.size, ¬ (96 : Int) < (s[k].toNat : Int)) ∨ (∃ h : k < s.size, (96 : Int) < (s[k].toNat : Int) ∧ ¬ (s[k].toNat : Int) < 123) := by
            by_cases hk : k < s.size
            · refine Or.inr ?_
              by_cases h1 : (96 : Int) < (s[k].toNat : Int)
              · refine Or.inr ⟨hk, h1, fun h2 => hgo ⟨hk, ?_⟩⟩
                simp only [isLow, Bool.and_eq_true, decide_eq_true_eq]
                omega
              · exact Or.inl ⟨hk, h1⟩
            · exact Or.inl hk
          have HSL : Hid (∀ W : World, (Instr.slice 9 (.string s) (some (i64 i)) (some (i64 k)) none).run Tryz.prog W = .ok (str ((s.data.toList.drop i).take (k - i))) W) := fun W => sl_lk W s i k hik hks
          have HLN : Hid (((s.data.toList.drop i).take (k - i)).length ≤ maxLen) := by
            show _ ≤ _
            have : ((s.data.toList.drop i).take (k - i)).length ≤ k - i := List.length_take_le _ _
            unfold maxLen
            omega
          have HST := hid (recD_step (takeD f) (12 - j) (s.data.toList.drop i) _ _ N (Ks.map (·.1)) HEX.out.1 HEX.out.2)
          have HRs3 : Hid (res = if hdB (s.data.toList.drop k) 58 = true then recDm (takeD f) (12 - j) (N ++ [(s.data.toList.drop i).take (k - i)]) (Ks.map (·.1)) (takeD f (s.data.toList.drop k).tail) else none) := HRs2.out.trans HST.out
          generalize (s.data.toList.drop i).take (k - i) = nm at *
          clear HEX HST HRs2 HP hgo
          cases h58 : hdB (s.data.toList.drop k) 58 with
          | false =>
            rcases hcase with hk | ⟨hk, h1⟩ | ⟨hk, h1, h2⟩
            all_goals
              have HRes : Hid (res = none) := by show _ = _; rw [HRs3.out, h58]; rfl
              have HI5 : Hid (Calls Tryz.prog 88 #[.string s, i64 (k : Nat), .int .u8 58] wr fun e w' => e = .returned (.bool false) ∧ w' = wr) := by
                have := is_s s k 58 wr
                rw [h58] at this
                exact this
              clear h58 HRs3
              go_wp2_with fail
              refine HI5.out.mono ?_
              rintro e v9 ⟨rfl, hv9⟩
              replace hv9 := hv9.symm
              subst hv9
              have rc0 : wr.cell? ⟨R, 0, none⟩ = some (i64 0) := blk_cell HI.out.hR 0
              have rf0 : wr.frozen? ⟨R, 0, none⟩ = false := blk_frozen HI.out.hR 0
              have rc1 : wr.cell? ⟨R, 1, none⟩ = some (i64 0) := blk_cell HI.out.hR 1
              have rf1 : wr.frozen? ⟨R, 1, none⟩ = false := blk_frozen HI.out.hR 1
              have rc2 : wr.cell? ⟨R, 2, none⟩ = some (.slice none 0 0) := blk_cell HI.out.hR 2
              have rf2 : wr.frozen? ⟨R, 2, none⟩ = false := blk_frozen HI.out.hR 2
              have rc3 : wr.cell? ⟨R, 3, none⟩ = some (.slice none 0 0) := blk_cell HI.out.hR 3
              have rf3 : wr.frozen? ⟨R, 3, none⟩ = false := blk_frozen HI.out.hR 3
              have rc4 : wr.cell? ⟨R, 4, none⟩ = some (i64 0) := blk_cell HI.out.hR 4
              have rf4 : wr.frozen? ⟨R, 4, none⟩ = false := blk_frozen HI.out.hR 4
              go_wp2_with fail
              refine bodyPost_ret (v := gotV 0 0 (.slice none 0 0) (.slice none 0 0) (-1)) (results_one Tryz.results89 rfl (load63 (set5 HI.out.hR _ _ _ _ _))) rfl ?_
              exact ⟨below5 HI.out.bb HW.out.r _ _ _ _ _, fun _ => rfl, fun T r h => by rw [HRes.out] at h; cases h⟩
          | true =>
            have hks1 : k + 1 ≤ s.size := by
              by_cases h : k < s.size
              · exact h
              · rw [drop_end s k (by omega)] at h58; cases h58
            rcases hcase with hk | ⟨hk, h1⟩ | ⟨hk, h1, h2⟩
            · exact absurd hks1 hk
            all_goals
              obtain ⟨ro, hro⟩ : ∃ ro, ro = takeD f (s.data.toList.drop k).tail := ⟨_, rfl⟩
              have HRs4 : Hid (res = recDm (takeD f) (12 - j) (N ++ [nm]) (Ks.map (·.1)) ro) := by show _ = _; rw [HRs3.out, h58, hro]; rfl
              have HTK : Hid (Calls Tryz.prog 68 #[.string s, i64 ((k : Int) + 1), i64 (D - 1)] wr (Gok wr s.size ro)) := by
                have := HTK0.out wr (k + 1) hks1
                rw [← List.tail_drop, ← hro] at this
                rw [HDe.out, show (((f + 1 : Nat) : Int) - 1) = ((f : Nat) : Int) by omega]
                exact this
              have HSufx : Hid (∀ T rr, ro = some (T, rr) → s.data.toList.drop (s.size - rr.length) = rr ∧ rr.length + (k + 1) ≤ s.size) := by
                show ∀ T rr, _ → _
                intro T rr h
                have h1 := takeD_suf f _ T rr (hro ▸ h)
                rw [List.tail_drop] at h1
                exact ⟨suf_drop h1, by have := suf_le h1; omega⟩
              have HI5 : Hid (Calls Tryz.prog 88 #[.string s, i64 (k : Nat), .int .u8 58] wr fun e w' => e = .returned (.bool true) ∧ w' = wr) := by
                have := is_s s k 58 wr
                rw [h58] at this
                exact this
              clear h58 HRs3 hro
              go_wp2_with fail
              refine HI5.out.mono ?_
              rintro e v9 ⟨rfl, hv9⟩
              replace hv9 := hv9.symm
              subst hv9
              go_wp2_with fail
              refine HTK.out.mono ?_
              rintro e w2 ⟨hb2, hno, hyes⟩
              have HI2 := hid (HI.out.below hb2)
              have HNO := hid hno
              have HYES := hid hyes
              have HZ1 : Hid (w.heap.size ≤ wr.heap.size) := HI.out.bb.size
              have HZ2 : Hid (wr.heap.size ≤ w2.heap.size) := hb2.size
              clear hb2 hno hyes HTK y3
              rcases hre : ro with _ | ⟨T, rr⟩
              · obtain rfl := HNO.out hre
                have HRes : Hid (res = none) := by show _ = _; rw [HRs4.out, hre]; rfl
                have HI3 := hid (HI2.out.below (below_one w2 (.cells #[i64 0, i64 0, .slice none 0 0, .slice none 0 0, i64 (-1)] 139)))
                have HG3 : Hid ((w2.alloc (.cells #[i64 0, i64 0, .slice none 0 0, .slice none 0 0, i64 (-1)] 139)).heap[w2.heap.size]? = some (.cells #[i64 0, i64 0, .slice none 0 0, .slice none 0 0, i64 (-1)] 139)) := heap_last w2 _
                clear hre
                go_upto_region 10 with fail
                obtain ⟨G, hG⟩ : ∃ G, G = w2.heap.size := ⟨_, rfl⟩
                rw [← hG] at HG3 ⊢
                clear hG
                generalize w2.alloc (.cells #[i64 0, i64 0, .slice none 0 0, .slice none 0 0, i64 (-1)] 139) = X at *
                have g4 : X.cell? ⟨G, 4, none⟩ = some (i64 (-1)) := blk_cell HG3.out 4
                have rc0 : X.cell? ⟨R, 0, none⟩ = some (i64 0) := blk_cell HI3.out.hR 0
                have rf0 : X.frozen? ⟨R, 0, none⟩ = false := blk_frozen HI3.out.hR 0
                have rc1 : X.cell? ⟨R, 1, none⟩ = some (i64 0) := blk_cell HI3.out.hR 1
                have rf1 : X.frozen? ⟨R, 1, none⟩ = false := blk_frozen HI3.out.hR 1
                have rc2 : X.cell? ⟨R, 2, none⟩ = some (.slice none 0 0) := blk_cell HI3.out.hR 2
                have rf2 : X.frozen? ⟨R, 2, none⟩ = false := blk_frozen HI3.out.hR 2
                have rc3 : X.cell? ⟨R, 3, none⟩ = some (.slice none 0 0) := blk_cell HI3.out.hR 3
                have rf3 : X.frozen? ⟨R, 3, none⟩ = false := blk_frozen HI3.out.hR 3
                have rc4 : X.cell? ⟨R, 4, none⟩ = some (i64 0) := blk_cell HI3.out.hR 4
                have rf4 : X.frozen? ⟨R, 4, none⟩ = false := blk_frozen HI3.out.hR 4
                go_wp2_with fail
                refine bodyPost_ret (v := gotV 0 0 (.slice none 0 0) (.slice none 0 0) (-1)) (results_one Tryz.results89 rfl (load63 (set5 HI3.out.hR _ _ _ _ _))) rfl ?_
                exact ⟨below5 HI3.out.bb HW.out.r _ _ _ _ _, fun _ => rfl, fun T r h => by rw [HRes.out] at h; cases h⟩
              · obtain ⟨b1, n1, c1, b2, n2, c2, rfl, hrd⟩ := HYES.out T rr hre
                obtain ⟨hS1, hS2⟩ := HSufx.out T rr hre
                have HRs5 : Hid (res = recDe (takeD f) (12 - j) (N ++ [nm]) (Ks.map (·.1) ++ [T]) rr) := by show _ = _; rw [HRs4.out, hre]; rfl
                obtain ⟨F, hF⟩ : ∃ F, F = s.size - rr.length := ⟨_, rfl⟩
                rw [← hF] at hS1 ⊢
                have hF1 : F ≤ 30000000 := by omega
                have hF2 : k + 1 ≤ F := by omega
                have HFe := hid hF
                have HSx := hid hS1
                have HSl := hid hS2
                have HI3 := hid (HI2.out.below (below_one w2 (.cells #[i64 T.kind, i64 T.num, .slice b1 n1 c1, .slice b2 n2 c2, i64 F] 139)))
                have HG3 : Hid ((w2.alloc (.cells #[i64 T.kind, i64 T.num, .slice b1 n1 c1, .slice b2 n2 c2, i64 F] 139)).heap[w2.heap.size]? = some (.cells #[i64 T.kind, i64 T.num, .slice b1 n1 c1, .slice b2 n2 c2, i64 F] 139)) := heap_last w2 _
                have HRD : Hid (Rd (w2.alloc (.cells #[i64 T.kind, i64 T.num, .slice b1 n1 c1, .slice b2 n2 c2, i64 F] 139)) (fun b => Avj w.heap.size R Tb (.slice an j cn) b ∧ some b ≠ (Value.slice ak j ck).ownBlock) T (.slice b1 n1 c1) (.slice b2 n2 c2)) := by
                  show Rd _ _ _ _ _
                  have t2 := blk_lt HI.out.hR
                  have t3 := blk_lt HI.out.hT
                  have t4 := HZ1.out
                  refine hrd.move (below_one w2 _).size fun b hb hlt => ⟨⟨⟨by omega, by omega, by omega, fun e => ?_⟩, fun e => ?_⟩, (below_one w2 _).block b hlt⟩
                  · have := (HI.out.on.lt b e.symm).2; omega
                  · have := (HI.out.ok.own.lt b e.symm).2; omega
                clear hre hF hS1 hS2 hrd HRs4 HSufx HI HI2
                go_upto_region 10 with fail
                obtain ⟨G, hG⟩ : ∃ G, G = w2.heap.size := ⟨_, rfl⟩
                rw [← hG] at HG3 ⊢
                clear hG
                generalize w2.alloc (.cells #[i64 T.kind, i64 T.num, .slice b1 n1 c1, .slice b2 n2 c2, i64 F] 139) = X at *
                have g4 : X.cell? ⟨G, 4, none⟩ = some (i64 F) := blk_cell HG3.out 4
                go_upto_region 12 with fail
                have hpush := recj_push HW.out (HI3.out.below (show Below X.heap.size X X.drew from ⟨rfl, rfl, rfl, Nat.le_refl _, fun _ _ => rfl⟩)) T b1 n1 c1 b2 n2 c2 (HRD.out.under ⟨rfl, rfl, rfl, Nat.le_refl _, fun _ _ => rfl⟩) nm HLN.out hlt G _ HG3.out
                obtain ⟨ao1, cap1, Y1, ao2, cap2, Y3, hrun1, hT1, hT2, hK2, hrun2, hT3, hI5, hK5, _⟩ := hpush
                have HRUN1 := hid hrun1
                have HRUN2 := hid hrun2
                have HI5 := hid hI5
                have HSX : Hid ((fun W : World => W.heap[Tb]? = some (recJ (.slice an j cn) (.slice ak j ck))) X.drew) := HI3.out.hT
                have HTY1 := hid hT1
                have HTY2 := hid hT2
                have HKY2 := hid hK2
                have HTY3 := hid hT3
                have HKY5 := hid hK5
                clear hrun1 hrun2 hT1 hT2 hK2 hT3 hI5 hK5 HRD g4
                have hsl := HSL.out
                refine wp_region_noPanic ?_
                refine wp_region_last (fun W => W.heap[Tb]? = some (recJ (.slice an j cn) (.slice ak j ck))) 9 (by kernel_rfl) ?_
                refine wpL_take 0 51 (.pointer (some ⟨Tb, 2, none⟩)) [] rfl rfl (by kernel_rfl) (by decide) (by kernel_rfl) (by kernel_rfl) (by kernel_rfl) (fun _ _ _ h => h) HSX.out (by rfl) (fun W hW => by go_simp) ?_
                simp only [Act.put, List.setIfInBounds_toArray, List.set_cons_zero, List.set_cons_succ]
                refine wpL_take 1 52 (.slice an j cn) [] rfl rfl (by kernel_rfl) (by decide) (by kernel_rfl) (by kernel_rfl) (by kernel_rfl) (fun _ _ _ h => h) HSX.out (by rfl) (fun W hW => by have d0 : W.cell? ⟨Tb, 2, none⟩ = some (.slice an j cn) := blk_cell hW 2; go_simp) ?_
                simp only [Act.put, List.setIfInBounds_toArray, List.set_cons_zero, List.set_cons_succ]
                refine wpL_take 2 53 (.string s) [] rfl rfl (by kernel_rfl) (by decide) (by kernel_rfl) (by kernel_rfl) (by kernel_rfl) (fun _ _ _ h => h) HSX.out (by rfl) (fun W hW => by go_simp) ?_
                simp only [Act.put, List.setIfInBounds_toArray, List.set_cons_zero, List.set_cons_succ]
                refine wpL_take 3 54 (i64 i) [] rfl rfl (by kernel_rfl) (by decide) (by kernel_rfl) (by kernel_rfl) (by kernel_rfl) (fun _ _ _ h => h) HSX.out (by rfl) (fun W hW => by go_simp) ?_
                simp only [Act.put, List.setIfInBounds_toArray, List.set_cons_zero, List.set_cons_succ]
                refine wpL_take 4 55 (i64 k) [] rfl rfl (by kernel_rfl) (by decide) (by kernel_rfl) (by kernel_rfl) (by kernel_rfl) (fun _ _ _ h => h) HSX.out (by rfl) (fun W hW => by go_simp) ?_
                simp only [Act.put, List.setIfInBounds_toArray, List.set_cons_zero, List.set_cons_succ]
                refine wpL_take 5 56 (str nm) [] rfl rfl (by kernel_rfl) (by decide) (by kernel_rfl) (by kernel_rfl) (by kernel_rfl) (fun _ _ _ h => h) HSX.out (by rfl) (fun W hW => by have hs2 := hsl W; go_simp) ?_
                simp only [Act.put, List.setIfInBounds_toArray, List.set_cons_zero, List.set_cons_succ]
                clear hsl
                have HSA : Hid ((fun W : World => W.heap[Tb]? = some (recJ (.slice an j cn) (.slice ak j ck))) (X.drew.alloc (.cells #[str nm] 9))) := blk_alloc HSX.out _
                refine wpL_one 6 rfl (by kernel_rfl) (by rfl) (fun K hK => ?_)
                go_simp
                refine hK.out _ _ (fun _ => HSA.out) ?_
                clear hK K
                refine wpL_one 7 rfl (by kernel_rfl) (by rfl) (fun K hK => ?_)
                refine wp_app_run (.tmp 52) (.tmp 57) 46 rfl _ _ (by rfl) (by rfl) _ rfl _ _ HRUN1.out ?_
                refine hK.out _ _ (fun _ => HTY1.out) ?_
                clear hK K
                simp only [Act.put, List.setIfInBounds_toArray]
                refine wpL_take 8 59 (.pointer (some ⟨Tb, 2, none⟩)) [] rfl rfl (by kernel_rfl) (by decide) (by kernel_rfl) (by kernel_rfl) (by kernel_rfl) (fun _ _ _ h => h) HTY1.out (by rfl) (fun W hW => by go_simp) ?_
                simp only [Act.put]
                have u2 : Y1.cell? ⟨Tb, 2, none⟩ = some (.slice an j cn) := blk_cell HTY1.out 2
                have uf2 : Y1.frozen? ⟨Tb, 2, none⟩ = false := blk_frozen HTY1.out 2
                refine wpL_one 9 rfl (by kernel_rfl) (by rfl) (fun K hK => ?_)
                go_simp
                refine hK.out _ _ (fun h => absurd rfl h) ?_
                clear hK K
                refine wpL_done (by kernel_rfl) ?_
                refine NoPanic.normal ?_
                generalize Y1.setCell ⟨Tb, 2, none⟩ (.slice ao1 (j + 1) cap1) = Y2 at *
                clear u2 uf2
                have kc0 : Y2.cell? ⟨G, 0, none⟩ = some (i64 T.kind) := blk_cell HKY2.out 0
                have kc1 : Y2.cell? ⟨G, 1, none⟩ = some (i64 T.num) := blk_cell HKY2.out 1
                have kc2 : Y2.cell? ⟨G, 2, none⟩ = some (.slice b1 n1 c1) := blk_cell HKY2.out 2
                have kc3 : Y2.cell? ⟨G, 3, none⟩ = some (.slice b2 n2 c2) := blk_cell HKY2.out 3
                have v3 : Y2.cell? ⟨Tb, 3, none⟩ = some (.slice ak j ck) := blk_cell HTY2.out 3
                have s3 : Y3.cell? ⟨Tb, 3, none⟩ = some (.slice ak j ck) := blk_cell HTY3.out 3
                have sf3 : Y3.frozen? ⟨Tb, 3, none⟩ = false := blk_frozen HTY3.out 3
                go_upto_region 14 with (at_builtin; refine wpList_app_run rfl (.tmp 61) (.tmp 64) 62 rfl _ _ rfl rfl 62 rfl _ _ HRUN2.out ?_)
                generalize Y3.setCell ⟨Tb, 3, none⟩ (.slice ao2 (j + 1) cap2) = Y4 at *
                clear v3 s3 sf3 kc0 kc1 kc2 kc3 HRUN1 HRUN2 HTY1 HTY2 HTY3 HKY2 HSA HSX HI3 HG3
                have g4 : Y4.cell? ⟨G, 4, none⟩ = some (i64 F) := blk_cell HKY5.out 4
                cases h41 : hdB rr 41 with
                | true =>
                  have HI6 : Hid (Calls Tryz.prog 88 #[.string s, i64 (F : Nat), .int .u8 41] Y4 fun e w' => e = .returned (.bool true) ∧ w' = Y4) := by
                    have := is_s s F 41 Y4
                    rw [HSx.out, h41] at this
                    exact this
                  have HRes : Hid (res = some (.mk 4 0 (N ++ [nm]) ((Ks ++ [((T, Value.slice b1 n1 c1, Value.slice b2 n2 c2) : Kd)]).map (·.1)), rr.tail)) := by
                    show _ = _
                    rw [HRs5.out, List.map_append, recDe, h41, if_pos rfl]
                    rfl
                  have HEnd : Hid (((s.size - rr.tail.length : Nat) : Int) = (F : Int) + 1) := by
                    show _ = _
                    have h1 := HFe.out
                    have h2 := HSl.out
                    cases rr with
                    | nil => cases h41
                    | cons c r3 =>
                      rw [List.length_cons] at h1 h2
                      show ((s.size - r3.length : Nat) : Int) = _
                      omega
                  clear h41 HRs5
                  have rc0 : Y4.cell? ⟨R, 0, none⟩ = some (i64 0) := blk_cell HI5.out.hR 0
                  have rf0 : Y4.frozen? ⟨R, 0, none⟩ = false := blk_frozen HI5.out.hR 0
                  have rc1 : Y4.cell? ⟨R, 1, none⟩ = some (i64 0) := blk_cell HI5.out.hR 1
                  have rf1 : Y4.frozen? ⟨R, 1, none⟩ = false := blk_frozen HI5.out.hR 1
                  have rc2 : Y4.cell? ⟨R, 2, none⟩ = some (.slice none 0 0) := blk_cell HI5.out.hR 2
                  have rf2 : Y4.frozen? ⟨R, 2, none⟩ = false := blk_frozen HI5.out.hR 2
                  have rc3 : Y4.cell? ⟨R, 3, none⟩ = some (.slice none 0 0) := blk_cell HI5.out.hR 3
                  have rf3 : Y4.frozen? ⟨R, 3, none⟩ = false := blk_frozen HI5.out.hR 3
                  have rc4 : Y4.cell? ⟨R, 4, none⟩ = some (i64 0) := blk_cell HI5.out.hR 4
                  have rf4 : Y4.frozen? ⟨R, 4, none⟩ = false := blk_frozen HI5.out.hR 4
                  have tc0 : Y4.cell? ⟨Tb, 0, none⟩ = some (i64 4) := blk_cell HI5.out.hT 0
                  have tc1 : Y4.cell? ⟨Tb, 1, none⟩ = some (i64 0) := blk_cell HI5.out.hT 1
                  have tc2 : Y4.cell? ⟨Tb, 2, none⟩ = some (.slice ao1 (j + 1) cap1) := blk_cell HI5.out.hT 2
                  have tc3 : Y4.cell? ⟨Tb, 3, none⟩ = some (.slice ao2 (j + 1) cap2) := blk_cell HI5.out.hT 3
                  go_wp2_with fail
                  refine HI6.out.mono ?_
                  rintro e v9 ⟨rfl, hv9⟩
                  replace hv9 := hv9.symm
                  subst hv9
                  go_wp2_with fail
                  refine bodyPost_ret (v := gotV 4 0 (.slice ao1 (j + 1) cap1) (.slice ao2 (j + 1) cap2) (F + 1)) (results_one Tryz.results89 rfl (load63 (set5 HI5.out.hR _ _ _ _ _))) rfl ?_
                  refine ⟨below5 HI5.out.bb HW.out.r _ _ _ _ _, fun h => (by rw [HRes.out] at h; cases h), fun T' r' h => ?_⟩
                  rw [HRes.out] at h
                  cases h
                  exact ⟨ao1, j + 1, cap1, ao2, j + 1, cap2, by rw [HEnd.out]; rfl, HI5.out.rd _ _ _ _ _⟩
                | false =>
                  have HI6 : Hid (Calls Tryz.prog 88 #[.string s, i64 (F : Nat), .int .u8 41] Y4 fun e w' => e = .returned (.bool false) ∧ w' = Y4) := by
                    have := is_s s F 41 Y4
                    rw [HSx.out, h41] at this
                    exact this
                  cases h44 : hdB rr 44 with
                  | false =>
                    have HI7 : Hid (Calls Tryz.prog 88 #[.string s, i64 (F : Nat), .int .u8 44] Y4 fun e w' => e = .returned (.bool false) ∧ w' = Y4) := by
                      have := is_s s F 44 Y4
                      rw [HSx.out, h44] at this
                      exact this
                    have HRes : Hid (res = none) := by show _ = _; rw [HRs5.out, recDe, h41, h44]; rfl
                    clear h41 h44 HRs5
                    go_wp2_with fail
                    refine HI6.out.mono ?_
                    rintro e v9 ⟨rfl, hv9⟩
                    replace hv9 := hv9.symm
                    subst hv9
                    go_wp2_with fail
                    refine HI7.out.mono ?_
                    rintro e v9 ⟨rfl, hv9⟩
                    replace hv9 := hv9.symm
                    subst hv9
                    have rc0 : Y4.cell? ⟨R, 0, none⟩ = some (i64 0) := blk_cell HI5.out.hR 0
                    have rf0 : Y4.frozen? ⟨R, 0, none⟩ = false := blk_frozen HI5.out.hR 0
                    have rc1 : Y4.cell? ⟨R, 1, none⟩ = some (i64 0) := blk_cell HI5.out.hR 1
                    have rf1 : Y4.frozen? ⟨R, 1, none⟩ = false := blk_frozen HI5.out.hR 1
                    have rc2 : Y4.cell? ⟨R, 2, none⟩ = some (.slice none 0 0) := blk_cell HI5.out.hR 2
                    have rf2 : Y4.frozen? ⟨R, 2, none⟩ = false := blk_frozen HI5.out.hR 2
                    have rc3 : Y4.cell? ⟨R, 3, none⟩ = some (.slice none 0 0) := blk_cell HI5.out.hR 3
                    have rf3 : Y4.frozen? ⟨R, 3, none⟩ = false := blk_frozen HI5.out.hR 3
                    have rc4 : Y4.cell? ⟨R, 4, none⟩ = some (i64 0) := blk_cell HI5.out.hR 4
                    have rf4 : Y4.frozen? ⟨R, 4, none⟩ = false := blk_frozen HI5.out.hR 4
                    go_wp2_with fail
                    refine bodyPost_ret (v := gotV 0 0 (.slice none 0 0) (.slice none 0 0) (-1)) (results_one Tryz.results89 rfl (load63 (set5 HI5.out.hR _ _ _ _ _))) rfl ?_
                    exact ⟨below5 HI5.out.bb HW.out.r _ _ _ _ _, fun _ => rfl, fun T r h => by rw [HRes.out] at h; cases h⟩
                  | true =>
                    have HI7 : Hid (Calls Tryz.prog 88 #[.string s, i64 (F : Nat), .int .u8 44] Y4 fun e w' => e = .returned (.bool true) ∧ w' = Y4) := by
                      have := is_s s F 44 Y4
                      rw [HSx.out, h44] at this
                      exact this
                    have HTl : Hid (s.data.toList.drop (F + 1) = rr.tail ∧ F + 1 ≤ s.size) := by
                      show _ ∧ _
                      have h1 := HFe.out
                      have h2 := HSl.out
                      refine ⟨by rw [← List.tail_drop, HSx.out], ?_⟩
                      cases rr with
                      | nil => cases h44
                      | cons c r3 =>
                        rw [List.length_cons] at h1 h2
                        omega
                    have HRs6 : Hid (res = recD (takeD f) (13 - (j + 1)) (s.data.toList.drop (F + 1)) (N ++ [nm]) ((Ks ++ [((T, Value.slice b1 n1 c1, Value.slice b2 n2 c2) : Kd)]).map (·.1))) := by
                      show _ = _
                      rw [HRs5.out, List.map_append, recDe, h41, h44, HTl.out.1, show 13 - (j + 1) = 12 - j by omega]
                      rfl
                    clear h41 h44 HRs5
                    go_wp2_with fail
                    refine HI6.out.mono ?_
                    rintro e v9 ⟨rfl, hv9⟩
                    replace hv9 := hv9.symm
                    subst hv9
                    go_wp2_with fail
                    refine HI7.out.mono ?_
                    rintro e v9 ⟨rfl, hv9⟩
                    replace hv9 := hv9.symm
                    subst hv9
                    go_wp2_with fail
                    have hF3 := HTl.out.2
                    exact ⟨⟨F + 1, j + 1, _, _, _, _, hF3, by omega, by go_num, HI5, HRs6⟩, by simp [intOf]; omega⟩
    · have HRes : Hid (res = none) := by
        show _ = _
        rw [HRs.out, show 13 - j = 0 by omega]
        rfl
      have rc0 : wr.cell? ⟨R, 0, none⟩ = some (i64 0) := blk_cell HI.out.hR 0
      have rf0 : wr.frozen? ⟨R, 0, none⟩ = false := blk_frozen HI.out.hR 0
      have rc1 : wr.cell? ⟨R, 1, none⟩ = some (i64 0) := blk_cell HI.out.hR 1
      have rf1 : wr.frozen? ⟨R, 1, none⟩ = false := blk_frozen HI.out.hR 1
      have rc2 : wr.cell? ⟨R, 2, none⟩ = some (.slice none 0 0) := blk_cell HI.out.hR 2
      have rf2 : wr.frozen? ⟨R, 2, none⟩ = false := blk_frozen HI.out.hR 2
      have rc3 : wr.cell? ⟨R, 3, none⟩ = some (.slice none 0 0) := blk_cell HI.out.hR 3
      have rf3 : wr.frozen? ⟨R, 3, none⟩ = false := blk_frozen HI.out.hR 3
      have rc4 : wr.cell? ⟨R, 4, none⟩ = some (i64 0) := blk_cell HI.out.hR 4
      have rf4 : wr.frozen? ⟨R, 4, none⟩ = false := blk_frozen HI.out.hR 4
      go_wp2_with fail
      refine bodyPost_ret (v := gotV 0 0 (.slice none 0 0) (.slice none 0 0) (-1)) (results_one Tryz.results89 rfl (load63 (set5 HI.out.hR _ _ _ _ _))) rfl ?_
      exact ⟨below5 HI.out.bb HW.out.r _ _ _ _ _, fun _ => rfl, fun T r h => by rw [HRes.out] at h; cases h⟩
theorem tkd_any (s : ByteArray) (hs : s.size ≤ 30000000) : ∀ (f : Nat), f ≤ 6 → ∀ (w : World) (k : Nat), k ≤ s.size → Calls Tryz.prog 68 #[.string s, i64 (k : Nat), i64 (f : Nat)] w (Gok w s.size (takeD f (s.data.toList.drop k)))
  | 0, _, w, k, _ => tk_zero s k _ w
  | f + 1, hf, w, k, hk => by
    have hf5 : f ≤ 5 := by omega
    have ih := tkd_any s hs f (by omega)
    by_cases ha : k < s.size
    · by_cases h114 : s[k].toNat = 114
      · cases h40 : hdB (s.data.toList.drop (k + 1)) 40 with
        | true =>
          refine tk_rec s k f w hs hf5 ha h114 h40 (fun w' => fields_ok s (k + 2) f w' hs hf5 ?_ ih)
          by_cases h : k + 1 < s.size
          · omega
          · rw [drop_end s (k + 1) (by omega)] at h40; cases h40
        | false =>
          rcases hn : numD (s.data.toList.drop (k + 1)) with _ | ⟨n, r⟩
          · exact tk_r0 s k f w hs hf5 ha h114 h40 hn
          · exact tk_r1 s k f w hs hf5 ha h114 h40 n r hn
      · rcases hn : numD (s.data.toList.drop (k + 1)) with _ | ⟨n, r⟩
        · exact tk_n s k f w hs hf5 ha h114 hn
        · by_cases h105 : s[k].toNat = 105
          · exact tk_i s k f w hs hf5 ha h105 n r hn
          · by_cases h116 : s[k].toNat = 116
            · exact tk_t s k f w hs hf5 ha h116 n r hn
            · by_cases h108 : s[k].toNat = 108
              · cases h40 : hdB r 40 with
                | true => exact tk_l1 s k f w hs hf5 ha h108 n r hn h40 ih
                | false => exact tk_l0 s k f w hs hf5 ha h108 n r hn h40
              · exact tk_x s k f w hs hf5 ha h114 h105 h116 h108 n r hn
    · exact tk_end s k f w hf5 (by omega)
end Go.Proofs.YtjppcfjjpkniaaaGreatDoor
namespace Go.Proofs.YtjppcfjjpkniaaaGreatDoor
open Go.ChangeShapes Go.WideShapes Go.ChangeAt Go.RowKit Go.Deep
attribute [local go_sem ↓] Go.wp_at_zero Go.wp_at_succ

abbrev u8 (n : Int) : Value := .int .u8 n
def cells (l : List UInt8) : List Value := l.map fun c => u8 (c.toNat : Int)
theorem cells_len (l : List UInt8) : (cells l).length = l.length := by simp [cells]
theorem heap_at {w : World} {H : Nat} (hH : w.heap.size = H) (o : Obj) : (w.alloc o).heap[H]? = some o := by
  subst hH
  show (w.heap.push o)[w.heap.size]? = some o
  simp
theorem lit_at {w : World} {H base : Nat} (hH : w.heap.size = H) (hb : base ≤ H) (u : Value) : (w.alloc (.cells #[u] 5)).ownsRow base 5 1 (.slice (some ⟨H, 0, none⟩) 1 1) 1 [u] := by
  subst hH
  exact World.ownsRow_lit w #[u] 1 hb (by unfold maxLen; omega) rfl
theorem conv_nil (w : World) : (convert 72 9 (.slice none 0 0)).run Tryz.prog w = .ok (.string ⟨#[]⟩) w := by kernel_rfl
theorem own_conv {w : World} {base : Nat} {v : Value} {n : Nat} {xs : List Value} {l : List UInt8} (h : w.ownsRow base 5 1 v n xs) (hx : xs = cells l) : (convert 72 9 v).run Tryz.prog w = .ok (.string ⟨l.toArray⟩) w := by
  subst hx
  have hl := h.1
  rw [cells_len, Nat.mul_one] at hl
  rcases h.2 with ⟨rfl, h0⟩ | ⟨g, cap, cur, rfl, _, hg, _⟩
  · obtain rfl : l = [] := List.eq_nil_of_length_eq_zero (by omega)
    exact conv_nil w
  · subst hl
    refine run_convert_bytes_back (P := Tryz.prog) w 72 9 5 ⟨g, 0, none⟩ cap l (by kernel_rfl) (by kernel_rfl) (by kernel_rfl) (fun j hj => ?_)
    have hadd : (⟨g, 0, none⟩ : Addr).add j = ⟨g, j, none⟩ := by unfold Addr.add; split <;> simp_all
    rw [hadd, h.cellAt j (by omega)]
    simp [cells, List.getElem?_eq_getElem hj]

theorem own_below {w w' : World} {base : Nat} {e : TypeId} {size : Nat} {v : Value} {n : Nat} {xs : List Value} (h : w.ownsRow base e size v n xs) (hb : Below w.heap.size w w') : w'.ownsRow base e size v n xs := by
  refine ⟨h.1, ?_⟩
  rcases h.2 with h | ⟨g, cap, cur, h1, h2, h3, h4⟩
  · exact Or.inl h
  · exact Or.inr ⟨g, cap, cur, h1, h2, (hb.block _ (Array.getElem?_eq_some_iff.1 h3).1).trans h3, h4⟩
theorem conv_one (w : World) (x : UInt8) (k : Int) (hk : k = (x.toNat : Int)) : (convert 72 9 (.slice (some ⟨w.heap.size, 0, none⟩) 1 1)).run Tryz.prog (w.alloc (.cells #[u8 k] 5)) = .ok (.string ⟨#[x]⟩) (w.alloc (.cells #[u8 k] 5)) := by
  subst hk
  exact own_conv (l := [x]) (lit_at rfl (Nat.le_refl _) _) rfl
set_option maxRecDepth 100000 in
set_option maxHeartbeats 1600000 in
theorem digits_small (w : World) (n : Nat) (h : n < 10) : Calls Tryz.prog 78 #[i64 n] w fun e w' => e = .returned (str [UInt8.ofNat (48 + n)]) ∧ Below w.heap.size w w' := by
  have hcv := conv_one w (UInt8.ofNat (48 + n)) (48 + (n : Int)) (by rw [UInt8.toNat_ofNat']; omega)
  generalize UInt8.ofNat (48 + n) = x at *
  go_enter Tryz.func78, Tryz.ntmps78
  go_wp2_with fail
  go_ret
  exact ⟨rfl, below_one _ _⟩
theorem dig_k (n : Nat) : IntKind.u8.wrap (IntKind.i64.wrap (48 + (n : Int).tmod 10)) = ((UInt8.ofNat (48 + n % 10)).toNat : Int) := by
  have e : (n : Int).tmod 10 = ((n % 10 : Nat) : Int) := by rw [Int.tmod_eq_emod_of_nonneg (by omega)]; omega
  rw [e, IntKind.wrap_i64, UInt8.toNat_ofNat']
  simp only [IntKind.wrap, IntKind.bits, IntKind.signed]
  simp
  omega
theorem below_ad {w w1 : World} {o : Obj} (hb : Below (w.alloc o).drew.heap.size (w.alloc o).drew w1) : Below w.heap.size w w1 :=
  ((below_one w o).trans (c := (w.alloc o).drew) ⟨rfl, rfl, rfl, Nat.le_refl _, fun _ _ => rfl⟩).trans (hb.mono (by show w.heap.size ≤ (w.alloc o).heap.size; simp))
theorem conv_ad {w w1 : World} {k : Int} {x : UInt8} (hk : k = (x.toNat : Int)) (hb : Below (w.alloc (.cells #[u8 k] 5)).drew.heap.size (w.alloc (.cells #[u8 k] 5)).drew w1) : (convert 72 9 (.slice (some ⟨w.heap.size, 0, none⟩) 1 1)).run Tryz.prog w1 = .ok (.string ⟨#[x]⟩) w1 := by
  subst hk
  have h : (w.alloc (.cells #[u8 (x.toNat : Int)] 5)).drew.ownsRow w.heap.size 5 1 (.slice (some ⟨w.heap.size, 0, none⟩) 1 1) 1 [u8 (x.toNat : Int)] := lit_at (w := w) rfl (Nat.le_refl _) _
  exact own_conv (l := [x]) (own_below h hb) rfl
set_option maxRecDepth 100000 in
set_option maxHeartbeats 1600000 in
theorem digits_big (w : World) (n : Nat) (h : ¬ n < 10) (hn : n ≤ 65535) (D : Bs) (hD : D.length ≤ 21) (hR : ∀ w, Calls Tryz.prog 78 #[i64 ((n / 10 : Nat) : Int)] w fun e w' => e = .returned (str D) ∧ Below w.heap.size w w') :
    Calls Tryz.prog 78 #[i64 n] w fun e w' => e = .returned (str (D ++ [UInt8.ofNat (48 + n % 10)])) ∧ Below w.heap.size w w' := by
  have HR : Hid (∀ w, Calls Tryz.prog 78 #[i64 (IntKind.i64.wrap ((n : Int) / 10))] w fun e w' => e = .returned (str D) ∧ Below w.heap.size w w') := fun w => by
    have := hR w
    rw [show IntKind.i64.wrap ((n : Int) / 10) = ((n / 10 : Nat) : Int) by rw [IntKind.wrap_i64]; omega]
    exact this
  have HK : Hid (IntKind.u8.wrap (IntKind.i64.wrap (48 + (n : Int).tmod 10)) = ((UInt8.ofNat (48 + n % 10)).toNat : Int)) := dig_k n
  have hc0 := conv_ad (w := w) HK.out (Below.refl _ _)
  have HRES : Hid (str (D ++ [UInt8.ofNat (48 + n % 10)]) = .string ((⟨D.toArray⟩ : ByteArray) ++ ⟨#[UInt8.ofNat (48 + n % 10)]⟩)) := (by
    refine congrArg Value.string ?_
    apply ByteArray.ext
    simp : str (D ++ [UInt8.ofNat (48 + n % 10)]) = .string ((⟨D.toArray⟩ : ByteArray) ++ ⟨#[UInt8.ofNat (48 + n % 10)]⟩))
  have hsD := bz D
  generalize UInt8.ofNat (48 + n % 10) = x at *
  clear hR
  go_enter Tryz.func78, Tryz.ntmps78
  go_wp2_with fail
  go_region_with (go_at_call 78; refine (HR.out _).mono ?_; rintro e w1 ⟨rfl, hb1⟩; first | (have hcB := conv_ad HK.out hb1; have HB1 : Hid (Below w.heap.size w w1) := below_ad hb1; clear hb1) | (have hcA := conv_one w1 x _ HK.out; have HB1 : Hid (Below w.heap.size w w1) := ⟨hb1.os, hb1.tape, hb1.output, hb1.size, hb1.block⟩; clear hb1))
  all_goals
    have hz := HB1.out.size
    go_wp2_with fail
    go_ret
    exact ⟨by rw [HRES.out]; rfl, by first | exact HB1.out | exact HB1.out.alloc hz _⟩
theorem digits_ok : ∀ (n : Nat), n ≤ 65535 → ∀ w : World, Calls Tryz.prog 78 #[i64 n] w fun e w' => e = .returned (str (Lib.decDigits n)) ∧ Below w.heap.size w w' := by
  intro n
  induction n using Nat.strongRecOn with
  | _ n ih =>
    intro hn w
    rw [Lib.decDigits]
    by_cases h : n < 10
    · rw [dif_pos h]
      exact digits_small w n h
    · rw [dif_neg h]
      refine digits_big w n h hn (Lib.decDigits (n / 10)) ?_ (ih (n / 10) (by omega) (by omega))
      rw [Lib.decDigits_length]
      have := Lib.nDigits_le20 (n / 10) (by omega)
      omega
theorem digits_i (n : Int) (h0 : 0 ≤ n) (h1 : n ≤ 255) (w : World) : Calls Tryz.prog 78 #[i64 n] w fun e w' => e = .returned (str (Lib.itoa n)) ∧ Below w.heap.size w w' := by
  have h := digits_ok n.toNat (by omega) w
  have e : Lib.itoa n = Lib.decDigits n.toNat := by unfold Lib.itoa; rw [if_neg (by omega)]
  rw [e]
  have e2 : ((n.toNat : Nat) : Int) = n := by omega
  rw [e2] at h
  exact h
end Go.Proofs.YtjppcfjjpkniaaaGreatDoor
namespace Go.Proofs.YtjppcfjjpkniaaaGreatDoor
open Go.ChangeShapes Go.WideShapes Go.ChangeAt Go.RowKit Go.Deep
attribute [local go_sem ↓] Go.wp_at_zero Go.wp_at_succ

theorem join_snoc : ∀ (l : List Bs) (x : Bs), l ≠ [] → Lib.join (l ++ [x]) [44] = Lib.join l [44] ++ 44 :: x
  | [a], x, _ => by simp [Lib.join, List.intercalate]
  | a :: b :: r, x, _ => by
    have ih := join_snoc (b :: r) x (by simp)
    have e : ∀ s : List Bs, s ≠ [] → Lib.join (a :: s) [44] = a ++ 44 :: Lib.join s [44] := by
      intro s hs
      cases s with
      | nil => exact absurd rfl hs
      | cons y t => simp only [Lib.join, List.intercalate, List.intersperse_cons_cons, List.flatten_cons]; rfl
    rw [List.cons_append, e ((b :: r) ++ [x]) (by simp), e (b :: r) (by simp), ih]
    simp
/-- What Plain has of the first fields. -/
def accT (FL : List Bs) (i : Nat) : Bs := Lib.join (FL.take i) [44]
theorem accT_step (FL : List Bs) (i : Nat) (x : Bs) (h : FL.take (i + 1) = FL.take i ++ [x]) (hi : i ≤ FL.length) : accT FL (i + 1) = if i = 0 then x else accT FL i ++ 44 :: x := by
  unfold accT
  rw [h]
  by_cases h0 : i = 0
  · subst h0; simp [Lib.join_one]
  · rw [if_neg h0]
    exact join_snoc _ x (fun e => h0 (by have := congrArg List.length e; rw [List.length_take, List.length_nil] at this; omega))
structure S3 (Z b off : Nat) (oZ : Obj) (l : List Value) (W : World) : Prop where
  z : W.heap[Z]? = some oZ
  r : W.rangeAt b off l
  lt : b < W.heap.size
theorem S3.below {Z b off : Nat} {oZ : Obj} {l : List Value} {W W' : World} (h : S3 Z b off oZ l W) (hb : Below W.heap.size W W') : S3 Z b off oZ l W' :=
  ⟨blk_below h.z hb, range_keep h.r (hb.block b h.lt), Nat.lt_of_lt_of_le h.lt hb.size⟩
set_option maxRecDepth 100000 in
set_option maxHeartbeats 3200000 in
theorem plain_1 (n : Int) (w : World) (S : Nat → Prop) (nv kv : Value) (h0 : 0 ≤ n) (h1 : n ≤ 255) (hR : Rd w S (.mk 1 n [] []) nv kv) : Calls Tryz.prog 58 #[tyV 1 n nv kv] w fun e w' => e = .returned (str (Ty.mk 1 n [] []).txt) ∧ Below w.heap.size w w' := by
  have HRES : Hid (str (Ty.mk 1 n [] []).txt = .string ((⟨#[105]⟩ : ByteArray) ++ ⟨(Lib.itoa n).toArray⟩)) := by
    show _ = _
    rw [txt_1]
    exact congrArg Value.string (ba_append [105] (Lib.itoa n)).symm
  have hle := (itoa_ok3 n h0 h1).le
  generalize (Ty.mk 1 n [] []).txt = TX at *
  obtain ⟨k, hk⟩ : ∃ k : Int, k = 1 := ⟨_, rfl⟩
  obtain ⟨names, hnm⟩ : ∃ names : List Bs, names = [] := ⟨_, rfl⟩
  obtain ⟨kids, hkd⟩ : ∃ kids : List Ty, kids = [] := ⟨_, rfl⟩
  rw [← hk, ← hnm, ← hkd] at hR
  rw [← hk]
  have HKe := hid hk
  have HNe := hid hnm
  have HKd := hid hkd
  clear hk hnm hkd
  have HRd : Hid (Rd w S (.mk k n names kids) nv kv) := hR
  obtain ⟨⟨an, cn, rfl, hnl, hz1, hz2⟩, hkl, ak, ck, rfl, hz3⟩ := hR.kid
  clear hz1 hz2 hz3
  unfold maxLen at hnl hkl
  have HX : Hid ((w.alloc (.cells #[i64 k, i64 n, .slice an names.length cn, .slice ak kids.length ck] 64)).heap[w.heap.size]? = some (.cells #[i64 k, i64 n, .slice an names.length cn, .slice ak kids.length ck] 64)) := heap_last w _
  have HBV : Hid (Below w.heap.size w (w.alloc (.cells #[i64 k, i64 n, .slice an names.length cn, .slice ak kids.length ck] 64))) := below_one w _
  clear hR 
  go_enter Tryz.func58, Tryz.ntmps58
  go_upto_region 1 with fail
  obtain ⟨Z, hZ⟩ : ∃ Z, Z = w.heap.size := ⟨_, rfl⟩
  rw [← hZ] at HX ⊢
  generalize w.alloc (.cells #[i64 k, i64 n, .slice an names.length cn, .slice ak kids.length ck] 64) = V at *
  have y0 : V.cell? ⟨Z, 0, none⟩ = some (i64 k) := blk_cell HX.out 0
  have y1 : V.cell? ⟨Z, 1, none⟩ = some (i64 n) := blk_cell HX.out 1
  have y2 : V.cell? ⟨Z, 2, none⟩ = some (.slice an names.length cn) := blk_cell HX.out 2
  have y3 : V.cell? ⟨Z, 3, none⟩ = some (.slice ak kids.length ck) := blk_cell HX.out 3
  have hZV : Z < V.heap.size := blk_lt HX.out
  have HZ := hid hZ
  clear hZ
  have HIT := hid (digits_i n h0 h1 V)
  have hbz := bz (Lib.itoa n)
  generalize Lib.itoa n = IT at *
  have hk := HKe.out
  subst hk
  go_wp2_with fail
  refine HIT.out.mono ?_
  rintro e w1 ⟨rfl, hb1⟩
  have HB1 : Hid (Below w.heap.size w w1) := HBV.out.trans (hb1.mono HBV.out.size)
  clear hb1 y0 y1 y2 y3
  go_wp2_with fail
  go_ret
  exact ⟨by rw [HRES.out]; rfl, HB1.out⟩
set_option maxRecDepth 100000 in
set_option maxHeartbeats 3200000 in
theorem plain_2 (n : Int) (w : World) (S : Nat → Prop) (nv kv : Value) (h0 : 0 ≤ n) (h1 : n ≤ 255) (hR : Rd w S (.mk 2 n [] []) nv kv) : Calls Tryz.prog 58 #[tyV 2 n nv kv] w fun e w' => e = .returned (str (Ty.mk 2 n [] []).txt) ∧ Below w.heap.size w w' := by
  have HRES : Hid (str (Ty.mk 2 n [] []).txt = .string ((⟨#[116]⟩ : ByteArray) ++ ⟨(Lib.itoa n).toArray⟩)) := by
    show _ = _
    rw [txt_2]
    exact congrArg Value.string (ba_append [116] (Lib.itoa n)).symm
  have hle := (itoa_ok3 n h0 h1).le
  generalize (Ty.mk 2 n [] []).txt = TX at *
  obtain ⟨k, hk⟩ : ∃ k : Int, k = 2 := ⟨_, rfl⟩
  obtain ⟨names, hnm⟩ : ∃ names : List Bs, names = [] := ⟨_, rfl⟩
  obtain ⟨kids, hkd⟩ : ∃ kids : List Ty, kids = [] := ⟨_, rfl⟩
  rw [← hk, ← hnm, ← hkd] at hR
  rw [← hk]
  have HKe := hid hk
  have HNe := hid hnm
  have HKd := hid hkd
  clear hk hnm hkd
  have HRd : Hid (Rd w S (.mk k n names kids) nv kv) := hR
  obtain ⟨⟨an, cn, rfl, hnl, hz1, hz2⟩, hkl, ak, ck, rfl, hz3⟩ := hR.kid
  clear hz1 hz2 hz3
  unfold maxLen at hnl hkl
  have HX : Hid ((w.alloc (.cells #[i64 k, i64 n, .slice an names.length cn, .slice ak kids.length ck] 64)).heap[w.heap.size]? = some (.cells #[i64 k, i64 n, .slice an names.length cn, .slice ak kids.length ck] 64)) := heap_last w _
  have HBV : Hid (Below w.heap.size w (w.alloc (.cells #[i64 k, i64 n, .slice an names.length cn, .slice ak kids.length ck] 64))) := below_one w _
  clear hR 
  go_enter Tryz.func58, Tryz.ntmps58
  go_upto_region 1 with fail
  obtain ⟨Z, hZ⟩ : ∃ Z, Z = w.heap.size := ⟨_, rfl⟩
  rw [← hZ] at HX ⊢
  generalize w.alloc (.cells #[i64 k, i64 n, .slice an names.length cn, .slice ak kids.length ck] 64) = V at *
  have y0 : V.cell? ⟨Z, 0, none⟩ = some (i64 k) := blk_cell HX.out 0
  have y1 : V.cell? ⟨Z, 1, none⟩ = some (i64 n) := blk_cell HX.out 1
  have y2 : V.cell? ⟨Z, 2, none⟩ = some (.slice an names.length cn) := blk_cell HX.out 2
  have y3 : V.cell? ⟨Z, 3, none⟩ = some (.slice ak kids.length ck) := blk_cell HX.out 3
  have hZV : Z < V.heap.size := blk_lt HX.out
  have HZ := hid hZ
  clear hZ
  have HIT := hid (digits_i n h0 h1 V)
  have hbz := bz (Lib.itoa n)
  generalize Lib.itoa n = IT at *
  have hk := HKe.out
  subst hk
  go_wp2_with fail
  refine HIT.out.mono ?_
  rintro e w1 ⟨rfl, hb1⟩
  have HB1 : Hid (Below w.heap.size w w1) := HBV.out.trans (hb1.mono HBV.out.size)
  clear hb1 y0 y1 y2 y3
  go_wp2_with fail
  go_ret
  exact ⟨by rw [HRES.out]; rfl, HB1.out⟩
set_option maxRecDepth 100000 in
set_option maxHeartbeats 6400000 in
theorem plain_3 (n : Int) (T : Ty) (w : World) (S : Nat → Prop) (nv kv : Value) (h0 : 0 ≤ n) (h1 : n ≤ 255) (hR : Rd w S (.mk 3 n [] [T]) nv kv) (hln : T.txt.length ≤ 3000000)
    (hih : ∀ (w : World) (nv kv : Value), Rd w S T nv kv → Calls Tryz.prog 58 #[tyV T.kind T.num nv kv] w fun e w' => e = .returned (str T.txt) ∧ Below w.heap.size w w') : Calls Tryz.prog 58 #[tyV 3 n nv kv] w fun e w' => e = .returned (str (Ty.mk 3 n [] [T]).txt) ∧ Below w.heap.size w w' := by
  have HRES : Hid (str (Ty.mk 3 n [] [T]).txt = .string (((((⟨#[108]⟩ : ByteArray) ++ ⟨(Lib.itoa n).toArray⟩) ++ ⟨#[40]⟩) ++ ⟨T.txt.toArray⟩) ++ ⟨#[41]⟩)) := by
    show _ = _
    rw [txt_3]
    refine congrArg Value.string ?_
    apply ByteArray.ext
    simp
  have HIH := hid hih
  have hle := (itoa_ok3 n h0 h1).le
  generalize (Ty.mk 3 n [] [T]).txt = TX at *
  obtain ⟨names, hnm⟩ : ∃ names : List Bs, names = [] := ⟨_, rfl⟩
  obtain ⟨kids, hkd⟩ : ∃ kids : List Ty, kids = [T] := ⟨_, rfl⟩
  rw [← hnm, ← hkd] at hR
  have HNe := hid hnm
  have HKd := hid hkd
  clear hnm hkd
  have HRd : Hid (Rd w S (.mk 3 n names kids) nv kv) := hR
  obtain ⟨⟨an, cn, rfl, hnl, hz1, hz2⟩, hkl, ak, ck, rfl, hz3⟩ := hR.kid
  clear hz1 hz2 hz3
  unfold maxLen at hnl hkl
  have HX : Hid ((w.alloc (.cells #[i64 3, i64 n, .slice an names.length cn, .slice ak kids.length ck] 64)).heap[w.heap.size]? = some (.cells #[i64 3, i64 n, .slice an names.length cn, .slice ak kids.length ck] 64)) := heap_last w _
  have HBV : Hid (Below w.heap.size w (w.alloc (.cells #[i64 3, i64 n, .slice an names.length cn, .slice ak kids.length ck] 64))) := below_one w _
  clear hR hih
  go_enter Tryz.func58, Tryz.ntmps58
  go_upto_region 1 with fail
  obtain ⟨Z, hZ⟩ : ∃ Z, Z = w.heap.size := ⟨_, rfl⟩
  rw [← hZ] at HX ⊢
  generalize w.alloc (.cells #[i64 3, i64 n, .slice an names.length cn, .slice ak kids.length ck] 64) = V at *
  have y0 : V.cell? ⟨Z, 0, none⟩ = some (i64 3) := blk_cell HX.out 0
  have y1 : V.cell? ⟨Z, 1, none⟩ = some (i64 n) := blk_cell HX.out 1
  have y2 : V.cell? ⟨Z, 2, none⟩ = some (.slice an names.length cn) := blk_cell HX.out 2
  have y3 : V.cell? ⟨Z, 3, none⟩ = some (.slice ak kids.length ck) := blk_cell HX.out 3
  have hZV : Z < V.heap.size := blk_lt HX.out
  have HZ := hid hZ
  clear hZ
  obtain ⟨IT, hIT⟩ : ∃ IT, IT = Lib.itoa n := ⟨_, rfl⟩
  rw [← hIT] at HRES hle
  have HITe : Hid (Lib.itoa n = IT) := hIT.symm
  have hbz := bz IT
  have hbt := bz T.txt
  have hk1 : kids.length = 1 := by rw [HKd.out]; rfl
  have HK1 := hid hk1
  clear hk1
  obtain ⟨_, _, ak1, ck1, he, hkid⟩ := (HRd.out.under HBV.out).kid
  cases he
  obtain ⟨b, off, nv2, kv2, rfl, hbS, hblt, hr, hrd⟩ := hkid 0 (by have := HK1.out; omega)
  have hT0 : kids[0]'(by have := HK1.out; omega) = T := by have := HKd.out; subst this; rfl
  rw [hT0] at hr hrd
  obtain ⟨an2, cn2, rfl, ak2, ck2, rfl⟩ := hrd.form
  have HRTD := hid (hrd.under (w' := V.drew) ⟨rfl, rfl, rfl, Nat.le_refl _, fun _ _ => rfl⟩)
  have hXz := HX.out
  rw [HK1.out] at hXz y3
  have HSX : Hid (S3 Z b off (.cells #[i64 3, i64 n, .slice an names.length cn, .slice (some ⟨b, off, none⟩) 1 ck] 64) [i64 T.kind, i64 T.num, .slice an2 T.names.length cn2, .slice ak2 T.kids.length ck2] V.drew) := ⟨hXz, by intro j v hv; have := hr j v hv; simpa using this, hblt⟩
  clear hIT hT0 hr hrd hkid hbS hXz
  generalize T.txt = TT at *
  go_upto_region 7 with fail
  refine wp_region_noPanic ?_
  refine wp_region_last (S3 Z b off (.cells #[i64 3, i64 n, .slice an names.length cn, .slice (some ⟨b, off, none⟩) 1 ck] 64) [i64 T.kind, i64 T.num, .slice an2 T.names.length cn2, .slice ak2 T.kids.length ck2]) 12 (by kernel_rfl) ?_
  refine wpL_take 0 22 (.pointer (some ⟨Z, 1, none⟩)) [] rfl rfl (by kernel_rfl) (by decide) (by kernel_rfl) (by kernel_rfl) (by kernel_rfl) (fun _ _ _ h => h) HSX.out (by rfl) (fun W hW => by go_simp) ?_
  simp only [Act.put, List.setIfInBounds_toArray, List.set_cons_zero, List.set_cons_succ]
  refine wpL_take 1 23 (i64 n) [] rfl rfl (by kernel_rfl) (by decide) (by kernel_rfl) (by kernel_rfl) (by kernel_rfl) (fun _ _ _ h => h) HSX.out (by rfl) (fun W hW => by have d0 : W.cell? ⟨Z, 1, none⟩ = some (i64 n) := blk_cell hW.z 1; go_simp) ?_
  simp only [Act.put, List.setIfInBounds_toArray, List.set_cons_zero, List.set_cons_succ]
  refine wpL_take 5 27 (.pointer (some ⟨Z, 3, none⟩)) [] rfl rfl (by kernel_rfl) (by decide) (by kernel_rfl) (by kernel_rfl) (by kernel_rfl) (fun _ _ _ h => h) HSX.out (by rfl) (fun W hW => by go_simp) ?_
  simp only [Act.put, List.setIfInBounds_toArray, List.set_cons_zero, List.set_cons_succ]
  refine wpL_take 6 28 (.slice (some ⟨b, off, none⟩) 1 ck) [] rfl rfl (by kernel_rfl) (by decide) (by kernel_rfl) (by kernel_rfl) (by kernel_rfl) (fun _ _ _ h => h) HSX.out (by rfl) (fun W hW => by have d0 : W.cell? ⟨Z, 3, none⟩ = some (.slice (some ⟨b, off, none⟩) 1 ck) := blk_cell hW.z 3; go_simp) ?_
  simp only [Act.put, List.setIfInBounds_toArray, List.set_cons_zero, List.set_cons_succ]
  refine wpL_take 7 29 (.pointer (some ⟨b, off, none⟩)) [] rfl rfl (by kernel_rfl) (by decide) (by kernel_rfl) (by kernel_rfl) (by kernel_rfl) (fun _ _ _ h => h) HSX.out (by rfl) (fun W hW => by go_simp) ?_
  simp only [Act.put, List.setIfInBounds_toArray, List.set_cons_zero, List.set_cons_succ]
  refine wpL_take 8 30 (.agg #[i64 T.kind, i64 T.num, .slice an2 T.names.length cn2, .slice ak2 T.kids.length ck2]) [] rfl rfl (by kernel_rfl) (by decide) (by kernel_rfl) (by kernel_rfl) (by kernel_rfl) (fun _ _ _ h => h) HSX.out (by rfl) (fun W hW => by have d0 : W.cell? ⟨b, off, none⟩ = some (i64 T.kind) := hW.r 0 _ rfl; have d1 : W.cell? ⟨b, off + 1, none⟩ = some (i64 T.num) := hW.r 1 _ rfl; have d2 : W.cell? ⟨b, off + 2, none⟩ = some (.slice an2 T.names.length cn2) := hW.r 2 _ rfl; have d3 : W.cell? ⟨b, off + 3, none⟩ = some (.slice ak2 T.kids.length ck2) := hW.r 3 _ rfl; go_simp) ?_
  simp only [Act.put, List.setIfInBounds_toArray, List.set_cons_zero, List.set_cons_succ]
  refine wpL_one 2 rfl (by kernel_rfl) (by rfl) (fun K hK => ?_)
  go_simp
  refine (digits_i n h0 h1 V.drew).mono ?_
  rintro e w1 ⟨he1, hb1⟩
  rw [HITe.out] at he1
  subst he1
  have HS1 : Hid (S3 Z b off (.cells #[i64 3, i64 n, .slice an names.length cn, .slice (some ⟨b, off, none⟩) 1 ck] 64) [i64 T.kind, i64 T.num, .slice an2 T.names.length cn2, .slice ak2 T.kids.length ck2] w1) := HSX.out.below hb1
  have HB1 : Hid (Below w.heap.size w w1) := (below_drewN HBV.out 1).trans (hb1.mono HBV.out.size)
  have HRT1 := hid (HRTD.out.under hb1)
  clear hb1
  go_simp
  refine hK.out _ _ (fun _ => HS1.out) ?_
  clear hK K
  refine wpL_take 3 25 (.string ((⟨#[108]⟩ : ByteArray) ++ ⟨IT.toArray⟩)) [] rfl rfl (by kernel_rfl) (by decide) (by kernel_rfl) (by kernel_rfl) (by kernel_rfl) (fun _ _ _ h => h) HS1.out (by rfl) (fun W hW => by go_simp; omega) ?_
  simp only [Act.put, List.setIfInBounds_toArray, List.set_cons_zero, List.set_cons_succ]
  refine wpL_take 4 26 (.string (((⟨#[108]⟩ : ByteArray) ++ ⟨IT.toArray⟩) ++ ⟨#[40]⟩)) [] rfl rfl (by kernel_rfl) (by decide) (by kernel_rfl) (by kernel_rfl) (by kernel_rfl) (fun _ _ _ h => h) HS1.out (by rfl) (fun W hW => by go_simp; omega) ?_
  simp only [Act.put, List.setIfInBounds_toArray, List.set_cons_zero, List.set_cons_succ]
  refine wpL_one 9 rfl (by kernel_rfl) (by rfl) (fun K hK => ?_)
  go_simp
  refine (HIH.out w1 _ _ HRT1.out).mono ?_
  rintro e w2 ⟨rfl, hb2⟩
  have HS2 : Hid (S3 Z b off (.cells #[i64 3, i64 n, .slice an names.length cn, .slice (some ⟨b, off, none⟩) 1 ck] 64) [i64 T.kind, i64 T.num, .slice an2 T.names.length cn2, .slice ak2 T.kids.length ck2] w2) := HS1.out.below hb2
  have HB2 : Hid (Below w.heap.size w w2) := HB1.out.trans (hb2.mono HB1.out.size)
  clear hb2
  go_simp
  refine hK.out _ _ (fun _ => HS2.out) ?_
  clear hK K
  refine wpL_take 10 32 (.string ((((⟨#[108]⟩ : ByteArray) ++ ⟨IT.toArray⟩) ++ ⟨#[40]⟩) ++ ⟨TT.toArray⟩)) [] rfl rfl (by kernel_rfl) (by decide) (by kernel_rfl) (by kernel_rfl) (by kernel_rfl) (fun _ _ _ h => h) HS2.out (by rfl) (fun W hW => by go_simp; omega) ?_
  simp only [Act.put, List.setIfInBounds_toArray, List.set_cons_zero, List.set_cons_succ]
  refine wpL_take 11 33 (.string (((((⟨#[108]⟩ : ByteArray) ++ ⟨IT.toArray⟩) ++ ⟨#[40]⟩) ++ ⟨TT.toArray⟩) ++ ⟨#[41]⟩)) [] rfl rfl (by kernel_rfl) (by decide) (by kernel_rfl) (by kernel_rfl) (by kernel_rfl) (fun _ _ _ h => h) HS2.out (by rfl) (fun W hW => by go_simp; omega) ?_
  simp only [Act.put, List.setIfInBounds_toArray, List.set_cons_zero, List.set_cons_succ]
  refine wpL_one 12 rfl (by kernel_rfl) (by rfl) (fun K hK => ?_)
  go_simp
  refine hK.out _ _ (fun h => absurd rfl h) ?_
  clear hK K
  refine wpL_done (by kernel_rfl) ?_
  refine NoPanic.normal ?_
  go_wp2_with fail
  go_ret
  exact ⟨by rw [HRES.out]; rfl, HB2.out⟩
end Go.Proofs.YtjppcfjjpkniaaaGreatDoor
namespace Go.Proofs.YtjppcfjjpkniaaaGreatDoor
open Go.ChangeShapes Go.WideShapes Go.ChangeAt Go.RowKit Go.Deep
attribute [local go_sem ↓] Go.wp_at_zero Go.wp_at_succ

theorem accT_all (FL : List Bs) (n : Nat) (h : FL.length ≤ n) : accT FL n = Lib.join FL [44] := by unfold accT; rw [List.take_of_length_le h]
theorem accT_mono (FL : List Bs) : ∀ (d i : Nat), i + d ≤ FL.length → (accT FL i).length ≤ (accT FL (i + d)).length
  | 0, i, _ => Nat.le_refl _
  | d + 1, i, h => by
    have ih := accT_mono FL d i (by omega)
    have hs := accT_step FL (i + d) (FL[i + d]'(by omega)) (by rw [List.take_succ_eq_append_getElem (by omega)]) (by omega)
    rw [show i + (d + 1) = i + d + 1 by omega, hs]
    split
    · rename_i h0
      have : i = 0 := by omega
      subst this
      simp [accT, Lib.join]
    · simp; omega
set_option maxRecDepth 100000 in
set_option maxHeartbeats 12800000 in
theorem plain_4 (names : List Bs) (kids : List Ty) (w : World) (S : Nat → Prop) (nv kv : Value) (hl1 : names.length = kids.length) (hl3 : kids.length ≤ 12) (hns : ∀ x ∈ names, x.length ≤ 8) (hln : ∀ T ∈ kids, T.txt.length ≤ 3000000) (hft : (fieldT names (txtL kids)).length ≤ 3000000) (hR : Rd w S (.mk 4 0 names kids) nv kv)
    (hih : ∀ T ∈ kids, ∀ (w : World) (nv kv : Value), Rd w S T nv kv → Calls Tryz.prog 58 #[tyV T.kind T.num nv kv] w fun e w' => e = .returned (str T.txt) ∧ Below w.heap.size w w') : Calls Tryz.prog 58 #[tyV 4 0 nv kv] w fun e w' => e = .returned (str (Ty.mk 4 0 names kids).txt) ∧ Below w.heap.size w w' := by
  have HRES : Hid (str (Ty.mk 4 0 names kids).txt = .string (((⟨#[114, 40]⟩ : ByteArray) ++ ⟨(fieldT names (txtL kids)).toArray⟩) ++ ⟨#[41]⟩)) := by
    show _ = _
    rw [txt_4]
    refine congrArg Value.string ?_
    apply ByteArray.ext
    simp
  have HJ : Hid (Lib.join (fieldL names (txtL kids)) [44] = fieldT names (txtL kids)) := join_field names (txtL kids) (by rw [txtL_len]; exact hl1)
  have HFL : Hid ((fieldL names (txtL kids)).length = kids.length) := by show _ = _; rw [fieldL_len _ _ (by rw [txtL_len]; exact hl1), hl1]
  have HSN : Hid (∀ i (h1 : i < names.length) (h2 : i < kids.length), (fieldL names (txtL kids)).take (i + 1) = (fieldL names (txtL kids)).take i ++ [names[i] ++ 58 :: kids[i].txt]) := field_snoc names kids
  generalize (Ty.mk 4 0 names kids).txt = TX at *
  generalize fieldL names (txtL kids) = FL at *
  generalize fieldT names (txtL kids) = FT at *
  have HAL : Hid (∀ i, i ≤ kids.length → (accT FL i).length ≤ 3000000) := fun i hi => by
    have h1 := accT_mono FL (kids.length - i) i (by rw [HFL.out]; omega)
    rw [show i + (kids.length - i) = kids.length by omega, accT_all FL kids.length (by rw [HFL.out]; exact Nat.le_refl _), HJ.out] at h1
    omega
  have HIH := hid hih
  have HL1 := hid hl1
  have HNS := hid hns
  have HLN := hid hln
  clear hl1 hns hln
  have HRd : Hid (Rd w S (.mk 4 0 names kids) nv kv) := hR
  obtain ⟨⟨an, cn, rfl, hnl, hz1, hz2⟩, hkl, ak, ck, rfl, hz3⟩ := hR.kid
  clear hz1 hz2 hz3
  unfold maxLen at hnl hkl
  have HX : Hid ((w.alloc (.cells #[i64 4, i64 0, .slice an names.length cn, .slice ak kids.length ck] 64)).heap[w.heap.size]? = some (.cells #[i64 4, i64 0, .slice an names.length cn, .slice ak kids.length ck] 64)) := heap_last w _
  have HBV : Hid (Below w.heap.size w (w.alloc (.cells #[i64 4, i64 0, .slice an names.length cn, .slice ak kids.length ck] 64))) := below_one w _
  clear hR hih
  go_enter Tryz.func58, Tryz.ntmps58
  go_upto_region 1 with fail
  obtain ⟨Z, hZ⟩ : ∃ Z, Z = w.heap.size := ⟨_, rfl⟩
  rw [← hZ] at HX ⊢
  generalize w.alloc (.cells #[i64 4, i64 0, .slice an names.length cn, .slice ak kids.length ck] 64) = V at *
  have y0 : V.cell? ⟨Z, 0, none⟩ = some (i64 4) := blk_cell HX.out 0
  have y1 : V.cell? ⟨Z, 1, none⟩ = some (i64 0) := blk_cell HX.out 1
  have y2 : V.cell? ⟨Z, 2, none⟩ = some (.slice an names.length cn) := blk_cell HX.out 2
  have y3 : V.cell? ⟨Z, 3, none⟩ = some (.slice ak kids.length ck) := blk_cell HX.out 3
  have hZV : Z < V.heap.size := blk_lt HX.out
  have HZ := hid hZ
  clear hZ
  go_wp2_with fail
  go_loopw [3, 37] (fun a u wr => ∃ (i : Nat) (ac : Bs), i ≤ kids.length ∧ u = i64 i ∧ a = str ac ∧ Hid (ac = accT FL i) ∧ ac.length ≤ 3000000 ∧ Hid (wr.heap[Z]? = some (.cells #[i64 4, i64 0, .slice an names.length cn, .slice ak kids.length ck] 64)) ∧ Hid (Below w.heap.size w wr)) (fun _ u _ => kids.length - (intOf u).toNat)
  case atStart => exact ⟨0, [], by omega, rfl, rfl, by show _ = _; simp [accT, Lib.join], by simp, HX, HBV⟩
  case round =>
    obtain ⟨i, ac, hi, rfl, rfl, HAc, hacl, HXr, HB⟩ := hrel
    by_cases hlt : i < kids.length
    · clear y0 y1 y2 y3 hZV
      obtain ⟨_, _, ak1, ck1, he, hkid⟩ := (HRd.out.under HB.out).kid
      cases he
      obtain ⟨b, off, nv2, kv2, rfl, hbS, hblt, hr, hrd⟩ := hkid i hlt
      obtain ⟨T, hT⟩ : ∃ T, T = kids[i] := ⟨_, rfl⟩
      rw [← hT] at hr hrd
      have HTm : Hid (T ∈ kids) := by show _; rw [hT]; exact List.getElem_mem hlt
      have HTe : Hid (T = kids[i]) := hT
      have c0 : wr.cell? ⟨b, off + i * 4, none⟩ = some (i64 T.kind) := hr 0 _ rfl
      have c1 : wr.cell? ⟨b, off + i * 4 + 1, none⟩ = some (i64 T.num) := hr 1 _ rfl
      have c2 : wr.cell? ⟨b, off + i * 4 + 2, none⟩ = some nv2 := hr 2 _ rfl
      have c3 : wr.cell? ⟨b, off + i * 4 + 3, none⟩ = some kv2 := hr 3 _ rfl
      obtain ⟨an2, cn2, rfl, ak2, ck2, rfl⟩ := hrd.form
      have HX2 : Hid ((wr.alloc (.cells #[i64 T.kind, i64 T.num, .slice an2 T.names.length cn2, .slice ak2 T.kids.length ck2] 64)).heap[wr.heap.size]? = some (.cells #[i64 T.kind, i64 T.num, .slice an2 T.names.length cn2, .slice ak2 T.kids.length ck2] 64)) := heap_last wr _
      have HBX : Hid (Below wr.heap.size wr (wr.alloc (.cells #[i64 T.kind, i64 T.num, .slice an2 T.names.length cn2, .slice ak2 T.kids.length ck2] 64))) := below_one wr _
      have HRT : Hid (Rd (wr.alloc (.cells #[i64 T.kind, i64 T.num, .slice an2 T.names.length cn2, .slice ak2 T.kids.length ck2] 64)) _ T (.slice an2 T.names.length cn2) (.slice ak2 T.kids.length ck2)) := hrd.under HBX.out
      clear hT hr hrd hkid hbS
      go_upto_region 12 with fail
      obtain ⟨Y, hY⟩ : ∃ Y, Y = wr.heap.size := ⟨_, rfl⟩
      rw [← hY] at HX2 ⊢
      generalize wr.alloc (.cells #[i64 T.kind, i64 T.num, .slice an2 T.names.length cn2, .slice ak2 T.kids.length ck2] 64) = X at *
      have z0 : X.cell? ⟨Y, 0, none⟩ = some (i64 T.kind) := blk_cell HX2.out 0
      have z1 : X.cell? ⟨Y, 1, none⟩ = some (i64 T.num) := blk_cell HX2.out 1
      have z2 : X.cell? ⟨Y, 2, none⟩ = some (.slice an2 T.names.length cn2) := blk_cell HX2.out 2
      have z3 : X.cell? ⟨Y, 3, none⟩ = some (.slice ak2 T.kids.length ck2) := blk_cell HX2.out 3
      have hYX : Y < X.heap.size := blk_lt HX2.out
      have HY := hid hY
      clear c0 c1 c2 c3 hY
      obtain ⟨hs, _⟩ := (HRd.out.under HB.out).kid
      obtain ⟨ao', cap', he, hat⟩ := hs.at
      cases he
      have hlt2 : i < names.length := by have := HL1.out; omega
      obtain ⟨nb, no, rfl, hnlt, cN⟩ := hat i hlt2
      obtain ⟨nm, hnm⟩ : ∃ nm, nm = names[i] := ⟨_, rfl⟩
      rw [← hnm] at cN
      have hnm8 : nm.length ≤ 8 := by rw [hnm]; exact HNS.out _ (List.getElem_mem hlt2)
      have HSN2 : Hid (FL.take (i + 1) = FL.take i ++ [nm ++ 58 :: T.txt]) := by show _ = _; rw [HSN.out i hlt2 hlt, ← hnm, ← HTe.out]
      have HAS : Hid (accT FL (i + 1) = if i = 0 then nm ++ 58 :: T.txt else accT FL i ++ 44 :: (nm ++ 58 :: T.txt)) := accT_step FL i _ HSN2.out (by rw [HFL.out]; omega)
      have hA2 := HAL.out (i + 1) (by omega)
      have HA2 := hid hA2
      have HCA := hid (HIH.out T HTm.out)
      have hTl := HLN.out T HTm.out
      have hbn := bz nm
      have hbt := bz T.txt
      have hba := bz ac
      have hiN : (i : Int) < names.length := by omega
      clear hnm hat hs hA2
      have HSX : Hid (Sx Z Y nb (no + i) (.cells #[i64 4, i64 0, .slice (some ⟨nb, no, none⟩) names.length cn, .slice (some ⟨b, off, none⟩) kids.length ck] 64) (.cells #[i64 T.kind, i64 T.num, .slice an2 T.names.length cn2, .slice ak2 T.kids.length ck2] 64) nm X.drew) := ⟨(blk_below HXr.out HBX.out : X.heap[Z]? = _), HX2.out, by have := HBX.out.cell (p := ⟨nb, no + i, none⟩) hnlt; exact this.trans cN⟩
      have HBXw : Hid (Below w.heap.size w X) := HB.out.trans (HBX.out.mono HB.out.size)
      have HZX : Hid (X.heap[Z]? = some (.cells #[i64 4, i64 0, .slice (some ⟨nb, no, none⟩) names.length cn, .slice (some ⟨b, off, none⟩) kids.length ck] 64)) := HSX.out.z
      have zx2 : X.cell? ⟨Z, 2, none⟩ = some (.slice (some ⟨nb, no, none⟩) names.length cn) := blk_cell HZX.out 2
      clear hnlt cN
      generalize hTT : T.txt = TT at *
      clear hTT HTe HX2
      by_cases hi0 : i = 0
      · have HBe : Hid (ac = []) := by show _ = _; rw [HAc.out, hi0]; simp [accT, Lib.join]
        obtain ⟨Bc, hBc⟩ : ∃ Bc, Bc = ac := ⟨_, rfl⟩
        have HAC : Hid (Bc ++ (nm ++ 58 :: TT) = accT FL (i + 1)) := by show _ = _; rw [HAS.out, if_pos hi0, hBc, HBe.out]; rfl
        have hAle : (Bc ++ (nm ++ 58 :: TT)).length ≤ 3000000 := by rw [HAC.out]; exact HA2.out
        have hgt : ¬ 0 < i := by omega
        have hgt3 : ¬ (0 : Int) < (i : Int) := by omega
        have hgt2 : decide (0 < i) = false := by simp; omega
        have hBl : Bc.length ≤ 3000001 := by rw [hBc]; omega
        have hbB := bz Bc
        have HI0 := hid hi0
        rw [← hBc]
        clear hi0 hBc
        go_upto_region 15 with fail
        refine wp_region_noPanic ?_
        refine wp_region_last (Sx Z Y nb (no + i) (.cells #[i64 4, i64 0, .slice (some ⟨nb, no, none⟩) names.length cn, .slice (some ⟨b, off, none⟩) kids.length ck] 64) (.cells #[i64 T.kind, i64 T.num, .slice an2 T.names.length cn2, .slice ak2 T.kids.length ck2] 64) nm) 11 (by kernel_rfl) ?_
        refine wpL_take 0 51 (str Bc) [] rfl rfl (by kernel_rfl) (by decide) (by kernel_rfl) (by kernel_rfl) (by kernel_rfl) (fun _ _ _ h => h) HSX.out (by rfl) (fun W hW => by go_simp) ?_
        simp only [Act.put, List.setIfInBounds_toArray, List.set_cons_zero, List.set_cons_succ]
        refine wpL_take 1 52 (.pointer (some ⟨Z, 2, none⟩)) [] rfl rfl (by kernel_rfl) (by decide) (by kernel_rfl) (by kernel_rfl) (by kernel_rfl) (fun _ _ _ h => h) HSX.out (by rfl) (fun W hW => by go_simp) ?_
        simp only [Act.put, List.setIfInBounds_toArray, List.set_cons_zero, List.set_cons_succ]
        refine wpL_take 2 53 (.slice (some ⟨nb, no, none⟩) names.length cn) [] rfl rfl (by kernel_rfl) (by decide) (by kernel_rfl) (by kernel_rfl) (by kernel_rfl) (fun _ _ _ h => h) HSX.out (by rfl) (fun W hW => by have d0 : W.cell? ⟨Z, 2, none⟩ = some (.slice (some ⟨nb, no, none⟩) names.length cn) := blk_cell hW.z 2; go_simp) ?_
        simp only [Act.put, List.setIfInBounds_toArray, List.set_cons_zero, List.set_cons_succ]
        refine wpL_take 3 54 (i64 i) [] rfl rfl (by kernel_rfl) (by decide) (by kernel_rfl) (by kernel_rfl) (by kernel_rfl) (fun _ _ _ h => h) HSX.out (by rfl) (fun W hW => by go_simp) ?_
        simp only [Act.put, List.setIfInBounds_toArray, List.set_cons_zero, List.set_cons_succ]
        refine wpL_take 4 55 (.pointer (some ⟨nb, no + i, none⟩)) [] rfl rfl (by kernel_rfl) (by decide) (by kernel_rfl) (by kernel_rfl) (by kernel_rfl) (fun _ _ _ h => h) HSX.out (by rfl) (fun W hW => by go_simp) ?_
        simp only [Act.put, List.setIfInBounds_toArray, List.set_cons_zero, List.set_cons_succ]
        refine wpL_take 5 56 (str nm) [] rfl rfl (by kernel_rfl) (by decide) (by kernel_rfl) (by kernel_rfl) (by kernel_rfl) (fun _ _ _ h => h) HSX.out (by rfl) (fun W hW => by have d0 := hW.c; go_simp) ?_
        simp only [Act.put, List.setIfInBounds_toArray, List.set_cons_zero, List.set_cons_succ]
        refine wpL_take 6 57 (.string ((⟨Bc.toArray⟩ : ByteArray) ++ ⟨nm.toArray⟩)) [] rfl rfl (by kernel_rfl) (by decide) (by kernel_rfl) (by kernel_rfl) (by kernel_rfl) (fun _ _ _ h => h) HSX.out (by rfl) (fun W hW => by go_simp; omega) ?_
        simp only [Act.put, List.setIfInBounds_toArray, List.set_cons_zero, List.set_cons_succ]
        refine wpL_take 7 58 (.string (((⟨Bc.toArray⟩ : ByteArray) ++ ⟨nm.toArray⟩) ++ ⟨#[58]⟩)) [] rfl rfl (by kernel_rfl) (by decide) (by kernel_rfl) (by kernel_rfl) (by kernel_rfl) (fun _ _ _ h => h) HSX.out (by rfl) (fun W hW => by go_simp; omega) ?_
        simp only [Act.put, List.setIfInBounds_toArray, List.set_cons_zero, List.set_cons_succ]
        refine wpL_take 8 59 (.agg #[i64 T.kind, i64 T.num, .slice an2 T.names.length cn2, .slice ak2 T.kids.length ck2]) [] rfl rfl (by kernel_rfl) (by decide) (by kernel_rfl) (by kernel_rfl) (by kernel_rfl) (fun _ _ _ h => h) HSX.out (by rfl) (fun W hW => by have d0 : W.cell? ⟨Y, 0, none⟩ = some (i64 T.kind) := blk_cell hW.y 0; have d1 : W.cell? ⟨Y, 1, none⟩ = some (i64 T.num) := blk_cell hW.y 1; have d2 : W.cell? ⟨Y, 2, none⟩ = some (.slice an2 T.names.length cn2) := blk_cell hW.y 2; have d3 : W.cell? ⟨Y, 3, none⟩ = some (.slice ak2 T.kids.length ck2) := blk_cell hW.y 3; go_simp) ?_
        simp only [Act.put, List.setIfInBounds_toArray, List.set_cons_zero, List.set_cons_succ]
        refine wpL_one 9 rfl (by kernel_rfl) (by rfl) (fun K hK => ?_)
        go_simp
        refine (HCA.out X.drew _ _ (HRT.out.under ⟨rfl, rfl, rfl, Nat.le_refl _, fun _ _ => rfl⟩)).mono ?_
        rintro e w4 ⟨rfl, hb4⟩
        have hb4' : Below X.heap.size X w4 := ⟨hb4.os, hb4.tape, hb4.output, hb4.size, hb4.block⟩
        have HS4 : Hid (Sx Z Y nb (no + i) (.cells #[i64 4, i64 0, .slice (some ⟨nb, no, none⟩) names.length cn, .slice (some ⟨b, off, none⟩) kids.length ck] 64) (.cells #[i64 T.kind, i64 T.num, .slice an2 T.names.length cn2, .slice ak2 T.kids.length ck2] 64) nm w4) := HSX.out.below hb4
        have HB4 : Hid (Below w.heap.size w w4) := HBXw.out.trans (hb4'.mono HBXw.out.size)
        clear hb4 hb4'
        go_simp
        refine hK.out _ _ (fun _ => HS4.out) ?_
        clear hK K
        have hstr : Value.string ((((⟨Bc.toArray⟩ : ByteArray) ++ ⟨nm.toArray⟩) ++ ⟨#[58]⟩) ++ ⟨TT.toArray⟩) = str (Bc ++ (nm ++ 58 :: TT)) := by
          refine congrArg Value.string ?_
          apply ByteArray.ext
          simp
        refine wpL_take 10 61 (str (Bc ++ (nm ++ 58 :: TT))) [] rfl rfl (by kernel_rfl) (by decide) (by kernel_rfl) (by kernel_rfl) (by kernel_rfl) (fun _ _ _ h => h) HS4.out (by rfl) (fun W hW => by rw [← hstr]; go_simp; omega) ?_
        simp only [Act.put, List.setIfInBounds_toArray, List.set_cons_zero, List.set_cons_succ]
        clear hstr
        refine wpL_one 11 rfl (by kernel_rfl) (by rfl) (fun K hK => ?_)
        go_simp
        refine hK.out _ _ (fun h => absurd rfl h) ?_
        clear hK K
        refine wpL_done (by kernel_rfl) ?_
        refine NoPanic.normal ?_
        go_wp2_with fail
        exact ⟨⟨i + 1, _, by omega, by go_num, rfl, HAC, hAle, HS4.out.z, HB4⟩, by simp [intOf]; omega⟩
      · obtain ⟨Bc, hBc⟩ : ∃ Bc, Bc = ac ++ [44] := ⟨_, rfl⟩
        have HAC : Hid (Bc ++ (nm ++ 58 :: TT) = accT FL (i + 1)) := by show _ = _; rw [HAS.out, if_neg hi0, hBc, HAc.out]; simp
        have hAle : (Bc ++ (nm ++ 58 :: TT)).length ≤ 3000000 := by rw [HAC.out]; exact HA2.out
        have hBl : Bc.length ≤ 3000001 := by rw [hBc]; simp; omega
        have hbB := bz Bc
        have hst2 : Value.string ((⟨ac.toArray⟩ : ByteArray) ++ ⟨#[44]⟩) = str Bc := by
          rw [hBc]
          exact congrArg Value.string (ba_append ac [44])
        have hgt : (0 : Int) < (i : Int) := by omega
        have HI0 := hid hi0
        have HST2 := hid hst2
        clear hi0 hBc hst2
        go_upto_region 15 with fail
        rw [HST2.out]
        refine wp_region_noPanic ?_
        refine wp_region_last (Sx Z Y nb (no + i) (.cells #[i64 4, i64 0, .slice (some ⟨nb, no, none⟩) names.length cn, .slice (some ⟨b, off, none⟩) kids.length ck] 64) (.cells #[i64 T.kind, i64 T.num, .slice an2 T.names.length cn2, .slice ak2 T.kids.length ck2] 64) nm) 11 (by kernel_rfl) ?_
        refine wpL_take 0 51 (str Bc) [] rfl rfl (by kernel_rfl) (by decide) (by kernel_rfl) (by kernel_rfl) (by kernel_rfl) (fun _ _ _ h => h) HSX.out (by rfl) (fun W hW => by go_simp) ?_
        simp only [Act.put, List.setIfInBounds_toArray, List.set_cons_zero, List.set_cons_succ]
        refine wpL_take 1 52 (.pointer (some ⟨Z, 2, none⟩)) [] rfl rfl (by kernel_rfl) (by decide) (by kernel_rfl) (by kernel_rfl) (by kernel_rfl) (fun _ _ _ h => h) HSX.out (by rfl) (fun W hW => by go_simp) ?_
        simp only [Act.put, List.setIfInBounds_toArray, List.set_cons_zero, List.set_cons_succ]
        refine wpL_take 2 53 (.slice (some ⟨nb, no, none⟩) names.length cn) [] rfl rfl (by kernel_rfl) (by decide) (by kernel_rfl) (by kernel_rfl) (by kernel_rfl) (fun _ _ _ h => h) HSX.out (by rfl) (fun W hW => by have d0 : W.cell? ⟨Z, 2, none⟩ = some (.slice (some ⟨nb, no, none⟩) names.length cn) := blk_cell hW.z 2; go_simp) ?_
        simp only [Act.put, List.setIfInBounds_toArray, List.set_cons_zero, List.set_cons_succ]
        refine wpL_take 3 54 (i64 i) [] rfl rfl (by kernel_rfl) (by decide) (by kernel_rfl) (by kernel_rfl) (by kernel_rfl) (fun _ _ _ h => h) HSX.out (by rfl) (fun W hW => by go_simp) ?_
        simp only [Act.put, List.setIfInBounds_toArray, List.set_cons_zero, List.set_cons_succ]
        refine wpL_take 4 55 (.pointer (some ⟨nb, no + i, none⟩)) [] rfl rfl (by kernel_rfl) (by decide) (by kernel_rfl) (by kernel_rfl) (by kernel_rfl) (fun _ _ _ h => h) HSX.out (by rfl) (fun W hW => by go_simp) ?_
        simp only [Act.put, List.setIfInBounds_toArray, List.set_cons_zero, List.set_cons_succ]
        refine wpL_take 5 56 (str nm) [] rfl rfl (by kernel_rfl) (by decide) (by kernel_rfl) (by kernel_rfl) (by kernel_rfl) (fun _ _ _ h => h) HSX.out (by rfl) (fun W hW => by have d0 := hW.c; go_simp) ?_
        simp only [Act.put, List.setIfInBounds_toArray, List.set_cons_zero, List.set_cons_succ]
        refine wpL_take 6 57 (.string ((⟨Bc.toArray⟩ : ByteArray) ++ ⟨nm.toArray⟩)) [] rfl rfl (by kernel_rfl) (by decide) (by kernel_rfl) (by kernel_rfl) (by kernel_rfl) (fun _ _ _ h => h) HSX.out (by rfl) (fun W hW => by go_simp; omega) ?_
        simp only [Act.put, List.setIfInBounds_toArray, List.set_cons_zero, List.set_cons_succ]
        refine wpL_take 7 58 (.string (((⟨Bc.toArray⟩ : ByteArray) ++ ⟨nm.toArray⟩) ++ ⟨#[58]⟩)) [] rfl rfl (by kernel_rfl) (by decide) (by kernel_rfl) (by kernel_rfl) (by kernel_rfl) (fun _ _ _ h => h) HSX.out (by rfl) (fun W hW => by go_simp; omega) ?_
        simp only [Act.put, List.setIfInBounds_toArray, List.set_cons_zero, List.set_cons_succ]
        refine wpL_take 8 59 (.agg #[i64 T.kind, i64 T.num, .slice an2 T.names.length cn2, .slice ak2 T.kids.length ck2]) [] rfl rfl (by kernel_rfl) (by decide) (by kernel_rfl) (by kernel_rfl) (by kernel_rfl) (fun _ _ _ h => h) HSX.out (by rfl) (fun W hW => by have d0 : W.cell? ⟨Y, 0, none⟩ = some (i64 T.kind) := blk_cell hW.y 0; have d1 : W.cell? ⟨Y, 1, none⟩ = some (i64 T.num) := blk_cell hW.y 1; have d2 : W.cell? ⟨Y, 2, none⟩ = some (.slice an2 T.names.length cn2) := blk_cell hW.y 2; have d3 : W.cell? ⟨Y, 3, none⟩ = some (.slice ak2 T.kids.length ck2) := blk_cell hW.y 3; go_simp) ?_
        simp only [Act.put, List.setIfInBounds_toArray, List.set_cons_zero, List.set_cons_succ]
        refine wpL_one 9 rfl (by kernel_rfl) (by rfl) (fun K hK => ?_)
        go_simp
        refine (HCA.out X.drew _ _ (HRT.out.under ⟨rfl, rfl, rfl, Nat.le_refl _, fun _ _ => rfl⟩)).mono ?_
        rintro e w4 ⟨rfl, hb4⟩
        have hb4' : Below X.heap.size X w4 := ⟨hb4.os, hb4.tape, hb4.output, hb4.size, hb4.block⟩
        have HS4 : Hid (Sx Z Y nb (no + i) (.cells #[i64 4, i64 0, .slice (some ⟨nb, no, none⟩) names.length cn, .slice (some ⟨b, off, none⟩) kids.length ck] 64) (.cells #[i64 T.kind, i64 T.num, .slice an2 T.names.length cn2, .slice ak2 T.kids.length ck2] 64) nm w4) := HSX.out.below hb4
        have HB4 : Hid (Below w.heap.size w w4) := HBXw.out.trans (hb4'.mono HBXw.out.size)
        clear hb4 hb4'
        go_simp
        refine hK.out _ _ (fun _ => HS4.out) ?_
        clear hK K
        have hstr : Value.string ((((⟨Bc.toArray⟩ : ByteArray) ++ ⟨nm.toArray⟩) ++ ⟨#[58]⟩) ++ ⟨TT.toArray⟩) = str (Bc ++ (nm ++ 58 :: TT)) := by
          refine congrArg Value.string ?_
          apply ByteArray.ext
          simp
        refine wpL_take 10 61 (str (Bc ++ (nm ++ 58 :: TT))) [] rfl rfl (by kernel_rfl) (by decide) (by kernel_rfl) (by kernel_rfl) (by kernel_rfl) (fun _ _ _ h => h) HS4.out (by rfl) (fun W hW => by rw [← hstr]; go_simp; omega) ?_
        simp only [Act.put, List.setIfInBounds_toArray, List.set_cons_zero, List.set_cons_succ]
        clear hstr
        refine wpL_one 11 rfl (by kernel_rfl) (by rfl) (fun K hK => ?_)
        go_simp
        refine hK.out _ _ (fun h => absurd rfl h) ?_
        clear hK K
        refine wpL_done (by kernel_rfl) ?_
        refine NoPanic.normal ?_
        go_wp2_with fail
        exact ⟨⟨i + 1, _, by omega, by go_num, rfl, HAC, hAle, HS4.out.z, HB4⟩, by simp [intOf]; omega⟩
    · have HF : Hid (ac = FT) := by show _ = _; rw [HAc.out, accT_all FL i (by rw [HFL.out]; omega), HJ.out]
      have hbf := bz ac
      have HRES2 : Hid (str TX = .string (((⟨#[114, 40]⟩ : ByteArray) ++ ⟨ac.toArray⟩) ++ ⟨#[41]⟩)) := by show _ = _; rw [HRES.out, HF.out]
      clear y0 y1 y2 y3 hZV
      go_wp2_with fail
      go_ret
      exact ⟨by rw [HRES2.out]; rfl, HB.out⟩
theorem plain_ok : ∀ (M : Nat) (T : Ty), T.count ≤ M → T.count ≤ 1000 → T.formed = true → ∀ (w : World) (S : Nat → Prop) (nv kv : Value), Rd w S T nv kv → Calls Tryz.prog 58 #[tyV T.kind T.num nv kv] w fun e w' => e = .returned (str T.txt) ∧ Below w.heap.size w w'
  | 0, T, hM, _, _, _, _, _, _, _ => by have := count_pos T; omega
  | M + 1, .mk k n names kids, hM, hC, hf, w, S, nv, kv, hR => by
    simp only [Ty.count] at hM hC
    simp only [Ty.formed, Bool.and_eq_true] at hf
    obtain ⟨hn, hl⟩ := hf
    have hnode := nodeB_node hn
    have ih : ∀ T ∈ kids, ∀ (w : World) (nv kv : Value), Rd w S T nv kv → Calls Tryz.prog 58 #[tyV T.kind T.num nv kv] w fun e w' => e = .returned (str T.txt) ∧ Below w.heap.size w w' := fun T hT w nv kv hR => plain_ok M T (by have := countL_mem hT; omega) (by have := countL_mem hT; omega) (formedL_mem hl hT) w S nv kv hR
    have hle : ∀ T ∈ kids, T.txt.length ≤ 3000000 := fun T hT => by have h1 := txt_le T.count T (Nat.le_refl _) (formedL_mem hl hT); have h2 := countL_mem hT; omega
    generalize hkn : kids.length = kn at hnode
    cases hnode with
    | int h0 h1 =>
      obtain rfl := List.eq_nil_of_length_eq_zero hkn
      exact plain_1 n w S nv kv h0 h1 hR
    | text h0 h1 =>
      obtain rfl := List.eq_nil_of_length_eq_zero hkn
      exact plain_2 n w S nv kv h0 h1 hR
    | list h0 h1 =>
      obtain ⟨T, rfl⟩ : ∃ T, kids = [T] := by cases kids with
        | nil => simp at hkn
        | cons T r => have : r = [] := by simpa using hkn
                      exact ⟨T, by rw [this]⟩
      exact plain_3 n T w S nv kv h0 h1 hR (hle T (by simp)) (fun w nv kv hR => ih T (by simp) w nv kv hR)
    | rc h0 h1 h2 h3 =>
      have hft := fieldT_le names kids (by omega) (fun x hx => nameB_le (namesTo_mem h3 hx)) (fun T hT => txt_le T.count T (Nat.le_refl _) (formedL_mem hl hT))
      exact plain_4 names kids w S nv kv (by omega) (by omega) (fun x hx => nameB_le (namesTo_mem h3 hx)) hle (by omega) hR ih
set_option maxRecDepth 100000 in
set_option maxHeartbeats 3200000 in
theorem rcheck_ok (T : Ty) (w : World) (S : Nat → Prop) (nv kv : Value) (hR : Rd w S T nv kv) (hC : T.count ≤ 3000000) (hS : T.small = true) : Calls Tryz.prog 56 #[tyV T.kind T.num nv kv] w fun e w' => e = .returned (i64 T.err) ∧ Below w.heap.size w w' := by
  obtain ⟨E0, hE0⟩ : ∃ E0, E0 = T.err := ⟨_, rfl⟩
  have HE0 : Hid (E0 = if T.depth ≤ 6 ∧ T.count ≤ 100 then (if T.formed = true then 0 else 4) else 2) := hE0
  rw [← hE0]
  clear hE0
  have HDp : Hid (∀ W, Below w.heap.size w W → Calls Tryz.prog 75 #[tyV T.kind T.num nv kv] W fun e w' => e = .returned (i64 (T.depth : Nat)) ∧ Below W.heap.size W w') := fun W hW => depth_ok T.count T (Nat.le_refl _) (by omega) W S nv kv (hR.under hW)
  have HCt : Hid (∀ W, Below w.heap.size w W → Calls Tryz.prog 76 #[tyV T.kind T.num nv kv] W fun e w' => e = .returned (i64 (T.count : Nat)) ∧ Below W.heap.size W w') := fun W hW => count_ok T.count T (Nat.le_refl _) (by omega) W S nv kv (hR.under hW)
  have HFm : Hid (∀ W, Below w.heap.size w W → Calls Tryz.prog 77 #[tyV T.kind T.num nv kv] W fun e w' => e = .returned (.bool T.formed) ∧ Below W.heap.size W w') := fun W hW => formed_ok T.count T (Nat.le_refl _) hS W S nv kv (hR.under hW)
  have hdl := depth_le T
  obtain ⟨an, cn, rfl, ak, ck, rfl⟩ := hR.form
  have HX : Hid ((w.alloc (.cells #[i64 T.kind, i64 T.num, .slice an T.names.length cn, .slice ak T.kids.length ck] 64)).heap[w.heap.size]? = some (.cells #[i64 T.kind, i64 T.num, .slice an T.names.length cn, .slice ak T.kids.length ck] 64)) := heap_last w _
  have HBV : Hid (Below w.heap.size w (w.alloc (.cells #[i64 T.kind, i64 T.num, .slice an T.names.length cn, .slice ak T.kids.length ck] 64))) := below_one w _
  clear hR hS
  generalize T.depth = DP at *
  generalize T.count = CT at *
  generalize T.formed = FM at *
  go_enter Tryz.func56, Tryz.ntmps56
  go_upto_region 1 with fail
  obtain ⟨Z, hZ⟩ : ∃ Z, Z = w.heap.size := ⟨_, rfl⟩
  rw [← hZ] at HX ⊢
  clear hZ
  generalize w.alloc (.cells #[i64 T.kind, i64 T.num, .slice an T.names.length cn, .slice ak T.kids.length ck] 64) = V at *
  have yc0 : V.cell? ⟨Z, 0, none⟩ = some (i64 T.kind) := blk_cell HX.out 0
  have yc1 : V.cell? ⟨Z, 1, none⟩ = some (i64 T.num) := blk_cell HX.out 1
  have yc2 : V.cell? ⟨Z, 2, none⟩ = some (.slice an T.names.length cn) := blk_cell HX.out 2
  have yc3 : V.cell? ⟨Z, 3, none⟩ = some (.slice ak T.kids.length ck) := blk_cell HX.out 3
  have HC1 := hid (HDp.out V HBV.out)
  go_wp2_with fail
  refine HC1.out.mono ?_
  rintro e w1 ⟨rfl, hb1⟩
  have HB1 : Hid (Below w.heap.size w w1) := HBV.out.trans (hb1.mono HBV.out.size)
  have HX1 := hid (blk_below HX.out hb1)
  clear hb1 yc0 yc1 yc2 yc3
  have yc0 : w1.cell? ⟨Z, 0, none⟩ = some (i64 T.kind) := blk_cell HX1.out 0
  have yc1 : w1.cell? ⟨Z, 1, none⟩ = some (i64 T.num) := blk_cell HX1.out 1
  have yc2 : w1.cell? ⟨Z, 2, none⟩ = some (.slice an T.names.length cn) := blk_cell HX1.out 2
  have yc3 : w1.cell? ⟨Z, 3, none⟩ = some (.slice ak T.kids.length ck) := blk_cell HX1.out 3
  by_cases h6 : 6 < DP
  · have HF : Hid (E0 = 2) := by show _ = _; rw [HE0.out, if_neg (by omega)]
    have h6I : (6 : Int) < DP := by omega
    go_wp2_with fail
    go_ret
    exact ⟨by rw [HF.out]; rfl, HB1.out⟩
  · have h6I : decide ((6 : Int) < DP) = false := by simp; omega
    have HC2 := hid (HCt.out w1 HB1.out)
    go_wp2_with fail
    refine HC2.out.mono ?_
    rintro e w2 ⟨rfl, hb2⟩
    have HB2 : Hid (Below w.heap.size w w2) := HB1.out.trans (hb2.mono HB1.out.size)
    have HX2 := hid (blk_below HX1.out hb2)
    clear hb2 yc0 yc1 yc2 yc3
    have yc0 : w2.cell? ⟨Z, 0, none⟩ = some (i64 T.kind) := blk_cell HX2.out 0
    have yc1 : w2.cell? ⟨Z, 1, none⟩ = some (i64 T.num) := blk_cell HX2.out 1
    have yc2 : w2.cell? ⟨Z, 2, none⟩ = some (.slice an T.names.length cn) := blk_cell HX2.out 2
    have yc3 : w2.cell? ⟨Z, 3, none⟩ = some (.slice ak T.kids.length ck) := blk_cell HX2.out 3
    by_cases h7 : 100 < CT
    · have HF : Hid (E0 = 2) := by show _ = _; rw [HE0.out, if_neg (by omega)]
      have h7I : (100 : Int) < CT := by omega
      go_wp2_with fail
      go_ret
      exact ⟨by rw [HF.out]; rfl, HB2.out⟩
    · have HF : Hid (E0 = if FM = true then 0 else 4) := by show _ = _; rw [HE0.out, if_pos (by omega)]
      have h7I : decide ((100 : Int) < CT) = false := by simp; omega
      have HC3 := hid (HFm.out w2 HB2.out)
      clear HE0
      go_wp2_with fail
      refine HC3.out.mono ?_
      rintro e w3 ⟨rfl, hb3⟩
      have HB3 : Hid (Below w.heap.size w w3) := HB2.out.trans (hb3.mono HB2.out.size)
      clear hb3 yc0 yc1 yc2 yc3
      cases FM with
      | true =>
        go_wp2_with fail
        go_ret
        exact ⟨by rw [HF.out]; rfl, HB3.out⟩
      | false =>
        go_wp2_with fail
        go_ret
        exact ⟨by rw [HF.out]; rfl, HB3.out⟩
end Go.Proofs.YtjppcfjjpkniaaaGreatDoor
namespace Go.Proofs.YtjppcfjjpkniaaaGreatDoor
open Go.ChangeShapes Go.WideShapes Go.ChangeAt Go.RowKit Go.Deep
attribute [local go_sem ↓] Go.wp_at_zero Go.wp_at_succ

theorem take_smallL (l : List Ty) (k : Nat) (hk : k < l.length) : smallL (l.take (k + 1)) = (smallL (l.take k) && l[k].small) := by
  induction l generalizing k with
  | nil => simp at hk
  | cons t r ih =>
    cases k with
    | zero => simp [smallL]
    | succ k =>
      have := ih k (by simpa using hk)
      simp only [List.take_succ_cons, smallL, List.getElem_cons_succ, this, Bool.and_assoc]
def LgOk2 (w : World) (q : Nat) (m : Int) (T : Ty) (e : Ending) (w' : World) : Prop :=
  ∃ (b : Bool) (m' : Int), e = .returned (.bool b) ∧ w'.heap[q]? = some (.cells #[i64 m'] 35) ∧ Touch q w w' ∧ (b = false → 0 ≤ m' ∧ m' = m - T.count ∧ T.small = true)
set_option maxRecDepth 100000 in
set_option maxHeartbeats 3200000 in
theorem large2_big (k n : Int) (names : List Bs) (kids : List Ty) (w : World) (nv kv : Value) (q : Nat) (m d : Int) (hR : Rd w (fun b => b ≠ q) (.mk k n names kids) nv kv) (hq : w.heap[q]? = some (.cells #[i64 m] 35)) (hm : 0 ≤ m) (hm2 : m ≤ 400) (hd : 0 ≤ d) (hd2 : d ≤ 30)
    (hbig : m < 1 ∨ 20 < d ∨ 100 < kids.length ∨ 100 < names.length) : Calls Tryz.prog 23 #[tyV k n nv kv, pq q, i64 d] w (LgOk2 w q m (.mk k n names kids)) := by
  obtain ⟨⟨an, cn, rfl, hnl, _, _⟩, hkl, ak, ck, rfl, _⟩ := hR.kid
  have hqlt := blk_lt hq
  have HX : Hid ((w.alloc (.cells #[i64 k, i64 n, .slice an names.length cn, .slice ak kids.length ck] 49)).heap[w.heap.size]? = some (.cells #[i64 k, i64 n, .slice an names.length cn, .slice ak kids.length ck] 49)) := heap_last w _
  have HQ : Hid ((w.alloc (.cells #[i64 k, i64 n, .slice an names.length cn, .slice ak kids.length ck] 49)).heap[q]? = some (.cells #[i64 m] 35)) := blk_alloc hq _
  have HT : Hid (Touch q w (w.alloc (.cells #[i64 k, i64 n, .slice an names.length cn, .slice ak kids.length ck] 49))) := (Touch.refl _ _).alloc _
  clear hR hq
  go_enter Tryz.func23, Tryz.ntmps23
  go_upto_region 1 with fail
  obtain ⟨Z, hZ⟩ : ∃ Z, Z = w.heap.size := ⟨_, rfl⟩
  rw [← hZ] at HX hqlt ⊢
  generalize w.alloc (.cells #[i64 k, i64 n, .slice an names.length cn, .slice ak kids.length ck] 49) = V at *
  have yq : V.cell? ⟨q, 0, none⟩ = some (i64 m) := blk_cell HQ.out 0
  have fq : V.frozen? ⟨q, 0, none⟩ = false := blk_frozen HQ.out 0
  have HQ1 : Hid ((V.setCell ⟨q, 0, none⟩ (i64 (m - 1))).heap[q]? = some (.cells #[i64 (m - 1)] 35)) := set1 HQ.out _
  have HX1 : Hid ((V.setCell ⟨q, 0, none⟩ (i64 (m - 1))).heap[Z]? = some (.cells #[i64 k, i64 n, .slice an names.length cn, .slice ak kids.length ck] 49)) := by
    show _ = _
    rw [Below.heap_setCell _ _ _ _ (by show Z ≠ q; omega)]; exact HX.out
  have HT1 : Hid (Touch q w (V.setCell ⟨q, 0, none⟩ (i64 (m - 1)))) := HT.out.setCell rfl _
  have HZ := hid hZ
  clear hZ
  go_upto_region 2 with fail
  generalize V.setCell ⟨q, 0, none⟩ (i64 (m - 1)) = U at *
  have y0 : U.cell? ⟨q, 0, none⟩ = some (i64 (m - 1)) := blk_cell HQ1.out 0
  have y2 : U.cell? ⟨Z, 2, none⟩ = some (.slice an names.length cn) := blk_cell HX1.out 2
  have y3 : U.cell? ⟨Z, 3, none⟩ = some (.slice ak kids.length ck) := blk_cell HX1.out 3
  unfold maxLen at hkl hnl
  by_cases h1 : m < 1
  · go_wp2_with fail
    go_ret
    exact ⟨true, m - 1, rfl, HQ1.out, HT1.out, fun h => by cases h⟩
  · by_cases h2 : 20 < d
    · go_wp2_with fail
      go_ret
      exact ⟨true, m - 1, rfl, HQ1.out, HT1.out, fun h => by cases h⟩
    · by_cases h3 : 100 < kids.length
      · go_wp2_with fail
        go_ret
        exact ⟨true, m - 1, rfl, HQ1.out, HT1.out, fun h => by cases h⟩
      · have h4 : 100 < names.length := by omega
        go_wp2_with fail
        go_ret
        exact ⟨true, m - 1, rfl, HQ1.out, HT1.out, fun h => by cases h⟩
set_option maxRecDepth 100000 in
set_option maxHeartbeats 3200000 in
theorem large2_in (k n : Int) (names : List Bs) (kids : List Ty) (w : World) (nv kv : Value) (q : Nat) (m d : Int) (hR : Rd w (fun b => b ≠ q) (.mk k n names kids) nv kv) (hq : w.heap[q]? = some (.cells #[i64 m] 35)) (hm : 1 ≤ m) (hm2 : m ≤ 400) (hd : 0 ≤ d) (hd2 : d ≤ 20) (hk1 : kids.length ≤ 100) (hn1 : names.length ≤ 100)
    (hih : ∀ T ∈ kids, ∀ (w : World) (nv kv : Value) (m : Int), Rd w (fun b => b ≠ q) T nv kv → w.heap[q]? = some (.cells #[i64 m] 35) → 0 ≤ m → m ≤ 400 → Calls Tryz.prog 23 #[tyV T.kind T.num nv kv, pq q, i64 (d + 1)] w (LgOk2 w q m T)) : Calls Tryz.prog 23 #[tyV k n nv kv, pq q, i64 d] w (LgOk2 w q m (.mk k n names kids)) := by
  have HRd : Hid (Rd w (fun b => b ≠ q) (.mk k n names kids) nv kv) := hR
  obtain ⟨⟨an, cn, rfl, _, _, _⟩, _, ak, ck, rfl, _⟩ := hR.kid
  have hqlt := blk_lt hq
  have HIH := hid hih
  have HX : Hid ((w.alloc (.cells #[i64 k, i64 n, .slice an names.length cn, .slice ak kids.length ck] 49)).heap[w.heap.size]? = some (.cells #[i64 k, i64 n, .slice an names.length cn, .slice ak kids.length ck] 49)) := heap_last w _
  have HQ : Hid ((w.alloc (.cells #[i64 k, i64 n, .slice an names.length cn, .slice ak kids.length ck] 49)).heap[q]? = some (.cells #[i64 m] 35)) := blk_alloc hq _
  have HT : Hid (Touch q w (w.alloc (.cells #[i64 k, i64 n, .slice an names.length cn, .slice ak kids.length ck] 49))) := (Touch.refl _ _).alloc _
  clear hR hq hih
  go_enter Tryz.func23, Tryz.ntmps23
  go_upto_region 1 with fail
  obtain ⟨Z, hZ⟩ : ∃ Z, Z = w.heap.size := ⟨_, rfl⟩
  rw [← hZ] at HX hqlt ⊢
  generalize w.alloc (.cells #[i64 k, i64 n, .slice an names.length cn, .slice ak kids.length ck] 49) = V at *
  have yq : V.cell? ⟨q, 0, none⟩ = some (i64 m) := blk_cell HQ.out 0
  have fq : V.frozen? ⟨q, 0, none⟩ = false := blk_frozen HQ.out 0
  have HQ1 : Hid ((V.setCell ⟨q, 0, none⟩ (i64 (m - 1))).heap[q]? = some (.cells #[i64 (m - 1)] 35)) := set1 HQ.out _
  have HX1 : Hid ((V.setCell ⟨q, 0, none⟩ (i64 (m - 1))).heap[Z]? = some (.cells #[i64 k, i64 n, .slice an names.length cn, .slice ak kids.length ck] 49)) := by
    show _ = _
    rw [Below.heap_setCell _ _ _ _ (by show Z ≠ q; omega)]; exact HX.out
  have HT1 : Hid (Touch q w (V.setCell ⟨q, 0, none⟩ (i64 (m - 1)))) := HT.out.setCell rfl _
  have HZ := hid hZ
  clear hZ
  go_upto_region 2 with fail
  generalize V.setCell ⟨q, 0, none⟩ (i64 (m - 1)) = U at *
  have y0 : U.cell? ⟨q, 0, none⟩ = some (i64 (m - 1)) := blk_cell HQ1.out 0
  have y2 : U.cell? ⟨Z, 2, none⟩ = some (.slice an names.length cn) := blk_cell HX1.out 2
  have y3 : U.cell? ⟨Z, 3, none⟩ = some (.slice ak kids.length ck) := blk_cell HX1.out 3
  go_wp2_with fail
  go_loopw [41] (fun u wr => ∃ (i : Nat) (m1 : Int), i ≤ kids.length ∧ u = i64 i ∧ 0 ≤ m1 ∧ Hid (m1 = m - 1 - countL (kids.take i)) ∧ Hid (smallL (kids.take i) = true) ∧ Hid (wr.heap[q]? = some (.cells #[i64 m1] 35)) ∧ Hid (Touch q w wr)) (fun u _ => kids.length - (intOf u).toNat)
  case atStart => exact ⟨0, m - 1, by omega, rfl, by omega, by show _ = _; simp [countL], by show _ = _; simp [smallL], HQ1, HT1⟩
  case round =>
    obtain ⟨i, m1, hi, rfl, hm1, HM, HSm, HQr, HTr⟩ := hrel
    by_cases hlt : i < kids.length
    · have hm3 : m1 ≤ 400 := by have := HM.out; omega
      obtain ⟨_, _, ak', ck', he, hkid⟩ := (HRd.out.touch HTr.out).kid
      cases he
      obtain ⟨b, off, nv', kv', rfl, hbq, hblt, hr, hrd⟩ := hkid i hlt
      obtain ⟨T, hT⟩ : ∃ T, T = kids[i] := ⟨_, rfl⟩
      rw [← hT] at hr hrd
      have HTm : Hid (T ∈ kids) := by show _; rw [hT]; exact List.getElem_mem hlt
      have HTc : Hid (countL (kids.take (i + 1)) = countL (kids.take i) + T.count) := by show _ = _; rw [hT]; exact take_countL kids i hlt
      have HTs : Hid (smallL (kids.take (i + 1)) = (smallL (kids.take i) && T.small)) := by show _ = _; rw [hT]; exact take_smallL kids i hlt
      have c0 : wr.cell? ⟨b, off + i * 4, none⟩ = some (i64 T.kind) := hr 0 _ rfl
      have c1 : wr.cell? ⟨b, off + i * 4 + 1, none⟩ = some (i64 T.num) := hr 1 _ rfl
      have c2 : wr.cell? ⟨b, off + i * 4 + 2, none⟩ = some nv' := hr 2 _ rfl
      have c3 : wr.cell? ⟨b, off + i * 4 + 3, none⟩ = some kv' := hr 3 _ rfl
      have hqr := blk_lt HQr.out
      have hqr' := hqr
      obtain ⟨⟨an', cn', rfl, _, _, _⟩, _, ak', ck', rfl, _⟩ := (show Rd wr (fun b => b ≠ q) (.mk T.kind T.num T.names T.kids) nv' kv' by cases T; exact hrd).kid
      have HX2 : Hid ((wr.alloc (.cells #[i64 T.kind, i64 T.num, .slice an' T.names.length cn', .slice ak' T.kids.length ck'] 49)).heap[wr.heap.size]? = some (.cells #[i64 T.kind, i64 T.num, .slice an' T.names.length cn', .slice ak' T.kids.length ck'] 49)) := heap_last wr _
      have HT2 : Hid (Touch q w (wr.alloc (.cells #[i64 T.kind, i64 T.num, .slice an' T.names.length cn', .slice ak' T.kids.length ck'] 49))) := HTr.out.alloc _
      have HC : Hid (Calls Tryz.prog 23 #[tyV T.kind T.num (.slice an' T.names.length cn') (.slice ak' T.kids.length ck'), pq q, i64 (d + 1)] (wr.alloc (.cells #[i64 T.kind, i64 T.num, .slice an' T.names.length cn', .slice ak' T.kids.length ck'] 49)) (LgOk2 (wr.alloc (.cells #[i64 T.kind, i64 T.num, .slice an' T.names.length cn', .slice ak' T.kids.length ck'] 49)) q m1 T)) :=
        HIH.out T HTm.out _ _ _ m1 (hrd.move (by simp) fun b hS hlt => ⟨hS, Below.heap_alloc _ _ _ hlt⟩) (blk_alloc HQr.out _) hm1 hm3
      clear hT hr hrd hkid hqr
      go_upto_region 7 with fail
      obtain ⟨Y, hY⟩ : ∃ Y, Y = wr.heap.size := ⟨_, rfl⟩
      rw [← hY] at HX2 ⊢
      generalize wr.alloc (.cells #[i64 T.kind, i64 T.num, .slice an' T.names.length cn', .slice ak' T.kids.length ck'] 49) = X at *
      have z0 : X.cell? ⟨Y, 0, none⟩ = some (i64 T.kind) := blk_cell HX2.out 0
      have z1 : X.cell? ⟨Y, 1, none⟩ = some (i64 T.num) := blk_cell HX2.out 1
      have z2 : X.cell? ⟨Y, 2, none⟩ = some (.slice an' T.names.length cn') := blk_cell HX2.out 2
      have z3 : X.cell? ⟨Y, 3, none⟩ = some (.slice ak' T.kids.length ck') := blk_cell HX2.out 3
      clear c0 c1 c2 c3 hY
      go_wp2_with fail
      refine HC.out.mono ?_
      rintro e w3 ⟨bb, m2, rfl, hq3, ht3, hf3⟩
      have HQ3 := hid hq3
      have HT3 : Hid (Touch q w w3) := HT2.out.trans ht3
      have HF3 := hid hf3
      clear hq3 ht3 hf3
      cases bb with
      | true =>
        go_wp2_with fail
        go_ret
        exact ⟨true, m2, rfl, HQ3.out, HT3.out, fun h => by cases h⟩
      | false =>
        obtain ⟨g1, g2, g3⟩ := HF3.out rfl
        have HSm2 : Hid (smallL (kids.take (i + 1)) = true) := by show _ = _; rw [HTs.out, HSm.out, g3]; rfl
        have HM2 : Hid (m2 = m - 1 - countL (kids.take (i + 1))) := by show _ = _; rw [g2, HM.out, HTc.out]; omega
        clear g2 g3
        go_wp2_with fail
        exact ⟨⟨i + 1, m2, by omega, by go_num, g1, HM2, HSm2, HQ3, HT3⟩, by simp [intOf]; omega⟩
    · have he : i = kids.length := by omega
      have HM3 : Hid (m1 = m - (Ty.mk k n names kids).count) := by
        show _ = _
        have := HM.out
        rw [he, List.take_of_length_le (Nat.le_refl _)] at this
        simp only [Ty.count]
        omega
      have HS3 : Hid ((Ty.mk k n names kids).small = true) := by
        show _ = _
        have h2 := HSm.out
        rw [he, List.take_of_length_le (Nat.le_refl _)] at h2
        rw [Ty.small, h2, decide_eq_true (by omega)]
        rfl
      clear he
      go_wp2_with fail
      go_ret
      exact ⟨false, m1, rfl, HQr.out, HTr.out, fun _ => ⟨hm1, HM3.out, HS3.out⟩⟩
theorem large2_ok : ∀ (N : Nat) (T : Ty), T.count ≤ N → ∀ (w : World) (nv kv : Value) (q : Nat) (m d : Int), Rd w (fun b => b ≠ q) T nv kv → w.heap[q]? = some (.cells #[i64 m] 35) → 0 ≤ m → m ≤ 400 → 0 ≤ d → d ≤ 30 → Calls Tryz.prog 23 #[tyV T.kind T.num nv kv, pq q, i64 d] w (LgOk2 w q m T)
  | 0, T, hN, _, _, _, _, _, _, _, _, _, _, _, _ => by have := count_pos T; omega
  | N + 1, .mk k n names kids, hN, w, nv, kv, q, m, d, hR, hq, hm, hm2, hd, hd2 => by
    by_cases hbig : m < 1 ∨ 20 < d ∨ 100 < kids.length ∨ 100 < names.length
    · exact large2_big k n names kids w nv kv q m d hR hq hm hm2 hd hd2 hbig
    · refine large2_in k n names kids w nv kv q m d hR hq (by omega) hm2 hd (by omega) (by omega) (by omega) (fun T hT w nv kv m hR hq hm hm2 => ?_)
      have := countL_mem hT
      simp only [Ty.count] at hN
      exact large2_ok N T (by omega) w nv kv q m (d + 1) hR hq hm hm2 (by omega) (by omega)
end Go.Proofs.YtjppcfjjpkniaaaGreatDoor
namespace Go.Proofs.YtjppcfjjpkniaaaGreatDoor
open Go.ChangeShapes Go.WideShapes Go.ChangeAt Go.RowKit Go.Deep
attribute [local go_sem ↓] Go.wp_at_zero Go.wp_at_succ

theorem smallL_app : ∀ (a b : List Ty), smallL (a ++ b) = (smallL a && smallL b)
  | [], b => by simp [smallL]
  | t :: r, b => by simp [smallL, smallL_app r b, Bool.and_assoc]
theorem countL_app : ∀ (a b : List Ty), countL (a ++ b) = countL a + countL b
  | [], b => by simp [countL]
  | t :: r, b => by simp [countL, countL_app r b]; omega
theorem recD_cnt (read : Bs → Option (Ty × Bs)) (hread : ∀ l t r, read l = some (t, r) → t.count + r.length ≤ l.length ∧ t.small = true) : ∀ (m : Nat) (s : Bs) (N : List Bs) (K : List Ty) (t : Ty) (r : Bs), N.length = K.length → N.length + m ≤ 13 → smallL K = true → recD read m s N K = some (t, r) → t.count + r.length ≤ 1 + countL K + s.length ∧ t.small = true
  | 0, _, _, _, _, _, _, _, _, h => by cases h
  | m + 1, s, N, K, t, r, hl, hm, hK, h => by
    rw [recD_step read m s _ _ N K rfl rfl] at h
    have hd : (s.dropWhile isLow).length ≤ s.length := (List.dropWhile_suffix _).length_le
    cases hdw : s.dropWhile isLow with
    | nil => rw [hdw] at h; cases h
    | cons c l =>
      rw [hdw] at h hd
      rw [List.length_cons] at hd
      split at h
      · rw [List.tail_cons] at h
        rcases hr : read l with _ | ⟨t1, r1⟩
        · rw [hr] at h; cases h
        · rw [hr] at h
          obtain ⟨g1, g2⟩ := hread l t1 r1 hr
          simp only [recDm, recDe] at h
          have hK1 : smallL (K ++ [t1]) = true := by rw [smallL_app, hK]; simp [smallL, g2]
          have hc1 : countL (K ++ [t1]) = countL K + t1.count := by rw [countL_app]; simp [countL]
          split at h
          · cases h
            rename_i h41
            cases r1 with
            | nil => cases h41
            | cons c2 r2 =>
              rw [List.length_cons] at g1
              simp only [Ty.count, Ty.small, List.tail_cons, hc1, hK1, List.length_append, List.length_cons, List.length_nil, Bool.and_true, decide_eq_true_eq]
              omega
          · split at h
            · rename_i h44
              cases r1 with
              | nil => cases h44
              | cons c2 r2 =>
                rw [List.length_cons] at g1
                rw [List.tail_cons] at h
                obtain ⟨i1, i2⟩ := recD_cnt read hread m r2 _ _ t r (by simp [hl]) (by simp; omega) hK1 h
                exact ⟨by omega, i2⟩
            · cases h
      · cases h
theorem takeD_cnt : ∀ (f : Nat) (s : Bs) (t : Ty) (r : Bs), takeD f s = some (t, r) → t.count + r.length ≤ s.length ∧ t.small = true
  | 0, _, _, _, h => by cases h
  | f + 1, [], _, _, h => by cases h
  | f + 1, c :: l, t, r, h => by
    simp only [takeD] at h
    split at h
    · rename_i h0
      obtain ⟨i1, i2⟩ := recD_cnt _ (takeD_cnt f) 13 _ _ _ _ _ rfl (by simp) rfl h
      cases l with
      | nil => simp at h0
      | cons c2 l2 =>
        simp only [List.tail_cons, countL] at i1
        simp only [List.length_cons]
        exact ⟨by omega, i2⟩
    · split at h
      · cases h
      · rename_i n r2 hn
        have h2 := (numD_suf hn).length_le
        split at h
        · cases h; simp [Ty.count, countL, Ty.small, smallL]; omega
        · split at h
          · cases h; simp [Ty.count, countL, Ty.small, smallL]; omega
          · split at h
            · split at h
              · rename_i r3
                split at h
                · rename_i t4 r4 h4
                  cases h
                  obtain ⟨i1, i2⟩ := takeD_cnt f _ _ _ h4
                  simp only [List.length_cons] at i1 h2 ⊢
                  simp [Ty.count, countL, Ty.small, smallL, i2]
                  omega
                · cases h
              · cases h
            · cases h
theorem pd_no {l : Bs} (h : takeD 6 l = none) : parseF l = none := by rw [← parse_same]; unfold parseD; rw [h]
theorem pd_more {l : Bs} {T : Ty} {r : Bs} (h : takeD 6 l = some (T, r)) (hr : r ≠ []) : parseF l = none := by
  rw [← parse_same]
  unfold parseD
  rw [h]
  cases r with
  | nil => exact absurd rfl hr
  | cons => rfl
theorem pd_bad {l : Bs} {T : Ty} (h : takeD 6 l = some (T, [])) (hr : T.err ≠ 0) : parseF l = none := by
  rw [← parse_same]
  unfold parseD
  rw [h]
  exact if_neg (fun e => hr ((right_err T).1 e))
theorem pd_good {l : Bs} {T : Ty} (h : takeD 6 l = some (T, [])) (hr : T.err = 0) : parseF l = some T := by
  rw [← parse_same]
  unfold parseD
  rw [h]
  exact if_pos ((right_err T).2 hr)
theorem parT_cnt (l : Bs) : (parT l).count ≤ 100 := by
  cases h : parseF l with
  | none => rw [(parse_4 h).1]; decide
  | some t =>
    rw [(parse_0 h).1]
    obtain ⟨h1, _⟩ := parseF_back h
    unfold Ty.right at h1
    simp only [Bool.and_eq_true, decide_eq_true_eq] at h1
    exact h1.1.2
theorem below4 {w W : World} {lo R : Nat} (h : Below lo w W) (hR : lo ≤ R) (a0 a1 a2 a3 : Value) : Below lo w ((((W.setCell ⟨R, 0, none⟩ a0).setCell ⟨R, 1, none⟩ a1).setCell ⟨R, 2, none⟩ a2).setCell ⟨R, 3, none⟩ a3) :=
  (((h.setCell (p := ⟨R, 0, none⟩) hR _).setCell (p := ⟨R, 1, none⟩) hR _).setCell (p := ⟨R, 2, none⟩) hR _).setCell (p := ⟨R, 3, none⟩) hR _
theorem Rd.set4lo {w : World} {lo lo' R : Nat} {T : Ty} {nv kv : Value} (h : Rd w (fun b => lo' ≤ b) T nv kv) (h1 : R < lo') (h2 : lo ≤ lo') (a0 a1 a2 a3 : Value) : Rd ((((w.setCell ⟨R, 0, none⟩ a0).setCell ⟨R, 1, none⟩ a1).setCell ⟨R, 2, none⟩ a2).setCell ⟨R, 3, none⟩ a3) (fun b => lo ≤ b) T nv kv := by
  refine h.move (by simp [World.setCell]) (fun b hb _ => ⟨by omega, ?_⟩)
  have hne : b ≠ R := by omega
  rw [Below.heap_setCell _ _ _ _ hne, Below.heap_setCell _ _ _ _ hne, Below.heap_setCell _ _ _ _ hne, Below.heap_setCell _ _ _ _ hne]
set_option maxRecDepth 100000 in
set_option maxHeartbeats 3200000 in
theorem rparse_ok (s : ByteArray) (w : World) (hs : s.size ≤ 90000) : Calls Tryz.prog 50 #[.string s] w (ParOk w s.data.toList) := by
  obtain ⟨ro, hro⟩ : ∃ ro, ro = takeD 6 s.data.toList := ⟨_, rfl⟩
  have HRo := hid hro
  have HTK0 : Hid (∀ W, Calls Tryz.prog 68 #[.string s, i64 0, i64 6] W (Gok W s.size ro)) := by
    show ∀ W, _
    intro W
    have := tkd_any s (by omega) 6 (Nat.le_refl _) W 0 (Nat.zero_le _)
    rw [List.drop_zero, ← hro] at this
    exact this
  have hlen : s.data.toList.length = s.size := by rw [Array.length_toList]; rfl
  generalize s.data.toList = l at *
  have HLe := hid hlen
  clear hro hlen
  have HX : Hid ((w.alloc (.cells #[i64 0, i64 0, .slice none 0 0, .slice none 0 0] 64)).heap[w.heap.size]? = some (.cells #[i64 0, i64 0, .slice none 0 0, .slice none 0 0] 64)) := heap_last w _
  have HBV : Hid (Below w.heap.size w (w.alloc (.cells #[i64 0, i64 0, .slice none 0 0, .slice none 0 0] 64))) := below_one w _
  go_enter Tryz.func50, Tryz.ntmps50
  go_upto_region 1 with fail
  obtain ⟨R, hR⟩ : ∃ R, R = w.heap.size := ⟨_, rfl⟩
  have HRe : Hid (w.heap.size ≤ R) := by show _ ≤ _; omega
  rw [← hR] at HX ⊢
  clear hR
  generalize w.alloc (.cells #[i64 0, i64 0, .slice none 0 0, .slice none 0 0] 64) = V at *
  go_wp2_with fail
  refine (HTK0.out V).mono ?_
  rintro e w2 ⟨hb2, hno, hyes⟩
  have HBw : Hid (Below w.heap.size w w2) := HBV.out.trans (hb2.mono HBV.out.size)
  have HX2 : Hid (w2.heap[R]? = some (.cells #[i64 0, i64 0, .slice none 0 0, .slice none 0 0] 64)) := blk_below HX.out hb2
  have HNO := hid hno
  have HYES := hid hyes
  have HRV : Hid (R < V.heap.size) := blk_lt HX.out
  have HwV : Hid (w.heap.size ≤ V.heap.size) := HBV.out.size
  clear hb2 hno hyes HTK0
  rcases hre : ro with _ | ⟨T, rr⟩
  · obtain rfl := HNO.out hre
    have HPF : Hid (parseF l = none) := pd_no (HRo.out.symm.trans hre)
    have qn : ((-1 : Int) != (s.size : Int)) = true := by simp <;> omega
    clear hre
    have HB3 : Hid (Below w.heap.size w (w2.alloc (.cells #[i64 0, i64 0, .slice none 0 0, .slice none 0 0, i64 (-1)] 139))) := HBw.out.trans ((below_one w2 _).mono HBw.out.size)
    have HX3 : Hid ((w2.alloc (.cells #[i64 0, i64 0, .slice none 0 0, .slice none 0 0, i64 (-1)] 139)).heap[R]? = some (.cells #[i64 0, i64 0, .slice none 0 0, .slice none 0 0] 64)) := blk_alloc HX2.out _
    have HG3 : Hid ((w2.alloc (.cells #[i64 0, i64 0, .slice none 0 0, .slice none 0 0, i64 (-1)] 139)).heap[w2.heap.size]? = some (.cells #[i64 0, i64 0, .slice none 0 0, .slice none 0 0, i64 (-1)] 139)) := heap_last w2 _
    have HGR : Hid (w.heap.size ≤ w2.heap.size) := HBw.out.size

    go_upto_region 2 with fail
    obtain ⟨G, hG⟩ : ∃ G, G = w2.heap.size := ⟨_, rfl⟩
    rw [← hG] at HG3 HGR ⊢
    clear hG
    generalize w2.alloc (.cells #[i64 0, i64 0, .slice none 0 0, .slice none 0 0, i64 (-1)] 139) = X at *
    have gc0 : X.cell? ⟨G, 0, none⟩ = some (i64 0) := blk_cell HG3.out 0
    have gc1 : X.cell? ⟨G, 1, none⟩ = some (i64 0) := blk_cell HG3.out 1
    have gc2 : X.cell? ⟨G, 2, none⟩ = some (.slice none 0 0) := blk_cell HG3.out 2
    have gc3 : X.cell? ⟨G, 3, none⟩ = some (.slice none 0 0) := blk_cell HG3.out 3
    have gc4 : X.cell? ⟨G, 4, none⟩ = some (i64 (-1)) := blk_cell HG3.out 4
    have rc0 : X.cell? ⟨R, 0, none⟩ = some (i64 0) := blk_cell HX3.out 0
    have rf0 : X.frozen? ⟨R, 0, none⟩ = false := blk_frozen HX3.out 0
    have rc1 : X.cell? ⟨R, 1, none⟩ = some (i64 0) := blk_cell HX3.out 1
    have rf1 : X.frozen? ⟨R, 1, none⟩ = false := blk_frozen HX3.out 1
    have rc2 : X.cell? ⟨R, 2, none⟩ = some (.slice none 0 0) := blk_cell HX3.out 2
    have rf2 : X.frozen? ⟨R, 2, none⟩ = false := blk_frozen HX3.out 2
    have rc3 : X.cell? ⟨R, 3, none⟩ = some (.slice none 0 0) := blk_cell HX3.out 3
    have rf3 : X.frozen? ⟨R, 3, none⟩ = false := blk_frozen HX3.out 3
    go_wp2_with fail
    refine bodyPost_ret (v := .tuple #[tyV 0 0 (.slice none 0 0) (.slice none 0 0), i64 4]) (results_cell Tryz.results50 rfl rfl (load37 (set4 HX3.out _ _ _ _))) rfl ?_
    obtain ⟨p1, p2⟩ := parse_4 HPF.out
    refine ⟨none, 0, 0, none, 0, 0, by rw [p1, p2]; rfl, below4 HB3.out HRe.out _ _ _ _, ?_⟩
    rw [p1]
    exact Rd.leaf _ _ _ _
  · obtain ⟨b1, n1, c1, b2, n2, c2, rfl, hrd⟩ := HYES.out T rr hre
    obtain ⟨hc1, hc2⟩ := takeD_cnt 6 _ T rr (HRo.out.symm.trans hre)
    have hll := HLe.out
    obtain ⟨F, hF⟩ : ∃ F, F = s.size - rr.length := ⟨_, rfl⟩
    rw [← hF]
    have hF1 : F ≤ 30000000 := by omega
    have HTD : Hid (takeD 6 l = some (T, rr)) := HRo.out.symm.trans hre
    have HRD0 := hid hrd
    have HC1 : Hid (T.count ≤ 3000000) := by show _ ≤ _; omega
    have HC2 := hid hc2
    have HFe := hid hF
    clear hre hrd hc2 hll hF
    have HB3 : Hid (Below w.heap.size w (w2.alloc (.cells #[i64 T.kind, i64 T.num, .slice b1 n1 c1, .slice b2 n2 c2, i64 F] 139))) := HBw.out.trans ((below_one w2 _).mono HBw.out.size)
    have HX3 : Hid ((w2.alloc (.cells #[i64 T.kind, i64 T.num, .slice b1 n1 c1, .slice b2 n2 c2, i64 F] 139)).heap[R]? = some (.cells #[i64 0, i64 0, .slice none 0 0, .slice none 0 0] 64)) := blk_alloc HX2.out _
    have HG3 : Hid ((w2.alloc (.cells #[i64 T.kind, i64 T.num, .slice b1 n1 c1, .slice b2 n2 c2, i64 F] 139)).heap[w2.heap.size]? = some (.cells #[i64 T.kind, i64 T.num, .slice b1 n1 c1, .slice b2 n2 c2, i64 F] 139)) := heap_last w2 _
    have HGR : Hid (w.heap.size ≤ w2.heap.size) := HBw.out.size
    have HRD : Hid (Rd (w2.alloc (.cells #[i64 T.kind, i64 T.num, .slice b1 n1 c1, .slice b2 n2 c2, i64 F] 139)) (fun b => V.heap.size ≤ b) T (.slice b1 n1 c1) (.slice b2 n2 c2)) := HRD0.out.under (below_one w2 _)
    clear HRD0
    go_upto_region 2 with fail
    obtain ⟨G, hG⟩ : ∃ G, G = w2.heap.size := ⟨_, rfl⟩
    rw [← hG] at HG3 HGR ⊢
    clear hG
    generalize w2.alloc (.cells #[i64 T.kind, i64 T.num, .slice b1 n1 c1, .slice b2 n2 c2, i64 F] 139) = X at *
    have gc0 : X.cell? ⟨G, 0, none⟩ = some (i64 T.kind) := blk_cell HG3.out 0
    have gc1 : X.cell? ⟨G, 1, none⟩ = some (i64 T.num) := blk_cell HG3.out 1
    have gc2 : X.cell? ⟨G, 2, none⟩ = some (.slice b1 n1 c1) := blk_cell HG3.out 2
    have gc3 : X.cell? ⟨G, 3, none⟩ = some (.slice b2 n2 c2) := blk_cell HG3.out 3
    have gc4 : X.cell? ⟨G, 4, none⟩ = some (i64 F) := blk_cell HG3.out 4
    by_cases hrr : rr = []
    · subst hrr
      have hFe : (F : Int) = s.size := by have hF := HFe.out; simp at hF; omega
      have qn : ((F : Int) != (s.size : Int)) = false := by simp [hFe]
      have HCK := hid (rcheck_ok T X (fun b => V.heap.size ≤ b) _ _ HRD.out HC1.out HC2.out)
      obtain ⟨Er, hEr⟩ : ∃ Er, Er = T.err := ⟨_, rfl⟩
      rw [← hEr] at HCK
      have HEr := hid hEr
      clear hFe hEr hc1
      by_cases hE0 : Er = 0
      · have HPF : Hid (parseF l = some T) := pd_good HTD.out (HEr.out.symm.trans hE0)
        subst hE0
        go_wp2_with fail
        refine HCK.out.mono ?_
        rintro e w4 ⟨rfl, hb4⟩
        have HB4 : Hid (Below w.heap.size w w4) := HB3.out.trans (hb4.mono HB3.out.size)
        have HX4 : Hid (w4.heap[R]? = some (.cells #[i64 0, i64 0, .slice none 0 0, .slice none 0 0] 64)) := blk_below HX3.out hb4
        have HG4 : Hid (w4.heap[G]? = some (.cells #[i64 T.kind, i64 T.num, .slice b1 n1 c1, .slice b2 n2 c2, i64 F] 139)) := blk_below HG3.out hb4
        have HRD4 : Hid (Rd w4 (fun b => V.heap.size ≤ b) T (.slice b1 n1 c1) (.slice b2 n2 c2)) := HRD.out.under hb4
        clear hb4 gc0 gc1 gc2 gc3 gc4
        have rc0 : w4.cell? ⟨R, 0, none⟩ = some (i64 0) := blk_cell HX4.out 0
        have rf0 : w4.frozen? ⟨R, 0, none⟩ = false := blk_frozen HX4.out 0
        have rc1 : w4.cell? ⟨R, 1, none⟩ = some (i64 0) := blk_cell HX4.out 1
        have rf1 : w4.frozen? ⟨R, 1, none⟩ = false := blk_frozen HX4.out 1
        have rc2 : w4.cell? ⟨R, 2, none⟩ = some (.slice none 0 0) := blk_cell HX4.out 2
        have rf2 : w4.frozen? ⟨R, 2, none⟩ = false := blk_frozen HX4.out 2
        have rc3 : w4.cell? ⟨R, 3, none⟩ = some (.slice none 0 0) := blk_cell HX4.out 3
        have rf3 : w4.frozen? ⟨R, 3, none⟩ = false := blk_frozen HX4.out 3
        have gc0 : w4.cell? ⟨G, 0, none⟩ = some (i64 T.kind) := blk_cell HG4.out 0
        have gc1 : w4.cell? ⟨G, 1, none⟩ = some (i64 T.num) := blk_cell HG4.out 1
        have gc2 : w4.cell? ⟨G, 2, none⟩ = some (.slice b1 n1 c1) := blk_cell HG4.out 2
        have gc3 : w4.cell? ⟨G, 3, none⟩ = some (.slice b2 n2 c2) := blk_cell HG4.out 3
        have gc4 : w4.cell? ⟨G, 4, none⟩ = some (i64 F) := blk_cell HG4.out 4
        go_wp2_with fail
        refine bodyPost_ret (v := .tuple #[tyV T.kind T.num (.slice b1 n1 c1) (.slice b2 n2 c2), i64 0]) (results_cell Tryz.results50 rfl rfl (load37 (set4 HX4.out _ _ _ _))) rfl ?_
        obtain ⟨p1, p2⟩ := parse_0 HPF.out
        refine ⟨b1, n1, c1, b2, n2, c2, by rw [p1, p2], below4 HB4.out HRe.out _ _ _ _, ?_⟩
        rw [p1]
        exact HRD4.out.set4lo HRV.out HwV.out _ _ _ _
      · have HPF : Hid (parseF l = none) := pd_bad HTD.out (fun e => hE0 (HEr.out.trans e))
        have qe : (Er != 0) = true := by simpa using hE0
        have HE0 := hid hE0
        clear hE0
        go_wp2_with fail
        refine HCK.out.mono ?_
        rintro e w4 ⟨rfl, hb4⟩
        have HB4 : Hid (Below w.heap.size w w4) := HB3.out.trans (hb4.mono HB3.out.size)
        have HX4 : Hid (w4.heap[R]? = some (.cells #[i64 0, i64 0, .slice none 0 0, .slice none 0 0] 64)) := blk_below HX3.out hb4
        clear hb4 gc0 gc1 gc2 gc3 gc4
        have rc0 : w4.cell? ⟨R, 0, none⟩ = some (i64 0) := blk_cell HX4.out 0
        have rf0 : w4.frozen? ⟨R, 0, none⟩ = false := blk_frozen HX4.out 0
        have rc1 : w4.cell? ⟨R, 1, none⟩ = some (i64 0) := blk_cell HX4.out 1
        have rf1 : w4.frozen? ⟨R, 1, none⟩ = false := blk_frozen HX4.out 1
        have rc2 : w4.cell? ⟨R, 2, none⟩ = some (.slice none 0 0) := blk_cell HX4.out 2
        have rf2 : w4.frozen? ⟨R, 2, none⟩ = false := blk_frozen HX4.out 2
        have rc3 : w4.cell? ⟨R, 3, none⟩ = some (.slice none 0 0) := blk_cell HX4.out 3
        have rf3 : w4.frozen? ⟨R, 3, none⟩ = false := blk_frozen HX4.out 3
        go_wp2_with fail
        refine bodyPost_ret (v := .tuple #[tyV 0 0 (.slice none 0 0) (.slice none 0 0), i64 4]) (results_cell Tryz.results50 rfl rfl (load37 (set4 HX4.out _ _ _ _))) rfl ?_
        obtain ⟨p1, p2⟩ := parse_4 HPF.out
        refine ⟨none, 0, 0, none, 0, 0, by rw [p1, p2]; rfl, below4 HB4.out HRe.out _ _ _ _, ?_⟩
        rw [p1]
        exact Rd.leaf _ _ _ _
    · have HPF : Hid (parseF l = none) := pd_more HTD.out hrr
      have hpos : 0 < rr.length := List.length_pos_iff.2 hrr
      have qn : ((F : Int) != (s.size : Int)) = true := by have := HLe.out; have hF := HFe.out; simp; omega
      clear hpos hc1 hrr
      have rc0 : X.cell? ⟨R, 0, none⟩ = some (i64 0) := blk_cell HX3.out 0
      have rf0 : X.frozen? ⟨R, 0, none⟩ = false := blk_frozen HX3.out 0
      have rc1 : X.cell? ⟨R, 1, none⟩ = some (i64 0) := blk_cell HX3.out 1
      have rf1 : X.frozen? ⟨R, 1, none⟩ = false := blk_frozen HX3.out 1
      have rc2 : X.cell? ⟨R, 2, none⟩ = some (.slice none 0 0) := blk_cell HX3.out 2
      have rf2 : X.frozen? ⟨R, 2, none⟩ = false := blk_frozen HX3.out 2
      have rc3 : X.cell? ⟨R, 3, none⟩ = some (.slice none 0 0) := blk_cell HX3.out 3
      have rf3 : X.frozen? ⟨R, 3, none⟩ = false := blk_frozen HX3.out 3
      go_wp2_with fail
      refine bodyPost_ret (v := .tuple #[tyV 0 0 (.slice none 0 0) (.slice none 0 0), i64 4]) (results_cell Tryz.results50 rfl rfl (load37 (set4 HX3.out _ _ _ _))) rfl ?_
      obtain ⟨p1, p2⟩ := parse_4 HPF.out
      refine ⟨none, 0, 0, none, 0, 0, by rw [p1, p2]; rfl, below4 HB3.out HRe.out _ _ _ _, ?_⟩
      rw [p1]
      exact Rd.leaf _ _ _ _
end Go.Proofs.YtjppcfjjpkniaaaGreatDoor
