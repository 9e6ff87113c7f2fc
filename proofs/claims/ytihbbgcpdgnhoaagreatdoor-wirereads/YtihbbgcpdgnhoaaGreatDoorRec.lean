/- types.reader's record: its contract; no statement is proved in this text. -/
import Derived.Test.YtihbbgcpdgnhoaaGreatDoorRecI
namespace Go.Proofs.YtihbbgcpdgnhoaaGreatDoor
open Go.ChangeShapes Go.WideShapes Go.ChangeAt Go.RowKit Go.Deep
attribute [local go_sem ↓] Go.wp_at_zero Go.wp_at_succ

theorem tw_none (c : UInt8) : ∀ l : Bs, c ∉ l → l.takeWhile (fun b => b != c) = l ∧ l.dropWhile (fun b => b != c) = []
  | [], _ => ⟨rfl, rfl⟩
  | b :: l, h => by
    simp only [List.mem_cons, not_or] at h
    have h2 : (b != c) = true := by simpa using fun e : b = c => h.1 e.symm
    obtain ⟨i1, i2⟩ := tw_none c l h.2
    rw [List.takeWhile_cons, List.dropWhile_cons, h2, if_pos rfl, if_pos rfl, i1, i2]
    exact ⟨rfl, rfl⟩
theorem index_one (c : UInt8) : ∀ l : Bs, Lib.index l [c] = if c ∈ l then ((l.takeWhile (fun b => b != c)).length : Int) else -1
  | [] => by simp [Lib.index]
  | b :: l => by
    have ih := index_one c l
    unfold Lib.index
    by_cases h : c = b
    · subst h
      simp
    · have h1 : [c].isPrefixOf (b :: l) = false := by simp [List.isPrefixOf, h]
      have h2 : (b != c) = true := by simpa using fun e : b = c => h e.symm
      rw [h1, ih]
      simp only [Bool.false_eq_true, if_false, List.mem_cons, h, false_or, List.takeWhile_cons, h2, if_true, List.length_cons]
      by_cases h3 : c ∈ l
      · rw [if_pos h3, if_pos h3]
        have : ((((l.takeWhile (fun b => b != c)).length : Nat) : Int) == -1) = false := by simp
        rw [this]
        simp
      · rw [if_neg h3, if_neg h3]
        rfl
theorem take_of_tw (p : UInt8 → Bool) (l : Bs) : l.take (l.takeWhile p).length = l.takeWhile p := by
  rw [tw_pre p l _ (Nat.le_refl _), List.take_of_length_le (Nat.le_refl _)]
theorem drop_of_tw (p : UInt8 → Bool) (l : Bs) : l.drop (l.takeWhile p).length = l.dropWhile p := by
  have h := List.takeWhile_append_dropWhile (p := p) (l := l)
  generalize l.takeWhile p = a at *
  generalize l.dropWhile p = b at *
  rw [← h, List.drop_left]
theorem cut_one (c : UInt8) (l : Bs) : (Lib.cut l [c]).1 = l.takeWhile (fun b => b != c) ∧ (Lib.cut l [c]).2.1 = (l.dropWhile (fun b => b != c)).tail := by
  unfold Lib.cut
  rw [index_one]
  by_cases h : c ∈ l
  · rw [if_pos h, if_pos (by omega), Int.toNat_natCast, take_of_tw]
    refine ⟨rfl, ?_⟩
    show l.drop ((l.takeWhile (fun b => b != c)).length + [c].length) = _
    rw [List.length_singleton, ← List.drop_drop, drop_of_tw, List.drop_one]
  · obtain ⟨h1, h2⟩ := tw_none c l h
    rw [if_neg h, if_neg (by omega), h1, h2]
    exact ⟨rfl, rfl⟩
theorem cut_ok (l : Bs) (w : World) (q : Nat) (hl : l.length ≤ 1000000) (hM : Mx w q) : Calls Tryz.prog 92 #[str l, str [58]] w fun e w' => ∃ b, e = .returned (.tuple #[str (l.takeWhile (fun b => b != 58)), str ((l.dropWhile (fun b => b != 58)).tail), .bool b]) ∧ ∃ n, w' = w.drewN n := by
  obtain ⟨_, m, hm⟩ := hM
  have hsz : (⟨l.toArray⟩ : ByteArray).size < 4294967281 := by show l.toArray.size < _; simp; omega
  refine (Tryz.strings_Cut ⟨l.toArray⟩ ⟨#[58]⟩ m w hsz hm).mono fun e w' ⟨h1, h2⟩ => ?_
  obtain ⟨c1, c2⟩ := cut_one 58 l
  refine ⟨(Lib.cut l [58]).2.2, ?_, h2⟩
  rw [h1]
  show Ending.returned (.tuple #[str (Lib.cut l [58]).1, str (Lib.cut l [58]).2.1, _]) = _
  rw [c1, c2]
theorem tw_le (p : UInt8 → Bool) (l : Bs) : (l.takeWhile p).length ≤ l.length ∧ (l.dropWhile p).tail.length ≤ l.length := by
  have h := congrArg List.length (List.takeWhile_append_dropWhile (p := p) (l := l))
  rw [List.length_append] at h
  have h2 : (l.dropWhile p).tail.length ≤ (l.dropWhile p).length := by rw [List.length_tail]; omega
  omega
def recP0 (f : Nat) (l : Bs) : Option (Ty × Bs) := match l with
  | 40 :: r2 => recP (readP f) 12 r2 [] []
  | _ => none
def recEnd (read : Bs → Option (Ty × Bs)) (m : Nat) (N : List Bs) (K : List Ty) (r : Bs) : Option (Ty × Bs) := match r with
  | [] => none
  | c :: r' => if c = 44 then recP read m r' N K else if c = 41 then some (.mk 4 0 N K, r') else none
theorem recP_end (read : Bs → Option (Ty × Bs)) (m : Nat) (s : Bs) (N : List Bs) (K : List Ty) {T : Ty} {r : Bs} (h : read (s.dropWhile (fun b => b != 58)).tail = some (T, r)) :
    recP read (m + 1) s N K = recEnd read m (N ++ [s.takeWhile (fun b => b != 58)]) (K ++ [T]) r := by
  simp only [recP, h]
  cases r <;> rfl
theorem recEnd_go (read : Bs → Option (Ty × Bs)) (m : Nat) (N : List Bs) (K : List Ty) (r : Bs) : recEnd read m N K (44 :: r) = recP read m r N K := rfl
theorem recEnd_end (read : Bs → Option (Ty × Bs)) (m : Nat) (N : List Bs) (K : List Ty) (r : Bs) : recEnd read m N K (41 :: r) = some (.mk 4 0 N K, r) := rfl
theorem recEnd_no (read : Bs → Option (Ty × Bs)) (m : Nat) (N : List Bs) (K : List Ty) (l : Bs) (h1 : ¬ ∃ r, l = 44 :: r) (h2 : ¬ ∃ r, l = 41 :: r) : recEnd read m N K l = none := by
  cases l with
  | nil => rfl
  | cons c r => 
    show (if c = 44 then _ else if c = 41 then _ else _) = _
    rw [if_neg (fun e => h1 ⟨r, by rw [e]⟩), if_neg (fun e => h2 ⟨r, by rw [e]⟩)]
theorem recP_none (read : Bs → Option (Ty × Bs)) (m : Nat) (s : Bs) (N : List Bs) (K : List Ty) (h : read (s.dropWhile (fun b => b != 58)).tail = none) : recP read (m + 1) s N K = none := by rw [recP, h]
set_option maxRecDepth 100000 in
set_option maxHeartbeats 12800000 in
theorem record_ok (f : Nat) (hrd : ∀ (w : World) (q : Nat) (l : Bs), w.heap[q]? = some (.cells #[str l] 133) → l.length ≤ 1000000 → Mx w q → Calls Tryz.prog 71 #[pq q, i64 (7 - f)] w (Rok w q l.length (readP f l)))
    (hf : f ≤ 6) (w : World) (q : Nat) (l : Bs) (hq : w.heap[q]? = some (.cells #[str l] 133)) (hl : l.length ≤ 1000000) (hM : Mx w q) : Calls Tryz.prog 85 #[pq q, i64 (6 - f)] w (Rok w q l.length (recP0 f l)) := by
  obtain ⟨res, hres⟩ : ∃ res, res = recP0 f l := ⟨_, rfl⟩
  have HRes0 := hid hres
  obtain ⟨L, hL⟩ : ∃ L, L = l.length := ⟨_, rfl⟩
  have HLe := hid hL
  have hL6 : L ≤ 1000000 := by omega
  rw [← hres, ← hL]
  clear hL
  have HRD := hid hrd
  have HM := hid hM
  have hqlt := blk_lt hq
  obtain ⟨D, hD⟩ : ∃ D, D = (6 : Int) - f := ⟨_, rfl⟩
  have hD1 : D + 1 = 7 - f := by omega
  have hD0 : 0 ≤ D := by omega
  have hD2 : D ≤ 6 := by omega
  have HD1 := hid hD1
  rw [← hD]
  have HR0 : Hid ((w.alloc zT).heap[w.heap.size]? = some zT) := heap_last w _
  have HQ0 : Hid ((w.alloc zT).heap[q]? = some (.cells #[str l] 133)) := blk_alloc hq _
  have HT0 : Hid (Touch q w (w.alloc zT)) := hid ((Touch.refl q w).alloc _)
  have hqR : Hid (q ≠ w.heap.size) := by show q ≠ _; omega
  have HRlt : Hid (w.heap.size < (w.alloc zT).heap.size) := by show _ < _; simp
  have HQL := hid hqlt
  clear hres hrd hM hq hD hD1 hqlt
  go_enter Tryz.func85, Tryz.ntmps85
  go_upto_region 1 with fail
  obtain ⟨R, hR⟩ : ∃ R, R = w.heap.size := ⟨_, rfl⟩
  rw [← hR] at HR0 hqR HRlt ⊢
  have HRe : Hid (w.heap.size ≤ R) := by show _ ≤ _; omega
  clear hR
  generalize w.alloc zT = V at *
  by_cases hp : ∃ r2, l = 40 :: r2
  · obtain ⟨r2, rfl⟩ := hp
    go_wp2_with fail
    refine (take_hit V q 40 r2 HQ0.out).mono ?_
    rintro e w1 ⟨rfl, hq1, ht1⟩
    have HQ1 := hid hq1
    have HT1 : Hid (Touch q w w1) := HT0.out.trans ht1
    have HR1 : Hid (w1.heap[R]? = some zT) := by show _ = _; rw [ht1.block R HRlt.out (fun e => hqR.out e.symm)]; exact HR0.out
    have HB1 : Hid (Below w1.heap.size w1 (w1.alloc (recO (.slice none 0 0) (.slice none 0 0)))) := below_one w1 _
    have HX1 : Hid ((w1.alloc (recO (.slice none 0 0) (.slice none 0 0))).heap[w1.heap.size]? = some (recO (.slice none 0 0) (.slice none 0 0))) := heap_last w1 _
    have HRes1 : Hid (res = recP (readP f) 12 r2 [] []) := HRes0.out
    clear hq1 ht1
    go_upto_region 4 with fail
    obtain ⟨Tb, hTb⟩ : ∃ Tb, Tb = w1.heap.size := ⟨_, rfl⟩
    have HTe := hid hTb
    rw [← hTb] at HX1 ⊢
    clear hTb
    have HW : Hid (Lows w q R Tb) := ⟨HQL.out, HRe.out, by rw [HTe.out]; exact HT1.out.size, by have := blk_lt HR1.out; have := HTe.out; omega⟩
    have HI0 : Hid (RecI w (w1.alloc (recO (.slice none 0 0) (.slice none 0 0))) q R Tb L 0 [] [] (.slice none 0 0) (.slice none 0 0) r2) :=
      ⟨blk_below HQ1.out HB1.out, by rw [HLe.out]; simp, blk_below HR1.out HB1.out, HX1.out, ⟨rfl, Or.inl ⟨rfl, rfl⟩⟩, KidsR.nil _ _ _ _, by simp [Value.ownBlock], by simp [Value.ownBlock], rfl, rfl, (fun x hx => by cases hx), HT1.out.trans (Touch.of_below HB1.out)⟩
    generalize w1.alloc (recO (.slice none 0 0) (.slice none 0 0)) = V1 at *
    clear HX1 HB1
    go_wp2_with fail
    go_loopw [17] (fun u wr => ∃ (i : Nat) (N : List Bs) (Ks : List Kd) (nv kv : Value) (l1 : Bs), i ≤ 12 ∧ u = i64 i ∧ Hid (RecI w wr q R Tb L i N Ks nv kv l1) ∧ Hid (res = recP (readP f) (12 - i) l1 N (Ks.map (·.1)))) (fun u _ => 12 - (intOf u).toNat)
    case atStart => exact ⟨0, [], [], _, _, r2, by omega, rfl, HI0, HRes1⟩
    case round =>
      obtain ⟨i, N, Ks, nv, kv, l1, hi, rfl, HI, HRs⟩ := hrel
      by_cases hlt : i < 12
      · obtain ⟨⟨an, cn, rfl⟩, ak, ck, rfl⟩ := HI.out.nvF
        have y0 : wr.cell? ⟨q, 0, none⟩ = some (str l1) := blk_cell HI.out.hq 0
        have HMr : Hid (Mx wr q) := HM.out.touch HI.out.tt
        have HL1 : Hid (l1.length ≤ 1000000) := by show _ ≤ _; have := HI.out.hl; omega
        have HCU := hid (cut_ok l1 wr q HL1.out HMr.out)
        have HRs2 : Hid (res = recP (readP f) ((11 - i) + 1) l1 N (Ks.map (·.1))) := by show _ = _; rw [HRs.out]; congr 1; omega
        have HTW := hid (tw_le (fun b => b != 58) l1)
        generalize hnm : l1.takeWhile (fun b => b != 58) = nm at *
        generalize hlf : (l1.dropWhile (fun b => b != 58)).tail = lf at *
        have HNM := hid hnm
        have HLF := hid hlf
        clear hnm hlf
        go_wp2_with fail
        refine HCU.out.mono ?_
        rintro e w2 ⟨bb, rfl, nd, rfl⟩
        have HID : Hid (RecI w (wr.drewN nd) q R Tb L i N Ks (.slice an i cn) (.slice ak i ck) l1) := HI.out.below HW.out ⟨rfl, rfl, rfl, Nat.le_refl _, fun _ _ => rfl⟩
        have HTs : Hid (Touch q (wr.drewN nd) ((wr.drewN nd).setCell ⟨q, 0, none⟩ (str lf))) := hid ((Touch.refl q (wr.drewN nd)).setCell rfl _)
        have HI2 : Hid (RecI w ((wr.drewN nd).setCell ⟨q, 0, none⟩ (str lf)) q R Tb L i N Ks (.slice an i cn) (.slice ak i ck) lf) := HID.out.touch HW.out HTs.out (set1 HID.out.hq _) (by have := HTW.out.2; have := HI.out.hl; omega)
        have y1 : (wr.drewN nd).cell? ⟨q, 0, none⟩ = some (str l1) := blk_cell HID.out.hq 0
        have f1 : (wr.drewN nd).frozen? ⟨q, 0, none⟩ = false := blk_frozen HID.out.hq 0
        clear y0
        go_upto_region 8 with fail
        generalize (wr.drewN nd).setCell ⟨q, 0, none⟩ (str lf) = W2 at *
        have HM2 : Hid (Mx W2 q) := HM.out.touch HI2.out.tt
        have HLl : Hid (lf.length ≤ 1000000) := by show _ ≤ _; have := HI2.out.hl; omega
        have HC2 : Hid (Calls Tryz.prog 71 #[pq q, i64 (D + 1)] W2 (Rok W2 q lf.length (readP f lf))) := by show Calls _ _ _ _ _; rw [HD1.out]; exact HRD.out W2 q lf HI2.out.hq HLl.out HM2.out
        clear y1 f1 HID HTs HCU HMr
        go_wp2_with fail
        refine HC2.out.mono ?_
        rintro e w3 ⟨k1, m1, a1, n1, c1, a2, n2, c2, l3, rfl, hq3, hl3, ht3, hf3⟩
        have HI3 : Hid (RecI w w3 q R Tb L i N Ks (.slice an i cn) (.slice ak i ck) l3) := HI2.out.touch HW.out ht3 hq3 (by have := HI2.out.hl; omega)
        have HF3 : Hid (∀ T r, readP f lf = some (T, r) → l3 = r ∧ k1 = T.kind ∧ m1 = T.num ∧ Rd w3 (fun b => W2.heap.size ≤ b) T (.slice a1 n1 c1) (.slice a2 n2 c2)) := hf3
        have HBK : Hid (Below w3.heap.size w3 (w3.alloc (.cells #[i64 k1, i64 m1, .slice a1 n1 c1, .slice a2 n2 c2] 25))) := below_one w3 _
        have HKX : Hid ((w3.alloc (.cells #[i64 k1, i64 m1, .slice a1 n1 c1, .slice a2 n2 c2] 25)).heap[w3.heap.size]? = some (.cells #[i64 k1, i64 m1, .slice a1 n1 c1, .slice a2 n2 c2] 25)) := heap_last w3 _
        clear hq3 hl3 ht3 hf3 HC2
        go_upto_region 9 with fail
        obtain ⟨Kb, hKb⟩ : ∃ Kb, Kb = w3.heap.size := ⟨_, rfl⟩
        have HKe := hid hKb
        rw [← hKb] at HKX ⊢
        clear hKb
        have HI4 : Hid (RecI w (w3.alloc (.cells #[i64 k1, i64 m1, .slice a1 n1 c1, .slice a2 n2 c2] 25)) q R Tb L i N Ks (.slice an i cn) (.slice ak i ck) l3) := HI3.out.below HW.out HBK.out
        have HKT : Hid (Kb ≠ Tb) := by show Kb ≠ Tb; have := blk_lt HI3.out.hT; have := HKe.out; omega
        cases hread : readP f lf with
        | none =>
          have HRes : Hid (res = none) := by show _ = _; rw [HRs2.out]; exact recP_none _ _ _ _ _ (by rw [HLF.out]; exact hread)
          have HRX : Hid ((w3.alloc (.cells #[i64 k1, i64 m1, .slice a1 n1 c1, .slice a2 n2 c2] 25)).heap[R]? = some zT) := HI4.out.hR
          have HQX : Hid ((w3.alloc (.cells #[i64 k1, i64 m1, .slice a1 n1 c1, .slice a2 n2 c2] 25)).heap[q]? = some (.cells #[str l3] 133)) := HI4.out.hq
          have HTX : Hid (Touch q w (w3.alloc (.cells #[i64 k1, i64 m1, .slice a1 n1 c1, .slice a2 n2 c2] 25))) := HI4.out.tt
          have HLX : Hid (l3.length ≤ L) := HI4.out.hl
          clear HF3 hread HRs HRs2 HI HI2 HI3 HI4
          generalize w3.alloc (.cells #[i64 k1, i64 m1, .slice a1 n1 c1, .slice a2 n2 c2] 25) = X at *
          have rc0 : X.cell? ⟨R, 0, none⟩ = some (i64 0) := blk_cell HRX.out 0
          have rf0 : X.frozen? ⟨R, 0, none⟩ = false := blk_frozen HRX.out 0
          have rc1 : X.cell? ⟨R, 1, none⟩ = some (i64 0) := blk_cell HRX.out 1
          have rf1 : X.frozen? ⟨R, 1, none⟩ = false := blk_frozen HRX.out 1
          have rc2 : X.cell? ⟨R, 2, none⟩ = some (.slice none 0 0) := blk_cell HRX.out 2
          have rf2 : X.frozen? ⟨R, 2, none⟩ = false := blk_frozen HRX.out 2
          have rc3 : X.cell? ⟨R, 3, none⟩ = some (.slice none 0 0) := blk_cell HRX.out 3
          have rf3 : X.frozen? ⟨R, 3, none⟩ = false := blk_frozen HRX.out 3
          go_wp2_with fail
          refine bodyPost_ret (v := .tuple #[tyV 0 0 (.slice none 0 0) (.slice none 0 0), .bool false]) (results_cell Tryz.results85 rfl rfl (load25 (set4 HRX.out _ _ _ _))) rfl ?_
          exact ⟨0, 0, none, 0, 0, none, 0, 0, _, by rw [HRes.out]; rfl, set4_ne HQX.out hqR.out _ _ _ _, HLX.out, HTX.out.set4 HRe.out _ _ _ _, fun T r h => by rw [HRes.out] at h; cases h⟩
        | some x =>
          obtain ⟨T, rr⟩ := x
          obtain ⟨g1, g2, g3, g4⟩ := HF3.out T rr hread
          subst g1
          have HKR : Hid (Rd (w3.alloc (.cells #[i64 k1, i64 m1, .slice a1 n1 c1, .slice a2 n2 c2] 25)) (fun b => Avr w.heap.size q R Tb (.slice an i cn) b ∧ some b ≠ (Value.slice ak i ck).ownBlock) T (.slice a1 n1 c1) (.slice a2 n2 c2)) := by
            show Rd _ _ _ _ _
            have t1 := blk_lt HI2.out.hq
            have t2 := blk_lt HI2.out.hR
            have t3 := blk_lt HI2.out.hT
            have t4 := HI2.out.tt.size
            refine g4.move HBK.out.size fun b hb hlt => ⟨⟨⟨by omega, by omega, by omega, by omega, fun e => ?_⟩, fun e => ?_⟩, HBK.out.block b hlt⟩
            · have := (HI2.out.on.lt b e.symm).2; omega
            · have := (HI2.out.ok.own.lt b e.symm).2; omega
          subst g2 g3
          have hpush := rec_push HW.out HI4.out T a1 n1 c1 a2 n2 c2 HKR.out nm (by have := HTW.out.1; have := HL1.out; unfold maxLen; omega) hlt Kb _ HKX.out HKT.out
          obtain ⟨ao1, cap1, Y1, ao2, cap2, Y3, hrun1, hT1, hT2, hK2, hrun2, hT3, hI5⟩ := hpush
          have HRUN1 := hid hrun1
          have HRUN2 := hid hrun2
          have HI5 := hid hI5
          have HTX0 : Hid ((w3.alloc (.cells #[i64 T.kind, i64 T.num, .slice a1 n1 c1, .slice a2 n2 c2] 25)).heap[Tb]? = some (recO (.slice an i cn) (.slice ak i ck))) := HI4.out.hT
          have HTY1 := hid hT1
          have HTY2 := hid hT2
          have HKY2 := hid hK2
          have HTY3 := hid hT3
          have HRs3 : Hid (res = recEnd (readP f) (11 - i) (N ++ [nm]) (Ks.map (·.1) ++ [T]) l3) := by
            show _ = _
            rw [HRs2.out, recP_end (readP f) (11 - i) l1 N (Ks.map (·.1)) (by rw [HLF.out]; exact hread), HNM.out]
          clear hrun1 hrun2 hI5 hT1 hT2 hK2 hT3 g4 HF3 hread HRs HRs2 HI HI2 HI3 HI4 HKR HBK HLF HNM HTW
          generalize w3.alloc (.cells #[i64 T.kind, i64 T.num, .slice a1 n1 c1, .slice a2 n2 c2] 25) = X at *
          have x2 : X.cell? ⟨Tb, 2, none⟩ = some (.slice an i cn) := blk_cell HTX0.out 2
          have x3 : X.cell? ⟨Tb, 3, none⟩ = some (.slice ak i ck) := blk_cell HTX0.out 3
          have u2 : Y1.cell? ⟨Tb, 2, none⟩ = some (.slice an i cn) := blk_cell HTY1.out 2
          have uf2 : Y1.frozen? ⟨Tb, 2, none⟩ = false := blk_frozen HTY1.out 2
          go_upto_region 12 with (at_builtin; refine wpList_app_run rfl (.tmp 43) (.tmp 45) 22 rfl _ _ rfl rfl 22 rfl _ _ HRUN1.out ?_)
          generalize Y1.setCell ⟨Tb, 2, none⟩ (.slice ao1 (i + 1) cap1) = Y2 at *
          clear x2 x3 u2 uf2
          have v3 : Y2.cell? ⟨Tb, 3, none⟩ = some (.slice ak i ck) := blk_cell HTY2.out 3
          have kc0 : Y2.cell? ⟨Kb, 0, none⟩ = some (i64 T.kind) := blk_cell HKY2.out 0
          have kc1 : Y2.cell? ⟨Kb, 1, none⟩ = some (i64 T.num) := blk_cell HKY2.out 1
          have kc2 : Y2.cell? ⟨Kb, 2, none⟩ = some (.slice a1 n1 c1) := blk_cell HKY2.out 2
          have kc3 : Y2.cell? ⟨Kb, 3, none⟩ = some (.slice a2 n2 c2) := blk_cell HKY2.out 3
          have s3 : Y3.cell? ⟨Tb, 3, none⟩ = some (.slice ak i ck) := blk_cell HTY3.out 3
          have sf3 : Y3.frozen? ⟨Tb, 3, none⟩ = false := blk_frozen HTY3.out 3
          go_upto_region 13 with (at_builtin; refine wpList_app_run rfl (.tmp 49) (.tmp 51) 23 rfl _ _ rfl rfl 23 rfl _ _ HRUN2.out ?_)
          generalize Y3.setCell ⟨Tb, 3, none⟩ (.slice ao2 (i + 1) cap2) = Y4 at *
          clear v3 s3 sf3 HRUN1 HRUN2 HTY1 HTY2 HTY3 HKY2 HTX0 HKX
          clear kc0 kc1 kc2 kc3
          by_cases h44 : ∃ r', l3 = 44 :: r'
          · obtain ⟨r', rfl⟩ := h44
            have HRs4 : Hid (res = recP (readP f) (12 - (i + 1)) r' (N ++ [nm]) ((Ks ++ [((T, Value.slice a1 n1 c1, Value.slice a2 n2 c2) : Kd)]).map (·.1))) := by
              show _ = _
              rw [HRs3.out, List.map_append, recEnd_go]
              congr 1
              omega
            go_wp2_with fail
            refine (take_hit Y4 q 44 r' HI5.out.hq).mono ?_
            rintro e w6 ⟨rfl, hq6, ht6⟩
            have HI6 := hid (HI5.out.touch HW.out ht6 hq6 (by have := HI5.out.hl; rw [List.length_cons] at this; omega))
            clear hq6 ht6
            go_wp2_with fail
            exact ⟨⟨i + 1, _, _, _, _, r', by omega, by go_num, HI6, HRs4⟩, by simp [intOf]; omega⟩
          · go_wp2_with fail
            refine (take_miss Y4 q 44 l3 (fun r e => h44 ⟨r, e⟩) HI5.out.hq).mono ?_
            rintro e w6 ⟨rfl, hq6, ht6⟩
            have HI6 := hid (HI5.out.touch HW.out ht6 hq6 HI5.out.hl)
            clear hq6 ht6 HI5
            have HSX : Hid ((fun W => W.heap[Tb]? = some (recO (.slice ao1 (i + 1) cap1) (.slice ao2 (i + 1) cap2))) w6.drew) := HI6.out.hT
            have HQ6 : Hid (w6.drew.heap[q]? = some (.cells #[str l3] 133)) := HI6.out.hq
            go_upto_region 14 with fail
            by_cases h41 : ∃ r', l3 = 41 :: r'
            · obtain ⟨r', rfl⟩ := h41
              have HRes : Hid (res = some (.mk 4 0 (N ++ [nm]) ((Ks ++ [((T, Value.slice a1 n1 c1, Value.slice a2 n2 c2) : Kd)]).map (·.1)), r')) := by
                show _ = _
                rw [HRs3.out, List.map_append, recEnd_end]
                rfl
              have HTK : Hid (Calls Tryz.prog 82 #[pq q, str [41]] w6.drew fun e w' => e = .returned (.bool true) ∧ w'.heap[q]? = some (.cells #[str r'] 133) ∧ Touch q w6.drew w') := take_hit w6.drew q 41 r' HQ6.out
              refine wp_region_noPanic ?_
              refine wp_region_last (fun W => W.heap[Tb]? = some (recO (.slice ao1 (i + 1) cap1) (.slice ao2 (i + 1) cap2))) 4 (by kernel_rfl) ?_
              refine wpL_take 0 57 (.agg #[i64 4, i64 0, .slice ao1 (i + 1) cap1, .slice ao2 (i + 1) cap2]) [] rfl rfl (by kernel_rfl) (by decide) (by kernel_rfl) (by kernel_rfl) (by kernel_rfl) (fun _ _ _ h => h) HSX.out (by rfl) (fun W hW => by have d0 : W.cell? ⟨Tb, 0, none⟩ = some (i64 4) := blk_cell hW 0; have d1 : W.cell? ⟨Tb, 1, none⟩ = some (i64 0) := blk_cell hW 1; have d2 : W.cell? ⟨Tb, 2, none⟩ = some (.slice ao1 (i + 1) cap1) := blk_cell hW 2; have d3 : W.cell? ⟨Tb, 3, none⟩ = some (.slice ao2 (i + 1) cap2) := blk_cell hW 3; go_simp) ?_
              simp only [Act.put, List.setIfInBounds_toArray, List.set_cons_zero, List.set_cons_succ]
              refine wpL_take 1 58 (pq q) [] rfl rfl (by kernel_rfl) (by decide) (by kernel_rfl) (by kernel_rfl) (by kernel_rfl) (fun _ _ _ h => h) HSX.out (by rfl) (fun W hW => by go_simp) ?_
              simp only [Act.put, List.setIfInBounds_toArray, List.set_cons_zero, List.set_cons_succ]
              refine wpL_one 2 rfl (by kernel_rfl) (by rfl) (fun K hK => ?_)
              go_simp
              refine HTK.out.mono ?_
              rintro e w7 ⟨rfl, hq7, ht7⟩
              have HI7 := hid (HI6.out.touch HW.out (Touch.of_drew ht7) hq7 (by have := HI6.out.hl; rw [List.length_cons] at this; omega))
              have HS7 : Hid ((fun W => W.heap[Tb]? = some (recO (.slice ao1 (i + 1) cap1) (.slice ao2 (i + 1) cap2))) w7) := HI7.out.hT
              clear hq7 ht7
              go_simp
              refine hK.out _ _ (fun _ => HS7.out) ?_
              clear hK K
              have rc0 : w7.cell? ⟨R, 0, none⟩ = some (i64 0) := blk_cell HI7.out.hR 0
              have rf0 : w7.frozen? ⟨R, 0, none⟩ = false := blk_frozen HI7.out.hR 0
              have rc1 : w7.cell? ⟨R, 1, none⟩ = some (i64 0) := blk_cell HI7.out.hR 1
              have rf1 : w7.frozen? ⟨R, 1, none⟩ = false := blk_frozen HI7.out.hR 1
              have rc2 : w7.cell? ⟨R, 2, none⟩ = some (.slice none 0 0) := blk_cell HI7.out.hR 2
              have rf2 : w7.frozen? ⟨R, 2, none⟩ = false := blk_frozen HI7.out.hR 2
              have rc3 : w7.cell? ⟨R, 3, none⟩ = some (.slice none 0 0) := blk_cell HI7.out.hR 3
              have rf3 : w7.frozen? ⟨R, 3, none⟩ = false := blk_frozen HI7.out.hR 3
              refine wpL_one 3 rfl (by kernel_rfl) (by rfl) (fun K hK => ?_)
              go_simp
              refine hK.out _ _ (fun _ => set4_ne HS7.out (show Tb ≠ R from fun e => HW.out.ne e.symm) _ _ _ _) ?_
              clear hK K
              refine wpL_one 4 rfl (by kernel_rfl) (by rfl) (fun K hK => ?_)
              go_simp
              refine hK.out _ _ (fun h => absurd rfl h) ?_
              clear hK K
              refine wpL_done (by kernel_rfl) ?_
              refine NoPanic.normal ?_
              go_wp2_with fail
              refine bodyPost_ret (v := .tuple #[tyV 4 0 (.slice ao1 (i + 1) cap1) (.slice ao2 (i + 1) cap2), .bool true]) (results_cell Tryz.results85 rfl rfl (load25 (set4 HI7.out.hR _ _ _ _))) rfl ?_
              exact ⟨4, 0, ao1, i + 1, cap1, ao2, i + 1, cap2, r', by rw [HRes.out]; rfl, set4_ne HI7.out.hq hqR.out _ _ _ _, HI7.out.hl, HI7.out.tt.set4 HRe.out _ _ _ _, fun T' r'' h => by rw [HRes.out] at h; cases h; exact ⟨rfl, rfl, rfl, HI7.out.rd _ _ _ _⟩⟩
            · have HRes : Hid (res = none) := by
                show _ = _
                rw [HRs3.out]
                exact recEnd_no _ _ _ _ _ h44 h41
              have HTK : Hid (Calls Tryz.prog 82 #[pq q, str [41]] w6.drew fun e w' => e = .returned (.bool false) ∧ w'.heap[q]? = some (.cells #[str l3] 133) ∧ Touch q w6.drew w') := take_miss w6.drew q 41 l3 (fun r e => h41 ⟨r, e⟩) HQ6.out
              refine wp_region_noPanic ?_
              refine wp_region_last (fun W => W.heap[Tb]? = some (recO (.slice ao1 (i + 1) cap1) (.slice ao2 (i + 1) cap2))) 4 (by kernel_rfl) ?_
              refine wpL_take 0 57 (.agg #[i64 4, i64 0, .slice ao1 (i + 1) cap1, .slice ao2 (i + 1) cap2]) [] rfl rfl (by kernel_rfl) (by decide) (by kernel_rfl) (by kernel_rfl) (by kernel_rfl) (fun _ _ _ h => h) HSX.out (by rfl) (fun W hW => by have d0 : W.cell? ⟨Tb, 0, none⟩ = some (i64 4) := blk_cell hW 0; have d1 : W.cell? ⟨Tb, 1, none⟩ = some (i64 0) := blk_cell hW 1; have d2 : W.cell? ⟨Tb, 2, none⟩ = some (.slice ao1 (i + 1) cap1) := blk_cell hW 2; have d3 : W.cell? ⟨Tb, 3, none⟩ = some (.slice ao2 (i + 1) cap2) := blk_cell hW 3; go_simp) ?_
              simp only [Act.put, List.setIfInBounds_toArray, List.set_cons_zero, List.set_cons_succ]
              refine wpL_take 1 58 (pq q) [] rfl rfl (by kernel_rfl) (by decide) (by kernel_rfl) (by kernel_rfl) (by kernel_rfl) (fun _ _ _ h => h) HSX.out (by rfl) (fun W hW => by go_simp) ?_
              simp only [Act.put, List.setIfInBounds_toArray, List.set_cons_zero, List.set_cons_succ]
              refine wpL_one 2 rfl (by kernel_rfl) (by rfl) (fun K hK => ?_)
              go_simp
              refine HTK.out.mono ?_
              rintro e w7 ⟨rfl, hq7, ht7⟩
              have HI7 := hid (HI6.out.touch HW.out (Touch.of_drew ht7) hq7 (HI6.out.hl))
              have HS7 : Hid ((fun W => W.heap[Tb]? = some (recO (.slice ao1 (i + 1) cap1) (.slice ao2 (i + 1) cap2))) w7) := HI7.out.hT
              clear hq7 ht7
              go_simp
              refine hK.out _ _ (fun _ => HS7.out) ?_
              clear hK K
              have rc0 : w7.cell? ⟨R, 0, none⟩ = some (i64 0) := blk_cell HI7.out.hR 0
              have rf0 : w7.frozen? ⟨R, 0, none⟩ = false := blk_frozen HI7.out.hR 0
              have rc1 : w7.cell? ⟨R, 1, none⟩ = some (i64 0) := blk_cell HI7.out.hR 1
              have rf1 : w7.frozen? ⟨R, 1, none⟩ = false := blk_frozen HI7.out.hR 1
              have rc2 : w7.cell? ⟨R, 2, none⟩ = some (.slice none 0 0) := blk_cell HI7.out.hR 2
              have rf2 : w7.frozen? ⟨R, 2, none⟩ = false := blk_frozen HI7.out.hR 2
              have rc3 : w7.cell? ⟨R, 3, none⟩ = some (.slice none 0 0) := blk_cell HI7.out.hR 3
              have rf3 : w7.frozen? ⟨R, 3, none⟩ = false := blk_frozen HI7.out.hR 3
              refine wpL_one 3 rfl (by kernel_rfl) (by rfl) (fun K hK => ?_)
              go_simp
              refine hK.out _ _ (fun _ => set4_ne HS7.out (show Tb ≠ R from fun e => HW.out.ne e.symm) _ _ _ _) ?_
              clear hK K
              refine wpL_one 4 rfl (by kernel_rfl) (by rfl) (fun K hK => ?_)
              go_simp
              refine hK.out _ _ (fun h => absurd rfl h) ?_
              clear hK K
              refine wpL_done (by kernel_rfl) ?_
              refine NoPanic.normal ?_
              go_wp2_with fail
              refine bodyPost_ret (v := .tuple #[tyV 4 0 (.slice ao1 (i + 1) cap1) (.slice ao2 (i + 1) cap2), .bool false]) (results_cell Tryz.results85 rfl rfl (load25 (set4 HI7.out.hR _ _ _ _))) rfl ?_
              exact ⟨4, 0, ao1, i + 1, cap1, ao2, i + 1, cap2, l3, by rw [HRes.out]; rfl, set4_ne HI7.out.hq hqR.out _ _ _ _, HI7.out.hl, HI7.out.tt.set4 HRe.out _ _ _ _, fun T' r'' h => by rw [HRes.out] at h; cases h⟩
      · have HRes : Hid (res = none) := by
          show _ = _
          rw [HRs.out, show 12 - i = 0 by omega]
          rfl
        have HRX : Hid (wr.heap[R]? = some zT) := HI.out.hR
        have HQX : Hid (wr.heap[q]? = some (.cells #[str l1] 133)) := HI.out.hq
        have HTX : Hid (Touch q w wr) := HI.out.tt
        have HLX : Hid (l1.length ≤ L) := HI.out.hl
        clear HI HRs
        have rc0 : wr.cell? ⟨R, 0, none⟩ = some (i64 0) := blk_cell HRX.out 0
        have rf0 : wr.frozen? ⟨R, 0, none⟩ = false := blk_frozen HRX.out 0
        have rc1 : wr.cell? ⟨R, 1, none⟩ = some (i64 0) := blk_cell HRX.out 1
        have rf1 : wr.frozen? ⟨R, 1, none⟩ = false := blk_frozen HRX.out 1
        have rc2 : wr.cell? ⟨R, 2, none⟩ = some (.slice none 0 0) := blk_cell HRX.out 2
        have rf2 : wr.frozen? ⟨R, 2, none⟩ = false := blk_frozen HRX.out 2
        have rc3 : wr.cell? ⟨R, 3, none⟩ = some (.slice none 0 0) := blk_cell HRX.out 3
        have rf3 : wr.frozen? ⟨R, 3, none⟩ = false := blk_frozen HRX.out 3
        go_wp2_with fail
        refine bodyPost_ret (v := .tuple #[tyV 0 0 (.slice none 0 0) (.slice none 0 0), .bool false]) (results_cell Tryz.results85 rfl rfl (load25 (set4 HRX.out _ _ _ _))) rfl ?_
        exact ⟨0, 0, none, 0, 0, none, 0, 0, _, by rw [HRes.out]; rfl, set4_ne HQX.out hqR.out _ _ _ _, HLX.out, HTX.out.set4 HRe.out _ _ _ _, fun T r h => by rw [HRes.out] at h; cases h⟩
  · have HRes : Hid (res = none) := by
      show _ = _
      rw [HRes0.out]
      unfold recP0
      split
      · exact absurd ⟨_, rfl⟩ hp
      · rfl
    have HLX : Hid (l.length ≤ L) := by show _ ≤ _; rw [HLe.out]; exact Nat.le_refl _
    go_wp2_with fail
    refine (take_miss V q 40 l (fun r e => hp ⟨r, e⟩) HQ0.out).mono ?_
    rintro e w2 ⟨rfl, hq2, ht2⟩
    have HQ2 := hid hq2
    have HT2 : Hid (Touch q w w2) := HT0.out.trans ht2
    have HR2 : Hid (w2.heap[R]? = some zT) := by show _ = _; rw [ht2.block R HRlt.out (fun e => hqR.out e.symm)]; exact HR0.out
    clear hq2 ht2
    have rc0 : w2.cell? ⟨R, 0, none⟩ = some (i64 0) := blk_cell HR2.out 0
    have rf0 : w2.frozen? ⟨R, 0, none⟩ = false := blk_frozen HR2.out 0
    have rc1 : w2.cell? ⟨R, 1, none⟩ = some (i64 0) := blk_cell HR2.out 1
    have rf1 : w2.frozen? ⟨R, 1, none⟩ = false := blk_frozen HR2.out 1
    have rc2 : w2.cell? ⟨R, 2, none⟩ = some (.slice none 0 0) := blk_cell HR2.out 2
    have rf2 : w2.frozen? ⟨R, 2, none⟩ = false := blk_frozen HR2.out 2
    have rc3 : w2.cell? ⟨R, 3, none⟩ = some (.slice none 0 0) := blk_cell HR2.out 3
    have rf3 : w2.frozen? ⟨R, 3, none⟩ = false := blk_frozen HR2.out 3
    go_wp2_with fail
    refine bodyPost_ret (v := .tuple #[tyV 0 0 (.slice none 0 0) (.slice none 0 0), .bool false]) (results_cell Tryz.results85 rfl rfl (load25 (set4 HR2.out _ _ _ _))) rfl ?_
    exact ⟨0, 0, none, 0, 0, none, 0, 0, _, by rw [HRes.out]; rfl, set4_ne HQ2.out hqR.out _ _ _ _, HLX.out, HT2.out.set4 HRe.out _ _ _ _, fun T r h => by rw [HRes.out] at h; cases h⟩
end Go.Proofs.YtihbbgcpdgnhoaaGreatDoor
