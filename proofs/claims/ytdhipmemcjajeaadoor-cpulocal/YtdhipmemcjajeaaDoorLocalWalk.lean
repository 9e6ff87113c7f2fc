/- CpuLocal's walk: a step hangs on the bytes of its instruction alone; no statement is proved in this text. -/
import Derived.Test.YtdhipmemcjajeaaDoorLocalPure
import Derived.Test.YtdhipmemcjajeaaDoorStepsWalk
namespace Go.Proofs.YtdhipmemcjajeaaDoor
open Go.ChangeShapes Go.WideShapes Go.ChangeAt Go.RowKit

set_option maxHeartbeats 800000 in
theorem local_long (W : World) (C : List Nat) (s t : ByteArray) (ht : Tab W) (hs : 300 < s.size ∨ 300 < t.size) (hm : s.size ≤ maxLen) (hm2 : t.size ≤ maxLen) : Calls Tryd.prog 7 #[cpV C, .string s, .string t] W fun e w' => e = .returned (.bool true) ∧ Below W.heap.size W w' := by
  unfold maxLen at hm hm2
  have HT : Hid (Tab W) := ht
  clear ht
  rcases (show (300 : Int) < s.size ∨ ((s.size : Int) ≤ 300 ∧ (300 : Int) < t.size) by omega) with h | ⟨h1, h2⟩
  all_goals
    clear hs
    go_enter Tryd.func7, Tryd.ntmps7
    go_wp2_with fail
    refine (sub_ok _ (HT.out.alloc _)).mono ?_
    rintro e w1 ⟨rfl, hb⟩
    have HB : Hid (Below W.heap.size W w1) := (below_one W _).trans (hb.mono (by simp))
    clear hb
    go_wp2_with fail
    go_ret
    exact ⟨rfl, HB.out⟩
set_option maxHeartbeats 800000 in
theorem local_bad (W : World) (C : List Nat) (hC : Rg C) (s t : ByteArray) (pc : Nat) (i : In) (nx er : Int) (ht : Tab W) (hs : s.size ≤ 300) (hs2 : t.size ≤ 300) (hpc : C.getD 8 0 = pc)
    (h0 : ∀ w, Calls Tryd.prog 16 #[.string s, i64 pc] w fun e w' => e = .returned (gotV i nx er) ∧ Below w.heap.size w w') (he : er ≠ 0) : Calls Tryd.prog 7 #[cpV C, .string s, .string t] W fun e w' => e = .returned (.bool true) ∧ Below W.heap.size W w' := by
  have h1 : (s.size : Int) ≤ 300 := by omega
  have h2 : (t.size : Int) ≤ 300 := by omega
  have hpc16 : pc < 65536 := by rw [← hpc]; exact hC.get 8
  have hen : (er != 0) = true := by simpa using he
  obtain ⟨op, A, B, n⟩ := i
  have HT : Hid (Tab W) := ht
  have HPC := hid hpc
  have H0 : Hid (∀ w, Calls Tryd.prog 16 #[.string s, i64 pc] w fun e w' => e = .returned (gotV ⟨op, A, B, n⟩ nx er) ∧ Below w.heap.size w w') := h0
  clear ht hpc h0 he
  go_enter Tryd.func7, Tryd.ntmps7
  go_upto_region 3 with fail
  have hr0 : Row (W.alloc (.cells (cpC C).toArray 25)) W.heap.size C := ⟨heap_at rfl _⟩
  have hb0 : Below W.heap.size W (W.alloc (.cells (cpC C).toArray 25)) := below_one W _
  generalize W.alloc (.cells (cpC C).toArray 25) = V at *
  have c8 := hr0.cell hC 8 (by omega)
  rw [HPC.out] at c8
  have HB0 := hid hb0
  clear hr0 hb0
  go_wp2_with fail
  refine (H0.out _).mono ?_
  rintro e w1 ⟨rfl, hb1⟩
  have HB1 : Hid (Below W.heap.size W (w1.alloc (.cells #[i64 op, i64 A, i64 B, i64 n, i64 nx, i64 er] 51))) := (HB0.out.trans (hb1.mono HB0.out.size)).alloc (by have := HB0.out.size; have := hb1.size; omega) _
  clear hb1
  go_wp2_with fail
  refine (sub_ok _ (HT.out.below HB1.out)).mono ?_
  rintro e w2 ⟨rfl, hb2⟩
  have HB2 : Hid (Below W.heap.size W w2) := HB1.out.trans (hb2.mono HB1.out.size)
  clear hb2
  go_wp2_with fail
  go_ret
  exact ⟨rfl, HB2.out⟩
theorem eqIn25'' {C D : List Nat} (hC : C.length = 9) (hD : D.length = 9) (h : C = D) (w : World) : (Op.equalIn 10000 25 (cpV C) (cpV D)).run Tryd.prog w = .ok true w := by
  have h2 := eql25 hC hD w
  rw [run_eql_struct] at h2
  cases hr : (Op.equalIn 10000 25 (cpV C) (cpV D)).run Tryd.prog w with
  | ok b w' =>
    rw [hr] at h2
    simp only [Result.andThen_ok, Result.ok.injEq, Value.bool.injEq] at h2 ⊢
    exact ⟨by rw [h2.1]; simp [h], h2.2⟩
  | halt x w' => rw [hr] at h2; cases h2
theorem maxLen_big : 100000 ≤ maxLen := by unfold maxLen; omega
theorem at_le {l : List UInt8} {pc nx : Nat} (he : atE l (pc : Nat) = 0) (hn : atN l (pc : Nat) = (nx : Nat)) : nx ≤ l.length := by
  obtain ⟨hI, hN, hp0, hp1⟩ := at_fine he
  have hlen : (0 : Int) ≤ pc ∧ (pc : Int) < l.length := ⟨by omega, by omega⟩
  unfold atE at he
  rw [if_pos hlen, Int.toNat_natCast] at he
  cases h : hd (l.drop pc) with
  | none => rw [h] at he; cases he
  | some i =>
    have hII : atI l (pc : Nat) = i := by unfold atI; rw [if_pos hlen, Int.toNat_natCast, h]; rfl
    rw [hII] at hN
    obtain ⟨_, h2, _⟩ := hd_some h
    rw [List.length_drop] at h2
    omega
/-- What stands in the loop. -/
structure Lc (V wr : World) (v : Value) (l : List UInt8) (pc nx k : Nat) : Prop where
  own : wr.ownsRow V.heap.size 5 1 v k (cells (mkTo l pc nx k))
  bel : Below V.heap.size V wr
set_option maxRecDepth 100000 in
set_option maxHeartbeats 3200000 in
theorem local_walk (W : World) (C C1 : List Nat) (x : Ac) (hC : Rg C) (hC1 : Rg C1) (l : List UInt8) (S t S2 : ByteArray) (hsz : S.size = l.length) (hby : ∀ k (h : k < S.size), (S[k]'h).toNat = (l.getD k 0).toNat) (pc nx : Nat) (i : In) (ht : Tab W) (hl : l.length ≤ 300) (hs2 : t.size ≤ 300) (hpc : C.getD 8 0 = pc) (_hnx : nx ≤ l.length) (_hpn : pc ≤ nx)
    (h0 : ∀ w, Calls Tryd.prog 16 #[.string S, i64 pc] w fun e w' => e = .returned (gotV i nx 0) ∧ Below w.heap.size w w')
    (h1 : ∀ w, Tab w → Calls Tryd.prog 9 #[cpV C, .string S] w fun e w' => e = .returned (stV C1 x) ∧ Below w.heap.size w w')
    (h2 : ∀ w, Tab w → Calls Tryd.prog 9 #[cpV C, .string S2] w fun e w' => e = .returned (stV C1 x) ∧ Below w.heap.size w w') (hS2 : S2 = ⟨(mkTo l pc nx l.length).toArray⟩ ++ t) :
    Calls Tryd.prog 7 #[cpV C, .string S, .string t] W fun e w' => e = .returned (.bool true) ∧ Below W.heap.size W w' := by
  have hlI : (l.length : Int) ≤ 300 := by omega
  have htI : (t.size : Int) ≤ 300 := by omega
  have hpc16 : pc < 65536 := by rw [← hpc]; exact hC.get 8
  have HBY := hid hby
  clear hby
  obtain ⟨op, A, B, n⟩ := i
  have HT : Hid (Tab W) := ht
  have HPC := hid hpc
  have HS2 := hid hS2
  have H0 : Hid (∀ w, Calls Tryd.prog 16 #[.string S, i64 pc] w fun e w' => e = .returned (gotV ⟨op, A, B, n⟩ nx 0) ∧ Below w.heap.size w w') := h0
  have H1 : Hid (∀ w, Tab w → Calls Tryd.prog 9 #[cpV C, .string S] w fun e w' => e = .returned (stV C1 x) ∧ Below w.heap.size w w') := h1
  have H2 : Hid (∀ w, Tab w → Calls Tryd.prog 9 #[cpV C, .string S2] w fun e w' => e = .returned (stV C1 x) ∧ Below w.heap.size w w') := h2
  clear ht hpc h0 h1 h2 hS2
  go_enter Tryd.func7, Tryd.ntmps7
  go_upto_region 3 with fail
  have hr0 : Row (W.alloc (.cells (cpC C).toArray 25)) W.heap.size C := ⟨heap_at rfl _⟩
  have hb0 : Below W.heap.size W (W.alloc (.cells (cpC C).toArray 25)) := below_one W _
  generalize W.alloc (.cells (cpC C).toArray 25) = V at *
  have c8 := hr0.cell hC 8 (by omega)
  rw [HPC.out] at c8
  have HR0 := hid hr0
  have HB0 := hid hb0
  clear hr0 hb0
  go_wp2_with fail
  refine (H0.out _).mono ?_
  rintro e w1 ⟨rfl, hb1⟩
  have HR1 := hid ((HR0.out.below hb1).below (below_one w1 (.cells #[i64 op, i64 A, i64 B, i64 n, i64 nx, i64 0] 51)))
  have HB1 : Hid (Below W.heap.size W (w1.alloc (.cells #[i64 op, i64 A, i64 B, i64 n, i64 nx, i64 0] 51))) := (HB0.out.trans (hb1.mono HB0.out.size)).alloc (by have := HB0.out.size; have := hb1.size; omega) _
  have HG1 := hid (heap_at (w := w1) rfl (.cells #[i64 op, i64 A, i64 B, i64 n, i64 nx, i64 0] 51))
  clear hb1 c8
  go_upto_region 6 with fail
  generalize w1.alloc (.cells #[i64 op, i64 A, i64 B, i64 n, i64 nx, i64 0] 51) = V1 at *
  generalize w1.heap.size = q at *
  have hqV := (Array.getElem?_eq_some_iff.1 HG1.out).1
  go_wp2_with fail
  go_loopw [8, 9] (fun v j wr => ∃ k : Nat, k ≤ l.length ∧ j = .int .i64 k ∧ Lc V1 wr v l pc nx k) (fun _ j _ => l.length - (intOf j).toNat)
  case atStart => exact ⟨0, by omega, rfl, World.ownsRow_nil _ _ _ _, Below.refl _ _⟩
  case round =>
    obtain ⟨k, hk, rfl, hlc⟩ := hrel
    have c8 := (HR1.out.below hlc.bel).cell hC 8 (by omega)
    rw [HPC.out] at c8
    have g4 : wr.cell? ⟨q, 4, none⟩ = some (i64 nx) := by rw [cell_of_row _ _ _ _ 51 (0, 0) ((hlc.bel.block _ hqV).trans HG1.out)]; rfl
    have HLC := hid hlc
    have hz := hlc.bel.size
    clear hlc
    by_cases hkl : k < l.length
    · have hkI : (k : Int) < l.length := by omega
      have HSU := hid (mkTo_succ l pc nx k)
      by_cases hin : k < pc ∨ nx ≤ k
      · rw [if_pos hin] at HSU
        rcases (show (k : Int) < pc ∨ ((pc : Int) ≤ k ∧ (nx : Int) ≤ k) by omega) with hc | ⟨hc, hc2⟩
        all_goals
          clear hin
          go_wp2_with (at_builtin; refine app57 rfl (.tmp 49) (.tmp 50) rfl V1.heap.size _ k (cells (mkTo l pc nx k)) rfl (by exact HLC.out.own.alloc _) wr.heap.size 1 255 rfl (by exact one_at rfl _) (by omega) (by simp; omega) ?_; intro v' w' hown hbel)
          exact ⟨⟨k + 1, by omega, by go_num, by rw [HSU.out, cells_app]; exact hown, (HLC.out.bel.alloc hz _).trans hbel⟩, by simp [intOf]; omega⟩
      · rw [if_neg hin] at HSU
        have hc : (pc : Int) ≤ k := by omega
        have hc2 : (k : Int) < nx := by omega
        have hbyte := fun h => HBY.out k h
        have HU : Hid (cells [l.getD k 0] = [Value.int .u8 ((l.getD k 0).toNat : Nat)]) := (rfl : cells [l.getD k 0] = [Value.int .u8 ((l.getD k 0).toNat : Nat)])
        have hy := (l.getD k 0).toNat_lt
        clear hin
        generalize (l.getD k 0).toNat = y at *
        go_wp2_with (at_builtin; refine app57 rfl (.tmp 52) (.tmp 56) rfl V1.heap.size _ k (cells (mkTo l pc nx k)) rfl (by exact HLC.out.own.alloc _) wr.heap.size 1 y rfl (by exact one_at rfl _) (by omega) (by simp; omega) ?_; intro v' w' hown hbel)
        exact ⟨⟨k + 1, by omega, by go_num, by rw [HSU.out, cells_app, HU.out]; exact hown, (HLC.out.bel.alloc hz _).trans hbel⟩, by simp [intOf]; omega⟩
    · obtain rfl : k = l.length := by omega
      clear c8 g4
      go_upto_region 13 with fail
      have HR2 := hid (HR1.out.below HLC.out.bel)
      have HB2 : Hid (Below W.heap.size W wr) := HB1.out.trans (HLC.out.bel.mono HB1.out.size)
      have HTW : Hid (Tab wr) := HT.out.below HB2.out
      have HO2 := hid HLC.out.own
      have hbz := HB1.out.size
      clear HLC HR1 HB1 HG1 hqV hz
      generalize V1.heap.size = bs at *
      go_wp2_with (refine wpList_load_mid rfl 25 (.tmp 3) rfl W.heap.size 0 rfl (cpC C) _ (by exact HR2.out.range) Tryd.underlying25 rfl (cpC_info hC) ?_)
      refine (H1.out _ HTW.out).mono ?_
      rintro e w2 ⟨rfl, hb2⟩
      obtain ⟨m1, m2, m3, m4, m5⟩ := new_two w2 hC1 x
      have HM1 := hid m1
      have HM2 := hid m2
      have HM3 := hid m3
      have HM4 := hid m4
      have HM5 := hid m5
      have HR3 := hid (HR2.out.below hb2)
      have HB3 : Hid (Below W.heap.size W w2) := HB2.out.trans (hb2.mono HB2.out.size)
      have HO3 := hid (own_below HO2.out hb2)
      clear m1 m2 m3 m4 m5 hb2 HR2 HB2 HTW HO2
      go_upto_region 14 with (first
        | (refine wpList_store_mid rfl 25 (.tmp 10) (.tmp 62) rfl w2.heap.size 0 (cpC C1).toArray rfl rfl (by exact HM1.out) (cpC_infoA hC1) (cpC_one _) ?_)
        | (refine wpList_store_mid rfl 28 (.tmp 11) (.tmp 63) rfl (w2.heap.size + 1) 0 (acC x).toArray rfl rfl (by exact HM2.out) info28 (by kernel_rfl) ?_))
      have HR4 := hid (HR3.out.below HM5.out)
      have HB4 := hid (HB3.out.trans (HM5.out.mono HB3.out.size))
      have HO4 := hid (own_below HO3.out HM5.out)
      have HX4 := hid HM3.out
      have HY4 := hid HM4.out
      clear HM1 HM2 HM3 HM4 HM5 HR3 HB3 HO3
      generalize (((w2.alloc Z9).alloc (Z6 28)).setCells w2.heap.size 0 (cpC C1)).setCells (w2.heap.size + 1) 0 (acC x) = V3 at *
      generalize w2.heap.size = p at *
      have hcv := own_conv HO4.out rfl
      have hml : (mkTo l pc nx l.length).length ≤ 300 := by rw [mkTo_len]; exact hl
      have HT4 : Hid (Tab V3) := HT.out.below HB4.out
      go_wp2_with (refine wpList_load_mid rfl 25 (.tmp 3) rfl W.heap.size 0 rfl (cpC C) _ (by exact HR4.out.range) Tryd.underlying25 rfl (cpC_info hC) ?_)
      rw [← HS2.out]
      refine (H2.out _ HT4.out).mono ?_
      rintro e w3 ⟨rfl, hb3⟩
      obtain ⟨m1, m2, m3, m4, m5⟩ := new_two w3 hC1 x
      have HM1 := hid m1
      have HM2 := hid m2
      have HM3 := hid m3
      have HM4 := hid m4
      have HM5 := hid m5
      have HB5 : Hid (Below W.heap.size W w3) := HB4.out.trans (hb3.mono HB4.out.size)
      have HX5 := hid (HX4.out.below hb3)
      have HY5 := hid (HY4.out.below hb3)
      clear m1 m2 m3 m4 m5 hb3 HR4 HB4 HX4 HY4 HT4 HO4 hcv
      go_upto_region 15 with (first
        | (refine wpList_store_mid rfl 25 (.tmp 12) (.tmp 71) rfl w3.heap.size 0 (cpC C1).toArray rfl rfl (by exact HM1.out) (cpC_infoA hC1) (cpC_one _) ?_)
        | (refine wpList_store_mid rfl 28 (.tmp 13) (.tmp 72) rfl (w3.heap.size + 1) 0 (acC x).toArray rfl rfl (by exact HM2.out) info28 (by kernel_rfl) ?_))
      have HB6 := hid (HB5.out.trans (HM5.out.mono HB5.out.size))
      have HX6 := hid (HX5.out.below HM5.out)
      have HY6 := hid (HY5.out.below HM5.out)
      have HX7 := hid HM3.out
      have HY7 := hid HM4.out
      clear HM1 HM2 HM3 HM4 HM5 HB5 HX5 HY5
      generalize (((w3.alloc Z9).alloc (Z6 28)).setCells w3.heap.size 0 (cpC C1)).setCells (w3.heap.size + 1) 0 (acC x) = V4 at *
      generalize w3.heap.size = r at *
      have HT6 : Hid (Tab V4) := HT.out.below HB6.out
      have hq0 := fun w => eqIn25'' hC1.len hC1.len rfl w
      have hq1 := fun w => eqlAct 28 (Or.inl rfl) x x w
      simp only [decide_true] at hq1
      go_wp2_with (first
        | (refine wpList_load_mid rfl 25 (.tmp 10) rfl p 0 rfl (cpC C1) _ (by exact HX6.out.range) Tryd.underlying25 rfl (cpC_info hC1) ?_)
        | (refine wpList_load_mid rfl 25 (.tmp 12) rfl r 0 rfl (cpC C1) _ (by exact HX7.out.range) Tryd.underlying25 rfl (cpC_info hC1) ?_)
        | (refine wpListG_load (by rfl) 28 (.tmp 11) rfl (p + 1) 0 rfl (acC x) _ (by exact HY6.out.range) Tryd.underlying28 rfl (acC_info28 x) ?_)
        | (refine wpListG_load (by rfl) 28 (.tmp 13) rfl (r + 1) 0 rfl (acC x) _ (by exact HY7.out.range) Tryd.underlying28 rfl (acC_info28 x) ?_)
        | (go_at_call 8; refine (sub_ok _ HT6.out).mono ?_; rintro e w7 ⟨rfl, hb7⟩; have HB12 := hid hb7; clear hb7))
      go_ret
      exact ⟨rfl, HB6.out.trans (HB12.out.mono HB6.out.size)⟩
theorem local_any (W : World) (ht : Tab W) (C : List Nat) (hC : Rg C) (s t : ByteArray) (hm : s.size ≤ maxLen) (hm2 : t.size ≤ maxLen) : Calls Tryd.prog 7 #[cpV C, .string s, .string t] W fun e w' => e = .returned (.bool true) ∧ Below W.heap.size W w' := by
  by_cases h : 300 < s.size ∨ 300 < t.size
  · exact local_long W C s t ht h hm hm2
  · have e : s = ⟨s.data.toList.toArray⟩ := by cases s; rfl
    have hsl : s.data.toList.length = s.size := by rw [Array.length_toList]; rfl
    have hl : s.data.toList.length ≤ maxLen := by rw [hsl]; exact hm
    have h0 : ∀ w, Calls Tryd.prog 16 #[.string s, i64 (C.getD 8 0 : Nat)] w fun e w' => e = .returned (gotV (atI s.data.toList (C.getD 8 0 : Nat)) (atN s.data.toList (C.getD 8 0 : Nat)) (atE s.data.toList (C.getD 8 0 : Nat))) ∧ Below w.heap.size w w' := fun w => by
      have := rat_any w s.data.toList hl (C.getD 8 0 : Nat)
      rw [← e] at this
      exact this
    by_cases he : atE s.data.toList (C.getD 8 0 : Nat) = 0
    · obtain ⟨hI, hN, hp0, hp1⟩ := at_fine he
      obtain ⟨nx, hnx⟩ : ∃ nx : Nat, atN s.data.toList (C.getD 8 0 : Nat) = nx := ⟨C.getD 8 0 + sz (atI s.data.toList (C.getD 8 0 : Nat)).op.toNat, by rw [hN]; omega⟩
      have hle : nx ≤ s.data.toList.length := at_le he hnx
      rw [he, hnx] at h0
      obtain ⟨g1, g2⟩ := st_mk he hnx t.data.toList
      have hl2 : (mkTo s.data.toList (C.getD 8 0) nx s.data.toList.length ++ t.data.toList).length ≤ maxLen := by
        have h3 : t.data.toList.length = t.size := by rw [Array.length_toList]; rfl
        have := maxLen_big
        rw [List.length_append, mkTo_len, h3, hsl]
        omega
      refine local_walk W C (stC C s.data.toList) (stA C s.data.toList) hC (hC.step _) s.data.toList s t (⟨(mkTo s.data.toList (C.getD 8 0) nx s.data.toList.length).toArray⟩ ++ t) hsl.symm (fun k hk => ?_) (C.getD 8 0) nx _ ht (by omega) (by omega) rfl hle (by omega) h0 (fun w ht => ?_) (fun w ht => ?_) rfl
      · rw [List.getD_eq_getElem?_getD, List.getElem?_eq_getElem (by omega)]
        rfl
      · have := step_ok w ht C hC s.data.toList hl
        rw [← e] at this
        exact this
      · have := step_ok w ht C hC _ hl2
        rw [g1, g2] at this
        have e2 : (⟨(mkTo s.data.toList (C.getD 8 0) nx s.data.toList.length ++ t.data.toList).toArray⟩ : ByteArray) = ⟨(mkTo s.data.toList (C.getD 8 0) nx s.data.toList.length).toArray⟩ ++ t := by
          apply ByteArray.ext
          simp [ByteArray.data_append]
        rw [← e2]
        exact this
    · exact local_bad W C hC s t _ _ _ _ ht (by omega) (by omega) rfl h0 he
end Go.Proofs.YtdhipmemcjajeaaDoor
