/- Texts Ba Bh in one; no statement is proved in this text. -/
import Derived.Test.YtjppcfjjpkniaaaGreatDoorUF
import Derived.Test.YtjppcfjjpkniaaaGreatDoorUA
import Derived.Test.YtjppcfjjpkniaaaGreatDoorUX
import Derived.Test.YtjppcfjjpkniaaaGreatDoorUK
namespace Go.Proofs.YtjppcfjjpkniaaaGreatDoor
open Go.ChangeShapes Go.WideShapes Go.ChangeAt Go.RowKit Go.Deep
attribute [local go_sem ↓] Go.wp_at_zero Go.wp_at_succ
set_option maxRecDepth 100000

def LnOk (w : World) (q : Nat) (e : Ending) (w' : World) : Prop :=
  ∃ (b : Bool) (m' : Int), e = .returned (.bool b) ∧ w'.heap[q]? = some (.cells #[i64 m'] 35) ∧ Touch q w w' ∧ (b = false → 0 ≤ m' ∧ m' ≤ 400)
set_option maxHeartbeats 6400000 in
theorem long_in {q : Nat} (d : Int) (hd : 1 ≤ d) (hd2 : d ≤ 21) (ih : d ≤ 20 → ∀ (l : List Sm) (w : World) (bv : Value) (m : Int), Sds w (fun b => b ≠ q) l bv → w.heap[q]? = some (.cells #[i64 m] 35) → 0 ≤ m → m ≤ 400 → Calls Tryz.prog 13 #[bv, pq q, i64 (d + 1)] w (LnOk w q))
    (l : List Sm) (w : World) (bv : Value) (m : Int) (hs : Sds w (fun b => b ≠ q) l bv) (hq : w.heap[q]? = some (.cells #[i64 m] 35)) (hm : 0 ≤ m) (hm2 : m ≤ 400) : Calls Tryz.prog 13 #[bv, pq q, i64 d] w (LnOk w q) := by
  obtain ⟨ab, cb, rfl, hlm, hat⟩ := hs.at
  have HAT := hid hat
  have HIH := hid ih
  have HQ0 := hid hq
  have HT0 : Hid (Touch q w w) := Touch.refl _ _
  have hlm0 : (0 : Int) ≤ (l.length : Int) := by omega
  clear hat ih hs hq hlm
  by_cases h20 : 20 < d
  · go_enter Tryz.func13, Tryz.ntmps13
    go_wp2_with fail
    go_ret
    exact ⟨true, m, rfl, HQ0.out, HT0.out, fun h => by cases h⟩
  by_cases h100 : (100 : Int) < (l.length : Int)
  · go_enter Tryz.func13, Tryz.ntmps13
    go_wp2_with fail
    go_ret
    exact ⟨true, m, rfl, HQ0.out, HT0.out, fun h => by cases h⟩
  have hl100 : l.length ≤ 100 := by omega
  go_enter Tryz.func13, Tryz.ntmps13
  go_upto_region 4 with fail
  go_loopw [18] (fun u wr => ∃ (i : Nat) (m1 : Int), i ≤ l.length ∧ u = i64 i ∧ 0 ≤ m1 ∧ m1 ≤ 400 ∧ Hid (wr.heap[q]? = some (.cells #[i64 m1] 35)) ∧ Hid (Touch q w wr)) (fun u _ => l.length - (intOf u).toNat)
  case atStart => exact ⟨0, m, by omega, rfl, hm, hm2, HQ0, HT0⟩
  case round =>
    clear HQ0 HT0 hm hm2
    obtain ⟨i, m1, hi, rfl, hm1, hm2, HQr, HTr⟩ := hrel
    have hi0 : (0 : Int) ≤ (i : Int) := by omega
    by_cases hlt : i < l.length
    · obtain ⟨rb, off, v, rfl, hrb, hrlt, hrng, hsd⟩ := HAT.out i hlt
      generalize l[i] = sm at *
      obtain ⟨op, num, nm, ds, names, t, body⟩ := sm
      obtain ⟨a1, c1, a2, n2, c2, a3, n3, c3, a4, c4, rfl⟩ := hsd.form
      have hr := range_keep hrng (HTr.out.block rb hrlt hrb)
      have x0 : wr.cell? ⟨rb, off + i * 10, none⟩ = some (i64 op) := hr 0 _ rfl
      have x1 : wr.cell? ⟨rb, off + i * 10 + 1, none⟩ = some (str nm) := hr 1 _ rfl
      have x2 : wr.cell? ⟨rb, off + i * 10 + 2, none⟩ = some (str ds) := hr 2 _ rfl
      have x3 : wr.cell? ⟨rb, off + i * 10 + 3, none⟩ = some (.slice a1 names.length c1) := hr 3 _ rfl
      have x4 : wr.cell? ⟨rb, off + i * 10 + 4, none⟩ = some (i64 t.kind) := hr 4 _ rfl
      have x5 : wr.cell? ⟨rb, off + i * 10 + 5, none⟩ = some (i64 t.num) := hr 5 _ rfl
      have x6 : wr.cell? ⟨rb, off + i * 10 + 6, none⟩ = some (.slice a2 n2 c2) := hr 6 _ rfl
      have x7 : wr.cell? ⟨rb, off + i * 10 + 7, none⟩ = some (.slice a3 n3 c3) := hr 7 _ rfl
      have x8 : wr.cell? ⟨rb, off + i * 10 + 8, none⟩ = some (i64 num) := hr 8 _ rfl
      have x9 : wr.cell? ⟨rb, off + i * 10 + 9, none⟩ = some (.slice a4 body.length c4) := hr 9 _ rfl
      have HZ1 : Hid ((wr.alloc (sbO (i64 op) (str nm) (str ds) (.slice a1 names.length c1) (i64 t.kind) (i64 t.num) (.slice a2 n2 c2) (.slice a3 n3 c3) (i64 num) (.slice a4 body.length c4))).heap[wr.heap.size]? = some (sbO (i64 op) (str nm) (str ds) (.slice a1 names.length c1) (i64 t.kind) (i64 t.num) (.slice a2 n2 c2) (.slice a3 n3 c3) (i64 num) (.slice a4 body.length c4))) := heap_last wr _
      have HQ1 : Hid ((wr.alloc (sbO (i64 op) (str nm) (str ds) (.slice a1 names.length c1) (i64 t.kind) (i64 t.num) (.slice a2 n2 c2) (.slice a3 n3 c3) (i64 num) (.slice a4 body.length c4))).heap[q]? = some (.cells #[i64 m1] 35)) := blk_alloc HQr.out _
      have HT1 : Hid (Touch q w (wr.alloc (sbO (i64 op) (str nm) (str ds) (.slice a1 names.length c1) (i64 t.kind) (i64 t.num) (.slice a2 n2 c2) (.slice a3 n3 c3) (i64 num) (.slice a4 body.length c4)))) := HTr.out.alloc _
      have HSD := hid hsd
      have hqZ := blk_lt HQr.out
      clear hrng hsd hr hrb hrlt
      go_upto_region 6 with fail
      clear x0 x1 x2 x3 x4 x5 x6 x7 x8 x9
      obtain ⟨Z, hZ⟩ : ∃ Z, Z = wr.heap.size := ⟨_, rfl⟩
      have HZq : Hid (Z ≠ q) := by show _ ≠ _; omega
      rw [← hZ] at HZ1
      rw [← hZ]
      clear hqZ hZ
      generalize wr.alloc (sbO (i64 op) (str nm) (str ds) (.slice a1 names.length c1) (i64 t.kind) (i64 t.num) (.slice a2 n2 c2) (.slice a3 n3 c3) (i64 num) (.slice a4 body.length c4)) = V at *
      have yq : V.cell? ⟨q, 0, none⟩ = some (i64 m1) := blk_cell HQ1.out 0
      have fq : V.frozen? ⟨q, 0, none⟩ = false := blk_frozen HQ1.out 0
      have HQ2 : Hid ((V.setCell ⟨q, 0, none⟩ (i64 (m1 - 1))).heap[q]? = some (.cells #[i64 (m1 - 1)] 35)) := set1 HQ1.out _
      have HZ2 : Hid ((V.setCell ⟨q, 0, none⟩ (i64 (m1 - 1))).heap[Z]? = some (sbO (i64 op) (str nm) (str ds) (.slice a1 names.length c1) (i64 t.kind) (i64 t.num) (.slice a2 n2 c2) (.slice a3 n3 c3) (i64 num) (.slice a4 body.length c4))) := by
        show _ = _
        rw [Below.heap_setCell _ _ _ _ HZq.out]; exact HZ1.out
      have HT2 : Hid (Touch q w (V.setCell ⟨q, 0, none⟩ (i64 (m1 - 1)))) := HT1.out.setCell rfl _
      go_upto_region 7 with fail
      clear yq fq
      generalize V.setCell ⟨q, 0, none⟩ (i64 (m1 - 1)) = U at *
      have y0 : U.cell? ⟨q, 0, none⟩ = some (i64 (m1 - 1)) := blk_cell HQ2.out 0
      obtain ⟨t0, t1, t2, t3, t4, t5, t6, t7, t8, t9, _, _, _, _, _, _, _, _, _, _⟩ := sfs HZ2.out
      by_cases h1 : m1 - 1 < 0
      · go_wp2_with fail
        go_ret
        exact ⟨true, m1 - 1, rfl, HQ2.out, HT2.out, fun h => by cases h⟩
      by_cases h2 : (30 : Int) < (names.length : Int)
      · go_wp2_with fail
        go_ret
        exact ⟨true, m1 - 1, rfl, HQ2.out, HT2.out, fun h => by cases h⟩
      by_cases h3 : (100 : Int) < (nm.length : Int)
      · go_wp2_with fail
        go_ret
        exact ⟨true, m1 - 1, rfl, HQ2.out, HT2.out, fun h => by cases h⟩
      by_cases h4 : (100 : Int) < (ds.length : Int)
      · go_wp2_with fail
        go_ret
        exact ⟨true, m1 - 1, rfl, HQ2.out, HT2.out, fun h => by cases h⟩
      have hp := HSD.out.parts
      have HWD : Hid (Calls Tryz.prog 23 #[tyV t.kind t.num (.slice a2 n2 c2) (.slice a3 n3 c3), pq q, i64 1] U (LgOk U q (m1 - 1) t)) := large_ok t.count t (Nat.le_refl _) U _ _ q (m1 - 1) 1 (hp.2.1.move HT2.out.size fun b hb hlt => ⟨hb, HT2.out.block b hlt hb⟩) HQ2.out (by omega) (by omega) (by omega) (by omega)
      have HBD : Hid (Sds w (fun b => b ≠ q) body (.slice a4 body.length c4)) := hp.2.2
      clear hp HSD
      go_wp2_with fail
      refine HWD.out.mono ?_
      rintro e w3 ⟨bb, m2, rfl, hq3, ht3, hf3⟩
      have HQ3 := hid hq3
      have HT3 : Hid (Touch q w w3) := HT2.out.trans ht3
      have HZ3 : Hid (w3.heap[Z]? = some (sbO (i64 op) (str nm) (str ds) (.slice a1 names.length c1) (i64 t.kind) (i64 t.num) (.slice a2 n2 c2) (.slice a3 n3 c3) (i64 num) (.slice a4 body.length c4))) := by show _ = _; rw [ht3.block Z (blk_lt HZ2.out) HZq.out]; exact HZ2.out
      have HF3 := hid hf3
      have HCT : Hid (1 ≤ t.count) := count_pos t
      clear hq3 ht3 hf3 HWD t0 t1 t2 t3 t4 t5 t6 t7 t8 t9 y0
      obtain ⟨t0, t1, t2, t3, t4, t5, t6, t7, t8, t9, _, _, _, _, _, _, _, _, _, _⟩ := sfs HZ3.out
      cases bb with
      | true =>
        go_simp
        go_wp2_with fail
        go_ret
        exact ⟨true, m2, rfl, HQ3.out, HT3.out, fun h => by cases h⟩
      | false =>
        obtain ⟨g1, g2⟩ := HF3.out rfl
        have hm3 : m2 ≤ 400 := by have := HCT.out; omega
        have HBK := hid (HIH.out (by omega) body w3 _ m2 (HBD.out.move HT3.out.size fun b hb hlt => ⟨hb, HT3.out.block b hlt hb⟩) HQ3.out g1 hm3)
        clear g2
        go_simp
        go_wp2_with fail
        refine HBK.out.mono ?_
        rintro e w4 ⟨bb, m4, rfl, hq4, ht4, hf4⟩
        have HQ4 := hid hq4
        have HT4 : Hid (Touch q w w4) := HT3.out.trans ht4
        have HF4 := hid hf4
        clear hq4 ht4 hf4 HBK t0 t1 t2 t3 t4 t5 t6 t7 t8 t9
        cases bb with
        | true =>
          go_simp
          go_wp2_with fail
          go_ret
          exact ⟨true, m4, rfl, HQ4.out, HT4.out, fun h => by cases h⟩
        | false =>
          obtain ⟨g3, g4⟩ := HF4.out rfl
          go_simp
          go_wp2_with fail
          exact ⟨⟨i + 1, m4, by omega, by go_num, g3, g4, HQ4, HT4⟩, by simp [intOf]; omega⟩
    · go_wp2_with fail
      go_ret
      exact ⟨false, m1, rfl, HQr.out, HTr.out, fun _ => ⟨hm1, hm2⟩⟩
theorem long_ok {q : Nat} : ∀ (k : Nat) (d : Int), d + k = 21 → 1 ≤ d → ∀ (l : List Sm) (w : World) (bv : Value) (m : Int), Sds w (fun b => b ≠ q) l bv → w.heap[q]? = some (.cells #[i64 m] 35) → 0 ≤ m → m ≤ 400 → Calls Tryz.prog 13 #[bv, pq q, i64 d] w (LnOk w q)
  | 0, d, hk, hd, l, w, bv, m, hs, hq, hm, hm2 => long_in d hd (by omega) (fun h => by omega) l w bv m hs hq hm hm2
  | k + 1, d, hk, hd, l, w, bv, m, hs, hq, hm, hm2 => long_in d hd (by omega) (fun _ => long_ok k (d + 1) (by omega) (by omega)) l w bv m hs hq hm hm2
end Go.Proofs.YtjppcfjjpkniaaaGreatDoor
namespace Go.Proofs.YtjppcfjjpkniaaaGreatDoor
open Go.ChangeShapes Go.WideShapes Go.ChangeAt Go.RowKit Go.Deep
attribute [local go_sem ↓] Go.wp_at_zero Go.wp_at_succ
set_option maxRecDepth 100000

theorem CanB.ty {op num : Int} {nm ds : Bs} {names : List Bs} {t : Ty} (h : CanB op num nm ds names t) : t.count ≤ 1000 := by
  have h0 : ty0.count ≤ 1000 := by decide
  rcases h.2 with ⟨_, _, _, _, rfl⟩ | ⟨_, _, _, _, rfl⟩ | ⟨_, _, _, _, ht⟩ | ⟨_, _, _, _, rfl⟩ | ⟨_, _, _, _, _, rfl⟩ | ⟨_, _, _, _, _, rfl⟩
  · exact h0
  · exact h0
  · unfold Ty.right at ht
    simp only [Bool.and_eq_true, decide_eq_true_eq] at ht
    omega
  · exact h0
  · exact h0
  · exact h0
mutual
theorem wrB_ty : ∀ (s : Sm), wrB s = true → tyS s
  | .mk op num nm ds names t body, hw => by
    simp only [wrB, Bool.and_eq_true] at hw
    obtain ⟨hC, hb⟩ := okS_can hw.1
    by_cases h5 : op = 5
    · exact ⟨hC.ty, wrBL_ty body (by have := hw.2; rwa [if_pos h5] at this)⟩
    · have hbn : body = [] := List.eq_nil_of_length_eq_zero (hb h5)
      subst hbn
      exact ⟨hC.ty, trivial⟩
theorem wrBL_ty : ∀ (l : List Sm), wrBL l = true → tyL l
  | [], _ => trivial
  | s :: r, hw => by
    simp only [wrBL, Bool.and_eq_true] at hw
    exact ⟨wrB_ty s hw.1, wrBL_ty r hw.2⟩
end
theorem ev_cnt {l : List Sm} (h : evB 0 0 l = true) : cntL l ≤ 10000 := by
  simp only [evB, Bool.and_eq_true, decide_eq_true_eq] at h
  omega
theorem parse_none {text : Bs} (h : (parseR text).2 ≠ 0) : (parseR text).1 = [] := by
  rw [parseR_blkR] at h ⊢
  cases hB : blkR (linesM text true) 0 0 0 with
  | bad k => rfl
  | ok l rest n cnt => rw [hB] at h; exact absurd rfl h
theorem ne_b {n : Nat} (h : n ≠ 0) : ((n : Int) == 0) = false := by
  have : (n : Int) ≠ 0 := by omega
  simpa using this
theorem ne_b2 {n : Int} (h : n ≠ 0) : (n == 0) = false := by simpa using h
set_option maxHeartbeats 12800000 in
theorem back_core (l : List Sm) (a : Option Addr) (n c : Nat) (s : ByteArray) (w : World) (he : Env w) (hs : Sds w (fun _ => True) l (.slice a n c)) (hwt : wtL l ≤ 1048576) (hnr : nrL l) : Calls Tryz.prog 5 #[.slice a n c, .string s] w fun e w' => e = .returned (.bool true) ∧ Below w.heap.size w w' := by
  have HEA : Hid (∀ w', Below w.heap.size w w' → Calls Tryz.prog 8 #[] w' fun e w'' => e = .returned (.bool true) ∧ Below w'.heap.size w' w'') := fun w' hb => each_ok w' (he.below hb)
  have HE := hid he
  have hsl : s.data.toList.length = s.size := Array.length_toList
  have HSL := hid hsl
  have hb1 := below_one w (.cells #[i64 400] 35)
  have HB1 := hid hb1
  have HS := hid hs
  have HQL : Hid (w.heap.size ≤ w.heap.size) := Nat.le_refl _
  have HLG := hid (long_ok (q := w.heap.size) 20 1 (by omega) (by omega) l (w.alloc (.cells #[i64 400] 35)) (.slice a n c) 400 (hs.move hb1.size fun b _ hlt => ⟨by omega, hb1.block b hlt⟩) (heap_last w _) (by omega) (by omega))
  have HPR : Hid (∀ w' : World, Below w.heap.size w w' → Calls Tryz.prog 14 #[.slice a n c] w' fun e w'' => e = .returned (.tuple #[str (printF l).1, i64 (printF l).2]) ∧ Below w'.heap.size w' w'') := fun w' hb =>
    lprint_ok l w' (he.below hb) _ (hs.under hb) fun hv => ⟨fineL_of l hnr hwt, by have := print_len hnr hwt hv; omega⟩
  have HPZ : Hid ((printF l).2 = 0 → (printF l).1 = wrTL l [] ∧ (∀ w' : World, Below w.heap.size w w' → Calls Tryz.prog 9 #[str (wrTL l [])] w' fun e w'' => (∃ a c, e = .returned (.tuple #[.slice a l.length c, i64 (0 : Nat)]) ∧ Sds w'' (fun _ => True) l (.slice a l.length c)) ∧ Below w'.heap.size w' w'') ∧ cntL l ≤ 10000 ∧ tyL l) := fun hz => by
    obtain ⟨h1, h2⟩ := print_zero hz
    refine ⟨by rw [print_fine h1 h2], fun w' hb => ?_, ev_cnt h1, wrBL_ty l h2⟩
    have h3 := lparse_ok (wrTL l []) w' (he.below hb) (by have := print_len hnr hwt h1; omega)
    rw [parse_write l h2 h1] at h3
    refine h3.mono fun e w'' ⟨⟨a, c, h4, h5⟩, h6⟩ => ⟨⟨a, c, h4, h5.mono fun _ _ _ => trivial⟩, h6⟩
  clear hb1 hs hsl he hwt hnr
  go_enter Tryz.func5, Tryz.ntmps5
  go_wp2_with fail
  refine HLG.out.mono ?_
  rintro e w1 ⟨bb, m1, rfl, _, ht1, _⟩
  have HB2 : Hid (Below w.heap.size w w1) := HB1.out.trans (ht1.below HQL.out HB1.out.size)
  clear ht1 HLG HB1 HQL
  cases bb with
  | true =>
    go_simp
    go_wp2_with fail
    refine (HEA.out w1 HB2.out).mono ?_
    rintro e w2 ⟨rfl, hb2⟩
    have HB3 : Hid (Below w.heap.size w w2) := HB2.out.trans (hb2.mono HB2.out.size)
    clear hb2
    go_wp2_with fail
    go_ret
    exact ⟨rfl, HB3.out⟩
  | false =>
    by_cases h2500 : 2500 < s.size
    · have hI : (2500 : Int) < (s.size : Int) := by omega
      go_simp
      go_wp2_with fail
      refine (HEA.out w1 HB2.out).mono ?_
      rintro e w2 ⟨rfl, hb2⟩
      have HB3 : Hid (Below w.heap.size w w2) := HB2.out.trans (hb2.mono HB2.out.size)
      clear hb2
      go_wp2_with fail
      go_ret
      exact ⟨rfl, HB3.out⟩
    have hI : ¬ (2500 : Int) < (s.size : Int) := by omega
    have HPT : Hid (∀ w' : World, Below w.heap.size w w' → Calls Tryz.prog 9 #[.string s] w' fun e w'' => (∃ a c, e = .returned (.tuple #[.slice a (parseR s.data.toList).1.length c, i64 ((parseR s.data.toList).2 : Nat)]) ∧ Sds w'' (fun _ => True) (parseR s.data.toList).1 (.slice a (parseR s.data.toList).1.length c)) ∧ Below w'.heap.size w' w'') := fun w' hb =>
      (lparse_ok s.data.toList w' (HE.out.below hb) (by have := HSL.out; omega)).mono fun e w'' ⟨⟨a, c, h4, h5⟩, h6⟩ => ⟨⟨a, c, h4, h5.mono fun _ _ _ => trivial⟩, h6⟩
    have HPN : Hid ((parseR s.data.toList).2 ≠ 0 → (parseR s.data.toList).1.length = 0) := fun h => by rw [parse_none h]; rfl
    have HPF : Hid ((parseR s.data.toList).2 = 0 → (∀ (w' : World) (bv : Value), Below w.heap.size w w' → Sds w' (fun _ => True) (parseR s.data.toList).1 bv → Calls Tryz.prog 14 #[bv] w' fun e w'' => e = .returned (.tuple #[str (wrTL (parseR s.data.toList).1 []), i64 0]) ∧ Below w'.heap.size w' w'') ∧
        (∀ w' : World, Below w.heap.size w w' → Calls Tryz.prog 9 #[str (wrTL (parseR s.data.toList).1 [])] w' fun e w'' => (∃ a c, e = .returned (.tuple #[.slice a (parseR s.data.toList).1.length c, i64 (0 : Nat)]) ∧ Sds w'' (fun _ => True) (parseR s.data.toList).1 (.slice a (parseR s.data.toList).1.length c)) ∧ Below w'.heap.size w' w'') ∧ cntL (parseR s.data.toList).1 ≤ 10000 ∧ tyL (parseR s.data.toList).1) := fun hz => by
      obtain ⟨h1, h2⟩ := parse_fine hz
      obtain ⟨h3, h4⟩ := parse_wt hz (by have := HSL.out; omega)
      generalize (parseR s.data.toList).1 = m at *
      refine ⟨fun w' bv hb hsm => ?_, fun w' hb => ?_, ev_cnt h1, wrBL_ty m h2⟩
      · have := lprint_ok m w' (HE.out.below hb) bv hsm fun hv => ⟨fineL_of m h3 h4, by have := print_len h3 h4 hv; omega⟩
        rw [print_fine h1 h2] at this
        exact this
      · have h5 := lparse_ok (wrTL m []) w' (HE.out.below hb) (by have := print_len h3 h4 h1; omega)
        rw [parse_write m h2 h1] at h5
        refine h5.mono fun e w'' ⟨⟨a, c, h6, h7⟩, h8⟩ => ⟨⟨a, c, h6, h7.mono fun _ _ _ => trivial⟩, h8⟩
    clear h2500 HE HSL
    generalize parseR s.data.toList = PT at *
    obtain ⟨m, bad⟩ := PT
    simp only at HPT HPN HPF
    go_simp
    go_upto_region 3 with fail
    go_wp2_with fail
    refine (HPR.out w1 HB2.out).mono ?_
    rintro e wp ⟨rfl, hbp⟩
    have HBP : Hid (Below w.heap.size w wp) := HB2.out.trans (hbp.mono HB2.out.size)
    clear hbp HB2 HPR
    generalize printF l = PL at *
    obtain ⟨tx, er⟩ := PL
    simp only at HPZ ⊢
    by_cases hz : er = 0
    ·
      subst hz
      obtain ⟨h1, h2, h3, h4⟩ := HPZ.out rfl
      subst h1
      have HPA := hid h2
      have HCN := hid h3
      have HTY := hid h4
      clear h2 h3 h4 HPZ
      go_simp
      go_wp2_with fail
      refine (HPA.out wp HBP.out).mono ?_
      rintro e w3 ⟨⟨a3, c3, rfl, hs3⟩, hb3⟩
      have HB3 : Hid (Below w.heap.size w w3) := HBP.out.trans (hb3.mono HBP.out.size)
      have HSL3 : Hid (Sds w3 (fun _ => True) l (.slice a n c)) := HS.out.under HB3.out
      have HSM3 := hid hs3
      have HR1 := hid (lref_ok l w3 _ HSL3.out HCN.out HTY.out)
      clear hs3 hb3 HPA HBP
      go_simp
      go_wp2_with fail
      refine HR1.out.mono ?_
      rintro e w4 ⟨a4, c4, rfl, hb4, hs4⟩
      have HB4 : Hid (Below w.heap.size w w4) := HB3.out.trans (hb4.mono HB3.out.size)
      have HS4 := hid hs4
      have HR2 := hid (lref_ok l w4 _ (HSM3.out.under hb4) HCN.out HTY.out)
      clear hs4 hb4 HR1 HSL3 HSM3 HB3
      go_simp
      go_wp2_with fail
      refine HR2.out.mono ?_
      rintro e w5 ⟨a5, c5, rfl, hb5, hs5⟩
      have HB5 : Hid (Below w.heap.size w w5) := HB4.out.trans (hb5.mono HB4.out.size)
      have HSA := hid (lsame_ok l w5 _ _ (HS4.out.under hb5) hs5)
      clear hs5 hb5 HR2 HS4 HB4
      go_simp
      go_wp2_with fail
      refine HSA.out.mono ?_
      rintro e w9 ⟨rfl, hb9⟩
      have HB9 : Hid (Below w.heap.size w w9) := HB5.out.trans (hb9.mono HB5.out.size)
      clear hb9 HSA HB5 HCN HTY
      go_simp
      go_upto_region 8 with fail
      go_wp2_with fail
      refine (HPT.out w9 HB9.out).mono ?_
      rintro e w10 ⟨⟨a10, c10, rfl, hs10⟩, hb10⟩
      have HB10 : Hid (Below w.heap.size w w10) := HB9.out.trans (hb10.mono HB9.out.size)
      have HS10 := hid hs10
      clear hs10 hb10 HB9 HPT
      by_cases hbz : bad = 0
      · subst hbz
        obtain ⟨h1, h2, h3, h4⟩ := HPF.out rfl
        have HP1 := hid (h1 w10 _ HB10.out HS10.out)
        have HP2 := hid h2
        have HCN := hid h3
        have HTY := hid h4
        clear h1 h2 h3 h4 HPF HPN
        go_simp
        go_wp2_with fail
        refine HP1.out.mono ?_
        rintro e w11 ⟨rfl, hb11⟩
        have HB11 : Hid (Below w.heap.size w w11) := HB10.out.trans (hb11.mono HB10.out.size)
        have HS11 := hid (HS10.out.under hb11)
        clear hb11 HP1 HS10 HB10
        go_simp
        go_wp2_with fail
        refine (HP2.out w11 HB11.out).mono ?_
        rintro e w12 ⟨⟨a12, c12, rfl, hs12⟩, hb12⟩
        have HB12 : Hid (Below w.heap.size w w12) := HB11.out.trans (hb12.mono HB11.out.size)
        have HS12 := hid (HS11.out.under hb12)
        have HK12 := hid hs12
        have HR1 := hid (lref_ok m w12 _ HS12.out HCN.out HTY.out)
        clear hs12 hb12 HP2 HS11 HB11
        go_simp
        go_wp2_with fail
        refine HR1.out.mono ?_
        rintro e w13 ⟨a13, c13, rfl, hb13, hs13⟩
        have HB13 : Hid (Below w.heap.size w w13) := HB12.out.trans (hb13.mono HB12.out.size)
        have HS13 := hid hs13
        have HR2 := hid (lref_ok m w13 _ (HK12.out.under hb13) HCN.out HTY.out)
        clear hs13 hb13 HR1 HS12 HK12 HB12
        go_simp
        go_wp2_with fail
        refine HR2.out.mono ?_
        rintro e w14 ⟨a14, c14, rfl, hb14, hs14⟩
        have HB14 : Hid (Below w.heap.size w w14) := HB13.out.trans (hb14.mono HB13.out.size)
        have HSA := hid (lsame_ok m w14 _ _ (HS13.out.under hb14) hs14)
        clear hs14 hb14 HR2 HS13 HB13
        go_simp
        go_wp2_with fail
        refine HSA.out.mono ?_
        rintro e w15 ⟨rfl, hb15⟩
        have HB15 : Hid (Below w.heap.size w w15) := HB14.out.trans (hb15.mono HB14.out.size)
        clear hb15 HSA HB14
        go_simp
        go_wp2_with fail
        refine (HEA.out w15 HB15.out).mono ?_
        rintro e w16 ⟨rfl, hb16⟩
        have HB16 : Hid (Below w.heap.size w w16) := HB15.out.trans (hb16.mono HB15.out.size)
        clear hb16
        go_simp
        go_wp2_with fail
        go_ret
        exact ⟨rfl, HB16.out⟩
      · have hbb := ne_b hbz
        have hm0 : m.length = 0 := HPN.out hbz
        rw [hm0]
        clear HPF HPN hm0 HS10
        go_simp
        go_wp2_with fail
        refine (HEA.out w10 HB10.out).mono ?_
        rintro e w11 ⟨rfl, hb11⟩
        have HB11 : Hid (Below w.heap.size w w11) := HB10.out.trans (hb11.mono HB10.out.size)
        clear hb11
        go_simp
        go_wp2_with fail
        go_ret
        exact ⟨rfl, HB11.out⟩
    ·
      have hzb := ne_b2 hz
      have HB9 := hid HBP.out
      clear HPZ HBP
      generalize wp = w9 at *
      go_simp
      go_upto_region 8 with fail
      go_wp2_with fail
      refine (HPT.out w9 HB9.out).mono ?_
      rintro e w10 ⟨⟨a10, c10, rfl, hs10⟩, hb10⟩
      have HB10 : Hid (Below w.heap.size w w10) := HB9.out.trans (hb10.mono HB9.out.size)
      have HS10 := hid hs10
      clear hs10 hb10 HB9 HPT
      by_cases hbz : bad = 0
      · subst hbz
        obtain ⟨h1, h2, h3, h4⟩ := HPF.out rfl
        have HP1 := hid (h1 w10 _ HB10.out HS10.out)
        have HP2 := hid h2
        have HCN := hid h3
        have HTY := hid h4
        clear h1 h2 h3 h4 HPF HPN
        go_simp
        go_wp2_with fail
        refine HP1.out.mono ?_
        rintro e w11 ⟨rfl, hb11⟩
        have HB11 : Hid (Below w.heap.size w w11) := HB10.out.trans (hb11.mono HB10.out.size)
        have HS11 := hid (HS10.out.under hb11)
        clear hb11 HP1 HS10 HB10
        go_simp
        go_wp2_with fail
        refine (HP2.out w11 HB11.out).mono ?_
        rintro e w12 ⟨⟨a12, c12, rfl, hs12⟩, hb12⟩
        have HB12 : Hid (Below w.heap.size w w12) := HB11.out.trans (hb12.mono HB11.out.size)
        have HS12 := hid (HS11.out.under hb12)
        have HK12 := hid hs12
        have HR1 := hid (lref_ok m w12 _ HS12.out HCN.out HTY.out)
        clear hs12 hb12 HP2 HS11 HB11
        go_simp
        go_wp2_with fail
        refine HR1.out.mono ?_
        rintro e w13 ⟨a13, c13, rfl, hb13, hs13⟩
        have HB13 : Hid (Below w.heap.size w w13) := HB12.out.trans (hb13.mono HB12.out.size)
        have HS13 := hid hs13
        have HR2 := hid (lref_ok m w13 _ (HK12.out.under hb13) HCN.out HTY.out)
        clear hs13 hb13 HR1 HS12 HK12 HB12
        go_simp
        go_wp2_with fail
        refine HR2.out.mono ?_
        rintro e w14 ⟨a14, c14, rfl, hb14, hs14⟩
        have HB14 : Hid (Below w.heap.size w w14) := HB13.out.trans (hb14.mono HB13.out.size)
        have HSA := hid (lsame_ok m w14 _ _ (HS13.out.under hb14) hs14)
        clear hs14 hb14 HR2 HS13 HB13
        go_simp
        go_wp2_with fail
        refine HSA.out.mono ?_
        rintro e w15 ⟨rfl, hb15⟩
        have HB15 : Hid (Below w.heap.size w w15) := HB14.out.trans (hb15.mono HB14.out.size)
        clear hb15 HSA HB14
        go_simp
        go_wp2_with fail
        refine (HEA.out w15 HB15.out).mono ?_
        rintro e w16 ⟨rfl, hb16⟩
        have HB16 : Hid (Below w.heap.size w w16) := HB15.out.trans (hb16.mono HB15.out.size)
        clear hb16
        go_simp
        go_wp2_with fail
        go_ret
        exact ⟨rfl, HB16.out⟩
      · have hbb := ne_b hbz
        have hm0 : m.length = 0 := HPN.out hbz
        rw [hm0]
        clear HPF HPN hm0 HS10
        go_simp
        go_wp2_with fail
        refine (HEA.out w10 HB10.out).mono ?_
        rintro e w11 ⟨rfl, hb11⟩
        have HB11 : Hid (Below w.heap.size w w11) := HB10.out.trans (hb11.mono HB10.out.size)
        clear hb11
        go_simp
        go_wp2_with fail
        go_ret
        exact ⟨rfl, HB11.out⟩
end Go.Proofs.YtjppcfjjpkniaaaGreatDoor
