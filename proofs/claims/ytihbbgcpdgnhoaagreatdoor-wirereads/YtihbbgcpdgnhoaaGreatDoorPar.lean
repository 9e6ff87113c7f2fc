/- types' Print, Field and Parse: their contracts; no statement is proved in this text. -/
import Derived.Test.YtihbbgcpdgnhoaaGreatDoorTxr
import Derived.Test.YtihbbgcpdgnhoaaGreatDoorRead
namespace Go.Proofs.YtihbbgcpdgnhoaaGreatDoor
open Go.ChangeShapes Go.WideShapes Go.ChangeAt Go.RowKit Go.Deep
attribute [local go_sem ↓] Go.wp_at_zero Go.wp_at_succ

set_option maxRecDepth 100000 in
set_option maxHeartbeats 3200000 in
theorem print_ok (T : Ty) (w : World) (S : Nat → Prop) (nv kv : Value) (hP : Pw w) (hR : Rd w S T nv kv) : Calls Tryz.prog 20 #[tyV T.kind T.num nv kv] w fun e w' => e = .returned (.tuple #[str (if T.err = 0 then T.txt else []), i64 T.err]) ∧ Below w.heap.size w w' := by
  have HP := hid hP
  clear hP
  obtain ⟨PT, hPT⟩ : ∃ PT, PT = if T.err = 0 then T.txt else [] := ⟨_, rfl⟩
  obtain ⟨E, hE⟩ : ∃ E, E = T.err := ⟨_, rfl⟩
  have HE := hid hE
  rw [← hPT, ← hE]
  rw [← hE] at hPT
  have HPT := hid hPT
  clear hPT hE
  have HRd := hid hR
  obtain ⟨an, cn, rfl, ak, ck, rfl⟩ := hR.form
  have HX : Hid ((w.alloc (.cells #[i64 T.kind, i64 T.num, .slice an T.names.length cn, .slice ak T.kids.length ck] 25)).heap[w.heap.size]? = some (.cells #[i64 T.kind, i64 T.num, .slice an T.names.length cn, .slice ak T.kids.length ck] 25)) := heap_last w _
  have HBV : Hid (Below w.heap.size w (w.alloc (.cells #[i64 T.kind, i64 T.num, .slice an T.names.length cn, .slice ak T.kids.length ck] 25))) := below_one w _
  clear hR
  go_enter Tryz.func20, Tryz.ntmps20
  go_upto_region 1 with fail
  obtain ⟨Z, hZ⟩ : ∃ Z, Z = w.heap.size := ⟨_, rfl⟩
  rw [← hZ] at HX ⊢
  generalize w.alloc (.cells #[i64 T.kind, i64 T.num, .slice an T.names.length cn, .slice ak T.kids.length ck] 25) = V at *
  have HZ := hid hZ
  clear hZ
  have yc0 : V.cell? ⟨Z, 0, none⟩ = some (i64 T.kind) := blk_cell HX.out 0
  have yc1 : V.cell? ⟨Z, 1, none⟩ = some (i64 T.num) := blk_cell HX.out 1
  have yc2 : V.cell? ⟨Z, 2, none⟩ = some (.slice an T.names.length cn) := blk_cell HX.out 2
  have yc3 : V.cell? ⟨Z, 3, none⟩ = some (.slice ak T.kids.length ck) := blk_cell HX.out 3
  have HCK : Hid (Calls Tryz.prog 35 #[tyV T.kind T.num (.slice an T.names.length cn) (.slice ak T.kids.length ck)] V fun e w' => e = .returned (i64 E) ∧ Below V.heap.size V w') := by show Calls _ _ _ _ _; rw [HE.out]; exact check_ok T V S _ _ (HRd.out.under (HZ.out ▸ HBV.out))
  have HTX : Hid (E = 0 → ∀ W, Below w.heap.size w W → Calls Tryz.prog 36 #[tyV T.kind T.num (.slice an T.names.length cn) (.slice ak T.kids.length ck)] W fun e w' => e = .returned (str T.txt) ∧ Below W.heap.size W w') := fun h W hW => by
    have hr := (right_err T).2 (HE.out ▸ h)
    have hc : T.count ≤ 100 := by unfold Ty.right at hr; simp only [Bool.and_eq_true, decide_eq_true_eq] at hr; exact hr.1.2
    exact textOf_ok T.count T (Nat.le_refl _) (by omega) (right_formed hr).1 W S _ _ (HP.out.below hW) (HRd.out.under hW)
  clear HE
  go_wp2_with fail
  refine HCK.out.mono ?_
  rintro e w1 ⟨rfl, hb1⟩
  have HB1 : Hid (Below w.heap.size w w1) := HBV.out.trans (hb1.mono HBV.out.size)
  have HX1 := hid (blk_below HX.out hb1)
  clear hb1 yc0 yc1 yc2 yc3
  have yc0 : w1.cell? ⟨Z, 0, none⟩ = some (i64 T.kind) := blk_cell HX1.out 0
  have yc1 : w1.cell? ⟨Z, 1, none⟩ = some (i64 T.num) := blk_cell HX1.out 1
  have yc2 : w1.cell? ⟨Z, 2, none⟩ = some (.slice an T.names.length cn) := blk_cell HX1.out 2
  have yc3 : w1.cell? ⟨Z, 3, none⟩ = some (.slice ak T.kids.length ck) := blk_cell HX1.out 3
  by_cases h0 : E = 0
  · subst h0
    have HPT2 : Hid (PT = T.txt) := by show _ = _; rw [HPT.out, if_pos rfl]
    clear HPT
    have HCA := hid (HTX.out rfl w1 HB1.out)
    go_wp2_with fail
    refine HCA.out.mono ?_
    rintro e w2 ⟨rfl, hb2⟩
    have HB2 : Hid (Below w.heap.size w w2) := HB1.out.trans (hb2.mono HB1.out.size)
    clear hb2
    go_wp2_with fail
    go_ret2
    exact ⟨by rw [HPT2.out]; rfl, HB2.out⟩
  · have hne : (E != 0) = true := by simpa using h0
    have HPT2 : Hid (PT = []) := by show _ = _; rw [HPT.out, if_neg h0]
    clear h0
    go_wp2_with fail
    go_ret2
    exact ⟨by rw [HPT2.out]; rfl, HB1.out⟩
/-- Where a field stands. -/
def fieldF (T : Ty) (x : Bs) : Int := if T.kind = 4 then Lib.idxOfS (T.names.map ba) (ba x) else -1
theorem index_ok (l : List Bs) (x : Bs) (w : World) (S : Nat → Prop) (v : Value) (h : Strs w S v l) : Calls Tryz.prog 93 #[v, str x] w fun e w' => e = .returned (i64 (Lib.idxOfS (l.map ba) (ba x))) ∧ w' = w := by
  have hl : l.length ≤ maxLen := by obtain ⟨_, _, _, h, _, _⟩ := h; exact h
  unfold maxLen at hl
  obtain ⟨ao, cap, rfl, _, hc⟩ := h.cells
  rcases hc with rfl | ⟨b, off, rfl, _, hcs⟩
  · exact Tryz.slices_Index_string_empty ao cap (ba x) w
  · have := Tryz.slices_Index_string b off l.length cap (l.map ba) (ba x) w (by simp) (by omega) (bas_cells hcs)
    rw [List.take_of_length_le (by simp)] at this
    exact this
abbrev T0 : Ty := .mk 0 0 [] []
theorem bel4 {w W : World} (h : Below w.heap.size w W) {R : Nat} (hR : w.heap.size ≤ R) (a0 a1 a2 a3 : Value) : Below w.heap.size w ((((W.setCell ⟨R, 0, none⟩ a0).setCell ⟨R, 1, none⟩ a1).setCell ⟨R, 2, none⟩ a2).setCell ⟨R, 3, none⟩ a3) :=
  (((h.setCell (p := ⟨R, 0, none⟩) hR a0).setCell (p := ⟨R, 1, none⟩) hR a1).setCell (p := ⟨R, 2, none⟩) hR a2).setCell (p := ⟨R, 3, none⟩) hR a3
/-- What Parse answers. -/
def parT (l : Bs) : Ty := (parseF l).getD T0
def parE (l : Bs) : Int := if (parseF l).isSome = true then 0 else 4
def ParOk (w : World) (l : Bs) (e : Ending) (w' : World) : Prop :=
  ∃ (a1 : Option Addr) (n1 c1 : Nat) (a2 : Option Addr) (n2 c2 : Nat), e = .returned (.tuple #[tyV (parT l).kind (parT l).num (.slice a1 n1 c1) (.slice a2 n2 c2), i64 (parE l)]) ∧ Below w.heap.size w w' ∧ Rd w' (fun b => w.heap.size ≤ b) (parT l) (.slice a1 n1 c1) (.slice a2 n2 c2)
theorem parse_4 {l : Bs} (h : parseF l = none) : parT l = T0 ∧ parE l = 4 := by unfold parT parE; rw [h]; exact ⟨rfl, rfl⟩
theorem parse_0 {l : Bs} {T : Ty} (h : parseF l = some T) : parT l = T ∧ parE l = 0 := by unfold parT parE; rw [h]; exact ⟨rfl, rfl⟩
theorem parse_no {l : Bs} (h : readP 6 l = none) : parseF l = none := by unfold parseF; rw [h]
theorem parse_more {l : Bs} {T : Ty} {r : Bs} (h : readP 6 l = some (T, r)) (hr : r ≠ []) : parseF l = none := by
  unfold parseF
  rw [h]
  cases r with
  | nil => exact absurd rfl hr
  | cons => rfl
theorem parse_bad {l : Bs} {T : Ty} (h : readP 6 l = some (T, [])) (hr : T.err ≠ 0) : parseF l = none := by
  unfold parseF
  rw [h]
  exact if_neg (fun e => hr ((right_err T).1 e))
theorem parse_good {l : Bs} {T : Ty} (h : readP 6 l = some (T, [])) (hr : T.err = 0) : parseF l = some T := by
  unfold parseF
  rw [h]
  exact if_pos ((right_err T).2 hr)
/-- What Cut asks of the world. -/
def Ml (w : World) : Prop := ∃ m, w.cell? ⟨1, 0, none⟩ = some (i64 m)
theorem Ml.below {w w' : World} (h : Ml w) (hb : Below w.heap.size w w') : Ml w' := by
  obtain ⟨m, hm⟩ := h
  exact ⟨m, by rw [hb.cell (World.block_lt_of_cell? w _ hm)]; exact hm⟩
set_option maxRecDepth 100000 in
set_option maxHeartbeats 6400000 in
theorem parse_ok (l : Bs) (w : World) (hl : l.length ≤ 1000000) (hM : Ml w) : Calls Tryz.prog 50 #[str l] w (ParOk w l) := by
  have h1lt : 1 < w.heap.size := by obtain ⟨m, hm⟩ := hM; exact World.block_lt_of_cell? w _ hm
  have HM := hid hM
  have HR0 : Hid ((w.alloc zT).heap[w.heap.size]? = some zT) := heap_last w _
  have HB0 : Hid (Below w.heap.size w (w.alloc zT)) := below_one w _
  clear hM
  go_enter Tryz.func50, Tryz.ntmps50
  go_upto_region 1 with fail
  obtain ⟨R, hR⟩ : ∃ R, R = w.heap.size := ⟨_, rfl⟩
  rw [← hR] at HR0 ⊢
  have HRe : Hid (w.heap.size ≤ R) := by show _ ≤ _; omega
  clear hR
  generalize w.alloc zT = V at *
  have HQ0 : Hid ((V.alloc (.cells #[str l] 133)).heap[V.heap.size]? = some (.cells #[str l] 133)) := heap_last V _
  have HR1 : Hid ((V.alloc (.cells #[str l] 133)).heap[R]? = some zT) := blk_alloc HR0.out _
  have HB1 : Hid (Below w.heap.size w (V.alloc (.cells #[str l] 133))) := HB0.out.trans ((below_one V _).mono HB0.out.size)
  have HRV := hid (blk_lt HR0.out)
  go_upto_region 2 with fail
  obtain ⟨q, hq⟩ : ∃ q, q = V.heap.size := ⟨_, rfl⟩
  rw [← hq] at HQ0 HRV ⊢
  have HQe : Hid (w.heap.size ≤ q) := by show _ ≤ _; have := HB0.out.size; omega
  clear hq
  have HRq : Hid (R ≠ q) := by show R ≠ q; have := HRV.out; omega
  generalize V.alloc (.cells #[str l] 133) = U at *
  have HMx : Hid (Mx U q) := ⟨by have := HQe.out; omega, HM.out.below HB1.out⟩
  have HCA : Hid (Calls Tryz.prog 71 #[pq q, i64 1] U (Rok U q l.length (readP 6 l))) := by
    have h7 := read_ok 6 (by omega) U q l HQ0.out hl HMx.out
    have e7 : (7 : Int) - ((6 : Nat) : Int) = 1 := by decide
    rw [e7] at h7
    exact h7
  generalize hres : readP 6 l = res at *
  have HRes := hid hres
  clear hres
  go_wp2_with fail
  refine HCA.out.mono ?_
  rintro e w3 ⟨k1, m1, a1, n1, c1, a2, n2, c2, l3, rfl, hq3, hl3, ht3, hf3⟩
  have HQ3 := hid hq3
  have HR3 : Hid (w3.heap[R]? = some zT) := by show _ = _; rw [ht3.block R (blk_lt HR1.out) HRq.out]; exact HR1.out
  have HB3 : Hid (Below w.heap.size w w3) := HB1.out.trans (ht3.below HQe.out HB1.out.size)
  have HF3 : Hid (∀ T r, res = some (T, r) → l3 = r ∧ k1 = T.kind ∧ m1 = T.num ∧ Rd w3 (fun b => U.heap.size ≤ b) T (.slice a1 n1 c1) (.slice a2 n2 c2)) := hf3
  have HBK : Hid (Below w3.heap.size w3 (w3.alloc (.cells #[i64 k1, i64 m1, .slice a1 n1 c1, .slice a2 n2 c2] 25))) := below_one w3 _
  have HKX : Hid ((w3.alloc (.cells #[i64 k1, i64 m1, .slice a1 n1 c1, .slice a2 n2 c2] 25)).heap[w3.heap.size]? = some (.cells #[i64 k1, i64 m1, .slice a1 n1 c1, .slice a2 n2 c2] 25)) := heap_last w3 _
  have HRU := hid (blk_lt HR1.out)
  clear hq3 hl3 ht3 hf3 HCA
  go_upto_region 3 with fail
  obtain ⟨Kb, hKb⟩ : ∃ Kb, Kb = w3.heap.size := ⟨_, rfl⟩
  have HKR : Hid (Kb ≠ R) := by show Kb ≠ R; have := blk_lt HR3.out; omega
  rw [← hKb] at HKX ⊢
  clear hKb
  have HRX : Hid ((w3.alloc (.cells #[i64 k1, i64 m1, .slice a1 n1 c1, .slice a2 n2 c2] 25)).heap[R]? = some zT) := blk_below HR3.out HBK.out
  have HQX : Hid ((w3.alloc (.cells #[i64 k1, i64 m1, .slice a1 n1 c1, .slice a2 n2 c2] 25)).heap[q]? = some (.cells #[str l3] 133)) := blk_below HQ3.out HBK.out
  have HBX : Hid (Below w.heap.size w (w3.alloc (.cells #[i64 k1, i64 m1, .slice a1 n1 c1, .slice a2 n2 c2] 25))) := HB3.out.trans (HBK.out.mono HB3.out.size)
  have HFX : Hid (∀ T r, res = some (T, r) → l3 = r ∧ k1 = T.kind ∧ m1 = T.num ∧ Rd (w3.alloc (.cells #[i64 k1, i64 m1, .slice a1 n1 c1, .slice a2 n2 c2] 25)) (fun b => U.heap.size ≤ b) T (.slice a1 n1 c1) (.slice a2 n2 c2)) := fun T r h => by
    obtain ⟨g1, g2, g3, g4⟩ := HF3.out T r h
    exact ⟨g1, g2, g3, g4.under HBK.out⟩
  clear HF3 HBK
  generalize w3.alloc (.cells #[i64 k1, i64 m1, .slice a1 n1 c1, .slice a2 n2 c2] 25) = X at *
  have rc0 : X.cell? ⟨R, 0, none⟩ = some (i64 0) := blk_cell HRX.out 0
  have rf0 : X.frozen? ⟨R, 0, none⟩ = false := blk_frozen HRX.out 0
  have rc1 : X.cell? ⟨R, 1, none⟩ = some (i64 0) := blk_cell HRX.out 1
  have rf1 : X.frozen? ⟨R, 1, none⟩ = false := blk_frozen HRX.out 1
  have rc2 : X.cell? ⟨R, 2, none⟩ = some (.slice none 0 0) := blk_cell HRX.out 2
  have rf2 : X.frozen? ⟨R, 2, none⟩ = false := blk_frozen HRX.out 2
  have rc3 : X.cell? ⟨R, 3, none⟩ = some (.slice none 0 0) := blk_cell HRX.out 3
  have rf3 : X.frozen? ⟨R, 3, none⟩ = false := blk_frozen HRX.out 3
  have kc0 : X.cell? ⟨Kb, 0, none⟩ = some (i64 k1) := blk_cell HKX.out 0
  have kc1 : X.cell? ⟨Kb, 1, none⟩ = some (i64 m1) := blk_cell HKX.out 1
  have kc2 : X.cell? ⟨Kb, 2, none⟩ = some (.slice a1 n1 c1) := blk_cell HKX.out 2
  have kc3 : X.cell? ⟨Kb, 3, none⟩ = some (.slice a2 n2 c2) := blk_cell HKX.out 3
  have hqc : X.cell? ⟨q, 0, none⟩ = some (str l3) := blk_cell HQX.out 0
  cases res with
  | none =>
    have H4 := hid (parse_4 (parse_no HRes.out))
    go_wp2_with fail
    refine bodyPost_ret (v := .tuple #[tyV 0 0 (.slice none 0 0) (.slice none 0 0), i64 4]) (results_cell Tryz.results50 rfl rfl (load25 (set4 HRX.out _ _ _ _))) rfl ?_
    refine ⟨none, 0, 0, none, 0, 0, ?_, (bel4 HBX.out HRe.out _ _ _ _), ?_⟩
    · rw [H4.out.1, H4.out.2]; rfl
    · rw [H4.out.1]; exact Rd.leaf _ _ _ _
  | some x =>
    obtain ⟨T, rr⟩ := x
    obtain ⟨g1, g2, g3, g4⟩ := HFX.out T rr rfl
    subst g1
    subst g2 g3
    have HRT := hid g4
    clear g4
    by_cases hl3 : l3 = []
    · subst hl3
      have HCK := hid (check_ok T X _ _ _ HRT.out)
      have HG := hid (parse_good HRes.out)
      have HBd := hid (parse_bad HRes.out)
      generalize hE : T.err = E at *
      clear hE
      go_wp2_with fail
      refine HCK.out.mono ?_
      rintro e w5 ⟨rfl, hb5⟩
      have HB5 : Hid (Below w.heap.size w w5) := HBX.out.trans (hb5.mono HBX.out.size)
      have HR5 : Hid (w5.heap[R]? = some zT) := blk_below HRX.out hb5
      have HK5 := hid (blk_below HKX.out hb5)
      have HT5 := hid (HRT.out.under hb5)
      clear hb5 rc0 rc1 rc2 rc3 rf0 rf1 rf2 rf3 kc0 kc1 kc2 kc3 hqc
      have rc0 : w5.cell? ⟨R, 0, none⟩ = some (i64 0) := blk_cell HR5.out 0
      have rf0 : w5.frozen? ⟨R, 0, none⟩ = false := blk_frozen HR5.out 0
      have rc1 : w5.cell? ⟨R, 1, none⟩ = some (i64 0) := blk_cell HR5.out 1
      have rf1 : w5.frozen? ⟨R, 1, none⟩ = false := blk_frozen HR5.out 1
      have rc2 : w5.cell? ⟨R, 2, none⟩ = some (.slice none 0 0) := blk_cell HR5.out 2
      have rf2 : w5.frozen? ⟨R, 2, none⟩ = false := blk_frozen HR5.out 2
      have rc3 : w5.cell? ⟨R, 3, none⟩ = some (.slice none 0 0) := blk_cell HR5.out 3
      have rf3 : w5.frozen? ⟨R, 3, none⟩ = false := blk_frozen HR5.out 3
      have kc0 : w5.cell? ⟨Kb, 0, none⟩ = some (i64 T.kind) := blk_cell HK5.out 0
      have kc1 : w5.cell? ⟨Kb, 1, none⟩ = some (i64 T.num) := blk_cell HK5.out 1
      have kc2 : w5.cell? ⟨Kb, 2, none⟩ = some (.slice a1 n1 c1) := blk_cell HK5.out 2
      have kc3 : w5.cell? ⟨Kb, 3, none⟩ = some (.slice a2 n2 c2) := blk_cell HK5.out 3
      by_cases h0 : E = 0
      · subst h0
        have H0 := hid (parse_0 (HG.out rfl))
        go_wp2_with fail
        refine bodyPost_ret (v := .tuple #[tyV T.kind T.num (.slice a1 n1 c1) (.slice a2 n2 c2), i64 0]) (results_cell Tryz.results50 rfl rfl (load25 (set4 HR5.out _ _ _ _))) rfl ?_
        refine ⟨a1, n1, c1, a2, n2, c2, ?_, (bel4 HB5.out HRe.out _ _ _ _), ?_⟩
        · rw [H0.out.1, H0.out.2]
        · rw [H0.out.1]; exact HT5.out.set4 HRU.out HB1.out.size _ _ _ _
      · have hne : (E != 0) = true := by simpa using h0
        have H4 := hid (parse_4 (HBd.out h0))
        clear h0
        go_wp2_with fail
        refine bodyPost_ret (v := .tuple #[tyV 0 0 (.slice none 0 0) (.slice none 0 0), i64 4]) (results_cell Tryz.results50 rfl rfl (load25 (set4 HR5.out _ _ _ _))) rfl ?_
        refine ⟨none, 0, 0, none, 0, 0, ?_, (bel4 HB5.out HRe.out _ _ _ _), ?_⟩
        · rw [H4.out.1, H4.out.2]; rfl
        · rw [H4.out.1]; exact Rd.leaf _ _ _ _
    · have H4 := hid (parse_4 (parse_more HRes.out hl3))
      have hne : (l3 != []) = true := by simpa using hl3
      have hne2 : (l3 == []) = false := by simpa using hl3
      have hl3H := hid hl3
      clear hl3
      go_wp2_with fail
      refine bodyPost_ret (v := .tuple #[tyV 0 0 (.slice none 0 0) (.slice none 0 0), i64 4]) (results_cell Tryz.results50 rfl rfl (load25 (set4 HRX.out _ _ _ _))) rfl ?_
      refine ⟨none, 0, 0, none, 0, 0, ?_, (bel4 HBX.out HRe.out _ _ _ _), ?_⟩
      · rw [H4.out.1, H4.out.2]; rfl
      · rw [H4.out.1]; exact Rd.leaf _ _ _ _
end Go.Proofs.YtihbbgcpdgnhoaaGreatDoor
