/- Bytes, Size; no statement is proved in this text. -/
import Derived.Test.YtihbbgcpdgnhoaaGreatDoorW3
namespace Go.Proofs.YtihbbgcpdgnhoaaGreatDoor
open Go.ChangeShapes Go.WideShapes Go.ChangeAt Go.RowKit Go.Deep
attribute [local go_sem ↓] Go.wp_at_zero Go.wp_at_succ
set_option maxRecDepth 100000


def stE (v : Int) (T : Ty) (V : Vl) : Int := if v < 0 ∨ 255 < v then 1 else if fitsB V T = true then (if 6000 < 5 + T.txt.length + (wrtV V T).length then 2 else 0) else 4
def stO (v : Int) (T : Ty) (V : Vl) : Bs := if stE v T V = 0 then stB v.toNat T V else []
abbrev stV (v : Int) (T : Ty) (V : Vl) (nv tv kv : Value) : Value := .agg #[i64 v, i64 T.kind, i64 T.num, nv, tv, i64 V.kind, i64 V.num, str V.s, kv]
abbrev stC (v : Int) (T : Ty) (V : Vl) (nv tv kv : Value) : Obj := .cells #[i64 v, i64 T.kind, i64 T.num, nv, tv, i64 V.kind, i64 V.num, str V.s, kv] 30
theorem ba_str (a b : Bs) : Value.string ((⟨a.toArray⟩ : ByteArray) ++ (⟨b.toArray⟩ : ByteArray)) = str (a ++ b) := by rw [ba_append]
set_option maxHeartbeats 3200000 in
theorem bytes8_arg (v : Int) (T : Ty) (V : Vl) (w : World) (an at_ ka : Option Addr) (ln cn lt_ ct lk kc : Nat) (hv : v < 0 ∨ 255 < v) : Calls Tryz.prog 8 #[stV v T V (.slice an ln cn) (.slice at_ lt_ ct) (.slice ka lk kc)] w fun e w' => e = .returned (.tuple #[str [], i64 1]) ∧ Below w.heap.size w w' := by
  have HB := hid (below_one w (stC v T V (.slice an ln cn) (.slice at_ lt_ ct) (.slice ka lk kc)))
  rcases hv with h | h
  · go_enter Tryz.func8, Tryz.ntmps8
    go_wp2_with fail
    go_ret2
    exact ⟨rfl, HB.out⟩
  · have h0 : ¬ v < 0 := by omega
    go_enter Tryz.func8, Tryz.ntmps8
    go_wp2_with fail
    go_ret2
    exact ⟨rfl, HB.out⟩
theorem stO_eq (n : Nat) (T : Ty) (V : Vl) : [105, 109] ++ tb n 1 ++ tb T.txt.length 2 ++ T.txt ++ wrtV V T = stB n T V := by
  unfold stB
  simp [List.append_assoc]
theorem txt_3200 {T : Ty} (h : T.err = 0) : T.txt.length ≤ 3200 := by
  have h1 := right_of_err h
  unfold Ty.right at h1
  simp only [Bool.and_eq_true, decide_eq_true_eq] at h1
  have := txt_le T.count T (Nat.le_refl _) h1.2
  omega
set_option maxHeartbeats 3200000 in
theorem bytes8_ok (n : Nat) (T : Ty) (V : Vl) (w : World) (S S' : Nat → Prop) (kv nv tv : Value) (hV : Vd w S V kv) (hR : Rd w S' T nv tv) (hP : Pw w) (hsz : V.size ≤ 3000) (hn : n < 256) : Calls Tryz.prog 8 #[stV (n : Nat) T V nv tv kv] w fun e w' => e = .returned (.tuple #[str (stO n T V), i64 (stE n T V)]) ∧ Below w.heap.size w w' := by
  obtain ⟨ka, kc, rfl⟩ := hV.form
  obtain ⟨an, cn, rfl, at_, ct, rfl⟩ := hR.form
  have hb0 := below_one w (stC n T V (.slice an T.names.length cn) (.slice at_ T.kids.length ct) (.slice ka V.kids.length kc))
  have HB0 := hid hb0
  have HX := hid (heap_last w (stC n T V (.slice an T.names.length cn) (.slice at_ T.kids.length ct) (.slice ka V.kids.length kc)))
  have HC := hid (body_ok V T _ S S' _ _ _ (hV.under hb0) (hR.under hb0) hsz)
  have HPr := hid fun W hb => print_ok T W S' _ _ (hP.below (w' := W) hb) (hR.under hb)
  unfold bodB bodE at HC
  have hE : stE n T V = if fitsB V T = true then (if 6000 < 5 + T.txt.length + (wrtV V T).length then 2 else 0) else 4 := by unfold stE; rw [if_neg (by omega)]
  unfold stO
  rw [Int.toNat_natCast]
  have h0 : ¬ ((n : Int) < 0) := by omega
  have h1 : ¬ (255 < (n : Int)) := by omega
  rw [hE]
  clear hb0 hV hR hP hE
  cases hf : fitsB V T
  · rw [hf, if_neg (by decide), if_neg (by decide)] at HC
    rw [show (if (false = true) then (if 6000 < 5 + T.txt.length + (wrtV V T).length then (2 : Int) else 0) else 4) = 4 from rfl, if_neg (by decide)]
    clear hf
    go_enter Tryz.func8, Tryz.ntmps8
    go_wp2_with fail
    refine HC.out.mono ?_
    rintro e w1 ⟨rfl, hb1⟩
    have HB1 : Hid (Below w.heap.size w w1) := HB0.out.trans (hb1.mono HB0.out.size)
    clear hb1
    go_wp2_with fail
    go_ret2
    exact ⟨rfl, HB1.out⟩
  · rw [hf] at HC
    obtain ⟨hTe, hfit⟩ := (fitsB_iff V T).1 hf
    have hle := wrtV_le V T (err_formed hTe) hfit
    have hlt := txt_3200 hTe
    have hEq := stO_eq n T V
    rw [if_pos rfl, if_pos rfl] at HC
    rw [if_pos rfl]
    rw [if_pos hTe, hTe] at HPr
    generalize hO : stB n T V = O at *
    generalize wrtV V T = D at *
    generalize T.txt = X at *
    have hsX : (⟨X.toArray⟩ : ByteArray).size = X.length := by show X.toArray.size = _; simp
    have hsD : (⟨D.toArray⟩ : ByteArray).size = D.length := by show D.toArray.size = _; simp
    clear hf hTe hfit hO
    by_cases hlong : 6000 < 5 + X.length + D.length
    · rw [if_pos hlong]
      have hI : (6000 : Int) < 5 + X.length + D.length := by omega
      go_enter Tryz.func8, Tryz.ntmps8
      go_wp2_with fail
      refine HC.out.mono ?_
      rintro e w1 ⟨rfl, hb1⟩
      have HB1 : Hid (Below w.heap.size w w1) := HB0.out.trans (hb1.mono HB0.out.size)
      have HX1 := hid (blk_below HX.out hb1)
      have x1 := blk_cell HX1.out 1
      have x2 := blk_cell HX1.out 2
      have x3 := blk_cell HX1.out 3
      have x4 := blk_cell HX1.out 4
      have HD := hid (HPr.out w1 HB1.out)
      clear hb1 HC HPr
      go_wp2_with fail
      refine HD.out.mono ?_
      rintro e w2 ⟨rfl, hb2⟩
      have HB2 : Hid (Below w.heap.size w w2) := HB1.out.trans (hb2.mono HB1.out.size)
      clear hb2 HD x1 x2 x3 x4
      go_wp2_with fail
      go_ret2
      exact ⟨rfl, HB2.out⟩
    · rw [if_neg hlong, if_pos rfl]
      have hI : ¬ (6000 : Int) < 5 + X.length + D.length := by omega
      have HEq := hid hEq
      have hs1 : (⟨(tb n 1).toArray⟩ : ByteArray).size = 1 := by show (tb n 1).toArray.size = _; simp [tb_len]
      have hs2 : (⟨(tb X.length 2).toArray⟩ : ByteArray).size = 2 := by show (tb X.length 2).toArray.size = _; simp [tb_len]
      have hs0 : (⟨#[105, 109]⟩ : ByteArray).size = 2 := rfl
      go_enter Tryz.func8, Tryz.ntmps8
      go_wp2_with fail
      refine HC.out.mono ?_
      rintro e w1 ⟨rfl, hb1⟩
      have HB1 : Hid (Below w.heap.size w w1) := HB0.out.trans (hb1.mono HB0.out.size)
      have HX1 := hid (blk_below HX.out hb1)
      have x1 := blk_cell HX1.out 1
      have x2 := blk_cell HX1.out 2
      have x3 := blk_cell HX1.out 3
      have x4 := blk_cell HX1.out 4
      have HD := hid (HPr.out w1 HB1.out)
      clear hb1 HC HPr hEq
      go_wp2_with fail
      refine HD.out.mono ?_
      rintro e w2 ⟨rfl, hb2⟩
      have HB2 : Hid (Below w.heap.size w w2) := HB1.out.trans (hb2.mono HB1.out.size)
      have x0 := blk_cell (blk_below HX1.out hb2) 0
      have HV1 := hid (written_ok w2 n 1 (by omega) (by omega) (by show n < 256; exact hn))
      clear hb2 HD x1 x2 x3 x4
      go_wp2_with fail
      refine HV1.out.mono ?_
      rintro e w3 ⟨rfl, hb3⟩
      have HB3 : Hid (Below w.heap.size w w3) := HB2.out.trans (hb3.mono HB2.out.size)
      have HV2 := hid (written_ok w3 X.length 2 (by omega) (by omega) (by show X.length < 65536; omega))
      clear hb3 HV1 x0
      go_wp2_with fail
      refine HV2.out.mono ?_
      rintro e w4 ⟨rfl, hb4⟩
      have HB4 : Hid (Below w.heap.size w w4) := HB3.out.trans (hb4.mono HB3.out.size)
      clear hb4 HV2
      go_wp2_with fail
      go_ret2
      refine ⟨?_, HB4.out⟩
      rw [← HEq.out]
      show Ending.returned (.tuple #[Value.string ((((⟨#[105, 109]⟩ : ByteArray) ++ ⟨(tb n 1).toArray⟩) ++ ⟨(tb X.length 2).toArray⟩) ++ ⟨X.toArray⟩ ++ ⟨D.toArray⟩), i64 0]) = _
      rw [show (⟨#[105, 109]⟩ : ByteArray) = ⟨([105, 109] : Bs).toArray⟩ from rfl, ba_append, ba_append, ba_append, ba_append]
set_option maxHeartbeats 3200000 in
theorem size_ok (n : Nat) (T : Ty) (V : Vl) (w : World) (S S' : Nat → Prop) (kv nv tv : Value) (hV : Vd w S V kv) (hR : Rd w S' T nv tv) (hP : Pw w) (hsz : V.size ≤ 3000) (hn : n < 256) : Calls Tryz.prog 10 #[stV (n : Nat) T V nv tv kv] w fun e w' => e = .returned (.tuple #[i64 ((stO n T V).length : Nat), i64 (stE n T V)]) ∧ Below w.heap.size w w' := by
  have hV0 := hV
  have hR0 := hR
  obtain ⟨ka, kc, rfl⟩ := hV.form
  obtain ⟨an, cn, rfl, at_, ct, rfl⟩ := hR.form
  have hb0 := below_one w (stC n T V (.slice an T.names.length cn) (.slice at_ T.kids.length ct) (.slice ka V.kids.length kc))
  have HB0 := hid hb0
  have HC := hid (bytes8_ok n T V _ S S' _ _ _ (hV.under hb0) (hR.under hb0) (hP.below hb0) hsz hn)
  generalize stO n T V = O at *
  generalize stE n T V = E at *
  have hsO : (⟨O.toArray⟩ : ByteArray).size = O.length := by show O.toArray.size = _; simp
  clear hb0 hV hR hP hV0 hR0
  go_enter Tryz.func10, Tryz.ntmps10
  go_wp2_with fail
  refine HC.out.mono ?_
  rintro e w1 ⟨rfl, hb1⟩
  have HB1 : Hid (Below w.heap.size w w1) := HB0.out.trans (hb1.mono HB0.out.size)
  clear hb1
  go_wp2_with fail
  go_ret2
  exact ⟨rfl, HB1.out⟩
end Go.Proofs.YtihbbgcpdgnhoaaGreatDoor
