/- TypesPrints' walk; no statement is proved in this text. -/
import Derived.Test.YteecjilknembdaaDoorLaid
import Derived.Test.YteecjilknembdaaDoorRf
import Derived.Test.YteecjilknembdaaDoorPl4
import Derived.Test.YteecjilknembdaaDoorLg2
namespace Go.Proofs.YteecjilknembdaaDoor
open Go.ChangeShapes Go.WideShapes Go.ChangeAt Go.RowKit Go.Deep
attribute [local go_sem ↓] Go.wp_at_zero Go.wp_at_succ

set_option maxRecDepth 100000 in
set_option maxHeartbeats 12800000 in
theorem prints_walk (w : World) (hE : Env w) (T : Ty) (nv kv : Value) (hR : Rd w (fun _ => True) T nv kv) : Calls Tryd.prog 3 #[tyV T.kind T.num nv kv] w fun e w' => e = .returned (.bool true) ∧ Below w.heap.size w w' := by
  have HE := hid hE
  have HPID : Hid (∀ W, Below w.heap.size w W → Calls Tryd.prog 9 #[] W fun e w' => e = .returned (.bool true) ∧ Below W.heap.size W w') := fun W hW => pid_ok W (hE.below hW)
  have HRd := hid hR
  obtain ⟨an, cn, rfl, ak, ck, rfl⟩ := hR.form
  have HX : Hid ((w.alloc (.cells #[i64 T.kind, i64 T.num, .slice an T.names.length cn, .slice ak T.kids.length ck] 25)).heap[w.heap.size]? = some (.cells #[i64 T.kind, i64 T.num, .slice an T.names.length cn, .slice ak T.kids.length ck] 25)) := heap_last w _
  have HBV : Hid (Below w.heap.size w (w.alloc (.cells #[i64 T.kind, i64 T.num, .slice an T.names.length cn, .slice ak T.kids.length ck] 25))) := below_one w _
  clear hR hE
  go_enter Tryd.func3, Tryd.ntmps3
  go_upto_region 1 with fail
  obtain ⟨Z, hZ⟩ : ∃ Z, Z = w.heap.size := ⟨_, rfl⟩
  have HZw : Hid (w.heap.size ≤ Z) := by show _ ≤ _; omega
  rw [← hZ] at HX ⊢
  clear hZ
  generalize w.alloc (.cells #[i64 T.kind, i64 T.num, .slice an T.names.length cn, .slice ak T.kids.length ck] 25) = V at *
  have yc0 : V.cell? ⟨Z, 0, none⟩ = some (i64 T.kind) := blk_cell HX.out 0
  have yc1 : V.cell? ⟨Z, 1, none⟩ = some (i64 T.num) := blk_cell HX.out 1
  have yc2 : V.cell? ⟨Z, 2, none⟩ = some (.slice an T.names.length cn) := blk_cell HX.out 2
  have yc3 : V.cell? ⟨Z, 3, none⟩ = some (.slice ak T.kids.length ck) := blk_cell HX.out 3
  have HQ : Hid ((V.alloc (.cells #[i64 200] 29)).heap[V.heap.size]? = some (.cells #[i64 200] 29)) := heap_last V _
  have HBU : Hid (Below w.heap.size w (V.alloc (.cells #[i64 200] 29))) := HBV.out.trans ((below_one V _).mono HBV.out.size)
  have HXU : Hid ((V.alloc (.cells #[i64 200] 29)).heap[Z]? = some (.cells #[i64 T.kind, i64 T.num, .slice an T.names.length cn, .slice ak T.kids.length ck] 25)) := blk_alloc HX.out _
  have HLG : Hid (Calls Tryd.prog 8 #[tyV T.kind T.num (.slice an T.names.length cn) (.slice ak T.kids.length ck), pq V.heap.size, i64 1] (V.alloc (.cells #[i64 200] 29)) (LgOk2 (V.alloc (.cells #[i64 200] 29)) V.heap.size 200 T)) :=
    large2_ok T.count T (Nat.le_refl _) _ _ _ _ 200 1 ((HRd.out.mono (S' := fun b => b ≠ V.heap.size) (fun b _ hb => by have := HBV.out.size; omega)).move HBU.out.size (fun b hb hlt => ⟨hb, HBU.out.block b hlt⟩)) HQ.out (by omega) (by omega) (by omega) (by omega)
  have hZV : Z < V.heap.size := blk_lt HX.out
  have hVw : w.heap.size ≤ V.heap.size := HBV.out.size
  go_wp2_with fail
  refine HLG.out.mono ?_
  rintro e w2 ⟨b0, m', rfl, _, ht2, hf2⟩
  have HB2 : Hid (Below w.heap.size w w2) := HBU.out.trans (ht2.below hVw HBU.out.size)
  have HX2 : Hid (w2.heap[Z]? = some (.cells #[i64 T.kind, i64 T.num, .slice an T.names.length cn, .slice ak T.kids.length ck] 25)) := by show _ = _; rw [ht2.block Z (blk_lt HXU.out) (by omega)]; exact HXU.out
  have HF2 : Hid (b0 = false → T.count ≤ 200 ∧ T.small = true) := fun h => by have := hf2 h; exact ⟨by omega, this.2.2⟩
  clear ht2 hf2 HLG yc0 yc1 yc2 yc3 hZV hVw HBV HBU HXU HQ
  have yc0 : w2.cell? ⟨Z, 0, none⟩ = some (i64 T.kind) := blk_cell HX2.out 0
  have yc1 : w2.cell? ⟨Z, 1, none⟩ = some (i64 T.num) := blk_cell HX2.out 1
  have yc2 : w2.cell? ⟨Z, 2, none⟩ = some (.slice an T.names.length cn) := blk_cell HX2.out 2
  have yc3 : w2.cell? ⟨Z, 3, none⟩ = some (.slice ak T.kids.length ck) := blk_cell HX2.out 3
  cases b0 with
  | true =>
    go_wp2_with fail
    refine (HPID.out w2 HB2.out).mono ?_
    rintro e w9 ⟨rfl, hb9⟩
    have HB9 : Hid (Below w.heap.size w w9) := HB2.out.trans (hb9.mono HB2.out.size)
    clear hb9
    go_wp2_with fail
    go_ret
    exact ⟨rfl, HB9.out⟩
  | false =>
    obtain ⟨hcnt, hsm⟩ := HF2.out rfl
    have HSM := hid hsm
    clear hsm
    have HRlo : Hid (∀ W, Below w.heap.size w W → Rd W (fun b => b < w.heap.size) T (.slice an T.names.length cn) (.slice ak T.kids.length ck)) := fun W hW => (HRd.out.mono (S' := fun b => b < w.heap.size) (fun b _ hb => hb)).under hW
    have HRF : Hid (∀ W, Below w.heap.size w W → Calls Tryd.prog 12 #[tyV T.kind T.num (.slice an T.names.length cn) (.slice ak T.kids.length ck)] W fun e w' => ∃ a n c, e = .returned (tyV T.kind T.num (.slice an T.names.length cn) (.slice a n c)) ∧ Below W.heap.size W w' ∧ Rd w' (fun b => b < w.heap.size ∨ W.heap.size ≤ b) T (.slice an T.names.length cn) (.slice a n c)) := fun W hW => ref_ok T.count T (Nat.le_refl _) (by omega) w.heap.size W _ _ hW.size (HRlo.out W hW)
    obtain ⟨PT, hPT⟩ : ∃ PT, PT = if T.err = 0 then T.txt else [] := ⟨_, rfl⟩
    have HPT := hid hPT
    have HPR : Hid (Calls Tryd.prog 10 #[tyV T.kind T.num (.slice an T.names.length cn) (.slice ak T.kids.length ck)] w2 fun e w' => e = .returned (.tuple #[str PT, i64 T.err]) ∧ Below w2.heap.size w2 w') := by show Calls _ _ _ _ _; rw [hPT]; exact print_ok T w2 _ _ _ (HE.out.below HB2.out).pw (HRd.out.under HB2.out)
    clear hPT
    go_wp2_with fail
    refine HPR.out.mono ?_
    rintro e w3 ⟨rfl, hb3⟩
    have HB3 : Hid (Below w.heap.size w w3) := HB2.out.trans (hb3.mono HB2.out.size)
    have HX3 := hid (blk_below HX2.out hb3)
    clear hb3 yc0 yc1 yc2 yc3 HPR
    have yc0 : w3.cell? ⟨Z, 0, none⟩ = some (i64 T.kind) := blk_cell HX3.out 0
    have yc1 : w3.cell? ⟨Z, 1, none⟩ = some (i64 T.num) := blk_cell HX3.out 1
    have yc2 : w3.cell? ⟨Z, 2, none⟩ = some (.slice an T.names.length cn) := blk_cell HX3.out 2
    have yc3 : w3.cell? ⟨Z, 3, none⟩ = some (.slice ak T.kids.length ck) := blk_cell HX3.out 3
    have HC4 := hid (HRF.out w3 HB3.out)
    go_wp2_with fail
    refine HC4.out.mono ?_
    rintro e w4 ⟨a4, n4, c4, rfl, hb4, hr4⟩
    have HB4 : Hid (Below w.heap.size w w4) := HB3.out.trans (hb4.mono HB3.out.size)
    have HX4 := hid (blk_below HX3.out hb4)
    have HC5 := hid (rcheck_ok T w4 _ _ _ hr4 (by omega) HSM.out)
    clear hb4 hr4 yc0 yc1 yc2 yc3 HC4
    go_wp2_with fail
    refine HC5.out.mono ?_
    rintro e w5 ⟨rfl, hb5⟩
    have HB5 : Hid (Below w.heap.size w w5) := HB4.out.trans (hb5.mono HB4.out.size)
    have HX5 := hid (blk_below HX4.out hb5)
    have HC6 := hid (check_ok T w5 _ _ _ (HRd.out.under HB5.out))
    clear hb5 HC5
    have yc0 : w5.cell? ⟨Z, 0, none⟩ = some (i64 T.kind) := blk_cell HX5.out 0
    have yc1 : w5.cell? ⟨Z, 1, none⟩ = some (i64 T.num) := blk_cell HX5.out 1
    have yc2 : w5.cell? ⟨Z, 2, none⟩ = some (.slice an T.names.length cn) := blk_cell HX5.out 2
    have yc3 : w5.cell? ⟨Z, 3, none⟩ = some (.slice ak T.kids.length ck) := blk_cell HX5.out 3
    have hneE : (T.err != T.err) = false := by simp
    go_wp2_with fail
    refine HC6.out.mono ?_
    rintro e w6 ⟨rfl, hb6⟩
    have HB6 : Hid (Below w.heap.size w w6) := HB5.out.trans (hb6.mono HB5.out.size)
    have HX6 := hid (blk_below HX5.out hb6)
    clear hb6 yc0 yc1 yc2 yc3 HC6
    have yc0 : w6.cell? ⟨Z, 0, none⟩ = some (i64 T.kind) := blk_cell HX6.out 0
    have yc1 : w6.cell? ⟨Z, 1, none⟩ = some (i64 T.num) := blk_cell HX6.out 1
    have yc2 : w6.cell? ⟨Z, 2, none⟩ = some (.slice an T.names.length cn) := blk_cell HX6.out 2
    have yc3 : w6.cell? ⟨Z, 3, none⟩ = some (.slice ak T.kids.length ck) := blk_cell HX6.out 3
    by_cases h0 : T.err = 0
    · have hr := (right_err T).2 h0
      have HFm := hid (right_formed hr).1
      have HC7 := hid (HRF.out w6 HB6.out)
      have hp : PT = T.txt := by rw [HPT.out, if_pos h0]
      subst hp
      rw [h0]
      have H0 := hid h0
      clear h0 hr hneE
      go_wp2_with fail
      refine HC7.out.mono ?_
      rintro e w7 ⟨a7, n7, c7, rfl, hb7, hr7⟩
      have HB7 : Hid (Below w.heap.size w w7) := HB6.out.trans (hb7.mono HB6.out.size)
      have HC8 := hid (plain_ok T.count T (Nat.le_refl _) (by omega) HFm.out w7 _ _ _ hr7)
      clear hb7 hr7 HC7
      go_wp2_with fail
      refine HC8.out.mono ?_
      rintro e w8 ⟨rfl, hb8⟩
      have HB8 : Hid (Below w.heap.size w w8) := HB7.out.trans (hb8.mono HB7.out.size)
      clear hb8
      go_wp2_with fail
      refine (HPID.out w8 HB8.out).mono ?_
      rintro e w9 ⟨rfl, hb9⟩
      have HB9 : Hid (Below w.heap.size w w9) := HB8.out.trans (hb9.mono HB8.out.size)
      clear hb9
      go_wp2_with fail
      go_ret
      exact ⟨rfl, HB9.out⟩
    · have hne0 : (T.err != 0) = true := by simpa using h0
      have hp : PT = [] := by rw [HPT.out, if_neg h0]
      subst hp
      have H0 := hid h0
      clear h0
      go_wp2_with fail
      refine (HPID.out w6 HB6.out).mono ?_
      rintro e w9 ⟨rfl, hb9⟩
      have HB9 : Hid (Below w.heap.size w w9) := HB6.out.trans (hb9.mono HB6.out.size)
      clear hb9
      go_wp2_with fail
      go_ret
      exact ⟨rfl, HB9.out⟩
end Go.Proofs.YteecjilknembdaaDoor
