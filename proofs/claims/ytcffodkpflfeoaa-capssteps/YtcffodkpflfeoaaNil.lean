/- imagoref09.Right, and CapsNil's walk; no statement is proved in this text. -/
import Derived.Test.YtcffodkpflfeoaaTwo
namespace Go.Proofs.Ytcffodkpflfeoaa
open Go.ChangeShapes Go.WideShapes Go.ChangeAt Go.RowKit Go.Deep
attribute [local go_sem ↓] Go.wp_at_zero Go.wp_at_succ

abbrev rwV (c : Cp) (sl gn fr : Int) (lv : Bool) : Value := .agg #[i64 c.env, i64 c.kind, i64 c.num, i64 c.rts, i64 sl, i64 gn, i64 fr, .bool lv]
set_option maxRecDepth 100000 in
set_option maxHeartbeats 3200000 in
theorem rright_ok (w : World) (c : Cp) (sl gn fr : Int) (lv : Bool) : Calls Try.prog 24 #[rwV c sl gn fr lv] w fun e w' => e = .returned (.bool (rightB c)) ∧ Below w.heap.size w w' := by
  obtain ⟨a, k, n, r⟩ := c
  have hr : rightB ⟨a, k, n, r⟩ = decide (0 < a ∧ a < 4 ∧ 0 < k ∧ k < 4 ∧ 0 ≤ n ∧ n < 64 ∧ 0 < r ∧ r < 4) := by
    unfold rightB
    exact decide_eq_decide.2 (by constructor <;> (intro h; simp only at h ⊢; omega))
  rw [hr]
  unfold rwV
  by_cases h0 : 0 < a
  case neg =>
    rw [decide_eq_false (fun h => h0 h.1)]
    go_enter Try.func24, Try.ntmps24
    go_wp2_with fail
    go_ret
    exact ⟨by first | rfl | (simp; done) | (simp; omega), below_one w _⟩
  by_cases h1 : a < 4
  case neg =>
    rw [decide_eq_false (fun h => h1 h.2.1)]
    go_enter Try.func24, Try.ntmps24
    go_wp2_with fail
    go_ret
    exact ⟨by first | rfl | (simp; done) | (simp; omega), below_one w _⟩
  by_cases h2 : 0 < k
  case neg =>
    rw [decide_eq_false (fun h => h2 h.2.2.1)]
    go_enter Try.func24, Try.ntmps24
    go_wp2_with fail
    go_ret
    exact ⟨by first | rfl | (simp; done) | (simp; omega), below_one w _⟩
  by_cases h3 : k < 4
  case neg =>
    rw [decide_eq_false (fun h => h3 h.2.2.2.1)]
    go_enter Try.func24, Try.ntmps24
    go_wp2_with fail
    go_ret
    exact ⟨by first | rfl | (simp; done) | (simp; omega), below_one w _⟩
  by_cases h4 : 0 ≤ n
  case neg =>
    rw [decide_eq_false (fun h => h4 h.2.2.2.2.1)]
    go_enter Try.func24, Try.ntmps24
    go_wp2_with fail
    go_ret
    exact ⟨by first | rfl | (simp; done) | (simp; omega), below_one w _⟩
  by_cases h5 : n < 64
  case neg =>
    rw [decide_eq_false (fun h => h5 h.2.2.2.2.2.1)]
    go_enter Try.func24, Try.ntmps24
    go_wp2_with fail
    go_ret
    exact ⟨by first | rfl | (simp; done) | (simp; omega), below_one w _⟩
  by_cases h6 : 0 < r
  case neg =>
    rw [decide_eq_false (fun h => h6 h.2.2.2.2.2.2.1)]
    go_enter Try.func24, Try.ntmps24
    go_wp2_with fail
    go_ret
    exact ⟨by first | rfl | (simp; done) | (simp; omega), below_one w _⟩
  by_cases h7 : r < 4
  case neg =>
    rw [decide_eq_false (fun h => h7 h.2.2.2.2.2.2.2)]
    go_enter Try.func24, Try.ntmps24
    go_wp2_with fail
    go_ret
    exact ⟨by first | rfl | (simp; done) | (simp; omega), below_one w _⟩
  rw [decide_eq_true ⟨h0, h1, h2, h3, h4, h5, h6, h7⟩]
  go_enter Try.func24, Try.ntmps24
  go_wp2_with fail
  go_ret
  exact ⟨by first | rfl | (simp; done) | (simp; omega), below_one w _⟩
/-- A step. -/
structure Sp where
  what : Int
  n : Int
  env : Int
  tt : Int
  rights : Int
  by_ : Bool
  c : Cp
  wrong : Int
abbrev Sp.c' (s : Sp) : List Value := [i64 s.what, i64 s.n, i64 s.env, i64 s.tt, i64 s.rights, .bool s.by_, i64 s.c.env, i64 s.c.kind, i64 s.c.num, i64 s.c.rts, i64 s.wrong]
abbrev spO (s : Sp) : Obj := .cells #[i64 s.what, i64 s.n, i64 s.env, i64 s.tt, i64 s.rights, .bool s.by_, i64 s.c.env, i64 s.c.kind, i64 s.c.num, i64 s.c.rts, i64 s.wrong] 38
abbrev Sp.v (s : Sp) : Value := .agg #[i64 s.what, i64 s.n, i64 s.env, i64 s.tt, i64 s.rights, .bool s.by_, i64 s.c.env, i64 s.c.kind, i64 s.c.num, i64 s.c.rts, i64 s.wrong]
def mnE (r : Bool) : Int := if r then 7 else 1
theorem mint_nil_any (w : World) (c : Cp) : Calls Try.prog 21 #[.pointer none, c.v] w fun e w' => e = .returned (.tuple #[.agg #[i64 0, i64 0], i64 (mnE (rightB c))]) ∧ Below w.heap.size w w' := by
  cases h : rightB c with
  | true => exact mint_nil w c h
  | false => exact mint_arg w _ c h
set_option maxRecDepth 100000 in
set_option maxHeartbeats 3200000 in
theorem nil_walk (w : World) (s : Sp) : Calls Try.prog 7 #[s.v] w fun e w' => e = .returned (.bool true) ∧ Below w.heap.size w w' := by
  obtain ⟨q, hqq⟩ : ∃ q, q = w.heap.size := ⟨_, rfl⟩
  have HS0 : Hid ((w.alloc (spO s)).heap[q]? = some (spO s)) := by rw [hqq]; exact heap_last w _
  have HB0 : Hid (Below w.heap.size w (w.alloc (spO s))) := below_one w _
  have HE0 : Hid (w.heap.size = q) := hqq.symm
  have HQ0 : Hid ((w.alloc (spO s)).heap.size = q + 1) := by rw [hqq]; show _ = _; simp
  clear hqq
  obtain ⟨R, hR⟩ : ∃ R, R = rightB s.c := ⟨_, rfl⟩
  have HR : Hid (rightB s.c = R) := hR.symm
  clear hR
  unfold Sp.v
  go_enter Try.func7, Try.ntmps7
  go_upto_region 2 with fail
  rw [HE0.out]
  unfold spO at HS0 HB0 HQ0
  generalize w.alloc (.cells #[i64 s.what, i64 s.n, i64 s.env, i64 s.tt, i64 s.rights, .bool s.by_, i64 s.c.env, i64 s.c.kind, i64 s.c.num, i64 s.c.rts, i64 s.wrong] 38) = V at *
  have a1 : V.cell? ⟨q, 1, none⟩ = some (i64 s.n) := blk_cell HS0.out 1
  have a4 : V.cell? ⟨q, 4, none⟩ = some (i64 s.rights) := blk_cell HS0.out 4
  have HB1 : Hid (Below w.heap.size w (V.alloc (hO s.n s.rights))) := HB0.out.alloc HB0.out.size _
  have HS1 : Hid ((V.alloc (hO s.n s.rights)).heap[q]? = some (spO s)) := blk_alloc HS0.out _
  have HH1 : Hid ((V.alloc (hO s.n s.rights)).heap[q + 1]? = some (hO s.n s.rights)) := by rw [← HQ0.out]; exact heap_last V _
  go_upto_region 3 with fail
  clear a1 a4
  rw [HQ0.out]
  unfold hO at HB1 HS1
  generalize V.alloc (.cells #[i64 s.n, i64 s.rights] 42) = V1 at *
  have b1_6 : V1.cell? ⟨q, 6, none⟩ = some (i64 s.c.env) := blk_cell HS1.out 6
  have b1_7 : V1.cell? ⟨q, 7, none⟩ = some (i64 s.c.kind) := blk_cell HS1.out 7
  have b1_8 : V1.cell? ⟨q, 8, none⟩ = some (i64 s.c.num) := blk_cell HS1.out 8
  have b1_9 : V1.cell? ⟨q, 9, none⟩ = some (i64 s.c.rts) := blk_cell HS1.out 9
  go_wp2_with fail
  refine (mint_nil_any _ s.c).mono ?_
  rintro e x2 ⟨rfl, hb⟩
  have HBx : Hid (Below w.heap.size w x2) := HB1.out.trans (hb.mono HB1.out.size)
  have HB2 : Hid (Below w.heap.size w (x2.alloc (.cells #[i64 0, i64 0] 42))) := HBx.out.alloc HBx.out.size _
  have HS2 : Hid ((x2.alloc (.cells #[i64 0, i64 0] 42)).heap[q]? = some (spO s)) := blk_alloc (blk_below HS1.out hb) _
  have HH2 : Hid ((x2.alloc (.cells #[i64 0, i64 0] 42)).heap[q + 1]? = some (hO s.n s.rights)) := blk_alloc (blk_below HH1.out hb) _
  clear hb HBx b1_6 b1_7 b1_8 b1_9 HB1 HS1 HH1
  rw [HR.out]
  go_upto_region 4 with fail
  generalize x2.alloc (.cells #[i64 0, i64 0] 42) = y2 at *
  have b2_2 : y2.cell? ⟨q, 2, none⟩ = some (i64 s.env) := blk_cell HS2.out 2
  have b2_3 : y2.cell? ⟨q, 3, none⟩ = some (i64 s.tt) := blk_cell HS2.out 3
  have b2_4 : y2.cell? ⟨q, 4, none⟩ = some (i64 s.rights) := blk_cell HS2.out 4
  have g2_0 : y2.cell? ⟨q + 1, 0, none⟩ = some (i64 s.n) := blk_cell HH2.out 0
  have g2_1 : y2.cell? ⟨q + 1, 1, none⟩ = some (i64 s.rights) := blk_cell HH2.out 1
  go_wp2_with fail
  refine (derive_stale _ _ s.env s.n s.rights s.tt s.rights (looks_nil _ _ _ _)).mono ?_
  rintro e x3 ⟨rfl, hb⟩
  have HBx : Hid (Below w.heap.size w x3) := HB2.out.trans (hb.mono HB2.out.size)
  have HB3 : Hid (Below w.heap.size w (x3.alloc (.cells #[i64 0, i64 0] 42))) := HBx.out.alloc HBx.out.size _
  have HS3 : Hid ((x3.alloc (.cells #[i64 0, i64 0] 42)).heap[q]? = some (spO s)) := blk_alloc (blk_below HS2.out hb) _
  have HH3 : Hid ((x3.alloc (.cells #[i64 0, i64 0] 42)).heap[q + 1]? = some (hO s.n s.rights)) := blk_alloc (blk_below HH2.out hb) _
  clear hb HBx b2_2 b2_3 b2_4 g2_0 g2_1 HB2 HS2 HH2
  go_upto_region 5 with fail
  generalize x3.alloc (.cells #[i64 0, i64 0] 42) = y3 at *
  have b3_2 : y3.cell? ⟨q, 2, none⟩ = some (i64 s.env) := blk_cell HS3.out 2
  have g3_0 : y3.cell? ⟨q + 1, 0, none⟩ = some (i64 s.n) := blk_cell HH3.out 0
  have g3_1 : y3.cell? ⟨q + 1, 1, none⟩ = some (i64 s.rights) := blk_cell HH3.out 1
  go_wp2_with fail
  refine (drop_stale _ _ s.env s.n s.rights (looks_nil _ _ _ _)).mono ?_
  rintro e x4 ⟨rfl, hb⟩
  have HBx : Hid (Below w.heap.size w x4) := HB3.out.trans (hb.mono HB3.out.size)
  have HB4 := HBx
  have HS4 : Hid (x4.heap[q]? = some (spO s)) := blk_below HS3.out hb
  have HH4 : Hid (x4.heap[q + 1]? = some (hO s.n s.rights)) := blk_below HH3.out hb
  clear hb HBx b3_2 g3_0 g3_1 HB3 HS3 HH3
  have b4_2 : x4.cell? ⟨q, 2, none⟩ = some (i64 s.env) := blk_cell HS4.out 2
  have g4_0 : x4.cell? ⟨q + 1, 0, none⟩ = some (i64 s.n) := blk_cell HH4.out 0
  have g4_1 : x4.cell? ⟨q + 1, 1, none⟩ = some (i64 s.rights) := blk_cell HH4.out 1
  go_wp2_with fail
  refine (revoke_stale _ none s.env s.n s.rights (looks_nil _ _ _ _)).mono ?_
  rintro e x5 ⟨rfl, hb⟩
  have HBx : Hid (Below w.heap.size w x5) := HB4.out.trans (hb.mono HB4.out.size)
  have HB5 := HBx
  have HS5 : Hid (x5.heap[q]? = some (spO s)) := blk_below HS4.out hb
  have HH5 : Hid (x5.heap[q + 1]? = some (hO s.n s.rights)) := blk_below HH4.out hb
  clear hb HBx b4_2 g4_0 g4_1 HB4 HS4 HH4
  have b5_2 : x5.cell? ⟨q, 2, none⟩ = some (i64 s.env) := blk_cell HS5.out 2
  have g5_0 : x5.cell? ⟨q + 1, 0, none⟩ = some (i64 s.n) := blk_cell HH5.out 0
  have g5_1 : x5.cell? ⟨q + 1, 1, none⟩ = some (i64 s.rights) := blk_cell HH5.out 1
  go_wp2_with fail
  refine (look_nil _ s.env s.n s.rights).mono ?_
  rintro e x6 ⟨rfl, hb⟩
  have HBx : Hid (Below w.heap.size w x6) := HB5.out.trans (hb.mono HB5.out.size)
  have HB6 : Hid (Below w.heap.size w (x6.alloc (.cells #[i64 0, i64 0, i64 0, i64 0] 36))) := HBx.out.alloc HBx.out.size _
  have HS6 : Hid ((x6.alloc (.cells #[i64 0, i64 0, i64 0, i64 0] 36)).heap[q]? = some (spO s)) := blk_alloc (blk_below HS5.out hb) _
  have HH6 : Hid ((x6.alloc (.cells #[i64 0, i64 0, i64 0, i64 0] 36)).heap[q + 1]? = some (hO s.n s.rights)) := blk_alloc (blk_below HH5.out hb) _
  clear hb HBx b5_2 g5_0 g5_1 HB5 HS5 HH5
  unfold Cp.v zC
  go_upto_region 8 with fail
  generalize x6.alloc (.cells #[i64 0, i64 0, i64 0, i64 0] 36) = y6 at *
  have b6_6 : y6.cell? ⟨q, 6, none⟩ = some (i64 s.c.env) := blk_cell HS6.out 6
  have b6_7 : y6.cell? ⟨q, 7, none⟩ = some (i64 s.c.kind) := blk_cell HS6.out 7
  have b6_8 : y6.cell? ⟨q, 8, none⟩ = some (i64 s.c.num) := blk_cell HS6.out 8
  have b6_9 : y6.cell? ⟨q, 9, none⟩ = some (i64 s.c.rts) := blk_cell HS6.out 9
  go_wp2_with fail
  refine (rright_ok _ s.c 0 0 0 false).mono ?_
  rintro e x7 ⟨rfl, hb⟩
  have HBx : Hid (Below w.heap.size w x7) := HB6.out.trans (hb.mono HB6.out.size)
  have HB7 := HBx
  have HS7 : Hid (x7.heap[q]? = some (spO s)) := blk_below HS6.out hb
  have HH7 : Hid (x7.heap[q + 1]? = some (hO s.n s.rights)) := blk_below HH6.out hb
  clear hb HBx b6_6 b6_7 b6_8 b6_9 HB6 HS6 HH6
  rw [HR.out]
  clear HR
  cases R
  all_goals
    unfold mnE
    have b7_2 : x7.cell? ⟨q, 2, none⟩ = some (i64 s.env) := blk_cell HS7.out 2
    have b7_4 : x7.cell? ⟨q, 4, none⟩ = some (i64 s.rights) := blk_cell HS7.out 4
    have g7_0 : x7.cell? ⟨q + 1, 0, none⟩ = some (i64 s.n) := blk_cell HH7.out 0
    have g7_1 : x7.cell? ⟨q + 1, 1, none⟩ = some (i64 s.rights) := blk_cell HH7.out 1
    go_wp2_with fail
    refine (check_stale _ _ s.env s.n s.rights s.rights (looks_nil _ _ _ _)).mono ?_
    rintro e x8 ⟨rfl, hb⟩
    have HBx : Hid (Below w.heap.size w x8) := HB7.out.trans (hb.mono HB7.out.size)
    have HB8 := HBx
    have HS8 : Hid (x8.heap[q]? = some (spO s)) := blk_below HS7.out hb
    have HH8 : Hid (x8.heap[q + 1]? = some (hO s.n s.rights)) := blk_below HH7.out hb
    clear hb HBx b7_2 b7_4 g7_0 g7_1 HB7 HS7 HH7
    have b8_2 : x8.cell? ⟨q, 2, none⟩ = some (i64 s.env) := blk_cell HS8.out 2
    go_wp2_with fail
    refine (dropEnv_nil _ s.env).mono ?_
    rintro e x9 ⟨rfl, hb⟩
    have HBx : Hid (Below w.heap.size w x9) := HB8.out.trans (hb.mono HB8.out.size)
    have HB9 := HBx
    have HS9 : Hid (x9.heap[q]? = some (spO s)) := blk_below HS8.out hb
    have HH9 : Hid (x9.heap[q + 1]? = some (hO s.n s.rights)) := blk_below HH8.out hb
    clear hb HBx b8_2 HB8 HS8 HH8
    have b9_2 : x9.cell? ⟨q, 2, none⟩ = some (i64 s.env) := blk_cell HS9.out 2
    go_wp2_with fail
    refine (handles_nil _ s.env).mono ?_
    rintro e x10 ⟨rfl, hb⟩
    have HBx : Hid (Below w.heap.size w x10) := HB9.out.trans (hb.mono HB9.out.size)
    have HB10 := HBx
    have HS10 : Hid (x10.heap[q]? = some (spO s)) := blk_below HS9.out hb
    have HH10 : Hid (x10.heap[q + 1]? = some (hO s.n s.rights)) := blk_below HH9.out hb
    clear hb HBx b9_2 HB9 HS9 HH9
    go_wp2_with fail
    refine (live_nil _).mono ?_
    rintro e x11 ⟨rfl, hb⟩
    have HBx : Hid (Below w.heap.size w x11) := HB10.out.trans (hb.mono HB10.out.size)
    have HB11 := HBx
    have HS11 : Hid (x11.heap[q]? = some (spO s)) := blk_below HS10.out hb
    have HH11 : Hid (x11.heap[q + 1]? = some (hO s.n s.rights)) := blk_below HH10.out hb
    clear hb HBx  HB10 HS10 HH10
    go_wp2_with fail
    refine (two_ok _).mono ?_
    rintro e x12 ⟨rfl, hb⟩
    have HBx : Hid (Below w.heap.size w x12) := HB11.out.trans (hb.mono HB11.out.size)
    have HB12 := HBx
    have HS12 : Hid (x12.heap[q]? = some (spO s)) := blk_below HS11.out hb
    have HH12 : Hid (x12.heap[q + 1]? = some (hO s.n s.rights)) := blk_below HH11.out hb
    clear hb HBx  HB11 HS11 HH11
    go_wp2_with fail
    go_ret
    exact ⟨rfl, HB12.out⟩
end Go.Proofs.Ytcffodkpflfeoaa
