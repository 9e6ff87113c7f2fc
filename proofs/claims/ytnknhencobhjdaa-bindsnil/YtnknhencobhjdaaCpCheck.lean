/- caps.Check: its contract; no statement is proved in this text. -/
import Derived.Test.YtnknhencobhjdaaCpDerive2
namespace Go.Proofs.Ytnknhencobhjdaa.Cp
open Go.ChangeShapes Go.WideShapes Go.ChangeAt Go.RowKit Go.Deep
attribute [local go_sem ↓] Go.wp_at_zero Go.wp_at_succ

def chE (o : Option Cp) (right : Int) : Int := match o with
  | none => 90
  | some c => if right = 1 ∧ c.rts % 2 = 1 ∨ right = 2 ∧ 2 ≤ c.rts then 0 else 91
set_option maxRecDepth 100000 in
set_option maxHeartbeats 1600000 in
theorem check_stale (w : World) (v0 : Value) (env sl gn right : Int) (hl : Looks w v0 env sl gn zC 90) : Calls Try.prog 51 #[v0, i64 env, .agg #[i64 sl, i64 gn], i64 right] w fun e w' => e = .returned (i64 90) ∧ Below w.heap.size w w' := by
  have HL : Hid (Looks w v0 env sl gn zC 90) := hl
  have HB0 : Hid (Below w.heap.size w (w.alloc (hO sl gn))) := below_one w _
  clear hl
  unfold hO at HB0
  go_enter Try.func51, Try.ntmps51
  go_wp2_with fail
  refine (HL.out _ HB0.out).mono ?_
  rintro e w1 ⟨rfl, hb1⟩
  have HB1 : Hid (∀ o, Below w.heap.size w (w1.alloc o)) := fun o => (HB0.out.trans (hb1.mono HB0.out.size)).alloc (HB0.out.trans (hb1.mono HB0.out.size)).size o
  clear hb1
  unfold Cp.v zC
  go_wp2_with fail
  go_ret
  exact ⟨rfl, HB1.out _⟩
set_option maxRecDepth 100000 in
set_option maxHeartbeats 1600000 in
theorem check_else (w : World) (v0 : Value) (env sl gn right ce ck cn cr : Int) (hl : Looks w v0 env sl gn ⟨ce, ck, cn, cr⟩ 0) (h1 : ¬ right = 1) (h2 : ¬ right = 2) : Calls Try.prog 51 #[v0, i64 env, .agg #[i64 sl, i64 gn], i64 right] w fun e w' => e = .returned (i64 91) ∧ Below w.heap.size w w' := by
  have HL : Hid (Looks w v0 env sl gn ⟨ce, ck, cn, cr⟩ 0) := hl
  have g1 : (right == 1) = false := by simpa using h1
  have g2 : (right == 2) = false := by simpa using h2
  clear h1 h2
  have HB0 : Hid (Below w.heap.size w (w.alloc (hO sl gn))) := below_one w _
  clear hl
  unfold hO at HB0
  go_enter Try.func51, Try.ntmps51
  go_wp2_with fail
  refine (HL.out _ HB0.out).mono ?_
  rintro e w1 ⟨rfl, hb1⟩
  have HB1 : Hid (∀ o, Below w.heap.size w (w1.alloc o)) := fun o => (HB0.out.trans (hb1.mono HB0.out.size)).alloc (HB0.out.trans (hb1.mono HB0.out.size)).size o
  clear hb1
  unfold Cp.v
  go_wp2_with fail
  go_ret
  exact ⟨rfl, HB1.out _⟩
set_option maxRecDepth 100000 in
set_option maxHeartbeats 1600000 in
theorem check_11 (w : World) (v0 : Value) (env sl gn ce ck cn : Int) (hl : Looks w v0 env sl gn ⟨ce, ck, cn, 1⟩ 0) : Calls Try.prog 51 #[v0, i64 env, .agg #[i64 sl, i64 gn], i64 1] w fun e w' => e = .returned (i64 0) ∧ Below w.heap.size w w' := by
  have HL : Hid (Looks w v0 env sl gn ⟨ce, ck, cn, 1⟩ 0) := hl
  have HB0 : Hid (Below w.heap.size w (w.alloc (hO sl gn))) := below_one w _
  clear hl
  unfold hO at HB0
  go_enter Try.func51, Try.ntmps51
  go_wp2_with fail
  refine (HL.out _ HB0.out).mono ?_
  rintro e w1 ⟨rfl, hb1⟩
  have HB1 : Hid (∀ o, Below w.heap.size w (w1.alloc o)) := fun o => (HB0.out.trans (hb1.mono HB0.out.size)).alloc (HB0.out.trans (hb1.mono HB0.out.size)).size o
  clear hb1
  unfold Cp.v
  go_wp2_with fail
  go_ret
  exact ⟨rfl, HB1.out _⟩
set_option maxRecDepth 100000 in
set_option maxHeartbeats 1600000 in
theorem check_12 (w : World) (v0 : Value) (env sl gn ce ck cn : Int) (hl : Looks w v0 env sl gn ⟨ce, ck, cn, 1⟩ 0) : Calls Try.prog 51 #[v0, i64 env, .agg #[i64 sl, i64 gn], i64 2] w fun e w' => e = .returned (i64 91) ∧ Below w.heap.size w w' := by
  have HL : Hid (Looks w v0 env sl gn ⟨ce, ck, cn, 1⟩ 0) := hl
  have HB0 : Hid (Below w.heap.size w (w.alloc (hO sl gn))) := below_one w _
  clear hl
  unfold hO at HB0
  go_enter Try.func51, Try.ntmps51
  go_wp2_with fail
  refine (HL.out _ HB0.out).mono ?_
  rintro e w1 ⟨rfl, hb1⟩
  have HB1 : Hid (∀ o, Below w.heap.size w (w1.alloc o)) := fun o => (HB0.out.trans (hb1.mono HB0.out.size)).alloc (HB0.out.trans (hb1.mono HB0.out.size)).size o
  clear hb1
  unfold Cp.v
  go_wp2_with fail
  go_ret
  exact ⟨rfl, HB1.out _⟩
set_option maxRecDepth 100000 in
set_option maxHeartbeats 1600000 in
theorem check_21 (w : World) (v0 : Value) (env sl gn ce ck cn : Int) (hl : Looks w v0 env sl gn ⟨ce, ck, cn, 2⟩ 0) : Calls Try.prog 51 #[v0, i64 env, .agg #[i64 sl, i64 gn], i64 1] w fun e w' => e = .returned (i64 91) ∧ Below w.heap.size w w' := by
  have HL : Hid (Looks w v0 env sl gn ⟨ce, ck, cn, 2⟩ 0) := hl
  have HB0 : Hid (Below w.heap.size w (w.alloc (hO sl gn))) := below_one w _
  clear hl
  unfold hO at HB0
  go_enter Try.func51, Try.ntmps51
  go_wp2_with fail
  refine (HL.out _ HB0.out).mono ?_
  rintro e w1 ⟨rfl, hb1⟩
  have HB1 : Hid (∀ o, Below w.heap.size w (w1.alloc o)) := fun o => (HB0.out.trans (hb1.mono HB0.out.size)).alloc (HB0.out.trans (hb1.mono HB0.out.size)).size o
  clear hb1
  unfold Cp.v
  go_wp2_with fail
  go_ret
  exact ⟨rfl, HB1.out _⟩
set_option maxRecDepth 100000 in
set_option maxHeartbeats 1600000 in
theorem check_22 (w : World) (v0 : Value) (env sl gn ce ck cn : Int) (hl : Looks w v0 env sl gn ⟨ce, ck, cn, 2⟩ 0) : Calls Try.prog 51 #[v0, i64 env, .agg #[i64 sl, i64 gn], i64 2] w fun e w' => e = .returned (i64 0) ∧ Below w.heap.size w w' := by
  have HL : Hid (Looks w v0 env sl gn ⟨ce, ck, cn, 2⟩ 0) := hl
  have HB0 : Hid (Below w.heap.size w (w.alloc (hO sl gn))) := below_one w _
  clear hl
  unfold hO at HB0
  go_enter Try.func51, Try.ntmps51
  go_wp2_with fail
  refine (HL.out _ HB0.out).mono ?_
  rintro e w1 ⟨rfl, hb1⟩
  have HB1 : Hid (∀ o, Below w.heap.size w (w1.alloc o)) := fun o => (HB0.out.trans (hb1.mono HB0.out.size)).alloc (HB0.out.trans (hb1.mono HB0.out.size)).size o
  clear hb1
  unfold Cp.v
  go_wp2_with fail
  go_ret
  exact ⟨rfl, HB1.out _⟩
set_option maxRecDepth 100000 in
set_option maxHeartbeats 1600000 in
theorem check_31 (w : World) (v0 : Value) (env sl gn ce ck cn : Int) (hl : Looks w v0 env sl gn ⟨ce, ck, cn, 3⟩ 0) : Calls Try.prog 51 #[v0, i64 env, .agg #[i64 sl, i64 gn], i64 1] w fun e w' => e = .returned (i64 0) ∧ Below w.heap.size w w' := by
  have HL : Hid (Looks w v0 env sl gn ⟨ce, ck, cn, 3⟩ 0) := hl
  have HB0 : Hid (Below w.heap.size w (w.alloc (hO sl gn))) := below_one w _
  clear hl
  unfold hO at HB0
  go_enter Try.func51, Try.ntmps51
  go_wp2_with fail
  refine (HL.out _ HB0.out).mono ?_
  rintro e w1 ⟨rfl, hb1⟩
  have HB1 : Hid (∀ o, Below w.heap.size w (w1.alloc o)) := fun o => (HB0.out.trans (hb1.mono HB0.out.size)).alloc (HB0.out.trans (hb1.mono HB0.out.size)).size o
  clear hb1
  unfold Cp.v
  go_wp2_with fail
  go_ret
  exact ⟨rfl, HB1.out _⟩
set_option maxRecDepth 100000 in
set_option maxHeartbeats 1600000 in
theorem check_32 (w : World) (v0 : Value) (env sl gn ce ck cn : Int) (hl : Looks w v0 env sl gn ⟨ce, ck, cn, 3⟩ 0) : Calls Try.prog 51 #[v0, i64 env, .agg #[i64 sl, i64 gn], i64 2] w fun e w' => e = .returned (i64 0) ∧ Below w.heap.size w w' := by
  have HL : Hid (Looks w v0 env sl gn ⟨ce, ck, cn, 3⟩ 0) := hl
  have HB0 : Hid (Below w.heap.size w (w.alloc (hO sl gn))) := below_one w _
  clear hl
  unfold hO at HB0
  go_enter Try.func51, Try.ntmps51
  go_wp2_with fail
  refine (HL.out _ HB0.out).mono ?_
  rintro e w1 ⟨rfl, hb1⟩
  have HB1 : Hid (∀ o, Below w.heap.size w (w1.alloc o)) := fun o => (HB0.out.trans (hb1.mono HB0.out.size)).alloc (HB0.out.trans (hb1.mono HB0.out.size)).size o
  clear hb1
  unfold Cp.v
  go_wp2_with fail
  go_ret
  exact ⟨rfl, HB1.out _⟩
theorem check_c (w : World) (v0 : Value) (env sl gn right : Int) (c : Cp) (hl : Looks w v0 env sl gn c 0) (hc : envB c.rts = true) : Calls Try.prog 51 #[v0, i64 env, .agg #[i64 sl, i64 gn], i64 right] w fun e w' => e = .returned (i64 (chE (some c) right)) ∧ Below w.heap.size w w' := by
  obtain ⟨ce, ck, cn, cr⟩ := c
  simp only at hc
  by_cases h1 : right = 1
  · subst h1
    rcases envB_iff.1 hc with rfl | rfl | rfl
    · exact check_11 w v0 env sl gn ce ck cn hl
    · exact check_21 w v0 env sl gn ce ck cn hl
    · exact check_31 w v0 env sl gn ce ck cn hl
  · by_cases h2 : right = 2
    · subst h2
      rcases envB_iff.1 hc with rfl | rfl | rfl
      · exact check_12 w v0 env sl gn ce ck cn hl
      · exact check_22 w v0 env sl gn ce ck cn hl
      · exact check_32 w v0 env sl gn ce ck cn hl
    · have : chE (some ⟨ce, ck, cn, cr⟩) right = 91 := by simp [chE, h1, h2]
      rw [this]
      exact check_else w v0 env sl gn right ce ck cn cr hl h1 h2
/-- Each capability that is there has rights. -/
def Rts (T : List Pl) : Prop := ∀ (i : Nat) p, T[i]? = some p → p.c ≠ zC → rightB p.c = true
theorem rightB_rts {c : Cp} (h : rightB c = true) : envB c.rts = true := by
  unfold rightB at h
  unfold envB
  rw [decide_eq_true_iff] at h ⊢
  exact h.2.2.2.2.2.2
theorem rightB_env {c : Cp} (h : rightB c = true) : envB c.env = true := by
  unfold rightB at h
  unfold envB
  rw [decide_eq_true_iff] at h ⊢
  exact ⟨h.1, h.2.1⟩
theorem Rts.look {T : List Pl} (h : Rts T) {env sl gn : Int} {c : Cp} (hl : lookF T env sl gn = some c) : rightB c = true := by
  obtain ⟨s, p, _, hp, h1, _, _, rfl⟩ := lookF_some hl
  exact h s p hp h1
theorem check_any {w : World} {base b : Nat} {T : List Pl} (h : Tb w base b T) (hr : Rts T) (env sl gn right : Int) : Calls Try.prog 51 #[.pointer (some ⟨b, 0, none⟩), i64 env, .agg #[i64 sl, i64 gn], i64 right] w fun e w' => e = .returned (i64 (chE (lookF T env sl gn) right)) ∧ Below w.heap.size w w' := by
  have hl := looks_tb h env sl gn
  cases ho : lookF T env sl gn with
  | none => rw [ho] at hl; exact check_stale w _ env sl gn right hl
  | some c => rw [ho] at hl; exact check_c w _ env sl gn right c hl (rightB_rts (hr.look ho))
end Go.Proofs.Ytnknhencobhjdaa.Cp
