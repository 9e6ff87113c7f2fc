/- PlayFuel's walk; no statement is proved in this text. -/
import Derived.Test.YtigbfdloodfdgaaDoorPlayQB
namespace Go.Proofs.YtigbfdloodfdgaaDoor
open Go.ChangeShapes Go.WideShapes Go.ChangeAt Go.RowKit
attribute [local go_sem ↓] Go.wp_at_zero Go.wp_at_succ

theorem it_cnt (l : List UInt8) (s : Rn) : ∀ n, (itP l n s).1 = 0 → (itP l n s).2.1 = n
  | 0, _ => rfl
  | n + 1, h => by
    by_cases h0 : (itP l n s).1 = 0
    · have e : itP l (n + 1) s = ((stepP l (itP l n s).2.2).1, (itP l n s).2.1 + 1, (stepP l (itP l n s).2.2).2) := by
        show (if (itP l n s).1 = 0 then _ else _) = _
        rw [if_pos h0]
      rw [e]
      show (itP l n s).2.1 + 1 = n + 1
      rw [it_cnt l s n h0]
    · have e : itP l (n + 1) s = itP l n s := by
        show (if (itP l n s).1 = 0 then _ else itP l n s) = _
        rw [if_neg h0]
      rw [e] at h
      exact absurd h h0
theorem it_end (l : List UInt8) (s : Rn) : ∀ n, (itP l n s).1 ≠ 0 → itP l (itP l n s).2.1 s = itP l n s ∧ 1 ≤ (itP l n s).2.1 ∧ (itP l ((itP l n s).2.1 - 1) s).1 = 0
  | 0, h => absurd rfl h
  | n + 1, h => by
    by_cases h0 : (itP l n s).1 = 0
    · have e : itP l (n + 1) s = ((stepP l (itP l n s).2.2).1, (itP l n s).2.1 + 1, (stepP l (itP l n s).2.2).2) := by
        show (if (itP l n s).1 = 0 then _ else _) = _
        rw [if_pos h0]
      have ej : (itP l (n + 1) s).2.1 = n + 1 := by
        rw [e]
        show (itP l n s).2.1 + 1 = n + 1
        rw [it_cnt l s n h0]
      rw [ej]
      exact ⟨rfl, by omega, h0⟩
    · have e : itP l (n + 1) s = itP l n s := by
        show (if (itP l n s).1 = 0 then _ else itP l n s) = _
        rw [if_neg h0]
      rw [e]
      exact it_end l s n h0
set_option maxRecDepth 100000 in
set_option maxHeartbeats 1600000 in
theorem pfuel_out (w : World) (ht : Tab w) (l m : List UInt8) (ao : Option Addr) (n cap : Nat) (b : Bool) (hb : decide (600 < l.length ∨ 600 < m.length ∨ 100 < n) = b) (h : b = true ∨ 256 < l.length ∨ 256 < m.length) :
    Calls Tryd.prog 4 #[jobV l m ao n cap] w fun e w' => e = .returned (.bool true) ∧ Below w.heap.size w w' := by
  have HTB := hid ht
  have HL := hid (fun v => long_b v l m ao n cap b hb)
  have HC := hid (fun v (hv : Tab v) => call8_ok v hv)
  obtain ⟨b0, hb0⟩ : ∃ b, w.heap.size = b := ⟨_, rfl⟩
  have HJ := hid (fun v h => job_cells (w := w) (v := v) (l := l) (m := m) (ao := ao) (n := n) (cap := cap) hb0.symm h)
  clear ht hb
  have h3 : b = true ∨ (b = false ∧ 256 < l.length) ∨ (b = false ∧ ¬ 256 < l.length ∧ 256 < m.length) := by
    cases b
    · simp at h ⊢; omega
    · exact Or.inl rfl
  clear h
  rcases h3 with rfl | ⟨rfl, h1⟩ | ⟨rfl, h1, h2⟩
  · go_enter Tryd.func4, Tryd.ntmps4
    go_wp2_with (first
      | (go_at_call 7; refine (HL.out _).mono ?_; rintro e v1 ⟨rfl, h1⟩; rw [World.size_alloc, hb0] at h1; have HBa := hid h1; clear h1)
      | (go_at_call 8; refine (HC.out _ (HTB.out.below (jw hb0 HBa.out))).mono ?_; rintro e v2 ⟨rfl, h1⟩; have HBb := hid h1; clear h1))
    go_ret
    exact ⟨rfl, jw hb0 (jb hb0 HBa.out HBb.out)⟩
  · have h1I : (256 : Int) < l.length := by omega
    go_enter Tryd.func4, Tryd.ntmps4
    go_wp2_with (first
      | (go_at_call 7; refine (HL.out _).mono ?_; rintro e v1 ⟨rfl, h1⟩; rw [World.size_alloc, hb0] at h1; have HBa := hid h1; clear h1; obtain ⟨a0, a1, a2⟩ := HJ.out _ HBa.out)
      | (go_at_call 8; refine (HC.out _ (HTB.out.below (jw hb0 HBa.out))).mono ?_; rintro e v2 ⟨rfl, h1⟩; have HBb := hid h1; clear h1))
    go_ret
    exact ⟨rfl, jw hb0 (jb hb0 HBa.out HBb.out)⟩
  · have h1I : ¬ (256 : Int) < l.length := by omega
    have h2I : (256 : Int) < m.length := by omega
    go_enter Tryd.func4, Tryd.ntmps4
    go_wp2_with (first
      | (go_at_call 7; refine (HL.out _).mono ?_; rintro e v1 ⟨rfl, h1⟩; rw [World.size_alloc, hb0] at h1; have HBa := hid h1; clear h1; obtain ⟨a0, a1, a2⟩ := HJ.out _ HBa.out)
      | (go_at_call 8; refine (HC.out _ (HTB.out.below (jw hb0 HBa.out))).mono ?_; rintro e v2 ⟨rfl, h1⟩; have HBb := hid h1; clear h1))
    go_ret
    exact ⟨rfl, jw hb0 (jb hb0 HBa.out HBb.out)⟩
set_option maxRecDepth 100000 in
set_option maxHeartbeats 1600000 in
theorem pfuel_in (w : World) (ht : Tab w) (l m : List UInt8) (ao : Option Addr) (cap : Nat) (A : List Int) (F : Nat) (hF : (F : Int) = 5000) (hlb : decide (600 < l.length ∨ 600 < m.length ∨ 100 < A.length) = false) (hl : l.length ≤ 256) (hm : m.length ≤ 256) (ha : ASl w w.heap.size w.heap.size (.slice ao A.length cap) A) :
    Calls Tryd.prog 4 #[jobV l m ao A.length cap] w fun e w' => e = .returned (.bool true) ∧ Below w.heap.size w w' := by
  have HTB := hid ht
  have HL := hid (fun v => long_b v l m ao A.length cap false hlb)
  have HC := hid (fun v (hv : Tab v) => call8_ok v hv)
  obtain ⟨b0, hb0⟩ : ∃ b, w.heap.size = b := ⟨_, rfl⟩
  have HJ := hid (fun v h => job_cells (w := w) (v := v) (l := l) (m := m) (ao := ao) (n := A.length) (cap := cap) hb0.symm h)
  have hlI : ¬ (256 : Int) < l.length := by omega
  have hmI : ¬ (256 : Int) < m.length := by omega
  rcases hx : itP l F (s0P m A) with ⟨h, j, s⟩
  have h3 : h ≤ 3 := by have := itP_how l (s0P m A) F; rw [hx] at this; exact this
  have hj5 : j ≤ 5000 := by have := it_steps l (s0P m A) F; rw [hx] at this; have h2 : j ≤ F := this; omega
  have hO := fun v (hv : Below w.heap.size w v) => rof_ok v l m ao cap A F hl hm (by omega) (asl_at ha hv hv.size)
  rw [hF, hx] at hO
  have HO := hid hO
  have HRF := hid (fun v => ref_ok v l m ao A.length cap)
  have hRun := fun (n : Nat) (hn : n ≤ 5000) v (hv : Below w.heap.size w v) => run_in v (ht.below hv) l m ao cap A n _ rfl hl hm hn (ha.at hv)
  by_cases h0 : h = 0
  · subst h0
    have HF := hid (fun v (hv : Below w.heap.size w v) => fuel_ok v (ht.below hv) l m ao cap A hl hm (ha.at hv) 0 j F hF s hx 0 false (fun _ => ⟨rfl, rfl⟩) (fun h => absurd rfl h))
    clear hRun hO ht ha hlb hx
    go_enter Tryd.func4, Tryd.ntmps4
    go_upto_region 3 with (first
      | (go_at_call 7; refine (HL.out _).mono ?_; rintro e v1 ⟨rfl, h1⟩; rw [World.size_alloc, hb0] at h1; have HBa := hid h1; clear h1; obtain ⟨a0, a1, a2⟩ := HJ.out _ HBa.out))
    go_upto_region 4 with (first
      | (go_at_call 13; refine (HF.out _ (jw hb0 HBa.out)).mono ?_; rintro e v2 ⟨rfl, h1⟩; have HBb := hid (jb hb0 HBa.out h1); clear h1 a0 a1 a2; obtain ⟨a0, a1, a2⟩ := HJ.out _ HBb.out))
    go_upto_region 5 with (first
      | (go_at_call 11; refine (HRF.out _).mono ?_; rintro e v3 ⟨rfl, h1⟩; have HBc := hid (jb hb0 HBb.out h1); clear h1)
      | (go_at_call 10; refine (HO.out _ (jw hb0 HBc.out)).mono ?_; rintro e v4 ⟨rfl, ⟨gm, cm, vk, hr⟩, h1⟩; have HBd := hid (jb hb0 HBc.out h1); have HR := hid hr; clear h1 hr))
    have c0 : v4.cell? ⟨v3.heap.size + 1, 0, none⟩ = some (i64 4) := HR.out.cells.c0
    go_wp2_with (first
      | (go_at_call 8; refine (HC.out _ (HTB.out.below (jw hb0 HBd.out))).mono ?_; rintro e v5 ⟨rfl, h1⟩; have HBe := hid h1; clear h1))
    go_ret
    exact ⟨rfl, jw hb0 (jb hb0 HBd.out HBe.out)⟩
  · have HF := hid (fun v (hv : Below w.heap.size w v) => fuel_ok v (ht.below hv) l m ao cap A hl hm (ha.at hv) h j F hF s hx j true (fun e => absurd e h0) (fun _ => ⟨rfl, rfl⟩))
    obtain ⟨e1, e2, e3⟩ := it_end l (s0P m A) F (by rw [hx]; exact h0)
    rw [hx] at e1 e2 e3
    simp only at e1 e2 e3
    have hR1 := hRun j hj5
    rw [e1] at hR1
    have hR2 := hRun (j - 1) (by omega)
    rw [show ((j - 1 : Nat) : Int) = (j : Int) - 1 by omega] at hR2
    have hC1 : Rg s.C := by have := itP_rg l (s0P_ok hm A) F; rw [hx] at this; exact this.rg
    have hC2 := (itP_rg l (s0P_ok hm A) (j - 1)).rg
    generalize itP l (j - 1) (s0P m A) = r2 at *
    obtain ⟨h2, j2, s2⟩ := r2
    simp only at e3
    subst e3
    have HR1 := hid hR1
    have HR2 := hid hR2
    have HC1 := hid hC1
    have HC2 := hid hC2
    have hw1 : hwP h = h := by unfold hwP; rw [if_neg h0]
    have hjI : (1 : Int) ≤ j := by omega
    have hjJ : (j : Int) ≤ 5000 := by omega
    have h4 : ¬ (h : Int) = 4 := by omega
    have HW := hid hw1
    clear hRun hO ht ha hlb hx e1 e2 hR1 hR2 hC1 hC2 h3 h0 hw1
    go_enter Tryd.func4, Tryd.ntmps4
    go_upto_region 3 with (first
      | (go_at_call 7; refine (HL.out _).mono ?_; rintro e v1 ⟨rfl, h1⟩; rw [World.size_alloc, hb0] at h1; have HBa := hid h1; clear h1; obtain ⟨a0, a1, a2⟩ := HJ.out _ HBa.out))
    go_upto_region 4 with (first
      | (go_at_call 13; refine (HF.out _ (jw hb0 HBa.out)).mono ?_; rintro e v2 ⟨rfl, h1⟩; have HBb := hid (jb hb0 HBa.out h1); clear h1 a0 a1 a2; obtain ⟨a0, a1, a2⟩ := HJ.out _ HBb.out))
    go_upto_region 5 with (first
      | (go_at_call 11; refine (HRF.out _).mono ?_; rintro e v3 ⟨rfl, h1⟩; have HBc := hid (jb hb0 HBb.out h1); clear h1)
      | (go_at_call 10; refine (HO.out _ (jw hb0 HBc.out)).mono ?_; rintro e v4 ⟨rfl, ⟨gm, cm, vk, hr⟩, h1⟩; have HBd := hid (jb hb0 HBc.out h1); have HR := hid hr; clear h1 hr))
    have c0 : v4.cell? ⟨v3.heap.size + 1, 0, none⟩ = some (i64 (h : Nat)) := by have := HR.out.cells.c0; rw [HW.out] at this; exact this
    have c1 : v4.cell? ⟨v3.heap.size + 1, 1, none⟩ = some (i64 (j : Nat)) := HR.out.cells.c1
    clear a0 a1 a2
    obtain ⟨a0, a1, a2⟩ := HJ.out _ HBd.out
    go_upto_region 10 with (first
      | (go_at_call 9; refine (HR1.out _ (jw hb0 HBd.out)).mono ?_; rintro e v5 ⟨vc, rfl, q2, q3⟩; have HBe := hid (jb hb0 HBd.out q3); have HS1 := hid (res_stored v5 (h := hwP h) (j := j) HC1.out s.M vc); have HO1 := hid (own_one (h := hwP h) (j := j) q2 s.C s.M); clear q2 q3)
      | (refine wpList_store_mid rfl 33 (.tmp 6) (.tmp 71) rfl v5.heap.size 0 (resC (hwP h) j s.C s.M vc).toArray rfl rfl (by exact HS1.out.2.2.1) (by rw [List.size_toArray, resC_len HC1.out]; exact infoR33) (by exact HO1.out) ?_))
    have HBf := hid (jb hb0 HBe.out HS1.out.2.1)
    have HP1 := hid HS1.out.1
    clear a0 a1 a2 HS1 HO1 HBe c0 c1
    generalize (v5.alloc Z33).setCells v5.heap.size 0 (resC (hwP h) j s.C s.M vc) = V5 at *
    generalize v5.heap.size = p at *
    obtain ⟨a0, a1, a2⟩ := HJ.out _ HBf.out
    go_upto_region 11 with (first
      | (go_at_call 9; refine (HR2.out _ (jw hb0 HBf.out)).mono ?_; rintro e v6 ⟨vd, rfl, q2, q3⟩; have HBg := hid (jb hb0 HBf.out q3); have HK6 := hid q3; have HS2 := hid (res_stored v6 (h := hwP 0) (j := j2) HC2.out s2.M vd); have HO2 := hid (own_one (h := hwP 0) (j := j2) q2 s2.C s2.M); clear q2 q3)
      | (refine wpList_store_mid rfl 33 (.tmp 8) (.tmp 83) rfl v6.heap.size 0 (resC (hwP 0) j2 s2.C s2.M vd).toArray rfl rfl (by exact HS2.out.2.2.1) (by rw [List.size_toArray, resC_len HC2.out]; exact infoR33) (by exact HO2.out) ?_))
    have HBh := hid (jb hb0 HBg.out HS2.out.2.1)
    have hp6 := (HK6.out.block p (blt HP1.out)).trans HP1.out
    have hp7 := (HS2.out.2.1.block p (blt hp6)).trans hp6
    obtain ⟨d0, _⟩ := res_cells HS2.out.1
    have d0' : ((v6.alloc Z33).setCells v6.heap.size 0 (resC (hwP 0) j2 s2.C s2.M vd)).cell? ⟨v6.heap.size, 0, none⟩ = some (i64 4) := d0
    obtain ⟨f0, _⟩ := res_cells hp7
    rw [HW.out] at f0
    clear a0 a1 a2 HS2 HO2 HBg HK6 hp6 hp7 d0
    generalize (v6.alloc Z33).setCells v6.heap.size 0 (resC (hwP 0) j2 s2.C s2.M vd) = V6 at *
    generalize v6.heap.size = q at *
    go_wp2_with (first
      | (go_at_call 8; refine (HC.out _ (HTB.out.below (jw hb0 HBh.out))).mono ?_; rintro e v7 ⟨rfl, h1⟩; have HBi := hid h1; clear h1))
    go_ret
    exact ⟨by show Ending.returned (Value.bool ((h : Int) != 4)) = _; rw [show ((h : Int) != 4) = true by simpa using h4], jw hb0 (jb hb0 HBh.out HBi.out)⟩
theorem pfuel_any (w : World) (ht : Tab w) (l m : List UInt8) (ao : Option Addr) (cap : Nat) (A : List Int) (ha : ASl w w.heap.size w.heap.size (.slice ao A.length cap) A) :
    Calls Tryd.prog 4 #[jobV l m ao A.length cap] w fun e w' => e = .returned (.bool true) ∧ Below w.heap.size w w' := by
  by_cases ho : decide (600 < l.length ∨ 600 < m.length ∨ 100 < A.length) = true ∨ 256 < l.length ∨ 256 < m.length
  · exact pfuel_out w ht l m ao A.length cap _ rfl ho
  · have hd : decide (600 < l.length ∨ 600 < m.length ∨ 100 < A.length) = false := by
      cases hb : decide (600 < l.length ∨ 600 < m.length ∨ 100 < A.length) with
      | true => exact absurd (Or.inl hb) ho
      | false => rfl
    have h2 : ¬ (256 < l.length ∨ 256 < m.length) := fun h => ho (Or.inr h)
    exact pfuel_in w ht l m ao cap A 5000 f5000 hd (by omega) (by omega) ha
end Go.Proofs.YtigbfdloodfdgaaDoor
