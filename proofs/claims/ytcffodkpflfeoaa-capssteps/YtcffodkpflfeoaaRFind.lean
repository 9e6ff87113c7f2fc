/- imagoref09.Table's Find, Check, Drop: contracts; no statement is proved in this text. -/
import Derived.Test.YtcffodkpflfeoaaRKill
namespace Go.Proofs.Ytcffodkpflfeoaa
open Go.ChangeShapes Go.WideShapes Go.ChangeAt Go.RowKit Go.Deep

def fdI (L : List Rw) (env sl gn : Int) : Int := if atI L sl < 0 then -1 else match L[(atI L sl).toNat]? with
  | some p => if p.gn = gn ∧ p.c.env = env then atI L sl else -1
  | none => -1
theorem fdI_cases (L : List Rw) (env sl gn : Int) : (fdI L env sl gn = -1 ∧ ∀ (i : Nat) p, L[i]? = some p → atI L sl = i → ¬ (p.gn = gn ∧ p.c.env = env)) ∨ ∃ (k : Nat) (p : Rw), fdI L env sl gn = k ∧ atI L sl = k ∧ L[k]? = some p ∧ p.lv = true ∧ p.sl = sl ∧ p.gn = gn ∧ p.c.env = env := by
  unfold fdI
  rcases atI_cases L sl with ⟨h, _⟩ | ⟨k, p, h1, h2, h3, h4⟩
  · left
    rw [h]
    exact ⟨rfl, fun i p _ he => by omega⟩
  · rw [h1, if_neg (by omega), Int.toNat_natCast, h2]
    simp only
    by_cases hc : p.gn = gn ∧ p.c.env = env
    · right
      rw [if_pos hc]
      exact ⟨k, p, rfl, rfl, h2, h3, h4, hc.1, hc.2⟩
    · left
      rw [if_neg hc]
      refine ⟨rfl, fun i q hq he => ?_⟩
      obtain rfl : i = k := by omega
      rw [h2] at hq
      cases hq
      exact hc
set_option maxRecDepth 100000 in
set_option maxHeartbeats 2000000 in
theorem rfind_ok {w : World} {base r : Nat} {L : List Rw} (h : Rb w base r L) (hl : L.length ≤ 1000) (env sl gn : Int) :
    Calls Try.prog 31 #[pq r, i64 env, .agg #[i64 sl, i64 gn]] w fun e w' => e = .returned (i64 (fdI L env sl gn)) ∧ Below w.heap.size w w' := by
  obtain ⟨V, hV⟩ : ∃ V, V = w.alloc (.cells #[i64 sl, i64 gn] 51) := ⟨_, rfl⟩
  have HV : Hid (w.alloc (.cells #[i64 sl, i64 gn] 51) = V) := hV.symm
  have hbV : Below w.heap.size w V := by rw [hV]; exact below_one w _
  have HQ : Hid (V.heap[w.heap.size]? = some (.cells #[i64 sl, i64 gn] 51)) := by rw [hV]; exact heap_last w _
  have q0 : V.cell? ⟨w.heap.size, 0, none⟩ = some (i64 sl) := blk_cell HQ.out 0
  have hA := rat_ok (h.below hbV) hl sl
  have HRV := hid (h.below hbV)
  have HBV := hid hbV
  rcases atI_cases L sl with ⟨h0, _⟩ | ⟨k, p, h1, h2, h3, h4⟩
  · have e : fdI L env sl gn = -1 := by unfold fdI; rw [h0]; rfl
    rw [e]
    rw [h0] at hA
    have HA := hid hA
    clear hA e h0 h hV hbV
    go_enter Try.func31, Try.ntmps31
    go_upto_region 1 with fail
    rw [HV.out]
    go_wp2_with fail
    refine HA.out.mono ?_
    rintro e w1 ⟨rfl, hb1⟩
    have HB1 : Hid (Below w.heap.size w w1) := HBV.out.trans (hb1.mono HBV.out.size)
    clear hb1
    go_upto_region 2 with fail
    go_quiet (fail)
    go_wp2_with fail
    go_ret
    exact ⟨rfl, below_drewN HB1.out nq⟩
  · rw [h1] at hA
    have HA := hid hA
    have hkL : k < L.length := (List.getElem?_eq_some_iff.1 h2).1
    obtain ⟨ao, cap, hbk, _, hcap, hrow⟩ := HRV.out.row
    obtain ⟨g, rfl, _, hgl, _, _, hc⟩ := hrow k p h2
    have hkI : (k : Int) < L.length := by omega
    have hcI : (L.length : Int) ≤ cap := by omega
    have hNI : (L.length : Int) ≤ 1000 := by omega
    have hk0 : decide ((k : Int) < 0) = false := decide_eq_false (by omega)
    have HC : Hid (∀ W, Below V.heap.size V W → W.cell? ⟨r, 0, none⟩ = some (.slice (some ⟨g, 0, none⟩) L.length cap) ∧ W.cell? ⟨g, k * 8, none⟩ = some (i64 p.c.env) ∧ W.cell? ⟨g, k * 8 + 5, none⟩ = some (i64 p.gn) ∧ W.cell? ⟨w.heap.size, 1, none⟩ = some (i64 gn)) := fun W hW => ⟨blk_cell (blk_below hbk hW) 0, (hW.cell (p := ⟨g, k * 8, none⟩) hgl).trans (hc 0 (by omega)), (hW.cell (p := ⟨g, k * 8 + 5, none⟩) hgl).trans (hc 5 (by omega)), blk_cell (blk_below HQ.out hW) 1⟩
    by_cases hg : p.gn = gn
    · by_cases he : p.c.env = env
      · have e : fdI L env sl gn = k := by
          unfold fdI
          rw [h1, if_neg (by omega), Int.toNat_natCast, h2]
          simp [hg, he]
        rw [e]
        have hq1 : (p.gn != gn) = false := by simp [hg]
        have hq2 : (p.c.env != env) = false := by simp [he]
        clear e h1 h2 h3 h4 hA hbk hrow hc h hV hbV hg he
        go_enter Try.func31, Try.ntmps31
        go_upto_region 1 with fail
        rw [HV.out]
        go_wp2_with fail
        refine HA.out.mono ?_
        rintro e w1 ⟨rfl, hb1⟩
        have HB1 : Hid (Below w.heap.size w w1) := HBV.out.trans (hb1.mono HBV.out.size)
        obtain ⟨a0, a1, a2, a3⟩ := HC.out w1 hb1
        clear hb1
        go_upto_region 2 with fail
        go_quiet (fail)
        go_wp2_with fail
        go_ret
        exact ⟨rfl, below_drewN HB1.out nq⟩
      · have e : fdI L env sl gn = -1 := by
          unfold fdI
          rw [h1, if_neg (by omega), Int.toNat_natCast, h2]
          simp [he]
        rw [e]
        have hq1 : (p.gn != gn) = false := by simp [hg]
        have hq2 : (p.c.env != env) = true := by simpa using he
        clear e h1 h2 h3 h4 hA hbk hrow hc h hV hbV hg he
        go_enter Try.func31, Try.ntmps31
        go_upto_region 1 with fail
        rw [HV.out]
        go_wp2_with fail
        refine HA.out.mono ?_
        rintro e w1 ⟨rfl, hb1⟩
        have HB1 : Hid (Below w.heap.size w w1) := HBV.out.trans (hb1.mono HBV.out.size)
        obtain ⟨a0, a1, a2, a3⟩ := HC.out w1 hb1
        clear hb1
        go_upto_region 2 with fail
        go_quiet (fail)
        go_wp2_with fail
        go_ret
        exact ⟨rfl, below_drewN HB1.out nq⟩
    · have e : fdI L env sl gn = -1 := by
        unfold fdI
        rw [h1, if_neg (by omega), Int.toNat_natCast, h2]
        simp [hg]
      rw [e]
      have hq1 : (p.gn != gn) = true := by simpa using hg
      clear e h1 h2 h3 h4 hA hbk hrow hc h hV hbV hg
      go_enter Try.func31, Try.ntmps31
      go_upto_region 1 with fail
      rw [HV.out]
      go_wp2_with fail
      refine HA.out.mono ?_
      rintro e w1 ⟨rfl, hb1⟩
      have HB1 : Hid (Below w.heap.size w w1) := HBV.out.trans (hb1.mono HBV.out.size)
      obtain ⟨a0, a1, a2, a3⟩ := HC.out w1 hb1
      clear hb1
      go_upto_region 2 with fail
      go_quiet (fail)
      go_wp2_with fail
      go_ret
      exact ⟨rfl, below_drewN HB1.out nq⟩
theorem chE_eq (c : Cp) (r : Int) : chE (some c) r = if r = 1 ∧ c.rts % 2 = 1 ∨ r = 2 ∧ 2 ≤ c.rts then 0 else 91 := rfl
theorem tmod2 (r : Int) (h0 : 0 ≤ r) : r.tmod 2 = r % 2 := Int.tmod_eq_emod_of_nonneg h0
/-- What the document's Check answers. -/
def rcE (L : List Rw) (i right : Int) : Int := if i < 0 then 90 else match L[i.toNat]? with
  | some p => chE (some p.c) right
  | none => 90
set_option maxRecDepth 100000 in
set_option maxHeartbeats 2000000 in
theorem rcheck_ok {w : World} {base r : Nat} {L : List Rw} (h : Rb w base r L) (hl : L.length ≤ 1000) (hrt : ∀ (i : Nat) p, L[i]? = some p → p.lv = true → rightB p.c = true) (env sl gn right : Int) :
    Calls Try.prog 17 #[pq r, i64 env, .agg #[i64 sl, i64 gn], i64 right] w fun e w' => e = .returned (i64 (rcE L (fdI L env sl gn) right)) ∧ Below w.heap.size w w' := by
  obtain ⟨V, hV⟩ : ∃ V, V = w.alloc (.cells #[i64 sl, i64 gn] 51) := ⟨_, rfl⟩
  have HV : Hid (w.alloc (.cells #[i64 sl, i64 gn] 51) = V) := hV.symm
  have hbV : Below w.heap.size w V := by rw [hV]; exact below_one w _
  have HQ : Hid (V.heap[w.heap.size]? = some (.cells #[i64 sl, i64 gn] 51)) := by rw [hV]; exact heap_last w _
  have q0 : V.cell? ⟨w.heap.size, 0, none⟩ = some (i64 sl) := blk_cell HQ.out 0
  have q1 : V.cell? ⟨w.heap.size, 1, none⟩ = some (i64 gn) := blk_cell HQ.out 1
  have hA := rfind_ok (h.below hbV) hl env sl gn
  have HRV := hid (h.below hbV)
  have HBV := hid hbV
  rcases fdI_cases L env sl gn with ⟨h0, _⟩ | ⟨k, p, h1, _, h2, h3, _, _, _⟩
  · rw [h0] at hA ⊢
    have HA := hid hA
    clear hA h0 h hV hbV hrt
    go_enter Try.func17, Try.ntmps17
    go_upto_region 1 with fail
    rw [HV.out]
    go_wp2_with fail
    refine HA.out.mono ?_
    rintro e w1 ⟨rfl, hb1⟩
    have HB1 : Hid (Below w.heap.size w w1) := HBV.out.trans (hb1.mono HBV.out.size)
    clear hb1
    go_wp2_with fail
    go_ret
    exact ⟨rfl, HB1.out⟩
  · rw [h1] at hA ⊢
    have HA := hid hA
    have hkL : k < L.length := (List.getElem?_eq_some_iff.1 h2).1
    obtain ⟨ao, cap, hbk, _, hcap, hrow⟩ := HRV.out.row
    obtain ⟨g, rfl, _, hgl, _, _, hc⟩ := hrow k p h2
    have hkI : (k : Int) < L.length := by omega
    have hcI : (L.length : Int) ≤ cap := by omega
    have hNI : (L.length : Int) ≤ 1000 := by omega
    have hrts := envB_iff.1 (rightB_rts (hrt k p h2 h3))
    have e : rcE L (k : Nat) right = chE (some p.c) right := by unfold rcE; rw [if_neg (by omega), Int.toNat_natCast, h2]
    rw [e]
    have HC : Hid (∀ W, Below V.heap.size V W → W.cell? ⟨r, 0, none⟩ = some (.slice (some ⟨g, 0, none⟩) L.length cap) ∧ W.cell? ⟨g, k * 8 + 3, none⟩ = some (i64 p.c.rts)) := fun W hW => ⟨blk_cell (blk_below hbk hW) 0, (hW.cell (p := ⟨g, k * 8 + 3, none⟩) hgl).trans (hc 3 (by omega))⟩
    obtain ⟨R, hR⟩ : ∃ R, R = chE (some p.c) right := ⟨_, rfl⟩
    rw [← hR]
    have HR : Hid (R = chE (some p.c) right) := hR
    clear e h1 h2 h3 hA hbk hrow hc h hV hbV hrt hR
    obtain ⟨x, hx⟩ : ∃ x, x = p.c.rts := ⟨_, rfl⟩
    rw [← hx] at hrts HC
    have HX := hid hx
    clear hx
    go_enter Try.func17, Try.ntmps17
    go_upto_region 1 with fail
    rw [HV.out]
    go_wp2_with fail
    refine HA.out.mono ?_
    rintro e w1 ⟨rfl, hb1⟩
    have HB1 : Hid (Below w.heap.size w w1) := HBV.out.trans (hb1.mono HBV.out.size)
    obtain ⟨a0, a3⟩ := HC.out w1 hb1
    clear hb1 HC
    by_cases r1 : right = 1
    · subst r1
      rcases hrts with rfl | rfl | rfl
      all_goals
        have hF : R = _ := HR.out
        rw [chE_eq, ← HX.out] at hF
        simp at hF
        have HF := hid hF
        clear hF
        go_wp2_with fail
        go_ret
        exact ⟨by rw [HF.out]; rfl, HB1.out⟩
    · have hr1 : (right == 1) = false := by simpa using r1
      by_cases r2 : right = 2
      · subst r2
        rcases hrts with rfl | rfl | rfl
        all_goals
          have hF : R = _ := HR.out
          rw [chE_eq, ← HX.out] at hF
          simp at hF
          have HF := hid hF
          clear hF
          clear r1
          go_wp2_with fail
          go_ret
          exact ⟨by rw [HF.out]; rfl, HB1.out⟩
      · have hr2 : (right == 2) = false := by simpa using r2
        have HF : Hid (R = 91) := by rw [HR.out, chE, if_neg (by simp [r1, r2])]; exact hid rfl
        clear r1 r2
        go_wp2_with fail
        go_ret
        exact ⟨by rw [HF.out]; rfl, HB1.out⟩
set_option maxRecDepth 100000 in
set_option maxHeartbeats 2000000 in
theorem rdrop_stale {w : World} {base r : Nat} {L : List Rw} (h : Rb w base r L) (hl : L.length ≤ 1000) (env sl gn : Int) (self : Bool) (hf : fdI L env sl gn = -1) :
    Calls Try.prog 29 #[pq r, i64 env, .agg #[i64 sl, i64 gn], .bool self] w fun e w' => e = .returned (.tuple #[i64 0, i64 90]) ∧ Below w.heap.size w w' := by
  obtain ⟨V, hV⟩ : ∃ V, V = w.alloc (.cells #[i64 sl, i64 gn] 51) := ⟨_, rfl⟩
  have HV : Hid (w.alloc (.cells #[i64 sl, i64 gn] 51) = V) := hV.symm
  have hbV : Below w.heap.size w V := by rw [hV]; exact below_one w _
  have HQ : Hid (V.heap[w.heap.size]? = some (.cells #[i64 sl, i64 gn] 51)) := by rw [hV]; exact heap_last w _
  have q0 : V.cell? ⟨w.heap.size, 0, none⟩ = some (i64 sl) := blk_cell HQ.out 0
  have q1 : V.cell? ⟨w.heap.size, 1, none⟩ = some (i64 gn) := blk_cell HQ.out 1
  have hA := rfind_ok (h.below hbV) hl env sl gn
  rw [hf] at hA
  have HA := hid hA
  have HBV := hid hbV
  clear hA hf h hV hbV
  go_enter Try.func29, Try.ntmps29
  go_upto_region 1 with fail
  rw [HV.out]
  go_wp2_with fail
  refine HA.out.mono ?_
  rintro e w1 ⟨rfl, hb1⟩
  have HB1 : Hid (Below w.heap.size w w1) := HBV.out.trans (hb1.mono HBV.out.size)
  clear hb1
  go_wp2_with fail
  go_ret2
  exact ⟨rfl, HB1.out⟩
set_option maxRecDepth 100000 in
set_option maxHeartbeats 2000000 in
theorem rdrop_ok {w : World} {base r : Nat} {L : List Rw} (h : Rb w base r L) (hl : L.length ≤ 1000) (hfw : Fw L) (env sl gn : Int) (self : Bool) (k : Nat) (hf : fdI L env sl gn = k) :
    Calls Try.prog 29 #[pq r, i64 env, .agg #[i64 sl, i64 gn], .bool self] w fun e w' => e = .returned (.tuple #[i64 (cnt L.length (klB L k self) : Nat), i64 0]) ∧ Rb w' base r (offs (klB L k self) L) ∧ Fr base [30, 66] w w' := by
  obtain ⟨V, hV⟩ : ∃ V, V = w.alloc (.cells #[i64 sl, i64 gn] 51) := ⟨_, rfl⟩
  have HV : Hid (w.alloc (.cells #[i64 sl, i64 gn] 51) = V) := hV.symm
  have hbV : Below w.heap.size w V := by rw [hV]; exact below_one w _
  have HQ : Hid (V.heap[w.heap.size]? = some (.cells #[i64 sl, i64 gn] 51)) := by rw [hV]; exact heap_last w _
  have q0 : V.cell? ⟨w.heap.size, 0, none⟩ = some (i64 sl) := blk_cell HQ.out 0
  have q1 : V.cell? ⟨w.heap.size, 1, none⟩ = some (i64 gn) := blk_cell HQ.out 1
  have hblo : base ≤ w.heap.size := by have := h.lt; have := h.lo; omega
  have hA := rfind_ok (h.below hbV) hl env sl gn
  rw [hf] at hA
  have HA := hid hA
  have HRV := hid (h.below hbV)
  have HBV := hid hbV
  have HKl : Hid (∀ W, Rb W base r L → Calls Try.prog 47 #[pq r, i64 (k : Nat), .bool self] W fun e w' => e = .returned (i64 (cnt L.length (klB L k self) : Nat)) ∧ Rb w' base r (offs (klB L k self) L) ∧ Fr base [30, 66] W w') := fun W hW => rkill_ok hW hl hfw k self
  clear hA hf h hV hbV hfw
  go_enter Try.func29, Try.ntmps29
  go_upto_region 1 with fail
  rw [HV.out]
  go_wp2_with fail
  refine HA.out.mono ?_
  rintro e w1 ⟨rfl, hb1⟩
  have HB1 : Hid (Below w.heap.size w w1) := HBV.out.trans (hb1.mono HBV.out.size)
  have HR1 := hid (HRV.out.below hb1)
  clear hb1
  go_wp2_with fail
  refine (HKl.out w1 HR1.out).mono ?_
  rintro e w2 ⟨rfl, hr2, hf2⟩
  have HR2 := hid hr2
  have HF2 : Hid (Fr base [30, 66] w w2) := (Fr.of_below _ HB1.out hblo).trans hf2
  clear hr2 hf2
  go_wp2_with fail
  go_ret2
  exact ⟨rfl, HR2.out, HF2.out⟩
end Go.Proofs.Ytcffodkpflfeoaa
