/- vals' fitsAlone, below: their contracts; no statement is proved in this text. -/
import Derived.Deep.QuietTactic
import Derived.BigQuiet
import Derived.Test.YtihbbgcpdgnhoaaGreatDoorVm
import Derived.Test.YtihbbgcpdgnhoaaGreatDoorRf
import Derived.Test.YtihbbgcpdgnhoaaGreatDoorTx0
namespace Go.Proofs.YtihbbgcpdgnhoaaGreatDoor
open Go.ChangeShapes Go.WideShapes Go.ChangeAt Go.RowKit Go.Deep
attribute [local go_sem ↓] Go.wp_at_zero Go.wp_at_succ

theorem str_nil (s : Bs) : ((⟨s.toArray⟩ : ByteArray) == ⟨#[]⟩) = decide (s = []) := by
  show (s.toArray == #[]) = _
  cases s with
  | nil => rfl
  | cons a r => rfl
set_option maxRecDepth 100000 in
set_option maxHeartbeats 12800000 in
theorem fa_in (k n : Int) (s : Bs) (ak : Option Addr) (m ck : Nat) (tk tn : Int) (an : Option Addr) (nn cn : Nat) (at_ : Option Addr) (tm ct : Nat) (w : World) (hs : s.length ≤ maxLen) (hm : m ≤ maxLen) (htm : tm ≤ maxLen) (htn : tk = 1 → tn = 8 ∨ tn = 16 ∨ tn = 32) :
    Calls Tryz.prog 64 #[.agg #[i64 k, i64 n, str s, .slice ak m ck], .agg #[i64 tk, i64 tn, .slice an nn cn, .slice at_ tm ct]] w fun e w' => e = .returned (.bool (alB k n s m tk tn tm)) ∧ Below w.heap.size w w' := by
  obtain ⟨R, hRe⟩ : ∃ R, R = alB k n s m tk tn tm := ⟨_, rfl⟩
  have HRe := hid hRe
  rw [← hRe]
  clear hRe
  unfold maxLen at hs hm htm
  have hbl := bz s
  have HX : Hid (((w.alloc (.cells #[i64 k, i64 n, str s, .slice ak m ck] 28)).alloc (.cells #[i64 tk, i64 tn, .slice an nn cn, .slice at_ tm ct] 25)).heap[w.heap.size]? = some (.cells #[i64 k, i64 n, str s, .slice ak m ck] 28)) := blk_alloc (heap_last w _) _
  have HY : Hid (((w.alloc (.cells #[i64 k, i64 n, str s, .slice ak m ck] 28)).alloc (.cells #[i64 tk, i64 tn, .slice an nn cn, .slice at_ tm ct] 25)).heap[w.heap.size + 1]? = some (.cells #[i64 tk, i64 tn, .slice an nn cn, .slice at_ tm ct] 25)) := heap_at3 _ _ _ (by simp)
  have HBV : Hid (Below w.heap.size w ((w.alloc (.cells #[i64 k, i64 n, str s, .slice ak m ck] 28)).alloc (.cells #[i64 tk, i64 tn, .slice an nn cn, .slice at_ tm ct] 25))) := (below_one w _).trans ((below_one _ _).mono (by simp))
  go_enter Tryz.func64, Tryz.ntmps64
  go_upto_region 1 with fail
  generalize (w.alloc (.cells #[i64 k, i64 n, str s, .slice ak m ck] 28)).alloc (.cells #[i64 tk, i64 tn, .slice an nn cn, .slice at_ tm ct] 25) = V0 at *
  obtain ⟨Z, hZ⟩ : ∃ Z, Z = w.heap.size := ⟨_, rfl⟩
  obtain ⟨Y, hY⟩ : ∃ Y, Y = w.heap.size + 1 := ⟨_, rfl⟩
  rw [← hZ] at HX
  rw [← hY] at HY
  rw [← hY, ← hZ]
  clear hZ hY
  unfold alB at HRe
  have zc0 : V0.cell? ⟨Z, 0, none⟩ = some (i64 k) := blk_cell HX.out 0
  have zc1 : V0.cell? ⟨Z, 1, none⟩ = some (i64 n) := blk_cell HX.out 1
  have zc2 : V0.cell? ⟨Z, 2, none⟩ = some (str s) := blk_cell HX.out 2
  have zc3 : V0.cell? ⟨Z, 3, none⟩ = some (.slice ak m ck) := blk_cell HX.out 3
  have yc0 : V0.cell? ⟨Y, 0, none⟩ = some (i64 tk) := blk_cell HY.out 0
  have yc1 : V0.cell? ⟨Y, 1, none⟩ = some (i64 tn) := blk_cell HY.out 1
  have yc2 : V0.cell? ⟨Y, 2, none⟩ = some (.slice an nn cn) := blk_cell HY.out 2
  have yc3 : V0.cell? ⟨Y, 3, none⟩ = some (.slice at_ tm ct) := blk_cell HY.out 3
  by_cases kt : k = tk
  · subst kt
    by_cases k1 : k = 1
    · subst k1
      by_cases s0 : s = []
      · subst s0
        have hsl : ([] : Bs).length = 0 := rfl
        by_cases n0 : 0 ≤ n
        · rcases htn rfl with rfl | rfl | rfl
          · by_cases np : n < 256
            · have HP : Hid (n < 2 ^ (8 : Int).toNat) := by show _ < _; exact np
              by_cases m0 : m = 0
              · subst m0
                have HV : Hid (R = true) := by show _ = _; rw [HRe.out]; simp [n0]; first | exact HP.out | skip
                clear HRe
                go_upto_region 5 with fail
                go_quiet (fail)
                go_wp2_with fail
                go_ret
                exact ⟨by rw [HV.out]; rfl, below_drewN HBV.out _⟩
              · have m0I : ((m : Int) == 0) = false := by simp; omega
                have HV : Hid (R = false) := by show _ = _; rw [HRe.out]; simp [m0]
                clear HRe
                go_upto_region 5 with fail
                go_quiet (fail)
                go_wp2_with fail
                go_ret
                exact ⟨by rw [HV.out]; rfl, below_drewN HBV.out _⟩
            · have HP : Hid (¬ n < 2 ^ (8 : Int).toNat) := by show ¬ _ < _; exact np
              have npI : decide (n < 256) = false := by simpa using np
              have HV : Hid (R = false) := by show _ = _; rw [HRe.out]; simp [n0]; intro h; exact absurd h HP.out
              clear HRe
              go_upto_region 5 with fail
              go_quiet (fail)
              go_wp2_with fail
              go_ret
              exact ⟨by rw [HV.out]; rfl, below_drewN HBV.out _⟩
          · by_cases np : n < 65536
            · have HP : Hid (n < 2 ^ (16 : Int).toNat) := by show _ < _; exact np
              by_cases m0 : m = 0
              · subst m0
                have HV : Hid (R = true) := by show _ = _; rw [HRe.out]; simp [n0]; first | exact HP.out | skip
                clear HRe
                go_upto_region 5 with fail
                go_quiet (fail)
                go_wp2_with fail
                go_ret
                exact ⟨by rw [HV.out]; rfl, below_drewN HBV.out _⟩
              · have m0I : ((m : Int) == 0) = false := by simp; omega
                have HV : Hid (R = false) := by show _ = _; rw [HRe.out]; simp [m0]
                clear HRe
                go_upto_region 5 with fail
                go_quiet (fail)
                go_wp2_with fail
                go_ret
                exact ⟨by rw [HV.out]; rfl, below_drewN HBV.out _⟩
            · have HP : Hid (¬ n < 2 ^ (16 : Int).toNat) := by show ¬ _ < _; exact np
              have npI : decide (n < 65536) = false := by simpa using np
              have HV : Hid (R = false) := by show _ = _; rw [HRe.out]; simp [n0]; intro h; exact absurd h HP.out
              clear HRe
              go_upto_region 5 with fail
              go_quiet (fail)
              go_wp2_with fail
              go_ret
              exact ⟨by rw [HV.out]; rfl, below_drewN HBV.out _⟩
          · by_cases np : n < 4294967296
            · have HP : Hid (n < 2 ^ (32 : Int).toNat) := by show _ < _; exact np
              by_cases m0 : m = 0
              · subst m0
                have HV : Hid (R = true) := by show _ = _; rw [HRe.out]; simp [n0]; first | exact HP.out | skip
                clear HRe
                go_upto_region 5 with fail
                go_quiet (fail)
                go_wp2_with fail
                go_ret
                exact ⟨by rw [HV.out]; rfl, below_drewN HBV.out _⟩
              · have m0I : ((m : Int) == 0) = false := by simp; omega
                have HV : Hid (R = false) := by show _ = _; rw [HRe.out]; simp [m0]
                clear HRe
                go_upto_region 5 with fail
                go_quiet (fail)
                go_wp2_with fail
                go_ret
                exact ⟨by rw [HV.out]; rfl, below_drewN HBV.out _⟩
            · have HP : Hid (¬ n < 2 ^ (32 : Int).toNat) := by show ¬ _ < _; exact np
              have npI : decide (n < 4294967296) = false := by simpa using np
              have HV : Hid (R = false) := by show _ = _; rw [HRe.out]; simp [n0]; intro h; exact absurd h HP.out
              clear HRe
              go_upto_region 5 with fail
              go_quiet (fail)
              go_wp2_with fail
              go_ret
              exact ⟨by rw [HV.out]; rfl, below_drewN HBV.out _⟩
        · have n0I : decide (0 ≤ n) = false := by simpa using n0
          have HV : Hid (R = false) := by show _ = _; rw [HRe.out]; simp [n0]
          clear HRe
          go_upto_region 5 with fail
          go_quiet (fail)
          go_wp2_with fail
          go_ret
          exact ⟨by rw [HV.out]; rfl, below_drewN HBV.out _⟩
      · have s0K : s.isEmpty = false := by simpa using s0
        have HV : Hid (R = false) := by show _ = _; rw [HRe.out]; simp [s0]
        clear HRe
        go_wp2_with fail
        go_ret
        exact ⟨by rw [HV.out]; rfl, HBV.out⟩
    · have k1I : (k != 1) = true := by simpa using k1
      by_cases k2 : k = 2
      · subst k2
        by_cases n0 : n = 0
        · subst n0
          by_cases sl : (s.length : Int) ≤ tn
          · by_cases m0 : m = 0
            · subst m0
              have HV : Hid (R = true) := by show _ = _; rw [HRe.out]; simp [sl]
              clear HRe
              go_wp2_with fail
              go_ret
              exact ⟨by rw [HV.out]; rfl, HBV.out⟩
            · have m0I : ((m : Int) == 0) = false := by simp; omega
              have HV : Hid (R = false) := by show _ = _; rw [HRe.out]; simp [m0]
              clear HRe
              go_wp2_with fail
              go_ret
              exact ⟨by rw [HV.out]; rfl, HBV.out⟩
          · have slI : decide ((s.length : Int) ≤ tn) = false := by simpa using sl
            have HV : Hid (R = false) := by show _ = _; rw [HRe.out]; simp [sl]
            clear HRe
            go_wp2_with fail
            go_ret
            exact ⟨by rw [HV.out]; rfl, HBV.out⟩
        · have n0I : (n != 0) = true := by simpa using n0
          have HV : Hid (R = false) := by show _ = _; rw [HRe.out]; simp [n0]
          clear HRe
          go_wp2_with fail
          go_ret
          exact ⟨by rw [HV.out]; rfl, HBV.out⟩
      · have k2I : (k != 2) = true := by simpa using k2
        by_cases k3 : k = 3
        · subst k3
          by_cases n0 : n = 0
          · subst n0
            by_cases s0 : s = []
            · subst s0
              have hsl : ([] : Bs).length = 0 := rfl
              by_cases ml : (m : Int) ≤ tn
              · have HV : Hid (R = true) := by show _ = _; rw [HRe.out]; simp [ml]
                clear HRe
                go_wp2_with fail
                go_ret
                exact ⟨by rw [HV.out]; rfl, HBV.out⟩
              · have HV : Hid (R = false) := by show _ = _; rw [HRe.out]; simp [ml]
                clear HRe
                go_wp2_with fail
                go_ret
                exact ⟨by rw [HV.out]; rfl, HBV.out⟩
            · have s0K : s.isEmpty = false := by simpa using s0
              have HV : Hid (R = false) := by show _ = _; rw [HRe.out]; simp [s0]
              clear HRe
              go_wp2_with fail
              go_ret
              exact ⟨by rw [HV.out]; rfl, HBV.out⟩
          · have n0I : (n != 0) = true := by simpa using n0
            have HV : Hid (R = false) := by show _ = _; rw [HRe.out]; simp [n0]
            clear HRe
            go_wp2_with fail
            go_ret
            exact ⟨by rw [HV.out]; rfl, HBV.out⟩
        · by_cases n0 : n = 0
          · subst n0
            by_cases s0 : s = []
            · subst s0
              have hsl : ([] : Bs).length = 0 := rfl
              by_cases mt : m = tm
              · subst mt
                have mtI : ((m : Int) == (m : Int)) = true := by simp
                have HV : Hid (R = true) := by show _ = _; rw [HRe.out]; simp [k1, k2, k3]
                clear HRe
                go_wp2_with fail
                go_ret
                exact ⟨by rw [HV.out]; rfl, HBV.out⟩
              · have mtI : ((m : Int) == (tm : Int)) = false := by simp; omega
                have HV : Hid (R = false) := by show _ = _; rw [HRe.out]; simp [k1, k2, k3, mt]
                clear HRe
                go_wp2_with fail
                go_ret
                exact ⟨by rw [HV.out]; rfl, HBV.out⟩
            · have s0K : s.isEmpty = false := by simpa using s0
              have HV : Hid (R = false) := by show _ = _; rw [HRe.out]; simp [s0, k1, k2, k3]
              clear HRe
              go_wp2_with fail
              go_ret
              exact ⟨by rw [HV.out]; rfl, HBV.out⟩
          · have n0I : (n != 0) = true := by simpa using n0
            have HV : Hid (R = false) := by show _ = _; rw [HRe.out]; simp [n0, k1, k2, k3]
            clear HRe
            go_wp2_with fail
            go_ret
            exact ⟨by rw [HV.out]; rfl, HBV.out⟩
  · have ktI : (k != tk) = true := by simpa using kt
    have HV : Hid (R = false) := by show _ = _; rw [HRe.out]; simp [kt]
    clear HRe
    go_wp2_with fail
    go_ret
    exact ⟨by rw [HV.out]; rfl, HBV.out⟩
end Go.Proofs.YtihbbgcpdgnhoaaGreatDoor
