/- long; PipesOrder's walk; no statement is proved in this text. -/
import Derived.Test.YtojhmiggocommaaArgs
namespace Go.Proofs.Ytojhmiggocommaa
open Go.ChangeShapes Go.WideShapes Go.ChangeAt Go.RowKit Go.Deep
attribute [local go_sem ↓] Go.wp_at_zero Go.wp_at_succ

def LoA (w : World) (len : Nat) (f : Nat → Sp) (e : Ending) (w' : World) : Prop := ∃ b, e = .returned (.bool b) ∧ (b = false → len ≤ 61 ∧ ∀ i, i < len → (f i).s.size ≤ 100) ∧ Below w.heap.size w w'
set_option maxRecDepth 100000 in
set_option maxHeartbeats 3200000 in
theorem long_ok (w : World) (ao : Option Addr) (len cap : Nat) (f : Nat → Sp) (hlen : len ≤ maxLen) (hS : SSl w ao len f) : Calls Try.prog 9 #[.slice ao len cap] w fun e w' => LoA w len f e w' := by
  have hm : (len : Int) ≤ 9223372036854775807 := by unfold maxLen at hlen; omega
  have HSb := hid hS
  clear hS hlen
  go_enter Try.func9, Try.ntmps9
  go_wp2_with fail
  go_loopw [7] (fun u wr => ∃ k : Nat, k ≤ len ∧ u = i64 k ∧ Hid (k ≤ 61 ∧ ∀ i, i < k → (f i).s.size ≤ 100) ∧ Hid (Below w.heap.size w wr)) (fun u _ => len - (intOf u).toNat)
  case atStart => exact ⟨0, by omega, rfl, ⟨by omega, fun i hi => absurd hi (by omega)⟩, Below.refl _ _⟩
  case round =>
    obtain ⟨k, hk, rfl, HK, HB⟩ := hrel
    by_cases hlt : k < len
    · have hkI : (k : Int) < len := by omega
      obtain ⟨B, off, hao, hb, hr⟩ := (HSb.out.below HB.out).at hlt
      subst hao
      obtain ⟨x, hx⟩ : ∃ x, x = f k := ⟨_, rfl⟩
      have HX := hid hx
      rw [← hx] at hr
      have c0 : wr.cell? ⟨B, off + k * 4, none⟩ = some (i64 x.what) := hr 0 _ rfl
      have c1 : wr.cell? ⟨B, off + k * 4 + 1, none⟩ = some (i64 x.id) := hr 1 _ rfl
      have c2 : wr.cell? ⟨B, off + k * 4 + 2, none⟩ = some (i64 x.n) := hr 2 _ rfl
      have c3 : wr.cell? ⟨B, off + k * 4 + 3, none⟩ = some (.string x.s) := hr 3 _ rfl
      have HBV : Hid (Below w.heap.size w (wr.alloc (spO x))) := HB.out.alloc HB.out.size _
      clear hx hr hb
      by_cases h60 : 60 < k
      · have h60' : (60 : Int) < k := by omega
        go_wp2_with fail
        go_ret
        exact ⟨true, rfl, (fun h => by cases h), HBV.out⟩
      · have h60' : ¬ (60 : Int) < k := by omega
        by_cases h100 : 100 < x.s.size
        · have h100' : (100 : Int) < x.s.size := by omega
          go_wp2_with fail
          go_ret
          exact ⟨true, rfl, (fun h => by cases h), HBV.out⟩
        · have h100' : ¬ (100 : Int) < x.s.size := by omega
          have HK2 : Hid (k + 1 ≤ 61 ∧ ∀ i, i < k + 1 → (f i).s.size ≤ 100) := ⟨by omega, fun i hi => by
            by_cases he : i = k
            · subst he
              rw [← HX.out]
              omega
            · exact HK.out.2 i (by omega)⟩
          go_wp2_with fail
          exact ⟨⟨k + 1, by omega, by go_num, HK2, HBV⟩, by simp [intOf]; omega⟩
    · have HE : Hid (len ≤ 61 ∧ ∀ i, i < len → (f i).s.size ≤ 100) := by
        have e : k = len := by omega
        rw [← e]
        exact HK.out
      go_wp2_with fail
      go_ret
      exact ⟨false, rfl, fun _ => HE.out, HB.out⟩
end Go.Proofs.Ytojhmiggocommaa
