/- envs.Turn, the document's Turn: contracts; no statement is proved in this text. -/
import Derived.Test.YtopbgeoledocaaaPost
namespace Go.Proofs.Ytopbgeoledocaaa
open Go.ChangeShapes Go.WideShapes Go.ChangeAt Go.RowKit Go.Deep
attribute [local go_sem ↓] Go.wp_at_zero Go.wp_at_succ

/-- A slice of ints. -/
def NSl (w : World) (ao : Option Addr) (len : Nat) (f : Nat → Int) : Prop := len = 0 ∨ ∃ b off, ao = some ⟨b, off, none⟩ ∧ b < w.heap.size ∧ ∀ i, i < len → w.cell? ⟨b, off + i, none⟩ = some (i64 (f i))
theorem NSl.below {w w' : World} {ao : Option Addr} {len : Nat} {f : Nat → Int} (h : NSl w ao len f) (hb : Below w.heap.size w w') : NSl w' ao len f := by
  rcases h with h | ⟨b, off, rfl, hlt, hc⟩
  · exact Or.inl h
  · exact Or.inr ⟨b, off, rfl, Nat.lt_of_lt_of_le hlt hb.size, fun i hi => by rw [hb.cell (by exact hlt)]; exact hc i hi⟩
theorem NSl.at {w : World} {ao : Option Addr} {len : Nat} {f : Nat → Int} (h : NSl w ao len f) {k : Nat} (hk : k < len) : ∃ b off, ao = some ⟨b, off, none⟩ ∧ b < w.heap.size ∧ w.cell? ⟨b, off + k, none⟩ = some (i64 (f k)) := by
  rcases h with h | ⟨b, off, rfl, hlt, hc⟩
  · omega
  · exact ⟨b, off, rfl, hlt, hc k hk⟩
theorem turn_zero (w : World) (ao : Option Addr) (cap : Nat) (p : Int) : Calls Try.prog 15 #[.slice ao 0 cap, i64 p] w fun e w' => e = .returned (i64 0) ∧ w' = w := by
  go_enter Try.func15, Try.ntmps15
  go_wp2_with fail
  go_ret
  exact ⟨rfl, rfl⟩
theorem tmod_two (v m : Int) : v.tmod m = if 0 ≤ v then v % m else -((-v) % m) := by
  split
  · rename_i h
    exact Int.tmod_eq_emod_of_nonneg h
  · rename_i h
    rw [show v = -(-v) by omega, Int.neg_tmod, Int.tmod_eq_emod_of_nonneg (show 0 ≤ -v by omega), Int.neg_neg]
theorem tmod_fix (p n : Int) (hn : 0 < n) : p % n = if p.tmod n < 0 then p.tmod n + n else p.tmod n := by
  have h := tmod_two p n
  have a1 := Int.emod_nonneg (-p) (show n ≠ 0 by omega)
  have a2 := Int.emod_lt_of_pos (-p) hn
  have b1 := Int.emod_nonneg p (show n ≠ 0 by omega)
  have b2 := Int.emod_lt_of_pos p hn
  have hd : p % n = (p.tmod n) % n := by
    have := Int.mul_tdiv_add_tmod p n
    have h2 : (n * p.tdiv n + p.tmod n) % n = p.tmod n % n := by rw [Int.add_comm, Int.add_mul_emod_self_left]
    rw [this] at h2
    exact h2
  split
  · rename_i hr
    rw [hd, ← Int.add_emod_right]
    refine Int.emod_eq_of_lt ?_ (by omega)
    rw [h]
    split <;> omega
  · rename_i hr
    rw [hd]
    refine Int.emod_eq_of_lt (by omega) ?_
    rw [h]
    split <;> omega
set_option maxHeartbeats 800000 in
theorem turn_in (w : World) (ao : Option Addr) (len cap : Nat) (p : Int) (f : Nat → Int) (hS : NSl w ao len f) (h0 : 0 < len) (hl : len ≤ 100) : Calls Try.prog 15 #[.slice ao len cap, i64 p] w fun e w' => e = .returned (i64 (f (p % (len : Int)).toNat)) ∧ w' = w := by
  have hlI : (len : Int) ≤ 100 := by omega
  have h0I : (0 : Int) < len := by omega
  have hne : ((len : Int) == 0) = false := by simp; omega
  have e0 := Int.emod_nonneg p (show (len : Int) ≠ 0 by omega)
  have e1 := Int.emod_lt_of_pos p h0I
  have hfx := tmod_fix p len h0I
  obtain ⟨K, hK⟩ : ∃ K : Nat, (K : Int) = p % (len : Int) := ⟨(p % (len : Int)).toNat, by omega⟩
  have hKl : K < len := by omega
  obtain ⟨B, off, rfl, _, hc⟩ := hS.at hKl
  rw [← hK, Int.toNat_natCast]
  have HK := hid hK
  have HX := hid hfx
  clear hfx e0 e1 hK hS
  go_enter Try.func15, Try.ntmps15
  go_upto_region 5 with fail
  have HX2 := HX.out
  rw [← HK.out] at HX2
  clear HX HK
  generalize p.tmod (len : Int) = r at *
  have hKI : (K : Int) < len := by omega
  have hK0 : (0 : Int) ≤ K := by omega
  by_cases hr : r < 0
  · rw [if_pos hr] at HX2
    obtain rfl : r = (K : Int) - len := by omega
    clear HX2
    go_wp2_with fail
    go_ret
    exact ⟨rfl, rfl⟩
  · rw [if_neg hr] at HX2
    subst HX2
    go_wp2_with fail
    go_ret
    exact ⟨rfl, rfl⟩
theorem rturn_zero (w : World) (ao : Option Addr) (cap : Nat) (p : Int) : Calls Try.prog 16 #[.slice ao 0 cap, i64 p] w fun e w' => e = .returned (i64 0) ∧ w' = w := by
  go_enter Try.func16, Try.ntmps16
  go_wp2_with fail
  go_ret
  exact ⟨rfl, rfl⟩
set_option maxHeartbeats 800000 in
theorem rturn_in (w : World) (ao : Option Addr) (len cap : Nat) (p : Int) (f : Nat → Int) (hS : NSl w ao len f) (h0 : 0 < len) (hl : len ≤ 100) : Calls Try.prog 16 #[.slice ao len cap, i64 p] w fun e w' => e = .returned (i64 (f (p % (len : Int)).toNat)) ∧ w' = w := by
  have hlI : (len : Int) ≤ 100 := by omega
  have h0I : (0 : Int) < len := by omega
  have hne : ((len : Int) == 0) = false := by simp; omega
  have e0 := Int.emod_nonneg p (show (len : Int) ≠ 0 by omega)
  have e1 := Int.emod_lt_of_pos p h0I
  have hfx := tmod_fix p len h0I
  obtain ⟨K, hK⟩ : ∃ K : Nat, (K : Int) = p % (len : Int) := ⟨(p % (len : Int)).toNat, by omega⟩
  have hKl : K < len := by omega
  obtain ⟨B, off, rfl, _, hc⟩ := hS.at hKl
  rw [← hK, Int.toNat_natCast]
  have HK := hid hK
  have HX := hid hfx
  clear hfx e0 e1 hK hS
  go_enter Try.func16, Try.ntmps16
  go_upto_region 5 with fail
  have HX2 := HX.out
  rw [← HK.out] at HX2
  clear HX HK
  generalize p.tmod (len : Int) = r at *
  have hKI : (K : Int) < len := by omega
  have hK0 : (0 : Int) ≤ K := by omega
  by_cases hr : r < 0
  · rw [if_pos hr] at HX2
    obtain rfl : r = (K : Int) - len := by omega
    clear HX2
    go_wp2_with fail
    go_ret
    exact ⟨rfl, rfl⟩
  · rw [if_neg hr] at HX2
    subst HX2
    go_wp2_with fail
    go_ret
    exact ⟨rfl, rfl⟩
end Go.Proofs.Ytopbgeoledocaaa
