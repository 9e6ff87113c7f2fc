/- same: two lists that read alike; no statement is proved in this text. -/
import Derived.Test.YtojhmiggocommaaDo
namespace Go.Proofs.Ytojhmiggocommaa
open Go.ChangeShapes Go.WideShapes Go.ChangeAt Go.RowKit Go.Deep
attribute [local go_sem ↓] Go.wp_at_zero Go.wp_at_succ

/-- A slice of pairs that reads as a list. -/
def Rd2 (w : World) (ao : Option Addr) (X : List In) : Prop := ∀ i p, X[i]? = some p → ∃ g, ao = some ⟨g, 0, none⟩ ∧ g < w.heap.size ∧ w.cell? ⟨g, i * 2, none⟩ = some (i64 p.1) ∧ w.cell? ⟨g, i * 2 + 1, none⟩ = some (str p.2)
theorem Rd2.below {w w' : World} {ao : Option Addr} {X : List In} (h : Rd2 w ao X) (hb : Below w.heap.size w w') : Rd2 w' ao X := fun i p hp => by
  obtain ⟨g, h1, h2, h3, h4⟩ := h i p hp
  exact ⟨g, h1, Nat.lt_of_lt_of_le h2 hb.size, by rw [hb.cell (by exact h2)]; exact h3, by rw [hb.cell (by exact h2)]; exact h4⟩
theorem Rd2.own {w : World} {base : Nat} {t : TypeId} {ao : Option Addr} {cap : Nat} {X : List In} (h2 : w.ownsRow base t 2 (.slice ao X.length cap) X.length (icn X)) : Rd2 w ao X := fun i p hp => by
  have hi : i < X.length := (List.getElem?_eq_some_iff.1 hp).1
  rcases h2.2 with ⟨_, h0⟩ | ⟨g, cap', cur, he, hbg, hgg, _⟩
  · omega
  · simp only [Value.slice.injEq] at he
    obtain ⟨rfl, _, rfl⟩ := he
    refine ⟨g, rfl, blk_lt hgg, ?_, ?_⟩
    · rw [h2.cellAt _ (by omega), (icn_get X i p hp).1]
    · rw [h2.cellAt _ (by omega), (icn_get X i p hp).2]
set_option maxRecDepth 100000 in
set_option maxHeartbeats 3200000 in
theorem same_ok (w : World) (a1 a2 : Option Addr) (c1 c2 : Nat) (X : List In) (hX : X.length ≤ 100) (h1 : Rd2 w a1 X) (h2 : Rd2 w a2 X) : Calls Try.prog 12 #[.slice a1 X.length c1, .slice a2 X.length c2] w fun e w' => e = .returned (.bool true) ∧ Below w.heap.size w w' := by
  have H1 := hid h1
  have H2 := hid h2
  obtain ⟨n, hn⟩ : ∃ n, n = X.length := ⟨_, rfl⟩
  have HN := hid hn
  rw [← hn] at hX ⊢
  have hnI : (n : Int) ≤ 100 := by omega
  clear h1 h2 hn
  go_enter Try.func12, Try.ntmps12
  go_wp2_with fail
  go_loopw [9] (fun u wr => ∃ k : Nat, k ≤ n ∧ u = i64 k ∧ Hid (Below w.heap.size w wr)) (fun u _ => n - (intOf u).toNat)
  case atStart => exact ⟨0, by omega, rfl, Below.refl _ _⟩
  case round =>
    obtain ⟨k, hk, rfl, HB⟩ := hrel
    by_cases hlt : k < n
    · obtain ⟨p, hp⟩ : ∃ p, X[k]? = some p := ⟨_, List.getElem?_eq_getElem (by rw [← HN.out]; exact hlt)⟩
      obtain ⟨g1, hg1, hl1, c11, c12⟩ := H1.out.below HB.out k p hp
      obtain ⟨g2, hg2, hl2, c21, c22⟩ := H2.out.below HB.out k p hp
      subst hg1
      subst hg2
      have hkI : (k : Int) < n := by omega
      have HBV : Hid (Below w.heap.size w (wr.alloc (.cells #[i64 p.1, str p.2] 46))) := HB.out.alloc HB.out.size _
      clear hp
      go_upto_region 4 with fail
      go_quiet (fail)
      go_wp2_with fail
      exact ⟨⟨k + 1, by omega, by go_num, below_drewN HBV.out _⟩, by simp [intOf]; omega⟩
    · go_wp2_with fail
      go_ret
      exact ⟨rfl, HB.out⟩
end Go.Proofs.Ytojhmiggocommaa
