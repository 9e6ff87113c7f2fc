/- four; no statement is proved in this text. -/
import Derived.Test.YtlkcpjefgelcoaaTu
import Derived.Test.YtlkcpjefgelcoaaTa
namespace Go.Proofs.Ytlkcpjefgelcoaa
open Go.ChangeShapes Go.WideShapes Go.ChangeAt Go.RowKit Go.Deep
attribute [local go_sem ↓] Go.wp_at_zero Go.wp_at_succ

theorem gs1 : GS [(1, 0, 4, 3)] := GS.snoc (s := (1, 0, 4, 3)) GS.nil (by decide) (by decide) (.inr rfl)
theorem gs2 : GS [(1, 0, 4, 1)] := GS.snoc (s := (1, 0, 4, 1)) GS.nil (by decide) (by decide) (.inl rfl)
theorem gs3 : GS [(1, 0, 4, 1), (1, 4, 2, 3)] := GS.snoc (s := (1, 4, 2, 3)) gs2 (by decide) (by decide) (.inr rfl)
theorem gl_nil : (fun _ _ => (0, 0)) = Gl [] := rfl
theorem Touch.base {base t : Nat} {w w1 w2 : World} (h : Below base w w1) (hb : base ≤ t) (h2 : Touch t w1 w2) (h1 : base ≤ w1.heap.size) : Below base w w2 := h.trans (h2.below hb h1)
set_option maxRecDepth 100000 in
set_option maxHeartbeats 1600000 in
theorem four_ok (w : World) : Calls Try.prog 9 #[] w fun e w' => e = .returned (.bool true) ∧ Below w.heap.size w w' := by
  have HN := hid (snew_ok w)
  generalize w.heap.size = t at HN ⊢
  have C1 : Hid (∀ W, Tb W t [] → Calls Try.prog 18 #[pq t, i64 1, i64 4] W fun e w' => e = .returned (.tuple #[i64 0, i64 0]) ∧ Tb w' t [(1, 0, 4, 3)] ∧ Touch t W w') := fun W h => smap_yes W t 0 4 0 [] h GS.nil (by omega) (by omega) (by omega) ⟨by decide, by decide, fun j hj => by omega⟩
  have C2 : Hid (∀ W, Tb W t [(1, 0, 4, 3)] → Calls Try.prog 30 #[pq t, i64 1, i64 0, i64 1] W fun e w' => e = .returned (i64 0) ∧ Tb w' t [(1, 0, 4, 1)] ∧ Touch t W w') := fun W h => sprot_yes W t [(1, 0, 4, 3)] 1 0 1 (1, 0, 4, 3) h gs1 (by decide) (.inl rfl)
  have C3 : Hid (∀ W, Tb W t [(1, 0, 4, 1)] → Calls Try.prog 18 #[pq t, i64 1, i64 2] W fun e w' => e = .returned (.tuple #[i64 4, i64 0]) ∧ Tb w' t [(1, 0, 4, 1), (1, 4, 2, 3)] ∧ Touch t W w') := fun W h => smap_yes W t 0 2 4 [(1, 0, 4, 1)] h gs2 (by omega) (by omega) (by omega) ⟨by decide, by decide, fun j hj => by
    rcases (show j = 0 ∨ j = 1 ∨ j = 2 ∨ j = 3 by omega) with rfl | rfl | rfl | rfl <;> decide⟩
  have M1 : Hid (∀ W, Tb W t [(1, 0, 4, 1), (1, 4, 2, 3)] → Calls Try.prog 15 #[pq t, i64 1, i64 3, .bool true] W fun e w' => e = .returned (.bool false) ∧ w' = W) := fun W h => smay_ok W t [(1, 0, 4, 1), (1, 4, 2, 3)] 1 3 true h gs3
  have M2 : Hid (∀ W, Tb W t [(1, 0, 4, 1), (1, 4, 2, 3)] → Calls Try.prog 15 #[pq t, i64 1, i64 3, .bool false] W fun e w' => e = .returned (.bool true) ∧ w' = W) := fun W h => smay_ok W t [(1, 0, 4, 1), (1, 4, 2, 3)] 1 3 false h gs3
  have M3 : Hid (∀ W, Tb W t [(1, 0, 4, 1), (1, 4, 2, 3)] → Calls Try.prog 15 #[pq t, i64 1, i64 5, .bool true] W fun e w' => e = .returned (.bool true) ∧ w' = W) := fun W h => smay_ok W t [(1, 0, 4, 1), (1, 4, 2, 3)] 1 5 true h gs3
  have A1 : Hid (∀ W, Tb W t [(1, 0, 4, 1), (1, 4, 2, 3)] → Calls Try.prog 13 #[pq t] W fun e w' => (∃ ao cap, e = .returned (.slice ao 2 cap)) ∧ Below W.heap.size W w') := fun W h => (sall_ok W t _ h gs3).mono fun e w' ⟨⟨ao, cap, he, _⟩, hb⟩ => ⟨⟨ao, cap, he⟩, hb⟩
  go_enter Try.func9, Try.ntmps9
  go_wp2_with fail
  refine HN.out.mono ?_
  rintro e1 w1 ⟨rfl, hT1, hb1⟩
  have HT1 : Hid (Tb w1 t []) := hT1
  have HB1 := hid hb1
  clear hT1 hb1 HN
  go_wp2_with fail
  refine (C1.out w1 HT1.out).mono ?_
  rintro e2 w2 ⟨rfl, hT2, hO2⟩
  have HT2 := hid hT2
  have HB2 : Hid (Below t w w2) := HB1.out.trans (hO2.below (Nat.le_refl _) (Nat.le_of_lt HT1.out.lt))
  clear hT2 hO2 C1
  go_wp2_with fail
  refine (C2.out w2 HT2.out).mono ?_
  rintro e3 w3 ⟨rfl, hT3, hO3⟩
  have HT3 := hid hT3
  have HB3 : Hid (Below t w w3) := HB2.out.trans (hO3.below (Nat.le_refl _) (Nat.le_of_lt HT2.out.lt))
  clear hT3 hO3 C2
  go_wp2_with fail
  refine (C3.out w3 HT3.out).mono ?_
  rintro e4 w4 ⟨rfl, hT4, hO4⟩
  have HT4 := hid hT4
  have HB4 : Hid (Below t w w4) := HB3.out.trans (hO4.below (Nat.le_refl _) (Nat.le_of_lt HT3.out.lt))
  clear hT4 hO4 C3
  go_wp2_with fail
  refine (M1.out w4 HT4.out).mono ?_
  rintro e5 w5 ⟨rfl, hv⟩
  replace hv := hv.symm
  subst hv
  go_wp2_with fail
  refine (M2.out w4 HT4.out).mono ?_
  rintro e6 w6 ⟨rfl, hv⟩
  replace hv := hv.symm
  subst hv
  go_wp2_with fail
  refine (M3.out w4 HT4.out).mono ?_
  rintro e7 w7 ⟨rfl, hv⟩
  replace hv := hv.symm
  subst hv
  go_wp2_with fail
  refine (A1.out w4 HT4.out).mono ?_
  rintro e8 w8 ⟨⟨ao, cap, rfl⟩, hb8⟩
  have HB8 : Hid (Below t w w8) := HB4.out.trans (hb8.mono (Nat.le_of_lt HT4.out.lt))
  clear hb8
  go_wp2_with fail
  go_ret
  exact ⟨rfl, HB8.out⟩
end Go.Proofs.Ytlkcpjefgelcoaa
