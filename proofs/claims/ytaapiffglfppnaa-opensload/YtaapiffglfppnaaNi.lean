/- nine; no statement is proved in this text. -/
import Derived.Test.YtaapiffglfppnaaAd
namespace Go.Proofs.Ytaapiffglfppnaa
open Go.ChangeShapes Go.WideShapes Go.ChangeAt Go.RowKit Go.Deep
attribute [local go_sem ↓] Go.wp_at_zero Go.wp_at_succ

def V0 : Nat → Op4 := fun _ => (0, 0, 0, 0)
def A1 (X : Nat) : Tab := upd A0 0 0 (some X)
def A2 (X : Nat) : Tab := upd (A1 X) 0 1 (some X)
def V1 (X : Nat) : Nat → Op4 := newV V0 X (0, 2, 2, 0)
def V2 (X : Nat) : Nat → Op4 := mvV (V1 X) X 5
def V3 (X : Nat) : Nat → Op4 := mvV (V2 X) X 9
theorem v1_at (X : Nat) : V1 X X = (0, 2, 2, 0) := by simp [V1, newV]
theorem v2_at (X : Nat) : V2 X X = (0, 2, 2, 5) := by simp [V2, mvV, v1_at]
theorem v3_at (X : Nat) : V3 X X = (0, 2, 2, 9) := by simp [V3, mvV, v2_at]
theorem ad0 : adL A0 = [] := by rfl
theorem ad2 (X : Nat) : adL (A2 X) = [(0, 0, X), (0, 1, X)] := by rfl
theorem nm2 (X : Nat) : nmL (A2 X) (V3 X) = [(0, 2, 2, 9), (0, 2, 2, 9)] := by
  rw [nmL, ad2]
  show [V3 X X, V3 X X] = _
  rw [v3_at]
theorem sml0 (V : Nat → Op4) : Sml A0 V := fun r g a _ _ h => by cases h
theorem sml2 (X : Nat) : Sml (A2 X) (V3 X) := fun r g a _ _ h => by
  have : a = X := by
    unfold A2 A1 upd A0 at h
    split at h
    · cases h; rfl
    · split at h
      · cases h; rfl
      · cases h
  subst this
  rw [v3_at]
  decide
theorem free0 {V : Nat → Op4} {i : Nat} (h : FreeA A0 V i) : i = 0 := by
  obtain ⟨M, hp, _, rfl⟩ := h
  have : M = [] := by
    have := hp.length_eq
    rw [nmL, ad0] at this
    exact List.eq_nil_of_length_eq_zero this
  rw [this]
  rfl
theorem fst0 : Fst A0 0 0 := ⟨by omega, rfl, fun j hj => by omega⟩
theorem fst1 (X : Nat) : Fst (A1 X) 0 1 := ⟨by omega, rfl, fun j hj => by
  obtain rfl : j = 0 := by omega
  intro h
  cases h⟩
theorem add9 (W : World) (t : Nat) (h : Tg W t A0 V0) : Calls Try.prog 24 #[pq t, i64 1, i64 2, i64 2] W fun e w' => e = .returned (.tuple #[i64 0, i64 0]) ∧ ∃ X, t < X ∧ Tg w' t (A1 X) (V1 X) ∧ Below t W w' := by
  have hlt := h.lt
  refine (add_gen W t 0 A0 V0 2 2 0 0 (fun _ w' => Tg w' t (A1 W.heap.size) (V1 W.heap.size) ∧ Below t W w') h (sml0 _) (by decide) (fun W' i hi hb hX => ?_)).mono fun e w' ⟨he, i, _, hq⟩ => ⟨he, W.heap.size, hlt, hq⟩
  have hi0 := free0 hi
  subst hi0
  have hT : Tg W' t A0 (V1 W.heap.size) := h.newV (Nat.le_refl _) hb
  refine (stand_yes W' t A0 (V1 W.heap.size) 0 0 W.heap.size hT (by omega) fst0 ⟨hlt, by rw [v1_at]; exact hX⟩).mono fun e w' ⟨he, hT', ho⟩ => ⟨he, hT', ?_⟩
  exact (hb.mono (Nat.le_of_lt hlt)).trans (ho.below (Nat.le_refl _) (Nat.le_of_lt hT.lt))
theorem seek9a (W : World) (t X : Nat) (hX : t < X) (h : Tg W t (A1 X) (V1 X)) : Calls Try.prog 17 #[pq t, i64 1, i64 0, i64 5] W fun e w' => e = .returned (i64 0) ∧ Tg w' t (A1 X) (V2 X) ∧ Below t W w' :=
  (seek_yes W t (A1 X) (V1 X) 0 0 5 X h (by omega) (by omega) rfl (by rw [v1_at]; decide)).mono fun _ _ ⟨he, hT, ho⟩ => ⟨he, hT, ho.below (Nat.le_of_lt hX) (Nat.le_of_lt h.lt)⟩
theorem dup9 (W : World) (t X : Nat) (h : Tg W t (A1 X) (V2 X)) : Calls Try.prog 25 #[pq t, i64 1, i64 0] W fun e w' => e = .returned (.tuple #[i64 1, i64 0]) ∧ Tg w' t (A2 X) (V2 X) ∧ Below t W w' :=
  (dup_some W t (A1 X) (V2 X) 0 0 X 1 0 (fun w' => Tg w' t (A2 X) (V2 X) ∧ Below t W w') h (by omega) (by omega) rfl ((stand_yes W t (A1 X) (V2 X) 0 1 X h (by omega) (fst1 X) (h.obj 0 0 X (by omega) (by omega) rfl)).mono fun _ _ ⟨he, hT, ho⟩ => ⟨he, hT, ho.below (Nat.le_refl _) (Nat.le_of_lt h.lt)⟩)).mono fun _ _ ⟨he, hq⟩ => ⟨he, hq⟩
theorem seek9b (W : World) (t X : Nat) (hX : t < X) (h : Tg W t (A2 X) (V2 X)) : Calls Try.prog 17 #[pq t, i64 1, i64 1, i64 9] W fun e w' => e = .returned (i64 0) ∧ Tg w' t (A2 X) (V3 X) ∧ Below t W w' :=
  (seek_yes W t (A2 X) (V2 X) 0 1 9 X h (by omega) (by omega) rfl (by rw [v2_at]; decide)).mono fun _ _ ⟨he, hT, ho⟩ => ⟨he, hT, ho.below (Nat.le_of_lt hX) (Nat.le_of_lt h.lt)⟩
theorem get9 (W : World) (t X : Nat) (h : Tg W t (A2 X) (V3 X)) : Calls Try.prog 14 #[pq t, i64 1, i64 0] W fun e w' => e = .returned (.tuple #[ev 1 0 2 2 9, i64 0]) ∧ Below W.heap.size W w' := by
  have := get_some W (pq t) (A2 X) (V3 X) 1 0 X h.tv rfl
  rw [v3_at] at this
  exact this
theorem refs9 (W : World) (t X : Nat) (h : Tg W t (A2 X) (V3 X)) : Calls Try.prog 12 #[pq t, i64 2, i64 2] W fun e w' => e = .returned (i64 2) ∧ Below W.heap.size W w' := by
  have := refs_ok W (pq t) (A2 X) (V3 X) 2 2 h.tv
  rw [nm2] at this
  exact this
theorem opens9 (W : World) (t X : Nat) (h : Tg W t (A2 X) (V3 X)) : Calls Try.prog 18 #[pq t] W fun e w' => (∃ ao cap, e = .returned (.slice ao 1 cap) ∧ 1 ≤ cap) ∧ Below W.heap.size W w' :=
  (opens_ok W (pq t) (A2 X) (V3 X) h.tv (sml2 X)).mono fun e w' ⟨⟨ao, cap, M, he, hp, _, _, hc⟩, hb⟩ => by
    have hl : M.length = 1 := by
      have := hp.length_eq
      rw [nm2] at this
      exact this
    rw [hl] at he hc
    exact ⟨⟨ao, cap, he, hc⟩, hb⟩
theorem slots9 (W : World) (t X : Nat) (h : Tg W t (A2 X) (V3 X)) : Calls Try.prog 16 #[pq t] W fun e w' => (∃ ao cap, e = .returned (.slice ao 2 cap)) ∧ Below W.heap.size W w' :=
  (slots_ok W (pq t) (A2 X) (V3 X) h.tv).mono fun e w' ⟨⟨ao, cap, he, _⟩, hb⟩ => by
    have hl : (slL (A2 X) (V3 X)).length = 2 := by rw [slL, ad2]; rfl
    rw [hl] at he
    exact ⟨⟨ao, cap, he⟩, hb⟩
set_option maxRecDepth 100000 in
set_option maxHeartbeats 3200000 in
theorem nine_ok (w : World) : Calls Try.prog 9 #[] w fun e w' => e = .returned (.bool true) ∧ Below w.heap.size w w' := by
  have HN := hid (new_ok w V0)
  obtain ⟨t, ht⟩ : ∃ t, t = w.heap.size := ⟨_, rfl⟩
  rw [← ht] at HN ⊢
  clear ht
  go_enter Try.func9, Try.ntmps9
  go_wp2_with fail
  refine HN.out.mono ?_
  rintro e w1 ⟨rfl, hT, hb⟩
  have HT1 := hid hT
  have HB1 : Hid (Below t w w1) := hb
  have HC1 := hid (add9 w1 t hT)
  clear hT hb HN
  go_wp2_with fail
  refine HC1.out.mono ?_
  rintro e w2 ⟨rfl, X, hX, hT, hb⟩
  have HX := hid hX
  have HT2 := hid hT
  have HB2 : Hid (Below t w w2) := HB1.out.trans hb
  have HC2 := hid (seek9a w2 t X hX hT)
  clear hT hb hX HC1
  go_wp2_with fail
  refine HC2.out.mono ?_
  rintro e w3 ⟨rfl, hT, hb⟩
  have HT3 := hid hT
  have HB3 : Hid (Below t w w3) := HB2.out.trans hb
  have HC3 := hid (dup9 w3 t X hT)
  clear hT hb HC2
  go_wp2_with fail
  refine HC3.out.mono ?_
  rintro e w4 ⟨rfl, hT, hb⟩
  have HT4 := hid hT
  have HB4 : Hid (Below t w w4) := HB3.out.trans hb
  have HC4 := hid (seek9b w4 t X HX.out hT)
  clear hT hb HC3
  go_wp2_with fail
  refine HC4.out.mono ?_
  rintro e w5 ⟨rfl, hT, hb⟩
  have HT5 := hid hT
  have HB5 : Hid (Below t w w5) := HB4.out.trans hb
  have HC5 := hid (get9 w5 t X hT)
  clear hT hb HC4
  go_wp2_with fail
  refine HC5.out.mono ?_
  rintro e w6 ⟨rfl, hb⟩
  have HT6 : Hid (Tg (w6.alloc (enO 1 0 2 2 9 37)) t (A2 X) (V3 X)) := (HT5.out.below hb).alloc _
  have HB6 : Hid (Below t w (w6.alloc (enO 1 0 2 2 9 37))) := (HB5.out.trans (hb.mono (Nat.le_of_lt HT5.out.lt))).alloc (by have := HT5.out.lt; have := hb.size; omega) _
  have HC6 := hid (refs9 (w6.alloc (enO 1 0 2 2 9 37)) t X HT6.out)
  clear hb HC5
  go_wp2_with fail
  refine HC6.out.mono ?_
  rintro e w7 ⟨rfl, hb⟩
  have HT7 := hid (HT6.out.below hb)
  have HB7 : Hid (Below t w w7) := HB6.out.trans (hb.mono (Nat.le_of_lt HT6.out.lt))
  have HC7 := hid (opens9 w7 t X HT7.out)
  clear hb HC6
  go_wp2_with fail
  refine HC7.out.mono ?_
  rintro e w8 ⟨⟨ao, cap, rfl, hc⟩, hb⟩
  have HT8 := hid (HT7.out.below hb)
  have HB8 : Hid (Below t w w8) := HB7.out.trans (hb.mono (Nat.le_of_lt HT7.out.lt))
  have HC8 := hid (slots9 w8 t X HT8.out)
  clear hb HC7
  go_wp2_with fail
  refine HC8.out.mono ?_
  rintro e w9 ⟨⟨ao2, cap2, rfl⟩, hb⟩
  have HB9 : Hid (Below t w w9) := HB8.out.trans (hb.mono (Nat.le_of_lt HT8.out.lt))
  clear hb HC8
  go_wp2_with fail
  go_ret
  exact ⟨rfl, HB9.out⟩
end Go.Proofs.Ytaapiffglfppnaa
