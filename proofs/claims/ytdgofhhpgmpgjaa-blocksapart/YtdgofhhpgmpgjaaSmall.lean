/- imagolaw03's own small case 'runs': its contract; no statement is proved in this text. -/
import Derived.Test.YtdgofhhpgmpgjaaFlat
import Derived.Test.YtdgofhhpgmpgjaaGather
namespace Go.Proofs.Ytdgofhhpgmpgjaa
open Go.ChangeShapes Go.WideShapes Go.ChangeAt Go.RowKit Go.Deep

abbrev six : List Int := [3, 4, 5, 9, 1, 2]
theorem sm1 : runE six = 0 := by decide +kernel
theorem sm2 : runL six = [(3, 3), (9, 1), (1, 2)] := by decide +kernel
theorem sm3 : flE [(3, 3), (9, 1), (1, 2)] = 0 := by decide +kernel
theorem sm4 : (flL [(3, 3), (9, 1), (1, 2)]).length = 6 := by decide +kernel
theorem sm5 : wrE 1 2 2 = 0 := by decide +kernel
theorem sm6 : wrM 0 1 2 2 = 1 := by decide +kernel
theorem sm7 : gaE [1] 2 2 = 0 := by decide +kernel
theorem sm8 : gaS (wrB (fun _ => zer8) 1 [97, 98] 2) [1] 2 2 = [97, 98] := by decide +kernel

theorem isl_new (w : World) (C : Array Value) (xs : List Int) (hC : ∀ (i : Nat) (x : Int), xs[i]? = some x → C[i]? = some (i64 x)) : ISl (w.alloc (.cells C 3)) (some ⟨w.heap.size, 0, none⟩) xs :=
  Or.inr ⟨w.heap.size, 0, rfl, by simp, fun i x hx => by
    rw [Nat.zero_add]
    exact new_cell _ _ _ _ _ (hC i x hx)⟩

theorem RSl.kept {w w' : World} {b o B : Nat} {rs : List (Int × Int)} (h : RSl w (some ⟨b, o, none⟩) rs) (hb : Below B w w') (hlt : b < B) : RSl w' (some ⟨b, o, none⟩) rs := by
  rcases h with h | ⟨b', o', he, hl, hc⟩
  · exact Or.inl h
  · cases he
    exact Or.inr ⟨b, o, rfl, Nat.lt_of_lt_of_le hl hb.size, fun i r hr => by rw [hb.cell (by exact hlt), hb.cell (by exact hlt)]; exact hc i r hr⟩

set_option maxRecDepth 100000 in
set_option maxHeartbeats 2000000 in
theorem small_ok (w : World) : Calls Try.prog 9 #[] w fun e w' => e = .returned (.bool true) ∧ Below w.heap.size w w' := by
  go_enter Try.func9, Try.ntmps9
  go_wp2_with fail
  have hI6 : ∀ C, C = #[i64 3, i64 4, i64 5, i64 9, i64 1, i64 2] → ISl (w.alloc (.cells C 3)) (some ⟨w.heap.size, 0, none⟩) six := fun C hC => isl_new w C six (fun i x hx => by
    subst hC
    rcases i with _|_|_|_|_|_|i
    all_goals first | (simp at hx; subst hx; rfl) | (simp at hx))
  refine (runs_ok _ (some ⟨w.heap.size, 0, none⟩) 6 six (hI6 _ rfl) (by decide)).mono ?_
  rintro e w1 ⟨hb1, v1, he, ho1⟩
  rw [sm1] at he
  rw [sm2] at ho1
  subst he
  obtain ⟨a1, c1, rfl, _⟩ := own_slice ho1
  have HB1 : Hid (Below w.heap.size w w1) := ((Below.refl w.heap.size w).alloc (Nat.le_refl _) _).trans (hb1.mono (by simp))
  have HR1 : Hid (RSl w1 a1 [(3, 3), (9, 1), (1, 2)]) := (own_runs ho1).1
  clear ho1 hb1 hI6
  go_wp2_with fail
  refine (flat_ok w1 a1 c1 [(3, 3), (9, 1), (1, 2)] HR1.out (by decide) (by unfold wfR; decide)).mono ?_
  rintro e w2 ⟨hb2, v2, he, ho2⟩
  rw [sm3] at he
  subst he
  have hl := sm4
  generalize flL [(3, 3), (9, 1), (1, 2)] = fl at ho2 hl
  obtain ⟨a2, c2, rfl, _⟩ := own_slice ho2
  rw [hl] at ho2
  have HB2 : Hid (Below w.heap.size w w2) := HB1.out.trans (hb2.mono HB1.out.size)
  have HR2 : Hid (RSl w2 a1 [(3, 3), (9, 1), (1, 2)]) := HR1.out.below hb2
  rw [hl]
  clear hb2 ho2
  go_wp2_with fail
  refine (new_ok w2 2 (by omega) (by omega)).mono ?_
  rintro e w3 ⟨rfl, hb3, hd3⟩
  have HB3 : Hid (Below w.heap.size w w3) := HB2.out.trans (hb3.mono HB2.out.size)
  have HR3 : Hid (RSl w3 a1 [(3, 3), (9, 1), (1, 2)]) := HR2.out.below hb3
  have HD3 : Hid (Dsk w3 (w2.heap.size + 1) w2.heap.size 2 0 (fun _ => zer8)) := hd3
  have hrlt : ∃ b off, a1 = some ⟨b, off, none⟩ ∧ b < w2.heap.size := by
    obtain ⟨b, off, h1, h2, _⟩ := HR2.out.at (show 1 < 3 by omega)
    exact ⟨b, off, h1, h2⟩
  clear hb3 hd3
  go_wp2_with fail
  refine (write_dsk HD3.out (by omega) 1 ⟨#[97, 98]⟩).mono ?_
  rintro e w4 ⟨he, ht4, hd4⟩
  have hs2 : (⟨#[97, 98]⟩ : ByteArray).size = 2 := rfl
  rw [hs2, sm5] at he
  rw [hs2, sm6] at hd4
  subst he
  have hs3 : (⟨#[97, 98]⟩ : ByteArray).data.toList = [97, 98] := rfl
  rw [hs3] at hd4
  obtain ⟨b1, o1, rfl, hb1lt⟩ := hrlt
  have h2s := HB2.out.size
  have HB4 : Hid (Below w.heap.size w w4) := HB3.out.trans (ht4.below (by omega) h2s HB3.out.size)
  have hsz4 : w2.heap.size + 1 < w4.heap.size := hd4.plt
  have HR4 : Hid (RSl w4 (some ⟨b1, o1, none⟩) [(3, 3), (9, 1), (1, 2)]) := HR3.out.kept (ht4.below (B := w2.heap.size) (by omega) (by omega) (by have := HD3.out.plt; omega)) hb1lt
  have HD4 : Hid (Dsk w4 (w2.heap.size + 1) w2.heap.size 2 1 (wrB (fun _ => zer8) 1 [97, 98] 2)) := hd4
  clear hd4 ht4
  go_wp2_with fail
  have hI1 : ∀ C, C = #[i64 1] → ISl (w4.alloc (.cells C 3)) (some ⟨w4.heap.size, 0, none⟩) [1] := fun C hC => isl_new w4 C [1] (fun i x hx => by
    subst hC
    rcases i with _|i
    all_goals first | (simp at hx; subst hx; rfl) | (simp at hx))
  have hD5 : ∀ o, Dsk (w4.alloc o) (w2.heap.size + 1) w2.heap.size 2 1 (wrB (fun _ => zer8) 1 [97, 98] 2) := fun o => HD4.out.below ((Below.refl _ _).alloc (Nat.le_refl _) o) HD4.out.plt HD4.out.qlt
  refine (gather_ok (hD5 _) (some ⟨w4.heap.size, 0, none⟩) 1 [1] (hI1 _ rfl) (by decide) 2 (by omega)).mono ?_
  rintro e w5 ⟨he, hb5⟩
  rw [sm7, sm8] at he
  subst he
  have HD5 : Hid (Dsk w5 (w2.heap.size + 1) w2.heap.size 2 1 (wrB (fun _ => zer8) 1 [97, 98] 2)) := (hD5 _).below hb5 (hD5 _).plt (hD5 _).qlt
  have HB5 : Hid (Below w.heap.size w w5) := (HB4.out.alloc HB4.out.size _).trans (hb5.mono (by have := HB4.out.size; simp; omega))
  have hR5 := HR4.out.kept (B := w2.heap.size) (((Below.refl _ _).alloc (by omega) _).trans (hb5.mono (by simp; omega))) hb1lt
  obtain ⟨b', o', he', hbl5, r1, r2⟩ := hR5.at (show 1 < 3 by omega)
  cases he'
  simp only [List.getElem_cons_succ, List.getElem_cons_zero] at r1 r2
  clear hb5 hI1 hD5 hR5
  go_wp2_with (go_at_call 23; refine (writes_any _ _ 1 HD5.out.cnt).mono ?_; rintro e w6 ⟨rfl, rfl⟩)
  go_ret
  exact ⟨by simp, HB5.out⟩
end Go.Proofs.Ytdgofhhpgmpgjaa
