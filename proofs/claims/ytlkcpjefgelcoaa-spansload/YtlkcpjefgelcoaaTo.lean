/- IndexFunc, ContainsFunc, of; no statement is proved in this text. -/
import Derived.Test.YtlkcpjefgelcoaaTp
namespace Go.Proofs.Ytlkcpjefgelcoaa
open Go.ChangeShapes Go.WideShapes Go.ChangeAt Go.RowKit Go.Deep
attribute [local go_sem ↓] Go.wp_at_zero Go.wp_at_succ

/-- Cells that are read as pairs. -/
def Rdc (w : World) (t o n : Nat) (F : Nat → Int × Int) : Prop := t < w.heap.size ∧ ∀ k, k < n → w.cell? ⟨t, o + k * 2, none⟩ = some (i64 (F k).1) ∧ w.cell? ⟨t, o + k * 2 + 1, none⟩ = some (i64 (F k).2)
theorem Rdc.below {w w' : World} {t o n : Nat} {F : Nat → Int × Int} (h : Rdc w t o n F) (hb : Below w.heap.size w w') : Rdc w' t o n F :=
  ⟨Nat.lt_of_lt_of_le h.1 hb.size, fun k hk => by rw [hb.cell (by exact h.1), hb.cell (by exact h.1)]; exact h.2 k hk⟩
theorem Tg.rdc {w : World} {t r f n : Nat} {G : Gr} (h : Tg w t G) (hr : r < 6) (hfn : f + n ≤ 16) : Rdc w t (r * 32 + f * 2) n fun k => G r (f + k) :=
  ⟨h.lt, fun k hk => by
    have c0 := h.fst r (f + k) hr (by omega)
    have c1 := h.snd r (f + k) hr (by omega)
    rw [show r * 32 + (f + k) * 2 = r * 32 + f * 2 + k * 2 by omega] at c0 c1
    exact ⟨c0, c1⟩⟩
set_option maxRecDepth 100000 in
set_option maxHeartbeats 3200000 in
theorem ifn_none (w : World) (t o n cap : Nat) (F : Nat → Int × Int) (h : Rdc w t o n F) (hn : n ≤ 16) (_hcap : n ≤ cap) (hz : ∀ k, k < n → F k = (0, 0)) :
    Calls Try.prog 67 #[.slice (some ⟨t, o, none⟩) n cap, .func (.func 58) #[] #[]] w fun e w' => e = .returned (i64 (-1)) ∧ Below w.heap.size w w' := by
  have HR := hid h
  have HZ := hid hz
  clear h hz
  go_enter Try.func67, Try.ntmps67
  go_wp2_with fail
  go_loopw [8] (fun i wr => ∃ k : Nat, k ≤ n ∧ i = i64 k ∧ Hid (Below w.heap.size w wr)) (fun i _ => n - (intOf i).toNat)
  case atStart => exact ⟨0, by omega, rfl, Below.refl _ _⟩
  case round =>
    obtain ⟨k, hk, rfl, HB⟩ := hrel
    by_cases hlt : k < n
    · have hkI : (k : Int) < n := by omega
      have hR := HR.out.below HB.out
      obtain ⟨c0, c1⟩ := hR.2 k hlt
      have htl := hR.1
      rw [HZ.out k hlt] at c0 c1
      have HC := hid (taken_ok wr 0 0)
      clear hR
      go_wp2_with fail
      refine HC.out.mono ?_
      rintro e2 w2 ⟨rfl, hb2⟩
      have HB2 : Hid (Below w.heap.size w w2) := HB.out.trans (hb2.mono HB.out.size)
      clear hb2 HC
      go_wp2_with fail
      exact ⟨⟨k + 1, by omega, by go_num, HB2⟩, by simp [intOf]; omega⟩
    · go_wp2_with fail
      go_ret
      exact ⟨rfl, HB.out⟩
set_option maxRecDepth 100000 in
set_option maxHeartbeats 3200000 in
theorem ifn_some (w : World) (t o n cap m : Nat) (F : Nat → Int × Int) (h : Rdc w t o n F) (hn : n ≤ 16) (_hcap : n ≤ cap) (hm : m < n) (hz : ∀ k, k < m → F k = (0, 0)) (hF : F m ≠ (0, 0)) :
    Calls Try.prog 67 #[.slice (some ⟨t, o, none⟩) n cap, .func (.func 58) #[] #[]] w fun e w' => e = .returned (i64 m) ∧ Below w.heap.size w w' := by
  have HR := hid h
  have HZ := hid hz
  have HF : Hid (F m ≠ (0, 0)) := hF
  clear h hz hF
  go_enter Try.func67, Try.ntmps67
  go_wp2_with fail
  go_loopw [8] (fun i wr => ∃ k : Nat, k ≤ m ∧ i = i64 k ∧ Hid (Below w.heap.size w wr)) (fun i _ => n - (intOf i).toNat)
  case atStart => exact ⟨0, by omega, rfl, Below.refl _ _⟩
  case round =>
    obtain ⟨k, hk, rfl, HB⟩ := hrel
    have hkI : (k : Int) < n := by omega
    have hR := HR.out.below HB.out
    obtain ⟨c0, c1⟩ := hR.2 k (by omega)
    have htl := hR.1
    by_cases hlt : k < m
    · rw [HZ.out k hlt] at c0 c1
      have HC := hid (taken_ok wr 0 0)
      clear hR
      go_wp2_with fail
      refine HC.out.mono ?_
      rintro e2 w2 ⟨rfl, hb2⟩
      have HB2 : Hid (Below w.heap.size w w2) := HB.out.trans (hb2.mono HB.out.size)
      clear hb2 HC
      go_wp2_with fail
      exact ⟨⟨k + 1, by omega, by go_num, HB2⟩, by simp [intOf]; omega⟩
    · have hkm : k = m := by omega
      have hD : decide ((F k).1 = 0 ∧ (F k).2 = 0) = false := decide_eq_false fun h => HF.out (by rw [← hkm]; exact Prod.ext h.1 h.2)
      have HC := hid (taken_ok wr (F k).1 (F k).2)
      rw [hD] at HC
      generalize (F k).1 = y0 at *
      generalize (F k).2 = y1 at *
      have HKM : Hid (k = m) := hkm
      clear hR hkm
      go_wp2_with fail
      refine HC.out.mono ?_
      rintro e2 w2 ⟨rfl, hb2⟩
      have HB2 : Hid (Below w.heap.size w w2) := HB.out.trans (hb2.mono HB.out.size)
      clear hb2 HC
      go_wp2_with fail
      go_ret
      exact ⟨by rw [HKM.out]; rfl, HB2.out⟩
/-- Is a page of these taken? -/
def anyZ (F : Nat → Int × Int) (n : Nat) : Bool := (List.range n).any fun k => !decide (F k = (0, 0))
theorem first_nz (F : Nat → Int × Int) (n : Nat) : (∀ k, k < n → F k = (0, 0)) ∨ ∃ m, m < n ∧ (∀ k, k < m → F k = (0, 0)) ∧ F m ≠ (0, 0) := by
  induction n with
  | zero => exact .inl fun k h => by omega
  | succ n ih =>
    rcases ih with h | ⟨m, h1, h2, h3⟩
    · by_cases hn : F n = (0, 0)
      · refine .inl fun k hk => ?_
        by_cases e : k = n
        · rw [e]; exact hn
        · exact h k (by omega)
      · exact .inr ⟨n, by omega, h, hn⟩
    · exact .inr ⟨m, by omega, h2, h3⟩
set_option maxRecDepth 100000 in
set_option maxHeartbeats 3200000 in
theorem cfn_ok (w : World) (t o n cap : Nat) (F : Nat → Int × Int) (h : Rdc w t o n F) (hn : n ≤ 16) (_hcap : n ≤ cap) :
    Calls Try.prog 59 #[.slice (some ⟨t, o, none⟩) n cap, .func (.func 58) #[] #[]] w fun e w' => e = .returned (.bool (anyZ F n)) ∧ Below w.heap.size w w' := by
  rcases first_nz F n with hz | ⟨m, hm, hz, hF⟩
  · have hA : anyZ F n = false := by
      unfold anyZ
      rw [List.any_eq_false]
      intro k hk
      rw [hz k (List.mem_range.1 hk)]
      simp
    have HC := hid (ifn_none w t o n cap F h hn _hcap hz)
    rw [hA]
    clear hA h hz
    go_enter Try.func59, Try.ntmps59
    go_wp2_with fail
    refine HC.out.mono ?_
    rintro e2 w2 ⟨rfl, hb2⟩
    have HB := hid hb2
    clear hb2 HC
    go_wp2_with fail
    go_ret
    exact ⟨rfl, HB.out⟩
  · have hA : anyZ F n = true := by
      unfold anyZ
      rw [List.any_eq_true]
      exact ⟨m, List.mem_range.2 hm, by simp [hF]⟩
    have HC := hid (ifn_some w t o n cap m F h hn _hcap hm hz hF)
    rw [hA]
    clear hA h hz hF
    go_enter Try.func59, Try.ntmps59
    go_wp2_with fail
    refine HC.out.mono ?_
    rintro e2 w2 ⟨rfl, hb2⟩
    have HB := hid hb2
    clear hb2 HC
    go_wp2_with fail
    go_ret
    exact ⟨rfl, HB.out⟩
theorem rowO_len (p : Int) (F : Nat → Int × Int) : ∀ k, (rowO p F k).length ≤ k
  | 0 => Nat.le_refl _
  | k + 1 => by
    have := rowO_len p F k
    have h2 : ∀ l : List Sp, (incL l).length = l.length := fun l => by
      rcases List.eq_nil_or_concat l with rfl | ⟨X, s, rfl⟩
      · rfl
      · rw [List.concat_eq_append, incL_snoc]; simp
    unfold rowO
    split
    · omega
    · split
      · rw [List.length_append]; simp; omega
      · rw [h2]; omega
set_option maxRecDepth 100000 in
set_option maxHeartbeats 3200000 in
theorem of_no (w : World) (pv : Value) (p : Int) (h : pv = .pointer none ∨ ¬(1 ≤ p ∧ p ≤ 6)) (hpv : pv = .pointer none ∨ ∃ t, pv = pq t) : Calls Try.prog 37 #[pv, i64 p] w fun e w' => GotS w w' e [] ∧ Below w.heap.size w w' := by
  have HG : Hid (GotS w w (.returned (.slice none 0 0)) []) := ⟨none, 0, rfl, World.ownsRow_nil _ _ _ _⟩
  rcases hpv with rfl | ⟨t, rfl⟩
  · clear h
    go_enter Try.func37, Try.ntmps37
    go_wp2_with fail
    go_ret
    exact ⟨HG.out, Below.refl _ _⟩
  · have HC := hid (sproc_ok w p)
    rw [decide_eq_false (h.resolve_left (by simp))] at HC
    clear h
    go_enter Try.func37, Try.ntmps37
    go_wp2_with fail
    refine HC.out.mono ?_
    rintro e2 w2 ⟨rfl, rfl⟩
    clear HC
    go_wp2_with fail
    go_ret
    exact ⟨HG.out, Below.refl _ _⟩
end Go.Proofs.Ytlkcpjefgelcoaa
