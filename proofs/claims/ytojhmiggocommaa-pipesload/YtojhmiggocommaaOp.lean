/- Close, Write, Read, Waits; no statement is proved in this text. -/
import Derived.Test.YtojhmiggocommaaSt
namespace Go.Proofs.Ytojhmiggocommaa
open Go.ChangeShapes Go.WideShapes Go.ChangeAt Go.RowKit Go.Deep
attribute [local go_sem ↓] Go.wp_at_zero Go.wp_at_succ

def gd (S : St) (id : Int) : List UInt8 := (S id.toNat).getD []
def clsS (S : St) (id : Int) : St := if errA S id = 0 then upd S id.toNat none else S
def wrtE (S : St) (id : Int) (s : List UInt8) : Int := if errA S id = 0 then (if 16 < (gd S id).length + s.length then 5 else 0) else errA S id
def wrtS (S : St) (id : Int) (s : List UInt8) : St := if wrtE S id s = 0 then upd S id.toNat (some (gd S id ++ s)) else S
def redE (S : St) (id n : Int) : Int := if n < 0 then 1 else errA S id
def redT (S : St) (id n : Int) : List UInt8 := if redE S id n = 0 then (gd S id).take n.toNat else []
def redS (S : St) (id n : Int) : St := if redE S id n = 0 then upd S id.toNat (some ((gd S id).drop n.toNat)) else S
def wtsV (S : St) (id : Int) : Int := if errA S id = 0 then ((gd S id).length : Int) else 0
theorem Ps.three {w : World} {base P : Nat} {A : Nat → Option Nat} {S : St} (h : Ps w base P A S) (id : Int) :
    (¬ (0 ≤ id ∧ id < 3) ∧ errA S id = 1) ∨ (∃ i : Nat, i < 3 ∧ id = i ∧ errA S id = 6 ∧ S i = none ∧ w.cell? ⟨P, i, none⟩ = some (.pointer none)) ∨ (∃ (i b : Nat) (D : List UInt8), i < 3 ∧ id = i ∧ errA S id = 0 ∧ S i = some D ∧ gd S id = D ∧ A i = some b ∧ w.cell? ⟨P, i, none⟩ = some (pq b) ∧ Pip w b D) := by
  by_cases hr : 0 ≤ id ∧ id < 3
  · right
    obtain ⟨i, rfl⟩ : ∃ i : Nat, id = i := ⟨id.toNat, by omega⟩
    have hi : i < 3 := by omega
    have hc := h.cell i hi
    cases hA : A i with
    | none =>
      left
      have hS := h.non i hi hA
      exact ⟨i, hi, rfl, by unfold errA; rw [if_pos hr, Int.toNat_natCast, hS], hS, by rw [hc, hA]; rfl⟩
    | some b =>
      right
      obtain ⟨_, D, hS, hp⟩ := h.pip i b hi hA
      exact ⟨i, b, D, hi, rfl, by unfold errA; rw [if_pos hr, Int.toNat_natCast, hS], hS, by unfold gd; rw [Int.toNat_natCast, hS]; rfl, hA, by rw [hc, hA]; rfl, hp⟩
  · left
    exact ⟨hr, by unfold errA; rw [if_neg hr]⟩
set_option maxRecDepth 100000 in
set_option maxHeartbeats 3200000 in
theorem close_ok (w : World) (base P : Nat) (S : St) (id : Int) (h : PS w base P S) : Calls Try.prog 20 #[pq P, i64 id] w fun e w' => e = .returned (i64 (errA S id)) ∧ PS w' base P (clsS S id) ∧ Fr base [57, 68] w w' := by
  obtain ⟨A, h⟩ := h
  have HPS : Hid (PS w base P S) := ⟨A, h⟩
  rcases h.three id with ⟨hr, hE⟩ | ⟨i, hi, rfl, hE, hS, hc⟩ | ⟨i, b, D, hi, rfl, hE, hS, hg, hA, hc, hp⟩
  · unfold clsS
    rw [hE, if_neg (by decide)]
    have H := hid (at_arg w (pq P) id hr)
    clear h hr hE
    go_enter Try.func20, Try.ntmps20
    go_wp2_with fail
    refine H.out.mono ?_
    rintro e w1 ⟨rfl, hw⟩
    replace hw := hw.symm
    subst hw
    go_wp2_with fail
    go_ret
    exact ⟨rfl, HPS.out, Fr.refl _ _ _⟩
  · unfold clsS
    rw [hE, if_neg (by decide)]
    have H := hid (at_none w P i hi hc)
    clear h hE hS hc
    go_enter Try.func20, Try.ntmps20
    go_wp2_with fail
    refine H.out.mono ?_
    rintro e w1 ⟨rfl, hw⟩
    replace hw := hw.symm
    subst hw
    go_wp2_with fail
    go_ret
    exact ⟨rfl, HPS.out, Fr.refl _ _ _⟩
  · unfold clsS
    rw [hE, if_pos rfl, Int.toNat_natCast]
    have H := hid (at_got w P i b hi hc)
    have HST := hid (h.set hi)
    have hf : w.frozen? ⟨P, i, none⟩ = false := blk_frozen h.blk i
    have h2 : (i : Int) < 3 := by omega
    clear h hE hS hp hg
    go_enter Try.func20, Try.ntmps20
    go_wp2_with fail
    refine H.out.mono ?_
    rintro e w1 ⟨rfl, hw⟩
    replace hw := hw.symm
    subst hw
    go_wp2_with fail
    go_ret
    exact ⟨rfl, HST.out.1, HST.out.2⟩
set_option maxRecDepth 100000 in
set_option maxHeartbeats 3200000 in
theorem write_ok (w : World) (base P : Nat) (S : St) (id : Int) (s : ByteArray) (h : PS w base P S) : Calls Try.prog 15 #[pq P, i64 id, .string s] w fun e w' => e = .returned (i64 (wrtE S id s.data.toList)) ∧ PS w' base P (wrtS S id s.data.toList) ∧ Fr base [57, 68] w w' := by
  obtain ⟨A, h⟩ := h
  have HPS : Hid (PS w base P S) := ⟨A, h⟩
  have hsz : s.data.toList.length = s.size := rfl
  rcases h.three id with ⟨hr, hE⟩ | ⟨i, hi, rfl, hE, hS, hc⟩ | ⟨i, b, D, hi, rfl, hE, hS, hg, hA, hc, hp⟩
  · unfold wrtS wrtE
    rw [hE, if_neg (by decide), if_neg (by decide)]
    have H := hid (at_arg w (pq P) id hr)
    clear h hr hE
    go_enter Try.func15, Try.ntmps15
    go_wp2_with fail
    refine H.out.mono ?_
    rintro e w1 ⟨rfl, hw⟩
    replace hw := hw.symm
    subst hw
    go_wp2_with fail
    go_ret
    exact ⟨rfl, HPS.out, Fr.refl _ _ _⟩
  · unfold wrtS wrtE
    rw [hE, if_neg (by decide), if_neg (by decide)]
    have H := hid (at_none w P i hi hc)
    clear h hE hS hc
    go_enter Try.func15, Try.ntmps15
    go_wp2_with fail
    refine H.out.mono ?_
    rintro e w1 ⟨rfl, hw⟩
    replace hw := hw.symm
    subst hw
    go_wp2_with fail
    go_ret
    exact ⟨rfl, HPS.out, Fr.refl _ _ _⟩
  · have H := hid (at_got w P i b hi hc)
    unfold wrtS wrtE
    rw [hE, if_pos rfl, hg, hsz, Int.toNat_natCast]
    by_cases hfull : 16 < D.length + s.size
    · rw [if_pos hfull, if_neg (by decide)]
      have H2 := hid (put_full w b D s hp hfull)
      clear h hE hS hp hg hc hfull hsz
      go_enter Try.func15, Try.ntmps15
      go_wp2_with fail
      refine H.out.mono ?_
      rintro e w1 ⟨rfl, hw⟩
      replace hw := hw.symm
      subst hw
      go_wp2_with fail
      refine H2.out.mono ?_
      rintro e w1 ⟨rfl, hw⟩
      replace hw := hw.symm
      subst hw
      go_wp2_with fail
      go_ret
      exact ⟨rfl, HPS.out, Fr.refl _ _ _⟩
    · rw [if_neg hfull, if_pos rfl]
      have H2 := hid (put_ok w b D s hp (by omega))
      have HH := hid h
      have HA := hid hA
      clear h hE hS hp hg hc hfull hsz hA
      go_enter Try.func15, Try.ntmps15
      go_wp2_with fail
      refine H.out.mono ?_
      rintro e w1 ⟨rfl, hw⟩
      replace hw := hw.symm
      subst hw
      go_wp2_with fail
      refine H2.out.mono ?_
      rintro e w2 ⟨rfl, hp2, ht2⟩
      have HF := hid (HH.out.put hi HA.out hp2 ht2)
      clear hp2 ht2
      go_wp2_with fail
      go_ret
      exact ⟨rfl, HF.out.1, HF.out.2⟩
theorem take_min (D : List UInt8) (n : Int) (k : Nat) (hn : 0 ≤ n) (hk : (k : Int) = min n D.length) : D.take k = D.take n.toNat ∧ D.drop k = D.drop n.toNat := by
  by_cases h : n ≤ D.length
  · have : k = n.toNat := by omega
    rw [this]
    exact ⟨rfl, rfl⟩
  · have : k = D.length := by omega
    rw [this, List.take_of_length_le (Nat.le_refl _), List.take_of_length_le (by omega), List.drop_of_length_le (Nat.le_refl _), List.drop_of_length_le (by omega)]
    exact ⟨rfl, rfl⟩
set_option maxRecDepth 100000 in
set_option maxHeartbeats 3200000 in
theorem read_ok (w : World) (base P : Nat) (S : St) (id n : Int) (h : PS w base P S) : Calls Try.prog 16 #[pq P, i64 id, i64 n] w fun e w' => e = .returned (.tuple #[str (redT S id n), i64 (redE S id n)]) ∧ PS w' base P (redS S id n) ∧ Fr base [57, 68] w w' := by
  obtain ⟨A, h⟩ := h
  have HPS : Hid (PS w base P S) := ⟨A, h⟩
  by_cases hn : n < 0
  · unfold redS redT redE
    rw [if_pos hn, if_neg (by decide), if_neg (by decide)]
    clear h
    go_enter Try.func16, Try.ntmps16
    go_wp2_with fail
    go_ret2
    exact ⟨rfl, HPS.out, Fr.refl _ _ _⟩
  rcases h.three id with ⟨hr, hE⟩ | ⟨i, hi, rfl, hE, hS, hc⟩ | ⟨i, b, D, hi, rfl, hE, hS, hg, hA, hc, hp⟩
  · unfold redS redT redE
    rw [if_neg hn, hE, if_neg (by decide), if_neg (by decide)]
    have H := hid (at_arg w (pq P) id hr)
    clear h hr hE
    go_enter Try.func16, Try.ntmps16
    go_wp2_with fail
    refine H.out.mono ?_
    rintro e w1 ⟨rfl, hw⟩
    replace hw := hw.symm
    subst hw
    go_wp2_with fail
    go_ret2
    exact ⟨rfl, HPS.out, Fr.refl _ _ _⟩
  · unfold redS redT redE
    rw [if_neg hn, hE, if_neg (by decide), if_neg (by decide)]
    have H := hid (at_none w P i hi hc)
    clear h hE hS hc
    go_enter Try.func16, Try.ntmps16
    go_wp2_with fail
    refine H.out.mono ?_
    rintro e w1 ⟨rfl, hw⟩
    replace hw := hw.symm
    subst hw
    go_wp2_with fail
    go_ret2
    exact ⟨rfl, HPS.out, Fr.refl _ _ _⟩
  · have H := hid (at_got w P i b hi hc)
    unfold redS redT redE
    rw [if_neg hn, hE, if_pos rfl, if_pos rfl, hg, Int.toNat_natCast]
    obtain ⟨k, hk⟩ : ∃ k : Nat, (k : Int) = min n D.length := ⟨(min n D.length).toNat, by omega⟩
    obtain ⟨ht, hd⟩ := take_min D n k (by omega) hk
    rw [← ht, ← hd]
    have H2 := hid (take_ok w b D n k hp (by omega) hk)
    have HH := hid h
    have HA := hid hA
    clear h hE hS hp hg hc hA ht hd hk
    generalize D.take k = T at *
    generalize D.drop k = E at *
    go_enter Try.func16, Try.ntmps16
    go_wp2_with fail
    refine H.out.mono ?_
    rintro e w1 ⟨rfl, hw⟩
    replace hw := hw.symm
    subst hw
    go_wp2_with fail
    refine H2.out.mono ?_
    rintro e w2 ⟨rfl, hp2, ht2⟩
    have HF := hid (HH.out.put hi HA.out hp2 ht2)
    clear hp2 ht2
    go_wp2_with fail
    go_ret2
    exact ⟨rfl, HF.out.1, HF.out.2⟩
set_option maxRecDepth 100000 in
set_option maxHeartbeats 3200000 in
theorem waits_ok (w : World) (base P : Nat) (S : St) (id : Int) (h : PS w base P S) : Calls Try.prog 19 #[pq P, i64 id] w fun e w' => e = .returned (.tuple #[i64 (wtsV S id), i64 (errA S id)]) ∧ w' = w := by
  obtain ⟨A, h⟩ := h
  rcases h.three id with ⟨hr, hE⟩ | ⟨i, hi, rfl, hE, hS, hc⟩ | ⟨i, b, D, hi, rfl, hE, hS, hg, hA, hc, hp⟩
  · unfold wtsV
    rw [hE, if_neg (by decide)]
    have H := hid (at_arg w (pq P) id hr)
    clear h hr hE
    go_enter Try.func19, Try.ntmps19
    go_wp2_with fail
    refine H.out.mono ?_
    rintro e w1 ⟨rfl, hw⟩
    replace hw := hw.symm
    subst hw
    go_wp2_with fail
    go_ret2
    exact ⟨rfl, rfl⟩
  · unfold wtsV
    rw [hE, if_neg (by decide)]
    have H := hid (at_none w P i hi hc)
    clear h hE hS hc
    go_enter Try.func19, Try.ntmps19
    go_wp2_with fail
    refine H.out.mono ?_
    rintro e w1 ⟨rfl, hw⟩
    replace hw := hw.symm
    subst hw
    go_wp2_with fail
    go_ret2
    exact ⟨rfl, rfl⟩
  · unfold wtsV
    rw [hE, if_pos rfl, hg]
    have H := hid (at_got w P i b hi hc)
    have hl := hp.len
    clear h hE hS hp hg hc hA
    obtain ⟨n, hn⟩ : ∃ n, n = D.length := ⟨_, rfl⟩
    rw [← hn] at hl ⊢
    clear hn
    go_enter Try.func19, Try.ntmps19
    go_wp2_with fail
    refine H.out.mono ?_
    rintro e w1 ⟨rfl, hw⟩
    replace hw := hw.symm
    subst hw
    go_wp2_with fail
    go_ret2
    exact ⟨rfl, rfl⟩
end Go.Proofs.Ytojhmiggocommaa
