/- play's number, put, nextAnswer: their contracts; no statement is proved in this text. -/
import Derived.Test.YtigbfdloodfdgaaDoorPlayD1
namespace Go.Proofs.YtigbfdloodfdgaaDoor
open Go.ChangeShapes Go.WideShapes Go.ChangeAt Go.RowKit

def memK (M : List UInt8) (ad : Nat) : Nat → Nat
  | 0 => 0
  | j + 1 => memK M ad j * 256 + (M.getD (ad + j) 0).toNat
theorem memK_eq {M : List UInt8} {ad sz : Nat} (h : sz = 1 ∨ sz = 2) : memK M ad sz = memN M ad sz := by
  rcases h with rfl | rfl
  · simp [memK, memN]
  · simp [memK, memN]
    omega
theorem memK_lt (M : List UInt8) (ad : Nat) : ∀ j, memK M ad j < 256 ^ j
  | 0 => by simp [memK]
  | j + 1 => by
    have := memK_lt M ad j
    have hb := (M.getD (ad + j) 0).toNat_lt
    show memK M ad j * 256 + (M.getD (ad + j) 0).toNat < 256 ^ (j + 1)
    rw [Nat.pow_succ]
    omega
theorem or_b (a c : Nat) (ha : a < 65536) (hc : c < 256) : bits BinOp.or IntKind.i64 ((a : Int) * 256) (c : Int) = ((a * 256 + c : Nat) : Int) := by
  rw [bits_join IntKind.i64 63 (by decide) (fun n h0 h1 => wraps_i64 n h0 h1) 8 ((a : Int) * 256) (c : Int) (by omega) (by omega) (by omega) (by omega) (by omega) (by omega)]
  omega
set_option maxHeartbeats 1600000 in
theorem number_ok (w : World) (R : Nat) (C : List Nat) (M : List UInt8) (va vc : Value) (hr : RunAt w R C M va vc) (ad sz : Nat) (hs : sz = 1 ∨ sz = 2) (ha : ad + sz ≤ 256) :
    Calls Tryd.prog 25 #[.pointer (some ⟨R, 0, none⟩), i64 ad, i64 sz] w fun e w' => e = .returned (i64 (memN M ad sz : Nat)) ∧ w' = w := by
  have HK : Hid (memK M ad sz = memN M ad sz) := memK_eq hs
  have HR := hid hr
  have hs2 : sz ≤ 2 := by omega
  clear hr
  go_enter Tryd.func25, Tryd.ntmps25
  go_wp2_with fail
  go_loop [7, 8, 10] (fun n _ k => ∃ j : Nat, j ≤ sz ∧ k = .int .i64 j ∧ n = .int .i64 (memK M ad j : Nat)) (fun _ _ k => sz - (intOf k).toNat)
  case atStart => exact ⟨0, by omega, rfl, rfl⟩
  case round =>
    obtain ⟨j, hj, rfl, rfl⟩ := hrel
    have hlt := memK_lt M ad j
    have hp : 256 ^ j ≤ 256 ^ 2 := Nat.pow_le_pow_right (by omega) (by omega)
    by_cases hjs : j < sz
    · have hjI : (j : Int) < sz := by omega
      have cb := HR.out.byte (ad + j) (by omega)
      have HS : Hid (memK M ad (j + 1) = memK M ad j * 256 + (M.getD (ad + j) 0).toNat) := (rfl : memK M ad (j + 1) = memK M ad j * 256 + (M.getD (ad + j) 0).toNat)
      have hy := (M.getD (ad + j) 0).toNat_lt
      have hm : memK M ad j < 65536 := by omega
      have hor := or_b (memK M ad j) (M.getD (ad + j) 0).toNat hm hy
      have hix : (ad : Int) + (j : Int) < 256 := by omega
      generalize (M.getD (ad + j) 0).toNat = y at *
      generalize memK M ad j = m at *
      clear hlt hp
      go_wp2_with fail
      exact ⟨⟨j + 1, by omega, by go_num, congrArg (Value.int .i64) (by rw [HS.out]; first | exact hor | rfl | omega)⟩, by simp [intOf]; omega⟩
    · obtain rfl : j = sz := by omega
      rw [HK.out]
      go_wp2_with fail
      go_ret
      exact ⟨rfl, rfl⟩
def putK (M : List UInt8) (ad sz v : Nat) : Nat → List UInt8
  | 0 => M
  | j + 1 => (putK M ad sz v j).set (ad + sz - 1 - j) (UInt8.ofNat (v / 2 ^ (8 * j)))
theorem putK_eq {M : List UInt8} {ad sz v : Nat} (h : sz = 1 ∨ sz = 2) : putK M ad sz v sz = memP M ad sz v := by
  rcases h with rfl | rfl
  · simp [putK, memP]
  · simp [putK, memP]
set_option maxHeartbeats 1600000 in
theorem put_ok (w : World) (R : Nat) (C : List Nat) (M : List UInt8) (va vc : Value) (hr : RunAt w R C M va vc) (ad sz v : Nat) (hs : sz = 1 ∨ sz = 2) (ha : ad + sz ≤ 256) (_hv : v < 65536) :
    Calls Tryd.prog 27 #[.pointer (some ⟨R, 0, none⟩), i64 ad, i64 sz, i64 v] w fun e w' => e = .returned (.tuple #[]) ∧ RunAt w' R C (memP M ad sz v) va vc ∧ Fr w.heap.size R w w' := by
  have HK : Hid (putK M ad sz v sz = memP M ad sz v) := putK_eq hs
  have HR := hid hr
  have hs2 : sz ≤ 2 := by omega
  have hs1 : 1 ≤ sz := by omega
  clear hr
  go_enter Tryd.func27, Tryd.ntmps27
  go_wp2_with fail
  go_loopw [8, 10] (fun _ k wr => ∃ j : Nat, j ≤ sz ∧ k = .int .i64 j ∧ RunAt wr R C (putK M ad sz v j) va vc ∧ Fr w.heap.size R w wr) (fun _ k _ => sz - (intOf k).toNat)
  case atStart => exact ⟨0, by omega, rfl, HR.out, Fr.refl _ _ _⟩
  case round =>
    obtain ⟨j, hj, rfl, hra, hfr⟩ := hrel
    by_cases hjs : j < sz
    · have hjI : (j : Int) < sz := by omega
      have HRA := hid hra
      have HFR := hid hfr
      have cb := hra.byte (ad + sz - 1 - j) (by omega)
      have fb := hra.free (9 + (ad + sz - 1 - j))
      have hix : (ad : Int) + (sz : Int) - 1 - (j : Int) = ((ad + sz - 1 - j : Nat) : Int) := by omega
      have hi2 : ad + sz - 1 - j < 256 := by omega
      have HN := hid (hra.put (ad + sz - 1 - j) hi2 (UInt8.ofNat (v / 2 ^ (8 * j))))
      have HT0 : Hid (ad + sz - 1 - j = ad + sz - 1 - j) := (rfl : ad + sz - 1 - j = ad + sz - 1 - j)
      obtain ⟨t, ht⟩ : ∃ t, t = ad + sz - 1 - j := ⟨_, rfl⟩
      rw [← ht] at hix hi2 cb fb HN
      have HT := hid ht
      clear hra hfr ht HT0
      go_wp2_with fail
      have HN2 : Hid (RunAt (wr.setCell ⟨R, 9 + t, none⟩ (.int .u8 ((v : Int) / 2 ^ (8 * j) % 256))).drew R C ((putK M ad sz v j).set t (UInt8.ofNat (v / 2 ^ (8 * j)))) va vc) := by
        have e1 : ((v : Int) / 2 ^ (8 * j) % 256) = ((UInt8.ofNat (v / 2 ^ (8 * j))).toNat : Int) := by rw [← byte_cast, pow_cast, Int.natCast_ediv]
        rw [e1]
        exact HN.out.drew
      have HPK : Hid (putK M ad sz v (j + 1) = (putK M ad sz v j).set t (UInt8.ofNat (v / 2 ^ (8 * j)))) := by rw [HT.out]; exact (rfl : putK M ad sz v (j + 1) = (putK M ad sz v j).set (ad + sz - 1 - j) (UInt8.ofNat (v / 2 ^ (8 * j))))
      go_region
      all_goals
        go_wp2_with fail
        exact ⟨⟨j + 1, by omega, by go_num, by rw [HPK.out]; exact HN2.out, (HFR.out.setCell _ _).drew⟩, by simp [intOf]; omega⟩
    · obtain rfl : j = sz := by omega
      rw [HK.out] at hra
      have HRA := hid hra
      have HFR := hid hfr
      clear hra hfr
      go_wp2_with fail
      go_end0
      exact ⟨rfl, HRA.out, HFR.out⟩
/-- A slice of answers. -/
structure ASl (w : World) (B R : Nat) (va : Value) (A : List Int) : Prop where
  ex : ∃ ao cap, va = .slice ao A.length cap ∧ A.length ≤ cap ∧ cap ≤ maxLen ∧ (A = [] ∨ ∃ b off, ao = some ⟨b, off, none⟩ ∧ b < B ∧ b ≠ R ∧ ∀ (j : Nat) x, A[j]? = some x → w.cell? ⟨b, off + j, none⟩ = some (i64 x))
theorem ASl.fr {w w' : World} {B R : Nat} {va : Value} {A : List Int} (h : ASl w B R va A) (hf : Fr B R w w') : ASl w' B R va A := by
  obtain ⟨ao, cap, e1, e2, e3, e4⟩ := h.ex
  refine ⟨ao, cap, e1, e2, e3, ?_⟩
  rcases e4 with e4 | ⟨b, off, h1, h2, h3, h4⟩
  · exact Or.inl e4
  · exact Or.inr ⟨b, off, h1, h2, h3, fun j x hx => (hf.cell (p := ⟨b, off + j, none⟩) h2 h3).trans (h4 j x hx)⟩
set_option maxHeartbeats 1600000 in
theorem next_ok (w : World) (B R : Nat) (C : List Nat) (M : List UInt8) (va vc : Value) (A : List Int) (hr : RunAt w R C M va vc) (ha : ASl w B R va A) :
    Calls Tryd.prog 31 #[.pointer (some ⟨R, 0, none⟩)] w fun e w' => e = .returned (i64 (A.headD 0)) ∧ ∃ va', RunAt w' R C M va' vc ∧ ASl w' B R va' A.tail ∧ Fr w.heap.size R w w' := by
  obtain ⟨ao, cap, rfl, e2, e3, e4⟩ := ha.ex
  have hc := hr.ans.1
  have hf := hr.free 265
  have HR := hid hr
  cases A with
  | nil =>
    have HA := hid ha
    clear hr ha e4
    go_enter Tryd.func31, Tryd.ntmps31
    go_wp2_with fail
    go_ret
    exact ⟨rfl, _, HR.out, HA.out, Fr.refl _ _ _⟩
  | cons y A =>
    rcases e4 with e4 | ⟨b, off, rfl, h2, h3, h4⟩
    · cases e4
    · have c0 := h4 0 y rfl
      rw [Nat.add_zero] at c0
      have H4 := hid h4
      simp only [List.length_cons] at hc e2
      unfold maxLen at e3
      clear hr ha h4
      by_cases hcap : cap = 1
      · subst hcap
        obtain rfl : A = [] := List.eq_nil_of_length_eq_zero (by omega)
        have HW := hid (HR.out.setA (.slice (some ⟨b, off, none⟩) 0 0))
        go_enter Tryd.func31, Tryd.ntmps31
        go_wp2_with fail
        go_ret
        exact ⟨rfl, _, HW.out, ⟨⟨_, _, rfl, Nat.le_refl _, Nat.zero_le _, Or.inl rfl⟩⟩, (Fr.refl _ _ _).setCell _ _⟩
      · have HW := hid (HR.out.setA (.slice (some ⟨b, off + 1, none⟩) A.length (cap - 1)))
        have hcz : (cap : Int) - 1 = ((cap - 1 : Nat) : Int) := by omega
        go_enter Tryd.func31, Tryd.ntmps31
        go_wp2_with fail
        go_ret
        refine ⟨rfl, _, HW.out, ?_, (Fr.refl _ _ _).setCell _ _⟩
        refine ASl.fr (w := w) ⟨⟨_, _, rfl, by simp only [List.tail_cons]; omega, by unfold maxLen; omega, Or.inr ⟨b, off + 1, rfl, h2, h3, fun j x hx => ?_⟩⟩⟩ ((Fr.refl _ _ _).setCell _ _)
        have := H4.out (j + 1) x (by simpa using hx)
        rw [show off + 1 + j = off + (j + 1) by omega]
        exact this
end Go.Proofs.YtigbfdloodfdgaaDoor
