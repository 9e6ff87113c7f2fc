/- code.parse: its contract; no statement is proved in this text. -/
import Derived.Test.YtobkehlkopkaeaaDoorBy
namespace Go.Proofs.YtobkehlkopkaeaaDoor
open Go.ChangeShapes Go.WideShapes Go.ChangeAt Go.RowKit
set_option maxRecDepth 100000

theorem and15_u8 : ∀ d : Nat, d < 256 → bits BinOp.and IntKind.u8 (d : Int) 15 = ((d % 16 : Nat) : Int) := by decide +kernel

set_option maxHeartbeats 1600000 in
theorem parse_r (w : World) (ht : Tab w) (s t u : ByteArray) (k d : Nat) (hs : 1 < s.size) (hs4 : s.size ≤ 4) (h0 : ∀ h, (s[0]'h).toNat = k) (ht1 : 0 < t.size) (ht4 : t.size ≤ 3) (e1 : s.extract 1 s.size = t) (h1 : ∀ h, (t[0]'h).toNat = d) (e2 : t.extract 1 t.size = u) (hu4 : u.size ≤ 2) (hk : k < 21) (hd : d < 256) (hr : 0 < rg k) (hm : nb k = u.size) (N : Nat) (hN : nm u.data.toList = N) :
    Calls Tryd.prog 41 #[.string s] w fun e w' => e = .returned (inV ⟨k, (d / 16 : Nat), (d % 16 : Nat), N⟩) ∧ Below w.heap.size w w' := by
  obtain ⟨c1, c2⟩ := ht k hk
  have hp := ht.pos
  have hp0 : 0 < w.heap.size := by omega
  have hand := and15_u8 d hd
  have hdm : d % 16 < 16 := by omega
  have hkI : (k : Int) < 21 := by omega
  rw [hm] at c2
  have HN : Hid (0 < u.size → ∀ w, Calls Tryd.prog 63 #[.string u] w fun e w' => e = .returned (.tuple #[.int .u32 N, .int .i64 0]) ∧ w' = w) := fun h w => by rw [← hN]; exact num_ok w u (by omega) (by omega)
  have hN0 : u.size = 0 → N = 0 := fun h => by
    rw [← hN]
    have : u.data.toList = [] := List.eq_nil_of_length_eq_zero (by rw [Array.length_toList]; exact h)
    rw [this]; rfl
  have hnm : N < 65536 := by
    rw [← hN]
    refine Nat.lt_of_lt_of_le (nm_lt _) ?_
    have : u.data.toList.length ≤ 2 := by rw [Array.length_toList]; exact hu4
    exact Nat.le_trans (Nat.pow_le_pow_right (by omega) this) (by omega)
  clear ht hm hN
  generalize d % 16 = dm at *
  generalize rg k = r at *
  by_cases hz : 0 < u.size
  · have HN2 : Hid (∀ w, Calls Tryd.prog 63 #[.string u] w fun e w' => e = .returned (.tuple #[.int .u32 N, .int .i64 0]) ∧ w' = w) := HN.out hz
    clear hN0
    go_enter Tryd.func41, Tryd.ntmps41
    go_wp2_with (go_at_call 63; refine (HN2.out _).mono ?_; rintro e w1 ⟨rfl, rfl⟩)
    exact bodyPost_ret (v := inV ⟨k, ((d / 16 : Nat) : Int), (dm : Int), N⟩) (by simp [results, Tryd.results41, go_sem]) rfl ⟨rfl, (below_one w _).alloc (by simp) _⟩
  · obtain rfl : N = 0 := hN0 (by omega)
    clear hN0 HN
    go_enter Tryd.func41, Tryd.ntmps41
    go_wp2_with fail
    exact bodyPost_ret (v := inV ⟨k, ((d / 16 : Nat) : Int), (dm : Int), ((0 : Nat) : Int)⟩) (by simp [results, Tryd.results41, go_sem]) rfl ⟨rfl, (below_one w _).alloc (by simp) _⟩

set_option maxHeartbeats 1600000 in
theorem parse_n (w : World) (ht : Tab w) (s u : ByteArray) (k : Nat) (hs : 0 < s.size) (hs4 : s.size ≤ 4) (h0 : ∀ h, (s[0]'h).toNat = k) (e1 : s.extract 1 s.size = u) (hu4 : u.size ≤ 2) (hk : k < 21) (hr : rg k = 0) (hm : nb k = u.size) (N : Nat) (hN : nm u.data.toList = N) :
    Calls Tryd.prog 41 #[.string s] w fun e w' => e = .returned (inV ⟨k, 0, 0, N⟩) ∧ Below w.heap.size w w' := by
  obtain ⟨c1, c2⟩ := ht k hk
  have hp := ht.pos
  have hp0 : 0 < w.heap.size := by omega
  have hkI : (k : Int) < 21 := by omega
  rw [hm] at c2
  rw [hr] at c1
  have HN : Hid (0 < u.size → ∀ w, Calls Tryd.prog 63 #[.string u] w fun e w' => e = .returned (.tuple #[.int .u32 N, .int .i64 0]) ∧ w' = w) := fun h w => by rw [← hN]; exact num_ok w u (by omega) (by omega)
  have hN0 : u.size = 0 → N = 0 := fun h => by
    rw [← hN]
    have : u.data.toList = [] := List.eq_nil_of_length_eq_zero (by rw [Array.length_toList]; exact h)
    rw [this]; rfl
  have hnm : N < 65536 := by
    rw [← hN]
    refine Nat.lt_of_lt_of_le (nm_lt _) ?_
    have : u.data.toList.length ≤ 2 := by rw [Array.length_toList]; exact hu4
    exact Nat.le_trans (Nat.pow_le_pow_right (by omega) this) (by omega)
  clear ht hm hN hr
  by_cases hz : 0 < u.size
  · have HN2 : Hid (∀ w, Calls Tryd.prog 63 #[.string u] w fun e w' => e = .returned (.tuple #[.int .u32 N, .int .i64 0]) ∧ w' = w) := HN.out hz
    clear hN0
    go_enter Tryd.func41, Tryd.ntmps41
    go_wp2_with (go_at_call 63; refine (HN2.out _).mono ?_; rintro e w1 ⟨rfl, rfl⟩)
    exact bodyPost_ret (v := inV ⟨k, 0, 0, N⟩) (by simp [results, Tryd.results41, go_sem]) rfl ⟨rfl, (below_one w _).alloc (by simp) _⟩
  · obtain rfl : N = 0 := hN0 (by omega)
    clear hN0 HN
    go_enter Tryd.func41, Tryd.ntmps41
    go_wp2_with fail
    exact bodyPost_ret (v := inV ⟨k, 0, 0, ((0 : Nat) : Int)⟩) (by simp [results, Tryd.results41, go_sem]) rfl ⟨rfl, (below_one w _).alloc (by simp) _⟩

theorem ba_size (l : List UInt8) : (⟨l.toArray⟩ : ByteArray).size = l.length := by simp [ByteArray.size]
theorem ba_drop (l : List UInt8) (j : Nat) : (⟨l.toArray⟩ : ByteArray).extract j (⟨l.toArray⟩ : ByteArray).size = ⟨(l.drop j).toArray⟩ := by
  rw [ba_size]
  apply ByteArray.ext
  simp [ByteArray.data_extract]
  exact List.take_of_length_le (by simp)
theorem ba_zero (c : UInt8) (r : List UInt8) : ∀ h, (⟨(c :: r).toArray⟩ : ByteArray)[0]'h = c := fun _ => rfl

theorem parse_ok (w : World) (ht : Tab w) (c : UInt8) (r : List UInt8) (hc : c.toNat ≤ 20) (hl : (c :: r).length = sz c.toNat) :
    Calls Tryd.prog 41 #[.string ⟨(c :: r).toArray⟩] w fun e w' => e = .returned (inV (parse (c :: r))) ∧ Below w.heap.size w w' := by
  have hs := sz_le c.toNat
  have hnb := nb_le c.toNat
  rw [parse_cons]
  by_cases hr : 0 < rg c.toNat
  · rw [if_pos hr]
    unfold sz rc at hl
    rw [if_pos hr] at hl
    cases r with
    | nil => simp at hl; omega
    | cons d t =>
      simp only [List.length_cons] at hl
      exact parse_r w ht _ ⟨(d :: t).toArray⟩ ⟨t.toArray⟩ c.toNat d.toNat (by rw [ba_size]; simp) (by rw [ba_size]; simp; omega) (fun h => by rw [ba_zero]) (by rw [ba_size]; simp) (by rw [ba_size]; simp; omega) (ba_drop _ 1) (fun h => by rw [ba_zero]) (ba_drop _ 1) (by rw [ba_size]; omega) (by omega) d.toNat_lt hr (by rw [ba_size]; omega) _ rfl
  · rw [if_neg hr]
    unfold sz rc at hl
    rw [if_neg hr] at hl
    simp only [List.length_cons] at hl
    exact parse_n w ht _ ⟨r.toArray⟩ c.toNat (by rw [ba_size]; simp) (by rw [ba_size]; simp; omega) (fun h => by rw [ba_zero]) (ba_drop _ 1) (by rw [ba_size]; omega) (by omega) (by omega) (by rw [ba_size]; omega) _ rfl
end Go.Proofs.YtobkehlkopkaeaaDoor
