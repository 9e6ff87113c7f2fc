/- bits' Bytes and Num: their contracts; no statement is proved in this text. -/
import Derived.Test.YtobkehlkopkaeaaDoorPure
import Derived.WalkKit
import Derived.ProofKit
import Derived.OpenShut
import Derived.WalkSmall
import Derived.Deep.QuietTactic
import Derived.BigQuiet
import Derived.Laws.BitsLemmas
import Derived.Laws.IdiomStrings
namespace Go.Proofs.YtobkehlkopkaeaaDoor
open Go.ChangeShapes Go.WideShapes Go.ChangeAt Go.RowKit
set_option maxRecDepth 100000

theorem pow_cast (k : Nat) : ((2 : Int) ^ k) = ((2 ^ k : Nat) : Int) := by rw [Int.natCast_pow]; rfl
theorem mask_num (k : Nat) (hk : k ≤ 63) : IntKind.u64.wrap ((2 : Int) ^ k - 1) = ((2 ^ k - 1 : Nat) : Int) := by
  have h1 : 2 ^ k ≤ 2 ^ 63 := Nat.pow_le_pow_right (by omega) hk
  have h0 : 0 < 2 ^ k := Nat.two_pow_pos _
  rw [pow_cast, IntKind.wrap_u64]
  generalize 2 ^ k = p at *
  omega
set_option maxHeartbeats 400000 in
theorem mask_ok (w : World) (k : Nat) (hk : k ≤ 32) : Calls Tryd.prog 88 #[.int .i64 k] w fun e w' => e = .returned (.int .u64 (2 ^ k - 1 : Nat)) ∧ w' = w := by
  have h2 : IntKind.u64.wrap ((2 : Int) ^ k) = (2 : Int) ^ k := by
    have h1 : 2 ^ k ≤ 2 ^ 32 := Nat.pow_le_pow_right (by omega) hk
    rw [pow_cast, IntKind.wrap_u64]
    generalize 2 ^ k = p at *
    omega
  go_enter Tryd.func88, Tryd.ntmps88
  go_wp2
  go_ret
  exact ⟨congrArg (fun n => Ending.returned (Value.int .u64 n)) (mask_num k (by omega)), rfl⟩
set_option maxHeartbeats 400000 in
theorem fits_ok (w : World) (v k : Nat) (hv : v < 4294967296) (hk : k ≤ 32) : Calls Tryd.prog 76 #[.int .u32 v, .int .i64 k] w fun e w' => e = .returned (.bool (decide (v < 2 ^ k))) ∧ w' = w := by
  have h0 : 0 < 2 ^ k := Nat.two_pow_pos _
  have h1 : 2 ^ k ≤ 2 ^ 32 := Nat.pow_le_pow_right (by omega) hk
  go_enter Tryd.func76, Tryd.ntmps76
  go_wp2_with (go_at_call 88; refine (mask_ok _ k hk).mono ?_; rintro e w1 ⟨rfl, rfl⟩)
  go_ret
  refine ⟨congrArg (fun b => Ending.returned (Value.bool b)) ?_, rfl⟩
  generalize 2 ^ k = p at *
  simp
  omega
def cells (l : List UInt8) : List Value := l.map fun b => Value.int .u8 (b.toNat : Int)
theorem set_front (t : List UInt8) (b : UInt8) : ∀ m, (List.replicate (m + 1) 0 ++ t).set m b = List.replicate m 0 ++ b :: t
  | 0 => rfl
  | m + 1 => by
    show (0 :: (List.replicate (m + 1) 0 ++ t)).set (m + 1) b = 0 :: (List.replicate m 0 ++ b :: t)
    rw [List.set_cons_succ, set_front t b m]
theorem heap_set (w : World) (g o : Nat) (l : List UInt8) (b : UInt8) (e : TypeId) (h : w.heap[g]? = some (.cells (cells l).toArray e (0, 0))) :
    (w.setCell ⟨g, o, none⟩ (.int .u8 b.toNat)).heap[g]? = some (.cells (cells (l.set o b)).toArray e (0, 0)) := by
  simp only [World.setCell, Array.getElem?_modify, h, if_true, Option.map_some]
  congr 2
  simp [cells, List.map_set]
theorem info5x : (Tryd.prog.info? 5).map (fun i => (i.zero, i.size, i.bytes)) = some (some (.int .u8 0), 1, 1) := by kernel_rfl
theorem made_zero (n : Nat) : madeCells #[Value.int .u8 0] (n * 1) = (cells (List.replicate n 0)).toArray := by
  unfold madeCells cells
  apply Array.ext_getElem?
  intro i
  rw [Array.getElem?_map, Array.getElem?_range]
  by_cases h : i < n
  · simp [h, Nat.mod_one]
  · simp [h]
theorem make_ok (w : World) (n : Nat) (h : n ≤ 4) : (Instr.makeSlice 49 (.int .i64 n) (.int .i64 n)).run Tryd.prog w = .ok (.slice (some ⟨w.heap.size, 0, none⟩) n n) (w.alloc (.cells (cells (List.replicate n 0)).toArray 5)) := by
  obtain ⟨i, hi, hz, hs, hb⟩ := info_parts info5x
  have hm := run_make (P := Tryd.prog) w 49 5 i (.int .u8 0) (by kernel_rfl) hi hz .i64 .i64 n n (by omega) (by omega) (by rw [hb]; omega) (by omega)
  rw [Int.toNat_natCast, hs] at hm
  rw [hm]
  congr 3
  exact made_zero n
theorem conv_ok (w : World) (g : Nat) (l : List UInt8) (e : TypeId) (n c : Nat) (hn : l.length = n) (h : w.heap[g]? = some (.cells (cells l).toArray e (0, 0))) : (convert 49 9 (.slice (some ⟨g, 0, none⟩) n c)).run Tryd.prog w = .ok (.string ⟨l.toArray⟩) w := by
  subst hn
  refine run_convert_bytes_back (P := Tryd.prog) w 49 9 5 ⟨g, 0, none⟩ c l (by kernel_rfl) (by kernel_rfl) (by kernel_rfl) (fun j hj => ?_)
  have hadd : (⟨g, 0, none⟩ : Addr).add j = ⟨g, j, none⟩ := by unfold Addr.add; split <;> simp_all
  rw [hadd, cell_of_row w g j _ e (0, 0) h]
  simp [cells, List.getElem?_eq_getElem hj]
/-- What stands between two rounds. -/
structure Out (w wr : World) (v n k : Nat) : Prop where
  row : wr.heap[w.heap.size]? = some (.cells (cells (List.replicate (n - k) 0 ++ tb v k)).toArray 5 (0, 0))
  bel : Below w.heap.size w wr
theorem byte_cast (x : Nat) : ((x : Int) % 256) = ((UInt8.ofNat x).toNat : Int) := by
  rw [UInt8.toNat_ofNat']; omega
theorem Out.next {w wr : World} {v n k : Nat} (h : Out w wr v n k) (hk : k < n) : Out w (wr.setCell ⟨w.heap.size, n - 1 - k, none⟩ (.int .u8 ((v : Int) / 2 ^ (8 * k) % 256))) v n (k + 1) := by
  refine ⟨?_, h.bel.setCell (Nat.le_refl _) _⟩
  have e1 : ((v : Int) / 2 ^ (8 * k) % 256) = ((UInt8.ofNat (v / 2 ^ (8 * k))).toNat : Int) := by
    rw [← byte_cast, pow_cast, Int.natCast_ediv]
  rw [e1, heap_set wr w.heap.size (n - 1 - k) _ _ 5 h.row, show n - k = n - 1 - k + 1 by omega, set_front, show n - (k + 1) = n - 1 - k by omega]
  rfl
set_option maxHeartbeats 800000 in
theorem bytes_ok (w : World) (v n : Nat) (h1 : 1 ≤ n) (h4 : n ≤ 4) (hv : v < 4294967296) (hl : decide (v < 2 ^ (8 * n)) = true) : Calls Tryd.prog 60 #[.int .u32 v, .int .i64 n] w fun e w' => e = .returned (.tuple #[.string ⟨(tb v n).toArray⟩, .int .i64 0]) ∧ Below w.heap.size w w' := by
  have hmk := make_ok w n h4
  have hout0 : Out w (w.alloc (.cells (cells (List.replicate n 0)).toArray 5)) v n 0 := ⟨by
    show (w.heap.push _)[w.heap.size]? = _
    simp [tb], (Below.refl _ _).alloc (Nat.le_refl _) _⟩
  have HO : Hid _ := hout0
  clear hout0
  generalize (cells (List.replicate n 0)).toArray = C at *
  go_enter Tryd.func60, Tryd.ntmps60
  go_wp2_with fail
  rw [show (8 * (n : Int)) = ((8 * n : Nat) : Int) by omega]
  refine (fits_ok _ v (8 * n) hv (by omega)).mono ?_
  rintro e w1 ⟨rfl, rfl⟩
  go_wp2_with fail
  go_loopw [22] (fun i wr => ∃ k : Nat, k ≤ n ∧ i = .int .i64 k ∧ Out w1 wr v n k) (fun i _ => n - (intOf i).toNat)
  case atStart => exact ⟨0, by omega, rfl, HO.out⟩
  case round =>
    obtain ⟨k, hk, rfl, ho⟩ := hrel
    by_cases hkn : k < n
    · have hrow := ho.row
      have hcell : wr.cell? ⟨w1.heap.size, n - 1 - k, none⟩ = some (.int .u8 0) := by
        rw [cell_of_row _ _ _ _ 5 (0, 0) hrow]
        have hh : n - 1 - k < n - k := by omega
        simp [cells, List.getElem?_append_left, hh]
      have hfz : wr.frozen? ⟨w1.heap.size, n - 1 - k, none⟩ = false := by
        unfold World.frozen?
        rw [show wr.heap[(⟨w1.heap.size, n - 1 - k, none⟩ : Addr).block]? = _ from hrow]
        simp
      have hidx : ((n : Int) - 1 - (k : Int)) = ((n - 1 - k : Nat) : Int) := by omega
      have HO2 : Hid (Out w1 wr v n k) := ho
      clear ho hrow
      go_wp2_with fail
      exact ⟨⟨k + 1, by omega, by go_num, HO2.out.next hkn⟩, by simp [intOf]; omega⟩
    · obtain rfl : k = n := by omega
      have hconv := conv_ok wr w1.heap.size (List.replicate (k - k) 0 ++ tb v k) 5 k k (by simp [tb_len]) ho.row
      rw [Nat.sub_self, List.replicate_zero, List.nil_append] at hconv
      have HB : Hid _ := ho.bel
      clear ho
      go_wp2_with fail
      go_ret2
      exact ⟨rfl, HB.out⟩
theorem nm_take (s : ByteArray) (k : Nat) (h : k < s.size) : nm (s.data.toList.take (k + 1)) = nm (s.data.toList.take k) * 256 + s[k].toNat := by
  rw [List.take_succ_eq_append_getElem (by simpa using h), nm_snoc]; rfl
theorem nm_take_lt (s : ByteArray) (k : Nat) (h : k ≤ 3) : nm (s.data.toList.take k) < 16777216 := by
  refine Nat.lt_of_lt_of_le (nm_lt _) ?_
  have : (s.data.toList.take k).length ≤ 3 := by simp; omega
  exact Nat.le_trans (Nat.pow_le_pow_right (by omega) this) (by omega)
theorem or_byte (a c : Nat) (ha : a < 16777216) (hc : c < 256) : bits BinOp.or IntKind.u32 ((a : Int) * 256) (c : Int) = ((a * 256 + c : Nat) : Int) := by
  rw [bits_join IntKind.u32 32 (by decide) (fun n h0 h1 => by rw [IntKind.wrap_u32]; omega) 8 ((a : Int) * 256) (c : Int) (by omega) (by omega) (by omega) (by omega) (by omega) (by omega)]
  omega
set_option maxHeartbeats 800000 in
theorem num_ok (w : World) (s : ByteArray) (h1 : 1 ≤ s.size) (h4 : s.size ≤ 4) : Calls Tryd.prog 63 #[.string s] w fun e w' => e = .returned (.tuple #[.int .u32 (nm s.data.toList), .int .i64 0]) ∧ w' = w := by
  have hall : s.data.toList.take s.size = s.data.toList := List.take_length
  have HA : Hid _ := hall
  clear hall
  go_enter Tryd.func63, Tryd.ntmps63
  go_wp2_with fail
  go_loop [4, 16] (fun a i => ∃ k : Nat, k ≤ s.size ∧ i = .int .i64 k ∧ a = .int .u32 (nm (s.data.toList.take k) : Nat)) (fun _ i => s.size - (intOf i).toNat)
  case atStart => exact ⟨0, by omega, rfl, rfl⟩
  case round =>
    obtain ⟨k, hk, rfl, rfl⟩ := hrel
    by_cases hkn : k < s.size
    · have hn := nm_take s k hkn
      have hlt := nm_take_lt s k (by omega)
      have hb := s[k].toNat_lt
      have HN : Hid (nm (s.data.toList.take (k + 1)) = nm (s.data.toList.take k) * 256 + s[k].toNat) := hn
      clear hn
      generalize nm (s.data.toList.take k) = a at *
      go_wp2_with fail
      exact ⟨⟨k + 1, by omega, by go_num, congrArg (Value.int .u32) (by rw [HN.out]; exact or_byte a _ hlt hb)⟩, by simp [intOf]; omega⟩
    · obtain rfl : k = s.size := by omega
      rw [HA.out]
      generalize ha : nm s.data.toList = a
      have HAA : Hid (nm s.data.toList = a) := ha
      clear ha
      go_wp2_with fail
      go_ret2
      exact ⟨by rw [HAA.out]; rfl, rfl⟩
end Go.Proofs.YtobkehlkopkaeaaDoor
