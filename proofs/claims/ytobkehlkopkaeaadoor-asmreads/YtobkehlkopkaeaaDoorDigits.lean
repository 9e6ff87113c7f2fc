/- The document's digits, shape and Name: their contracts; no statement is proved in this text. -/
import Derived.Test.YtobkehlkopkaeaaDoorLines
namespace Go.Proofs.YtobkehlkopkaeaaDoor
open Go.ChangeShapes Go.WideShapes Go.ChangeAt Go.RowKit
set_option maxRecDepth 100000

def shpF (op : Int) : Bs := if op = 0 then [] else if op = 1 then [114, 110] else if op = 17 then [108] else if op = 18 then [114, 108] else if op = 19 then [114, 108] else if op = 20 then [110] else [114, 114]
set_option maxHeartbeats 1600000 in
theorem shape_ok (w : World) (op : Int) : Calls Tryd.prog 38 #[i64 op] w fun e w' => e = .returned (str (shpF op)) ∧ w' = w := by
  unfold shpF
  by_cases h0 : op = 0
  · subst h0
    go_enter Tryd.func38, Tryd.ntmps38
    go_wp2_with fail
    go_ret
    exact ⟨rfl, rfl⟩
  by_cases h1 : op = 1
  · subst h1
    go_enter Tryd.func38, Tryd.ntmps38
    go_wp2_with fail
    go_ret
    exact ⟨rfl, rfl⟩
  by_cases h17 : op = 17
  · subst h17
    go_enter Tryd.func38, Tryd.ntmps38
    go_wp2_with fail
    go_ret
    exact ⟨rfl, rfl⟩
  by_cases h18 : op = 18
  · subst h18
    go_enter Tryd.func38, Tryd.ntmps38
    go_wp2_with fail
    go_ret
    exact ⟨rfl, rfl⟩
  by_cases h19 : op = 19
  · subst h19
    go_enter Tryd.func38, Tryd.ntmps38
    go_wp2_with fail
    go_ret
    exact ⟨rfl, rfl⟩
  by_cases h20 : op = 20
  · subst h20
    go_enter Tryd.func38, Tryd.ntmps38
    go_wp2_with fail
    go_ret
    exact ⟨rfl, rfl⟩
  rw [if_neg h0, if_neg h1, if_neg h17, if_neg h18, if_neg h19, if_neg h20]
  have b0 : (op == 0) = false := by simpa using h0
  have b1 : (op == 1) = false := by simpa using h1
  have b17 : (op == 17) = false := by simpa using h17
  have b18 : (op == 18) = false := by simpa using h18
  have b19 : (op == 19) = false := by simpa using h19
  have b20 : (op == 20) = false := by simpa using h20
  clear h0 h1 h17 h18 h19 h20
  go_enter Tryd.func38, Tryd.ntmps38
  go_wp2_with fail
  go_ret
  exact ⟨rfl, rfl⟩

theorem conv_one (w : World) (x : UInt8) (k : Int) (hk : k = (x.toNat : Int)) : (convert 49 9 (.slice (some ⟨w.heap.size, 0, none⟩) 1 1)).run Tryd.prog (w.alloc (.cells #[u8 k] 5)) = .ok (.string ⟨#[x]⟩) (w.alloc (.cells #[u8 k] 5)) := by
  subst hk
  exact own_conv (l := [x]) (lit_at rfl (Nat.le_refl _) _) rfl
set_option maxHeartbeats 1600000 in
theorem digits_small (w : World) (n : Nat) (h : n < 10) : Calls Tryd.prog 39 #[i64 n] w fun e w' => e = .returned (str [UInt8.ofNat (48 + n)]) ∧ Below w.heap.size w w' := by
  have hcv := conv_one w (UInt8.ofNat (48 + n)) (48 + (n : Int)) (by rw [UInt8.toNat_ofNat']; omega)
  generalize UInt8.ofNat (48 + n) = x at *
  go_enter Tryd.func39, Tryd.ntmps39
  go_wp2_with fail
  go_ret
  exact ⟨rfl, below_one _ _⟩
theorem dig_k (n : Nat) : IntKind.u8.wrap (IntKind.i64.wrap (48 + (n : Int).tmod 10)) = ((UInt8.ofNat (48 + n % 10)).toNat : Int) := by
  have e : (n : Int).tmod 10 = ((n % 10 : Nat) : Int) := by rw [Int.tmod_eq_emod_of_nonneg (by omega)]; omega
  rw [e, IntKind.wrap_i64, UInt8.toNat_ofNat']
  simp only [IntKind.wrap, IntKind.bits, IntKind.signed]
  simp
  omega
theorem below_ad {w w1 : World} {o : Obj} (hb : Below (w.alloc o).drew.heap.size (w.alloc o).drew w1) : Below w.heap.size w w1 :=
  ((below_one w o).trans (c := (w.alloc o).drew) ⟨rfl, rfl, rfl, Nat.le_refl _, fun _ _ => rfl⟩).trans (hb.mono (by show w.heap.size ≤ (w.alloc o).heap.size; simp))
theorem conv_ad {w w1 : World} {k : Int} {x : UInt8} (hk : k = (x.toNat : Int)) (hb : Below (w.alloc (.cells #[u8 k] 5)).drew.heap.size (w.alloc (.cells #[u8 k] 5)).drew w1) : (convert 49 9 (.slice (some ⟨w.heap.size, 0, none⟩) 1 1)).run Tryd.prog w1 = .ok (.string ⟨#[x]⟩) w1 := by
  subst hk
  have h : (w.alloc (.cells #[u8 (x.toNat : Int)] 5)).drew.ownsRow w.heap.size 5 1 (.slice (some ⟨w.heap.size, 0, none⟩) 1 1) 1 [u8 (x.toNat : Int)] := lit_at (w := w) rfl (Nat.le_refl _) _
  exact own_conv (l := [x]) (own_below h hb) rfl
set_option maxHeartbeats 1600000 in
theorem digits_big (w : World) (n : Nat) (h : ¬ n < 10) (hn : n ≤ 65535) (D : Bs) (hD : D.length ≤ 21) (hR : ∀ w, Calls Tryd.prog 39 #[i64 ((n / 10 : Nat) : Int)] w fun e w' => e = .returned (str D) ∧ Below w.heap.size w w') :
    Calls Tryd.prog 39 #[i64 n] w fun e w' => e = .returned (str (D ++ [UInt8.ofNat (48 + n % 10)])) ∧ Below w.heap.size w w' := by
  have HR : Hid (∀ w, Calls Tryd.prog 39 #[i64 (IntKind.i64.wrap ((n : Int) / 10))] w fun e w' => e = .returned (str D) ∧ Below w.heap.size w w') := fun w => by
    have := hR w
    rw [show IntKind.i64.wrap ((n : Int) / 10) = ((n / 10 : Nat) : Int) by rw [IntKind.wrap_i64]; omega]
    exact this
  have HK : Hid (IntKind.u8.wrap (IntKind.i64.wrap (48 + (n : Int).tmod 10)) = ((UInt8.ofNat (48 + n % 10)).toNat : Int)) := dig_k n
  have hc0 := conv_ad (w := w) HK.out (Below.refl _ _)
  have HRES : Hid (str (D ++ [UInt8.ofNat (48 + n % 10)]) = .string ((⟨D.toArray⟩ : ByteArray) ++ ⟨#[UInt8.ofNat (48 + n % 10)]⟩)) := (by
    refine congrArg Value.string ?_
    apply ByteArray.ext
    simp : str (D ++ [UInt8.ofNat (48 + n % 10)]) = .string ((⟨D.toArray⟩ : ByteArray) ++ ⟨#[UInt8.ofNat (48 + n % 10)]⟩))
  have hsD := bz D
  generalize UInt8.ofNat (48 + n % 10) = x at *
  clear hR
  go_enter Tryd.func39, Tryd.ntmps39
  go_wp2_with fail
  go_region_with (go_at_call 39; refine (HR.out _).mono ?_; rintro e w1 ⟨rfl, hb1⟩; first | (have hcB := conv_ad HK.out hb1; have HB1 : Hid (Below w.heap.size w w1) := below_ad hb1; clear hb1) | (have hcA := conv_one w1 x _ HK.out; have HB1 : Hid (Below w.heap.size w w1) := ⟨hb1.os, hb1.tape, hb1.output, hb1.size, hb1.block⟩; clear hb1))
  all_goals
    have hz := HB1.out.size
    go_wp2_with fail
    go_ret
    exact ⟨by rw [HRES.out]; rfl, by first | exact HB1.out | exact HB1.out.alloc hz _⟩
theorem digits_ok : ∀ (n : Nat), n ≤ 65535 → ∀ w : World, Calls Tryd.prog 39 #[i64 n] w fun e w' => e = .returned (str (Lib.decDigits n)) ∧ Below w.heap.size w w' := by
  intro n
  induction n using Nat.strongRecOn with
  | _ n ih =>
    intro hn w
    rw [Lib.decDigits]
    by_cases h : n < 10
    · rw [dif_pos h]
      exact digits_small w n h
    · rw [dif_neg h]
      refine digits_big w n h hn (Lib.decDigits (n / 10)) ?_ (ih (n / 10) (by omega) (by omega))
      rw [Lib.decDigits_length]
      have := Lib.nDigits_le20 (n / 10) (by omega)
      omega
theorem names_at : ∀ k : Nat, k < 21 → (nmT.map str)[k]? = some (str (nmOf k)) := by
  intro k hk
  rcases k with _|_|_|_|_|_|_|_|_|_|_|_|_|_|_|_|_|_|_|_|_|k
  all_goals first
    | omega
    | rfl
set_option maxHeartbeats 1600000 in
theorem rname_ok (w : World) (op : Int) : Calls Tryd.prog 18 #[i64 op] w fun e w' => e = .returned (str (if 0 ≤ op ∧ op ≤ 20 then nmOf op.toNat else [])) ∧ Below w.heap.size w w' := by
  by_cases h : 0 ≤ op ∧ op ≤ 20
  · obtain ⟨k, rfl⟩ := Int.eq_ofNat_of_zero_le h.1
    rw [if_pos h, Int.toNat_natCast]
    have hk : k < 21 := by omega
    have hN := names_at k hk
    clear h
    go_enter Tryd.func18, Tryd.ntmps18
    go_upto_region 2 with fail
    generalize hV : w.alloc (Obj.cells _ 9) = V
    have hrow : V.heap[w.heap.size]? = some (.cells (nmT.map str).toArray 9 (0, 0)) := by rw [← hV]; exact heap_at rfl _
    have hb : Below w.heap.size w V := by rw [← hV]; exact below_one _ _
    have c0 : V.cell? ⟨w.heap.size, k, none⟩ = some (str (nmOf k)) := by rw [cell_of_row V w.heap.size k _ 9 (0, 0) hrow]; simpa using hN
    have hlt : w.heap.size < V.heap.size := (Array.getElem?_eq_some_iff.1 hrow).1
    have HB : Hid (Below w.heap.size w V) := hb
    clear hV hrow hb hN
    go_wp2_with fail
    go_ret
    exact ⟨rfl, HB.out⟩
  · rw [if_neg h]
    rcases (show op < 0 ∨ (¬ op < 0 ∧ 20 < op) by omega) with h | ⟨h, h2⟩
    all_goals
      go_enter Tryd.func18, Tryd.ntmps18
      go_wp2_with fail
      go_ret
      exact ⟨rfl, below_one _ _⟩
end Go.Proofs.YtobkehlkopkaeaaDoor
