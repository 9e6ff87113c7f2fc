/- imagoref15.digits: its contract; no statement is proved in this text. -/
import Derived.Test.YtgiemijhndanjaaDoorTx0
import Derived.Lib.ItoaLen
namespace Go.Proofs.YtgiemijhndanjaaDoor
open Go.ChangeShapes Go.WideShapes Go.ChangeAt Go.RowKit Go.Deep
attribute [local go_sem ↓] Go.wp_at_zero Go.wp_at_succ

abbrev u8 (n : Int) : Value := .int .u8 n
def cells (l : List UInt8) : List Value := l.map fun c => u8 (c.toNat : Int)
theorem cells_len (l : List UInt8) : (cells l).length = l.length := by simp [cells]
theorem heap_at {w : World} {H : Nat} (hH : w.heap.size = H) (o : Obj) : (w.alloc o).heap[H]? = some o := by
  subst hH
  show (w.heap.push o)[w.heap.size]? = some o
  simp
theorem lit_at {w : World} {H base : Nat} (hH : w.heap.size = H) (hb : base ≤ H) (u : Value) : (w.alloc (.cells #[u] 5)).ownsRow base 5 1 (.slice (some ⟨H, 0, none⟩) 1 1) 1 [u] := by
  subst hH
  exact World.ownsRow_lit w #[u] 1 hb (by unfold maxLen; omega) rfl
theorem conv_nil (w : World) : (convert 88 9 (.slice none 0 0)).run Tryd.prog w = .ok (.string ⟨#[]⟩) w := by kernel_rfl
theorem own_conv {w : World} {base : Nat} {v : Value} {n : Nat} {xs : List Value} {l : List UInt8} (h : w.ownsRow base 5 1 v n xs) (hx : xs = cells l) : (convert 88 9 v).run Tryd.prog w = .ok (.string ⟨l.toArray⟩) w := by
  subst hx
  have hl := h.1
  rw [cells_len, Nat.mul_one] at hl
  rcases h.2 with ⟨rfl, h0⟩ | ⟨g, cap, cur, rfl, _, hg, _⟩
  · obtain rfl : l = [] := List.eq_nil_of_length_eq_zero (by omega)
    exact conv_nil w
  · subst hl
    refine run_convert_bytes_back (P := Tryd.prog) w 88 9 5 ⟨g, 0, none⟩ cap l (by kernel_rfl) (by kernel_rfl) (by kernel_rfl) (fun j hj => ?_)
    have hadd : (⟨g, 0, none⟩ : Addr).add j = ⟨g, j, none⟩ := by unfold Addr.add; split <;> simp_all
    rw [hadd, h.cellAt j (by omega)]
    simp [cells, List.getElem?_eq_getElem hj]

theorem own_below {w w' : World} {base : Nat} {e : TypeId} {size : Nat} {v : Value} {n : Nat} {xs : List Value} (h : w.ownsRow base e size v n xs) (hb : Below w.heap.size w w') : w'.ownsRow base e size v n xs := by
  refine ⟨h.1, ?_⟩
  rcases h.2 with h | ⟨g, cap, cur, h1, h2, h3, h4⟩
  · exact Or.inl h
  · exact Or.inr ⟨g, cap, cur, h1, h2, (hb.block _ (Array.getElem?_eq_some_iff.1 h3).1).trans h3, h4⟩
theorem conv_one (w : World) (x : UInt8) (k : Int) (hk : k = (x.toNat : Int)) : (convert 88 9 (.slice (some ⟨w.heap.size, 0, none⟩) 1 1)).run Tryd.prog (w.alloc (.cells #[u8 k] 5)) = .ok (.string ⟨#[x]⟩) (w.alloc (.cells #[u8 k] 5)) := by
  subst hk
  exact own_conv (l := [x]) (lit_at rfl (Nat.le_refl _) _) rfl
set_option maxRecDepth 100000 in
set_option maxHeartbeats 1600000 in
theorem digits_small (w : World) (n : Nat) (h : n < 10) : Calls Tryd.prog 46 #[i64 n] w fun e w' => e = .returned (str [UInt8.ofNat (48 + n)]) ∧ Below w.heap.size w w' := by
  have hcv := conv_one w (UInt8.ofNat (48 + n)) (48 + (n : Int)) (by rw [UInt8.toNat_ofNat']; omega)
  generalize UInt8.ofNat (48 + n) = x at *
  go_enter Tryd.func46, Tryd.ntmps46
  go_wp2_with fail
  go_ret
  exact ⟨rfl, below_one _ _⟩
theorem dig_k (n : Nat) : IntKind.u8.wrap (IntKind.i64.wrap (48 + (n : Int).tmod 10)) = ((UInt8.ofNat (48 + n % 10)).toNat : Int) := by
  have e : (n : Int).tmod 10 = ((n % 10 : Nat) : Int) := by rw [Int.tmod_eq_emod_of_nonneg (by omega)]; omega
  rw [e, IntKind.wrap_i64, UInt8.toNat_ofNat']
  simp only [IntKind.wrap, IntKind.bits, IntKind.signed]
  simp
  omega
theorem below_ad {w w1 : World} {o : Obj} (hb : Below (w.alloc o).drew.heap.size (w.alloc o).drew w1) : Below w.heap.size w w1 :=
  ((below_one w o).trans (c := (w.alloc o).drew) ⟨rfl, rfl, rfl, Nat.le_refl _, fun _ _ => rfl⟩).trans (hb.mono (by show w.heap.size ≤ (w.alloc o).heap.size; simp))
theorem conv_ad {w w1 : World} {k : Int} {x : UInt8} (hk : k = (x.toNat : Int)) (hb : Below (w.alloc (.cells #[u8 k] 5)).drew.heap.size (w.alloc (.cells #[u8 k] 5)).drew w1) : (convert 88 9 (.slice (some ⟨w.heap.size, 0, none⟩) 1 1)).run Tryd.prog w1 = .ok (.string ⟨#[x]⟩) w1 := by
  subst hk
  have h : (w.alloc (.cells #[u8 (x.toNat : Int)] 5)).drew.ownsRow w.heap.size 5 1 (.slice (some ⟨w.heap.size, 0, none⟩) 1 1) 1 [u8 (x.toNat : Int)] := lit_at (w := w) rfl (Nat.le_refl _) _
  exact own_conv (l := [x]) (own_below h hb) rfl
set_option maxRecDepth 100000 in
set_option maxHeartbeats 1600000 in
theorem digits_big (w : World) (n : Nat) (h : ¬ n < 10) (hn : n ≤ 65535) (D : Bs) (hD : D.length ≤ 21) (hR : ∀ w, Calls Tryd.prog 46 #[i64 ((n / 10 : Nat) : Int)] w fun e w' => e = .returned (str D) ∧ Below w.heap.size w w') :
    Calls Tryd.prog 46 #[i64 n] w fun e w' => e = .returned (str (D ++ [UInt8.ofNat (48 + n % 10)])) ∧ Below w.heap.size w w' := by
  have HR : Hid (∀ w, Calls Tryd.prog 46 #[i64 (IntKind.i64.wrap ((n : Int) / 10))] w fun e w' => e = .returned (str D) ∧ Below w.heap.size w w') := fun w => by
    have := hR w
    rw [show IntKind.i64.wrap ((n : Int) / 10) = ((n / 10 : Nat) : Int) by rw [IntKind.wrap_i64]; omega]
    exact this
  have HK : Hid (IntKind.u8.wrap (IntKind.i64.wrap (48 + (n : Int).tmod 10)) = ((UInt8.ofNat (48 + n % 10)).toNat : Int)) := dig_k n
  have hc0 := conv_ad (w := w) HK.out (Below.refl _ _)
  have HRES : Hid (str (D ++ [UInt8.ofNat (48 + n % 10)]) = .string ((⟨D.toArray⟩ : ByteArray) ++ ⟨#[UInt8.ofNat (48 + n % 10)]⟩)) := (by
    refine congrArg Value.string ?_
    apply ByteArray.ext
    simp : str (D ++ [UInt8.ofNat (48 + n % 10)]) = .string ((⟨D.toArray⟩ : ByteArray) ++ ⟨#[UInt8.ofNat (48 + n % 10)]⟩))
  have hsD := bz D
  generalize UInt8.ofNat (48 + n % 10) = x at *
  clear hR
  go_enter Tryd.func46, Tryd.ntmps46
  go_wp2_with fail
  go_region_with (go_at_call 46; refine (HR.out _).mono ?_; rintro e w1 ⟨rfl, hb1⟩; first | (have hcB := conv_ad HK.out hb1; have HB1 : Hid (Below w.heap.size w w1) := below_ad hb1; clear hb1) | (have hcA := conv_one w1 x _ HK.out; have HB1 : Hid (Below w.heap.size w w1) := ⟨hb1.os, hb1.tape, hb1.output, hb1.size, hb1.block⟩; clear hb1))
  all_goals
    have hz := HB1.out.size
    go_wp2_with fail
    go_ret
    exact ⟨by rw [HRES.out]; rfl, by first | exact HB1.out | exact HB1.out.alloc hz _⟩
theorem digits_ok : ∀ (n : Nat), n ≤ 65535 → ∀ w : World, Calls Tryd.prog 46 #[i64 n] w fun e w' => e = .returned (str (Lib.decDigits n)) ∧ Below w.heap.size w w' := by
  intro n
  induction n using Nat.strongRecOn with
  | _ n ih =>
    intro hn w
    rw [Lib.decDigits]
    by_cases h : n < 10
    · rw [dif_pos h]
      exact digits_small w n h
    · rw [dif_neg h]
      refine digits_big w n h hn (Lib.decDigits (n / 10)) ?_ (ih (n / 10) (by omega) (by omega))
      rw [Lib.decDigits_length]
      have := Lib.nDigits_le20 (n / 10) (by omega)
      omega
theorem digits_i (n : Int) (h0 : 0 ≤ n) (h1 : n ≤ 255) (w : World) : Calls Tryd.prog 46 #[i64 n] w fun e w' => e = .returned (str (Lib.itoa n)) ∧ Below w.heap.size w w' := by
  have h := digits_ok n.toNat (by omega) w
  have e : Lib.itoa n = Lib.decDigits n.toNat := by unfold Lib.itoa; rw [if_neg (by omega)]
  rw [e]
  have e2 : ((n.toNat : Nat) : Int) = n := by omega
  rw [e2] at h
  exact h
end Go.Proofs.YtgiemijhndanjaaDoor
