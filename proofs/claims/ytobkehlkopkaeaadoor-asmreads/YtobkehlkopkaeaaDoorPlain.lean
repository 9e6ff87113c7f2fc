/- Rows of bytes that grow; the document's Plain and Bytes: their contracts; no statement is proved in this text. -/
import Derived.Test.YtobkehlkopkaeaaDoorIs
import Derived.Laws.AppendOwn
import Derived.Laws.OwnMore
import Derived.Lib.AppendStr
namespace Go.Proofs.YtobkehlkopkaeaaDoor
open Go.ChangeShapes Go.WideShapes Go.ChangeAt Go.RowKit
set_option maxRecDepth 100000

abbrev u8 (n : Int) : Value := .int .u8 n
theorem under57 : Tryd.prog.underlying 49 = some (.slice 5) := by kernel_rfl
theorem under9 : Tryd.prog.underlying 9 = some .string := by kernel_rfl
theorem cells_len (l : List UInt8) : (cells l).length = l.length := by simp [cells]
theorem cells_app (l m : List UInt8) : cells (l ++ m) = cells l ++ cells m := by simp [cells]
theorem strCells_eq (s : ByteArray) : Lib.strCells s = cells s.data.toList := rfl

theorem heap_at {w : World} {H : Nat} (hH : w.heap.size = H) (o : Obj) : (w.alloc o).heap[H]? = some o := by
  subst hH
  show (w.heap.push o)[w.heap.size]? = some o
  simp
theorem lit_at {w : World} {H base : Nat} (hH : w.heap.size = H) (hb : base ≤ H) (u : Value) : (w.alloc (.cells #[u] 5)).ownsRow base 5 1 (.slice (some ⟨H, 0, none⟩) 1 1) 1 [u] := by
  subst hH
  exact World.ownsRow_lit w #[u] 1 hb (by unfold maxLen; omega) rfl
theorem one_at {w : World} {H : Nat} (hH : w.heap.size = H) (u : Value) : (w.alloc (.cells #[u] 5)).cell? ⟨H, 0, none⟩ = some u := by
  rw [cell_of_row _ _ _ _ 5 (0, 0) (heap_at hH _)]
  rfl
theorem conv_nil (w : World) : (convert 49 9 (.slice none 0 0)).run Tryd.prog w = .ok (.string ⟨#[]⟩) w := by kernel_rfl
theorem own_conv {w : World} {base : Nat} {v : Value} {n : Nat} {xs : List Value} {l : List UInt8} (h : w.ownsRow base 5 1 v n xs) (hx : xs = cells l) : (convert 49 9 v).run Tryd.prog w = .ok (.string ⟨l.toArray⟩) w := by
  subst hx
  have hl := h.1
  rw [cells_len, Nat.mul_one] at hl
  rcases h.2 with ⟨rfl, h0⟩ | ⟨g, cap, cur, rfl, _, hg, _⟩
  · obtain rfl : l = [] := List.eq_nil_of_length_eq_zero (by omega)
    exact conv_nil w
  · subst hl
    refine run_convert_bytes_back (P := Tryd.prog) w 49 9 5 ⟨g, 0, none⟩ cap l (by kernel_rfl) (by kernel_rfl) (by kernel_rfl) (fun j hj => ?_)
    have hadd : (⟨g, 0, none⟩ : Addr).add j = ⟨g, j, none⟩ := by unfold Addr.add; split <;> simp_all
    rw [hadd, h.cellAt j (by omega)]
    simp [cells, List.getElem?_eq_getElem hj]

theorem app57 {w : World} {ops : Array Oper} {rest : List Oper} {o : Oper} {a : Act} {Q : Exit → Act → World → Prop} (hgd : o.guard = none) (s x : Operand)
    (ho : o.op = .call { callee := .builtin .append, args := #[s, x], argTypes := #[49, 49] }) (base : Nat) (v : Value) (n : Nat) (xs : List Value) (hs : a.eval s = v) (hown : w.ownsRow base 5 1 v n xs)
    (H c : Nat) (k : Int) (hx : a.eval x = .slice (some ⟨H, 0, none⟩) 1 c) (hcell : w.cell? ⟨H, 0, none⟩ = some (u8 k)) (hn : n ≤ 1000000) (hbase : base ≤ w.heap.size)
    (h : ∀ v' w', w'.ownsRow base 5 1 v' (n + 1) (xs ++ [u8 k]) → Below base w w' → wpList Tryd.prog ops Q rest (a.put o.dst v') w') : wpList Tryd.prog ops Q (o :: rest) a w := by
  obtain ⟨i5, hi, hz, hsz, hby⟩ := info_parts info5x
  refine wpList_append_own w hgd s x 49 ho base 5 i5 (.int .u8 0) 1 1 under57 hi hz hsz hby rfl (by omega) v n xs hs hown ⟨H, 0, none⟩ 1 c [u8 k] hx rfl (fun j u hu => ?_) (by simp [Value.oneCell']) (by unfold maxLen; omega) (by omega) hbase ?_
  · rcases j with _ | j
    · obtain rfl : u8 k = u := by simpa using hu
      exact hcell
    · simp at hu
  · intro v' w' h1 h2 _
    exact h v' w' h1 ((Below.refl _ _).grown h2 hbase (fun r hr => (hown.lt r hr).1))
theorem app9 {w : World} {ops : Array Oper} {rest : List Oper} {o : Oper} {a : Act} {Q : Exit → Act → World → Prop} (hgd : o.guard = none) (s x : Operand)
    (ho : o.op = .call { callee := .builtin .append, args := #[s, x], argTypes := #[49, 9] }) (base : Nat) (v : Value) (n : Nat) (xs : List Value) (hs : a.eval s = v) (hown : w.ownsRow base 5 1 v n xs)
    (l : List UInt8) (hx : a.eval x = .string ⟨l.toArray⟩) (hn : n + l.length ≤ 1000000) (hbase : base ≤ w.heap.size)
    (h : ∀ v' w', w'.ownsRow base 5 1 v' (n + l.length) (xs ++ cells l) → Below base w w' → wpList Tryd.prog ops Q rest (a.put o.dst v') w') : wpList Tryd.prog ops Q (o :: rest) a w := by
  obtain ⟨i5, hi, hz, hsz, hby⟩ := info_parts info5x
  have hsize : (⟨l.toArray⟩ : ByteArray).size = l.length := by simp [ByteArray.size]
  refine Lib.wpList_append_own_string w hgd s x 49 9 ho base 5 i5 under57 under9 hi hz hsz hby v n xs hs hown ⟨l.toArray⟩ hx (by rw [hsize]; unfold maxLen; omega) (by rw [hsize]; omega) hbase ?_
  intro v' w' h1 h2 _
  rw [hsize, strCells_eq] at h1
  exact h v' w' h1 ((Below.refl _ _).grown h2 hbase (fun r hr => (hown.lt r hr).1))

/-! ### What the bytes are, as cells -/
theorem byteV (x : Nat) (h : x < 256) : u8 ((UInt8.ofNat x).toNat : Nat) = u8 (x : Int) := by
  rw [UInt8.toNat_ofNat', Nat.mod_eq_of_lt h]
theorem byteM (x : Nat) : u8 ((UInt8.ofNat x).toNat : Nat) = u8 ((x : Int) % 256) := by
  rw [UInt8.toNat_ofNat']; rfl
theorem pc00 {k a b n : Nat} (hk : k < 21) (hr : rg k = 0) (hm : nb k = 0) : cells (plain ⟨k, a, b, n⟩) = [u8 k] := by
  unfold plain
  simp only [Int.toNat_natCast, hr, hm, tb, Nat.lt_irrefl, if_false]
  simp only [cells, List.map_cons, List.map_nil, List.append_nil, byteV k (by omega)]
theorem pc10 {k a b n : Nat} (hk : k < 21) (ha : a ≤ 7) (hb : b ≤ 7) (hr : 0 < rg k) (hm : nb k = 0) : cells (plain ⟨k, a, b, n⟩) = [u8 k, u8 (16 * a + b)] := by
  unfold plain
  simp only [Int.toNat_natCast, hr, hm, tb, if_true]
  simp only [cells, List.map_cons, List.map_nil, List.append_nil, byteV k (by omega), byteV (16 * a + b) (by omega)]
  rfl
theorem tb2 (n : Nat) : tb n 2 = [UInt8.ofNat (n / 256), UInt8.ofNat n] := by simp [tb]
theorem tb1 (n : Nat) : tb n 1 = [UInt8.ofNat n] := by simp [tb]
theorem pc12 {k a b n : Nat} (hk : k < 21) (ha : a ≤ 7) (hb : b ≤ 7) (hn : n ≤ 65535) (hr : 0 < rg k) (hm : nb k = 2) : cells (plain ⟨k, a, b, n⟩) = [u8 k, u8 (16 * a + b), u8 (n / 256), u8 (n % 256)] := by
  unfold plain
  simp only [Int.toNat_natCast, hr, hm, tb2, if_true]
  simp only [cells, List.map_cons, List.map_nil, List.cons_append, List.nil_append, byteV k (by omega), byteV (16 * a + b) (by omega), byteV (n / 256) (by omega), byteM n]
  rfl
theorem pc02 {k a b n : Nat} (hk : k < 21) (hn : n ≤ 65535) (hr : rg k = 0) (hm : nb k = 2) : cells (plain ⟨k, a, b, n⟩) = [u8 k, u8 (n / 256), u8 (n % 256)] := by
  unfold plain
  simp only [Int.toNat_natCast, hr, hm, tb2, Nat.lt_irrefl, if_false]
  simp only [cells, List.map_cons, List.map_nil, List.nil_append, byteV k (by omega), byteV (n / 256) (by omega), byteM n]
  rfl
theorem pc01 {k a b n : Nat} (hk : k < 21) (hr : rg k = 0) (hm : nb k = 1) : cells (plain ⟨k, a, b, n⟩) = [u8 k, u8 (n % 256)] := by
  unfold plain
  simp only [Int.toNat_natCast, hr, hm, tb1, Nat.lt_irrefl, if_false]
  simp only [cells, List.map_cons, List.map_nil, List.nil_append, byteV k (by omega), byteM n]

/-- Four cells of a box. -/
theorem four_at {w : World} {H : Nat} (hH : w.heap.size = H) (x0 x1 x2 x3 : Value) (t : TypeId) (w' : World) (hb : Below (H + 1) (w.alloc (.cells #[x0, x1, x2, x3] t)) w') :
    w'.cell? ⟨H, 0, none⟩ = some x0 ∧ w'.cell? ⟨H, 1, none⟩ = some x1 ∧ w'.cell? ⟨H, 2, none⟩ = some x2 ∧ w'.cell? ⟨H, 3, none⟩ = some x3 := by
  have hh := heap_at hH (.cells #[x0, x1, x2, x3] t)
  have e : ∀ j, w'.cell? ⟨H, j, none⟩ = (w.alloc (.cells #[x0, x1, x2, x3] t)).cell? ⟨H, j, none⟩ := fun j => hb.cell (p := ⟨H, j, none⟩) (by show H < H + 1; omega)
  rw [e, e, e, e, cell_of_row _ _ _ _ t (0, 0) hh, cell_of_row _ _ _ _ t (0, 0) hh, cell_of_row _ _ _ _ t (0, 0) hh, cell_of_row _ _ _ _ t (0, 0) hh]
  exact ⟨rfl, rfl, rfl, rfl⟩

set_option maxHeartbeats 1600000 in
theorem plain_00 (w : World) (k a b n : Nat) (hk : k < 21) (hr : rg k = 0) (hm : nb k = 0) : Calls Tryd.prog 32 #[inV ⟨k, a, b, n⟩] w fun e w' => e = .returned (.string ⟨(plain ⟨k, a, b, n⟩).toArray⟩) ∧ Below w.heap.size w w' := by
  have HR : Hid (∀ w, Calls Tryd.prog 57 #[i64 (k : Int)] w fun e w' => e = .returned (i64 (0 : Int)) ∧ w' = w) := fun w => by have := regs_ok w k; rw [rgI_nat hk, hr] at this; exact this
  have HM : Hid (∀ w, Calls Tryd.prog 58 #[i64 (k : Int)] w fun e w' => e = .returned (i64 (0 : Int)) ∧ w' = w) := fun w => by have := num_calls w k; rw [nbI_nat hk, hm] at this; exact this
  have HP : [u8 k] = cells (plain ⟨k, a, b, n⟩) := (pc00 hk hr hm).symm
  have ho1 := lit_at (w := w.alloc (.cells #[i64 k, i64 a, i64 b, i64 n] 37)) (H := w.heap.size + 1) (base := w.heap.size) (by simp) (by omega) (u8 k)
  have hcv := own_conv ho1 HP
  clear hm hr HP ho1
  generalize plain ⟨k, a, b, n⟩ = P at *
  go_enter Tryd.func32, Tryd.ntmps32
  go_wp2_with (first | (go_at_call 57; refine (HR.out _).mono ?_; rintro e w1 ⟨rfl, rfl⟩) | (go_at_call 58; refine (HM.out _).mono ?_; rintro e w1 ⟨rfl, rfl⟩))
  go_ret
  exact ⟨rfl, (below_one w _).alloc (by simp) _⟩
set_option maxHeartbeats 1600000 in
theorem plain_10 (w : World) (k a b n : Nat) (hk : k < 21) (ha : a ≤ 7) (hb : b ≤ 7) (hr : 0 < rg k) (hm : nb k = 0) : Calls Tryd.prog 32 #[inV ⟨k, a, b, n⟩] w fun e w' => e = .returned (.string ⟨(plain ⟨k, a, b, n⟩).toArray⟩) ∧ Below w.heap.size w w' := by
  have HR : Hid (∀ w, Calls Tryd.prog 57 #[i64 (k : Int)] w fun e w' => e = .returned (i64 (rg k : Nat)) ∧ w' = w) := fun w => by rw [← rgI_nat hk]; exact regs_ok w _
  have HM : Hid (∀ w, Calls Tryd.prog 58 #[i64 (k : Int)] w fun e w' => e = .returned (i64 (0 : Int)) ∧ w' = w) := fun w => by have := num_calls w k; rw [nbI_nat hk, hm] at this; exact this
  have HP : Hid ([u8 k] ++ [u8 (16 * a + b)] = cells (plain ⟨k, a, b, n⟩)) := (pc10 hk ha hb hr hm).symm
  clear hm
  generalize rg k = r at *
  generalize plain ⟨k, a, b, n⟩ = P at *
  go_enter Tryd.func32, Tryd.ntmps32
  go_wp2_with (first | (at_builtin; refine app57 rfl (.tmp 12) (.tmp 20) rfl (w.heap.size + 1) _ 1 [u8 k] rfl ((lit_at (by simp) (by omega) _).alloc _) _ _ _ rfl (one_at (by simp) _) (by omega) (by simp <;> omega) ?_; intro v1 w1 ho1 hb1; have HB1 : Hid (Below w.heap.size w w1) := (((below_one w _).alloc (by simp) _).alloc (by simp <;> omega) _).trans (hb1.mono (by omega)); obtain ⟨q0, q1, q2, q3⟩ := four_at (w := w) (H := w.heap.size) rfl (i64 k) (i64 a) (i64 b) (i64 n) 37 w1 ((((Below.refl _ _).alloc (by simp) _).alloc (by simp) _).trans hb1); have hz1 : w.heap.size + 1 ≤ w1.heap.size := (by have := hb1.size; simp at this <;> omega); clear hb1; have hcv := own_conv ho1 HP.out; clear ho1) | (go_at_call 57; refine (HR.out _).mono ?_; rintro e w1 ⟨rfl, rfl⟩) | (go_at_call 58; refine (HM.out _).mono ?_; rintro e w1 ⟨rfl, rfl⟩))
  go_ret
  exact ⟨rfl, HB1.out⟩
set_option maxHeartbeats 1600000 in
theorem plain_12 (w : World) (k a b n : Nat) (hk : k < 21) (ha : a ≤ 7) (hb : b ≤ 7) (hn : n ≤ 65535) (hr : 0 < rg k) (hm : nb k = 2) : Calls Tryd.prog 32 #[inV ⟨k, a, b, n⟩] w fun e w' => e = .returned (.string ⟨(plain ⟨k, a, b, n⟩).toArray⟩) ∧ Below w.heap.size w w' := by
  have HR : Hid (∀ w, Calls Tryd.prog 57 #[i64 (k : Int)] w fun e w' => e = .returned (i64 (rg k : Nat)) ∧ w' = w) := fun w => by rw [← rgI_nat hk]; exact regs_ok w _
  have HM : Hid (∀ w, Calls Tryd.prog 58 #[i64 (k : Int)] w fun e w' => e = .returned (i64 (2 : Int)) ∧ w' = w) := fun w => by have := num_calls w k; rw [nbI_nat hk, hm] at this; exact this
  have HP : Hid ([u8 k] ++ [u8 (16 * a + b)] ++ [u8 (n / 256)] ++ [u8 (n % 256)] = cells (plain ⟨k, a, b, n⟩)) := (pc12 hk ha hb hn hr hm).symm
  clear hm
  generalize rg k = r at *
  generalize plain ⟨k, a, b, n⟩ = P at *
  go_enter Tryd.func32, Tryd.ntmps32
  go_wp2_with (first | (at_builtin; refine app57 rfl (.tmp 12) (.tmp 20) rfl (w.heap.size + 1) _ 1 [u8 k] rfl ((lit_at (by simp) (by omega) _).alloc _) _ _ _ rfl (one_at (by simp) _) (by omega) (by simp <;> omega) ?_; intro v1 w1 ho1 hb1; have HB1 : Hid (Below w.heap.size w w1) := (((below_one w _).alloc (by simp) _).alloc (by simp <;> omega) _).trans (hb1.mono (by omega)); obtain ⟨q0, q1, q2, q3⟩ := four_at (w := w) (H := w.heap.size) rfl (i64 k) (i64 a) (i64 b) (i64 n) 37 w1 ((((Below.refl _ _).alloc (by simp) _).alloc (by simp) _).trans hb1); have hz1 : w.heap.size + 1 ≤ w1.heap.size := (by have := hb1.size; simp at this <;> omega); have HBX1 : Hid (Below (w.heap.size + 1) (w.alloc (.cells #[i64 k, i64 a, i64 b, i64 n] 37)) w1) := (((Below.refl _ _).alloc (by simp) _).alloc (by simp) _).trans hb1; clear hb1; have HO1 : Hid (w1.ownsRow (w.heap.size + 1) 5 1 v1 (1 + 1) ([u8 k] ++ [u8 (16 * a + b)])) := ho1; clear ho1) | (at_builtin; refine app57 rfl (.tmp 26) (.tmp 31) rfl (w.heap.size + 1) _ (1 + 1) _ rfl (HO1.out.alloc _) _ _ _ rfl (one_at rfl _) (by omega) (by simp <;> omega) ?_; intro v2 w2 ho2 hb2; have HB2 : Hid (Below w.heap.size w w2) := (HB1.out.alloc (by omega) _).trans (hb2.mono (by omega)); obtain ⟨r0, r1, r2, r3⟩ := four_at (w := w) (H := w.heap.size) rfl (i64 k) (i64 a) (i64 b) (i64 n) 37 w2 ((HBX1.out.alloc (by omega) _).trans hb2); have hz2 : w.heap.size + 1 ≤ w2.heap.size := (by have := hb2.size; simp at this <;> omega); have HBX2 : Hid (Below (w.heap.size + 1) (w.alloc (.cells #[i64 k, i64 a, i64 b, i64 n] 37)) w2) := (HBX1.out.alloc (by omega) _).trans hb2; clear hb2; have HO2 : Hid (w2.ownsRow (w.heap.size + 1) 5 1 v2 (1 + 1 + 1) ([u8 k] ++ [u8 (16 * a + b)] ++ [u8 (n / 256)])) := ho2; clear ho2) | (at_builtin; refine app57 rfl (.tmp 37) (.tmp 42) rfl (w.heap.size + 1) _ (1 + 1 + 1) _ rfl (HO2.out.alloc _) _ _ _ rfl (one_at rfl _) (by omega) (by simp <;> omega) ?_; intro v3 w3 ho3 hb3; have HB3 : Hid (Below w.heap.size w w3) := (HB2.out.alloc (by omega) _).trans (hb3.mono (by omega)); obtain ⟨r0, r1, r2, r3⟩ := four_at (w := w) (H := w.heap.size) rfl (i64 k) (i64 a) (i64 b) (i64 n) 37 w3 ((HBX2.out.alloc (by omega) _).trans hb3); have hz3 : w.heap.size + 1 ≤ w3.heap.size := (by have := hb3.size; simp at this <;> omega); clear hb3; have hcv := own_conv ho3 HP.out; clear ho3) | (go_at_call 57; refine (HR.out _).mono ?_; rintro e w1 ⟨rfl, rfl⟩) | (go_at_call 58; refine (HM.out _).mono ?_; rintro e w1 ⟨rfl, rfl⟩))
  go_ret
  exact ⟨rfl, HB3.out⟩
set_option maxHeartbeats 1600000 in
theorem plain_02 (w : World) (k a b n : Nat) (hk : k < 21) (hn : n ≤ 65535) (hr : rg k = 0) (hm : nb k = 2) : Calls Tryd.prog 32 #[inV ⟨k, a, b, n⟩] w fun e w' => e = .returned (.string ⟨(plain ⟨k, a, b, n⟩).toArray⟩) ∧ Below w.heap.size w w' := by
  have HR : Hid (∀ w, Calls Tryd.prog 57 #[i64 (k : Int)] w fun e w' => e = .returned (i64 (rg k : Nat)) ∧ w' = w) := fun w => by rw [← rgI_nat hk]; exact regs_ok w _
  have HM : Hid (∀ w, Calls Tryd.prog 58 #[i64 (k : Int)] w fun e w' => e = .returned (i64 (2 : Int)) ∧ w' = w) := fun w => by have := num_calls w k; rw [nbI_nat hk, hm] at this; exact this
  have HP : Hid ([u8 k] ++ [u8 (n / 256)] ++ [u8 (n % 256)] = cells (plain ⟨k, a, b, n⟩)) := (pc02 hk hn hr hm).symm
  have hr0 : ¬ 0 < rg k := by omega
  clear hm hr
  generalize rg k = r at *
  generalize plain ⟨k, a, b, n⟩ = P at *
  go_enter Tryd.func32, Tryd.ntmps32
  go_wp2_with (first | (at_builtin; refine app57 rfl (.tmp 26) (.tmp 31) rfl (w.heap.size + 1) _ 1 [u8 k] rfl ((lit_at (by simp) (by omega) _).alloc _) _ _ _ rfl (one_at (by simp) _) (by omega) (by simp <;> omega) ?_; intro v1 w1 ho1 hb1; have HB1 : Hid (Below w.heap.size w w1) := (((below_one w _).alloc (by simp) _).alloc (by simp <;> omega) _).trans (hb1.mono (by omega)); obtain ⟨q0, q1, q2, q3⟩ := four_at (w := w) (H := w.heap.size) rfl (i64 k) (i64 a) (i64 b) (i64 n) 37 w1 ((((Below.refl _ _).alloc (by simp) _).alloc (by simp) _).trans hb1); have hz1 : w.heap.size + 1 ≤ w1.heap.size := (by have := hb1.size; simp at this <;> omega); have HBX1 : Hid (Below (w.heap.size + 1) (w.alloc (.cells #[i64 k, i64 a, i64 b, i64 n] 37)) w1) := (((Below.refl _ _).alloc (by simp) _).alloc (by simp) _).trans hb1; clear hb1; have HO1 : Hid (w1.ownsRow (w.heap.size + 1) 5 1 v1 (1 + 1) ([u8 k] ++ [u8 (n / 256)])) := ho1; clear ho1) | (at_builtin; refine app57 rfl (.tmp 37) (.tmp 42) rfl (w.heap.size + 1) _ (1 + 1) _ rfl (HO1.out.alloc _) _ _ _ rfl (one_at rfl _) (by omega) (by simp <;> omega) ?_; intro v2 w2 ho2 hb2; have HB2 : Hid (Below w.heap.size w w2) := (HB1.out.alloc (by omega) _).trans (hb2.mono (by omega)); obtain ⟨r0, r1, r2, r3⟩ := four_at (w := w) (H := w.heap.size) rfl (i64 k) (i64 a) (i64 b) (i64 n) 37 w2 ((HBX1.out.alloc (by omega) _).trans hb2); have hz2 : w.heap.size + 1 ≤ w2.heap.size := (by have := hb2.size; simp at this <;> omega); clear hb2; have hcv := own_conv ho2 HP.out; clear ho2) | (go_at_call 57; refine (HR.out _).mono ?_; rintro e w1 ⟨rfl, rfl⟩) | (go_at_call 58; refine (HM.out _).mono ?_; rintro e w1 ⟨rfl, rfl⟩))
  go_ret
  exact ⟨rfl, HB2.out⟩
set_option maxHeartbeats 1600000 in
theorem plain_01 (w : World) (k a b n : Nat) (hk : k < 21) (hn : n ≤ 65535) (hr : rg k = 0) (hm : nb k = 1) : Calls Tryd.prog 32 #[inV ⟨k, a, b, n⟩] w fun e w' => e = .returned (.string ⟨(plain ⟨k, a, b, n⟩).toArray⟩) ∧ Below w.heap.size w w' := by
  have HR : Hid (∀ w, Calls Tryd.prog 57 #[i64 (k : Int)] w fun e w' => e = .returned (i64 (rg k : Nat)) ∧ w' = w) := fun w => by rw [← rgI_nat hk]; exact regs_ok w _
  have HM : Hid (∀ w, Calls Tryd.prog 58 #[i64 (k : Int)] w fun e w' => e = .returned (i64 (1 : Int)) ∧ w' = w) := fun w => by have := num_calls w k; rw [nbI_nat hk, hm] at this; exact this
  have HP : Hid ([u8 k] ++ [u8 (n % 256)] = cells (plain ⟨k, a, b, n⟩)) := (pc01 hk hr hm).symm
  have hr0 : ¬ 0 < rg k := by omega
  clear hm hr
  generalize rg k = r at *
  generalize plain ⟨k, a, b, n⟩ = P at *
  go_enter Tryd.func32, Tryd.ntmps32
  go_wp2_with (first | (at_builtin; refine app57 rfl (.tmp 37) (.tmp 42) rfl (w.heap.size + 1) _ 1 [u8 k] rfl ((lit_at (by simp) (by omega) _).alloc _) _ _ _ rfl (one_at (by simp) _) (by omega) (by simp <;> omega) ?_; intro v1 w1 ho1 hb1; have HB1 : Hid (Below w.heap.size w w1) := (((below_one w _).alloc (by simp) _).alloc (by simp <;> omega) _).trans (hb1.mono (by omega)); obtain ⟨q0, q1, q2, q3⟩ := four_at (w := w) (H := w.heap.size) rfl (i64 k) (i64 a) (i64 b) (i64 n) 37 w1 ((((Below.refl _ _).alloc (by simp) _).alloc (by simp) _).trans hb1); have hz1 : w.heap.size + 1 ≤ w1.heap.size := (by have := hb1.size; simp at this <;> omega); clear hb1; have hcv := own_conv ho1 HP.out; clear ho1) | (go_at_call 57; refine (HR.out _).mono ?_; rintro e w1 ⟨rfl, rfl⟩) | (go_at_call 58; refine (HM.out _).mono ?_; rintro e w1 ⟨rfl, rfl⟩))
  go_ret
  exact ⟨rfl, HB1.out⟩

theorem plain_ok (w : World) (i : In) (h : isI i = true) : Calls Tryd.prog 32 #[inV i] w fun e w' => e = .returned (.string ⟨(plain i).toArray⟩) ∧ Below w.heap.size w w' := by
  obtain ⟨h1, h2, h3, h4, h5, h6, h7⟩ := isI_out h
  obtain ⟨op, a, b, n⟩ := i
  simp only at *
  obtain ⟨k, rfl⟩ := Int.eq_ofNat_of_zero_le h1.1
  obtain ⟨a, rfl⟩ := Int.eq_ofNat_of_zero_le h2.1
  obtain ⟨b, rfl⟩ := Int.eq_ofNat_of_zero_le h3.1
  obtain ⟨n, rfl⟩ := Int.eq_ofNat_of_zero_le h4
  have hk : k < 21 := by omega
  simp only [Int.toNat_natCast] at *
  rcases cls k hk with ⟨c1, c2⟩ | ⟨c1, c2⟩ | ⟨c1, c2⟩ | ⟨c1, c2⟩ | ⟨c1, c2⟩ <;> rw [c2] at h7
  · exact plain_00 w k a b n hk c1 c2
  · exact plain_12 w k a b n hk (by omega) (by omega) (by omega) (by omega) c2
  · exact plain_10 w k a b n hk (by omega) (by omega) (by omega) c2
  · exact plain_02 w k a b n hk (by omega) c1 c2
  · exact plain_01 w k a b n hk (by omega) c1 c2

end Go.Proofs.YtobkehlkopkaeaaDoor
