/- code.Bytes: its contract; no statement is proved in this text. -/
import Derived.Test.YtobkehlkopkaeaaDoorPlain
namespace Go.Proofs.YtobkehlkopkaeaaDoor
open Go.ChangeShapes Go.WideShapes Go.ChangeAt Go.RowKit
set_option maxRecDepth 100000

theorem or_nat : ∀ a : Nat, a < 8 → ∀ b : Nat, b < 8 → bits BinOp.or IntKind.i64 ((a : Int) * 16) (b : Int) = 16 * (a : Int) + (b : Int) := by decide +kernel
theorem own_below {w w' : World} {base : Nat} {e : TypeId} {size : Nat} {v : Value} {n : Nat} {xs : List Value} (h : w.ownsRow base e size v n xs) (hb : Below w.heap.size w w') : w'.ownsRow base e size v n xs := by
  refine ⟨h.1, ?_⟩
  rcases h.2 with h | ⟨g, cap, cur, h1, h2, h3, h4⟩
  · exact Or.inl h
  · exact Or.inr ⟨g, cap, cur, h1, h2, (hb.block _ (Array.getElem?_eq_some_iff.1 h3).1).trans h3, h4⟩
theorem two_at {w : World} {H : Nat} (hH : w.heap.size = H) (x0 x1 : Value) (t : TypeId) (w' : World) (hb : Below (H + 1) (w.alloc (.cells #[x0, x1] t)) w') :
    w'.cell? ⟨H, 0, none⟩ = some x0 ∧ w'.cell? ⟨H, 1, none⟩ = some x1 := by
  have hh := heap_at hH (.cells #[x0, x1] t)
  have e : ∀ j, w'.cell? ⟨H, j, none⟩ = (w.alloc (.cells #[x0, x1] t)).cell? ⟨H, j, none⟩ := fun j => hb.cell (p := ⟨H, j, none⟩) (by show H < H + 1; omega)
  rw [e, e, cell_of_row _ _ _ _ t (0, 0) hh, cell_of_row _ _ _ _ t (0, 0) hh]
  exact ⟨rfl, rfl⟩
theorem plain_cells {k a b n : Nat} (hk : k < 21) (ha : a ≤ 7) (hb : b ≤ 7) : cells (plain ⟨k, a, b, n⟩) = ([u8 k] ++ (if 0 < rg k then [u8 (16 * a + b)] else [])) ++ cells (tb n (nb k)) := by
  unfold plain
  simp only [Int.toNat_natCast]
  by_cases h : 0 < rg k
  · rw [if_pos h, if_pos h]
    simp only [cells, List.map_cons, List.cons_append, List.nil_append, byteV k (by omega), byteV (16 * a + b) (by omega)]
    rfl
  · rw [if_neg h, if_neg h]
    simp only [cells, List.map_cons, List.cons_append, List.nil_append, byteV k (by omega)]

set_option maxHeartbeats 800000 in
theorem bytes_no (w : World) (ht : Tab w) (i : In) (h : isI i = false) : Calls Tryd.prog 35 #[inV i] w fun e w' => e = .returned (.tuple #[.string ⟨#[]⟩, i64 4]) ∧ Below w.heap.size w w' := by
  have HI : Hid (∀ w, Tab w → Calls Tryd.prog 42 #[inV i] w fun e w' => e = .returned (.bool false) ∧ Below w.heap.size w w') := fun w ht => by have := isInst_ok w ht i; rw [h] at this; exact this
  have HT : Hid (Tab w) := ht
  clear ht h
  go_enter Tryd.func35, Tryd.ntmps35
  go_wp2_with (go_at_call 42; refine (HI.out _ (HT.out.alloc _)).mono ?_; rintro e w1 ⟨rfl, hb1⟩; have HB1 : Hid (Below w.heap.size w w1) := (below_one w _).trans (hb1.mono (by simp)); clear hb1)
  go_ret2
  exact ⟨rfl, HB1.out⟩
set_option maxHeartbeats 3200000 in
theorem bytes_10 (w : World) (ht : Tab w) (k a b n : Nat) (hk : k < 21) (ha : a ≤ 7) (hb : b ≤ 7) (_hn : n ≤ 65535) (hI : isI ⟨k, a, b, n⟩ = true) (hr : 0 < rg k) (hm : nb k = 0) : Calls Tryd.prog 35 #[inV ⟨k, a, b, n⟩] w fun e w' => e = .returned (.tuple #[.string ⟨(plain ⟨k, a, b, n⟩).toArray⟩, i64 0]) ∧ Below w.heap.size w w' := by
  have HI : Hid (∀ w, Tab w → Calls Tryd.prog 42 #[inV ⟨k, a, b, n⟩] w fun e w' => e = .returned (.bool true) ∧ Below w.heap.size w w') := fun w ht => by have := isInst_ok w ht ⟨k, a, b, n⟩; rw [hI] at this; exact this
  have HT : Hid (Tab w) := ht
  have HP : Hid ([u8 k] ++ [u8 (16 * a + b)] = cells (plain ⟨k, a, b, n⟩)) := (by rw [plain_cells hk ha hb, if_pos hr, hm]; simp [tb, cells] : [u8 k] ++ [u8 (16 * a + b)] = cells (plain ⟨k, a, b, n⟩))
  have hor := or_nat a (by omega) b (by omega)
  have hkI : (k : Int) < 21 := by omega
  have hm2 := nb_le k
  have HC : Hid (∀ w, Tab w → w.cell? ⟨1, k * 2, none⟩ = some (i64 (rg k : Nat)) ∧ w.cell? ⟨1, k * 2 + 1, none⟩ = some (i64 (nb k : Nat))) := fun w ht => ht k hk
  clear ht hI
  generalize plain ⟨k, a, b, n⟩ = P at *
  rw [hm] at HC hm2
  clear hm
  generalize rg k = r at *
  go_enter Tryd.func35, Tryd.ntmps35
  go_wp2_with fail
  refine (HI.out _ (HT.out.alloc _)).mono ?_
  rintro e w1 ⟨rfl, hb1⟩
  have HB1 : Hid (Below w.heap.size w w1) := (below_one w _).trans (hb1.mono (by simp))
  have HBX1 : Hid (Below (w.heap.size + 1) (w.alloc (.cells #[i64 k, i64 a, i64 b, i64 n] 27)) w1) := hb1.mono (by simp)
  obtain ⟨q0, q1, q2, q3⟩ := four_at (w := w) (H := w.heap.size) rfl (i64 k) (i64 a) (i64 b) (i64 n) 27 w1 HBX1.out
  have hz1 : w.heap.size < w1.heap.size := by have := hb1.size; simp at this; omega
  obtain ⟨c1, c2⟩ := HC.out w1 ((HT.out.alloc _).below hb1)
  have h0 := HT.out.pos
  clear hb1
  go_wp2_with (at_builtin; refine app57 rfl (.tmp 22) (.tmp 30) rfl (w1.heap.size + 1) _ 1 [u8 k] rfl ((lit_at (by simp) (by omega) _).alloc _) _ _ _ rfl (one_at (by simp) _) (by omega) (by simp <;> omega) ?_; intro v2 w2 ho2 hb2; have HB2 : Hid (Below w.heap.size w w2) := (((HB1.out.alloc (by omega) _).alloc (by simp <;> omega) _).alloc (by simp <;> omega) _).trans (hb2.mono (by omega)); obtain ⟨r0, r1, r2, r3⟩ := four_at (w := w) (H := w.heap.size) rfl (i64 k) (i64 a) (i64 b) (i64 n) 27 w2 ((((HBX1.out.alloc (by omega) _).alloc (by simp <;> omega) _).alloc (by simp <;> omega) _).trans (hb2.mono (by omega))); obtain ⟨s0, s1⟩ := two_at (w := w1) (H := w1.heap.size) rfl (i64 r) (i64 0) 99 w2 ((((Below.refl _ _).alloc (by simp) _).alloc (by simp) _).trans hb2); have hz2 : w1.heap.size + 1 ≤ w2.heap.size := (by have := hb2.size; simp at this <;> omega); clear hb2; have hcv := own_conv ho2 HP.out; clear ho2)
  go_ret2
  exact ⟨rfl, HB2.out⟩
set_option maxHeartbeats 3200000 in
theorem bytes_00 (w : World) (ht : Tab w) (k a b n : Nat) (hk : k < 21) (ha : a ≤ 7) (hb : b ≤ 7) (_hn : n ≤ 65535) (hI : isI ⟨k, a, b, n⟩ = true) (hr : rg k = 0) (hm : nb k = 0) : Calls Tryd.prog 35 #[inV ⟨k, a, b, n⟩] w fun e w' => e = .returned (.tuple #[.string ⟨(plain ⟨k, a, b, n⟩).toArray⟩, i64 0]) ∧ Below w.heap.size w w' := by
  have HI : Hid (∀ w, Tab w → Calls Tryd.prog 42 #[inV ⟨k, a, b, n⟩] w fun e w' => e = .returned (.bool true) ∧ Below w.heap.size w w') := fun w ht => by have := isInst_ok w ht ⟨k, a, b, n⟩; rw [hI] at this; exact this
  have HT : Hid (Tab w) := ht
  have HP : Hid ([u8 k] = cells (plain ⟨k, a, b, n⟩)) := (by rw [plain_cells hk ha hb, if_neg (by omega), hm]; simp [tb, cells] : [u8 k] = cells (plain ⟨k, a, b, n⟩))
  have hkI : (k : Int) < 21 := by omega
  have hm2 := nb_le k
  have HC : Hid (∀ w, Tab w → w.cell? ⟨1, k * 2, none⟩ = some (i64 (rg k : Nat)) ∧ w.cell? ⟨1, k * 2 + 1, none⟩ = some (i64 (nb k : Nat))) := fun w ht => ht k hk
  clear ht hI
  generalize plain ⟨k, a, b, n⟩ = P at *
  rw [hm] at HC hm2
  rw [hr] at HC
  clear hm hr
  go_enter Tryd.func35, Tryd.ntmps35
  go_wp2_with fail
  refine (HI.out _ (HT.out.alloc _)).mono ?_
  rintro e w1 ⟨rfl, hb1⟩
  have HB1 : Hid (Below w.heap.size w w1) := (below_one w _).trans (hb1.mono (by simp))
  have HBX1 : Hid (Below (w.heap.size + 1) (w.alloc (.cells #[i64 k, i64 a, i64 b, i64 n] 27)) w1) := hb1.mono (by simp)
  obtain ⟨q0, q1, q2, q3⟩ := four_at (w := w) (H := w.heap.size) rfl (i64 k) (i64 a) (i64 b) (i64 n) 27 w1 HBX1.out
  have hz1 : w.heap.size < w1.heap.size := by have := hb1.size; simp at this; omega
  obtain ⟨c1, c2⟩ := HC.out w1 ((HT.out.alloc _).below hb1)
  have h0 := HT.out.pos
  clear hb1
  have hcv : ∀ o, (convert 49 9 (.slice (some ⟨w1.heap.size + 1, 0, none⟩) 1 1)).run Tryd.prog ((w1.alloc o).alloc (.cells #[u8 k] 5)) = .ok (.string ⟨P.toArray⟩) ((w1.alloc o).alloc (.cells #[u8 k] 5)) := fun o => own_conv (lit_at (w := w1.alloc o) (H := w1.heap.size + 1) (base := w1.heap.size) (by simp) (by omega) (u8 k)) HP.out
  go_wp2_with fail
  go_ret2
  exact ⟨rfl, (HB1.out.alloc (by omega) _).alloc (by simp <;> omega) _⟩
set_option maxHeartbeats 3200000 in
theorem bytes_12 (w : World) (ht : Tab w) (k a b n : Nat) (hk : k < 21) (ha : a ≤ 7) (hb : b ≤ 7) (hn : n ≤ 65535) (hI : isI ⟨k, a, b, n⟩ = true) (hr : 0 < rg k) (hm : 0 < nb k) : Calls Tryd.prog 35 #[inV ⟨k, a, b, n⟩] w fun e w' => e = .returned (.tuple #[.string ⟨(plain ⟨k, a, b, n⟩).toArray⟩, i64 0]) ∧ Below w.heap.size w w' := by
  have HI : Hid (∀ w, Tab w → Calls Tryd.prog 42 #[inV ⟨k, a, b, n⟩] w fun e w' => e = .returned (.bool true) ∧ Below w.heap.size w w') := fun w ht => by have := isInst_ok w ht ⟨k, a, b, n⟩; rw [hI] at this; exact this
  have HT : Hid (Tab w) := ht
  have HP : Hid ([u8 k] ++ [u8 (16 * a + b)] ++ cells (tb n (nb k)) = cells (plain ⟨k, a, b, n⟩)) := (by rw [plain_cells hk ha hb, if_pos hr] : [u8 k] ++ [u8 (16 * a + b)] ++ cells (tb n (nb k)) = cells (plain ⟨k, a, b, n⟩))
  have hnb : n < 2 ^ (8 * nb k) := by
    obtain ⟨_, _, _, _, _, _, h7⟩ := isI_out hI
    simp only [Int.toNat_natCast] at h7
    rw [Nat.pow_mul]
    have e : ((256 ^ nb k : Nat) : Int) = (256 : Int) ^ nb k := Int.natCast_pow 256 (nb k)
    rw [← e] at h7
    exact Int.ofNat_lt.1 h7
  have HY : Hid (∀ w, Calls Tryd.prog 60 #[.int .u32 n, .int .i64 (nb k : Nat)] w fun e w' => e = .returned (.tuple #[.string ⟨(tb n (nb k)).toArray⟩, .int .i64 0]) ∧ Below w.heap.size w w') := fun w => bytes_ok w n (nb k) (by omega) (by have := nb_le k; omega) (by omega) (decide_eq_true hnb)
  have htl : (tb n (nb k)).length ≤ 2 := by rw [tb_len]; exact nb_le k
  clear hnb
  have hor := or_nat a (by omega) b (by omega)
  have hkI : (k : Int) < 21 := by omega
  have hm2 := nb_le k
  have HC : Hid (∀ w, Tab w → w.cell? ⟨1, k * 2, none⟩ = some (i64 (rg k : Nat)) ∧ w.cell? ⟨1, k * 2 + 1, none⟩ = some (i64 (nb k : Nat))) := fun w ht => ht k hk
  clear ht hI
  generalize plain ⟨k, a, b, n⟩ = P at *
  generalize tb n (nb k) = T at *
  generalize rg k = r at *
  generalize nb k = m at *
  go_enter Tryd.func35, Tryd.ntmps35
  go_wp2_with fail
  refine (HI.out _ (HT.out.alloc _)).mono ?_
  rintro e w1 ⟨rfl, hb1⟩
  have HB1 : Hid (Below w.heap.size w w1) := (below_one w _).trans (hb1.mono (by simp))
  have HBX1 : Hid (Below (w.heap.size + 1) (w.alloc (.cells #[i64 k, i64 a, i64 b, i64 n] 27)) w1) := hb1.mono (by simp)
  obtain ⟨q0, q1, q2, q3⟩ := four_at (w := w) (H := w.heap.size) rfl (i64 k) (i64 a) (i64 b) (i64 n) 27 w1 HBX1.out
  have hz1 : w.heap.size < w1.heap.size := by have := hb1.size; simp at this; omega
  obtain ⟨c1, c2⟩ := HC.out w1 ((HT.out.alloc _).below hb1)
  have h0 := HT.out.pos
  clear hb1
  go_wp2_with (first | (at_builtin; refine app57 rfl (.tmp 22) (.tmp 30) rfl (w1.heap.size + 1) _ 1 [u8 k] rfl ((lit_at (by simp) (by omega) _).alloc _) _ _ _ rfl (one_at (by simp) _) (by omega) (by simp <;> omega) ?_; intro v2 w2 ho2 hb2; have HB2 : Hid (Below w.heap.size w w2) := (((HB1.out.alloc (by omega) _).alloc (by simp <;> omega) _).alloc (by simp <;> omega) _).trans (hb2.mono (by omega)); obtain ⟨r0, r1, r2, r3⟩ := four_at (w := w) (H := w.heap.size) rfl (i64 k) (i64 a) (i64 b) (i64 n) 27 w2 ((((HBX1.out.alloc (by omega) _).alloc (by simp <;> omega) _).alloc (by simp <;> omega) _).trans (hb2.mono (by omega))); obtain ⟨s0, s1⟩ := two_at (w := w1) (H := w1.heap.size) rfl (i64 r) (i64 m) 99 w2 ((((Below.refl _ _).alloc (by simp) _).alloc (by simp) _).trans hb2); have hz2 : w1.heap.size + 1 ≤ w2.heap.size := (by have := hb2.size; simp at this <;> omega); clear hb2; have HO2 : Hid (w2.ownsRow (w1.heap.size + 1) 5 1 v2 (1 + 1) ([u8 k] ++ [u8 (16 * a + b)])) := ho2; clear ho2) | (at_builtin; refine app9 rfl (.tmp 44) (.tmp 45) rfl (w1.heap.size + 1) _ (1 + 1) _ rfl HO3.out T rfl (by omega) (by omega) ?_; intro v4 w4 ho4 hb4; have HB4 : Hid (Below w.heap.size w w4) := HB3.out.trans (hb4.mono (by omega)); have hcv := own_conv ho4 HP.out; clear ho4 hb4) | (go_at_call 60; refine (HY.out _).mono ?_; rintro e w3 ⟨rfl, hb3⟩; have HB3 : Hid (Below w.heap.size w w3) := HB2.out.trans (hb3.mono (by omega)); have HO3 : Hid (w3.ownsRow (w1.heap.size + 1) 5 1 v2 (1 + 1) ([u8 k] ++ [u8 (16 * a + b)])) := own_below HO2.out hb3; have hz3 : w1.heap.size + 1 ≤ w3.heap.size := (by have := hb3.size; omega); clear hb3))
  go_ret2
  exact ⟨rfl, HB4.out⟩
set_option maxHeartbeats 3200000 in
theorem bytes_02 (w : World) (ht : Tab w) (k a b n : Nat) (hk : k < 21) (ha : a ≤ 7) (hb : b ≤ 7) (hn : n ≤ 65535) (hI : isI ⟨k, a, b, n⟩ = true) (hr : rg k = 0) (hm : 0 < nb k) : Calls Tryd.prog 35 #[inV ⟨k, a, b, n⟩] w fun e w' => e = .returned (.tuple #[.string ⟨(plain ⟨k, a, b, n⟩).toArray⟩, i64 0]) ∧ Below w.heap.size w w' := by
  have HI : Hid (∀ w, Tab w → Calls Tryd.prog 42 #[inV ⟨k, a, b, n⟩] w fun e w' => e = .returned (.bool true) ∧ Below w.heap.size w w') := fun w ht => by have := isInst_ok w ht ⟨k, a, b, n⟩; rw [hI] at this; exact this
  have HT : Hid (Tab w) := ht
  have HP : Hid ([u8 k] ++ cells (tb n (nb k)) = cells (plain ⟨k, a, b, n⟩)) := (by rw [plain_cells hk ha hb, if_neg (by omega), List.append_nil] : [u8 k] ++ cells (tb n (nb k)) = cells (plain ⟨k, a, b, n⟩))
  have hnb : n < 2 ^ (8 * nb k) := by
    obtain ⟨_, _, _, _, _, _, h7⟩ := isI_out hI
    simp only [Int.toNat_natCast] at h7
    rw [Nat.pow_mul]
    have e : ((256 ^ nb k : Nat) : Int) = (256 : Int) ^ nb k := Int.natCast_pow 256 (nb k)
    rw [← e] at h7
    exact Int.ofNat_lt.1 h7
  have HY : Hid (∀ w, Calls Tryd.prog 60 #[.int .u32 n, .int .i64 (nb k : Nat)] w fun e w' => e = .returned (.tuple #[.string ⟨(tb n (nb k)).toArray⟩, .int .i64 0]) ∧ Below w.heap.size w w') := fun w => bytes_ok w n (nb k) (by omega) (by have := nb_le k; omega) (by omega) (decide_eq_true hnb)
  have htl : (tb n (nb k)).length ≤ 2 := by rw [tb_len]; exact nb_le k
  clear hnb
  have hkI : (k : Int) < 21 := by omega
  have hm2 := nb_le k
  have HC : Hid (∀ w, Tab w → w.cell? ⟨1, k * 2, none⟩ = some (i64 (rg k : Nat)) ∧ w.cell? ⟨1, k * 2 + 1, none⟩ = some (i64 (nb k : Nat))) := fun w ht => ht k hk
  clear ht hI
  generalize plain ⟨k, a, b, n⟩ = P at *
  generalize tb n (nb k) = T at *
  rw [hr] at HC
  clear hr
  generalize nb k = m at *
  go_enter Tryd.func35, Tryd.ntmps35
  go_wp2_with fail
  refine (HI.out _ (HT.out.alloc _)).mono ?_
  rintro e w1 ⟨rfl, hb1⟩
  have HB1 : Hid (Below w.heap.size w w1) := (below_one w _).trans (hb1.mono (by simp))
  have HBX1 : Hid (Below (w.heap.size + 1) (w.alloc (.cells #[i64 k, i64 a, i64 b, i64 n] 27)) w1) := hb1.mono (by simp)
  obtain ⟨q0, q1, q2, q3⟩ := four_at (w := w) (H := w.heap.size) rfl (i64 k) (i64 a) (i64 b) (i64 n) 27 w1 HBX1.out
  have hz1 : w.heap.size < w1.heap.size := by have := hb1.size; simp at this; omega
  obtain ⟨c1, c2⟩ := HC.out w1 ((HT.out.alloc _).below hb1)
  have h0 := HT.out.pos
  clear hb1
  go_wp2_with (first | (at_builtin; refine app9 rfl (.tmp 44) (.tmp 45) rfl (w1.heap.size + 1) _ 1 _ rfl HO3.out T rfl (by omega) (by omega) ?_; intro v4 w4 ho4 hb4; have HB4 : Hid (Below w.heap.size w w4) := HB3.out.trans (hb4.mono (by omega)); have hcv := own_conv ho4 HP.out; clear ho4 hb4) | (go_at_call 60; refine (HY.out _).mono ?_; rintro e w3 ⟨rfl, hb3⟩; have HB3 : Hid (Below w.heap.size w w3) := ((HB1.out.alloc (by omega) _).alloc (by simp <;> omega) _).trans (hb3.mono (by simp <;> omega)); have HO3 : Hid (w3.ownsRow (w1.heap.size + 1) 5 1 (.slice (some ⟨w1.heap.size + 1, 0, none⟩) 1 1) 1 [u8 k]) := own_below (lit_at (by simp) (by omega) _) hb3; have hz3 : w1.heap.size + 1 ≤ w3.heap.size := (by have := hb3.size; simp at this <;> omega); clear hb3))
  go_ret2
  exact ⟨rfl, HB4.out⟩
theorem bytes_any (w : World) (ht : Tab w) (i : In) : Calls Tryd.prog 35 #[inV i] w fun e w' => e = .returned (.tuple #[.string ⟨(btS i).toArray⟩, i64 (btE i)]) ∧ Below w.heap.size w w' := by
  unfold btS btE
  by_cases h : isI i = true
  · rw [if_pos h, if_pos h]
    obtain ⟨h1, h2, h3, h4, h5, h6, h7⟩ := isI_out h
    obtain ⟨op, a, b, n⟩ := i
    simp only at *
    obtain ⟨k, rfl⟩ := Int.eq_ofNat_of_zero_le h1.1
    obtain ⟨a, rfl⟩ := Int.eq_ofNat_of_zero_le h2.1
    obtain ⟨b, rfl⟩ := Int.eq_ofNat_of_zero_le h3.1
    obtain ⟨n, rfl⟩ := Int.eq_ofNat_of_zero_le h4
    have hk : k < 21 := by omega
    simp only [Int.toNat_natCast] at *
    have hn : n ≤ 65535 := by
      rcases cls k hk with ⟨c1, c2⟩ | ⟨c1, c2⟩ | ⟨c1, c2⟩ | ⟨c1, c2⟩ | ⟨c1, c2⟩ <;> rw [c2] at h7 <;> omega
    by_cases hr : 0 < rg k <;> by_cases hm : 0 < nb k
    · exact bytes_12 w ht k a b n hk (by omega) (by omega) hn h hr hm
    · exact bytes_10 w ht k a b n hk (by omega) (by omega) hn h hr (by omega)
    · exact bytes_02 w ht k a b n hk (by omega) (by omega) hn h (by omega) hm
    · exact bytes_00 w ht k a b n hk (by omega) (by omega) hn h (by omega) (by omega)
  · rw [if_neg h, if_neg h]
    exact bytes_no w ht i (by simpa using h)
end Go.Proofs.YtobkehlkopkaeaaDoor
