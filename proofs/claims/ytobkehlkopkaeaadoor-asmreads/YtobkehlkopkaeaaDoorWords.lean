/- asm's allWithin, labelOf, registerOf, numberOf and distance: their contracts; no statement is proved in this text. -/
import Derived.Test.YtobkehlkopkaeaaDoorText
import Derived.Test.YtobkehlkopkaeaaDoorSmall
import Derived.Test.YtobkehlkopkaeaaDoorShelf
namespace Go.Proofs.YtobkehlkopkaeaaDoor
open Go.ChangeShapes Go.WideShapes Go.ChangeAt Go.RowKit
set_option maxRecDepth 100000

abbrev str (l : Bs) : Value := .string ⟨l.toArray⟩
theorem bz (l : Bs) : (⟨l.toArray⟩ : ByteArray).size = l.length := by simp [ByteArray.size]
theorem bnth (l : Bs) (i : Nat) (_hi : i < l.length) : ∀ h, ((⟨l.toArray⟩ : ByteArray)[i]'h).toNat = l[i].toNat := fun _ => rfl
theorem blist (l : Bs) : (⟨l.toArray⟩ : ByteArray).data.toList = l := rfl
theorem all_take_next {l : Bs} {p : UInt8 → Bool} {k : Nat} (hk : k < l.length) (h : (l.take k).all p = true) (hp : p l[k] = true) : (l.take (k + 1)).all p = true := by
  rw [← List.take_append_getElem hk, List.all_append, h]
  simp [hp]

set_option maxHeartbeats 800000 in
theorem within_go (w : World) (l : Bs) (S : ByteArray) (hsz : S.size = l.length) (hb : ∀ i (hi : i < l.length) h, (S[i]'h).toNat = l[i].toNat) (most lo hi : Nat) (hl : l.length ≤ 1000000) (hm : most ≤ 100) (_hlo : lo < 256) (_hhi : hi < 256) :
    Calls Tryd.prog 48 #[.string S, i64 most, .int .u8 lo, .int .u8 hi] w fun e w' => e = .returned (.bool (within l most lo hi)) ∧ w' = w := by
  have HBy : Hid (∀ i (hi : i < l.length) h, (S[i]'h).toNat = l[i].toNat) := hb
  obtain ⟨N, hN⟩ : ∃ N, l.length = N := ⟨_, rfl⟩
  have HN : Hid (l.length = N) := hN
  have HF : Hid (N < 1 ∨ most < N → within l most lo hi = false) := fun h => by unfold within; rw [decide_eq_false (by omega)]; rfl
  have HA : Hid (1 ≤ N → N ≤ most → within l most lo hi = l.all (fun b => decide (lo ≤ b.toNat ∧ b.toNat ≤ hi))) := fun h1 h2 => by unfold within; rw [decide_eq_true (by omega)]; rfl
  rw [hN] at hsz hl
  clear hN hb
  by_cases h1 : N < 1
  · have HF2 : Hid (within l most lo hi = false) := HF.out (Or.inl h1)
    go_enter Tryd.func48, Tryd.ntmps48
    go_wp2_with fail
    go_ret
    exact ⟨by rw [HF2.out]; rfl, rfl⟩
  by_cases h2 : most < N
  · have HF2 : Hid (within l most lo hi = false) := HF.out (Or.inr h2)
    go_enter Tryd.func48, Tryd.ntmps48
    go_wp2_with fail
    go_ret
    exact ⟨by rw [HF2.out]; rfl, rfl⟩
  have HA2 : Hid (within l most lo hi = l.all (fun b => decide (lo ≤ b.toNat ∧ b.toNat ≤ hi))) := HA.out (by omega) (by omega)
  clear HF HA
  go_enter Tryd.func48, Tryd.ntmps48
  go_wp2_with fail
  go_loop [21] (fun i => ∃ k : Nat, i = i64 k ∧ k ≤ N ∧ (l.take k).all (fun b => decide (lo ≤ b.toNat ∧ b.toNat ≤ hi)) = true) (fun i => N - (intOf i).toNat)
  case atStart => exact ⟨0, rfl, by omega, rfl⟩
  case round =>
    obtain ⟨k, rfl, hk, hall⟩ := hrel
    by_cases hkN : k < N
    · have hkl : k < l.length := by rw [HN.out]; exact hkN
      have hby := HBy.out k hkl
      have HNX : Hid (lo ≤ l[k].toNat → l[k].toNat ≤ hi → (l.take (k + 1)).all (fun b => decide (lo ≤ b.toNat ∧ b.toNat ≤ hi)) = true) := fun a b => all_take_next hkl hall (decide_eq_true ⟨a, b⟩)
      have HNO : Hid (¬ (lo ≤ l[k].toNat ∧ l[k].toNat ≤ hi) → l.all (fun b => decide (lo ≤ b.toNat ∧ b.toNat ≤ hi)) = false) := fun h => by
        rw [List.all_eq_false]
        exact ⟨l[k], List.getElem_mem hkl, by simpa using h⟩
      have hlt := l[k].toNat_lt
      clear hall
      generalize l[k].toNat = x at *
      by_cases hx : x < lo
      · have HN2 : Hid (l.all (fun b => decide (lo ≤ b.toNat ∧ b.toNat ≤ hi)) = false) := HNO.out (by omega)
        go_wp2_with fail
        go_ret
        exact ⟨by rw [HA2.out, HN2.out]; rfl, rfl⟩
      · by_cases hx2 : hi < x
        · have HN2 : Hid (l.all (fun b => decide (lo ≤ b.toNat ∧ b.toNat ≤ hi)) = false) := HNO.out (by omega)
          go_wp2_with fail
          go_ret
          exact ⟨by rw [HA2.out, HN2.out]; rfl, rfl⟩
        · have HN2 := HNX.out (by omega) (by omega)
          have HN3 : Hid ((l.take (k + 1)).all (fun b => decide (lo ≤ b.toNat ∧ b.toNat ≤ hi)) = true) := HN2
          clear HN2
          go_wp2_with fail
          exact ⟨⟨k + 1, by go_num, by omega, HN3.out⟩, by simp [intOf]; omega⟩
    · obtain rfl : k = N := by omega
      have HE : Hid (l.all (fun b => decide (lo ≤ b.toNat ∧ b.toNat ≤ hi)) = true) := (by rw [List.take_of_length_le (by rw [HN.out]; exact Nat.le_refl _)] at hall; exact hall : l.all (fun b => decide (lo ≤ b.toNat ∧ b.toNat ≤ hi)) = true)
      clear hall
      go_wp2_with fail
      go_ret
      exact ⟨by rw [HA2.out, HE.out]; rfl, rfl⟩

theorem within_ok (w : World) (l : Bs) (most lo hi : Nat) (hl : l.length ≤ 1000000) (hm : most ≤ 100) (hlo : lo < 256) (hhi : hi < 256) :
    Calls Tryd.prog 48 #[str l, i64 most, .int .u8 lo, .int .u8 hi] w fun e w' => e = .returned (.bool (within l most lo hi)) ∧ w' = w := within_go w l _ (bz l) (bnth l) most lo hi hl hm hlo hhi

set_option maxHeartbeats 800000 in
theorem word_ok (w : World) (v : Int) : Calls Tryd.prog 75 #[.int .i64 v] w fun e w' => e = .returned (.int .u16 ((v % 65536).toNat : Nat)) ∧ w' = w := by
  go_enter Tryd.func75, Tryd.ntmps75
  go_wp2
  go_ret
  exact ⟨congrArg (fun n => Ending.returned (Value.int .u16 n)) (by rw [show IntKind.u16.wrap v = v % 65536 by simp [IntKind.wrap, IntKind.bits, IntKind.signed]]; omega), rfl⟩
set_option maxHeartbeats 800000 in
theorem dist_ok (w : World) (a b : Nat) (ha : a ≤ 1000000) (hb : b ≤ 1000000) : Calls Tryd.prog 50 #[i64 a, i64 b] w fun e w' => e = .returned (i64 (dist a b : Nat)) ∧ w' = w := by
  have hd : dist a b < 65536 := by unfold dist; omega
  have HW : Hid (∀ w, Calls Tryd.prog 75 #[.int .i64 ((b : Int) - (a : Int))] w fun e w' => e = .returned (.int .u16 (dist a b : Nat)) ∧ w' = w) := fun w => word_ok w _
  generalize dist a b = D at *
  go_enter Tryd.func50, Tryd.ntmps50
  go_wp2_with (go_at_call 75; refine (HW.out _).mono ?_; rintro e w1 ⟨rfl, rfl⟩)
  go_ret
  exact ⟨rfl, rfl⟩

/-- What a number's digits are, and a register's. -/
theorem dgs_take {l : Bs} {k : Nat} (hk : k < l.length) : dgs (l.take (k + 1)) = 10 * dgs (l.take k) + (l[k].toNat - 48) := by
  unfold dgs
  rw [← List.take_append_getElem hk, List.foldl_append]
  rfl
theorem within_at {l : Bs} {most lo hi : Nat} (h : within l most lo hi = true) : (1 ≤ l.length ∧ l.length ≤ most) ∧ ∀ k (hk : k < l.length), lo ≤ l[k].toNat ∧ l[k].toNat ≤ hi := by
  unfold within at h
  rw [Bool.and_eq_true] at h
  refine ⟨of_decide_eq_true h.1, fun k hk => ?_⟩
  have := List.all_eq_true.1 h.2 l[k] (List.getElem_mem hk)
  exact of_decide_eq_true this
theorem dgs_lt {l : Bs} (h : within l 5 48 57 = true) : ∀ k, k ≤ l.length → dgs (l.take k) < 10 ^ k
  | 0, _ => by simp [dgs]
  | k + 1, hk => by
    have ih := dgs_lt h k (by omega)
    have hd := (within_at h).2 k (by omega)
    rw [dgs_take (by omega), Nat.pow_succ]
    omega

set_option maxHeartbeats 800000 in
theorem num_go (w : World) (l : Bs) (S : ByteArray) (hsz : S.size = l.length) (hb : ∀ i (hi : i < l.length) h, (S[i]'h).toNat = l[i].toNat) (hl : l.length ≤ 1000000)
    (hw : ∀ w, Calls Tryd.prog 48 #[.string S, i64 5, .int .u8 48, .int .u8 57] w fun e w' => e = .returned (.bool (within l 5 48 57)) ∧ w' = w) :
    Calls Tryd.prog 51 #[.string S] w fun e w' => e = .returned (.tuple #[i64 ((numF l).getD 0 : Nat), .bool (numF l).isSome]) ∧ w' = w := by
  have HBy : Hid (∀ i (hi : i < l.length) h, (S[i]'h).toNat = l[i].toNat) := hb
  have HW : Hid (∀ w, Calls Tryd.prog 48 #[.string S, i64 5, .int .u8 48, .int .u8 57] w fun e w' => e = .returned (.bool (within l 5 48 57)) ∧ w' = w) := hw
  obtain ⟨N, hN⟩ : ∃ N, l.length = N := ⟨_, rfl⟩
  have HN : Hid (l.length = N) := hN
  rw [hN] at hsz hl
  clear hN hb hw
  by_cases hin : within l 5 48 57 = true
  · have HF : Hid (numF l = some (dgs l)) := (by unfold numF; rw [if_pos hin] : numF l = some (dgs l))
    obtain ⟨⟨hl1, hl5⟩, hdig⟩ := within_at hin
    have HD : Hid (∀ k (hk : k < l.length), 48 ≤ l[k].toNat ∧ l[k].toNat ≤ 57) := hdig
    have HLT : Hid (∀ k, k ≤ l.length → dgs (l.take k) < 10 ^ k) := dgs_lt hin
    have hN5 : N ≤ 5 := by rw [← HN.out]; exact hl5
    have HW2 : Hid (∀ w, Calls Tryd.prog 48 #[.string S, i64 5, .int .u8 48, .int .u8 57] w fun e w' => e = .returned (.bool true) ∧ w' = w) := fun w => by have := HW.out w; rw [hin] at this; exact this
    clear hl1 hl5 hdig hin HW
    go_enter Tryd.func51, Tryd.ntmps51
    go_wp2_with fail
    refine (HW2.out _).mono ?_
    rintro e w1 ⟨rfl, rfl⟩
    go_wp2_with fail
    go_loop [4, 11] (fun n i => ∃ k m : Nat, i = i64 k ∧ n = i64 m ∧ k ≤ N ∧ m = dgs (l.take k)) (fun _ i => N - (intOf i).toNat)
    case atStart => exact ⟨0, 0, rfl, rfl, by omega, rfl⟩
    case round =>
      obtain ⟨k, m, rfl, rfl, hk, hm⟩ := hrel
      have hm5 : m ≤ 100000 := by
        rw [hm]
        refine Nat.le_of_lt (Nat.lt_of_lt_of_le (HLT.out k (by rw [HN.out]; exact hk)) ?_)
        exact Nat.le_trans (Nat.pow_le_pow_right (by omega) (show k ≤ 5 by omega)) (by omega)
      by_cases hkN : k < N
      · have hkl : k < l.length := by rw [HN.out]; exact hkN
        have hby := HBy.out k hkl
        obtain ⟨hd1, hd2⟩ := HD.out k hkl
        have HX : Hid (dgs (l.take (k + 1)) = 10 * m + (l[k].toNat - 48)) := (by rw [dgs_take hkl, hm] : dgs (l.take (k + 1)) = 10 * m + (l[k].toNat - 48))
        clear hm
        generalize l[k].toNat = x at *
        go_wp2_with fail
        exact ⟨⟨k + 1, 10 * m + (x - 48), by go_num, congrArg i64 (by omega), by omega, HX.out.symm⟩, by simp [intOf]; omega⟩
      · obtain rfl : k = N := by omega
        have HE : Hid (m = dgs l) := (by rw [hm, List.take_of_length_le (by rw [HN.out]; exact Nat.le_refl _)] : m = dgs l)
        clear hm
        go_wp2_with fail
        go_ret2
        exact ⟨by rw [HF.out, ← HE.out]; rfl, rfl⟩
  · have HF : Hid (numF l = none) := (by unfold numF; rw [if_neg hin] : numF l = none)
    have hin2 : within l 5 48 57 = false := by simpa using hin
    have HW2 : Hid (∀ w, Calls Tryd.prog 48 #[.string S, i64 5, .int .u8 48, .int .u8 57] w fun e w' => e = .returned (.bool false) ∧ w' = w) := fun w => by have := HW.out w; rw [hin2] at this; exact this
    clear hin hin2 HW
    go_enter Tryd.func51, Tryd.ntmps51
    go_wp2_with fail
    refine (HW2.out _).mono ?_
    rintro e w1 ⟨rfl, rfl⟩
    go_wp2_with fail
    go_ret2
    exact ⟨by rw [HF.out]; rfl, rfl⟩
theorem num_ok2 (w : World) (l : Bs) (hl : l.length ≤ 1000000) : Calls Tryd.prog 51 #[str l] w fun e w' => e = .returned (.tuple #[i64 ((numF l).getD 0 : Nat), .bool (numF l).isSome]) ∧ w' = w :=
  num_go w l _ (bz l) (bnth l) hl (fun w => within_ok w l 5 48 57 hl (by omega) (by omega) (by omega))

set_option maxHeartbeats 800000 in
theorem reg_ok2 (w : World) (l : Bs) (hl : l.length ≤ 1000000) : Calls Tryd.prog 49 #[str l] w fun e w' => e = .returned (.tuple #[i64 ((regF l).getD 0 : Nat), .bool (regF l).isSome]) ∧ w' = w := by
  have HC : Hid (∀ w, Calls Tryd.prog 74 #[str l, .string ⟨#[114]⟩] w fun e w' => e = .returned (.tuple #[str (Lib.trimPrefix l [114]), .bool (Lib.hasPrefix l [114])]) ∧ w' = w) := fun w => Tryd.strings_CutPrefix _ _ w
  have ht : (Lib.trimPrefix l [114]).length ≤ l.length := by unfold Lib.trimPrefix; split <;> simp
  have HW : Hid (∀ w, Calls Tryd.prog 48 #[str (Lib.trimPrefix l [114]), i64 1, .int .u8 48, .int .u8 57] w fun e w' => e = .returned (.bool (within (Lib.trimPrefix l [114]) 1 48 57)) ∧ w' = w) := fun w => within_ok w _ 1 48 57 (by omega) (by omega) (by omega) (by omega)
  have hr : regF l = if (Lib.hasPrefix l [114] && within (Lib.trimPrefix l [114]) 1 48 57) = true then some (((Lib.trimPrefix l [114]).headD 0).toNat - 48) else none := rfl
  have HD : Hid (within (Lib.trimPrefix l [114]) 1 48 57 = true → ∃ c, Lib.trimPrefix l [114] = [c] ∧ 48 ≤ c.toNat ∧ c.toNat ≤ 57) := fun h => by
    obtain ⟨⟨h1, h2⟩, h3⟩ := within_at h
    cases hx : Lib.trimPrefix l [114] with
    | nil => rw [hx] at h1; simp at h1
    | cons c r =>
      rw [hx, List.length_cons] at h2
      obtain rfl : r = [] := List.eq_nil_of_length_eq_zero (by omega)
      have := h3 0 (by rw [hx]; simp)
      simp only [hx, List.getElem_cons_zero] at this
      exact ⟨c, rfl, this⟩
  have HR : Hid (regF l = if (Lib.hasPrefix l [114] && within (Lib.trimPrefix l [114]) 1 48 57) = true then some (((Lib.trimPrefix l [114]).headD 0).toNat - 48) else none) := hr
  clear hr ht
  generalize within (Lib.trimPrefix l [114]) 1 48 57 = T at *
  generalize Lib.hasPrefix l [114] = H at *
  generalize Lib.trimPrefix l [114] = t at *
  cases H
  · go_enter Tryd.func49, Tryd.ntmps49
    go_wp2_with fail
    refine (HC.out _).mono ?_
    rintro e w1 ⟨rfl, rfl⟩
    go_wp2_with fail
    go_ret2
    exact ⟨by rw [HR.out]; rfl, rfl⟩
  cases T
  · go_enter Tryd.func49, Tryd.ntmps49
    go_wp2_with fail
    refine (HC.out _).mono ?_
    rintro e w1 ⟨rfl, rfl⟩
    go_wp2_with fail
    refine (HW.out _).mono ?_
    rintro e w1 ⟨rfl, rfl⟩
    go_wp2_with fail
    go_ret2
    exact ⟨by rw [HR.out]; rfl, rfl⟩
  · obtain ⟨c, rfl, h1, h2⟩ := HD.out rfl
    have hg : ∀ h, ((⟨[c].toArray⟩ : ByteArray)[0]'h) = c := fun _ => rfl
    have hs1 : (⟨[c].toArray⟩ : ByteArray).size = 1 := rfl
    obtain ⟨S, hS⟩ : ∃ S : ByteArray, S = ⟨[c].toArray⟩ := ⟨_, rfl⟩
    have hg2 : ∀ h, ((S : ByteArray)[0]'h).toNat = c.toNat := by subst hS; exact fun _ => rfl
    have hs2 : S.size = 1 := by subst hS; rfl
    have HC2 : Hid (∀ w, Calls Tryd.prog 74 #[str l, .string ⟨#[114]⟩] w fun e w' => e = .returned (.tuple #[.string S, .bool true]) ∧ w' = w) := by rw [hS]; exact HC.out
    have HW2 : Hid (∀ w, Calls Tryd.prog 48 #[.string S, i64 1, .int .u8 48, .int .u8 57] w fun e w' => e = .returned (.bool true) ∧ w' = w) := by rw [hS]; exact HW.out
    have HRR : Hid (regF l = some (c.toNat - 48)) := HR.out
    clear HC HW HR hg hs1 hS
    generalize c.toNat = x at *
    go_enter Tryd.func49, Tryd.ntmps49
    go_wp2_with fail
    refine (HC2.out _).mono ?_
    rintro e w1 ⟨rfl, rfl⟩
    go_wp2_with fail
    refine (HW2.out _).mono ?_
    rintro e w1 ⟨rfl, rfl⟩
    go_wp2_with fail
    go_ret2
    exact ⟨by rw [HRR.out]; exact congrArg (fun n : Int => Ending.returned (.tuple #[i64 n, .bool true])) (by simp; omega), rfl⟩

/-- A slice of words that reads as ws. -/
def WSl (w : World) (ao : Option Addr) (ws : List Bs) : Prop := ws = [] ∨ ∃ b off, ao = some ⟨b, off, none⟩ ∧ b < w.heap.size ∧ ∀ j x, ws[j]? = some x → w.cell? ⟨b, off + j, none⟩ = some (str x)
theorem WSl.below {w w' : World} {ao : Option Addr} {ws : List Bs} (h : WSl w ao ws) (hb : Below w.heap.size w w') : WSl w' ao ws := by
  rcases h with h | ⟨b, off, rfl, hlt, hc⟩
  · exact Or.inl h
  · exact Or.inr ⟨b, off, rfl, Nat.lt_of_lt_of_le hlt hb.size, fun j x hx => by rw [hb.cell (by exact hlt)]; exact hc j x hx⟩
theorem WSl.at {w : World} {ao : Option Addr} {ws : List Bs} (h : WSl w ao ws) {k : Nat} (hk : k < ws.length) : ∃ b off, ao = some ⟨b, off, none⟩ ∧ b < w.heap.size ∧ w.cell? ⟨b, off + k, none⟩ = some (str ws[k]) := by
  rcases h with rfl | ⟨b, off, rfl, hlt, hc⟩
  · simp at hk
  · exact ⟨b, off, rfl, hlt, hc k _ (List.getElem?_eq_getElem hk)⟩

set_option maxHeartbeats 800000 in
theorem label_ok (w : World) (ws : List Bs) (ao : Option Addr) (cap : Nat) (hs : WSl w ao ws) (hn : ws.length ≤ 100) (hl : ∀ x ∈ ws, x.length ≤ 1000000) :
    Calls Tryd.prog 23 #[.slice ao ws.length cap] w fun e w' => e = .returned (.tuple #[str ((labF ws).getD []), .bool (labF ws).isSome]) ∧ w' = w := by
  by_cases h1 : ws.length = 1
  · obtain ⟨x, rfl⟩ : ∃ x, ws = [x] := by
      cases ws with
      | nil => simp at h1
      | cons x r => exact ⟨x, by rw [List.eq_nil_of_length_eq_zero (show r.length = 0 by simpa using h1)]⟩
    obtain ⟨b, off, rfl, hbl, c0⟩ := hs.at (k := 0) (by simp)
    rw [Nat.add_zero] at c0
    have hxl := hl x (by simp)
    have HC : Hid (∀ w, Calls Tryd.prog 47 #[str x, .string ⟨#[58]⟩] w fun e w' => e = .returned (.tuple #[str (Lib.trimSuffix x [58]), .bool (Lib.hasSuffix x [58])]) ∧ w' = w) := fun w => Tryd.strings_CutSuffix _ _ w (by rw [bz]; omega)
    have ht : (Lib.trimSuffix x [58]).length ≤ x.length := by unfold Lib.trimSuffix; split <;> simp
    have HW : Hid (∀ w, Calls Tryd.prog 48 #[str (Lib.trimSuffix x [58]), i64 12, .int .u8 97, .int .u8 122] w fun e w' => e = .returned (.bool (within (Lib.trimSuffix x [58]) 12 97 122)) ∧ w' = w) := fun w => within_ok w _ 12 97 122 (by omega) (by omega) (by omega) (by omega)
    have HR : Hid (labF [x] = if (Lib.hasSuffix x [58] && within (Lib.trimSuffix x [58]) 12 97 122) = true then some (Lib.trimSuffix x [58]) else none) := (rfl : labF [x] = _)
    clear hs h1 hn hl ht
    simp only [List.length_singleton, List.getElem_cons_zero] at c0 ⊢
    generalize labF [x] = LF at *
    generalize within (Lib.trimSuffix x [58]) 12 97 122 = T at *
    generalize Lib.hasSuffix x [58] = H at *
    generalize Lib.trimSuffix x [58] = t at *
    cases H
    · go_enter Tryd.func23, Tryd.ntmps23
      go_wp2_with fail
      refine (HC.out _).mono ?_
      rintro e w1 ⟨rfl, rfl⟩
      go_wp2_with fail
      go_ret2
      exact ⟨by rw [HR.out]; rfl, rfl⟩
    cases T
    all_goals
      go_enter Tryd.func23, Tryd.ntmps23
      go_wp2_with fail
      refine (HC.out _).mono ?_
      rintro e w1 ⟨rfl, rfl⟩
      go_wp2_with fail
      refine (HW.out _).mono ?_
      rintro e w1 ⟨rfl, rfl⟩
      go_wp2_with fail
      go_ret2
      exact ⟨by rw [HR.out]; rfl, rfl⟩
  · have HR : Hid (labF ws = none) := (by
      cases ws with
      | nil => rfl
      | cons x r => cases r with
        | nil => simp at h1
        | cons y r => rfl : labF ws = none)
    have hne : ((ws.length : Int) != 1) = true := by simp; omega
    clear hs hl h1
    generalize ws.length = N at *
    go_enter Tryd.func23, Tryd.ntmps23
    go_wp2_with fail
    go_ret2
    exact ⟨by rw [HR.out]; rfl, rfl⟩
end Go.Proofs.YtobkehlkopkaeaaDoor
