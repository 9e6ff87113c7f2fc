/- imagoref02.Memory's methods, as functions of one list of bytes: each method's contract; no statement is proved in this text. -/
import Derived.Test.YtjfgeledmlkppabArgs
namespace Go.Proofs.Ytjfgeledmlkppab
open Go.ChangeShapes Go.WideShapes Go.ChangeAt Go.RowKit

abbrev RMem (w : World) (p r n m cap : Nat) (l : List UInt8) : Prop := MemG w p r (.slice (some ⟨r, 0, none⟩) m cap) n l

set_option maxHeartbeats 400000 in
theorem ris_any (w : World) (p r n m cap : Nat) (f : Int) (h1 : w.cell? ⟨p, 0, none⟩ = some (.slice (some ⟨r, 0, none⟩) m cap)) (hm : m = 16 * n) (hn : n ≤ 64) :
    Calls Try.prog 25 #[.pointer (some ⟨p, 0, none⟩), .int .i64 f] w fun e w' => e = .returned (.bool (inB f n)) ∧ w' = w := by
  have hd : (m : Int) / 16 = n := by omega
  have hb : (m : Int) ≤ 1024 := by omega
  clear hm
  by_cases h : 0 ≤ f
  · go_enter Try.func25, Try.ntmps25
    go_wp2
    go_ret
    refine ⟨?_, rfl⟩
    simp [inB, h]
  · go_enter Try.func25, Try.ntmps25
    go_wp2
    go_ret
    refine ⟨?_, rfl⟩
    simp [inB]; omega

set_option maxHeartbeats 400000 in
theorem rget_none (w : World) (p r n m cap : Nat) (f at_ : Int) (h1 : w.cell? ⟨p, 0, none⟩ = some (.slice (some ⟨r, 0, none⟩) m cap)) (hm : m = 16 * n) (hn : n ≤ 64) (h : inB f n = false) :
    Calls Try.prog 13 #[.pointer (some ⟨p, 0, none⟩), .int .i64 f, .int .i64 at_] w fun e w' => e = .returned (.tuple #[.int .u8 0, .int .i64 6]) ∧ w' = w := by
  have Hm : Hid _ := hm
  clear hm
  go_enter Try.func13, Try.ntmps13
  go_wp2_with (go_at_call 25; refine (ris_any _ _ _ _ _ _ _ h1 Hm.out hn).mono ?_; rintro e w' ⟨rfl, rfl⟩)
  go_ret2
  exact ⟨rfl, rfl⟩

set_option maxHeartbeats 400000 in
theorem rget_arg (w : World) (p r n m cap : Nat) (f at_ : Int) (h1 : w.cell? ⟨p, 0, none⟩ = some (.slice (some ⟨r, 0, none⟩) m cap)) (hm : m = 16 * n) (hn : n ≤ 64) (h : inB f n = true) (ha : at_ < 0 ∨ 15 < at_) :
    Calls Try.prog 13 #[.pointer (some ⟨p, 0, none⟩), .int .i64 f, .int .i64 at_] w fun e w' => e = .returned (.tuple #[.int .u8 0, .int .i64 1]) ∧ w' = w := by
  have Hm : Hid _ := hm
  clear hm
  rcases ha with ha | ha
  · go_enter Try.func13, Try.ntmps13
    go_wp2_with (go_at_call 25; refine (ris_any _ _ _ _ _ _ _ h1 Hm.out hn).mono ?_; rintro e w' ⟨rfl, rfl⟩)
    go_ret2
    exact ⟨rfl, rfl⟩
  · have h0 : ¬ at_ < 0 := by omega
    go_enter Try.func13, Try.ntmps13
    go_wp2_with (go_at_call 25; refine (ris_any _ _ _ _ _ _ _ h1 Hm.out hn).mono ?_; rintro e w' ⟨rfl, rfl⟩)
    go_ret2
    exact ⟨rfl, rfl⟩

set_option maxHeartbeats 400000 in
theorem rget_ok (w : World) (p r n m cap : Nat) (f at_ : Nat) (v : Int) (h1 : w.cell? ⟨p, 0, none⟩ = some (.slice (some ⟨r, 0, none⟩) m cap)) (hm : m = 16 * n) (hn : n ≤ 64) (h : f < n) (h2 : at_ < 16) (hv : w.cell? ⟨r, 16 * f + at_, none⟩ = some (.int .u8 v)) :
    Calls Try.prog 13 #[.pointer (some ⟨p, 0, none⟩), .int .i64 f, .int .i64 at_] w fun e w' => e = .returned (.tuple #[.int .u8 v, .int .i64 0]) ∧ w' = w := by
  have hb : inB f n = true := by simp [inB]; omega
  have hlt : 16 * f + at_ < m := by omega
  have Hm : Hid _ := hm
  clear hm
  go_enter Try.func13, Try.ntmps13
  go_wp2_with (go_at_call 25; refine (ris_any _ _ _ _ _ _ _ h1 Hm.out hn).mono ?_; rintro e w' ⟨rfl, rfl⟩)
  go_ret2
  exact ⟨rfl, rfl⟩

theorem rget_mem {w : World} {p r n m cap : Nat} {l : List UInt8} (h : RMem w p r n m cap l) (hm : m = 16 * n) (hn : n ≤ 64) (f at_ : Int) :
    Calls Try.prog 13 #[.pointer (some ⟨p, 0, none⟩), .int .i64 f, .int .i64 at_] w fun e w' => e = .returned (.tuple #[.int .u8 (gtV l f at_ n).toNat, .int .i64 (plc f at_ n)]) ∧ w' = w := by
  by_cases hz : plc f at_ n = 0
  · have hz' := hz
    obtain ⟨k, j, rfl, rfl, hk, hj⟩ := plc_zero hz
    have hl := h.len
    have ho : k * 16 + j < l.length := by omega
    refine (rget_ok w p r n m cap k j _ h.ptr hm hn hk hj (by rw [Nat.mul_comm 16 k]; exact h.cell _ _ (List.getElem?_eq_getElem ho))).mono ?_
    rintro e w' ⟨rfl, rfl⟩
    refine ⟨?_, rfl⟩
    unfold gtV
    rw [if_pos hz', hz']
    simp only [Int.toNat_natCast, List.getD_eq_getElem?_getD, List.getElem?_eq_getElem ho, Option.getD_some]
  · unfold gtV
    rw [if_neg hz]
    by_cases hb : inB f n = true
    · have ha : ¬ (0 ≤ at_ ∧ at_ ≤ 15) := fun e => hz (by unfold plc; rw [if_pos hb, if_pos e])
      have e1 : plc f at_ n = 1 := by unfold plc; rw [if_pos hb, if_neg ha]
      rw [e1]
      exact rget_arg w p r n m cap f at_ h.ptr hm hn hb (by omega)
    · have e1 : plc f at_ n = 6 := by unfold plc; rw [if_neg hb]
      rw [e1]
      exact rget_none w p r n m cap f at_ h.ptr hm hn (by simpa using hb)

set_option maxHeartbeats 400000 in
theorem rset_no {w : World} {p r n m cap : Nat} {l : List UInt8} (h : RMem w p r n m cap l) (hm : m = 16 * n) (hn : n ≤ 64) (f at_ u : Int) (hz : (plc f at_ n == 0) = false) :
    Calls Try.prog 21 #[.pointer (some ⟨p, 0, none⟩), .int .i64 f, .int .i64 at_, .int .u8 u] w fun e w' => e = .returned (.int .i64 (plc f at_ n)) ∧ w' = w := by
  have H : Hid _ := h
  have Hm : Hid _ := hm
  clear h hm
  go_enter Try.func21, Try.ntmps21
  go_wp2_with (go_at_call 13; refine (rget_mem H.out Hm.out hn _ _).mono ?_; rintro e w' ⟨rfl, rfl⟩)
  go_ret
  exact ⟨rfl, rfl⟩

set_option maxHeartbeats 400000 in
theorem rset_ok {w : World} {p r n m cap : Nat} {l : List UInt8} (h : RMem w p r n m cap l) (hm : m = 16 * n) (hn : n ≤ 64) (f at_ : Nat) (u v : Int) (hf : f < n) (ha : at_ < 16) (hv : w.cell? ⟨r, 16 * f + at_, none⟩ = some (.int .u8 v)) (hfz : w.frozen? ⟨r, 16 * f + at_, none⟩ = false) (hz : plc f at_ n = 0) :
    Calls Try.prog 21 #[.pointer (some ⟨p, 0, none⟩), .int .i64 f, .int .i64 at_, .int .u8 u] w fun e w' => e = .returned (.int .i64 0) ∧ w' = w.setCell ⟨r, 16 * f + at_, none⟩ (.int .u8 u) := by
  have h1 := h.ptr
  have hlt : 16 * f + at_ < m := by omega
  have H : Hid _ := h
  have Hm : Hid _ := hm
  clear h hm
  go_enter Try.func21, Try.ntmps21
  go_wp2_with (go_at_call 13; refine (rget_mem H.out Hm.out hn _ _).mono ?_; rintro e w' ⟨rfl, rfl⟩)
  go_ret
  exact ⟨rfl, rfl⟩

theorem rset_mem {w : World} {p r n m cap : Nat} {l : List UInt8} (h : RMem w p r n m cap l) (hm : m = 16 * n) (hn : n ≤ 64) (f at_ : Int) (u : UInt8) :
    Calls Try.prog 21 #[.pointer (some ⟨p, 0, none⟩), .int .i64 f, .int .i64 at_, .int .u8 u.toNat] w fun e w' => e = .returned (.int .i64 (plc f at_ n)) ∧ Touch r w w' ∧ RMem w' p r n m cap (stL l f at_ u n) := by
  by_cases hz : plc f at_ n = 0
  · have hz' := hz
    obtain ⟨k, j, rfl, rfl, hk, hj⟩ := plc_zero hz
    have hl := h.len
    have ho : k * 16 + j < l.length := by omega
    refine (rset_ok h hm hn k j u.toNat _ hk hj (by rw [Nat.mul_comm 16 k]; exact h.cell _ _ (List.getElem?_eq_getElem ho)) ?_ hz').mono ?_
    · have := (h.thr_at (k * 16 + j) 1 (by omega) 0 (by omega)).2
      rw [Nat.mul_comm 16 k]
      exact this
    · rintro e w' ⟨rfl, rfl⟩
      refine ⟨by rw [hz'], (Touch.refl r w).setCell rfl _, ?_⟩
      unfold stL
      rw [if_pos hz', Nat.mul_comm 16 k]
      exact h.over (k * 16 + j) [u] (by simp; omega)
  · refine (rset_no h hm hn f at_ u.toNat (by simpa using hz)).mono ?_
    rintro e w' ⟨rfl, rfl⟩
    exact ⟨rfl, Touch.refl _ _, by unfold stL; rw [if_neg hz]; exact h⟩

set_option maxHeartbeats 400000 in
theorem rpage_no (w : World) (p r n m cap : Nat) (f : Int) (h1 : w.cell? ⟨p, 0, none⟩ = some (.slice (some ⟨r, 0, none⟩) m cap)) (hm : m = 16 * n) (hn : n ≤ 64) (h : inB f n = false) :
    Calls Try.prog 15 #[.pointer (some ⟨p, 0, none⟩), .int .i64 f] w fun e w' => e = .returned (.tuple #[.string ⟨#[]⟩, .int .i64 6]) ∧ w' = w := by
  have Hm : Hid _ := hm
  clear hm
  go_enter Try.func15, Try.ntmps15
  go_wp2_with (go_at_call 25; refine (ris_any _ _ _ _ _ _ _ h1 Hm.out hn).mono ?_; rintro e w' ⟨rfl, rfl⟩)
  go_ret2
  exact ⟨rfl, rfl⟩

set_option maxHeartbeats 400000 in
theorem rpage_ok (w : World) (p r n m cap : Nat) (f : Nat) (s : List UInt8) (h1 : w.cell? ⟨p, 0, none⟩ = some (.slice (some ⟨r, 0, none⟩) m cap)) (hm : m = 16 * n) (hn : n ≤ 64) (hcap : m ≤ cap) (h : f < n) (hl : s.length = 16) (hr : w.rangeAt r (16 * f) (cells s)) :
    Calls Try.prog 15 #[.pointer (some ⟨p, 0, none⟩), .int .i64 f] w fun e w' => e = .returned (.tuple #[.string ⟨s.toArray⟩, .int .i64 0]) ∧ w' = w := by
  have hb : inB f n = true := by simp [inB]; omega
  have hconv : ∀ c, (convert 54 9 (.slice (some ⟨r, 16 * f, none⟩) 16 c)).run Try.prog w = .ok (.string ⟨s.toArray⟩) w := by
    intro c
    have := run_convert_bytes_back (P := Try.prog) w 54 9 5 ⟨r, 16 * f, none⟩ c s (by kernel_rfl) (by kernel_rfl) (by kernel_rfl) (fun j hj => by
      rw [Addr.add_mid]; exact hr j _ (by simp [cells, List.getElem?_eq_getElem hj]))
    rw [hl] at this
    exact this
  have hlt : 16 * f + 16 ≤ m := by omega
  have hne : ¬ cap = 16 * f := by omega
  have Hm : Hid _ := hm
  clear hm hr
  go_enter Try.func15, Try.ntmps15
  go_wp2_with (go_at_call 25; refine (ris_any _ _ _ _ _ _ _ h1 Hm.out hn).mono ?_; rintro e w' ⟨rfl, rfl⟩)
  go_ret2
  exact ⟨rfl, rfl⟩
end Go.Proofs.Ytjfgeledmlkppab
