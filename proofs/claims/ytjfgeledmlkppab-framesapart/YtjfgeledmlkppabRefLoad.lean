/- imagoref02.Memory's Load, Copy and New: their contracts; no statement is proved in this text. -/
import Derived.Test.YtjfgeledmlkppabRef
namespace Go.Proofs.Ytjfgeledmlkppab
open Go.ChangeShapes Go.WideShapes Go.ChangeAt Go.RowKit

theorem rpage_mem {w : World} {p r n m cap : Nat} {l : List UInt8} (h : RMem w p r n m cap l) (hm : m = 16 * n) (hn : n ≤ 64) (hcap : m ≤ cap) (f : Int) :
    Calls Try.prog 15 #[.pointer (some ⟨p, 0, none⟩), .int .i64 f] w fun e w' => e = .returned (.tuple #[.string ⟨(pgS l f n).toArray⟩, .int .i64 (pgE f n)]) ∧ w' = w := by
  unfold pgS pgE
  by_cases hz : inB f n = true
  · rw [if_pos hz, if_pos hz]
    obtain ⟨k, rfl, hk⟩ := inB_nat hz
    exact rpage_ok w p r n m cap k _ h.ptr hm hn hcap hk (fr_len l k n hk h.len) (by rw [Nat.mul_comm]; exact h.row_at k)
  · rw [if_neg hz, if_neg hz]
    exact rpage_no w p r n m cap f h.ptr hm hn (by simpa using hz)

theorem over_snoc (l v : List UInt8) (o : Nat) (b : UInt8) (h : o + v.length + 1 ≤ l.length) : over (over l o v) (o + v.length) [b] = over l o (v ++ [b]) := by
  apply List.ext_getElem?
  intro j
  have h1 : (over l o v).length = l.length := over_len l o v (by omega)
  rw [over_get (over l o v) _ [b] (by simp; omega), over_get l o v (by omega), over_get l o (v ++ [b]) (by simp; omega)]
  simp only [List.length_append, List.length_cons, List.length_nil]
  by_cases a1 : j < o
  · rw [if_pos (by omega), if_pos a1, if_pos a1]
  · by_cases a2 : j < o + v.length
    · rw [if_pos a2, if_neg a1, if_pos a2, if_neg a1, if_pos (by omega), List.getElem?_append_left (by omega)]
    · by_cases a3 : j = o + v.length
      · subst a3
        rw [if_neg (by omega), if_pos (by omega), if_neg (by omega), if_pos (by omega), List.getElem?_append_right (by omega)]
        congr 1; omega
      · rw [if_neg a2, if_neg (by omega), if_neg a1, if_neg a2, if_neg a1, if_neg (by omega)]

theorem pad_get_lt (s : ByteArray) (k : Nat) (h : k < s.size) : (pad s.data.toList)[k]? = some s[k] := by
  unfold pad
  rw [List.getElem?_append_left (by exact h)]
  simp [List.getElem?_eq_getElem (show k < s.data.toList.length from h)]
  rfl
theorem pad_get_ge (s : ByteArray) (k : Nat) (h : s.size ≤ k) (h2 : k < 16) : (pad s.data.toList)[k]? = some 0 := by
  have : s.data.toList.length = s.size := rfl
  unfold pad
  rw [List.getElem?_append_right (by omega), List.getElem?_replicate, if_pos (by omega)]
theorem take_snoc_get (v : List UInt8) (k : Nat) (b : UInt8) (h : v[k]? = some b) : v.take (k + 1) = v.take k ++ [b] := by
  have hk := (List.getElem?_eq_some_iff.1 h).1
  rw [List.take_succ_eq_append_getElem hk, (List.getElem?_eq_some_iff.1 h).2]

set_option maxHeartbeats 400000 in
theorem rload_no (w : World) (p r n m cap : Nat) (f : Int) (s : ByteArray) (h1 : w.cell? ⟨p, 0, none⟩ = some (.slice (some ⟨r, 0, none⟩) m cap)) (hm : m = 16 * n) (hn : n ≤ 64) (h : inB f n = false) :
    Calls Try.prog 23 #[.pointer (some ⟨p, 0, none⟩), .int .i64 f, .string s] w fun e w' => e = .returned (.int .i64 6) ∧ w' = w := by
  have Hm : Hid _ := hm
  clear hm
  go_enter Try.func23, Try.ntmps23
  go_wp2_with (go_at_call 25; refine (ris_any _ _ _ _ _ _ _ h1 Hm.out hn).mono ?_; rintro e w' ⟨rfl, rfl⟩)
  go_ret
  exact ⟨rfl, rfl⟩
set_option maxHeartbeats 400000 in
theorem rload_long (w : World) (p r n m cap : Nat) (f : Int) (s : ByteArray) (h1 : w.cell? ⟨p, 0, none⟩ = some (.slice (some ⟨r, 0, none⟩) m cap)) (hm : m = 16 * n) (hn : n ≤ 64) (h : inB f n = true) (hs : 16 < s.size) :
    Calls Try.prog 23 #[.pointer (some ⟨p, 0, none⟩), .int .i64 f, .string s] w fun e w' => e = .returned (.int .i64 2) ∧ w' = w := by
  have Hm : Hid _ := hm
  clear hm
  go_enter Try.func23, Try.ntmps23
  go_wp2_with (go_at_call 25; refine (ris_any _ _ _ _ _ _ _ h1 Hm.out hn).mono ?_; rintro e w' ⟨rfl, rfl⟩)
  go_ret
  exact ⟨rfl, rfl⟩

theorem rload_at {wr : World} {p r n : Nat} {sv : Value} {L : List UInt8} (h : MemG wr p r sv n L) (f k : Nat) (hf : f < n) (hk : k < 16) :
    ∃ v : Int, wr.cell? ⟨r, 16 * f + k, none⟩ = some (.int .u8 v) ∧ wr.frozen? ⟨r, 16 * f + k, none⟩ = false := by
  have hl := h.len
  have ho : 16 * f + k < L.length := by omega
  refine ⟨_, h.cell _ _ (List.getElem?_eq_getElem ho), ?_⟩
  exact (h.thr_at (16 * f + k) 1 (by omega) 0 (by omega)).2
theorem rload_next {wr : World} {p r n : Nat} {sv : Value} {l v : List UInt8} {f k : Nat} (h : MemG wr p r sv n (over l (f * 16) (v.take k))) (b : UInt8) (hb : v[k]? = some b) (hv : v.length = 16) (hk : k < 16) (hl : f * 16 + 16 ≤ l.length) :
    MemG (wr.setCell ⟨r, 16 * f + k, none⟩ (.int .u8 b.toNat)) p r sv n (over l (f * 16) (v.take (k + 1))) := by
  have hlen := h.len
  have hk' : (v.take k).length = k := by simp; omega
  rw [over_len _ _ _ (by omega)] at hlen
  have h2 := h.over (f * 16 + k) [b] (by simp; omega)
  have e := over_snoc l (v.take k) (f * 16) b (by omega)
  rw [hk'] at e
  rw [e, ← take_snoc_get v k b hb] at h2
  rw [Nat.mul_comm 16 f]
  exact h2

set_option maxHeartbeats 800000 in
theorem rload_ok {w : World} {p r n m cap : Nat} {l : List UInt8} (h : RMem w p r n m cap l) (hm : m = 16 * n) (hn : n ≤ 64) (f : Nat) (s : ByteArray) (hf : f < n) (hs : s.size ≤ 16) :
    Calls Try.prog 23 #[.pointer (some ⟨p, 0, none⟩), .int .i64 f, .string s] w fun e w' => e = .returned (.int .i64 0) ∧ Touch r w w' ∧ RMem w' p r n m cap (over l (f * 16) (pad s.data.toList)) := by
  have hb : inB f n = true := by simp [inB]; omega
  have h1 := h.ptr
  have hlen := h.len
  have hpl := pad_len s.data.toList hs
  have H : Hid _ := h
  have Hm : Hid _ := hm
  have hlt : 16 * f + 16 ≤ m := by omega
  have hl16 : f * 16 + 16 ≤ l.length := by omega
  have hw0 : RMem w p r n m cap (over l (f * 16) ((pad s.data.toList).take 0)) ∧ Touch r w w := by
    refine ⟨?_, Touch.refl _ _⟩
    have e : over l (f * 16) ((pad s.data.toList).take 0) = l := by simp [over]
    rw [e]; exact h
  have HW0 : Hid _ := hw0
  have HL : Hid _ := hlen
  clear h hm hw0 hlen
  go_enter Try.func23, Try.ntmps23
  go_wp2_with (go_at_call 25; refine (ris_any _ _ _ _ _ _ _ h1 Hm.out hn).mono ?_; rintro e w1 ⟨rfl, rfl⟩)
  go_loopw [7] (fun i wr => ∃ k : Nat, k ≤ 16 ∧ i = .int .i64 k ∧ RMem wr p r n m cap (over l (f * 16) ((pad s.data.toList).take k)) ∧ Touch r w1 wr) (fun i _ => 16 - (intOf i).toNat)
  case atStart => exact ⟨0, by omega, rfl, HW0.out⟩
  case round =>
    obtain ⟨k, hk, rfl, hmem, ht⟩ := hrel
    by_cases hlt16 : k < 16
    · obtain ⟨v0, hc, hfz⟩ := rload_at hmem f k hf hlt16
      have hp := hmem.ptr
      have hix : 16 * f + k < m := by omega
      by_cases hks : k < s.size
      · have hnext := rload_next hmem s[k] (pad_get_lt s k hks) hpl hlt16 hl16
        have HN : Hid _ := hnext
        have HT : Hid _ := ht
        clear hnext hmem ht
        go_wp2_with fail
        go_roundw
        case rel => exact ⟨k + 1, by omega, by go_num, HN.out, HT.out.setCell rfl _⟩
        case measure => simp [intOf]; omega
      · have hnext := rload_next hmem 0 (pad_get_ge s k (by omega) hlt16) hpl hlt16 hl16
        have HN : Hid _ := hnext
        have HT : Hid _ := ht
        clear hnext hmem ht
        go_wp2_with fail
        go_roundw
        case rel => exact ⟨k + 1, by omega, by go_num, HN.out, HT.out.setCell rfl _⟩
        case measure => simp [intOf]; omega
    · obtain rfl : k = 16 := by omega
      rw [List.take_of_length_le (by omega)] at hmem
      have HN : Hid _ := hmem
      have HT : Hid _ := ht
      clear hmem ht
      go_wp2_with fail
      go_ret
      exact ⟨rfl, HT.out, HN.out⟩

theorem rload_mem {w : World} {p r n m cap : Nat} {l : List UInt8} (h : RMem w p r n m cap l) (hm : m = 16 * n) (hn : n ≤ 64) (f : Int) (s : ByteArray) :
    Calls Try.prog 23 #[.pointer (some ⟨p, 0, none⟩), .int .i64 f, .string s] w fun e w' => e = .returned (.int .i64 (ldE f s.size n)) ∧ Touch r w w' ∧ RMem w' p r n m cap (ldL l f s.data.toList n) := by
  have hsz : s.data.toList.length = s.size := rfl
  unfold ldE ldL
  rw [hsz]
  by_cases hz : inB f n = true
  · rw [if_pos hz]
    by_cases hs : s.size ≤ 16
    · rw [if_pos hs, if_pos ⟨hz, hs⟩]
      obtain ⟨k, rfl, hk⟩ := inB_nat hz
      exact rload_ok h hm hn k s hk hs
    · rw [if_neg hs, if_neg (fun e => hs e.2)]
      refine (rload_long w p r n m cap f s h.ptr hm hn hz (by omega)).mono ?_
      rintro e w' ⟨rfl, rfl⟩
      exact ⟨rfl, Touch.refl _ _, h⟩
  · rw [if_neg hz, if_neg (fun e => hz e.1)]
    refine (rload_no w p r n m cap f s h.ptr hm hn (by simpa using hz)).mono ?_
    rintro e w' ⟨rfl, rfl⟩
    exact ⟨rfl, Touch.refl _ _, h⟩

theorem pad_full (s : List UInt8) (h : s.length = 16) : pad s = s := by simp [pad, h]

set_option maxHeartbeats 800000 in
theorem rcopy_mem {w : World} {p r n m cap : Nat} {l : List UInt8} (h : RMem w p r n m cap l) (hm : m = 16 * n) (hn : n ≤ 64) (hcap : m ≤ cap) (f t : Int) :
    Calls Try.prog 22 #[.pointer (some ⟨p, 0, none⟩), .int .i64 f, .int .i64 t] w fun e w' => e = .returned (.int .i64 (cpE f t n)) ∧ Touch r w w' ∧ RMem w' p r n m cap (cpL l f t n) := by
  have h1 := h.ptr
  have hlen := h.len
  have H : Hid _ := h
  have Hm : Hid _ := hm
  have HL : Hid _ := hlen
  clear h hm hlen
  by_cases hf : inB f n = true
  · have p1 : pgE f n = 0 := by unfold pgE; rw [if_pos hf]
    have p2 : pgS l f n = fr l f.toNat := by unfold pgS; rw [if_pos hf]
    have p3 : (fr l f.toNat).length = 16 := by
      obtain ⟨k, rfl, hk⟩ := inB_nat hf
      exact fr_len l k n hk HL.out
    by_cases ht : inB t n = true
    · have q1 : cpE f t n = 0 := by unfold cpE; rw [if_pos ⟨hf, ht⟩]
      have q2 : ldE t (fr l f.toNat).length n = 0 := by unfold ldE; rw [if_pos ht, if_pos (by omega)]
      have q3 : ldL l t (fr l f.toNat) n = cpL l f t n := by unfold ldL cpL; rw [if_pos ⟨ht, by omega⟩, if_pos ⟨hf, ht⟩, pad_full _ p3]
      have P1 : Hid _ := p1
      have P2 : Hid _ := p2
      have Q1 : Hid _ := q1
      have Q2 : Hid _ := q2
      have Q3 : Hid _ := q3
      clear p1 p2 q1 q2 q3
      go_enter Try.func22, Try.ntmps22
      go_wp2_with fail
      refine (rpage_mem H.out Hm.out hn hcap f).mono ?_
      rintro e w' ⟨he, rfl⟩
      rw [P1.out, P2.out] at he
      subst he
      generalize fr l f.toNat = x at *
      go_wp2_with (go_at_call 25; refine (ris_any _ _ _ _ _ _ _ h1 Hm.out hn).mono ?_; rintro e w' ⟨rfl, rfl⟩)
      refine (rload_mem H.out Hm.out hn t ⟨x.toArray⟩).mono ?_
      rintro e w2 ⟨he, ht2, hm2⟩
      rw [show (⟨x.toArray⟩ : ByteArray).size = x.length from rfl, Q2.out] at he
      rw [show (⟨x.toArray⟩ : ByteArray).data.toList = x from rfl, Q3.out] at hm2
      subst he
      have HM2 : Hid _ := hm2
      have HT2 : Hid _ := ht2
      clear hm2 ht2
      go_wp2_with fail
      go_ret
      exact ⟨by rw [Q1.out]; rfl, HT2.out, HM2.out⟩
    · have hcn : ¬ (inB f n = true ∧ inB t n = true) := fun e => ht e.2
      have q1 : cpE f t n = 6 := by unfold cpE; rw [if_neg hcn]
      have q3 : cpL l f t n = l := by unfold cpL; rw [if_neg hcn]
      have P1 : Hid _ := p1
      have Q1 : Hid _ := q1
      have Q3 : Hid _ := q3
      clear p1 p2 q1 q3
      have ht' : inB t n = false := by simpa using ht
      go_enter Try.func22, Try.ntmps22
      go_wp2_with fail
      refine (rpage_mem H.out Hm.out hn hcap f).mono ?_
      rintro e w' ⟨he, rfl⟩
      rw [P1.out] at he
      subst he
      generalize pgS l f n = x at *
      go_wp2_with (go_at_call 25; refine (ris_any _ _ _ _ _ _ _ h1 Hm.out hn).mono ?_; rintro e w' ⟨rfl, rfl⟩)
      go_ret
      exact ⟨by rw [Q1.out]; rfl, Touch.refl _ _, by rw [Q3.out]; exact H.out⟩
  · have hcn : ¬ (inB f n = true ∧ inB t n = true) := fun e => hf e.1
    have p1 : pgE f n = 6 := by unfold pgE; rw [if_neg hf]
    have q1 : cpE f t n = 6 := by unfold cpE; rw [if_neg hcn]
    have q3 : cpL l f t n = l := by unfold cpL; rw [if_neg hcn]
    have P1 : Hid _ := p1
    have Q1 : Hid _ := q1
    have Q3 : Hid _ := q3
    clear p1 q1 q3
    go_enter Try.func22, Try.ntmps22
    go_wp2_with fail
    refine (rpage_mem H.out Hm.out hn hcap f).mono ?_
    rintro e w' ⟨he, rfl⟩
    rw [P1.out] at he
    subst he
    generalize pgS l f n = x at *
    go_wp2_with fail
    go_ret
    exact ⟨by rw [Q1.out]; rfl, Touch.refl _ _, by rw [Q3.out]; exact H.out⟩
end Go.Proofs.Ytjfgeledmlkppab
