/- code.At: its contract; no statement is proved in this text. -/
import Derived.Test.YtobkehlkopkaeaaDoorParse
namespace Go.Proofs.YtobkehlkopkaeaaDoor
open Go.ChangeShapes Go.WideShapes Go.ChangeAt Go.RowKit
set_option maxRecDepth 100000

theorem fz_at {w : World} {H : Nat} (hH : w.heap.size = H) (C : Array Value) (t : TypeId) (w' : World) (hb : Below (H + 1) (w.alloc (.cells C t)) w') (j : Nat) : w'.frozen? ⟨H, j, none⟩ = false := by
  rw [hb.frozen (p := ⟨H, j, none⟩) (by show H < H + 1; omega)]
  unfold World.frozen?
  rw [show (w.alloc (.cells C t)).heap[(⟨H, j, none⟩ : Addr).block]? = _ from heap_at hH _]
  simp
theorem sl_lh (w : World) (s : ByteArray) (j n : Nat) (h : j + n ≤ s.size) : (Instr.slice 9 (.string s) (some (i64 j)) (some (i64 ((j : Int) + (n : Int)))) none).run Tryd.prog w = .ok (.string (s.extract j (j + n))) w := by
  have h1 : (0 : Int) ≤ (j : Int) + n := by omega
  have h2 : (j : Int) + n ≤ s.size := by omega
  have h3 : (0 : Int) ≤ j := by omega
  have e : ((j : Int) + n).toNat = j + n := by omega
  have hb := run_sliceBound (P := Tryd.prog) w .i64 (j : Int) (j + n) .sliceB h3 (by omega)
  simp [Instr.slice, run_underlying under9, Instr.sliceBounds, run_sliceBound, h1, h2, e]
  rw [hb]
  rfl
abbrev atV (i : In) (n e : Int) : Value := .tuple #[inV i, i64 n, i64 e]
set_option maxHeartbeats 800000 in
theorem at_arg (w : World) (s : ByteArray) (p : Int) (h : p < 0 ∨ s.size ≤ p) : Calls Tryd.prog 19 #[.string s, i64 p] w fun e w' => e = .returned (atV zI 0 1) ∧ Below w.heap.size w w' := by
  rcases (show p < 0 ∨ (¬ p < 0 ∧ (s.size : Int) ≤ p) by omega) with h | ⟨h, h2⟩
  · go_enter Tryd.func19, Tryd.ntmps19
    go_wp2_with fail
    exact bodyPost_ret (v := atV zI 0 1) (by simp [results, Tryd.results19, go_sem, zI]) rfl ⟨rfl, below_one w _⟩
  · go_enter Tryd.func19, Tryd.ntmps19
    go_wp2_with fail
    exact bodyPost_ret (v := atV zI 0 1) (by simp [results, Tryd.results19, go_sem, zI]) rfl ⟨rfl, below_one w _⟩

set_option maxHeartbeats 800000 in
theorem at_size (w : World) (ht : Tab w) (s : ByteArray) (j k : Nat) (hj : j < s.size) (h0 : ∀ h, (s[j]'h).toNat = k) (hk : k < 256) (h : szI k = 0 ∨ (s.size : Int) - j < szI k) : Calls Tryd.prog 19 #[.string s, i64 j] w fun e w' => e = .returned (atV zI 0 4) ∧ Below w.heap.size w w' := by
  have HZ : Hid (∀ w, Tab w → Calls Tryd.prog 40 #[i64 k] w fun e w' => e = .returned (i64 (szI k)) ∧ w' = w) := fun w ht => size_ok w ht k
  have HT : Hid (Tab (w.alloc (.cells #[i64 0, i64 0, i64 0, i64 0] 27))) := ht.alloc _
  have hjI : (j : Int) < s.size := by omega
  have hb : 0 ≤ szI k ∧ szI k ≤ 4 := by unfold szI; have := sz_le (k : Int).toNat; split <;> omega
  clear ht
  generalize szI k = S at *
  rcases (show S = 0 ∨ (¬ S = 0 ∧ (s.size : Int) - j < S) by omega) with h | ⟨h, h2⟩
  · have hS : (S == 0) = true := by simpa using h
    clear h
    go_enter Tryd.func19, Tryd.ntmps19
    go_wp2_with (go_at_call 40; refine (HZ.out _ HT.out).mono ?_; rintro e w1 ⟨rfl, rfl⟩)
    exact bodyPost_ret (v := atV zI 0 4) (by simp [results, Tryd.results19, go_sem, zI]) rfl ⟨rfl, below_one w _⟩
  · have hS : (S == 0) = false := by simpa using h
    clear h
    go_enter Tryd.func19, Tryd.ntmps19
    go_wp2_with (go_at_call 40; refine (HZ.out _ HT.out).mono ?_; rintro e w1 ⟨rfl, rfl⟩)
    exact bodyPost_ret (v := atV zI 0 4) (by simp [results, Tryd.results19, go_sem, zI]) rfl ⟨rfl, below_one w _⟩

set_option maxHeartbeats 1600000 in
theorem at_read (w : World) (ht : Tab w) (s t : ByteArray) (j k n : Nat) (i : In) (hj : j + n ≤ s.size) (hn : 1 ≤ n) (hn4 : n ≤ 4) (hs : s.size ≤ maxLen) (h0 : ∀ h, (s[j]'h).toNat = k) (hk : k < 256) (hz : szI k = n) (e1 : s.extract j (j + n) = t)
    (hp : ∀ w, Tab w → Calls Tryd.prog 41 #[.string t] w fun e w' => e = .returned (inV i) ∧ Below w.heap.size w w') :
    Calls Tryd.prog 19 #[.string s, i64 j] w fun e w' => e = .returned (if isI i then atV i (j + n) 0 else atV zI 0 4) ∧ Below w.heap.size w w' := by
  unfold maxLen at hs
  have HZ : Hid (∀ w, Tab w → Calls Tryd.prog 40 #[i64 k] w fun e w' => e = .returned (i64 n) ∧ w' = w) := fun w ht => by rw [← hz]; exact size_ok w ht k
  have HI : Hid (∀ w, Tab w → Calls Tryd.prog 42 #[inV i] w fun e w' => e = .returned (.bool (isI i)) ∧ Below w.heap.size w w') := fun w ht => isInst_ok w ht i
  have HP : Hid (∀ w, Tab w → Calls Tryd.prog 41 #[.string t] w fun e w' => e = .returned (inV i) ∧ Below w.heap.size w w') := hp
  have HT : Hid (Tab (w.alloc (.cells #[i64 0, i64 0, i64 0, i64 0] 27))) := ht.alloc _
  have hjI : (j : Int) < s.size := by omega
  have hnI : (j : Int) + n ≤ s.size := by omega
  have hn0 : ((n : Int) == 0) = false := by simp; omega
  have hsl := fun w => sl_lh w s j n hj
  rw [e1] at hsl
  clear ht hp hz
  obtain ⟨op, a, b, c⟩ := i
  generalize isI ⟨op, a, b, c⟩ = B at *
  go_enter Tryd.func19, Tryd.ntmps19
  go_wp2_with (go_at_call 40; refine (HZ.out _ HT.out).mono ?_; rintro e w1 ⟨rfl, rfl⟩)
  refine (HP.out _ HT.out).mono ?_
  rintro e w2 ⟨rfl, hb2⟩
  have HB2 : Hid (Below w.heap.size w w2) := (below_one w _).trans (hb2.mono (by simp))
  have HBX2 : Hid (Below (w.heap.size + 1) (w.alloc (.cells #[i64 0, i64 0, i64 0, i64 0] 27)) w2) := hb2.mono (by simp)
  obtain ⟨q0, q1, q2, q3⟩ := four_at (w := w) (H := w.heap.size) rfl (i64 0) (i64 0) (i64 0) (i64 0) 27 w2 HBX2.out
  have hz2 : w.heap.size < w2.heap.size := by have := hb2.size; simp at this; omega
  have HT2 : Hid (Tab w2) := HT.out.below hb2
  clear hb2
  go_wp2_with fail
  refine (HI.out _ (HT2.out.alloc _)).mono ?_
  rintro e w3 ⟨rfl, hb3⟩
  have HBX3 : Hid (Below (w.heap.size + 1) (w.alloc (.cells #[i64 0, i64 0, i64 0, i64 0] 27)) w3) := (HBX2.out.alloc (by omega) _).trans (hb3.mono (by simp; omega))
  have HB3 : Hid (Below w.heap.size w w3) := (HB2.out.alloc (by omega) _).trans (hb3.mono (by simp; omega))
  obtain ⟨r0, r1, r2, r3⟩ := four_at (w := w) (H := w.heap.size) rfl (i64 0) (i64 0) (i64 0) (i64 0) 27 w3 HBX3.out
  obtain ⟨s0, s1, s2, s3⟩ := four_at (w := w2) (H := w2.heap.size) rfl (i64 op) (i64 a) (i64 b) (i64 c) 27 w3 (hb3.mono (by simp))
  have f0 := fz_at (w := w) (H := w.heap.size) rfl #[i64 0, i64 0, i64 0, i64 0] 27 w3 HBX3.out 0
  have f1 := fz_at (w := w) (H := w.heap.size) rfl #[i64 0, i64 0, i64 0, i64 0] 27 w3 HBX3.out 1
  have f2 := fz_at (w := w) (H := w.heap.size) rfl #[i64 0, i64 0, i64 0, i64 0] 27 w3 HBX3.out 2
  have f3 := fz_at (w := w) (H := w.heap.size) rfl #[i64 0, i64 0, i64 0, i64 0] 27 w3 HBX3.out 3
  have hz3 : w2.heap.size < w3.heap.size := by have := hb3.size; simp at this; omega
  clear hb3 q0 q1 q2 q3
  cases B
  · go_wp2_with fail
    exact bodyPost_ret (v := atV zI 0 4) (by simp [results, Tryd.results19, go_sem, zI, r0, r1, r2, r3]) rfl ⟨rfl, by repeat (first | exact HB3.out | refine Below.setCell ?_ (by simp) _)⟩
  · go_wp2_with fail
    exact bodyPost_ret (v := atV ⟨op, a, b, c⟩ (j + n) 0) (by simp [results, Tryd.results19, go_sem, r0, r1, r2, r3]) rfl ⟨rfl, by repeat (first | exact HB3.out | refine Below.setCell ?_ (by simp) _)⟩

theorem ba_take (l : List UInt8) (j n : Nat) : (⟨l.toArray⟩ : ByteArray).extract j (j + n) = ⟨((l.drop j).take n).toArray⟩ := by
  apply ByteArray.ext
  simp [ByteArray.data_extract]
theorem ba_get {l : List UInt8} {j : Nat} {c : UInt8} {r : List UInt8} (h : l.drop j = c :: r) : ∀ h', ((⟨l.toArray⟩ : ByteArray)[j]'h').toNat = c.toNat := by
  intro h'
  have hj : j < l.length := by rw [ba_size] at h'; exact h'
  have : l[j] = c := by
    have e := List.getElem_cons_drop hj
    rw [h] at e
    exact (List.cons.inj e).1
  rw [← this]
  rfl
theorem drop_cons {l : List UInt8} {j : Nat} (hj : j < l.length) : ∃ c r, l.drop j = c :: r := ⟨_, _, (List.getElem_cons_drop hj).symm⟩

theorem at_any (w : World) (ht : Tab w) (l : List UInt8) (hl : l.length ≤ maxLen) (p : Int) : Calls Tryd.prog 19 #[.string ⟨l.toArray⟩, i64 p] w fun e w' => e = .returned (atV (atI l p) (atN l p) (atE l p)) ∧ Below w.heap.size w w' := by
  unfold atI atN atE
  by_cases h : 0 ≤ p ∧ p < l.length
  · rw [if_pos h, if_pos h, if_pos h]
    obtain ⟨j, rfl⟩ := Int.eq_ofNat_of_zero_le h.1
    rw [Int.toNat_natCast]
    have hj : j < l.length := by omega
    obtain ⟨c, r, hdr⟩ := drop_cons hj
    have hlen : (c :: r).length = l.length - j := by rw [← hdr, List.length_drop]
    have hsz := sz_le c.toNat
    by_cases hc : c.toNat ≤ 20 ∧ sz c.toNat ≤ (c :: r).length
    · have hS : szI (c.toNat : Int) = (sz c.toNat : Nat) := by unfold szI; rw [if_pos (by omega), Int.toNat_natCast]
      obtain ⟨m, hm⟩ : ∃ m, sz c.toNat = m + 1 := ⟨sz c.toNat - 1, by omega⟩
      have et : (c :: r).take (sz c.toNat) = c :: r.take m := by rw [hm]; rfl
      have hr := at_read w ht ⟨l.toArray⟩ ⟨((l.drop j).take (sz c.toNat)).toArray⟩ j c.toNat (sz c.toNat) (parse ((c :: r).take (sz c.toNat))) (by rw [ba_size]; omega) hsz.1 hsz.2 (by rw [ba_size]; exact hl) (ba_get hdr) c.toNat_lt hS (ba_take l j _)
        (fun w ht => by
          rw [hdr, et]
          exact parse_ok w ht c _ hc.1 (by rw [← et, List.length_take]; omega))
      refine hr.mono ?_
      rintro e w' ⟨rfl, hb⟩
      refine ⟨?_, hb⟩
      by_cases hI : isI (parse ((c :: r).take (sz c.toNat))) = true
      · have hh : hd (l.drop j) = some (parse ((c :: r).take (sz c.toNat))) := by rw [hdr]; unfold hd; simp only; rw [if_pos ⟨hc.1, hc.2, hI⟩]
        have ho : (parse ((c :: r).take (sz c.toNat))).op = c.toNat := by rw [et, parse_op]
        rw [hh, if_pos hI]
        simp only [Option.getD_some, Option.isSome_some, if_true, ho, Int.toNat_natCast]
      · have hh : hd (l.drop j) = none := by rw [hdr]; unfold hd; simp only; rw [if_neg (fun x => hI x.2.2)]
        rw [hh, if_neg hI]
        rfl
    · have hh : hd (l.drop j) = none := by rw [hdr]; unfold hd; simp only; rw [if_neg (fun x => hc ⟨x.1, x.2.1⟩)]
      rw [hh]
      refine at_size w ht ⟨l.toArray⟩ j c.toNat (by rw [ba_size]; exact hj) (ba_get hdr) c.toNat_lt ?_
      rw [ba_size]
      unfold szI
      by_cases h20 : c.toNat ≤ 20
      · right
        rw [if_pos (by omega), Int.toNat_natCast]
        omega
      · left
        rw [if_neg (by omega)]
  · rw [if_neg h, if_neg h, if_neg h]
    exact at_arg w _ p (by rw [ba_size]; omega)
end Go.Proofs.YtobkehlkopkaeaaDoor
