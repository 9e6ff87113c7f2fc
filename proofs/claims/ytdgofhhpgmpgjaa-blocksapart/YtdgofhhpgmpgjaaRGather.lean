/- imagoref03.Gather and imagolaw03.long: their contracts; no statement is proved in this text. -/
import Derived.Test.YtdgofhhpgmpgjaaRDisk
import Derived.Test.YtdgofhhpgmpgjaaArgs
namespace Go.Proofs.Ytdgofhhpgmpgjaa
open Go.ChangeShapes Go.WideShapes Go.ChangeAt Go.RowKit Go.Deep

theorem gaF_take {blk : Nat → List UInt8} {xs : List Int} {k : Nat} (hk : k < xs.length) : gaF blk (xs.take (k + 1)) = gaF blk (xs.take k) ++ blk xs[k].toNat := by
  rw [← List.take_append_getElem hk]
  simp only [gaF, List.flatMap_append, List.flatMap_cons, List.flatMap_nil, List.append_nil]
theorem str_app (a b : List UInt8) : (⟨a.toArray⟩ : ByteArray) ++ ⟨b.toArray⟩ = ⟨(a ++ b).toArray⟩ := by
  apply ByteArray.ext
  rw [ByteArray.data_append]
  simp
theorem str_take (a : List UInt8) (n : Nat) : (⟨a.toArray⟩ : ByteArray).extract 0 n = ⟨(a.take n).toArray⟩ := by
  apply ByteArray.ext
  rw [ByteArray.data_extract]
  apply Array.ext'
  simp [List.extract_eq_take_drop]

set_option maxRecDepth 100000 in
set_option maxHeartbeats 2000000 in
theorem rgather_ok {w : World} {p r n cp m : Nat} {blk : Nat → List UInt8} (h : RDsk w p r n cp m blk) (ao : Option Addr) (cap : Nat) (xs : List Int) (hI : ISl w ao xs) (hlen : xs.length ≤ 100) (size : Int) (hsz : -1000 ≤ size ∧ size ≤ 1000) :
    Calls Try.prog 25 #[.pointer (some ⟨p, 0, none⟩), .slice ao xs.length cap, i64 size] w fun e w' => e = .returned (.tuple #[.string ⟨(gaS blk xs size n).toArray⟩, i64 (gaE xs size n)]) ∧ w' = w := by
  have HI : Hid (ISl w ao xs) := hI
  have HD : Hid (RDsk w p r n cp m blk) := h
  clear hI h
  have hN : ∃ N, xs.length = N := ⟨_, rfl⟩
  obtain ⟨N, hN⟩ := hN
  rw [hN] at hlen ⊢
  have HN : Hid (xs.length = N) := hN
  clear hN
  go_enter Try.func25, Try.ntmps25
  go_wp2_with fail
  go_loopw [8, 15] (fun u i wr => ∃ (k : Nat), k ≤ N ∧ i = i64 k ∧ w = wr ∧ u = .string ⟨(gaF blk (xs.take k)).toArray⟩ ∧ Hid (allB (xs.take k) n)) (fun _ i _ => N - (intOf i).toNat)
  case atStart => exact ⟨0, by omega, rfl, rfl, by simp [gaF], fun x hx => by simp at hx⟩
  case round =>
    obtain ⟨k, hk, rfl, hwr, rfl, HK⟩ := hrel
    subst hwr
    by_cases hlt : k < N
    · have hkl : k < xs.length := by rw [HN.out]; exact hlt
      obtain ⟨b, off, rfl, hbl, c0⟩ := HI.out.at hkl
      have hE : ∃ x, xs[k] = x := ⟨_, rfl⟩
      obtain ⟨x, hE⟩ := hE
      rw [hE] at c0
      have HE : Hid (xs[k] = x) := hE
      clear hE
      by_cases hx : inB x n = true
      · have hl := gaF_len blk n HD.out.len (xs.take k) HK.out
        have e1 : rdE x n = 0 := if_pos hx
        have e2 : rdS blk x n = blk x.toNat := if_pos hx
        have h8 : (blk x.toNat).length = 8 := by
          obtain ⟨j, rfl, hj⟩ := inB_nat hx
          exact HD.out.len j hj
        have hlk : (xs.take k).length = k := by rw [List.length_take]; omega
        rw [hlk] at hl
        have happ := str_app (gaF blk (xs.take k)) (blk x.toNat)
        have hnx := gaF_take (blk := blk) hkl
        rw [HE.out] at hnx
        rw [← hnx] at happ
        have hadd := run_string_add_sum (P := Try.prog)
        have hs1 : (⟨(gaF blk (xs.take k)).toArray⟩ : ByteArray).size = 8 * k := by show (gaF blk (xs.take k)).toArray.size = _; simpa using hl
        have hs2 : (⟨(blk x.toNat).toArray⟩ : ByteArray).size = 8 := by show (blk x.toNat).toArray.size = _; simpa using h8
        have HAPP : Hid ((⟨(gaF blk (xs.take k)).toArray⟩ : ByteArray) ++ ⟨(blk x.toNat).toArray⟩ = ⟨(gaF blk (xs.take (k + 1))).toArray⟩) := happ
        clear happ hnx hl h8 hadd
        generalize (⟨(gaF blk (xs.take k)).toArray⟩ : ByteArray) = S1 at *
        go_wp2_with fail
        refine (rread_dsk HD.out x).mono ?_
        rintro e w' ⟨he, rfl⟩
        rw [e1, e2] at he
        generalize (⟨(blk x.toNat).toArray⟩ : ByteArray) = S2 at *
        subst he
        have hsum : S1.size + S2.size ≤ 9223372036854775807 := by omega
        go_wp2_with fail
        exact ⟨⟨k + 1, by omega, by go_num, by first | rfl | trivial, by rw [HAPP.out], by
          intro y hy
          rw [← List.take_append_getElem hkl] at hy
          rcases List.mem_append.1 hy with hy | hy
          · exact HK.out y hy
          · simp at hy; subst hy; rw [HE.out]; exact hx⟩, by simp [intOf]; omega⟩
      · have hno : ¬ allB xs n := fun h => hx (by rw [← HE.out]; exact h _ (List.getElem_mem hkl))
        have hE1 : gaE xs size n = 6 := if_neg hno
        have hS1 : gaS blk xs size n = [] := if_neg (fun h => hno h.1)
        have e1 : rdE x n = 6 := if_neg hx
        have e2 : rdS blk x n = [] := if_neg hx
        generalize (⟨(gaF blk (xs.take k)).toArray⟩ : ByteArray) = S1 at *
        go_wp2_with fail
        refine (rread_dsk HD.out x).mono ?_
        rintro e w' ⟨he, rfl⟩
        rw [e1, e2] at he
        subst he
        go_wp2_with fail
        go_ret2
        exact ⟨by first | rfl | (rw [hE1, hS1]; rfl), rfl⟩
    · obtain rfl : k = N := by omega
      have hT : xs.take k = xs := by rw [← HN.out]; simp
      rw [hT] at HK ⊢
      have hl := gaF_len blk n HD.out.len xs HK.out
      rw [HN.out] at hl
      have hs1 : (⟨(gaF blk xs).toArray⟩ : ByteArray).size = 8 * k := by show (gaF blk xs).toArray.size = _; simpa using hl
      by_cases hs0 : size < 0
      · have hE1 : gaE xs size n = 1 := by unfold gaE; rw [if_pos HK.out, if_neg (by omega)]
        have hS1 : gaS blk xs size n = [] := by unfold gaS; rw [if_neg (by omega)]
        generalize (⟨(gaF blk xs).toArray⟩ : ByteArray) = S1 at *
        clear hl hT
        go_wp2_with fail
        go_ret2
        exact ⟨by first | rfl | (rw [hE1, hS1]; rfl), rfl⟩
      · by_cases hs2 : size ≤ 8 * (k : Int)
        · obtain ⟨S, rfl⟩ : ∃ S : Nat, size = S := ⟨size.toNat, by omega⟩
          have hE1 : gaE xs S n = 0 := by unfold gaE; rw [if_pos HK.out, if_pos (by rw [HN.out]; omega)]
          have hS1 : gaS blk xs S n = (gaF blk xs).take S := by
            unfold gaS; rw [if_pos ⟨HK.out, by rw [HN.out]; omega⟩]; rfl
          have hext := str_take (gaF blk xs) S
          rw [← hS1] at hext
          have HX : Hid ((⟨(gaF blk xs).toArray⟩ : ByteArray).extract 0 S = ⟨(gaS blk xs S n).toArray⟩) := hext
          clear hl hT hext hS1
          generalize (⟨(gaF blk xs).toArray⟩ : ByteArray) = S1 at *
          go_wp2_with fail
          go_ret2
          exact ⟨by first | (rw [← HX.out]; rfl) | (rw [hE1, ← HX.out]; rfl), rfl⟩
        · have hE1 : gaE xs size n = 1 := by unfold gaE; rw [if_pos HK.out, if_neg (by rw [HN.out]; omega)]
          have hS1 : gaS blk xs size n = [] := by unfold gaS; rw [if_neg (by rw [HN.out]; omega)]
          generalize (⟨(gaF blk xs).toArray⟩ : ByteArray) = S1 at *
          clear hl hT
          go_wp2_with fail
          go_ret2
          exact ⟨by first | rfl | (rw [hE1, hS1]; rfl), rfl⟩

/-- It answers a bool. -/
def IsBool (e : Ending) : Prop := ∃ t, e = .returned (.bool t)
set_option maxRecDepth 100000 in
set_option maxHeartbeats 800000 in
theorem long_any (w : World) (ao : Option Addr) (len cap : Nat) (f : Nat → Wr) (h : WSl w ao len f) (hlen : len ≤ maxLen) :
    Calls Try.prog 17 #[.slice ao len cap] w fun e w' => (e = .returned (.bool true) ∨ (e = .returned (.bool false) ∧ len ≤ 61 ∧ ∀ i, i < len → (f i).s.size ≤ 100)) ∧ Below w.heap.size w w' := by
  unfold maxLen at hlen
  have H : Hid (WSl w ao len f) := h
  clear h
  go_enter Try.func17, Try.ntmps17
  go_wp2_with fail
  go_loopw [7] (fun i wr => ∃ k : Nat, k ≤ len ∧ k ≤ 61 ∧ i = .int .i64 k ∧ Below w.heap.size w wr ∧ Hid (∀ i, i < k → (f i).s.size ≤ 100)) (fun i _ => len - (intOf i).toNat)
  case atStart => exact ⟨0, by omega, by omega, rfl, Below.refl _ _, fun i hi => absurd hi (by omega)⟩
  case round =>
    obtain ⟨k, hk, hk61, rfl, hb, HK⟩ := hrel
    by_cases hlt : k < len
    · obtain ⟨b, off, rfl, hbl, c0, c1⟩ := (H.out.below hb).at hlt
      have HB : Hid (Below w.heap.size w wr) := hb
      clear hb
      by_cases h61 : k = 61
      · have hI : (60 : Int) < (k : Int) := by omega
        clear h61
        go_wp2_with fail
        go_ret
        exact ⟨Or.inl rfl, HB.out.alloc HB.out.size _⟩
      · by_cases hs : (f k).s.size ≤ 100
        · go_wp2_with fail
          exact ⟨⟨k + 1, by omega, by omega, by go_num, HB.out.alloc HB.out.size _, fun i hi => by
            by_cases hik : i = k
            · subst hik; exact hs
            · exact HK.out i (by omega)⟩, by simp [intOf]; omega⟩
        · go_wp2_with fail
          go_ret
          exact ⟨Or.inl rfl, HB.out.alloc HB.out.size _⟩
    · have HB : Hid (Below w.heap.size w wr) := hb
      obtain rfl : k = len := by omega
      clear hb
      go_wp2_with fail
      go_ret
      exact ⟨Or.inr ⟨rfl, hk61, HK.out⟩, HB.out⟩
end Go.Proofs.Ytdgofhhpgmpgjaa
