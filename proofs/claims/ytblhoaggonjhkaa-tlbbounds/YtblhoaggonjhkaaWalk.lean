/- TlbSteps' walk: both buffers are alike step by step, by their keys and their counts; no statement is proved in this text. -/
import Derived.Test.YtblhoaggonjhkaaDoesGet
namespace Go.Proofs.Ytblhoaggonjhkaa
open Go.ChangeShapes Go.WideShapes Go.ChangeAt Go.RowKit Go.Deep

theorem two_start {w w0 : World} (hB0 : Buf w0 w.heap.size w.heap.size [] [] 0 0) : Two (w0.alloc (.cells #[.slice none 0 0, i64 0, i64 0] 29)) w.heap.size w.heap.size w0.heap.size [] 0 0 := by
  have hp := hB0.plt
  refine ⟨hB0.below ((Below.refl _ _).alloc (Nat.le_refl _) _), ⟨⟨_, heap_last w0 _, World.ownsRow_nil _ _ _ _⟩, by omega⟩, by simp, by simp; omega⟩
theorem nextH_le (s : St) (L : Ls) (h : Nat) : nextH s L h ≤ h + 1 := by unfold nextH; split <;> omega
theorem nextM_le (s : St) (L : Ls) (m : Nat) : nextM s L m ≤ m + 1 := by unfold nextM; split <;> omega
theorem keys_at {w : World} {ao : Option Addr} {L : Ls} (h : KSl w ao (keysOf L)) {i : Nat} (hi : i < L.length) : ∃ b, ao = some ⟨b, 0, none⟩ ∧ b < w.heap.size ∧ w.cell? ⟨b, i * 3, none⟩ = some (i64 (L[i]).1.env) ∧ w.cell? ⟨b, i * 3 + 1, none⟩ = some (i64 (L[i]).1.proc) ∧ w.cell? ⟨b, i * 3 + 2, none⟩ = some (i64 (L[i]).1.page) := by
  have := h.at (i := i) (by simpa [keysOf] using hi)
  simpa [keysOf] using this
theorem own_some {w : World} {base : Nat} {e : TypeId} {size : Nat} {ao : Option Addr} {n cap : Nat} {xs : List Value} (h : w.ownsRow base e size (.slice ao n cap) n xs) (hn : 0 < n) : ∃ g, ao = some ⟨g, 0, none⟩ := by
  rcases h.2 with ⟨_, h0⟩ | ⟨g, cap, cur, hv, _⟩
  · omega
  · cases hv
    exact ⟨g, rfl⟩

set_option maxRecDepth 100000 in
set_option maxHeartbeats 4000000 in
theorem steps_walk (w : World) (ao : Option Addr) (len cap : Nat) (f : Nat → St) (hst : SSl w ao len f) (hlen : len ≤ maxLen) :
    Calls Try.prog 3 #[.slice ao len cap] w fun e w' => e = .returned (.bool true) ∧ Below w.heap.size w w' := by
  unfold maxLen at hlen
  have HS : Hid (SSl w ao len f) := hst
  clear hst
  go_enter Try.func3, Try.ntmps3
  go_wp2_with fail
  refine (new_ok w).mono ?_
  rintro e w0 ⟨rfl, hb0, hB0⟩
  have hsz0 := hB0.plt
  have HB0 : Hid (Below w.heap.size w w0) := hb0
  have HT0 : Hid (Two (w0.alloc (.cells #[.slice none 0 0, i64 0, i64 0] 29)) w.heap.size w.heap.size w0.heap.size [] 0 0) := two_start hB0
  clear hb0 hB0
  by_cases hl : len ≤ 100
  · go_wp2_with fail
    go_loopw [28] (fun i wr => ∃ (k : Nat) (L : Ls) (h m : Nat), k ≤ len ∧ h ≤ k ∧ m ≤ k ∧ i = i64 k ∧ Below w.heap.size w wr ∧ Two wr w.heap.size w.heap.size w0.heap.size L h m) (fun i _ => len - (intOf i).toNat)
    case atStart => exact ⟨0, [], 0, 0, by omega, by omega, by omega, rfl, HB0.out.alloc (by omega) _, HT0.out⟩
    case round =>
      obtain ⟨k, L, h, m, hk, hhk, hmk, rfl, hb, ht⟩ := hrel
      by_cases hlt : k < len
      · obtain ⟨b, off, rfl, hbl, c0, c1, c2, c3, c4, c5⟩ := (HS.out.below hb).at hlt
        obtain ⟨s, hs⟩ : ∃ s, f k = s := ⟨_, rfl⟩
        rw [hs] at c0 c1 c2 c3 c4 c5
        clear hs
        have HB : Hid (Below w.heap.size w wr) := hb
        have HT : Hid (∀ o, Two (wr.alloc o) w.heap.size w.heap.size w0.heap.size L h m) := fun o => ht.below ((Below.refl _ _).alloc (Nat.le_refl _) o)
        clear hb ht
        go_wp2_with fail
        refine (does_any (HT.out _) s (by omega) (by omega)).mono ?_
        rintro e w1 ⟨rfl, hf, ht1⟩
        have HB1 : Hid (Below w.heap.size w w1) := (HB.out.alloc HB.out.size _).trans hf.below
        have hh1 := nextH_le s L h
        have hm1 := nextM_le s L m
        generalize nextL s L = L1 at *
        generalize nextH s L h = h1 at *
        generalize nextM s L m = m1 at *
        have HT1 : Hid (Two w1 w.heap.size w.heap.size w0.heap.size L1 h1 m1) := ht1
        have hl8 := ht1.l8
        have hkl : (keysOf L1).length = L1.length := by simp [keysOf]
        have hkk := keys_ok HT1.out.b (by omega)
        clear hf ht1
        go_wp2_with fail
        refine hkk.mono ?_
        rintro e w2 ⟨hb2, v, rfl, ho⟩
        rw [hkl] at ho
        obtain ⟨ao2, cap2, rfl, _⟩ := own_slice ho
        have HK : Hid (KSl w2 ao2 (keysOf L1)) := (own_keys ho).1
        have HB2 : Hid (Below w.heap.size w w2) := HB1.out.trans (hb2.mono HB1.out.size)
        have HT2 : Hid (Two w2 w.heap.size w.heap.size w0.heap.size L1 h1 m1) := HT1.out.below hb2
        obtain ⟨lv, hp2, hro⟩ := HT2.out.r.ex
        obtain ⟨ao3, cap3, rfl, _⟩ := own_slice hro
        obtain ⟨⟨r0, r1, r2⟩, _⟩ := three_cells hp2
        have HO : Hid (w2.ownsRow w.heap.size 42 5 (.slice ao3 L1.length cap3) L1.length (ocells L1)) := hro
        clear hkk hb2 ho hp2 hro hkl c0 c1 c2 c3 c4 c5
        obtain ⟨N, hN⟩ : ∃ N, L1.length = N := ⟨_, rfl⟩
        have HN : Hid (L1.length = N) := hN
        rw [hN] at r0 hl8 ⊢
        clear hN
        go_wp2_with fail
        refine (counts_ok HT2.out.b).mono ?_
        rintro e w3 ⟨rfl, nn, rfl⟩
        go_wp2_with fail
        go_loopw [70] (fun i wr' => ∃ (j n : Nat), j ≤ N ∧ i = i64 j ∧ wr' = w2.drewN n) (fun i _ => N - (intOf i).toNat)
        case atStart => exact ⟨0, nn, by omega, rfl, rfl⟩
        case round =>
          obtain ⟨j, n, hj, rfl, rfl⟩ := hrel
          by_cases hjN : j < N
          · obtain ⟨b2, rfl, hbl2, d0, d1, d2⟩ := keys_at HK.out (i := j) (by rw [HN.out]; exact hjN)
            obtain ⟨g, rfl⟩ := own_some HO.out (by rw [HN.out]; omega)
            obtain ⟨g0, g1, g2, _, _⟩ := own_one HO.out (i := j) (by rw [HN.out]; exact hjN)
            generalize L1[j]'(by rw [HN.out]; exact hjN) = q at d0 d1 d2 g0 g1 g2
            have hI : (j : Int) < N := by omega
            go_wp2_with fail
            go_quiet (fail)
            go_wp2_with fail
            exact ⟨⟨j + 1, _, by omega, by go_num, rfl⟩, by simp [intOf]; omega⟩
          · obtain rfl : j = N := by omega
            go_wp2_with fail
            exact ⟨⟨k + 1, L1, h1, m1, by omega, by omega, by omega, by go_num, below_drewN HB2.out _, HT2.out.below ⟨rfl, rfl, rfl, Nat.le_refl _, fun _ _ => rfl⟩⟩, by simp [intOf]; omega⟩
      · have HB : Hid (Below w.heap.size w wr) := hb
        clear hb ht
        go_wp2_with (go_at_call 8; refine (nine_ok _).mono ?_; rintro e w5 ⟨rfl, hb5⟩; have HB5 : Hid (Below w.heap.size w w5) := HB.out.trans (hb5.mono HB.out.size); clear hb5)
        go_ret
        exact ⟨rfl, HB5.out⟩
  · go_wp2_with (go_at_call 8; refine (nine_ok _).mono ?_; rintro e w5 ⟨rfl, hb5⟩; have HB5 : Hid (Below w.heap.size w w5) := HB0.out.trans (hb5.mono HB0.out.size); clear hb5)
    go_ret
    exact ⟨rfl, HB5.out⟩
end Go.Proofs.Ytblhoaggonjhkaa
