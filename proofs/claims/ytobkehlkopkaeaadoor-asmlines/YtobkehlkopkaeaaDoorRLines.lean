/- The document's Line and Lines: their contracts; no statement is proved in this text. -/
import Derived.Test.YtobkehlkopkaeaaDoorRLine
import Derived.Test.YtobkehlkopkaeaaDoorRAll
namespace Go.Proofs.YtobkehlkopkaeaaDoor
open Go.ChangeShapes Go.WideShapes Go.ChangeAt Go.RowKit
set_option maxRecDepth 100000

def txF (nm da db dn : Bs) (R : Nat) : Nat → Bs
  | 0 => nm
  | 1 => if 0 < R then (nm ++ [32, 114]) ++ da else (nm ++ [32]) ++ dn
  | _ => if 1 < R then ((if 0 < R then (nm ++ [32, 114]) ++ da else (nm ++ [32]) ++ dn) ++ [32, 114]) ++ db else ((if 0 < R then (nm ++ [32, 114]) ++ da else (nm ++ [32]) ++ dn) ++ [32]) ++ dn
theorem shp_all : ∀ k : Nat, k < 21 → (shpF k).length = rg k + fNums k ∧ ∀ j, j < 2 → (j < (shpF k).length → (j < rg k → ((shpF k).getD j 0).toNat = 114) ∧ (rg k ≤ j → ((shpF k).getD j 0).toNat ≠ 114)) := by decide +kernel
theorem rline_any (w : World) (i : In) : Calls Tryd.prog 14 #[inV i] w fun e w' => e = .returned (.tuple #[str (if isI i = true then lineF i else []), i64 (btE i)]) ∧ Below w.heap.size w w' := by
  unfold btE
  by_cases h : isI i = true
  · rw [if_pos h, if_pos h]
    obtain ⟨h1, h2, h3, h4, h5, h6, h7⟩ := isI_out h
    obtain ⟨op, a, b, n⟩ := i
    simp only at *
    obtain ⟨k, rfl⟩ := Int.eq_ofNat_of_zero_le h1.1
    obtain ⟨a, rfl⟩ := Int.eq_ofNat_of_zero_le h2.1
    obtain ⟨b, rfl⟩ := Int.eq_ofNat_of_zero_le h3.1
    obtain ⟨n, rfl⟩ := Int.eq_ofNat_of_zero_le h4
    have hk : k < 21 := by omega
    simp only [Int.toNat_natCast] at *
    have hn : n ≤ 65535 := by
      rcases cls k hk with ⟨c1, c2⟩ | ⟨c1, c2⟩ | ⟨c1, c2⟩ | ⟨c1, c2⟩ | ⟨c1, c2⟩ <;> rw [c2] at h7 <;> omega
    obtain ⟨hlen, hlet⟩ := shp_all k hk
    have hcls : (rg k = 0 ∧ fNums k = 0) ∨ (rg k = 1 ∧ fNums k = 1) ∨ (rg k = 2 ∧ fNums k = 0) ∨ (rg k = 0 ∧ fNums k = 1) := by
      unfold fNums
      rcases cls k hk with ⟨c1, c2⟩ | ⟨c1, c2⟩ | ⟨c1, c2⟩ | ⟨c1, c2⟩ | ⟨c1, c2⟩ <;> rw [c1, c2] <;> simp
    have hL : rg k + fNums k ≤ 2 := by omega
    have hdl : ∀ m : Nat, m ≤ 65535 → (Lib.decDigits m).length ≤ 20 := fun m hm => by rw [Lib.decDigits_length]; exact Lib.nDigits_le20 m (by omega)
    have hla := hdl a (by omega)
    have hlb := hdl b (by omega)
    have hln := hdl n hn
    have hnm := nm_le k hk
    have hget : ∀ j (hj : j < (shpF k).length) h, ((⟨(shpF k).toArray⟩ : ByteArray)[j]'h).toNat = ((shpF k).getD j 0).toNat := fun j hj h => by
      rw [bnth (shpF k) j hj h]
      simp [List.getD, List.getElem?_eq_getElem hj]
    have hgo := rline_go w k a b n hk (by omega) (by omega) hn h ⟨(shpF k).toArray⟩ (rg k) (rg k + fNums k) hL (by rw [bz, hlen]) rfl
      (fun j hR hj hh => by rw [hget j (by omega) hh]; exact (hlet j (by omega) (by omega)).1 hR)
      (fun j hR hj hh => ⟨_, hget j (by omega) hh, by have := (hlet j (by omega) (by omega)).2 hR; exact bne_iff_ne.2 (fun e => this (by omega))⟩)
      (txF (nmOf k) (Lib.decDigits a) (Lib.decDigits b) (Lib.decDigits n) (rg k)) rfl
      (fun j => by
        rcases j with _ | _ | j
        · simp only [txF]; omega
        · simp only [txF]; split <;> simp <;> omega
        · simp only [txF]; split <;> split <;> simp <;> omega)
      (fun hR => by simp only [txF]; rw [if_pos hR])
      (fun hR => by simp only [txF]; rw [if_pos hR])
      (fun j hR hj => by
        rcases (show j = 0 ∨ j = 1 by omega) with rfl | rfl
        · simp only [txF]; rw [if_neg (by omega)]
        · simp only [txF]; rw [if_neg (by omega)])
    have e : txF (nmOf k) (Lib.decDigits a) (Lib.decDigits b) (Lib.decDigits n) (rg k) (rg k + fNums k) = lineF ⟨k, a, b, n⟩ := by
      unfold lineF
      simp only [Int.toNat_natCast, Lib.itoa_nonneg]
      rcases hcls with ⟨c1, c2⟩ | ⟨c1, c2⟩ | ⟨c1, c2⟩ | ⟨c1, c2⟩ <;> rw [c1, c2] <;> simp [txF]
    rw [e] at hgo
    exact hgo
  · rw [if_neg h, if_neg h]
    exact rline_no w i (by simpa using h)

set_option maxHeartbeats 1600000 in
theorem rlines_ok (w : World) (l : Bs) : Calls Tryd.prog 12 #[str l] w fun e w' => ∃ v, e = .returned (.tuple #[v, i64 (alE l)]) ∧ w'.ownsRow w.heap.size 9 1 v (alL l).length (((alL l).map lineF).map str) ∧ Below w.heap.size w w' := by
  have HA : Hid (Calls Tryd.prog 34 #[str l] w fun e w' => ∃ v, e = .returned (.tuple #[v, i64 (alE l)]) ∧ w'.ownsRow w.heap.size 37 4 v (alL l).length (icells (alL l)) ∧ Below w.heap.size w w') := rall_any w l
  have HIS : Hid (∀ i ∈ alL l, isI i = true) := alL_is l
  have HNE : Hid (alE l ≠ 0 → alL l = []) := alE_ne l
  obtain ⟨NX, hNX⟩ : ∃ NX, (alL l).length = NX := ⟨_, rfl⟩
  have HNX : Hid ((alL l).length = NX) := hNX
  have hN256 : NX ≤ 256 := by rw [← hNX]; exact alL_len l
  rw [hNX] at HA ⊢
  clear hNX
  generalize alL l = xs at *
  generalize alE l = E at *
  by_cases hE : E = 0
  · subst hE
    go_enter Tryd.func12, Tryd.ntmps12
    go_wp2_with fail
    refine HA.out.mono ?_
    rintro e w1 ⟨v, rfl, ho, hb⟩
    obtain ⟨ao, cap, rfl, hs, _⟩ := own_isl ho
    have HS : Hid (ISl w1 ao xs) := hs
    have HB1 : Hid (Below w.heap.size w w1) := hb
    have hz1 := hb.size
    clear ho hb hs
    go_wp2_with fail
    go_loopw [6, 21] (fun v i wr => ∃ k : Nat, i = i64 k ∧ k ≤ NX ∧ wr.ownsRow w1.heap.size 9 1 v k (((xs.take k).map lineF).map str) ∧ Below w1.heap.size w1 wr) (fun _ i _ => NX - (intOf i).toNat)
    case atStart => exact ⟨0, rfl, by omega, World.ownsRow_nil _ _ _ _, Below.refl _ _⟩
    case round =>
      obtain ⟨k, rfl, hk, ho, hb⟩ := hrel
      have HO : Hid (wr.ownsRow w1.heap.size 9 1 u6 k (((xs.take k).map lineF).map str)) := ho
      have HB : Hid (Below w1.heap.size w1 wr) := hb
      have hz := hb.size
      by_cases hkN : k < NX
      · have hkx : k < xs.length := by rw [HNX.out]; exact hkN
        obtain ⟨b, off, rfl, hbl, c0, c1, c2, c3⟩ := (HS.out.below hb).at hkx
        have hI := HIS.out _ (List.getElem_mem hkx)
        have HL : Hid (∀ w, Calls Tryd.prog 14 #[inV xs[k]] w fun e w' => e = .returned (.tuple #[str (lineF xs[k]), i64 0]) ∧ Below w.heap.size w w') := fun w => by
          have := rline_any w xs[k]
          unfold btE at this
          rw [if_pos hI, if_pos hI] at this
          exact this
        have HT : Hid (((xs.take (k + 1)).map lineF).map str = ((xs.take k).map lineF).map str ++ [str (lineF xs[k])]) := (by rw [← List.take_append_getElem hkx, List.map_append, List.map_append]; rfl : ((xs.take (k + 1)).map lineF).map str = ((xs.take k).map lineF).map str ++ [str (lineF xs[k])])
        clear ho hb hI
        generalize lineF xs[k] = LN at *
        generalize xs[k] = q at *
        obtain ⟨op, a, b2, n⟩ := q
        go_wp2_with (first
          | (go_at_call 14; refine (HL.out _).mono ?_; rintro e w2 ⟨rfl, hb2⟩; have HB2 : Hid (Below w1.heap.size w1 w2) := (HB.out.alloc hz _).trans (hb2.mono (by simp <;> omega)); have HO2 : Hid (w2.ownsRow w1.heap.size 9 1 u6 k (((xs.take k).map lineF).map str)) := own_below (HO.out.alloc _) hb2; have hz2 := HB2.out.size; clear hb2)
          | (at_builtin; refine app28 rfl (.tmp 30) (.tmp 32) rfl w1.heap.size _ k _ rfl (HO2.out.alloc _) _ _ _ rfl (one_at9 rfl _) (by omega) (by simp <;> omega) ?_; intro v4 w4 ho4 hb4; have HO4 : Hid (w4.ownsRow w1.heap.size 9 1 v4 (k + 1) (((xs.take k).map lineF).map str ++ [str LN])) := ho4; have HB4 : Hid (Below w1.heap.size w1 w4) := (HB2.out.alloc hz2 _).trans hb4; clear ho4 hb4))
        exact ⟨⟨k + 1, by go_num, by omega, by rw [HT.out]; exact HO4.out, HB4.out⟩, by simp [intOf]; omega⟩
      · obtain rfl : k = NX := by omega
        have HT : Hid (xs.take k = xs) := List.take_of_length_le (by rw [HNX.out]; exact Nat.le_refl _)
        clear ho hb
        go_wp2_with fail
        go_ret2
        exact ⟨_, rfl, by rw [← HT.out]; exact own_mono HO.out hz1, HB1.out.trans (HB.out.mono hz1)⟩
  · have HX : Hid (xs = []) := HNE.out hE
    have hEb : (E != 0) = true := by simpa using hE
    clear hE
    go_enter Tryd.func12, Tryd.ntmps12
    go_wp2_with fail
    refine HA.out.mono ?_
    rintro e w1 ⟨v, rfl, ho, hb⟩
    have HB1 : Hid (Below w.heap.size w w1) := hb
    clear ho hb
    go_wp2_with fail
    go_ret2
    exact ⟨_, rfl, by rw [← HNX.out, HX.out]; exact World.ownsRow_nil _ _ _ _, HB1.out⟩
end Go.Proofs.YtobkehlkopkaeaaDoor
