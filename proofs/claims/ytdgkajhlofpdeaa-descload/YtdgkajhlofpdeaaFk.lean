/- Fork, Drop, Load; no statement is proved in this text. -/
import Derived.Test.YtdgkajhlofpdeaaOp
namespace Go.Proofs.Ytdgkajhlofpdeaa
open Go.ChangeShapes Go.WideShapes Go.ChangeAt Go.RowKit Go.Deep
attribute [local go_sem ↓] Go.wp_at_zero Go.wp_at_succ


def forkL (c : Int) (l : List En) (S : St) : St := l.foldl (fun S e => upd S (c, e.1.2) (some e.2)) S
def forkE (S : St) (p c : Int) : Int := if isP p = true ∧ isP c = true ∧ p ≠ c then (if (ofL S c).length = 0 then 0 else 7) else 1
def forkS (S : St) (p c : Int) : St := if forkE S p c = 0 then forkL c (ofL S p) S else S
theorem forkL_last (c : Int) {L : List En} {k : Nat} {e : En} (h : L[k]? = some e) (S : St) : forkL c (L.take (k + 1)) S = upd (forkL c (L.take k) S) (c, e.1.2) (some e.2) := by
  unfold forkL
  rw [take_last h, List.foldl_append]
  rfl
def drpL (l : List En) (S : St) : St := l.foldl (fun S e => clsS S e.1) S
def drpS (S : St) (p : Int) : St := drpL (ofL S p) S
theorem drpL_last {L : List En} {k : Nat} {e : En} (h : L[k]? = some e) (S : St) : drpL (L.take (k + 1)) S = clsS (drpL (L.take k) S) e.1 := by
  unfold drpL
  rw [take_last h, List.foldl_append]
  rfl
theorem Tv.tb {w : World} {base P : Nat} {S : St} (h : Tv w base (pq P) S) : Tb w base P S := by
  rcases h with ⟨h, _⟩ | ⟨Q, h, hb⟩
  · cases h
  · cases h; exact hb
theorem own_fr {w w' : World} {base base' n cap : Nat} {ao : Option Addr} {xs : List Value} (h : w.ownsRow base 38 5 (.slice ao n cap) n xs) (hf : Fr base' [61, 59] w w') : w'.ownsRow base 38 5 (.slice ao n cap) n xs := own_keep h fun k _ hk => hf.kept k _ hk rfl
set_option maxRecDepth 100000 in
set_option maxHeartbeats 1600000 in
theorem fork_ok (w : World) (base P : Nat) (S : St) (p c : Int) (h : Tb w base P S) : Calls Try.prog 21 #[pq P, i64 p, i64 c] w fun e w' => e = .returned (i64 (forkE S p c)) ∧ Tb w' base P (forkS S p c) ∧ Fr base [61, 59] w w' := by
  have HH := hid h
  have hlo := h.lo
  have hlt := h.lt
  have HP := hid (isProc_ok w p)
  have HQ := hid (isProc_ok w c)
  unfold forkS
  cases hp : isP p
  · have hE : forkE S p c = 1 := by unfold forkE; rw [if_neg (by rw [hp]; simp)]
    rw [hE, if_neg (by decide)]
    rw [hp] at HP
    clear h hp hE
    go_enter Try.func21, Try.ntmps21
    go_wp2_with fail
    refine HP.out.mono ?_
    rintro e w1 ⟨rfl, hw⟩
    replace hw := hw.symm
    subst hw
    go_wp2_with fail
    go_ret
    exact ⟨rfl, HH.out, Fr.refl _ _ _⟩
  cases hc : isP c
  · have hE : forkE S p c = 1 := by unfold forkE; rw [if_neg (by rw [hc]; simp)]
    rw [hE, if_neg (by decide)]
    rw [hp] at HP
    rw [hc] at HQ
    clear h hp hc hE
    go_enter Try.func21, Try.ntmps21
    go_wp2_with fail
    refine HP.out.mono ?_
    rintro e w1 ⟨rfl, hw⟩
    replace hw := hw.symm
    subst hw
    go_wp2_with fail
    refine HQ.out.mono ?_
    rintro e w1 ⟨rfl, hw⟩
    replace hw := hw.symm
    subst hw
    go_wp2_with fail
    go_ret
    exact ⟨rfl, HH.out, Fr.refl _ _ _⟩
  by_cases hpc : p = c
  · have hE : forkE S p c = 1 := by unfold forkE; rw [if_neg (fun h => h.2.2 hpc)]
    rw [hE, if_neg (by decide)]
    rw [hp] at HP
    rw [hc] at HQ
    have q : (p == c) = true := beq_iff_eq.2 hpc
    clear h hp hc hE hpc
    go_enter Try.func21, Try.ntmps21
    go_wp2_with fail
    refine HP.out.mono ?_
    rintro e w1 ⟨rfl, hw⟩
    replace hw := hw.symm
    subst hw
    go_wp2_with fail
    refine HQ.out.mono ?_
    rintro e w1 ⟨rfl, hw⟩
    replace hw := hw.symm
    subst hw
    go_wp2_with fail
    go_ret
    exact ⟨rfl, HH.out, Fr.refl _ _ _⟩
  have q : (p == c) = false := beq_false_of_ne hpc
  have HO := hid (of_ok w base (pq P) S c h.tv)
  rw [hp] at HP
  rw [hc] at HQ
  obtain ⟨m, hm⟩ : ∃ m, m = (ofL S c).length := ⟨_, rfl⟩
  have hm6 : m ≤ 6 := by rw [hm]; exact ofK_len S c 6
  rw [← hm] at HO
  by_cases hm0 : m = 0
  rotate_left
  · have hE : forkE S p c = 7 := by unfold forkE; rw [if_pos ⟨hp, hc, hpc⟩, ← hm, if_neg hm0]
    rw [hE, if_neg (by decide)]
    have hmI : (0 : Int) < m := by omega
    clear h hp hc hE hpc hm hm0
    go_enter Try.func21, Try.ntmps21
    go_wp2_with fail
    refine HP.out.mono ?_
    rintro e w1 ⟨rfl, hw⟩
    replace hw := hw.symm
    subst hw
    go_wp2_with fail
    refine HQ.out.mono ?_
    rintro e w1 ⟨rfl, hw⟩
    replace hw := hw.symm
    subst hw
    go_wp2_with fail
    refine HO.out.mono ?_
    rintro e w1 ⟨ao, cap, rfl, _, hb1⟩
    have HB1 := hid hb1
    clear hb1
    go_wp2_with fail
    go_ret
    exact ⟨rfl, HH.out.below HB1.out, Fr.of_below _ HB1.out (by omega)⟩
  · have hE : forkE S p c = 0 := by unfold forkE; rw [if_pos ⟨hp, hc, hpc⟩, ← hm, if_pos hm0]
    rw [hE, if_pos rfl]
    subst hm0
    have HO2 := hid (fun W hb => of_ok W base (pq P) S p (h.below (w' := W) hb).tv)
    obtain ⟨L, hL⟩ : ∃ L, L = ofL S p := ⟨_, rfl⟩
    obtain ⟨N, hN⟩ : ∃ N, N = L.length := ⟨_, rfl⟩
    have hN6 : N ≤ 6 := by rw [hN, hL]; exact ofK_len S p 6
    rw [← hL] at HO2 ⊢
    rw [← hN] at HO2
    have HN := hid hN
    clear h hp hc hE hpc hm hL hN
    go_enter Try.func21, Try.ntmps21
    go_wp2_with fail
    refine HP.out.mono ?_
    rintro e w1 ⟨rfl, hw⟩
    replace hw := hw.symm
    subst hw
    go_wp2_with fail
    refine HQ.out.mono ?_
    rintro e w1 ⟨rfl, hw⟩
    replace hw := hw.symm
    subst hw
    go_wp2_with fail
    refine HO.out.mono ?_
    rintro e w1 ⟨ao1, cap1, rfl, _, hb1⟩
    have HC := hid (HO2.out w1 hb1)
    have HB1 := hid hb1
    clear hb1
    go_wp2_with fail
    refine HC.out.mono ?_
    rintro e w2 ⟨ao, cap, rfl, hown, hb2⟩
    have HW2 : Hid (w2.ownsRow w.heap.size 38 5 (.slice ao N cap) N (ecn L)) := own_low hown HB1.out.size
    have hcap : N ≤ cap := by
      by_cases h0 : 0 < N
      · obtain ⟨g, _, _, cur, _, hc⟩ := own_zero hown h0
        exact hc
      · omega
    have HB2 : Hid (Below w.heap.size w w2) := HB1.out.trans (hb2.mono HB1.out.size)
    clear hb2 hown HC
    go_wp2_with fail
    go_loopw [35] (fun i wr => ∃ (k : Nat), k ≤ N ∧ i = i64 k ∧ Hid (Tb wr base P (forkL c (L.take k) S)) ∧ Hid (Fr base [61, 59] w wr) ∧ Hid (wr.ownsRow w.heap.size 38 5 (.slice ao N cap) N (ecn L))) (fun i _ => N - (intOf i).toNat)
    case atStart => exact ⟨0, by omega, rfl, HH.out.below HB2.out, Fr.of_below _ HB2.out (by omega), HW2⟩
    case round =>
      obtain ⟨k, hk, rfl, HT, HF, HO3⟩ := hrel
      by_cases hltN : k < N
      · have hkI : (k : Int) < N := by omega
        obtain ⟨e, he⟩ : ∃ e, L[k]? = some e := ⟨_, List.getElem?_eq_getElem (by rw [← HN.out]; exact hltN)⟩
        have hrd : Rd5 wr ao L := Rd5.own (by rw [← HN.out]; exact HO3.out)
        obtain ⟨g, o, rfl, hgl, c0, c1, c2, c3, c4⟩ := hrd k e he
        have HTV : Hid (Tb (wr.alloc (enO c e.1.2 e.2.1 e.2.2.1 e.2.2.2 38)) base P (forkL c (L.take k) S)) := HT.out.below (below_one wr _)
        have hwr := HF.out.size
        have HFV : Hid (Fr base [61, 59] w (wr.alloc (enO c e.1.2 e.2.1 e.2.2.1 e.2.2.2 38))) := HF.out.alloc (by omega) _
        have HOV : Hid ((wr.alloc (enO c e.1.2 e.2.1 e.2.2.1 e.2.2.2 38)).ownsRow w.heap.size 38 5 (.slice (some ⟨g, o, none⟩) N cap) N (ecn L)) := HO3.out.alloc _
        have HPut := hid (put_ok (wr.alloc (enO c e.1.2 e.2.1 e.2.2.1 e.2.2.2 38)) base P _ c e.1.2 e.2.1 e.2.2.1 e.2.2.2 HTV.out)
        have HS : Hid (forkL c (L.take (k + 1)) S = upd (forkL c (L.take k) S) (c, e.1.2) (some e.2)) := forkL_last c he S
        clear hrd he
        go_wp2_with fail
        refine HPut.out.mono ?_
        rintro e' w3 ⟨rfl, ht3, hf3⟩
        have HT3 : Hid (Tb w3 base P (forkL c (L.take (k + 1)) S)) := by rw [HS.out]; exact ht3
        have HF3 : Hid (Fr base [61, 59] w w3) := HFV.out.trans hf3
        have HO4 : Hid (w3.ownsRow w.heap.size 38 5 (.slice (some ⟨g, o, none⟩) N cap) N (ecn L)) := own_fr HOV.out hf3
        clear ht3 hf3
        go_wp2_with fail
        exact ⟨⟨k + 1, by omega, by go_num, HT3, HF3, HO4⟩, by simp [intOf]; omega⟩
      · have HE : Hid (Tb wr base P (forkL c L S)) := by have := HT.out; rw [List.take_of_length_le (by rw [← HN.out]; omega)] at this; exact this
        go_wp2_with fail
        go_ret
        exact ⟨rfl, HE.out, HF.out⟩
set_option maxRecDepth 100000 in
set_option maxHeartbeats 1600000 in
theorem drop_ok (w : World) (base P : Nat) (S : St) (p : Int) (h : Tb w base P S) : Calls Try.prog 28 #[pq P, i64 p] w fun e w' => e = .returned (i64 (ofL S p).length) ∧ Tb w' base P (drpS S p) ∧ Fr base [61, 59] w w' := by
  have HH := hid h
  have hlo := h.lo
  have hlt := h.lt
  have HO := hid (of_ok w base (pq P) S p h.tv)
  unfold drpS
  obtain ⟨L, hL⟩ : ∃ L, L = ofL S p := ⟨_, rfl⟩
  obtain ⟨N, hN⟩ : ∃ N, N = L.length := ⟨_, rfl⟩
  have hN6 : N ≤ 6 := by rw [hN, hL]; exact ofK_len S p 6
  rw [← hL] at HO ⊢
  rw [← hN] at HO ⊢
  have HN := hid hN
  clear h hL hN
  go_enter Try.func28, Try.ntmps28
  go_wp2_with fail
  refine HO.out.mono ?_
  rintro e w2 ⟨ao, cap, rfl, hown, hb2⟩
  have HW2 : Hid (w2.ownsRow w.heap.size 38 5 (.slice ao N cap) N (ecn L)) := hown
  have hcap : N ≤ cap := by
    by_cases h0 : 0 < N
    · obtain ⟨g, _, _, cur, _, hc⟩ := own_zero hown h0
      exact hc
    · omega
  have HB2 := hid hb2
  clear hb2 hown HO
  go_wp2_with fail
  go_loopw [13] (fun i wr => ∃ (k : Nat), k ≤ N ∧ i = i64 k ∧ Hid (Tb wr base P (drpL (L.take k) S)) ∧ Hid (Fr base [61, 59] w wr) ∧ Hid (wr.ownsRow w.heap.size 38 5 (.slice ao N cap) N (ecn L))) (fun i _ => N - (intOf i).toNat)
  case atStart => exact ⟨0, by omega, rfl, HH.out.below HB2.out, Fr.of_below _ HB2.out (by omega), HW2⟩
  case round =>
    obtain ⟨k, hk, rfl, HT, HF, HO3⟩ := hrel
    by_cases hltN : k < N
    · have hkI : (k : Int) < N := by omega
      obtain ⟨e, he⟩ : ∃ e, L[k]? = some e := ⟨_, List.getElem?_eq_getElem (by rw [← HN.out]; exact hltN)⟩
      have hrd : Rd5 wr ao L := Rd5.own (by rw [← HN.out]; exact HO3.out)
      obtain ⟨g, o, rfl, hgl, c0, c1, c2, c3, c4⟩ := hrd k e he
      have HTV : Hid (Tb (wr.alloc (enO e.1.1 e.1.2 e.2.1 e.2.2.1 e.2.2.2 38)) base P (drpL (L.take k) S)) := HT.out.below (below_one wr _)
      have hwr := HF.out.size
      have HFV : Hid (Fr base [61, 59] w (wr.alloc (enO e.1.1 e.1.2 e.2.1 e.2.2.1 e.2.2.2 38))) := HF.out.alloc (by omega) _
      have HOV : Hid ((wr.alloc (enO e.1.1 e.1.2 e.2.1 e.2.2.1 e.2.2.2 38)).ownsRow w.heap.size 38 5 (.slice (some ⟨g, o, none⟩) N cap) N (ecn L)) := HO3.out.alloc _
      have HCl := hid (close_ok (wr.alloc (enO e.1.1 e.1.2 e.2.1 e.2.2.1 e.2.2.2 38)) base P _ e.1.1 e.1.2 HTV.out)
      have HS : Hid (drpL (L.take (k + 1)) S = clsS (drpL (L.take k) S) (e.1.1, e.1.2)) := drpL_last he S
      clear hrd he
      go_wp2_with fail
      refine HCl.out.mono ?_
      rintro e' w3 ⟨rfl, ht3, hf3⟩
      have HT3 : Hid (Tb w3 base P (drpL (L.take (k + 1)) S)) := by rw [HS.out]; exact ht3
      have HF3 : Hid (Fr base [61, 59] w w3) := HFV.out.trans hf3
      have HO4 : Hid (w3.ownsRow w.heap.size 38 5 (.slice (some ⟨g, o, none⟩) N cap) N (ecn L)) := own_fr HOV.out hf3
      clear ht3 hf3
      go_wp2_with fail
      exact ⟨⟨k + 1, by omega, by go_num, HT3, HF3, HO4⟩, by simp [intOf]; omega⟩
    · have HE : Hid (Tb wr base P (drpL L S)) := by have := HT.out; rw [List.take_of_length_le (by rw [← HN.out]; omega)] at this; exact this
      go_wp2_with fail
      go_ret
      exact ⟨rfl, HE.out, HF.out⟩
/-- What is loaded. -/
def ldF (S : St) : List En → Option St
  | [] => some S
  | e :: l => if (S e.1).isSome then none else if rightF e.1.1 e.1.2 e.2.1 e.2.2.1 e.2.2.2 then ldF (upd S e.1 (some e.2)) l else none
def Ldd (w w' : World) (e : Ending) (r : Option St) : Prop := match r with
  | none => e = .returned (.tuple #[.pointer none, i64 4])
  | some S => ∃ P, e = .returned (.tuple #[pq P, i64 0]) ∧ Tb w' w.heap.size P S
set_option maxRecDepth 100000 in
set_option maxHeartbeats 1600000 in
theorem load_ok (w : World) (ao : Option Addr) (cap : Nat) (X : List En) (hX : X.length ≤ 1000) (h : Rd5 w ao X) : Calls Try.prog 22 #[.slice ao X.length cap] w fun e w' => Ldd w w' e (ldF noSt X) ∧ Below w.heap.size w w' := by
  have HH := hid h
  have HN := hid (new_ok w)
  obtain ⟨r, hr⟩ : ∃ r, r = ldF noSt X := ⟨_, rfl⟩
  rw [← hr]
  have HR := hid hr
  obtain ⟨N, hN⟩ : ∃ N, N = X.length := ⟨_, rfl⟩
  rw [← hN] at hX ⊢
  have HL := hid hN
  clear h hr hN
  go_enter Try.func22, Try.ntmps22
  go_wp2_with fail
  refine HN.out.mono ?_
  rintro e w1 ⟨rfl, ht1, hb1⟩
  have HT1 := hid ht1
  have HB1 := hid hb1
  clear ht1 hb1 HN
  go_wp2_with fail
  go_loopw [12] (fun i wr => ∃ (k : Nat), k ≤ N ∧ i = i64 k ∧ Hid (∃ S, Tb wr w.heap.size w.heap.size S ∧ r = ldF S (X.drop k)) ∧ Hid (Below w.heap.size w wr)) (fun i _ => N - (intOf i).toNat)
  case atStart => exact ⟨0, by omega, rfl, ⟨noSt, HT1.out, HR.out⟩, HB1⟩
  case round =>
    obtain ⟨k, hk, rfl, HT, HB⟩ := hrel
    obtain ⟨S, hT, hS⟩ := HT.out
    clear HT
    by_cases hltN : k < N
    · have hkI : (k : Int) < N := by omega
      have hlt2 : k < X.length := by rw [← HL.out]; exact hltN
      obtain ⟨e, he⟩ : ∃ e, X[k]? = some e := ⟨_, List.getElem?_eq_getElem hlt2⟩
      have hdrop : X.drop k = e :: X.drop (k + 1) := by
        rw [List.drop_eq_getElem_cons hlt2]
        rw [List.getElem?_eq_getElem hlt2] at he
        cases he
        rfl
      obtain ⟨g, o, rfl, hgl, c0, c1, c2, c3, c4⟩ := HH.out.below HB.out k e he
      rw [hdrop, ldF] at hS
      have hbV : Below w.heap.size w (wr.alloc (enO e.1.1 e.1.2 e.2.1 e.2.2.1 e.2.2.2 38)) := HB.out.alloc HB.out.size _
      have hTV := hT.below (below_one wr (enO e.1.1 e.1.2 e.2.1 e.2.2.1 e.2.2.2 38))
      have HBV := hid hbV
      have HTV := hid hTV
      have HXV := hid (heap_last wr (enO e.1.1 e.1.2 e.2.1 e.2.2.1 e.2.2.2 38))
      rcases hSe : S e.1 with _ | ⟨a', b', c'⟩
      · have HC := hid (at_none (wr.alloc (enO e.1.1 e.1.2 e.2.1 e.2.2.1 e.2.2.2 38)) w.heap.size w.heap.size S e.1.1 e.1.2 hTV hSe)
        rw [hSe, if_neg (by simp)] at hS
        have HRt := hid (fun W => right_ok W e.1.1 e.1.2 e.2.1 e.2.2.1 e.2.2.2)
        clear hT hTV hbV he hdrop hSe
        cases hrt : rightF e.1.1 e.1.2 e.2.1 e.2.2.1 e.2.2.2
        · rw [hrt] at HRt
          rw [hrt, if_neg (by simp)] at hS
          have HS := hid hS
          clear hS hrt
          go_wp2_with fail
          refine HC.out.mono ?_
          rintro e' w2 ⟨rfl, hb2⟩
          have HB2 : Hid (Below w.heap.size w (w2.alloc (enO 0 0 0 0 0 38))) := (HBV.out.trans (hb2.mono HBV.out.size)).alloc (Nat.le_trans HBV.out.size hb2.size) _
          obtain ⟨x0, x1, x2, x3, x4⟩ := five_cells (blk_alloc (blk_below HXV.out hb2) (enO 0 0 0 0 0 38))
          have HD := hid (HRt.out (w2.alloc (enO 0 0 0 0 0 38)))
          clear hb2 HC HRt
          go_wp2_with fail
          refine HD.out.mono ?_
          rintro e' w3 ⟨rfl, hb3⟩
          have HB3 : Hid (Below w.heap.size w w3) := HB2.out.trans (hb3.mono HB2.out.size)
          clear hb3
          go_wp2_with fail
          go_ret2
          exact ⟨by rw [HS.out]; rfl, HB3.out⟩
        · rw [hrt] at HRt
          rw [hrt, if_pos rfl] at hS
          have HS := hid hS
          clear hS hrt
          go_wp2_with fail
          refine HC.out.mono ?_
          rintro e' w2 ⟨rfl, hb2⟩
          have HB2 : Hid (Below w.heap.size w (w2.alloc (enO 0 0 0 0 0 38))) := (HBV.out.trans (hb2.mono HBV.out.size)).alloc (Nat.le_trans HBV.out.size hb2.size) _
          have HX2 := hid (blk_alloc (blk_below HXV.out hb2) (enO 0 0 0 0 0 38))
          have HT2 : Hid (Tb (w2.alloc (enO 0 0 0 0 0 38)) w.heap.size w.heap.size S) := (HTV.out.below hb2).below (below_one w2 _)
          obtain ⟨x0, x1, x2, x3, x4⟩ := five_cells HX2.out
          have HD := hid (HRt.out (w2.alloc (enO 0 0 0 0 0 38)))
          clear hb2 HC HRt
          go_wp2_with fail
          refine HD.out.mono ?_
          rintro e' w3 ⟨rfl, hb3⟩
          have HB3 : Hid (Below w.heap.size w w3) := HB2.out.trans (hb3.mono HB2.out.size)
          obtain ⟨y0, y1, y2, y3, y4⟩ := five_cells (blk_below HX2.out hb3)
          have HP := hid (put_ok w3 w.heap.size w.heap.size S e.1.1 e.1.2 e.2.1 e.2.2.1 e.2.2.2 (HT2.out.below hb3))
          clear hb3 x0 x1 x2 x3 x4
          go_wp2_with fail
          refine HP.out.mono ?_
          rintro e' w4 ⟨rfl, ht4, hf4⟩
          have HT4 : Hid (∃ S, Tb w4 w.heap.size w.heap.size S ∧ r = ldF S (X.drop (k + 1))) := ⟨_, ht4, HS.out⟩
          have HB4 : Hid (Below w.heap.size w w4) := HB3.out.trans hf4.below
          clear ht4 hf4
          go_wp2_with fail
          exact ⟨⟨k + 1, by omega, by go_num, HT4, HB4⟩, by simp [intOf]; omega⟩
      · have HC := hid (at_some (wr.alloc (enO e.1.1 e.1.2 e.2.1 e.2.2.1 e.2.2.2 38)) w.heap.size w.heap.size S e.1.1 e.1.2 a' b' c' hTV hSe)
        rw [hSe, if_pos Option.isSome_some] at hS
        have HS := hid hS
        clear hT hTV hbV he hdrop hSe hS
        go_wp2_with fail
        refine HC.out.mono ?_
        rintro e' w2 ⟨rfl, hb2⟩
        have HB2 : Hid (Below w.heap.size w (w2.alloc (enO e.1.1 e.1.2 a' b' c' 38))) := (HBV.out.trans (hb2.mono HBV.out.size)).alloc (Nat.le_trans HBV.out.size hb2.size) _
        clear hb2 HC
        go_wp2_with fail
        go_ret2
        exact ⟨by rw [HS.out]; rfl, HB2.out⟩
    · rw [List.drop_of_length_le (by rw [← HL.out]; omega), ldF] at hS
      have HS := hid hS
      have HT := hid hT
      clear hS hT
      go_wp2_with fail
      go_ret2
      exact ⟨by rw [HS.out]; exact ⟨_, rfl, HT.out⟩, HB.out⟩
end Go.Proofs.Ytdgkajhlofpdeaa
