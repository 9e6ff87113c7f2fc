/- code.Join: its contract; no statement is proved in this text. -/
import Derived.Test.YtlofpamfodinfaaDoorAll
namespace Go.Proofs.YtlofpamfodinfaaDoor
open Go.ChangeShapes Go.WideShapes Go.ChangeAt Go.RowKit

theorem take_flat (xs : List In) (k : Nat) (hk : k < xs.length) : (xs.take (k + 1)).flatMap plain = (xs.take k).flatMap plain ++ plain xs[k] := by
  rw [← List.take_append_getElem hk, List.flatMap_append]
  simp
theorem ok_take_next {xs : List In} {k : Nat} (hk : k < xs.length) (h : okL (xs.take k) = true) (hi : isI xs[k] = true) : okL (xs.take (k + 1)) = true := by
  unfold okL at *
  rw [← List.take_append_getElem hk, List.all_append, h]
  simp [hi]
theorem ok_not {xs : List In} {k : Nat} (hk : k < xs.length) (hi : isI xs[k] = false) : okL xs = false := by
  unfold okL
  rw [List.all_eq_false]
  exact ⟨xs[k], List.getElem_mem hk, by simp [hi]⟩
theorem jo_bad {xs : List In} (h : okL xs = false) : joE xs = 4 ∧ joS xs = [] := by
  have e : joE xs = 4 := by unfold joE; rw [h]; rfl
  exact ⟨e, by unfold joS; rw [e]; rfl⟩
theorem jo_long {xs : List In} (h : okL xs = true) (hl : 256 < (xs.flatMap plain).length) : joE xs = 2 ∧ joS xs = [] := by
  have e : joE xs = 2 := by unfold joE; rw [if_pos h, if_pos hl]
  exact ⟨e, by unfold joS; rw [e]; rfl⟩
theorem jo_ok {xs : List In} (h : okL xs = true) (hl : ¬ 256 < (xs.flatMap plain).length) : joE xs = 0 ∧ joS xs = xs.flatMap plain := by
  have e : joE xs = 0 := by unfold joE; rw [if_pos h, if_neg hl]
  exact ⟨e, by unfold joS; rw [if_pos e]⟩

set_option maxHeartbeats 1600000 in
theorem join_ok (w : World) (ht : Tab w) (xs : List In) (ao : Option Addr) (cap : Nat) (hs : ISl w ao xs) (hl : xs.length ≤ 1000) :
    Calls Tryd.prog 18 #[.slice ao xs.length cap] w fun e w' => e = .returned (.tuple #[.string ⟨(joS xs).toArray⟩, i64 (joE xs)]) ∧ Below w.heap.size w w' := by
  have HT : Hid (Tab w) := ht
  have HS : Hid (ISl w ao xs) := hs
  obtain ⟨N, hN⟩ : ∃ N, xs.length = N := ⟨_, rfl⟩
  have HN : Hid (xs.length = N) := hN
  rw [hN] at hl ⊢
  have HFL : Hid (∀ k, ((xs.take k).flatMap plain).length ≤ 4 * (xs.take k).length) := fun k => flat_len _
  clear hs ht hN
  go_enter Tryd.func18, Tryd.ntmps18
  go_wp2_with fail
  go_loopw [4, 11] (fun v i wr => ∃ (k m : Nat), i = i64 k ∧ k ≤ N ∧ m = ((xs.take k).flatMap plain).length ∧ okL (xs.take k) = true ∧ wr.ownsRow w.heap.size 5 1 v m (cells ((xs.take k).flatMap plain)) ∧ Below w.heap.size w wr) (fun _ i _ => N - (intOf i).toNat)
  case atStart => exact ⟨0, 0, rfl, by omega, by simp, rfl, World.ownsRow_nil _ _ _ _, Below.refl _ _⟩
  case round =>
    obtain ⟨k, m, rfl, hk, hm, hok, ho, hb⟩ := hrel
    have HM : Hid (m = ((xs.take k).flatMap plain).length) := hm
    have HK : Hid (okL (xs.take k) = true) := hok
    have HO : Hid (wr.ownsRow w.heap.size 5 1 u4 m (cells ((xs.take k).flatMap plain))) := ho
    have HB : Hid (Below w.heap.size w wr) := hb
    have hz := hb.size
    have hm4 : m ≤ 4 * k := by
      rw [hm]
      refine Nat.le_trans (HFL.out k) ?_
      rw [List.length_take]
      omega
    by_cases hkN : k < N
    · have hkx : k < xs.length := by rw [HN.out]; exact hkN
      obtain ⟨b, off, rfl, hbl, c0, c1, c2, c3⟩ := (HS.out.below hb).at hkx
      have HT1 : Hid (Tab wr) := HT.out.below hb
      have hcall := fun w1 (ht : Tab w1) => bytes_any w1 ht xs[k]
      by_cases hI : isI xs[k] = true
      · have e1 : btS xs[k] = plain xs[k] := by unfold btS; rw [if_pos hI]
        have e2 : btE xs[k] = 0 := by unfold btE; rw [if_pos hI]
        have e3 := take_flat xs k hkx
        have HK2 : Hid (okL (xs.take (k + 1)) = true) := ok_take_next hkx hok hI
        have hp4 : (plain xs[k]).length ≤ 4 := by rw [plain_len]; exact (sz_le _).2
        rw [e1, e2] at hcall
        have HC : Hid (∀ w1, Tab w1 → Calls Tryd.prog 8 #[inV xs[k]] w1 fun e w' => e = .returned (.tuple #[.string ⟨(plain xs[k]).toArray⟩, i64 0]) ∧ Below w1.heap.size w1 w') := hcall
        have HF : Hid ((xs.take (k + 1)).flatMap plain = (xs.take k).flatMap plain ++ plain xs[k]) := e3
        clear hcall e1 e2 e3 hI hok ho hb hm
        generalize plain xs[k] = T at *
        generalize xs[k] = q at *
        obtain ⟨op, a, b2, n⟩ := q
        go_wp2_with (first | (go_at_call 8; refine (HC.out _ (HT1.out.alloc _)).mono ?_; rintro e w1 ⟨rfl, hb1⟩; have HB1 : Hid (Below w.heap.size w w1) := (HB.out.alloc hz _).trans (hb1.mono (by simp <;> omega)); have HO1 : Hid (w1.ownsRow w.heap.size 5 1 u4 m (cells ((xs.take k).flatMap plain))) := own_below (HO.out.alloc _) hb1; have hz1 := HB1.out.size; clear hb1) | (at_builtin; refine app9 rfl (.tmp 23) (.tmp 24) rfl w.heap.size _ m _ rfl HO1.out T rfl (by omega) (by omega) ?_; intro v2 w2 ho2 hb2; have HB2 : Hid (Below w.heap.size w w2) := HB1.out.trans hb2; have HO2 : Hid (w2.ownsRow w.heap.size 5 1 v2 (m + T.length) (cells ((xs.take k).flatMap plain) ++ cells T)) := ho2; clear ho2 hb2))
        exact ⟨⟨k + 1, m + T.length, by go_num, by omega, by rw [HF.out, List.length_append, HM.out], HK2.out, by rw [HF.out, cells_app]; exact HO2.out, HB2.out⟩, by simp [intOf]; omega⟩
      · have e1 : btS xs[k] = [] := by unfold btS; rw [if_neg hI]
        have e2 : btE xs[k] = 4 := by unfold btE; rw [if_neg hI]
        have HJ : Hid (joE xs = 4 ∧ joS xs = []) := jo_bad (ok_not hkx (by simpa using hI))
        rw [e1, e2] at hcall
        have HC : Hid (∀ w1, Tab w1 → Calls Tryd.prog 8 #[inV xs[k]] w1 fun e w' => e = .returned (.tuple #[.string ⟨#[]⟩, i64 4]) ∧ Below w1.heap.size w1 w') := hcall
        clear hcall e1 e2 hI hok ho hb hm
        generalize xs[k] = q at *
        obtain ⟨op, a, b2, n⟩ := q
        go_wp2_with (go_at_call 8; refine (HC.out _ (HT1.out.alloc _)).mono ?_; rintro e w1 ⟨rfl, hb1⟩; have HB1 : Hid (Below w.heap.size w w1) := (HB.out.alloc hz _).trans (hb1.mono (by simp <;> omega)); clear hb1)
        go_ret2
        exact ⟨by rw [HJ.out.1, HJ.out.2]; rfl, HB1.out⟩
    · obtain rfl : k = N := by omega
      have hall : xs.take k = xs := List.take_of_length_le (by rw [HN.out]; exact Nat.le_refl _)
      rw [hall] at hm hok ho
      obtain ⟨ao2, c2, hv⟩ : ∃ ao c, u4 = .slice ao m c := by
        rcases ho.2 with ⟨rfl, rfl⟩ | ⟨g, cap, cur, rfl, _⟩
        · exact ⟨none, 0, rfl⟩
        · exact ⟨_, cap, rfl⟩
      have hcv := own_conv ho rfl
      subst hv
      by_cases hlg : 256 < m
      · have HJ : Hid (joE xs = 2 ∧ joS xs = []) := jo_long hok (by omega)
        clear hall hm hok ho hb hcv
        go_wp2_with fail
        go_ret2
        exact ⟨by rw [HJ.out.1, HJ.out.2]; rfl, HB.out⟩
      · have HJ : Hid (joE xs = 0 ∧ joS xs = xs.flatMap plain) := jo_ok hok (by omega)
        clear hall hm hok ho hb
        generalize xs.flatMap plain = F at *
        go_wp2_with fail
        go_ret2
        exact ⟨by rw [HJ.out.1, HJ.out.2]; rfl, HB.out⟩
end Go.Proofs.YtlofpamfodinfaaDoor
