/- code.All: its contract; no statement is proved in this text. -/
import Derived.Test.YtobkehlkopkaeaaDoorRowsOf
namespace Go.Proofs.YtobkehlkopkaeaaDoor
open Go.ChangeShapes Go.WideShapes Go.ChangeAt Go.RowKit
set_option maxRecDepth 100000

set_option maxHeartbeats 400000 in
theorem all_long (w : World) (s : ByteArray) (h : 256 < s.size) : Calls Tryd.prog 33 #[.string s] w fun e w' => e = .returned (.tuple #[.slice none 0 0, i64 2]) ∧ w' = w := by
  go_enter Tryd.func33, Tryd.ntmps33
  go_wp2_with fail
  go_ret2
  exact ⟨rfl, rfl⟩

set_option maxHeartbeats 1600000 in
theorem all_read (w : World) (ht : Tab w) (l : List UInt8) (s : ByteArray) (hsz : s.size = l.length) (hl : l.length ≤ 256) (hat : ∀ w p, Tab w → Calls Tryd.prog 19 #[.string s, i64 p] w fun e w' => e = .returned (atV (atI l p) (atN l p) (atE l p)) ∧ Below w.heap.size w w') :
    Calls Tryd.prog 33 #[.string s] w fun e w' => ∃ v, e = .returned (.tuple #[v, i64 (alE l)]) ∧ w'.ownsRow w.heap.size 27 4 v (alL l).length (icells (alL l)) ∧ Below w.heap.size w w' := by
  have HA : Hid (∀ w p, Tab w → Calls Tryd.prog 19 #[.string s, i64 p] w fun e w' => e = .returned (atV (atI l p) (atN l p) (atE l p)) ∧ Below w.heap.size w w') := hat
  have HT : Hid (Tab w) := ht
  obtain ⟨N, hN⟩ : ∃ N, l.length = N := ⟨_, rfl⟩
  have HN : Hid (l.length = N) := hN
  rw [hN] at hsz hl
  clear hat ht hN
  go_enter Tryd.func33, Tryd.ntmps33
  go_wp2_with fail
  go_loopw [4, 5] (fun v a wr => ∃ (p : Nat) (xs : List In), a = i64 p ∧ xs.length ≤ p ∧ p ≤ N ∧ Went l p xs ∧ wr.ownsRow w.heap.size 27 4 v xs.length (icells xs) ∧ Below w.heap.size w wr) (fun _ a _ => N - (intOf a).toNat)
  case atStart => exact ⟨0, [], rfl, by simp, by omega, Went.start l, World.ownsRow_nil _ _ _ _, Below.refl _ _⟩
  case round =>
    obtain ⟨p, xs, rfl, hxp, hpN, hw, ho, hb⟩ := hrel
    have HW : Hid (Went l p xs) := hw
    have HO : Hid (wr.ownsRow w.heap.size 27 4 u4 xs.length (icells xs)) := ho
    have HB : Hid (Below w.heap.size w wr) := hb
    have hz := hb.size
    by_cases hp : p < N
    · have hpl : (0 : Int) ≤ (p : Int) ∧ (p : Int) < l.length := by rw [HN.out]; omega
      have hcall := HA.out wr p (HT.out.below hb)
      unfold atI atN atE at hcall
      rw [if_pos hpl, if_pos hpl, if_pos hpl, Int.toNat_natCast] at hcall
      cases hh : hd (l.drop p) with
      | none =>
        rw [hh] at hcall
        have HC : Hid (Calls Tryd.prog 19 #[.string s, i64 p] wr fun e w' => e = .returned (atV ⟨0, 0, 0, 0⟩ 0 4) ∧ Below wr.heap.size wr w') := hcall
        have hal : allO l = none := HW.out.stop (by rw [HN.out]; exact hp) hh
        have hlong : ¬ 256 < l.length := by rw [HN.out]; omega
        have HE : Hid (alE l = 4) := (by unfold alE; rw [if_neg hlong, hal]; rfl : alE l = 4)
        have HL : Hid (alL l = []) := (by unfold alL; rw [if_neg hlong, hal]; rfl : alL l = [])
        clear hcall hh hal hw ho hb hpl hlong
        go_wp2_with (go_at_call 19; refine HC.out.mono ?_; rintro e w1 ⟨rfl, hb1⟩; have HB1 : Hid (Below w.heap.size w w1) := HB.out.trans (hb1.mono hz); have hz1 := HB1.out.size; clear hb1)
        go_ret2
        exact ⟨_, by rw [HE.out]; rfl, by rw [HL.out]; exact World.ownsRow_nil _ _ _ _, HB1.out.alloc hz1 _⟩
      | some i =>
        rw [hh] at hcall
        have HC : Hid (Calls Tryd.prog 19 #[.string s, i64 p] wr fun e w' => e = .returned (atV i ((p : Int) + (sz i.op.toNat : Nat)) 0) ∧ Below wr.heap.size wr w') := hcall
        have HX : Hid (Went l (p + sz i.op.toNat) (xs ++ [i])) := HW.out.next hh
        have hle : p + sz i.op.toNat ≤ N := by have := HX.out.1; rw [HN.out] at this; exact this
        have h4 := sz_le i.op.toNat
        obtain ⟨op, a, b, n⟩ := i
        simp only at HC HX hle h4
        generalize sz op.toNat = z at *
        clear hcall hh hw ho hb hpl
        go_wp2_with (first | (go_at_call 19; refine HC.out.mono ?_; rintro e w1 ⟨rfl, hb1⟩; have HB1 : Hid (Below w.heap.size w w1) := HB.out.trans (hb1.mono hz); have HO1 : Hid (w1.ownsRow w.heap.size 27 4 u4 xs.length (icells xs)) := own_below HO.out hb1; have hz1 := HB1.out.size; clear hb1) | (at_builtin; refine app39 rfl (.tmp 26) (.tmp 28) rfl w.heap.size _ xs.length xs rfl ((HO1.out.alloc _).alloc _) _ _ ⟨op, a, b, n⟩ rfl (new_four (by simp) _ _) (by omega) (by simp <;> omega) ?_; intro v2 w2 ho2 hb2; have HB2 : Hid (Below w.heap.size w w2) := ((HB1.out.alloc (by omega) _).alloc (by simp <;> omega) _).trans hb2; have HO2 : Hid (w2.ownsRow w.heap.size 27 4 v2 (xs.length + 1) (icells (xs ++ [⟨op, a, b, n⟩]))) := ho2; clear ho2 hb2))
        exact ⟨⟨p + z, xs ++ [⟨op, a, b, n⟩], by go_num, by simp; omega, hle, HX.out, by rw [List.length_append]; exact HO2.out, HB2.out⟩, by simp [intOf]; omega⟩
    · obtain rfl : p = N := by omega
      have hal : allO l = some xs := HW.out.end (by rw [HN.out]; exact Nat.le_refl _)
      have hlong : ¬ 256 < l.length := by rw [HN.out]; omega
      have HE : Hid (alE l = 0) := (by unfold alE; rw [if_neg hlong, hal]; rfl : alE l = 0)
      have HL : Hid (alL l = xs) := (by unfold alL; rw [if_neg hlong, hal]; rfl : alL l = xs)
      clear hal hw ho hb hlong
      go_wp2_with fail
      go_ret2
      exact ⟨_, by rw [HE.out]; rfl, by rw [HL.out]; exact HO.out, HB.out⟩

theorem all_any (w : World) (ht : Tab w) (l : List UInt8) : Calls Tryd.prog 33 #[.string ⟨l.toArray⟩] w fun e w' => ∃ v, e = .returned (.tuple #[v, i64 (alE l)]) ∧ w'.ownsRow w.heap.size 27 4 v (alL l).length (icells (alL l)) ∧ Below w.heap.size w w' := by
  by_cases h : 256 < l.length
  · refine (all_long w _ (by rw [ba_size]; exact h)).mono ?_
    rintro e w' ⟨rfl, rfl⟩
    refine ⟨_, by unfold alE; rw [if_pos h], ?_, Below.refl _ _⟩
    unfold alL
    rw [if_pos h]
    exact World.ownsRow_nil _ _ _ _
  · exact all_read w ht l _ (ba_size l) (by omega) (fun w p ht => at_any w ht l (by unfold maxLen; omega) p)
end Go.Proofs.YtobkehlkopkaeaaDoor
