/- List; no statement is proved in this text. -/
import Derived.Test.YtojhmiggocommaaOpn
namespace Go.Proofs.Ytojhmiggocommaa
open Go.ChangeShapes Go.WideShapes Go.ChangeAt Go.RowKit Go.Deep
attribute [local go_sem ↓] Go.wp_at_zero Go.wp_at_succ

abbrev In : Type := Int × List UInt8
abbrev inC (p : In) : List Value := [i64 p.1, str p.2]
def icn (l : List In) : List Value := l.flatMap fun p => [i64 p.1, str p.2]
theorem icn_app (a b : List In) : icn (a ++ b) = icn a ++ icn b := by simp [icn]
theorem icn_len (l : List In) : (icn l).length = l.length * 2 := by
  induction l with
  | nil => rfl
  | cons x l ih =>
    have e : (icn (x :: l)).length = 2 + (icn l).length := by rw [show icn (x :: l) = inC x ++ icn l from rfl, List.length_append]; rfl
    rw [e, ih, List.length_cons]
    omega
theorem below_of_drew {B : Nat} {w w' : World} (h : Below B w.drew w') : Below B w w' := ⟨h.os, h.tape, h.output, h.size, h.block⟩
theorem icn_get (l : List In) (i : Nat) (p : In) (h : l[i]? = some p) : (icn l)[i * 2]? = some (i64 p.1) ∧ (icn l)[i * 2 + 1]? = some (str p.2) := by
  induction l generalizing i with
  | nil => simp at h
  | cons x l ih =>
    cases i with
    | zero => simp at h; subst h; exact ⟨rfl, rfl⟩
    | succ i =>
      have := ih i (by simpa using h)
      rw [show (i + 1) * 2 = i * 2 + 2 by omega]
      exact this
theorem inl_one (p : In) : ∀ u ∈ inC p, u.oneCell' = true := by
  intro u hu
  simp only [List.mem_cons, List.not_mem_nil, or_false] at hu
  rcases hu with rfl | rfl <;> rfl
/-- The pipes that are there, up to a number, rising. -/
def lstK (S : St) : Nat → List In
  | 0 => []
  | k + 1 => lstK S k ++ (match S k with | none => [] | some D => [((k : Int), D)])
theorem lstK_none (S : St) (k : Nat) (h : S k = none) : lstK S (k + 1) = lstK S k := by simp [lstK, h]
theorem lstK_some (S : St) (k : Nat) (D : List UInt8) (h : S k = some D) : lstK S (k + 1) = lstK S k ++ [((k : Int), D)] := by simp [lstK, h]
theorem lstK_le (S : St) (k : Nat) : (lstK S k).length ≤ k := by
  induction k with
  | zero => simp [lstK]
  | succ k ih =>
    cases h : S k with
    | none => rw [lstK_none S k h]; omega
    | some D => rw [lstK_some S k D h, List.length_append]; simp; omega
abbrev lst (S : St) : List In := lstK S 3
theorem under35 : Try.prog.underlying 35 = some (.slice 46) := by kernel_rfl
theorem info46x : (Try.prog.info? 46).map (fun i => (i.zero, i.size, i.bytes)) = some (some (.agg #[i64 0, .string ⟨#[]⟩]), 2, 24) := by kernel_rfl
set_option maxRecDepth 100000 in
set_option maxHeartbeats 3200000 in
theorem list_ok (w : World) (base P : Nat) (S : St) (h : PS w base P S) : Calls Try.prog 13 #[pq P] w fun e w' => ∃ ao cap, e = .returned (.slice ao (lst S).length cap) ∧ w'.ownsRow w.heap.size 46 2 (.slice ao (lst S).length cap) (lst S).length (icn (lst S)) ∧ Below w.heap.size w w' := by
  obtain ⟨A, h⟩ := h
  have HH := hid h
  obtain ⟨P0, hP0⟩ : ∃ v, v = pv (A 0) := ⟨_, rfl⟩
  obtain ⟨P1, hP1⟩ : ∃ v, v = pv (A 1) := ⟨_, rfl⟩
  obtain ⟨P2, hP2⟩ : ∃ v, v = pv (A 2) := ⟨_, rfl⟩
  have c0 : w.cell? ⟨P, 0, none⟩ = some P0 := by rw [hP0]; exact h.cell 0 (by omega)
  have HP0 := hid hP0
  have c1 : w.cell? ⟨P, 1, none⟩ = some P1 := by rw [hP1]; exact h.cell 1 (by omega)
  have HP1 := hid hP1
  have c2 : w.cell? ⟨P, 2, none⟩ = some P2 := by rw [hP2]; exact h.cell 2 (by omega)
  have HP2 := hid hP2
  clear h hP0 hP1 hP2
  obtain ⟨W0, hW0⟩ : ∃ b, b = w.heap.size := ⟨_, rfl⟩
  go_enter Try.func13, Try.ntmps13
  go_wp2_with fail
  go_loopw [3, 4, 5, 12] (fun v _ _ i wr => ∃ (k n : Nat) (ao : Option Addr) (cap : Nat), k ≤ 3 ∧ n ≤ 3 ∧ i = i64 k ∧ v = .slice ao n cap ∧ Hid (n = (lstK S k).length ∧ wr.ownsRow w.heap.size 46 2 (.slice ao n cap) n (icn (lstK S k))) ∧ Hid (Below w.heap.size w wr)) (fun _ _ _ i _ => 3 - (intOf i).toNat)
  case atStart => exact ⟨0, 0, none, 0, by omega, by omega, rfl, rfl, ⟨rfl, World.ownsRow_nil _ _ _ _⟩, Below.refl _ _⟩
  case round =>
    obtain ⟨k, n, ao, cap, hk, hn, rfl, rfl, HO, HB⟩ := hrel
    obtain rfl | rfl | rfl | rfl : k = 0 ∨ k = 1 ∨ k = 2 ∨ k = 3 := by omega
    · rcases HH.out.known 0 (by omega) with ⟨hx, hs⟩ | ⟨b, D, hx, hs, hp⟩
      · have ix : ∀ w, (Instr.index 55 (.agg #[P0, P1, P2]) (.int .i64 0)).run Try.prog w = .ok (.pointer none) w := fun w => (pidx0 P0 P1 P2 w).trans (by rw [HP0.out, hx]; rfl)
        have HT : Hid (lstK S (0 + 1) = lstK S 0) := lstK_none S 0 hs
        clear hx hs
        go_wp2_with fail
        exact ⟨⟨1, n, ao, cap, by omega, by omega, by go_num, rfl, by rw [HT.out]; exact HO, HB⟩, by simp [intOf]⟩
      · have ix : ∀ w, (Instr.index 55 (.agg #[P0, P1, P2]) (.int .i64 0)).run Try.prog w = .ok (pq b) w := fun w => (pidx0 P0 P1 P2 w).trans (by rw [HP0.out, hx]; rfl)
        have HT : Hid (lstK S (0 + 1) = lstK S 0 ++ [((0 : Int), D)]) := lstK_some S 0 D hs
        have hp2 : Pip wr b D := hp.of_block (HB.out.block _ hp.lt)
        have HC := hid (data_ok wr b D hp2)
        obtain ⟨ao3, cap3, w3, hrun, hown3, hfr3, _, _⟩ := app_far (te := 46) under35 info46x rfl (by omega) (by omega) (V := wr.drew) HO.out.2 (inC ((0 : Int), D)) rfl (inl_one _) (by have := lstK_le S 0; have := HO.out.1; omega) HB.out.size
        have HRun : Hid ((Builtin.append_ #[35, 35] 35 #[.slice ao n cap, .slice (some ⟨wr.heap.size, 0, none⟩) 1 1]).run Try.prog (wr.drew.alloc (.cells #[i64 0, str D] 46)) = .ok (.slice ao3 (n + 1) cap3) w3) := hrun
        have HB3 : Hid (Below w.heap.size w w3) := HB.out.trans (below_of_drew hfr3.below)
        have hn1 : n ≤ 0 := by have := lstK_le S 0; have := HO.out.1; omega
        have HE : Hid (n + 1 = (lstK S 1).length ∧ w3.ownsRow w.heap.size 46 2 (.slice ao3 (n + 1) cap3) (n + 1) (icn (lstK S 1))) := by
          rw [HT.out, icn_app, List.length_append, ← HO.out.1]
          exact ⟨rfl, hown3⟩
        clear hx hs hp hp2 hrun hown3 hfr3
        go_wp2_with fail
        refine HC.out.mono ?_
        rintro e w2 ⟨rfl, hw2⟩
        subst hw2
        go_wp2_with (at_builtin; refine wpList_app_run rfl (.tmp 18) (.tmp 23) 35 rfl _ _ rfl rfl 35 rfl _ _ HRun.out ?_)
        exact ⟨⟨1, n + 1, ao3, cap3, by omega, by omega, by go_num, rfl, HE, HB3⟩, by simp [intOf]⟩
    · rcases HH.out.known 1 (by omega) with ⟨hx, hs⟩ | ⟨b, D, hx, hs, hp⟩
      · have ix : ∀ w, (Instr.index 55 (.agg #[P0, P1, P2]) (.int .i64 1)).run Try.prog w = .ok (.pointer none) w := fun w => (pidx1 P0 P1 P2 w).trans (by rw [HP1.out, hx]; rfl)
        have HT : Hid (lstK S (1 + 1) = lstK S 1) := lstK_none S 1 hs
        clear hx hs
        go_wp2_with fail
        exact ⟨⟨2, n, ao, cap, by omega, by omega, by go_num, rfl, by rw [HT.out]; exact HO, HB⟩, by simp [intOf]⟩
      · have ix : ∀ w, (Instr.index 55 (.agg #[P0, P1, P2]) (.int .i64 1)).run Try.prog w = .ok (pq b) w := fun w => (pidx1 P0 P1 P2 w).trans (by rw [HP1.out, hx]; rfl)
        have HT : Hid (lstK S (1 + 1) = lstK S 1 ++ [((1 : Int), D)]) := lstK_some S 1 D hs
        have hp2 : Pip wr b D := hp.of_block (HB.out.block _ hp.lt)
        have HC := hid (data_ok wr b D hp2)
        obtain ⟨ao3, cap3, w3, hrun, hown3, hfr3, _, _⟩ := app_far (te := 46) under35 info46x rfl (by omega) (by omega) (V := wr.drew) HO.out.2 (inC ((1 : Int), D)) rfl (inl_one _) (by have := lstK_le S 1; have := HO.out.1; omega) HB.out.size
        have HRun : Hid ((Builtin.append_ #[35, 35] 35 #[.slice ao n cap, .slice (some ⟨wr.heap.size, 0, none⟩) 1 1]).run Try.prog (wr.drew.alloc (.cells #[i64 1, str D] 46)) = .ok (.slice ao3 (n + 1) cap3) w3) := hrun
        have HB3 : Hid (Below w.heap.size w w3) := HB.out.trans (below_of_drew hfr3.below)
        have hn1 : n ≤ 1 := by have := lstK_le S 1; have := HO.out.1; omega
        have HE : Hid (n + 1 = (lstK S 2).length ∧ w3.ownsRow w.heap.size 46 2 (.slice ao3 (n + 1) cap3) (n + 1) (icn (lstK S 2))) := by
          rw [HT.out, icn_app, List.length_append, ← HO.out.1]
          exact ⟨rfl, hown3⟩
        clear hx hs hp hp2 hrun hown3 hfr3
        go_wp2_with fail
        refine HC.out.mono ?_
        rintro e w2 ⟨rfl, hw2⟩
        subst hw2
        go_wp2_with (at_builtin; refine wpList_app_run rfl (.tmp 18) (.tmp 23) 35 rfl _ _ rfl rfl 35 rfl _ _ HRun.out ?_)
        exact ⟨⟨2, n + 1, ao3, cap3, by omega, by omega, by go_num, rfl, HE, HB3⟩, by simp [intOf]⟩
    · rcases HH.out.known 2 (by omega) with ⟨hx, hs⟩ | ⟨b, D, hx, hs, hp⟩
      · have ix : ∀ w, (Instr.index 55 (.agg #[P0, P1, P2]) (.int .i64 2)).run Try.prog w = .ok (.pointer none) w := fun w => (pidx2 P0 P1 P2 w).trans (by rw [HP2.out, hx]; rfl)
        have HT : Hid (lstK S (2 + 1) = lstK S 2) := lstK_none S 2 hs
        clear hx hs
        go_wp2_with fail
        exact ⟨⟨3, n, ao, cap, by omega, by omega, by go_num, rfl, by rw [HT.out]; exact HO, HB⟩, by simp [intOf]⟩
      · have ix : ∀ w, (Instr.index 55 (.agg #[P0, P1, P2]) (.int .i64 2)).run Try.prog w = .ok (pq b) w := fun w => (pidx2 P0 P1 P2 w).trans (by rw [HP2.out, hx]; rfl)
        have HT : Hid (lstK S (2 + 1) = lstK S 2 ++ [((2 : Int), D)]) := lstK_some S 2 D hs
        have hp2 : Pip wr b D := hp.of_block (HB.out.block _ hp.lt)
        have HC := hid (data_ok wr b D hp2)
        obtain ⟨ao3, cap3, w3, hrun, hown3, hfr3, _, _⟩ := app_far (te := 46) under35 info46x rfl (by omega) (by omega) (V := wr.drew) HO.out.2 (inC ((2 : Int), D)) rfl (inl_one _) (by have := lstK_le S 2; have := HO.out.1; omega) HB.out.size
        have HRun : Hid ((Builtin.append_ #[35, 35] 35 #[.slice ao n cap, .slice (some ⟨wr.heap.size, 0, none⟩) 1 1]).run Try.prog (wr.drew.alloc (.cells #[i64 2, str D] 46)) = .ok (.slice ao3 (n + 1) cap3) w3) := hrun
        have HB3 : Hid (Below w.heap.size w w3) := HB.out.trans (below_of_drew hfr3.below)
        have hn1 : n ≤ 2 := by have := lstK_le S 2; have := HO.out.1; omega
        have HE : Hid (n + 1 = (lstK S 3).length ∧ w3.ownsRow w.heap.size 46 2 (.slice ao3 (n + 1) cap3) (n + 1) (icn (lstK S 3))) := by
          rw [HT.out, icn_app, List.length_append, ← HO.out.1]
          exact ⟨rfl, hown3⟩
        clear hx hs hp hp2 hrun hown3 hfr3
        go_wp2_with fail
        refine HC.out.mono ?_
        rintro e w2 ⟨rfl, hw2⟩
        subst hw2
        go_wp2_with (at_builtin; refine wpList_app_run rfl (.tmp 18) (.tmp 23) 35 rfl _ _ rfl rfl 35 rfl _ _ HRun.out ?_)
        exact ⟨⟨3, n + 1, ao3, cap3, by omega, by omega, by go_num, rfl, HE, HB3⟩, by simp [intOf]⟩
    · have HE : Hid (n = (lst S).length) := HO.out.1
      have HO2 : Hid (wr.ownsRow w.heap.size 46 2 (.slice ao (lst S).length cap) (lst S).length (icn (lst S))) := by
        have := HO.out.2
        rw [HO.out.1] at this
        exact this
      go_wp2_with fail
      go_ret
      exact ⟨ao, cap, by rw [← HE.out]; rfl, HO2.out, HB.out⟩
end Go.Proofs.Ytojhmiggocommaa
