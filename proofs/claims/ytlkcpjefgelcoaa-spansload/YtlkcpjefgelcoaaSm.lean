/- refs, same; no statement is proved in this text. -/
import Derived.Test.YtlkcpjefgelcoaaRf
import Derived.Test.YtlkcpjefgelcoaaFo
namespace Go.Proofs.Ytlkcpjefgelcoaa
open Go.ChangeShapes Go.WideShapes Go.ChangeAt Go.RowKit Go.Deep
attribute [local go_sem ↓] Go.wp_at_zero Go.wp_at_succ

theorem takeS_last {L : List Sp} {k : Nat} {e : Sp} (h : L[k]? = some e) : L.take (k + 1) = L.take k ++ [e] := by
  obtain ⟨hk, rfl⟩ := List.getElem?_eq_some_iff.1 h
  rw [List.take_append_getElem]
set_option maxRecDepth 100000 in
set_option maxHeartbeats 3200000 in
theorem refs_ok (w : World) (ao : Option Addr) (cap : Nat) (X : List Sp) (hX : X.length ≤ 1000) (hR : Rd4 w ao X) : Calls Try.prog 12 #[.slice ao X.length cap] w fun e w' => GotD w w' e X ∧ Below w.heap.size w w' := by
  have HR := hid hR
  obtain ⟨N, hN⟩ : ∃ N, N = X.length := ⟨_, rfl⟩
  have HN := hid hN
  rw [← hN] at hX ⊢
  clear hR hN
  go_enter Try.func12, Try.ntmps12
  go_wp2_with fail
  go_loopw [3, 8] (fun v i wr => ∃ (k : Nat) (ao2 : Option Addr) (cap2 : Nat), k ≤ N ∧ i = i64 k ∧ v = .slice ao2 k cap2 ∧ Hid (wr.ownsRow w.heap.size 58 4 (.slice ao2 k cap2) k (scn (X.take k))) ∧ Hid (Below w.heap.size w wr)) (fun _ i _ => N - (intOf i).toNat)
  case atStart => exact ⟨0, none, 0, by omega, rfl, rfl, World.ownsRow_nil _ _ _ _, Below.refl _ _⟩
  case round =>
    obtain ⟨k, ao2, cap2, hk, rfl, rfl, HO, HB⟩ := hrel
    by_cases hlt : k < N
    · have hkI : (k : Int) < N := by omega
      obtain ⟨e, he⟩ : ∃ e, X[k]? = some e := ⟨_, List.getElem?_eq_getElem (by rw [← HN.out]; exact hlt)⟩
      obtain ⟨g, o, rfl, hgl, c0, c1, c2, c3⟩ := HR.out.below HB.out k e he
      have HBV : Hid (Below w.heap.size w (wr.alloc (sO e 71))) := HB.out.alloc HB.out.size _
      obtain ⟨ao3, cap3, w3, hrun, hown3, hfr3, _, _⟩ := app_far (te := 58) uD iD rfl (by omega) (by omega) (V := wr.alloc (sO e 71)) (HO.out.alloc _) (sC e) rfl (sC_one _) (by omega) HBV.out.size
      have e1 : (wr.alloc (sO e 71)).heap.size = wr.heap.size + 1 := by simp
      rw [e1] at hrun
      have HRun : Hid ((Builtin.append_ #[27, 27] 27 #[.slice ao2 k cap2, .slice (some ⟨wr.heap.size + 1, 0, none⟩) 1 1]).run Try.prog ((wr.alloc (sO e 71)).alloc (sO e 58)) = .ok (.slice ao3 (k + 1) cap3) w3) := hrun
      have HB3 : Hid (Below w.heap.size w w3) := HBV.out.trans hfr3.below
      have HE : Hid (w3.ownsRow w.heap.size 58 4 (.slice ao3 (k + 1) cap3) (k + 1) (scn (X.take (k + 1)))) := by
        rw [takeS_last he, scn_app, scn_one]
        exact hown3
      clear hrun hown3 hfr3 e1 he
      go_wp2_with (at_builtin; refine wpList_app_run rfl (.tmp 12) (.tmp 22) 27 rfl _ _ rfl rfl 27 rfl _ _ HRun.out ?_)
      exact ⟨⟨k + 1, ao3, cap3, by omega, by go_num, rfl, HE, HB3⟩, by simp [intOf]; omega⟩
    · obtain rfl : k = N := by omega
      have HG : Hid (GotD w wr (.returned (.slice ao2 k cap2)) X) := by
        have h1 := HO.out
        rw [List.take_of_length_le (by rw [← HN.out]; omega)] at h1
        refine ⟨ao2, cap2, by rw [← HN.out], ?_⟩
        rw [← HN.out]
        exact h1
      go_wp2_with fail
      go_ret
      exact ⟨HG.out, HB.out⟩
set_option maxRecDepth 100000 in
set_option maxHeartbeats 3200000 in
theorem same_ok (w : World) (a1 a2 : Option Addr) (c1 c2 : Nat) (X : List Sp) (hX : X.length ≤ 1000) (h1 : Rd4 w a1 X) (h2 : Rd4 w a2 X) : Calls Try.prog 11 #[.slice a1 X.length c1, .slice a2 X.length c2] w fun e w' => e = .returned (.bool true) ∧ Below w.heap.size w w' := by
  have H1 := hid h1
  have H2 := hid h2
  obtain ⟨n, hn⟩ : ∃ n, n = X.length := ⟨_, rfl⟩
  have HN := hid hn
  rw [← hn] at hX ⊢
  clear h1 h2 hn
  go_enter Try.func11, Try.ntmps11
  go_wp2_with fail
  go_loopw [8] (fun u wr => ∃ k : Nat, k ≤ n ∧ u = i64 k ∧ Hid (Below w.heap.size w wr)) (fun u _ => n - (intOf u).toNat)
  case atStart => exact ⟨0, by omega, rfl, Below.refl _ _⟩
  case round =>
    obtain ⟨k, hk, rfl, HB⟩ := hrel
    by_cases hlt : k < n
    · obtain ⟨e, he⟩ : ∃ e, X[k]? = some e := ⟨_, List.getElem?_eq_getElem (by rw [← HN.out]; exact hlt)⟩
      obtain ⟨g1, o1, hg1, hl1, c10, c11, c12, c13⟩ := H1.out.below HB.out k e he
      obtain ⟨g2, o2, hg2, hl2, c20, c21, c22, c23⟩ := H2.out.below HB.out k e he
      subst hg1
      subst hg2
      have hkI : (k : Int) < n := by omega
      obtain ⟨x0, x1, x2, x3⟩ := e
      have hq : ∀ W, (Op.equalIn 10000 58 (sv (x0, x1, x2, x3)) (sv (x0, x1, x2, x3))).run Try.prog W = .ok true W := fun W => by
        have := eqS 9998 x0 x1 x2 x3 x0 x1 x2 x3 W
        simpa using this
      clear he
      go_upto_region 4 with fail
      go_quiet (fail)
      have HBd : Hid (Below w.heap.size w (wr.drewN nq)) := below_drewN HB.out nq
      go_wp2_with fail
      exact ⟨⟨k + 1, by omega, by go_num, HBd⟩, by simp [intOf]; omega⟩
    · go_wp2_with fail
      go_ret
      exact ⟨rfl, HB.out⟩
end Go.Proofs.Ytlkcpjefgelcoaa
