/- refs, same; no statement is proved in this text. -/
import Derived.Test.YtmebkpdijamdgaaFv
namespace Go.Proofs.Ytmebkpdijamdgaa
open Go.ChangeShapes Go.WideShapes Go.ChangeAt Go.RowKit Go.Deep
attribute [local go_sem ↓] Go.wp_at_zero Go.wp_at_succ

/-- What refs answers. -/
def Gotr (w w' : World) (e : Ending) (M : List Ar) : Prop := ∃ ao cap, e = .returned (.slice ao M.length cap) ∧ w'.ownsRow w.heap.size 58 3 (.slice ao M.length cap) M.length (acn M)
set_option maxRecDepth 100000 in
set_option maxHeartbeats 3200000 in
theorem refs_ok (w : World) (ao : Option Addr) (cap : Nat) (X : List Ar) (hX : X.length ≤ 1000) (hR : Rd3 w ao X) : Calls Try.prog 12 #[.slice ao X.length cap] w fun e w' => Gotr w w' e X ∧ Below w.heap.size w w' := by
  have HR := hid hR
  obtain ⟨N, hN⟩ : ∃ N, N = X.length := ⟨_, rfl⟩
  have HN := hid hN
  rw [← hN] at hX ⊢
  clear hR hN
  go_enter Try.func12, Try.ntmps12
  go_wp2_with fail
  go_loopw [3, 8] (fun v i wr => ∃ (k : Nat) (ao2 : Option Addr) (cap2 : Nat), k ≤ N ∧ i = i64 k ∧ v = .slice ao2 k cap2 ∧ Hid (wr.ownsRow w.heap.size 58 3 (.slice ao2 k cap2) k (acn (X.take k))) ∧ Hid (Below w.heap.size w wr)) (fun _ i _ => N - (intOf i).toNat)
  case atStart => exact ⟨0, none, 0, by omega, rfl, rfl, World.ownsRow_nil _ _ _ _, Below.refl _ _⟩
  case round =>
    obtain ⟨k, ao2, cap2, hk, rfl, rfl, HO, HB⟩ := hrel
    by_cases hlt : k < N
    · have hkI : (k : Int) < N := by omega
      obtain ⟨e, he⟩ : ∃ e, X[k]? = some e := ⟨_, List.getElem?_eq_getElem (by rw [← HN.out]; exact hlt)⟩
      obtain ⟨g, o, rfl, hgl, c0, c1, c2⟩ := HR.out.below HB.out k e he
      have HBV : Hid (Below w.heap.size w (wr.alloc (arO e 42))) := HB.out.alloc HB.out.size _
      obtain ⟨ao3, cap3, w3, hrun, hown3, hfr3, _, _⟩ := app_far (te := 58) under27 info58x rfl (by omega) (by omega) (V := wr.alloc (arO e 42)) (HO.out.alloc _) (aC e) rfl (aC_one _) (by omega) HBV.out.size
      have e1 : (wr.alloc (arO e 42)).heap.size = wr.heap.size + 1 := by simp
      rw [e1] at hrun
      have HRun : Hid ((Builtin.append_ #[27, 27] 27 #[.slice ao2 k cap2, .slice (some ⟨wr.heap.size + 1, 0, none⟩) 1 1]).run Try.prog ((wr.alloc (arO e 42)).alloc (arO e 58)) = .ok (.slice ao3 (k + 1) cap3) w3) := hrun
      have HB3 : Hid (Below w.heap.size w w3) := HBV.out.trans hfr3.below
      have HE : Hid (w3.ownsRow w.heap.size 58 3 (.slice ao3 (k + 1) cap3) (k + 1) (acn (X.take (k + 1)))) := by
        rw [take_last he, acn_app, acn_one]
        exact hown3
      clear hrun hown3 hfr3 e1 he
      go_wp2_with (at_builtin; refine wpList_app_run rfl (.tmp 12) (.tmp 20) 27 rfl _ _ rfl rfl 27 rfl _ _ HRun.out ?_)
      exact ⟨⟨k + 1, ao3, cap3, by omega, by go_num, rfl, HE, HB3⟩, by simp [intOf]; omega⟩
    · obtain rfl : k = N := by omega
      have HG : Hid (Gotr w wr (.returned (.slice ao2 k cap2)) X) := by
        have h1 := HO.out
        rw [List.take_of_length_le (by rw [← HN.out]; omega)] at h1
        refine ⟨ao2, cap2, by rw [← HN.out], ?_⟩
        rw [← HN.out]
        exact h1
      go_wp2_with fail
      go_ret
      exact ⟨HG.out, HB.out⟩
theorem eqInt (d : Nat) (a b : Int) (w : World) : (Op.equalIn (d + 1) 3 (i64 a) (i64 b)).run Try.prog w = .ok (a == b) w := eqI d a b w
theorem same58 (a : Ar) (w : World) : (Op.equalIn 10000 58 (av a) (av a)).run Try.prog w = .ok true w := by
  rw [run_equalIn_struct w 9999 58 _ _ (by kernel_rfl) (by kernel_rfl)]
  have p0 : ∀ (p s c : Int) (w : World), (part 3 #[i64 p, i64 s, i64 c] 0).run Try.prog w = .ok (i64 p) w := fun _ _ _ w => by kernel_rfl
  have p1 : ∀ (p s c : Int) (w : World), (part 3 #[i64 p, i64 s, i64 c] 1).run Try.prog w = .ok (i64 s) w := fun _ _ _ w => by kernel_rfl
  have p2 : ∀ (p s c : Int) (w : World), (part 3 #[i64 p, i64 s, i64 c] 2).run Try.prog w = .ok (i64 c) w := fun _ _ _ w => by kernel_rfl
  have hq := eqInt 9998
  simp only [Program.fieldsOf, Try.underlying58]
  simp [Op.eqFields, p0, p1, p2, hq, Result.andThen]
set_option maxRecDepth 100000 in
set_option maxHeartbeats 3200000 in
theorem same_ok (w : World) (a1 a2 : Option Addr) (c1 c2 : Nat) (X : List Ar) (hX : X.length ≤ 1000) (h1 : Rd3 w a1 X) (h2 : Rd3 w a2 X) : Calls Try.prog 11 #[.slice a1 X.length c1, .slice a2 X.length c2] w fun e w' => e = .returned (.bool true) ∧ Below w.heap.size w w' := by
  have H1 := hid h1
  have H2 := hid h2
  obtain ⟨n, hn⟩ : ∃ n, n = X.length := ⟨_, rfl⟩
  have HN := hid hn
  rw [← hn] at hX ⊢
  clear h1 h2 hn
  go_enter Try.func11, Try.ntmps11
  go_wp2_with fail
  go_loopw [8] (fun u wr => ∃ k : Nat, k ≤ n ∧ u = i64 k ∧ Hid (Below w.heap.size w wr)) (fun u _ => n - (intOf u).toNat)
  case atStart => exact ⟨0, by omega, rfl, Below.refl _ _⟩
  case round =>
    obtain ⟨k, hk, rfl, HB⟩ := hrel
    by_cases hlt : k < n
    · obtain ⟨e, he⟩ : ∃ e, X[k]? = some e := ⟨_, List.getElem?_eq_getElem (by rw [← HN.out]; exact hlt)⟩
      obtain ⟨g1, o1, hg1, hl1, c10, c11, c12⟩ := H1.out.below HB.out k e he
      obtain ⟨g2, o2, hg2, hl2, c20, c21, c22⟩ := H2.out.below HB.out k e he
      subst hg1
      subst hg2
      have hkI : (k : Int) < n := by omega
      have hq := same58 e
      clear he
      go_upto_region 4 with fail
      go_quiet (fail)
      have HBd : Hid (Below w.heap.size w (wr.drewN nq)) := below_drewN HB.out nq
      go_wp2_with fail
      exact ⟨⟨k + 1, by omega, by go_num, HBd⟩, by simp [intOf]; omega⟩
    · go_wp2_with fail
      go_ret
      exact ⟨rfl, HB.out⟩
end Go.Proofs.Ytmebkpdijamdgaa
