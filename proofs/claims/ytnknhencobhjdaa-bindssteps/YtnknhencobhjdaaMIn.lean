/- No statement here. -/
import Derived.Test.YtnknhencobhjdaaMMd
import Derived.Test.YtnknhencobhjdaaMLs
import Derived.Test.YtnknhencobhjdaaMOw
import Derived.Test.YtnknhencobhjdaaMEr4
set_option maxRecDepth 100000
attribute [local go_sem ↓] Go.wp_at_zero Go.wp_at_succ
namespace Go.Proofs.Ytnknhencobhjdaa
section
theorem wpL_skip {P : Program} {ops : Array Oper} {Q : Exit → Act → World → Prop} {md : Region.Mode} {S : World → Prop} {z : Nat} (i d : Nat) (p : List Nat) {oi : Oper} {fuel : Nat} {listed : Array Bool} {a : Act} {w : World} (hi : ops[i]? = some oi) (hd : oi.dst = some d) (hp : anc md ops (i :: (p ++ [z])) = true) (hiz : i ≠ z)
    (hs : Region.noSelect ops = true) (hf : Region.free md ops listed i = true) (hr : (Region.ready md ops listed).contains i = true)
    (hQ : ∀ c a w, Q (.panic c) (a.put (some d) undef) w → Q (.panic c) a w) (hS : S w) (hw : Region.wanted oi (yielded ops a.tmps) = false)
    (h : wpL P md ops Q S z fuel (listed.setIfInBounds i true) (a.put (some d) undef) w) : wpL P md ops Q S z (fuel + 1) listed a w := fun hc =>
  have hr' : i ∈ Region.ready md ops listed := by simpa using hr
  wpAnyL_first hp hiz hi (Region.noSelect_spec hs) (by rw [hd]; exact hQ) fuel listed a w hc (Region.free_spec hi hf) hr' (Or.inr ⟨hw, rfl⟩) hS (by rw [hd]; exact h (hc.step hr'))
end
end Go.Proofs.Ytnknhencobhjdaa
namespace Go.Proofs.Ytnknhencobhjdaa
section
open Go.ChangeShapes Go.WideShapes Go.ChangeAt Go.RowKit Go.Deep
theorem icells_len (xs : List Int) : (icells xs).length = xs.length := by simp [icells]
theorem own_ints {w : World} {base : Nat} {e : TypeId} {ao : Option Addr} {n cap : Nat} {xs : List Int} (h : w.ownsRow base e 1 (.slice ao n cap) n (icells xs)) : ISl w ao xs ∧ xs.length = n := by
  have hl : xs.length = n := by have := h.1; rw [icells_len] at this; omega
  refine ⟨?_, hl⟩
  rcases h.2 with ⟨_, rfl⟩ | ⟨g, cap', cur, hv, hb, hg, _, _, _, htake⟩
  · exact Or.inl (List.eq_nil_of_length_eq_zero hl)
  · cases hv
    refine Or.inr ⟨g, 0, rfl, (Array.getElem?_eq_some_iff.1 hg).1, fun i x hx => ?_⟩
    have hi : i < n := by have := (List.getElem?_eq_some_iff.1 hx).1; omega
    rw [h.cellAt (0 + i) (by omega), Nat.zero_add]
    simp [icells, hx]
end
end Go.Proofs.Ytnknhencobhjdaa
namespace Go.Proofs.Ytnknhencobhjdaa
section
open Go.ChangeShapes Go.WideShapes Go.ChangeAt Go.RowKit Go.Deep Go.ChangeMaps Go.MapKept
open Go.Proofs.Ytnknhencobhjdaa.Cp (pq hid bl1 hO cO zC looks_nil)
open Go.Proofs.Ytnknhencobhjdaa.Qt (zT badB)
set_option maxHeartbeats 3200000 in
theorem left_gen (w : World) (v0 vb vt vm s0 s1 s2 : Value) (env x : Int) (t : Qt.T) (hE : Ent w v0 (bdO vb vt vm s0 s1 s2)) (hL : ∀ W, Below w.heap.size w W → Calls Try.prog 61 #[vb, i64 env] W fun e w' => e = .returned (.tuple #[t.v, i64 x]) ∧ Below W.heap.size W w') : Calls Try.prog 26 #[v0, i64 env] w fun e w' => e = .returned (.tuple #[t.v, i64 x]) ∧ Below w.heap.size w w' := by
  obtain ⟨ta, tb, tc⟩ := t
  have HL := hid hL
  have HE := hid hE
  have HB0 : Hid (Below w.heap.size w (w.alloc (.cells #[i64 0, i64 0, i64 0] 22))) := bl1 w _
  have HQ0 : Hid ((w.alloc (.cells #[i64 0, i64 0, i64 0] 22)).heap[w.heap.size]? = some (triO ⟨0, 0, 0⟩)) := hlx w _
  clear hL hE
  go_enter Try.func26, Try.ntmps26
  go_wp2_with fail
  refine (HE.out _ HB0.out).mono ?_
  rintro e w1 ⟨B, rfl, hb1, hO1⟩
  have HB1 : Hid (Below w.heap.size w w1) := bth HB0 hb1
  have HQ1 : Hid (w1.heap[w.heap.size]? = some (triO ⟨0, 0, 0⟩)) := bkb HQ0.out hb1
  have o0 : w1.cell? ⟨B, 0, none⟩ = some vb := bkc hO1 0
  clear hb1 hO1 HB0 HQ0 HE
  go_wp2_with fail
  refine (HL.out _ HB1.out).mono ?_
  rintro e w2 ⟨rfl, hb2⟩
  have HB2 : Hid (Below w.heap.size w w2) := bth HB1 hb2
  have HQ2 : Hid (w2.heap[w.heap.size]? = some (triO ⟨0, 0, 0⟩)) := bkb HQ1.out hb2
  have z0 : w2.cell? ⟨w.heap.size, 0, none⟩ = some (i64 0) := bkc HQ2.out 0
  have z1 : w2.cell? ⟨w.heap.size, 1, none⟩ = some (i64 0) := bkc HQ2.out 1
  have z2 : w2.cell? ⟨w.heap.size, 2, none⟩ = some (i64 0) := bkc HQ2.out 2
  have zf : ∀ j, w2.frozen? ⟨w.heap.size, j, none⟩ = false := bkf HQ2.out
  clear hb2 HB1 HQ1 o0 HL
  unfold Qt.T.v
  go_wp2_with fail
  exact bodyPost_ret (Cp.results_cell Try.results26 rfl rfl (load22 (set3 HQ2.out _ _ _))) rfl ⟨rfl, bel3 HB2.out (Nat.le_refl _) _ _ _⟩
end
end Go.Proofs.Ytnknhencobhjdaa
namespace Go.Proofs.Ytnknhencobhjdaa.Qt
section
open Go.ChangeShapes Go.WideShapes Go.ChangeAt Go.RowKit Go.Deep
end
end Go.Proofs.Ytnknhencobhjdaa.Qt
namespace Go.Proofs.Ytnknhencobhjdaa.Qt
section
open Go.ChangeShapes Go.WideShapes Go.ChangeAt Go.RowKit Go.Deep
theorem rfree_rel {w : World} {base r : Nat} {t : T} {s : St} {L : List Pr} (h : Rb w base r t L) (hr : Rel s L) (hw : Wf t s) :
    Calls Try.prog 41 #[.pointer (some ⟨r, 0, none⟩)] w fun e w' => e = .returned (freeT t s).v ∧ Below w.heap.size w w' := by
  have := rfree_ok h hr.le3 (hw.tot.small ⟨by decide, by decide, by decide, by decide, by decide, by decide⟩) (hr.h64 hw)
  rw [lessT_sum, hr.sh, ← lessT_sum] at this
  exact this
end
end Go.Proofs.Ytnknhencobhjdaa.Qt
namespace Go.Proofs.Ytnknhencobhjdaa
section
open Go.ChangeShapes Go.WideShapes Go.ChangeAt Go.RowKit Go.Deep Go.ChangeMaps Go.MapKept
open Go.Proofs.Ytnknhencobhjdaa.Cp (pq hid bl1 hO)
open Go.Proofs.Ytnknhencobhjdaa.Qt (wpList_app_run)
set_option maxHeartbeats 4000000 in
theorem rlist_ok {w : World} {base d : Nat} {y : Dx} {t : Qt.T} {s : Qt.St} {C : List Cp.Rw} {Rs : List Rt} {P : List Int} (h : Dd w base d y t s C Rs P) (hl : Rs.length ≤ 1000) (env kind : Int) :
    Calls Try.prog 44 #[pq d, i64 env, i64 kind] w fun e w' => ∃ v, e = .returned v ∧ w'.ownsRow w.heap.size 3 1 v (ftN (rlB Rs env kind) 64).length (icells (ftN (rlB Rs env kind) 64)) ∧ Below w.heap.size w w' := by
  have HFn : Hid (∀ W, Below w.heap.size w W → ∀ j : Nat, Calls Try.prog 45 #[pq d, i64 kind, i64 (j : Nat)] W fun e w' => e = .returned (i64 (fnI Rs kind (j : Nat))) ∧ Below W.heap.size W w') := fun W hW j => rfnd_ok (h.below hW) hl kind (j : Nat)
  have HH := hid h
  have HO0 : Hid (w.ownsRow w.heap.size 3 1 (.slice none 0 0) (ftN (rlB Rs env kind) 0).length (icells (ftN (rlB Rs env kind) 0))) := ⟨rfl, Or.inl ⟨rfl, rfl⟩⟩
  obtain ⟨N, hN⟩ : ∃ N, N = Rs.length := ⟨_, rfl⟩
  have HN := hid hN
  have hNI : (N : Int) ≤ 1000 := by omega
  clear h hN
  go_enter Try.func44, Try.ntmps44
  go_wp2_with fail
  go_loopw [7, 8] (fun v i wr => ∃ k : Nat, k ≤ 64 ∧ i = i64 k ∧ Hid (wr.ownsRow w.heap.size 3 1 v (ftN (rlB Rs env kind) k).length (icells (ftN (rlB Rs env kind) k))) ∧ Hid (Below w.heap.size w wr)) (fun _ i _ => 64 - (intOf i).toNat)
  case atStart => exact ⟨0, by omega, rfl, HO0, Below.refl _ _⟩
  case round =>
    obtain ⟨k, hk, rfl, HO, HB⟩ := hrel
    obtain ⟨ao1, cap1, rfl, _⟩ := own_slice HO.out
    by_cases hlt : k < 64
    · have hkI : (k : Int) < 64 := by omega
      have hA := HFn.out wr HB.out k
      have HSu := hid (ftN_succ (rlB Rs env kind) k)
      have hln := ftN_len (rlB Rs env kind) k
      rcases fnI_cases Rs kind (k : Nat) with ⟨hf, _⟩ | ⟨i, r, hf, hr, _⟩
      · rw [hf] at hA
        have HA := hid hA
        have HE : Hid (ftN (rlB Rs env kind) (k + 1) = ftN (rlB Rs env kind) k) := by
          have : rlB Rs env kind k = false := by unfold rlB; rw [hf]; cases Rs[(-1 : Int).toNat]? <;> simp
          rw [HSu.out, this]; simp; exact hid trivial
        clear hA hf HSu
        go_wp2_with fail
        refine HA.out.mono ?_
        rintro e w2 ⟨rfl, hb2⟩
        have HB2 : Hid (Below w.heap.size w w2) := HB.out.trans (hb2.mono HB.out.size)
        have HO2 := hid (Qt.own_keep HO.out (fun k A hA => bkb hA hb2))
        clear hb2
        go_wp2_with fail
        exact ⟨⟨k + 1, by omega, by go_num, by rw [HE.out]; exact HO2, HB2⟩, by simp [intOf]; omega⟩
      · rw [hf] at hA
        have HA := hid hA
        have hlb : rlB Rs env kind k = decide (r.env = env) := by unfold rlB; rw [hf, Int.toNat_natCast, hr]; simp
        have HLB := hid hlb
        have HR := hid hr
        have hiN : (i : Int) < N := by have := (List.getElem?_eq_some_iff.1 hr).1; have := HN.out; omega
        have hd0 : decide ((0 : Int) ≤ (i : Int)) = true := decide_eq_true (by omega)
        clear hA hf hlb hr
        go_wp2_with fail
        refine HA.out.mono ?_
        rintro e w2 ⟨rfl, hb2⟩
        have HB2 : Hid (Below w.heap.size w w2) := HB.out.trans (hb2.mono HB.out.size)
        have HO2 := hid (Qt.own_keep HO.out (fun k A hA => bkb hA hb2))
        obtain ⟨ao, cap, pc, hbk, _, _, hcap, _, hrow, _⟩ := (HH.out.below HB2.out).row
        obtain ⟨g, rfl, _, _, hc⟩ := hrow i r HR.out
        have d2 : w2.cell? ⟨d, 2, none⟩ = some (.slice (some ⟨g, 0, none⟩) N cap) := by rw [HN.out]; exact bkc hbk 2
        have c2 : w2.cell? ⟨g, i * 4 + 2, none⟩ = some (i64 r.env) := hc 2 (by omega)
        have hcN : (N : Int) ≤ cap := by have := HN.out; omega
        clear hb2 hbk hrow hc HO HB HA
        by_cases he : r.env = env
        · have HE : Hid (ftN (rlB Rs env kind) (k + 1) = ftN (rlB Rs env kind) k ++ [(k : Int)]) := by rw [HSu.out, HLB.out, if_pos (by simp [he])]; exact hid rfl
          have hq : (r.env == env) = true := by simpa using he
          clear HSu HLB he
          obtain ⟨ao2, cap2, w6, hrun, hown6, hfr6, hfar⟩ := Cp.app_far (te := 3) under38 info3 rfl (by omega) (by omega) HO2.out [i64 (k : Int)] rfl (by intro u hu; simp at hu; subst hu; rfl) (by omega) HB2.out.size
          have HRUN := hid hrun
          have HB6 : Hid (Below w.heap.size w w6) := HB2.out.trans hfr6.below
          have HO6 : Hid (w6.ownsRow w.heap.size 3 1 (.slice ao2 ((ftN (rlB Rs env kind) k).length + 1) cap2) (ftN (rlB Rs env kind) (k + 1)).length (icells (ftN (rlB Rs env kind) (k + 1)))) := by
            rw [HE.out, List.length_append, icells_app]
            exact hown6
          clear hrun hown6 hfr6 hfar HE
          generalize (ftN (rlB Rs env kind) k).length = n at *
          go_wp2_with (at_builtin; refine wpList_app_run rfl (.tmp 32) (.tmp 34) 38 rfl _ _ rfl rfl 38 rfl _ _ HRUN.out ?_)
          exact ⟨⟨k + 1, by omega, by go_num, HO6, HB6⟩, by simp [intOf]; omega⟩
        · have HE : Hid (ftN (rlB Rs env kind) (k + 1) = ftN (rlB Rs env kind) k) := by rw [HSu.out, HLB.out, if_neg (by simp [he])]; simp; exact hid trivial
          have hq : (r.env == env) = false := by simpa using he
          clear HSu HLB he
          go_wp2_with fail
          exact ⟨⟨k + 1, by omega, by go_num, by rw [HE.out]; exact HO2, HB2⟩, by simp [intOf]; omega⟩
    · obtain rfl : k = 64 := by omega
      obtain ⟨z, hz⟩ : ∃ z, z = (ftN (rlB Rs env kind) 64).length := ⟨_, rfl⟩
      rw [← hz] at HO ⊢
      go_wp2_with fail
      go_ret
      refine ⟨_, rfl, ?_, HB.out⟩
      rw [← hz]
      exact HO.out
set_option maxHeartbeats 2000000 in
theorem ints_ok {w : World} {base : Nat} {xs : List Int} (hl : xs.length ≤ 1000) {a c : Value} (ha : w.ownsRow base 3 1 a xs.length (icells xs)) (hc : w.ownsRow base 3 1 c xs.length (icells xs)) : Calls Try.prog 43 #[a, c] w fun e w' => e = .returned (.bool true) ∧ Below w.heap.size w w' := by
  obtain ⟨aa, ca, rfl, _⟩ := own_slice ha
  obtain ⟨ac, cc, rfl, _⟩ := own_slice hc
  have hA := own_ints ha
  have hC := own_ints hc
  have hca := own_cap ha
  have hcc := own_cap hc
  have HA := hid hA.1
  have HC := hid hC.1
  obtain ⟨N, hN⟩ : ∃ N, N = xs.length := ⟨_, rfl⟩
  have HN := hid hN
  rw [← hN] at hca hcc hl ⊢
  have hNI : (N : Int) ≤ 1000 := by omega
  have hcaI : (N : Int) ≤ ca := by omega
  have hccI : (N : Int) ≤ cc := by omega
  clear ha hc hA hC hN
  go_enter Try.func43, Try.ntmps43
  go_wp2_with fail
  go_loopw [8] (fun i wr => ∃ k : Nat, k ≤ N ∧ i = i64 k ∧ Hid (Below w.heap.size w wr)) (fun i _ => N - (intOf i).toNat)
  case atStart => exact ⟨0, by omega, rfl, Below.refl _ _⟩
  case round =>
    obtain ⟨k, hk, rfl, HB⟩ := hrel
    by_cases hlt : k < N
    · obtain ⟨b1, o1, rfl, hb1, c1⟩ := HA.out.at (k := k) (by rw [← HN.out]; exact hlt)
      obtain ⟨b2, o2, rfl, hb2, c2⟩ := HC.out.at (k := k) (by rw [← HN.out]; exact hlt)
      have e1 : wr.cell? ⟨b1, o1 + k, none⟩ = some (i64 xs[k]) := by rw [HB.out.cell (by exact hb1)]; exact c1
      have e2 : wr.cell? ⟨b2, o2 + k, none⟩ = some (i64 xs[k]) := by rw [HB.out.cell (by exact hb2)]; exact c2
      have hkI : (k : Int) < N := by omega
      have hd : decide ((N : Int) ≤ (k : Int)) = false := decide_eq_false (by omega)
      clear c1 c2
      generalize xs[k]'_ = v at *
      have hn : (v != v) = false := by simp
      go_upto_region 4 with fail
      go_quiet (fail)
      have HB2 : Hid (Below w.heap.size w (wr.drewN nq)) := below_drewN HB.out nq
      generalize wr.drewN nq = U at *
      go_wp2_with fail
      exact ⟨⟨k + 1, by omega, by go_num, HB2⟩, by simp [intOf]; omega⟩
    · obtain rfl : k = N := by omega
      go_wp2_with fail
      go_ret
      exact ⟨by simp, HB.out⟩
end
end Go.Proofs.Ytnknhencobhjdaa
namespace Go.Proofs.Ytnknhencobhjdaa
section
open Go.ChangeShapes Go.WideShapes Go.ChangeAt Go.RowKit Go.Deep Go.ChangeMaps Go.MapKept
open Go.Proofs.Ytnknhencobhjdaa.Cp (pq hid bl1 hO cO zC looks_nil)
open Go.Proofs.Ytnknhencobhjdaa.Qt (zT badB)
theorem bleft_ok {w : World} {base b : Nat} {x : Bx} {t : Qt.T} {s : Qt.St} {T : List Cp.Pl} {L : Ls} {R : Nat → List Hn} (h : Bd w base b x t s T L R) (env : Int) : Calls Try.prog 26 #[pq b, i64 env] w fun e w' => e = .returned (.tuple #[(Qt.lfT (Qt.at_ s env)).v, i64 (Qt.pE (Qt.at_ s env))]) ∧ Below w.heap.size w w' :=
  left_gen w (pq b) _ _ _ _ _ _ env _ _ (ent_ok h.row) (fun _ hW => Qt.left_ok (h.bk.below hW) env)
end
end Go.Proofs.Ytnknhencobhjdaa
