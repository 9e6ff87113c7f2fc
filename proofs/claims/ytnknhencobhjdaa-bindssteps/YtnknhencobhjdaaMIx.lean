/- No statement here. -/
import Derived.Test.YtnknhencobhjdaaMSt
set_option maxRecDepth 100000
namespace Go.Proofs.Ytnknhencobhjdaa
open Go.ChangeShapes Go.WideShapes Go.ChangeAt Go.RowKit Go.Deep Go.ChangeMaps Go.MapKept
open Go.Proofs.Ytnknhencobhjdaa.Cp (pq hid bl1 hO cO zC looks_nil)
open Go.Proofs.Ytnknhencobhjdaa.Qt (zT badB)
theorem wpList_next_it {w : World} {ops : Array Oper} {rest : List Oper} {o : Oper} {a : Act} {Q : Exit → Act → World → Prop} {b r : Nat} {L M : Ls} (hg : o.guard = none) (it : Operand) (hop : o.op = Op.next it false) (hit : a.eval it = .pointer (some ⟨r, 0, none⟩)) (h : It w b r L M)
    (hDone : M = [] → wpList Try.prog ops Q rest (a.put o.dst (.tuple #[.bool false])) w)
    (hMore : ∀ j p0 p1 p2 p3 w', M[j]? = some ((p0, p1), (p2, p3)) → ((p0, p1), (p2, p3)) ∈ L → It w' b r L (M.eraseIdx j) → Touch r w w' → w'.heap.size = w.heap.size → (Instr.entry (.pointer (some ⟨r, 0, none⟩))).run Try.prog w' = .ok (.tuple #[.agg #[i64 p0, i64 p1], .agg #[i64 p2, i64 p3]]) w' → wpList Try.prog ops Q rest (a.put o.dst (.tuple #[.bool true, .agg #[i64 p0, i64 p1], .agg #[i64 p2, i64 p3]])) w') : wpList Try.prog ops Q (o :: rest) a w := by
  rcases h.next o.type with ⟨h1, h2⟩ | ⟨j, p, w', h1, h2, h3, h4, h5, h6, h7⟩
  · exact wpList_next_run hg it hop _ _ (by rw [hit]; exact h2) (hDone h1)
  · exact wpList_next_run hg it hop _ _ (by rw [hit]; exact h3) (hMore j _ _ _ _ w' h1 h2 h4 h5 h6 h7)
theorem It.below {w w' : World} {b r : Nat} {L M : Ls} (h : It w b r L M) (hb : Below w.heap.size w w') : It w' b r L M := h.kept (hb.block _ h.map.lt) (hb.block _ h.lt)
theorem It.left {w : World} {b r : Nat} {L M : Ls} (h : It w b r L M) : w.rangeLeft b r = M.length := by
  obtain ⟨es, clock, since, seen, c0, hb, g, hr, _, _, _, hl⟩ := h
  have := congrArg List.length hl
  simp at this
  simp [World.rangeLeft, hb, hr, this]
def cnt (L : Ls) (env : Int) : Nat := L.countP fun p => decide (p.2.2 = env)
theorem cnt_erase : ∀ {M : Ls} {j : Nat} {p : Bl}, M[j]? = some p → ∀ env, cnt M env = cnt (M.eraseIdx j) env + (if p.2.2 = env then 1 else 0)
  | [], _, _, h, _ => by simp at h
  | q :: M, 0, p, h, env => by
    simp at h
    subst h
    unfold cnt
    rw [List.countP_cons]
    simp
  | q :: M, j + 1, p, h, env => by
    have := cnt_erase (M := M) (j := j) (p := p) (by simpa using h) env
    unfold cnt at this ⊢
    rw [List.eraseIdx_cons_succ, List.countP_cons, List.countP_cons, this]
    omega
set_option maxHeartbeats 3200000 in
theorem paid_ok {w : World} {base b : Nat} {x : Bx} {t : Qt.T} {s : Qt.St} {T : List Cp.Pl} {L : Ls} {R : Nat → List Hn} (h : Bd w base b x t s T L R) (hL : L.length ≤ 1000) (env : Int) : Calls Try.prog 27 #[pq b, i64 env] w fun e w' => e = .returned (i64 (cnt L env : Nat)) ∧ Below w.heap.size w w' := by
  obtain ⟨o, hrun, hit⟩ := h.mp.range
  have b2 : w.cell? ⟨b, 2, none⟩ = some (.map (some x.km)) := bkc h.row 2
  have HR := hid hrun
  have HI := hid hit
  have HB0 : Hid (Below w.heap.size w (w.alloc o)) := bl1 w o
  have HC : Hid (cnt L env ≤ 1000) := Nat.le_trans List.countP_le_length hL
  have hkm : x.km < w.heap.size := h.mp.lt
  clear h hrun hit hL
  generalize x.km = km at *
  go_enter Try.func27, Try.ntmps27
  go_wp2_with (first | (go_at_call 48; refine (orEmpty_ok _ b).mono ?_; rintro e w1 ⟨rfl, rfl⟩) | (at_range; refine wpList_range_run rfl _ 68 rfl _ _ HR.out ?_; go_frame))
  go_loopw [5] (fun u5 wr => ∃ (n : Nat) (M : Ls), u5 = i64 n ∧ n + cnt M env = cnt L env ∧ Hid (It wr km w1.heap.size L M) ∧ Hid (Below w1.heap.size w1 wr)) (fun _ wr => wr.rangeLeft km w1.heap.size)
  case atStart => exact ⟨0, L, rfl, by omega, HI, HB0⟩
  case round =>
    obtain ⟨n, M, rfl, hn, HIr, HBr⟩ := hrel
    have hC := HC.out
    go_wp2_with (at_next; refine wpList_next_it rfl _ rfl rfl HIr.out ?_ ?_)
    · intro hM
      subst hM
      obtain rfl : n = cnt L env := by simpa [cnt] using hn
      go_wp2_with fail
      go_ret
      exact ⟨rfl, HBr.out⟩
    · intro j p0 p1 p2 p3 w2 hj hpL hit2 hto hsz hen
      have hmea : (M.eraseIdx j).length < M.length := by
        have := (List.getElem?_eq_some_iff.1 hj).1
        rw [List.length_eraseIdx_of_lt this]
        omega
      have hcnt := cnt_erase hj env
      have hlr := HIr.out.left
      have HI2 := hid hit2
      have HB2 : Hid (Below w1.heap.size w1 w2) := HBr.out.trans (hto.below (Nat.le_refl _) HBr.out.size)
      clear hj hpL hit2 hto HIr HBr
      simp only at hcnt
      by_cases hp : p3 = env
      · rw [if_pos hp] at hcnt
        go_wp2_with fail
        exact ⟨⟨n + 1, M.eraseIdx j, by go_num, by omega, (HI2.out.below (bl1 w2 _)), bth HB2 (bl1 w2 _)⟩, by rw [(HI2.out.below (bl1 w2 _)).left, hlr]; exact hmea⟩
      · rw [if_neg hp] at hcnt
        go_wp2_with fail
        exact ⟨⟨n, M.eraseIdx j, rfl, by omega, (HI2.out.below (bl1 w2 _)), bth HB2 (bl1 w2 _)⟩, by rw [(HI2.out.below (bl1 w2 _)).left, hlr]; exact hmea⟩
theorem rootsOf_ok {w : World} {base b : Nat} {x : Bx} {t : Qt.T} {s : Qt.St} {T : List Cp.Pl} {L : Ls} {R : Nat → List Hn} (h : Bd w base b x t s T L R) (k : Nat) (hk : k < 3) (kind : Int) (hkind : kind = (k : Int) + 1) : Calls Try.prog 49 #[pq b, i64 kind] w fun e w' => e = .returned (slV (x.g k) (R k).length) ∧ w' = w := by
  have b3 : w.cell? ⟨b, 3, none⟩ = some (slV (x.g 0) (R 0).length) := bkc h.row 3
  have b4 : w.cell? ⟨b, 4, none⟩ = some (slV (x.g 1) (R 1).length) := bkc h.row 4
  have b5 : w.cell? ⟨b, 5, none⟩ = some (slV (x.g 2) (R 2).length) := bkc h.row 5
  clear h
  obtain rfl | rfl | rfl : k = 0 ∨ k = 1 ∨ k = 2 := by omega
  · subst hkind
    go_enter Try.func49, Try.ntmps49
    go_wp2_with fail
    go_ret
    exact ⟨rfl, rfl⟩
  · subst hkind
    go_enter Try.func49, Try.ntmps49
    go_wp2_with fail
    go_ret
    exact ⟨rfl, rfl⟩
  · subst hkind
    go_enter Try.func49, Try.ntmps49
    go_wp2_with fail
    go_ret
    exact ⟨rfl, rfl⟩
theorem rt_cells {w : World} {g : Nat} {R : List Hn} (h : w.heap[g]? = some (rtO R)) {i : Nat} {p : Hn} (hi : R[i]? = some p) : w.cell? ⟨g, i * 2, none⟩ = some (i64 p.1) ∧ w.cell? ⟨g, i * 2 + 1, none⟩ = some (i64 p.2) := by
  obtain ⟨h1, h2⟩ := hC_get R i p hi
  exact ⟨by rw [bkc h, List.getElem?_toArray]; exact h1, by rw [bkc h, List.getElem?_toArray]; exact h2⟩
end Go.Proofs.Ytnknhencobhjdaa
namespace Go.Proofs.Ytnknhencobhjdaa
open Go.ChangeShapes Go.WideShapes Go.ChangeAt Go.RowKit Go.Deep Go.ChangeMaps Go.MapKept
open Go.Proofs.Ytnknhencobhjdaa.Cp (pq hid bl1 hO cO zC looks_nil)
open Go.Proofs.Ytnknhencobhjdaa.Qt (zT badB)
set_option maxHeartbeats 800000 in
theorem root_ok {w : World} {base b : Nat} {x : Bx} {t : Qt.T} {s : Qt.St} {T : List Cp.Pl} {L : Ls} {R : Nat → List Hn} (h : Bd w base b x t s T L R) (k : Nat) (hk : k < 3) (kind : Int) (hkind : kind = (k : Int) + 1) (i : Nat) (p0 p1 : Int) (hi : (R k)[i]? = some (p0, p1)) : Calls Try.prog 15 #[pq b, i64 kind, i64 i] w fun e w' => e = .returned (.agg #[i64 p0, i64 p1]) ∧ Below w.heap.size w w' := by
  have HB0 : Hid (Below w.heap.size w (w.alloc (.cells #[i64 0, i64 0] 43))) := bl1 w _
  have HQ0 : Hid ((w.alloc (.cells #[i64 0, i64 0] 43)).heap[w.heap.size]? = some (hO 0 0)) := hlx w _
  have HD : Hid (Bd (w.alloc (.cells #[i64 0, i64 0] 43)) base b x t s T L R) := h.below (bl1 w _)
  have hil : i < (R k).length := (List.getElem?_eq_some_iff.1 hi).1
  have hlen := h.len k hk
  have hilI : ¬ ((R k).length : Int) ≤ i := by omega
  have HKi := hid hkind
  clear h hkind
  go_enter Try.func15, Try.ntmps15
  go_wp2_with fail
  refine (rootsOf_ok HD.out k hk kind HKi.out).mono ?_
  rintro e w1 ⟨rfl, rfl⟩
  obtain ⟨c0, c1⟩ := rt_cells (HD.out.rt k hk).1 hi
  simp only at c0 c1
  have z0 : (w.alloc (.cells #[i64 0, i64 0] 43)).cell? ⟨w.heap.size, 0, none⟩ = some (i64 0) := bkc HQ0.out 0
  have z1 : (w.alloc (.cells #[i64 0, i64 0] 43)).cell? ⟨w.heap.size, 1, none⟩ = some (i64 0) := bkc HQ0.out 1
  have zf : ∀ j, (w.alloc (.cells #[i64 0, i64 0] 43)).frozen? ⟨w.heap.size, j, none⟩ = false := bkf HQ0.out
  clear HD hi HKi hk
  obtain ⟨n, hn⟩ : ∃ n, (R k).length = n := ⟨_, rfl⟩
  obtain ⟨g, hg⟩ : ∃ g, x.g k = g := ⟨_, rfl⟩
  rw [hn] at hilI hil hlen ⊢
  rw [hg] at c0 c1 ⊢
  clear hn hg
  generalize w.alloc (.cells #[i64 0, i64 0] 43) = V at *
  have i0 : ¬ (i : Int) < 0 := by omega
  have hI : (i : Int) < n := by omega
  clear hilI
  go_wp2_with fail
  exact bodyPost_ret (results_one Try.results15 rfl (Cp.load42 (Cp.set2 HQ0.out _ _))) rfl ⟨rfl, Cp.bel2 HB0.out (Nat.le_refl _) _ _⟩
end Go.Proofs.Ytnknhencobhjdaa
namespace Go.Proofs.Ytnknhencobhjdaa
open Go.ChangeShapes Go.WideShapes Go.ChangeAt Go.RowKit Go.Deep Go.ChangeMaps Go.MapKept
open Go.Proofs.Ytnknhencobhjdaa.Cp (pq hid bl1 hO cO zC looks_nil)
open Go.Proofs.Ytnknhencobhjdaa.Qt (zT badB)
theorem eql43 (a c d e : Int) (w : World) : (binOp .eql 43 (.agg #[i64 a, i64 c]) (.agg #[i64 d, i64 e])).run Try.prog w = .ok (.bool (decide ((a, c) = (d, e)))) w := by
  have := eql (a, c) (d, e) w
  simp only [hV] at this
  simp [binOp, this, Result.andThen]
theorem neq43 (a c d e : Int) (w : World) : (binOp .neq 43 (.agg #[i64 a, i64 c]) (.agg #[i64 d, i64 e])).run Try.prog w = .ok (.bool (!decide ((a, c) = (d, e)))) w := by
  have := eql (a, c) (d, e) w
  simp only [hV] at this
  simp [binOp, this, Result.andThen]
set_option maxHeartbeats 1600000 in
theorem index_ok (w : World) (g : Nat) (R : List Hn) (hr : w.heap[g]? = some (rtO R)) (hl : R.length ≤ 64) (h0 h1 : Int) (i : Nat) (hi : R[i]? = some (h0, h1)) (hno : ∀ j, j < i → R[j]? ≠ some (h0, h1)) : Calls Try.prog 83 #[slV g R.length, .agg #[i64 h0, i64 h1]] w fun e w' => e = .returned (i64 i) ∧ Below w.heap.size w w' := by
  have HB0 : Hid (Below w.heap.size w (w.alloc (.cells #[i64 h0, i64 h1] 43))) := bl1 w _
  have HQ0 : Hid ((w.alloc (.cells #[i64 h0, i64 h1] 43)).heap[w.heap.size]? = some (hO h0 h1)) := hlx w _
  have HR0 : Hid ((w.alloc (.cells #[i64 h0, i64 h1] 43)).heap[g]? = some (rtO R)) := bka hr _
  have hil : i < R.length := (List.getElem?_eq_some_iff.1 hi).1
  have HI := hid hi
  have HN := hid hno
  clear hr hi hno
  go_enter Try.func83, Try.ntmps83
  go_wp2_with fail
  go_loopw [8] (fun u8 wr => ∃ k : Nat, k ≤ i ∧ u8 = i64 k ∧ Hid (Below w.heap.size w wr) ∧ Hid (wr.heap[w.heap.size]? = some (hO h0 h1)) ∧ Hid (wr.heap[g]? = some (rtO R))) (fun u _ => R.length - (intOf u).toNat)
  case atStart => exact ⟨0, by omega, rfl, HB0, HQ0, HR0⟩
  case round =>
    obtain ⟨k, hk, rfl, HB, HQ, HR⟩ := hrel
    have hkl : k < R.length := by omega
    have hkI : (k : Int) < (R.length : Int) := by omega
    obtain ⟨⟨r0, r1⟩, hrk⟩ : ∃ p, R[k]? = some p := ⟨R[k], List.getElem?_eq_getElem hkl⟩
    obtain ⟨c0, c1⟩ := rt_cells HR.out hrk
    simp only at c0 c1
    have q0 : wr.cell? ⟨w.heap.size, 0, none⟩ = some (i64 h0) := bkc HQ.out 0
    have q1 : wr.cell? ⟨w.heap.size, 1, none⟩ = some (i64 h1) := bkc HQ.out 1
    have HRk := hid hrk
    clear hrk
    go_upto_region 4 with fail
    have he : ∀ W, (binOp .eql 43 (.agg #[i64 h0, i64 h1]) (.agg #[i64 r0, i64 r1])).run Try.prog W = .ok (.bool (decide ((h0, h1) = (r0, r1)))) W := eql43 h0 h1 r0 r1
    go_quiet (fail)
    clear he c0 c1 q0 q1
    by_cases hki : k = i
    · subst hki
      obtain ⟨rfl, rfl⟩ : r0 = h0 ∧ r1 = h1 := by
        have := HRk.out.symm.trans HI.out
        simpa using this
      simp only [decide_true, Bool.and_self]
      go_wp2_with fail
      go_ret
      exact ⟨rfl, below_drewN HB.out nq⟩
    · have hb : (decide (h0 = r0) && decide (h1 = r1)) = false := by
        have := HN.out k (by omega)
        rw [HRk.out] at this
        simp only [ne_eq, Option.some.injEq, Prod.mk.injEq, not_and] at this
        simp only [Bool.and_eq_false_iff, decide_eq_false_iff_not]
        by_cases e : h0 = r0
        · exact Or.inr (fun e1 => this e.symm e1.symm)
        · exact Or.inl e
      rw [hb]
      clear hb
      go_wp2_with fail
      exact ⟨⟨k + 1, by omega, by go_num, below_drewN HB.out nq, HQ.out, HR.out⟩, by simp [intOf]; omega⟩
end Go.Proofs.Ytnknhencobhjdaa
