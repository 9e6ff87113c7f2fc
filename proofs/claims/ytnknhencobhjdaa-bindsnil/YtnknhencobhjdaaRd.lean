/- Binds: Paid, rootsOf, Root; no statement is proved in this text. -/
import Derived.Test.YtnknhencobhjdaaSt
namespace Go.Proofs.Ytnknhencobhjdaa
open Go.ChangeShapes Go.WideShapes Go.ChangeAt Go.RowKit Go.Deep Go.ChangeMaps Go.MapKept
open Go.Proofs.Ytnknhencobhjdaa.Cp (pq hid below_one hO cO zC looks_nil)
open Go.Proofs.Ytnknhencobhjdaa.Qt (zT badB)

theorem wpList_next_it {w : World} {ops : Array Oper} {rest : List Oper} {o : Oper} {a : Act} {Q : Exit → Act → World → Prop} {b r : Nat} {L M : Ls} (hg : o.guard = none) (it : Operand) (hop : o.op = Op.next it false) (hit : a.eval it = .pointer (some ⟨r, 0, none⟩)) (h : It w b r L M)
    (hDone : M = [] → wpList Try.prog ops Q rest (a.put o.dst (.tuple #[.bool false])) w)
    (hMore : ∀ j p0 p1 p2 p3 w', M[j]? = some ((p0, p1), (p2, p3)) → ((p0, p1), (p2, p3)) ∈ L → It w' b r L (M.eraseIdx j) → Touch r w w' → w'.heap.size = w.heap.size → (Instr.entry (.pointer (some ⟨r, 0, none⟩))).run Try.prog w' = .ok (.tuple #[.agg #[i64 p0, i64 p1], .agg #[i64 p2, i64 p3]]) w' → wpList Try.prog ops Q rest (a.put o.dst (.tuple #[.bool true, .agg #[i64 p0, i64 p1], .agg #[i64 p2, i64 p3]])) w') : wpList Try.prog ops Q (o :: rest) a w := by
  rcases h.next o.type with ⟨h1, h2⟩ | ⟨j, p, w', h1, h2, h3, h4, h5, h6, h7⟩
  · exact wpList_next_run hg it hop _ _ (by rw [hit]; exact h2) (hDone h1)
  · exact wpList_next_run hg it hop _ _ (by rw [hit]; exact h3) (hMore j _ _ _ _ w' h1 h2 h4 h5 h6 h7)
theorem It.below {w w' : World} {b r : Nat} {L M : Ls} (h : It w b r L M) (hb : Below w.heap.size w w') : It w' b r L M := h.kept (hb.block _ h.map.lt) (hb.block _ h.lt)
theorem It.left {w : World} {b r : Nat} {L M : Ls} (h : It w b r L M) : w.rangeLeft b r = M.length := by
  obtain ⟨es, clock, since, seen, c0, hb, g, hr, _, _, _, hl⟩ := h
  have := congrArg List.length hl
  simp at this
  simp [World.rangeLeft, hb, hr, this]
def cnt (L : Ls) (env : Int) : Nat := L.countP fun p => decide (p.2.2 = env)
theorem cnt_erase : ∀ {M : Ls} {j : Nat} {p : Bl}, M[j]? = some p → ∀ env, cnt M env = cnt (M.eraseIdx j) env + (if p.2.2 = env then 1 else 0)
  | [], _, _, h, _ => by simp at h
  | q :: M, 0, p, h, env => by
    simp at h
    subst h
    unfold cnt
    rw [List.countP_cons]
    simp
  | q :: M, j + 1, p, h, env => by
    have := cnt_erase (M := M) (j := j) (p := p) (by simpa using h) env
    unfold cnt at this ⊢
    rw [List.eraseIdx_cons_succ, List.countP_cons, List.countP_cons, this]
    omega
set_option maxRecDepth 100000 in
set_option maxHeartbeats 3200000 in
theorem paid_ok {w : World} {base b : Nat} {x : Bx} {t : Qt.T} {s : Qt.St} {T : List Cp.Pl} {L : Ls} {R : Nat → List Hn} (h : Bd w base b x t s T L R) (hL : L.length ≤ 1000) (env : Int) : Calls Try.prog 27 #[pq b, i64 env] w fun e w' => e = .returned (i64 (cnt L env : Nat)) ∧ Below w.heap.size w w' := by
  obtain ⟨o, hrun, hit⟩ := h.mp.range
  have b2 : w.cell? ⟨b, 2, none⟩ = some (.map (some x.km)) := blk_cell h.row 2
  have HR := hid hrun
  have HI := hid hit
  have HB0 : Hid (Below w.heap.size w (w.alloc o)) := below_one w o
  have HC : Hid (cnt L env ≤ 1000) := Nat.le_trans List.countP_le_length hL
  have hkm : x.km < w.heap.size := h.mp.lt
  clear h hrun hit hL
  generalize x.km = km at *
  go_enter Try.func27, Try.ntmps27
  go_wp2_with (first | (go_at_call 48; refine (orEmpty_ok _ b).mono ?_; rintro e w1 ⟨rfl, rfl⟩) | (at_range; refine wpList_range_run rfl _ 68 rfl _ _ HR.out ?_; go_frame))
  go_loopw [5] (fun u5 wr => ∃ (n : Nat) (M : Ls), u5 = i64 n ∧ n + cnt M env = cnt L env ∧ Hid (It wr km w1.heap.size L M) ∧ Hid (Below w1.heap.size w1 wr)) (fun _ wr => wr.rangeLeft km w1.heap.size)
  case atStart => exact ⟨0, L, rfl, by omega, HI, HB0⟩
  case round =>
    obtain ⟨n, M, rfl, hn, HIr, HBr⟩ := hrel
    have hC := HC.out
    go_wp2_with (at_next; refine wpList_next_it rfl _ rfl rfl HIr.out ?_ ?_)
    · intro hM
      subst hM
      obtain rfl : n = cnt L env := by simpa [cnt] using hn
      go_wp2_with fail
      go_ret
      exact ⟨rfl, HBr.out⟩
    · intro j p0 p1 p2 p3 w2 hj hpL hit2 hto hsz hen
      have hmea : (M.eraseIdx j).length < M.length := by
        have := (List.getElem?_eq_some_iff.1 hj).1
        rw [List.length_eraseIdx_of_lt this]
        omega
      have hcnt := cnt_erase hj env
      have hlr := HIr.out.left
      have HI2 := hid hit2
      have HB2 : Hid (Below w1.heap.size w1 w2) := HBr.out.trans (hto.below (Nat.le_refl _) HBr.out.size)
      clear hj hpL hit2 hto HIr HBr
      simp only at hcnt
      by_cases hp : p3 = env
      · rw [if_pos hp] at hcnt
        go_wp2_with fail
        exact ⟨⟨n + 1, M.eraseIdx j, by go_num, by omega, (HI2.out.below (below_one w2 _)), bel_then HB2 (below_one w2 _)⟩, by rw [(HI2.out.below (below_one w2 _)).left, hlr]; exact hmea⟩
      · rw [if_neg hp] at hcnt
        go_wp2_with fail
        exact ⟨⟨n, M.eraseIdx j, rfl, by omega, (HI2.out.below (below_one w2 _)), bel_then HB2 (below_one w2 _)⟩, by rw [(HI2.out.below (below_one w2 _)).left, hlr]; exact hmea⟩
/-- The three kinds. -/
theorem rootsOf_ok {w : World} {base b : Nat} {x : Bx} {t : Qt.T} {s : Qt.St} {T : List Cp.Pl} {L : Ls} {R : Nat → List Hn} (h : Bd w base b x t s T L R) (k : Nat) (hk : k < 3) (kind : Int) (hkind : kind = (k : Int) + 1) : Calls Try.prog 49 #[pq b, i64 kind] w fun e w' => e = .returned (slV (x.g k) (R k).length) ∧ w' = w := by
  have b3 : w.cell? ⟨b, 3, none⟩ = some (slV (x.g 0) (R 0).length) := blk_cell h.row 3
  have b4 : w.cell? ⟨b, 4, none⟩ = some (slV (x.g 1) (R 1).length) := blk_cell h.row 4
  have b5 : w.cell? ⟨b, 5, none⟩ = some (slV (x.g 2) (R 2).length) := blk_cell h.row 5
  clear h
  obtain rfl | rfl | rfl : k = 0 ∨ k = 1 ∨ k = 2 := by omega
  · subst hkind
    go_enter Try.func49, Try.ntmps49
    go_wp2_with fail
    go_ret
    exact ⟨rfl, rfl⟩
  · subst hkind
    go_enter Try.func49, Try.ntmps49
    go_wp2_with fail
    go_ret
    exact ⟨rfl, rfl⟩
  · subst hkind
    go_enter Try.func49, Try.ntmps49
    go_wp2_with fail
    go_ret
    exact ⟨rfl, rfl⟩
theorem rt_cells {w : World} {g : Nat} {R : List Hn} (h : w.heap[g]? = some (rtO R)) {i : Nat} {p : Hn} (hi : R[i]? = some p) : w.cell? ⟨g, i * 2, none⟩ = some (i64 p.1) ∧ w.cell? ⟨g, i * 2 + 1, none⟩ = some (i64 p.2) := by
  obtain ⟨h1, h2⟩ := hC_get R i p hi
  exact ⟨by rw [blk_cell h, List.getElem?_toArray]; exact h1, by rw [blk_cell h, List.getElem?_toArray]; exact h2⟩
end Go.Proofs.Ytnknhencobhjdaa
