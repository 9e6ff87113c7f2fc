/- imagoref12.Post as it lies in memory; Waits, Clear: contracts; no statement is proved in this text. -/
import Derived.Test.YtmijjgpelihhnaaQPure
namespace Go.Proofs.Ytmijjgpelihhnaa
open Go.ChangeShapes Go.WideShapes Go.ChangeAt Go.RowKit Go.Deep
attribute [local go_sem ↓] Go.wp_at_zero Go.wp_at_succ

abbrev Mg.l (m : Mg) : List Value := [i64 m.fr, i64 m.tt, i64 m.wd]
abbrev mgO (m : Mg) : Obj := .cells #[i64 m.fr, i64 m.tt, i64 m.wd] 36
abbrev mgV (m : Mg) : Value := .agg #[i64 m.fr, i64 m.tt, i64 m.wd]
def rcs : List Mg → List Value
  | [] => []
  | p :: r => p.l ++ rcs r
theorem rcs_len : ∀ L : List Mg, (rcs L).length = L.length * 3
  | [] => rfl
  | p :: r => by simp [rcs, rcs_len r]; omega
theorem rcs_app : ∀ a b : List Mg, rcs (a ++ b) = rcs a ++ rcs b
  | [], b => rfl
  | p :: r, b => by simp [rcs, rcs_app r b]
theorem rcs_get : ∀ (L : List Mg) (i j : Nat) (p : Mg), L[i]? = some p → j < 3 → (rcs L)[i * 3 + j]? = p.l[j]?
  | [], i, j, p, h, _ => by simp at h
  | x :: r, 0, j, p, h, hj => by
    simp at h
    subst h
    rw [Nat.zero_mul, Nat.zero_add, rcs, List.getElem?_append_left (by simpa using hj)]
  | x :: r, i + 1, j, p, h, hj => by
    have := rcs_get r i j p (by simpa using h) hj
    rw [rcs, List.getElem?_append_right (by simp; omega), show (i + 1) * 3 + j - x.l.length = i * 3 + j by simp; omega]
    exact this
theorem rcs_one : ∀ (L : List Mg), ∀ u ∈ rcs L, u.oneCell' = true
  | [], u, hu => by simp [rcs] at hu
  | p :: r, u, hu => by
    rw [rcs, List.mem_append] at hu
    rcases hu with hu | hu
    · simp only [Mg.l, List.mem_cons, List.not_mem_nil, or_false] at hu
      rcases hu with rfl | rfl | rfl <;> rfl
    · exact rcs_one r u hu
/-- The document's post. -/
structure Rb (w : World) (base r : Nat) (L : List Mg) : Prop where
  lo : base ≤ r
  own : ∃ v, w.heap[r]? = some (.cells #[v] 29) ∧ w.ownsRow base 36 3 v L.length (rcs L)
theorem Rb.same {w w' : World} {base r : Nat} {L : List Mg} (h : Rb w base r L) (hk : ∀ (k : Nat) (C : Array Value) (t : TypeId), w.heap[k]? = some (.cells C t) → (t = 29 ∨ t = 36) → w'.heap[k]? = some (.cells C t)) : Rb w' base r L := by
  obtain ⟨v, h1, h2⟩ := h.own
  exact ⟨h.lo, v, hk _ _ 29 h1 (.inl rfl), own_keep h2 (fun k C hC => hk k _ 36 hC (.inr rfl))⟩
theorem Rb.below {w w' : World} {base r : Nat} {L : List Mg} (h : Rb w base r L) (hb : Below w.heap.size w w') : Rb w' base r L :=
  h.same (fun _ _ _ hk _ => blk_below hk hb)
theorem Rb.fr' {w w' : World} {base r : Nat} {L : List Mg} {bs : Nat} {ts : List TypeId} (h : Rb w base r L) (hb : Fr bs ts w w') (h1 : ts.contains 29 = false) (h2 : ts.contains 36 = false) : Rb w' base r L :=
  h.same (fun k C t hk ht => hb.kept k _ hk (by rcases ht with rfl | rfl <;> simp only [keeps, h1, h2, Bool.not_false]))
theorem Rb.lt {w : World} {base r : Nat} {L : List Mg} (h : Rb w base r L) : r < w.heap.size := by
  obtain ⟨v, h1, _⟩ := h.own
  exact blk_lt h1
theorem Rb.los {w : World} {base r : Nat} {L : List Mg} (h : Rb w base r L) : base ≤ w.heap.size := by have := h.lt; have := h.lo; omega
/-- The value, and the cells of its row. -/
theorem Rb.row {w : World} {base r : Nat} {L : List Mg} (h : Rb w base r L) : ∃ ao cap, w.heap[r]? = some (.cells #[.slice ao L.length cap] 29) ∧ w.ownsRow base 36 3 (.slice ao L.length cap) L.length (rcs L) ∧ L.length ≤ cap ∧ ∀ i p, L[i]? = some p → ∃ g, ao = some ⟨g, 0, none⟩ ∧ base ≤ g ∧ g < w.heap.size ∧ g ≠ r ∧ ∀ j, j < 3 → w.cell? ⟨g, i * 3 + j, none⟩ = p.l[j]? := by
  obtain ⟨v, h1, h2⟩ := h.own
  obtain ⟨ao, cap, rfl, _⟩ := own_slice h2
  refine ⟨ao, cap, h1, h2, ?_, fun i p hp => ?_⟩
  · rcases h2.2 with ⟨_, h0⟩ | ⟨g, cap', cur, he, hbg, hgg, hc, _⟩
    · omega
    · simp only [Value.slice.injEq] at he
      obtain ⟨_, _, rfl⟩ := he
      exact hc
  have hi : i < L.length := (List.getElem?_eq_some_iff.1 hp).1
  rcases h2.2 with ⟨_, h0⟩ | ⟨g, cap', cur, he, hbg, hgg, _⟩
  · omega
  · simp only [Value.slice.injEq] at he
    obtain ⟨rfl, _, rfl⟩ := he
    refine ⟨g, rfl, hbg, blk_lt hgg, fun e => ?_, fun j hj => ?_⟩
    · rw [e, h1] at hgg; simp at hgg
    · rw [h2.cellAt _ (by omega), rcs_get L i j p hp hj]
theorem under27 : Try.prog.underlying 27 = some (.slice 36) := by kernel_rfl
theorem info36x : (Try.prog.info? 36).map (fun i => (i.zero, i.size, i.bytes)) = some (some (.agg #[i64 0, i64 0, i64 0]), 3, 24) := by kernel_rfl
theorem cnt_succ {L : List Mg} {k : Nat} {m : Mg} (hp : L[k]? = some m) (n : Int) : cntM (L.take (k + 1)) n = cntM (L.take k) n + (if m.tt = n then 1 else 0) := by
  unfold cntM
  rw [List.take_add_one, hp, List.filter_append, List.length_append]
  by_cases h : m.tt = n <;> simp [toB, h]
theorem cnt_le (L : List Mg) (n : Int) : cntM L n ≤ L.length := List.length_filter_le _ _
set_option maxRecDepth 100000 in
set_option maxHeartbeats 2000000 in
theorem rwaits_ok {w : World} {base r : Nat} {L : List Mg} (h : Rb w base r L) (hl : L.length ≤ 12) (n : Int) :
    Calls Try.prog 16 #[pq r, i64 n] w fun e w' => e = .returned (i64 (cntM L n : Nat)) ∧ Below w.heap.size w w' := by
  obtain ⟨ao, cap, hbk, hown, hcap, _⟩ := h.row
  have HR : Hid (Rb w base r L) := h
  have b0 : w.cell? ⟨r, 0, none⟩ = some (.slice ao L.length cap) := blk_cell hbk 0
  have HK : Hid (w.heap[r]? = some (.cells #[.slice ao L.length cap] 29)) := hbk
  obtain ⟨N, hN⟩ : ∃ N, N = L.length := ⟨_, rfl⟩
  have HN : Hid (N = L.length) := hN
  rw [← hN] at b0 hl hcap
  have hcI : (N : Int) ≤ cap := by omega
  have hNI : (N : Int) ≤ 12 := by omega
  clear h hbk hown hN
  go_enter Try.func16, Try.ntmps16
  go_wp2_with fail
  go_loopw [13, 5] (fun i c wr => ∃ k C : Nat, k ≤ N ∧ C ≤ k ∧ i = i64 k ∧ c = i64 C ∧ Hid (C = cntM (L.take k) n) ∧ Hid (Below w.heap.size w wr)) (fun i _ _ => N - (intOf i).toNat)
  case atStart => exact ⟨0, 0, by omega, by omega, rfl, rfl, rfl, Below.refl _ _⟩
  case round =>
    obtain ⟨k, C, hk, hC, rfl, rfl, HC, HB⟩ := hrel
    by_cases hlt : k < N
    · have hlt2 : k < L.length := by rw [← HN.out]; exact hlt
      obtain ⟨p, hp⟩ : ∃ p, L[k]? = some p := ⟨_, List.getElem?_eq_getElem hlt2⟩
      obtain ⟨ao', cap', hbk', hown', hcap', hrow⟩ := (HR.out.below HB.out).row
      have hs := (blk_below HK.out HB.out).symm.trans hbk'
      simp only [Option.some.injEq, Obj.cells.injEq, Array.mk.injEq, List.cons.injEq, Value.slice.injEq, true_and, and_true] at hs
      obtain ⟨rfl, rfl⟩ := hs
      obtain ⟨g, rfl, hbg, hgl, _, hc⟩ := hrow k p hp
      have c0 : wr.cell? ⟨g, k * 3, none⟩ = some (i64 p.fr) := hc 0 (by omega)
      have c1 : wr.cell? ⟨g, k * 3 + 1, none⟩ = some (i64 p.tt) := hc 1 (by omega)
      have c2 : wr.cell? ⟨g, k * 3 + 2, none⟩ = some (i64 p.wd) := hc 2 (by omega)
      have HB2 : Hid (∀ o, Below w.heap.size w (wr.alloc o)) := fun o => HB.out.alloc HB.out.size o
      have hcs := cnt_succ hp n
      have HCs := hid hcs
      have hCI : (C : Int) ≤ 12 := by omega
      clear hrow hc hp hbk' hown' hcs
      by_cases he : p.tt = n
      · have HE : Hid (C + 1 = cntM (L.take (k + 1)) n) := hid (by rw [HCs.out, if_pos he, ← HC.out])
        have hq : (p.tt == n) = true := by simpa using he
        clear he
        go_wp2_with fail
        exact ⟨⟨k + 1, C + 1, by omega, by omega, by go_num, by go_num, HE, HB2.out _⟩, by simp [intOf]; omega⟩
      · have HE : Hid (C = cntM (L.take (k + 1)) n) := hid (by rw [HCs.out, if_neg he, ← HC.out]; rfl)
        have hq : (p.tt == n) = false := by simpa using he
        clear he
        go_wp2_with fail
        exact ⟨⟨k + 1, C, by omega, by omega, by go_num, rfl, HE, HB2.out _⟩, by simp [intOf]; omega⟩
    · have HE : Hid (C = cntM L n) := hid (by rw [HC.out, List.take_of_length_le (by rw [← HN.out]; omega)])
      go_wp2_with fail
      go_ret
      exact ⟨by rw [← HE.out]; rfl, HB.out⟩
theorem stay_succ {L : List Mg} {k : Nat} {m : Mg} (hp : L[k]? = some m) (n : Int) : (L.take (k + 1)).filter (stayB n) = (L.take k).filter (stayB n) ++ (if stayB n m = true then [m] else []) := by
  rw [List.take_add_one, hp, List.filter_append]
  by_cases h : stayB n m = true <;> simp [h]
set_option maxRecDepth 100000 in
set_option maxHeartbeats 4000000 in
theorem rclear_ok {w : World} {base r : Nat} {L : List Mg} (h : Rb w base r L) (hl : L.length ≤ 12) (n : Int) :
    Calls Try.prog 14 #[pq r, i64 n] w fun e w' => e = .returned (i64 ((L.length : Int) - ((L.filter (stayB n)).length : Nat))) ∧ Rb w' base r (L.filter (stayB n)) ∧ Fr base [29, 36] w w' := by
  obtain ⟨ao, cap, hbk, hown, hcap, _⟩ := h.row
  have HR : Hid (Rb w base r L) := h
  have hlo := h.los
  have b0 : w.cell? ⟨r, 0, none⟩ = some (.slice ao L.length cap) := blk_cell hbk 0
  have HK : Hid (w.heap[r]? = some (.cells #[.slice ao L.length cap] 29)) := hbk
  obtain ⟨N, hN⟩ : ∃ N, N = L.length := ⟨_, rfl⟩
  have HN : Hid (N = L.length) := hN
  rw [← hN] at b0 hl hcap HK ⊢
  have hcI : (N : Int) ≤ cap := by omega
  have hNI : (N : Int) ≤ 12 := by omega
  clear h hbk hown hN
  go_enter Try.func14, Try.ntmps14
  go_wp2_with fail
  go_loopw [14, 5] (fun i c wr => ∃ (k m : Nat) (ao2 : Option Addr) (cap2 : Nat), k ≤ N ∧ m ≤ k ∧ i = i64 k ∧ c = .slice ao2 m cap2 ∧ Hid (wr.ownsRow w.heap.size 36 3 (.slice ao2 m cap2) m (rcs ((L.take k).filter (stayB n))) ∧ m = ((L.take k).filter (stayB n)).length) ∧ Hid (Below w.heap.size w wr)) (fun i _ _ => N - (intOf i).toNat)
  case atStart => exact ⟨0, 0, none, 0, by omega, by omega, rfl, rfl, ⟨World.ownsRow_nil _ _ 36 3, rfl⟩, Below.refl _ _⟩
  case round =>
    obtain ⟨k, m, ao2, cap2, hk, hm, rfl, rfl, HO, HB⟩ := hrel
    by_cases hlt : k < N
    · have hlt2 : k < L.length := by rw [← HN.out]; exact hlt
      obtain ⟨p, hp⟩ : ∃ p, L[k]? = some p := ⟨_, List.getElem?_eq_getElem hlt2⟩
      obtain ⟨ao', cap', hbk', hown', hcap', hrow⟩ := (HR.out.below HB.out).row
      have hs := (blk_below HK.out HB.out).symm.trans hbk'
      simp only [Option.some.injEq, Obj.cells.injEq, Array.mk.injEq, List.cons.injEq, Value.slice.injEq, and_true] at hs
      obtain ⟨rfl, hNN, rfl⟩ := hs
      clear hNN
      obtain ⟨g, rfl, hbg, hgl, _, hc⟩ := hrow k p hp
      have c0 : wr.cell? ⟨g, k * 3, none⟩ = some (i64 p.fr) := hc 0 (by omega)
      have c1 : wr.cell? ⟨g, k * 3 + 1, none⟩ = some (i64 p.tt) := hc 1 (by omega)
      have c2 : wr.cell? ⟨g, k * 3 + 2, none⟩ = some (i64 p.wd) := hc 2 (by omega)
      have hbA : Below w.heap.size w (wr.alloc (mgO p)) := HB.out.alloc HB.out.size _
      have hoA : (wr.alloc (mgO p)).ownsRow w.heap.size 36 3 (.slice ao2 m cap2) m (rcs ((L.take k).filter (stayB n))) := HO.out.1.alloc _
      have HBA := hid hbA
      have HOA := hid hoA
      have HSu := hid (stay_succ hp n)
      have HM := hid HO.out.2
      clear hrow hc hp hbk' hown'
      cases hst : stayB n p with
      | false =>
        have HE : Hid ((wr.alloc (mgO p)).ownsRow w.heap.size 36 3 (.slice ao2 m cap2) m (rcs ((L.take (k + 1)).filter (stayB n))) ∧ m = ((L.take (k + 1)).filter (stayB n)).length) := hid (by rw [HSu.out, hst]; simpa using ⟨HOA.out, HM.out⟩)
        unfold stayB at hst
        by_cases ht : p.tt = n
        · have hq : (p.tt != n) = false := by simp [ht]
          clear ht hst
          go_wp2_with fail
          exact ⟨⟨k + 1, m, ao2, cap2, by omega, by omega, by go_num, rfl, HE, HBA⟩, by simp [intOf]; omega⟩
        · have hq : (p.tt != n) = true := by simp [ht]
          have hf : p.fr = n := by simpa [ht] using hst
          have hq2 : (p.fr != n) = false := by simp [hf]
          clear ht hst hf
          go_wp2_with fail
          exact ⟨⟨k + 1, m, ao2, cap2, by omega, by omega, by go_num, rfl, HE, HBA⟩, by simp [intOf]; omega⟩
      | true =>
        obtain ⟨ao3, cap3, w3, hrun, hown3, hfr3, _, _⟩ := app_far (te := 36) under27 info36x rfl (by omega) (by omega) hoA p.l rfl (fun u hu => by
          simp only [Mg.l, List.mem_cons, List.not_mem_nil, or_false] at hu
          rcases hu with rfl | rfl | rfl <;> rfl) (by omega) hbA.size
        have HRun : Hid ((Builtin.append_ #[27, 27] 27 #[.slice ao2 m cap2, .slice (some ⟨wr.heap.size + 1, 0, none⟩) 1 1]).run Try.prog ((wr.alloc (mgO p)).alloc (.cells #[i64 p.fr, i64 p.tt, i64 p.wd] 36)) = .ok (.slice ao3 (m + 1) cap3) w3) := hid (by
          have := hrun
          rw [show (wr.alloc (mgO p)).heap.size = wr.heap.size + 1 by simp] at this
          exact this)
        have HB3 : Hid (Below w.heap.size w w3) := hbA.trans hfr3.below
        have HE : Hid (w3.ownsRow w.heap.size 36 3 (.slice ao3 (m + 1) cap3) (m + 1) (rcs ((L.take (k + 1)).filter (stayB n))) ∧ m + 1 = ((L.take (k + 1)).filter (stayB n)).length) := hid (by
          rw [HSu.out, hst]
          simp only [if_true]
          rw [rcs_app, List.length_append, ← HM.out]
          exact ⟨by simpa [rcs] using hown3, rfl⟩)
        have ht : ¬ p.tt = n := by unfold stayB at hst; simp at hst; exact hst.1
        have hf : ¬ p.fr = n := by unfold stayB at hst; simp at hst; exact hst.2
        have hq : (p.tt != n) = true := by simp [ht]
        have hq2 : (p.fr != n) = true := by simp [hf]
        clear ht hf hst hrun hown3 hfr3 hbA hoA
        go_wp2_with (at_builtin; refine wpList_app_run rfl (.tmp 28) (.tmp 30) 27 rfl _ _ rfl rfl 27 rfl _ _ HRun.out ?_)
        exact ⟨⟨k + 1, m + 1, ao3, cap3, by omega, by omega, by go_num, rfl, HE, HB3⟩, by simp [intOf]; omega⟩
    · obtain ⟨hO, hM⟩ := HO.out
      rw [List.take_of_length_le (show L.length ≤ k by rw [← HN.out]; omega)] at hO hM
      have hbk : wr.heap[r]? = some (.cells #[.slice ao N cap] 29) := blk_below HK.out HB.out
      have b1 : wr.cell? ⟨r, 0, none⟩ = some (.slice ao N cap) := blk_cell hbk 0
      have f1 : wr.frozen? ⟨r, 0, none⟩ = false := blk_frozen hbk 0
      have HF : Hid (Rb (wr.setCell ⟨r, 0, none⟩ (.slice ao2 m cap2)) base r (L.filter (stayB n)) ∧ Fr base [29, 36] w (wr.setCell ⟨r, 0, none⟩ (.slice ao2 m cap2))) := by
        refine ⟨⟨HR.out.lo, _, heap_setCell_same wr r 0 _ 29 _ hbk, ?_⟩, ?_⟩
        · rw [← hM]
          refine own_keep (own_low hO hlo) (fun k' C hC => ?_)
          rw [Below.heap_setCell _ _ _ _ (fun e => by rw [show k' = r from e, hbk] at hC; simp at hC)]
          exact hC
        · exact (Fr.of_below _ HB.out hlo).trans (Fr.of_touch ((Touch.refl r wr).setCell rfl _) hbk (by rfl) HR.out.lo)
      have HMf := hid hM
      have hmI : (m : Int) ≤ 12 := by omega
      clear hO hM hbk
      go_wp2_with fail
      go_ret
      exact ⟨by rw [← HMf.out]; rfl, HF.out⟩
end Go.Proofs.Ytmijjgpelihhnaa
