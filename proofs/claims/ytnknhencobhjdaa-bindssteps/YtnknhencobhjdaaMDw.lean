/- No statement here. -/
import Derived.Test.YtnknhencobhjdaaMDp
import Derived.Test.YtnknhencobhjdaaMOrd2
set_option maxRecDepth 100000
namespace Go.Proofs.Ytnknhencobhjdaa
open Go.ChangeShapes Go.WideShapes Go.ChangeAt Go.RowKit Go.Deep
open Go.Proofs.Ytnknhencobhjdaa.Cp (pq hid bl1)
open Go.Proofs.Ytnknhencobhjdaa.Qt (wpList_app_run)
attribute [local go_sem ↓] Go.wp_at_zero Go.wp_at_succ
theorem Qt.fr_drew {base : Nat} {ts : List TypeId} {w w' : World} (h : Fr base ts w.drew w') : Fr base ts w w' := ⟨⟨h.below.os, h.below.tape, h.below.output, h.below.size, h.below.block⟩, h.kept⟩
theorem own_lower {w : World} {B B' : Nat} {e : TypeId} {size : Nat} {v : Value} {n : Nat} {xs : List Value} (h : w.ownsRow B e size v n xs) (hb : B' ≤ B) : w.ownsRow B' e size v n xs :=
  ⟨h.1, h.2.imp id (fun ⟨g, cap, cur, h1, h2, h3⟩ => ⟨g, cap, cur, h1, Nat.le_trans hb h2, h3⟩)⟩
theorem put_le {h q : Qt.T} (hl : Qt.Le h q) (kind v : Int) (h0 : 0 ≤ v) (h1 : v ≤ q.g kind) : Qt.Le (h.put kind v) q := by
  obtain ⟨a0, a1, b0, b1, c0, c1⟩ := hl
  unfold Qt.T.put
  unfold Qt.T.g at h1
  by_cases e1 : kind = 1
  · rw [if_pos e1] at h1 ⊢; exact ⟨h0, h1, b0, b1, c0, c1⟩
  · rw [if_neg e1] at h1 ⊢
    by_cases e2 : kind = 2
    · rw [if_pos e2] at h1 ⊢; exact ⟨a0, a1, h0, h1, c0, c1⟩
    · rw [if_neg e2] at h1 ⊢; exact ⟨a0, a1, b0, b1, h0, h1⟩
theorem wf_set {t : Qt.T} {s : Qt.St} (h : Qt.Wf t s) {e : Nat} {x : Qt.Pge} (hx : s e = some x) {h' : Qt.T} (hl : Qt.Le h' x.q) : Qt.Wf t (Qt.upd s e (some ⟨x.p, x.q, h'⟩)) := by
  have hq : ∀ i, Qt.qT (Qt.upd s e (some ⟨x.p, x.q, h'⟩) i) = Qt.qT (s i) := fun i => by
    unfold Qt.upd
    by_cases hi : i = e
    · rw [if_pos hi, hi, hx]; rfl
    · rw [if_neg hi]
  refine ⟨fun i hi => ?_, h.tot, fun i => ?_, by rw [hq, hq, hq]; exact h.sa, by rw [hq, hq, hq]; exact h.sb, by rw [hq, hq, hq]; exact h.sc⟩
  · have : i ≠ e := fun e' => by subst e'; rw [h.out i hi] at hx; cases hx
    unfold Qt.upd
    rw [if_neg this]
    exact h.out i hi
  · rw [hq]
    unfold Qt.upd
    by_cases hi : i = e
    · rw [if_pos hi, hi, hx]; exact hl
    · rw [if_neg hi]; exact h.le i
theorem g_le {h q : Qt.T} (hl : Qt.Le h q) (kind : Int) : 0 ≤ h.g kind ∧ h.g kind ≤ q.g kind := by
  obtain ⟨a0, a1, b0, b1, c0, c1⟩ := hl
  unfold Qt.T.g
  by_cases e1 : kind = 1
  · rw [if_pos e1, if_pos e1]; exact ⟨a0, a1⟩
  · rw [if_neg e1, if_neg e1]
    by_cases e2 : kind = 2
    · rw [if_pos e2, if_pos e2]; exact ⟨b0, b1⟩
    · rw [if_neg e2, if_neg e2]; exact ⟨c0, c1⟩
theorem wf_gv {t : Qt.T} {s : Qt.St} (h : Qt.Wf t s) (env kind n : Int) : Qt.Wf t (Qt.gvS s env kind n) := by
  unfold Qt.gvS
  cases hx : Qt.at_ s env with
  | none => exact h
  | some x =>
    simp only
    by_cases hc : Qt.wrongB kind n = true ∨ x.h.g kind < n
    · rw [if_pos hc]; exact h
    · rw [if_neg hc]
      obtain ⟨_, _, hs⟩ := Qt.at_some hx
      have hle := h.le_at hs
      have hg := g_le hle kind
      obtain ⟨hw, hn⟩ := not_or.1 hc
      have h0 : 0 ≤ n := by
        unfold Qt.wrongB at hw
        simp at hw
        omega
      exact wf_set h hs (put_le hle kind _ (by omega) (by omega))
def alvR (C : List Cp.Rw) (r : Rt) : Bool := match C[r.cap.toNat]? with
  | some q => q.lv
  | none => false
def swS (s : Qt.St) (l : List Rt) : Qt.St := l.foldl (fun s r => Qt.gvS s r.env r.kind 1) s
theorem wf_sw {t : Qt.T} : ∀ (l : List Rt) {s : Qt.St}, Qt.Wf t s → Qt.Wf t (swS s l)
  | [], _, h => h
  | r :: l, s, h => wf_sw l (s := Qt.gvS s r.env r.kind 1) (wf_gv h _ _ _)
def rsA (C : List Cp.Rw) (Rs : List Rt) (k : Nat) : List Rt := (Rs.take k).filter (alvR C)
def rsS (s : Qt.St) (C : List Cp.Rw) (Rs : List Rt) (k : Nat) : Qt.St := swS s ((Rs.take k).filter fun r => !alvR C r)
theorem rsA_live {C : List Cp.Rw} {Rs : List Rt} {k : Nat} {p : Rt} (hp : Rs[k]? = some p) (h : alvR C p = true) : rsA C Rs (k + 1) = rsA C Rs k ++ [p] := by
  unfold rsA
  rw [List.take_add_one, hp, List.filter_append]
  simp [h]
theorem rsA_dead {C : List Cp.Rw} {Rs : List Rt} {k : Nat} {p : Rt} (hp : Rs[k]? = some p) (h : alvR C p = false) : rsA C Rs (k + 1) = rsA C Rs k := by
  unfold rsA
  rw [List.take_add_one, hp, List.filter_append]
  simp [h]
theorem rsS_live {s : Qt.St} {C : List Cp.Rw} {Rs : List Rt} {k : Nat} {p : Rt} (hp : Rs[k]? = some p) (h : alvR C p = true) : rsS s C Rs (k + 1) = rsS s C Rs k := by
  unfold rsS
  rw [List.take_add_one, hp, List.filter_append]
  simp [h]
theorem rsS_dead {s : Qt.St} {C : List Cp.Rw} {Rs : List Rt} {k : Nat} {p : Rt} (hp : Rs[k]? = some p) (h : alvR C p = false) : rsS s C Rs (k + 1) = Qt.gvS (rsS s C Rs k) p.env p.kind 1 := by
  unfold rsS swS
  rw [List.take_add_one, hp, List.filter_append, List.foldl_append]
  simp [h]
structure SqS (d X kb : Nat) (p : Rt) (W : World) : Prop where
  d1 : W.cell? ⟨d, 1, none⟩ = some (pq kb)
  x0 : W.cell? ⟨X, 0, none⟩ = some (i64 p.kind)
  x2 : W.cell? ⟨X, 2, none⟩ = some (i64 p.env)
theorem dd_set2 {V : World} {d : Nat} {a b c e : Value} (h : V.heap[d]? = some (.cells #[a, b, c, e] 79)) (u : Value) : (V.setCell ⟨d, 2, none⟩ u).heap[d]? = some (.cells #[a, b, u, e] 79) := by
  have := heap_setCell_same V d 2 _ 79 u h
  simpa using this
set_option maxHeartbeats 4000000 in
theorem sweep_ok {w : World} {base d : Nat} {y : Dx} {t : Qt.T} {s : Qt.St} {C : List Cp.Rw} {Rs : List Rt} {P : List Int} (h : Dd w base d y t s C Rs P) (hl : Rs.length ≤ 1000) (hcl : C.length ≤ 1000) (hr : ∀ r ∈ Rs, ∃ (i : Nat) (q : Cp.Rw), r.cap = i ∧ C[i]? = some q) :
    Calls Try.prog 66 #[pq d] w fun e w' => e = .returned (.tuple #[]) ∧ Dd w' base d y t (swS s (Rs.filter fun r => !alvR C r)) C (Rs.filter (alvR C)) P ∧ Df base y.pb w w' := by
  obtain ⟨ao0, cap0, pc, hbk, hown, hownP, hcap, hpc, hrow, _⟩ := h.row
  obtain ⟨aoc, capc, hbc, _, hcc, hcrow⟩ := h.cp.row
  obtain ⟨Q0, hQ0, hB0⟩ := h.bk
  have hlo := h.lo'
  have hdb := h.lo
  have hdl := h.lt
  have HH := hid h
  have HR := hid hr
  have b2 : w.cell? ⟨d, 2, none⟩ = some (.slice ao0 Rs.length cap0) := bkc hbk 2
  have HK := hid hbk
  have HKC : Hid (w.heap[y.kc]? = some (.cells #[.slice aoc C.length capc] 99)) := hbc
  have HOP := hid hownP
  have HROW := hid hrow
  have HCROW := hid hcrow
  obtain ⟨N, hN⟩ : ∃ N, N = Rs.length := ⟨_, rfl⟩
  have HN : Hid (N = Rs.length) := hN
  obtain ⟨M, hM⟩ : ∃ M, M = C.length := ⟨_, rfl⟩
  have HM : Hid (M = C.length) := hM
  have HE1 : Hid (Rs.filter (alvR C) = rsA C Rs N) := by unfold rsA; rw [hN, List.take_length]; exact hid rfl
  have HE2 : Hid (swS s (Rs.filter fun r => !alvR C r) = rsS s C Rs N) := by unfold rsS; rw [hN, List.take_length]; exact hid rfl
  rw [← hN] at b2 hl hcap HK
  rw [← hM] at HKC hcc hcl
  have hcI : (N : Int) ≤ cap0 := by omega
  have hNI : (N : Int) ≤ 1000 := by omega
  have hMI : (M : Int) ≤ 1000 := by omega
  have hcM : (M : Int) ≤ capc := by omega
  have HQ0 : Hid (∃ Q, Qt.Rel (rsS s C Rs 0) Q ∧ Qt.Rb w base y.kb t Q) := ⟨Q0, hQ0, hB0⟩
  have HO0 : Hid (w.ownsRow w.heap.size 101 4 (.slice none 0 0) (rsA C Rs 0).length (tcs (rsA C Rs 0))) := ⟨rfl, Or.inl ⟨rfl, rfl⟩⟩
  have HWF : Hid (∀ k, Qt.Wf t (rsS s C Rs k)) := fun k => wf_sw _ h.wf
  clear h hr hbk hown hownP hrow hbc hcrow hQ0 hB0 hN hM
  go_enter Try.func66, Try.ntmps66
  go_wp2_with fail
  go_loopw [2, 10] (fun v i wr => ∃ k : Nat, k ≤ N ∧ i = i64 k ∧ Hid (wr.ownsRow w.heap.size 101 4 v (rsA C Rs k).length (tcs (rsA C Rs k))) ∧ Hid (Fr base [126, 128] w wr) ∧ Hid (∃ Q, Qt.Rel (rsS s C Rs k) Q ∧ Qt.Rb wr base y.kb t Q)) (fun _ i _ => N - (intOf i).toNat)
  case atStart => exact ⟨0, by omega, rfl, HO0, Fr.refl _ _ _, HQ0⟩
  case round =>
    obtain ⟨k, hk, rfl, HO, HF, HQ⟩ := hrel
    obtain ⟨ao, cap, rfl, _⟩ := own_slice HO.out
    by_cases hlt : k < N
    · have hlt2 : k < Rs.length := by rw [← HN.out]; exact hlt
      obtain ⟨p, hp⟩ : ∃ p, Rs[k]? = some p := ⟨_, List.getElem?_eq_getElem hlt2⟩
      obtain ⟨g, rfl, hbg, hgl, hc⟩ := HROW.out k p hp
      obtain ⟨ci, q, hci, hq⟩ := HR.out p (List.mem_of_getElem? hp)
      obtain ⟨gc, rfl, hbgc, hgcl, _, _, hcc7⟩ := HCROW.out ci q hq
      have hciM : (ci : Int) < M := by have := (List.getElem?_eq_some_iff.1 hq).1; have := HM.out; omega
      have hcell : ∀ b o v, b < w.heap.size → (∃ A ty, w.heap[b]? = some (.cells A ty) ∧ ty ≠ 126 ∧ ty ≠ 128) → w.cell? ⟨b, o, none⟩ = some v → wr.cell? ⟨b, o, none⟩ = some v := fun b o v hb ⟨A, ty, hA, n1, n2⟩ hv => by
        rw [World.cell?_of_block (w := w) ((HF.out.kept b _ hA (by simp [keeps, n1, n2])).trans hA.symm)]
        exact hv
      have hgt : ∃ A ty, w.heap[g]? = some (.cells A ty) ∧ ty ≠ 126 ∧ ty ≠ 128 := by
        obtain ⟨ao', cap', pc', hb', ho', _⟩ := HH.out.row
        rcases ho'.2 with ⟨h1, h0⟩ | ⟨g', c', cur, hv, _, hgg, _⟩
        · omega
        · have := HK.out.symm.trans hb'
          simp only [Option.some.injEq, Obj.cells.injEq, Array.mk.injEq, List.cons.injEq, Value.slice.injEq, true_and, and_true] at this
          simp only [Value.slice.injEq] at hv
          have e := this.1.1.trans hv.1
          simp at e
          rw [e]
          exact ⟨cur, 101, hgg, by decide, by decide⟩
      have hgct : ∃ A ty, w.heap[gc]? = some (.cells A ty) ∧ ty ≠ 126 ∧ ty ≠ 128 := by
        obtain ⟨ao', cap', hb', ho', _⟩ := HH.out.cp.row
        rcases ho'.2 with ⟨h1, h0⟩ | ⟨g', c', cur, hv, _, hgg, _⟩
        · have := (List.getElem?_eq_some_iff.1 hq).1; omega
        · have := HKC.out.symm.trans hb'
          simp only [Option.some.injEq, Obj.cells.injEq, Array.mk.injEq, List.cons.injEq, Value.slice.injEq, and_true] at this
          simp only [Value.slice.injEq] at hv
          have e := this.1.trans hv.1
          simp at e
          rw [e]
          exact ⟨cur, 96, hgg, by decide, by decide⟩
      have c0 : wr.cell? ⟨g, k * 4, none⟩ = some (i64 p.kind) := hcell _ _ _ hgl hgt (hc 0 (by omega))
      have c1 : wr.cell? ⟨g, k * 4 + 1, none⟩ = some (i64 p.num) := hcell _ _ _ hgl hgt (hc 1 (by omega))
      have c2 : wr.cell? ⟨g, k * 4 + 2, none⟩ = some (i64 p.env) := hcell _ _ _ hgl hgt (hc 2 (by omega))
      have c3 : wr.cell? ⟨g, k * 4 + 3, none⟩ = some (i64 p.cap) := hcell _ _ _ hgl hgt (hc 3 (by omega))
      have HC7 : Hid (wr.cell? ⟨gc, ci * 8 + 7, none⟩ = some (.bool q.lv)) := hcell _ _ _ hgcl hgct (hcc7 7 (by omega))
      have HKr : Hid (wr.heap[d]? = some (ddO y.kc y.kb (.slice (some ⟨g, 0, none⟩) N cap0) (.slice (sla y.pb) P.length pc))) := HF.out.kept _ _ HK.out rfl
      have HKCr : Hid (wr.heap[y.kc]? = some (.cells #[.slice (some ⟨gc, 0, none⟩) M capc] 99)) := HF.out.kept _ _ HKC.out rfl
      have hAL : alvR C p = q.lv := by unfold alvR; rw [hci, Int.toNat_natCast, hq]
      have HAL := hid hAL
      have HCI : Hid (p.cap = (ci : Int)) := hci
      have HP := hid hp
      have hkI : (k : Int) < N := by omega
      have hcw := World.block_lt_of_cell? wr _ HC7.out
      have hdw := blk_lt HKr.out
      have hkcw := blk_lt HKCr.out
      simp only at hcw
      obtain ⟨pc0, hpc0⟩ : ∃ z, z = Value.slice (sla y.pb) P.length pc := ⟨_, rfl⟩
      rw [← hpc0] at HKr
      clear hc hcc7 hcell hgt hgct hp hq hci hAL hpc0
      go_upto_region 4 with fail
      have HXV : Hid ((wr.alloc (.cells #[i64 p.kind, i64 p.num, i64 p.env, i64 p.cap] 101)).heap[wr.heap.size]? = some (.cells #[i64 p.kind, i64 p.num, i64 p.env, i64 p.cap] 101)) := hlx wr _
      have HKV : Hid ((wr.alloc (.cells #[i64 p.kind, i64 p.num, i64 p.env, i64 p.cap] 101)).heap[d]? = some (ddO y.kc y.kb (.slice (some ⟨g, 0, none⟩) N cap0) pc0)) := bka HKr.out _
      have HCV : Hid ((wr.alloc (.cells #[i64 p.kind, i64 p.num, i64 p.env, i64 p.cap] 101)).heap[y.kc]? = some (.cells #[.slice (some ⟨gc, 0, none⟩) M capc] 99)) := bka HKCr.out _
      have HFV : Hid (Fr base [126, 128] w (wr.alloc (.cells #[i64 p.kind, i64 p.num, i64 p.env, i64 p.cap] 101))) := HF.out.alloc (Nat.le_trans hlo HF.out.size) _
      have HOV : Hid ((wr.alloc (.cells #[i64 p.kind, i64 p.num, i64 p.env, i64 p.cap] 101)).ownsRow w.heap.size 101 4 (.slice ao (rsA C Rs k).length cap) (rsA C Rs k).length (tcs (rsA C Rs k))) := HO.out.alloc _
      have HQV : Hid (∃ Q, Qt.Rel (rsS s C Rs k) Q ∧ Qt.Rb (wr.alloc (.cells #[i64 p.kind, i64 p.num, i64 p.env, i64 p.cap] 101)) base y.kb t Q) := by
        obtain ⟨Q, hQ, hB⟩ := HQ.out
        exact ⟨Q, hQ, hB.below (bl1 wr _)⟩
      have HC8 : Hid ((wr.alloc (.cells #[i64 p.kind, i64 p.num, i64 p.env, i64 p.cap] 101)).cell? ⟨gc, ci * 8 + 7, none⟩ = some (.bool q.lv)) := by
        rw [World.cell?_of_block (w := wr) (Below.heap_alloc _ _ _ hcw)]
        exact HC7.out
      have hXw : w.heap.size ≤ wr.heap.size := HF.out.size
      clear c0 c1 c2 c3 HC7 HKr HKCr HF HO HQ hcw hdw hkcw
      generalize wr.alloc (.cells #[i64 p.kind, i64 p.num, i64 p.env, i64 p.cap] 101) = V at *
      generalize wr.heap.size = X at *
      have d0 : V.cell? ⟨d, 0, none⟩ = some (pq y.kc) := bkc HKV.out 0
      have e0 : V.cell? ⟨y.kc, 0, none⟩ = some (.slice (some ⟨gc, 0, none⟩) M capc) := bkc HCV.out 0
      have x3 : V.cell? ⟨X, 3, none⟩ = some (i64 (ci : Int)) := by rw [← HCI.out]; exact bkc HXV.out 3
      have l7 : V.cell? ⟨gc, ci * 8 + 7, none⟩ = some (.bool q.lv) := HC8.out
      clear HC8
      cases hlv : q.lv with
      | true =>
        rw [hlv] at l7
        have HA : Hid (rsA C Rs (k + 1) = rsA C Rs k ++ [p]) := rsA_live HP.out (by rw [HAL.out]; exact hlv)
        have HSn : Hid (rsS s C Rs (k + 1) = rsS s C Rs k) := rsS_live HP.out (by rw [HAL.out]; exact hlv)
        clear hlv HAL
        go_quiet (fail)
        have HXu : Hid ((V.drewN nq).heap[X]? = some (.cells #[i64 p.kind, i64 p.num, i64 p.env, i64 p.cap] 101)) := HXV.out
        have HFu : Hid (Fr base [126, 128] w (V.drewN nq)) := HFV.out.drewN nq
        have HOu : Hid ((V.drewN nq).ownsRow w.heap.size 101 4 (.slice ao (rsA C Rs k).length cap) (rsA C Rs k).length (tcs (rsA C Rs k))) := Qt.own_keep HOV.out (fun _ _ h => h)
        have HQu : Hid (∃ Q, Qt.Rel (rsS s C Rs k) Q ∧ Qt.Rb (V.drewN nq) base y.kb t Q) := by
          obtain ⟨Q, hQ, hB⟩ := HQV.out
          exact ⟨Q, hQ, hB.same (fun _ _ h _ => h)⟩
        clear d0 e0 x3 l7 HXV HKV HCV HFV HOV HQV
        generalize V.drewN nq = U at *
        go_upto_region 5 with fail
        have x0 : U.cell? ⟨X, 0, none⟩ = some (i64 p.kind) := bkc HXu.out 0
        have x1 : U.cell? ⟨X, 1, none⟩ = some (i64 p.num) := bkc HXu.out 1
        have x2 : U.cell? ⟨X, 2, none⟩ = some (i64 p.env) := bkc HXu.out 2
        have x3 : U.cell? ⟨X, 3, none⟩ = some (i64 p.cap) := bkc HXu.out 3
        have hAl : (rsA C Rs k).length ≤ 1000 := Nat.le_trans (List.length_filter_le _ _) (by rw [List.length_take]; omega)
        obtain ⟨ao2, cap2, w6, hrun, hown6, hfr6, hfar⟩ := Cp.app_far (te := 101) under77 info101 rfl (by omega) (by omega) HOu.out p.l rfl (tl_one p) (by omega) HFu.out.size
        have HRUN := hid hrun
        have HO6 : Hid (w6.ownsRow w.heap.size 101 4 (.slice ao2 ((rsA C Rs k).length + 1) cap2) (rsA C Rs (k + 1)).length (tcs (rsA C Rs (k + 1)))) := by
          rw [HA.out, List.length_append, tcs_app]
          exact hown6
        have HQ6 : Hid (∃ Q, Qt.Rel (rsS s C Rs (k + 1)) Q ∧ Qt.Rb w6 base y.kb t Q) := by
          obtain ⟨Q, hQ, hB⟩ := HQu.out
          rw [HSn.out]
          exact ⟨Q, hQ, hB.fr hfr6 rfl rfl⟩
        have HF6 : Hid (Fr base [126, 128] w w6) := by
          refine ⟨HFu.out.below.trans (hfr6.below.mono hlo), fun q o hq ho => ?_⟩
          have h1 := HFu.out.kept q o hq ho
          rw [hfar q (blk_lt h1) (fun e => by have := (HOu.out.lt q e.symm).1; have := blk_lt hq; omega)]
          exact h1
        clear hrun hown6 hfr6 hfar HXu HFu HOu HQu HA HSn
        generalize (rsA C Rs k).length = n at *
        go_wp2_with (at_builtin; refine wpList_app_run rfl (.tmp 26) (.tmp 28) 77 rfl _ _ rfl rfl 77 rfl _ _ HRUN.out ?_)
        exact ⟨⟨k + 1, by omega, by go_num, HO6, HF6, HQ6⟩, by simp [intOf]; omega⟩
      | false =>
        rw [hlv] at l7
        have HA : Hid (rsA C Rs (k + 1) = rsA C Rs k) := rsA_dead HP.out (by rw [HAL.out]; exact hlv)
        have HSn : Hid (rsS s C Rs (k + 1) = Qt.gvS (rsS s C Rs k) p.env p.kind 1) := rsS_dead HP.out (by rw [HAL.out]; exact hlv)
        clear hlv HAL
        go_quiet (fail)
        have HXu : Hid ((V.drewN nq).heap[X]? = some (.cells #[i64 p.kind, i64 p.num, i64 p.env, i64 p.cap] 101)) := HXV.out
        have HKu : Hid ((V.drewN nq).heap[d]? = some (ddO y.kc y.kb (.slice (some ⟨g, 0, none⟩) N cap0) pc0)) := HKV.out
        have HFu : Hid (Fr base [126, 128] w (V.drewN nq)) := HFV.out.drewN nq
        have HOu : Hid ((V.drewN nq).ownsRow w.heap.size 101 4 (.slice ao (rsA C Rs k).length cap) (rsA C Rs k).length (tcs (rsA C Rs k))) := Qt.own_keep HOV.out (fun _ _ h => h)
        have HQu : Hid (∃ Q, Qt.Rel (rsS s C Rs k) Q ∧ Qt.Rb (V.drewN nq) base y.kb t Q) := by
          obtain ⟨Q, hQ, hB⟩ := HQV.out
          exact ⟨Q, hQ, hB.same (fun _ _ h _ => h)⟩
        clear d0 e0 x3 l7 HXV HKV HCV HFV HOV HQV
        generalize V.drewN nq = U at *
        go_upto_region 6 with fail
        obtain ⟨Q, hQ, hB⟩ := HQu.out
        have HGV := hid (Qt.rgive_rel (w := U.drew) (hB.same (fun _ _ h _ => h)) hQ (HWF.out k) p.env p.kind 1)
        clear hQ hB HQu
        have HS : Hid (SqS d X y.kb p U.drew) := ⟨bkc HKu.out 1, bkc HXu.out 0, bkc HXu.out 2⟩
        refine wp_region_noPanic ?_
        refine wrl (SqS d X y.kb p) 9 (by kernel_rfl) ?_
        refine wkp 0 30 (.pointer (some ⟨d, 0, none⟩)) [1, 2, 3] rfl HS.out (fun W hW => by have x0 := hW.x0; have x2 := hW.x2; have d1 := hW.d1; go_simp) ?_
        refine wkp 1 31 (.pointer (some ⟨d, 0, none⟩)) [2, 3] rfl HS.out (fun W hW => by have x0 := hW.x0; have x2 := hW.x2; have d1 := hW.d1; go_simp) ?_
        refine wkp 2 32 (.pointer (some ⟨d, 1, none⟩)) [3] rfl HS.out (fun W hW => by have x0 := hW.x0; have x2 := hW.x2; have d1 := hW.d1; go_simp) ?_
        refine wk 3 33 (.pointer (some ⟨y.kb, 0, none⟩)) rfl HS.out (fun W hW => by have x0 := hW.x0; have x2 := hW.x2; have d1 := hW.d1; go_simp) ?_
        refine wkp 4 34 (.pointer (some ⟨X, 2, none⟩)) [5] rfl HS.out (fun W hW => by have x0 := hW.x0; have x2 := hW.x2; have d1 := hW.d1; go_simp) ?_
        refine wk 5 35 (i64 p.env) rfl HS.out (fun W hW => by have x0 := hW.x0; have x2 := hW.x2; have d1 := hW.d1; go_simp) ?_
        refine wkp 6 36 (.pointer (some ⟨X, 0, none⟩)) [7, 8] rfl HS.out (fun W hW => by have x0 := hW.x0; have x2 := hW.x2; have d1 := hW.d1; go_simp) ?_
        refine wkp 7 37 (i64 p.kind) [8] rfl HS.out (fun W hW => by have x0 := hW.x0; have x2 := hW.x2; have d1 := hW.d1; go_simp) ?_
        refine wk 8 38 (.agg #[i64 p.kind, i64 1]) rfl HS.out (fun W hW => by have x0 := hW.x0; have x2 := hW.x2; have d1 := hW.d1; go_simp) ?_
        simp only [Act.put, sA, sZ, sS]
        refine wo 9 rfl (fun K hK => ?_)
        go_simp
        refine HGV.out.mono ?_
        rintro e w4 ⟨rfl, Q', hQ', hB', hf'⟩
        have HF4 : Hid (Fr base [126, 128] w w4) := HFu.out.trans (Qt.fr_drew hf')
        have HO4 : Hid (w4.ownsRow w.heap.size 101 4 (.slice ao (rsA C Rs k).length cap) (rsA C Rs k).length (tcs (rsA C Rs k))) := Qt.own_keep HOu.out (fun q A hA => hf'.kept q _ hA rfl)
        have HQ4 : Hid (∃ Q, Qt.Rel (rsS s C Rs (k + 1)) Q ∧ Qt.Rb w4 base y.kb t Q) := by rw [HSn.out]; exact ⟨Q', hQ', hB'⟩
        clear hQ' hB' hf' HGV
        go_simp
        refine hK.out _ _ (fun h => absurd rfl h) ?_
        clear hK K
        refine wdd ?_
        refine NoPanic.normal ?_
        clear HOu HKu HXu HFu
        go_wp2_with fail
        exact ⟨⟨k + 1, by omega, by go_num, by rw [HA.out]; exact HO4, HF4, HQ4⟩, by simp [intOf]; omega⟩
    · obtain rfl : k = N := by omega
      have HKr : Hid (wr.heap[d]? = some (ddO y.kc y.kb (.slice ao0 k cap0) (.slice (sla y.pb) P.length pc))) := HF.out.kept _ _ HK.out rfl
      have d2 : wr.cell? ⟨d, 2, none⟩ = some (.slice ao0 k cap0) := bkc HKr.out 2
      have df : wr.frozen? ⟨d, 2, none⟩ = false := bkf HKr.out 2
      obtain ⟨n, hn⟩ : ∃ n, n = (rsA C Rs k).length := ⟨_, rfl⟩
      have HO2 : Hid (wr.ownsRow w.heap.size 101 4 (.slice ao n cap) (rsA C Rs k).length (tcs (rsA C Rs k))) := by rw [hn]; exact HO
      rw [← hn]
      clear HO hn
      go_wp2_with fail
      go_end0
      rw [HE1.out, HE2.out]
      have hs2 := dd_set2 HKr.out (.slice ao n cap)
      have hkp : ∀ (i : Nat) (A : Array Value) (ty : TypeId), wr.heap[i]? = some (.cells A ty) → ty ≠ 79 → (wr.setCell ⟨d, 2, none⟩ (.slice ao n cap)).heap[i]? = some (.cells A ty) := fun i A ty hA hne => by
        rw [Below.heap_setCell _ _ _ _ (fun e => by have e' : i = d := e; rw [e', HKr.out] at hA; simp at hA; exact hne hA.2.symm)]
        exact hA
      have hkw : ∀ (i : Nat) (A : Array Value) (ty : TypeId), w.heap[i]? = some (.cells A ty) → ty ≠ 79 → ty ≠ 126 → ty ≠ 128 → (wr.setCell ⟨d, 2, none⟩ (.slice ao n cap)).heap[i]? = some (.cells A ty) := fun i A ty hA h1 h2 h3 => hkp i A ty (HF.out.kept i _ hA (by simp [keeps, h2, h3])) h1
      obtain ⟨Q, hQ, hB⟩ := HQ.out
      refine ⟨rfl, ⟨hdb, ⟨_, pc, hs2, own_lower (Qt.own_keep HO2.out (fun i A hA => hkp i A _ hA (by decide))) hlo, Qt.own_keep HOP.out (fun i A hA => hkw i A _ hA (by decide) (by decide) (by decide))⟩, HH.out.cp.same (fun i o hi ho => ?_), ⟨Q, hQ, hB.same (fun i o hi ho => ?_)⟩, HWF.out k⟩, ⟨HF.out.below.setCell hdb _, fun i o hi ho => ?_⟩⟩
      · obtain ⟨A, rfl | rfl⟩ := ho
        · exact hkw i A _ hi (by decide) (by decide) (by decide)
        · exact hkw i A _ hi (by decide) (by decide) (by decide)
      · obtain ⟨A, rfl | rfl⟩ := ho
        · exact hkp i A _ hi (by decide)
        · exact hkp i A _ hi (by decide)
      · have h1 : keeps [126, 128] o = true := by
          cases o with
          | cells A ty fr =>
            simp only [ownD, Bool.or_eq_false_iff] at ho
            simp only [keeps]
            simp
            simp at ho
            exact ⟨ho.1.1.1.1.2, ho.1.1.1.2⟩
          | _ => rfl
        have h2 := HF.out.kept i o hi h1
        rw [Below.heap_setCell _ _ _ _ (fun e => by
          have e' : i = d := e
          rw [e', HKr.out] at h2
          cases h2
          simp [ownD] at ho)]
        exact h2
end Go.Proofs.Ytnknhencobhjdaa
