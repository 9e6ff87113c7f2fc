/- imagoref10.Book's Free: its contract; no statement is proved in this text. -/
import Derived.Test.YtfnhiefngbcnaaaRLeft
namespace Go.Proofs.Ytfnhiefngbcnaaa
open Go.ChangeShapes Go.WideShapes Go.ChangeAt Go.RowKit Go.Deep

abbrev prO (p : Pr) : Obj := .cells #[i64 p.env, i64 p.q.a, i64 p.q.b, i64 p.q.c, i64 p.h.a, i64 p.h.b, i64 p.h.c] 42
set_option maxRecDepth 100000 in
set_option maxHeartbeats 4000000 in
theorem rfree_ok {w : World} {base r : Nat} {t : T} {L : List Pr} (h : Rb w base r t L) (hl : L.length ≤ 3) (ht : Small 64 t) (hs : ∀ u ∈ L.map Pr.h, Small 64 u) :
    Calls Try.prog 13 #[.pointer (some ⟨r, 0, none⟩)] w fun e w' => e = .returned (lessT t (L.map Pr.h)).v ∧ Below w.heap.size w w' := by
  have HT : Hid (∀ k, k ≤ (L.map Pr.h).length → Small (64 + 64 * k) (lessT t ((L.map Pr.h).take k))) := small_take ht hs
  have HU : Hid (∀ u ∈ L.map Pr.h, Small 64 u) := hs
  obtain ⟨ao, cap, hbk, _, _⟩ := h.row
  have hrl := h.lt
  have HR : Hid (Rb w base r t L) := h
  have HK : Hid (w.heap[r]? = some (.cells #[i64 t.a, i64 t.b, i64 t.c, .slice ao L.length cap] 33)) := hbk
  obtain ⟨N, hN⟩ : ∃ N, N = L.length := ⟨_, rfl⟩
  have HN : Hid (N = L.length) := hN
  have b0 : w.cell? ⟨r, 0, none⟩ = some (i64 t.a) := blk_cell hbk 0
  have b1 : w.cell? ⟨r, 1, none⟩ = some (i64 t.b) := blk_cell hbk 1
  have b2 : w.cell? ⟨r, 2, none⟩ = some (i64 t.c) := blk_cell hbk 2
  have b3 : w.cell? ⟨r, 3, none⟩ = some (.slice ao N cap) := by rw [hN]; exact blk_cell hbk 3
  have HL0 : Hid (Lf w ((w.alloc (triO zT)).alloc (triO t)) t) := ⟨((Below.refl _ _).alloc (Nat.le_refl _) _).alloc (by simp) _, blk_alloc (heap_last w _) _, heap_last2 w _ _⟩
  rw [← hN] at hl
  clear h ht hs hbk hN
  go_enter Try.func13, Try.ntmps13
  go_wp2_with fail
  go_loopw [16] (fun i wr => ∃ k : Nat, k ≤ N ∧ i = i64 k ∧ Lf w wr (lessT t ((L.map Pr.h).take k))) (fun i _ => N - (intOf i).toNat)
  case atStart => exact ⟨0, by omega, rfl, HL0.out⟩
  case round =>
    obtain ⟨k, hk, rfl, hls⟩ := hrel
    by_cases hlt : k < N
    · have hlt2 : k < L.length := by rw [← HN.out]; exact hlt
      have hlt3 : k < (L.map Pr.h).length := by rw [List.length_map]; exact hlt2
      obtain ⟨p, hp⟩ : ∃ p, L[k]? = some p := ⟨_, List.getElem?_eq_getElem hlt2⟩
      have hpu : (L.map Pr.h)[k] = p.h := by
        rw [List.getElem?_eq_getElem hlt2] at hp
        cases hp
        simp
      obtain ⟨ao', cap', hbk', _, hrow⟩ := (HR.out.below hls.bel).row
      have hs := (blk_below HK.out hls.bel).symm.trans hbk'
      simp only [Option.some.injEq, Obj.cells.injEq, Array.mk.injEq, List.cons.injEq, Value.slice.injEq, true_and, and_true] at hs
      obtain ⟨rfl, rfl⟩ := hs
      obtain ⟨g, rfl, hbg, hgl, _, _, hc⟩ := hrow k p hp
      have c0 : wr.cell? ⟨g, k * 7, none⟩ = some (i64 p.env) := hc 0 (by omega)
      have c1 : wr.cell? ⟨g, k * 7 + 1, none⟩ = some (i64 p.q.a) := hc 1 (by omega)
      have c2 : wr.cell? ⟨g, k * 7 + 2, none⟩ = some (i64 p.q.b) := hc 2 (by omega)
      have c3 : wr.cell? ⟨g, k * 7 + 3, none⟩ = some (i64 p.q.c) := hc 3 (by omega)
      have c4 : wr.cell? ⟨g, k * 7 + 4, none⟩ = some (i64 p.h.a) := hc 4 (by omega)
      have c5 : wr.cell? ⟨g, k * 7 + 5, none⟩ = some (i64 p.h.b) := hc 5 (by omega)
      have c6 : wr.cell? ⟨g, k * 7 + 6, none⟩ = some (i64 p.h.c) := hc 6 (by omega)
      have HX := HU.out _ (List.getElem_mem hlt3)
      have HY := HT.out k (by omega)
      have HF : Hid (lessT t ((L.map Pr.h).take (k + 1)) = sub (lessT t ((L.map Pr.h).take k)) p.h) := by
        have := lessT_next t (L.map Pr.h) k hlt3
        rw [hpu] at this
        exact this
      rw [hpu] at HX
      generalize lessT t ((L.map Pr.h).take k) = v at *
      unfold Small at HX HY
      obtain ⟨x1, x2, x3, x4, x5, x6⟩ := HX
      obtain ⟨y1, y2, y3, y4, y5, y6⟩ := HY
      have hk3 : (k : Int) ≤ 3 := by omega
      have HLS : Hid (Lf w wr v) := hls
      have hB : w.heap.size + 1 < wr.heap.size := blk_lt hls.num
      obtain ⟨B, hBB⟩ : ∃ B, B = wr.heap.size := ⟨_, rfl⟩
      have HBB : Hid (B = wr.heap.size) := hBB
      have HB0 : Hid ((wr.alloc (prO p)).heap[B]? = some (prO p)) := by rw [hBB]; exact heap_last wr _
      have hB1 : w.heap.size + 1 < B := by rw [hBB]; exact hB
      clear hls hrow hc hp hpu hbk' hBB
      go_wp2_with fail
      rw [show wr.heap.size = B from HBB.out.symm]
      go_loopw [6] (fun i wq => ∃ j : Nat, j ≤ 3 ∧ i = i64 j ∧ Lf w wq (mix j v p.h) ∧ wq.heap[B]? = some (prO p)) (fun i _ => 3 - (intOf i).toNat)
      case atStart => exact ⟨0, by omega, rfl, HLS.out.alloc _, HB0.out⟩
      case round =>
        obtain ⟨j, hj, rfl, hm, hpb⟩ := hrel
        have HM : Hid (Lf w wr (mix j v p.h)) := hm
        have HPB : Hid (wr.heap[B]? = some (prO p)) := hpb
        have hnum := hm.num
        have hfz : ∀ o, wr.frozen? ⟨w.heap.size + 1, o, none⟩ = false := blk_frozen hnum
        have hcl : ∀ o, wr.cell? ⟨w.heap.size + 1, o, none⟩ = (#[i64 (mix j v p.h).a, i64 (mix j v p.h).b, i64 (mix j v p.h).c] : Array Value)[o]? := blk_cell hnum
        have s4 : wr.cell? ⟨B, 4, none⟩ = some (i64 p.h.a) := blk_cell hpb 4
        have s5 : wr.cell? ⟨B, 5, none⟩ = some (i64 p.h.b) := blk_cell hpb 5
        have s6 : wr.cell? ⟨B, 6, none⟩ = some (i64 p.h.c) := blk_cell hpb 6
        have hBne : B ≠ w.heap.size + 1 := by omega
        clear hm hnum hpb
        obtain rfl | rfl | rfl | rfl : j = 0 ∨ j = 1 ∨ j = 2 ∨ j = 3 := by omega
        · have d0 : wr.cell? ⟨w.heap.size + 1, 0, none⟩ = some (i64 v.a) := hcl 0
          clear hcl
          go_wp2_with fail
          go_region
          all_goals go_wp2_with fail
          all_goals exact ⟨⟨1, by omega, by go_num, (HM.out.set 0 (v.a - p.h.a) rfl).drew, (by show (wr.setCell _ _).heap[B]? = _; rw [heap_setCell_other _ _ _ _ hBne]; exact HPB.out)⟩, by simp [intOf]⟩
        · have d0 : wr.cell? ⟨w.heap.size + 1, 1, none⟩ = some (i64 v.b) := hcl 1
          clear hcl
          go_wp2_with fail
          go_region
          all_goals go_wp2_with fail
          all_goals exact ⟨⟨2, by omega, by go_num, (HM.out.set 1 (v.b - p.h.b) rfl).drew, (by show (wr.setCell _ _).heap[B]? = _; rw [heap_setCell_other _ _ _ _ hBne]; exact HPB.out)⟩, by simp [intOf]⟩
        · have d0 : wr.cell? ⟨w.heap.size + 1, 2, none⟩ = some (i64 v.c) := hcl 2
          clear hcl
          go_wp2_with fail
          go_region
          all_goals go_wp2_with fail
          all_goals exact ⟨⟨3, by omega, by go_num, (HM.out.set 2 (v.c - p.h.c) rfl).drew, (by show (wr.setCell _ _).heap[B]? = _; rw [heap_setCell_other _ _ _ _ hBne]; exact HPB.out)⟩, by simp [intOf]⟩
        · have HS : Hid (Lf w wr (sub v p.h)) := HM.out
          clear hcl
          go_wp2_with fail
          exact ⟨⟨k + 1, by omega, by go_num, by rw [HF.out]; exact HS.out⟩, by simp [intOf]; omega⟩
    · have HE : Hid (Lf w wr (lessT t (L.map Pr.h))) := by
        have := hls
        rw [List.take_of_length_le (by rw [List.length_map]; have := HN.out; omega)] at this
        exact this
      clear hls
      generalize hv : lessT t (L.map Pr.h) = v at *
      have HV : Hid (lessT t (L.map Pr.h) = v) := hv
      clear hv
      have hnum := HE.out.num
      have hres := HE.out.res
      have d0 : wr.cell? ⟨w.heap.size + 1, 0, none⟩ = some (i64 v.a) := blk_cell hnum 0
      have d1 : wr.cell? ⟨w.heap.size + 1, 1, none⟩ = some (i64 v.b) := blk_cell hnum 1
      have d2 : wr.cell? ⟨w.heap.size + 1, 2, none⟩ = some (i64 v.c) := blk_cell hnum 2
      have e0 : wr.cell? ⟨w.heap.size, 0, none⟩ = some (i64 0) := blk_cell hres 0
      have e1 : wr.cell? ⟨w.heap.size, 1, none⟩ = some (i64 0) := blk_cell hres 1
      have e2 : wr.cell? ⟨w.heap.size, 2, none⟩ = some (i64 0) := blk_cell hres 2
      have hfz : ∀ o, wr.frozen? ⟨w.heap.size, o, none⟩ = false := blk_frozen hres
      clear hnum hres
      go_wp2_with fail
      refine bodyPost_ret (v := v.v) (by simp [results, Try.results13, go_sem, e0, e1, e2]) rfl ⟨by rw [HV.out], ?_⟩
      exact ((((HE.out.bel).setCell (Nat.le_refl _) _).setCell (Nat.le_refl _) _).setCell (Nat.le_refl _) _)
end Go.Proofs.Ytfnhiefngbcnaaa
