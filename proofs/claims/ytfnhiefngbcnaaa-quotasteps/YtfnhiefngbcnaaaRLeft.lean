/- imagoref10.Book's Left and Free: their contracts; no statement is proved in this text. -/
import Derived.Test.YtfnhiefngbcnaaaRTake
namespace Go.Proofs.Ytfnhiefngbcnaaa
open Go.ChangeShapes Go.WideShapes Go.ChangeAt Go.RowKit Go.Deep
attribute [local go_sem ↓] Go.wp_at_zero Go.wp_at_succ

/-- What has become of the world: the result's block, and the block of 'out'. -/
structure Lf (w wr : World) (t : T) : Prop where
  bel : Below w.heap.size w wr
  res : wr.heap[w.heap.size]? = some (triO zT)
  num : wr.heap[w.heap.size + 1]? = some (triO t)
theorem Lf.set {w wr : World} {t t' : T} (h : Lf w wr t) (j : Nat) (v : Int) (he : (#[i64 t.a, i64 t.b, i64 t.c] : Array Value).setIfInBounds j (i64 v) = #[i64 t'.a, i64 t'.b, i64 t'.c]) : Lf w (wr.setCell ⟨w.heap.size + 1, j, none⟩ (i64 v)) t' :=
  ⟨h.bel.setCell (by simp) _, by rw [heap_setCell_other wr _ _ _ (by simp)]; exact h.res, by rw [heap_setCell_same wr _ j _ 22 _ h.num, he]⟩
theorem Lf.drew {w wr : World} {t : T} (h : Lf w wr t) : Lf w wr.drew t := ⟨Below.drew h.bel, h.res, h.num⟩
theorem Lf.alloc {w wr : World} {t : T} (h : Lf w wr t) (o : Obj) : Lf w (wr.alloc o) t :=
  ⟨h.bel.alloc h.bel.size o, blk_alloc h.res o, blk_alloc h.num o⟩
def mixz (j : Nat) (q h : T) : T := ⟨if 0 < j then q.a - h.a else 0, if 1 < j then q.b - h.b else 0, if 2 < j then q.c - h.c else 0⟩
set_option maxRecDepth 100000 in
set_option maxHeartbeats 4000000 in
theorem rleft_ok {w : World} {base r : Nat} {t : T} {L : List Pr} (h : Rb w base r t L) (hl : L.length ≤ 3) (k : Nat) (p : Pr) (hp : L[k]? = some p) (hle : Le p.h p.q) (h64 : Le p.q ⟨64, 64, 64⟩) :
    Calls Try.prog 17 #[.pointer (some ⟨r, 0, none⟩), i64 k] w fun e w' => e = .returned (sub p.q p.h).v ∧ Below w.heap.size w w' := by
  have a0 := hle.a0; have a1 := hle.a1; have b0 := hle.b0; have b1 := hle.b1; have c0 := hle.c0; have c1 := hle.c1
  have a2 := h64.a1; have b2 := h64.b1; have c2 := h64.c1
  simp only at a2 b2 c2
  obtain ⟨ao, cap, hbk, _, hrow⟩ := h.row
  obtain ⟨g, rfl, hbg, hgl, hgr, hfz, hc⟩ := hrow k p hp
  have hrl := h.lt
  have hkl : (k : Int) < 3 := by have := (List.getElem?_eq_some_iff.1 hp).1; omega
  have hkN : (k : Int) < L.length := by have := (List.getElem?_eq_some_iff.1 hp).1; omega
  obtain ⟨N, hN⟩ : ∃ N, N = L.length := ⟨_, rfl⟩
  rw [← hN] at hbk hkN
  have e3 : w.cell? ⟨r, 3, none⟩ = some (.slice (some ⟨g, 0, none⟩) N cap) := blk_cell hbk 3
  have HC : Hid (∀ U, Below w.heap.size w U → U.cell? ⟨r, 3, none⟩ = some (.slice (some ⟨g, 0, none⟩) N cap) ∧ ∀ j, j < 7 → U.cell? ⟨g, k * 7 + j, none⟩ = p.c[j]?) := fun U hU => ⟨by rw [hU.cell (by exact hrl)]; exact e3, fun j hj => by rw [hU.cell (by exact hgl)]; exact hc j hj⟩
  have HL0 : Hid (Lf w ((w.alloc (triO zT)).alloc (triO zT)) zT) := ⟨((Below.refl _ _).alloc (Nat.le_refl _) _).alloc (by simp) _, blk_alloc (heap_last w _) _, heap_last2 w _ _⟩
  clear h hbk hrow hp hle h64 hc hN hfz e3
  go_enter Try.func17, Try.ntmps17
  go_wp2_with fail
  go_loopw [6] (fun i wr => ∃ j : Nat, j ≤ 3 ∧ i = i64 j ∧ Lf w wr (mixz j p.q p.h)) (fun i _ => 3 - (intOf i).toNat)
  case atStart => exact ⟨0, by omega, rfl, HL0.out⟩
  case round =>
    obtain ⟨j, hj, rfl, hm⟩ := hrel
    have HM : Hid (Lf w wr (mixz j p.q p.h)) := hm
    obtain ⟨y3, hy⟩ := HC.out wr hm.bel
    have hnum := hm.num
    have hres := hm.res
    have hzl := blk_lt hnum
    have hfz : ∀ o, wr.frozen? ⟨w.heap.size + 1, o, none⟩ = false := blk_frozen hnum
    have hcl : ∀ o, wr.cell? ⟨w.heap.size + 1, o, none⟩ = (#[i64 (mixz j p.q p.h).a, i64 (mixz j p.q p.h).b, i64 (mixz j p.q p.h).c] : Array Value)[o]? := blk_cell hnum
    have hne : r ≠ w.heap.size + 1 := by omega
    have hng : g ≠ w.heap.size + 1 := by omega
    obtain rfl | rfl | rfl | rfl : j = 0 ∨ j = 1 ∨ j = 2 ∨ j = 3 := by omega
    · have d0 : wr.cell? ⟨w.heap.size + 1, 0, none⟩ = some (i64 0) := hcl 0
      have z1 : wr.cell? ⟨g, k * 7 + 1 + 0, none⟩ = some (i64 p.q.a) := hy 1 (by omega)
      have z2 : wr.cell? ⟨g, k * 7 + 4 + 0, none⟩ = some (i64 p.h.a) := hy 4 (by omega)
      have z3 : wr.cell? ⟨g, k * 7 + 1, none⟩ = some (i64 p.q.a) := hy 1 (by omega)
      have z4 : wr.cell? ⟨g, k * 7 + 4, none⟩ = some (i64 p.h.a) := hy 4 (by omega)
      have HUP : Hid (∀ U : World, Below w.heap.size w U → (U.cell? ⟨r, 3, none⟩ = some (.slice (some ⟨g, 0, none⟩) N cap) ∧ U.cell? ⟨g, k * 7 + 1 + 0, none⟩ = some (i64 p.q.a) ∧ U.cell? ⟨g, k * 7 + 4 + 0, none⟩ = some (i64 p.h.a) ∧ U.cell? ⟨g, k * 7 + 1, none⟩ = some (i64 p.q.a) ∧ U.cell? ⟨g, k * 7 + 4, none⟩ = some (i64 p.h.a))) := fun U hU => ⟨(HC.out U hU).1, (HC.out U hU).2 1 (by omega), (HC.out U hU).2 4 (by omega), (HC.out U hU).2 1 (by omega), (HC.out U hU).2 4 (by omega)⟩
      clear hcl hy hm hnum hres
      go_wp2_with fail
      go_region_held3 (fun U => U.cell? ⟨r, 3, none⟩ = some (.slice (some ⟨g, 0, none⟩) N cap) ∧ U.cell? ⟨g, k * 7 + 1 + 0, none⟩ = some (i64 p.q.a) ∧ U.cell? ⟨g, k * 7 + 4 + 0, none⟩ = some (i64 p.h.a) ∧ U.cell? ⟨g, k * 7 + 1, none⟩ = some (i64 p.q.a) ∧ U.cell? ⟨g, k * 7 + 4, none⟩ = some (i64 p.h.a)) (first | exact HUP.out _ (Below.drew HM.out.bel) | exact HUP.out _ (Below.drew (HM.out.bel.setCell (by simp) _)) | exact HUP.out _ ((Below.drew HM.out.bel).setCell (by simp) _)) (fail)
      all_goals go_wp2_with fail
      exact ⟨⟨1, by omega, by go_num, (HM.out.set 0 (p.q.a - p.h.a) rfl).drew⟩, by simp [intOf]⟩
    · have d0 : wr.cell? ⟨w.heap.size + 1, 1, none⟩ = some (i64 0) := hcl 1
      have z1 : wr.cell? ⟨g, k * 7 + 1 + 1, none⟩ = some (i64 p.q.b) := hy 2 (by omega)
      have z2 : wr.cell? ⟨g, k * 7 + 4 + 1, none⟩ = some (i64 p.h.b) := hy 5 (by omega)
      have z3 : wr.cell? ⟨g, k * 7 + 2, none⟩ = some (i64 p.q.b) := hy 2 (by omega)
      have z4 : wr.cell? ⟨g, k * 7 + 5, none⟩ = some (i64 p.h.b) := hy 5 (by omega)
      have HUP : Hid (∀ U : World, Below w.heap.size w U → (U.cell? ⟨r, 3, none⟩ = some (.slice (some ⟨g, 0, none⟩) N cap) ∧ U.cell? ⟨g, k * 7 + 1 + 1, none⟩ = some (i64 p.q.b) ∧ U.cell? ⟨g, k * 7 + 4 + 1, none⟩ = some (i64 p.h.b) ∧ U.cell? ⟨g, k * 7 + 2, none⟩ = some (i64 p.q.b) ∧ U.cell? ⟨g, k * 7 + 5, none⟩ = some (i64 p.h.b))) := fun U hU => ⟨(HC.out U hU).1, (HC.out U hU).2 2 (by omega), (HC.out U hU).2 5 (by omega), (HC.out U hU).2 2 (by omega), (HC.out U hU).2 5 (by omega)⟩
      clear hcl hy hm hnum hres
      go_wp2_with fail
      go_region_held3 (fun U => U.cell? ⟨r, 3, none⟩ = some (.slice (some ⟨g, 0, none⟩) N cap) ∧ U.cell? ⟨g, k * 7 + 1 + 1, none⟩ = some (i64 p.q.b) ∧ U.cell? ⟨g, k * 7 + 4 + 1, none⟩ = some (i64 p.h.b) ∧ U.cell? ⟨g, k * 7 + 2, none⟩ = some (i64 p.q.b) ∧ U.cell? ⟨g, k * 7 + 5, none⟩ = some (i64 p.h.b)) (first | exact HUP.out _ (Below.drew HM.out.bel) | exact HUP.out _ (Below.drew (HM.out.bel.setCell (by simp) _)) | exact HUP.out _ ((Below.drew HM.out.bel).setCell (by simp) _)) (fail)
      all_goals go_wp2_with fail
      exact ⟨⟨2, by omega, by go_num, (HM.out.set 1 (p.q.b - p.h.b) rfl).drew⟩, by simp [intOf]⟩
    · have d0 : wr.cell? ⟨w.heap.size + 1, 2, none⟩ = some (i64 0) := hcl 2
      have z1 : wr.cell? ⟨g, k * 7 + 1 + 2, none⟩ = some (i64 p.q.c) := hy 3 (by omega)
      have z2 : wr.cell? ⟨g, k * 7 + 4 + 2, none⟩ = some (i64 p.h.c) := hy 6 (by omega)
      have z3 : wr.cell? ⟨g, k * 7 + 3, none⟩ = some (i64 p.q.c) := hy 3 (by omega)
      have z4 : wr.cell? ⟨g, k * 7 + 6, none⟩ = some (i64 p.h.c) := hy 6 (by omega)
      have HUP : Hid (∀ U : World, Below w.heap.size w U → (U.cell? ⟨r, 3, none⟩ = some (.slice (some ⟨g, 0, none⟩) N cap) ∧ U.cell? ⟨g, k * 7 + 1 + 2, none⟩ = some (i64 p.q.c) ∧ U.cell? ⟨g, k * 7 + 4 + 2, none⟩ = some (i64 p.h.c) ∧ U.cell? ⟨g, k * 7 + 3, none⟩ = some (i64 p.q.c) ∧ U.cell? ⟨g, k * 7 + 6, none⟩ = some (i64 p.h.c))) := fun U hU => ⟨(HC.out U hU).1, (HC.out U hU).2 3 (by omega), (HC.out U hU).2 6 (by omega), (HC.out U hU).2 3 (by omega), (HC.out U hU).2 6 (by omega)⟩
      clear hcl hy hm hnum hres
      go_wp2_with fail
      go_region_held3 (fun U => U.cell? ⟨r, 3, none⟩ = some (.slice (some ⟨g, 0, none⟩) N cap) ∧ U.cell? ⟨g, k * 7 + 1 + 2, none⟩ = some (i64 p.q.c) ∧ U.cell? ⟨g, k * 7 + 4 + 2, none⟩ = some (i64 p.h.c) ∧ U.cell? ⟨g, k * 7 + 3, none⟩ = some (i64 p.q.c) ∧ U.cell? ⟨g, k * 7 + 6, none⟩ = some (i64 p.h.c)) (first | exact HUP.out _ (Below.drew HM.out.bel) | exact HUP.out _ (Below.drew (HM.out.bel.setCell (by simp) _)) | exact HUP.out _ ((Below.drew HM.out.bel).setCell (by simp) _)) (fail)
      all_goals go_wp2_with fail
      exact ⟨⟨3, by omega, by go_num, (HM.out.set 2 (p.q.c - p.h.c) rfl).drew⟩, by simp [intOf]⟩
    · have HS : Hid (Lf w wr (sub p.q p.h)) := HM.out
      have d0 : wr.cell? ⟨w.heap.size + 1, 0, none⟩ = some (i64 (sub p.q p.h).a) := hcl 0
      have d1 : wr.cell? ⟨w.heap.size + 1, 1, none⟩ = some (i64 (sub p.q p.h).b) := hcl 1
      have d2 : wr.cell? ⟨w.heap.size + 1, 2, none⟩ = some (i64 (sub p.q p.h).c) := hcl 2
      have e0 : wr.cell? ⟨w.heap.size, 0, none⟩ = some (i64 0) := blk_cell hres 0
      have e1 : wr.cell? ⟨w.heap.size, 1, none⟩ = some (i64 0) := blk_cell hres 1
      have e2 : wr.cell? ⟨w.heap.size, 2, none⟩ = some (i64 0) := blk_cell hres 2
      have rf : ∀ o, wr.frozen? ⟨w.heap.size, o, none⟩ = false := blk_frozen hres
      generalize hSE : sub p.q p.h = S at *
      have HSE : Hid (sub p.q p.h = S) := hSE
      clear hSE
      clear hcl hy hm hnum hres
      go_wp2_with fail
      refine bodyPost_ret (v := S.v) (by simp [results, Try.results17, go_sem, e0, e1, e2]) rfl ⟨by rw [HSE.out], ?_⟩
      exact ((((HS.out.bel).setCell (Nat.le_refl _) _).setCell (Nat.le_refl _) _).setCell (Nat.le_refl _) _)
end Go.Proofs.Ytfnhiefngbcnaaa
