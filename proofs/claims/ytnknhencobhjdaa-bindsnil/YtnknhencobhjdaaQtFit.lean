/- quota.fit: its contract; no statement is proved in this text. -/
import Derived.Test.YtnknhencobhjdaaQtLess
namespace Go.Proofs.Ytnknhencobhjdaa.Qt
open Go.ChangeShapes Go.WideShapes Go.ChangeAt Go.RowKit Go.Deep

def fits (t : T) : List T → Bool
  | [] => true
  | u :: r => if t.a < u.a ∨ t.b < u.b ∨ t.c < u.c then false else fits (sub t u) r
theorem fits_no {t u : T} {r : List T} (h : t.a < u.a ∨ t.b < u.b ∨ t.c < u.c) : fits t (u :: r) = false := by unfold fits; rw [if_pos h]
theorem fits_go {t u : T} {r : List T} (ha : u.a ≤ t.a) (hb : u.b ≤ t.b) (hc : u.c ≤ t.c) : fits t (u :: r) = fits (sub t u) r := by rw [fits, if_neg (by omega)]
structure Ft (w wr : World) (t : T) : Prop where
  bel : Below w.heap.size w wr
  num : wr.heap[w.heap.size + 1]? = some (triO t)
  sz : w.heap.size + 1 < wr.heap.size
theorem Ft.set {w wr : World} {t t' : T} (h : Ft w wr t) (j : Nat) (v : Int) (he : (#[i64 t.a, i64 t.b, i64 t.c] : Array Value).setIfInBounds j (i64 v) = #[i64 t'.a, i64 t'.b, i64 t'.c]) : Ft w (wr.setCell ⟨w.heap.size + 1, j, none⟩ (i64 v)) t' :=
  ⟨h.bel.setCell (by simp) _, by rw [heap_setCell_same wr _ j _ 22 _ h.num, he], by simpa using h.sz⟩
theorem Ft.alloc {w wr : World} {t : T} (h : Ft w wr t) (o : Obj) : Ft w (wr.alloc o) t :=
  ⟨h.bel.alloc h.bel.size o, blk_alloc h.num o, by have := h.sz; simp; omega⟩

set_option maxRecDepth 100000 in
set_option maxHeartbeats 2000000 in
theorem fit_ok (w : World) (t : T) (ao : Option Addr) (cap : Nat) (ts : List T) (hI : TSl w ao ts) (hl : ts.length ≤ 4) (ht : Le t ⟨64, 64, 64⟩) (hs : ∀ u ∈ ts, 0 ≤ u.a ∧ 0 ≤ u.b ∧ 0 ≤ u.c) :
    Calls Try.prog 79 #[t.v, .slice ao ts.length cap] w fun e w' => e = .returned (.bool (fits t ts)) ∧ Below w.heap.size w w' := by
  have HI : Hid (TSl w ao ts) := hI
  have HT : Hid (Le t ⟨64, 64, 64⟩) := ht
  have HU : Hid (∀ u ∈ ts, 0 ≤ u.a ∧ 0 ≤ u.b ∧ 0 ≤ u.c) := hs
  clear hI ht hs
  obtain ⟨N, hN⟩ : ∃ N, N = ts.length := ⟨_, rfl⟩
  have HN : Hid (N = ts.length) := hN
  rw [← hN] at hl ⊢
  clear hN
  have HL0 : Hid (Ft w ((w.alloc (triO t)).alloc (triO t)) t) := ⟨((Below.refl _ _).alloc (Nat.le_refl _) _).alloc (by simp) _, heap_last2 w _ _, by simp⟩
  go_enter Try.func79, Try.ntmps79
  go_wp2_with fail
  go_loopw [13] (fun i wr => ∃ (k : Nat) (v : T), k ≤ N ∧ i = i64 k ∧ Ft w wr v ∧ Le v ⟨64, 64, 64⟩ ∧ Hid (fits t ts = fits v (ts.drop k))) (fun i _ => N - (intOf i).toNat)
  case atStart => exact ⟨0, t, by omega, rfl, HL0.out, HT.out, rfl⟩
  case round =>
    obtain ⟨k, v, hk, rfl, hls, hv, HF⟩ := hrel
    by_cases hlt : k < N
    · have hlt2 : k < ts.length := by rw [← HN.out]; exact hlt
      obtain ⟨b, rfl, hbl, c0, c1, c2⟩ := (HI.out.below hls.bel).at hlt2
      obtain ⟨x1, x2, x3⟩ := HU.out _ (List.getElem_mem hlt2)
      have HD : Hid (ts.drop k = ts[k] :: ts.drop (k + 1)) := List.drop_eq_getElem_cons hlt2
      generalize ts[k] = u at *
      obtain ⟨y1, y2, y3, y4, y5, y6⟩ := hv
      simp only at y2 y4 y6
      have hk3 : (k : Int) ≤ 4 := by omega
      have HLS : Hid (Ft w wr v) := hls
      clear hls
      go_wp2_with fail
      go_loopw [18] (fun i wq => ∃ j : Nat, j ≤ 3 ∧ i = i64 j ∧ Ft w wq (mix j v u) ∧ Hid ((0 < j → u.a ≤ v.a) ∧ (1 < j → u.b ≤ v.b) ∧ (2 < j → u.c ≤ v.c))) (fun i _ => 3 - (intOf i).toNat)
      case atStart => exact ⟨0, by omega, rfl, HLS.out.alloc _, by constructor; omega; constructor <;> omega⟩
      case round =>
        obtain ⟨j, hj, rfl, hm, HJ⟩ := hrel
        have HM : Hid (Ft w wr (mix j v u)) := hm
        have hnum := hm.num
        have hfz : ∀ o, wr.frozen? ⟨w.heap.size + 1, o, none⟩ = false := blk_frozen hnum
        have hcl : ∀ o, wr.cell? ⟨w.heap.size + 1, o, none⟩ = (#[i64 (mix j v u).a, i64 (mix j v u).b, i64 (mix j v u).c] : Array Value)[o]? := blk_cell hnum
        clear hm hnum
        obtain rfl | rfl | rfl | rfl : j = 0 ∨ j = 1 ∨ j = 2 ∨ j = 3 := by omega
        · have ix := idx0 u.a u.b u.c
          have d0 : wr.cell? ⟨w.heap.size + 1, 0, none⟩ = some (i64 v.a) := hcl 0
          clear hcl
          by_cases hg : v.a < u.a
          · have HE : Hid (fits t ts = false) := by
              show _ = _
              rw [HF.out, HD.out]
              exact fits_no (by omega)
            have HB : Hid (Below w.heap.size w wr) := HM.out.bel
            go_wp2_with fail
            go_ret
            exact ⟨by rw [HE.out]; rfl, HB.out⟩
          · obtain ⟨j1, j2, j3⟩ := HJ.out
            have HJ2 : Hid ((0 < 1 → u.a ≤ v.a) ∧ (1 < 1 → u.b ≤ v.b) ∧ (2 < 1 → u.c ≤ v.c)) := ⟨by omega, by omega, by omega⟩
            clear j1 j2 j3
            go_wp2_with fail
            go_roundw
            case rel => exact ⟨1, by omega, by go_num, HM.out.set 0 (v.a - u.a) rfl, HJ2⟩
            case measure => simp [intOf]
        · have ix := idx1 u.a u.b u.c
          have d0 : wr.cell? ⟨w.heap.size + 1, 1, none⟩ = some (i64 v.b) := hcl 1
          clear hcl
          by_cases hg : v.b < u.b
          · have HE : Hid (fits t ts = false) := by
              show _ = _
              rw [HF.out, HD.out]
              exact fits_no (by omega)
            have HB : Hid (Below w.heap.size w wr) := HM.out.bel
            go_wp2_with fail
            go_ret
            exact ⟨by rw [HE.out]; rfl, HB.out⟩
          · obtain ⟨j1, j2, j3⟩ := HJ.out
            have HJ2 : Hid ((0 < 2 → u.a ≤ v.a) ∧ (1 < 2 → u.b ≤ v.b) ∧ (2 < 2 → u.c ≤ v.c)) := ⟨by omega, by omega, by omega⟩
            clear j1 j2 j3
            go_wp2_with fail
            go_roundw
            case rel => exact ⟨2, by omega, by go_num, HM.out.set 1 (v.b - u.b) rfl, HJ2⟩
            case measure => simp [intOf]
        · have ix := idx2 u.a u.b u.c
          have d0 : wr.cell? ⟨w.heap.size + 1, 2, none⟩ = some (i64 v.c) := hcl 2
          clear hcl
          by_cases hg : v.c < u.c
          · have HE : Hid (fits t ts = false) := by
              show _ = _
              rw [HF.out, HD.out]
              exact fits_no (by omega)
            have HB : Hid (Below w.heap.size w wr) := HM.out.bel
            go_wp2_with fail
            go_ret
            exact ⟨by rw [HE.out]; rfl, HB.out⟩
          · obtain ⟨j1, j2, j3⟩ := HJ.out
            have HJ2 : Hid ((0 < 3 → u.a ≤ v.a) ∧ (1 < 3 → u.b ≤ v.b) ∧ (2 < 3 → u.c ≤ v.c)) := ⟨by omega, by omega, by omega⟩
            clear j1 j2 j3
            go_wp2_with fail
            go_roundw
            case rel => exact ⟨3, by omega, by go_num, HM.out.set 2 (v.c - u.c) rfl, HJ2⟩
            case measure => simp [intOf]
        · obtain ⟨j1, j2, j3⟩ := HJ.out
          have g1 := j1 (by omega)
          have g2 := j2 (by omega)
          have g3 := j3 (by omega)
          have HS : Hid (Ft w wr (sub v u)) := HM.out
          have HG : Hid (fits t ts = fits (sub v u) (ts.drop (k + 1))) := by
            show _ = _
            rw [HF.out, HD.out, fits_go g1 g2 g3]
          have HV : Hid (Le (sub v u) ⟨64, 64, 64⟩) := ⟨by simp only [sub]; omega, by simp only [sub]; omega, by simp only [sub]; omega, by simp only [sub]; omega, by simp only [sub]; omega, by simp only [sub]; omega⟩
          clear hcl j1 j2 j3
          go_wp2_with fail
          exact ⟨⟨k + 1, sub v u, by omega, by go_num, HS.out, HV.out, HG⟩, by simp [intOf]; omega⟩
    · have HE : Hid (fits t ts = true) := by
        have := HF.out
        rw [List.drop_eq_nil_of_le (by have := HN.out; omega)] at this
        exact this
      have HB : Hid (Below w.heap.size w wr) := hls.bel
      clear hls hv
      go_wp2_with fail
      go_ret
      exact ⟨by rw [HE.out]; rfl, HB.out⟩
end Go.Proofs.Ytnknhencobhjdaa.Qt
