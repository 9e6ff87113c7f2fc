/- The document's Seek, Fork; no statement is proved in this text. -/
import Derived.Test.YtdgkajhlofpdeaaDc
namespace Go.Proofs.Ytdgkajhlofpdeaa
open Go.ChangeShapes Go.WideShapes Go.ChangeAt Go.RowKit Go.Deep
attribute [local go_sem ↓] Go.wp_at_zero Go.wp_at_succ

theorem own_setg {w : World} {base : Nat} {e : TypeId} {size n m cap g : Nat} {xs : List Value} (h : w.ownsRow base e size (.slice (some ⟨g, 0, none⟩) n cap) m xs) {i : Nat} (v : Value) : (w.setCell ⟨g, i, none⟩ v).ownsRow base e size (.slice (some ⟨g, 0, none⟩) n cap) m (xs.set i v) := by
  obtain ⟨hl, h3⟩ := h
  rcases h3 with ⟨hn, _⟩ | ⟨g', cap', cur, he, hbg, hgg, hc1, hc2, hc3, htk⟩
  · simp at hn
  · simp only [Value.slice.injEq, Option.some.injEq, Addr.mk.injEq] at he
    obtain ⟨⟨rfl, _⟩, hnm, rfl⟩ := he
    refine ⟨by rw [List.length_set]; exact hl, .inr ⟨g, cap, _, by rw [hnm], hbg, heap_setCell_same w g _ _ e _ hgg, hc1, hc2, by simpa using hc3, ?_⟩⟩
    rw [← htk, Array.toList_setIfInBounds, List.take_set]

theorem ecn_set (L : List En) (i : Nat) (x : En) (hi : i < L.length) : (((((ecn L).set (i * 5) (i64 x.1.1)).set (i * 5 + 1) (i64 x.1.2)).set (i * 5 + 2) (i64 x.2.1)).set (i * 5 + 3) (i64 x.2.2.1)).set (i * 5 + 4) (i64 x.2.2.2) = ecn (L.set i x) := by
  induction L generalizing i with
  | nil => simp at hi
  | cons y L ih =>
    cases i with
    | zero => rfl
    | succ i =>
      have := ih i (by simpa using hi)
      rw [show (i + 1) * 5 = i * 5 + 5 by omega]
      show i64 y.1.1 :: i64 y.1.2 :: i64 y.2.1 :: i64 y.2.2.1 :: i64 y.2.2.2 :: (((((ecn L).set (i * 5) (i64 x.1.1)).set (i * 5 + 1) (i64 x.1.2)).set (i * 5 + 2) (i64 x.2.1)).set (i * 5 + 3) (i64 x.2.2.1)).set (i * 5 + 4) (i64 x.2.2.2) = _
      rw [this]
      rfl
abbrev put5 (w : World) (g o : Nat) (x : En) : World := ((((w.setCell ⟨g, o, none⟩ (i64 x.1.1)).setCell ⟨g, o + 1, none⟩ (i64 x.1.2)).setCell ⟨g, o + 2, none⟩ (i64 x.2.1)).setCell ⟨g, o + 3, none⟩ (i64 x.2.2.1)).setCell ⟨g, o + 4, none⟩ (i64 x.2.2.2)
theorem own_put5 {w : World} {base n cap g i : Nat} {L : List En} (h : w.ownsRow base 42 5 (.slice (some ⟨g, 0, none⟩) n cap) n (ecn L)) (_hn : n = L.length) (hi : i < L.length) (x : En) : (put5 w g (i * 5) x).ownsRow base 42 5 (.slice (some ⟨g, 0, none⟩) n cap) n (ecn (L.set i x)) := by
  rw [← ecn_set L i x hi]
  exact own_setg (own_setg (own_setg (own_setg (own_setg h _) _) _) _) _
theorem touch_put5 (w : World) (g o : Nat) (x : En) : Touch g w (put5 w g o x) := ((((Touch.setCell (p := ⟨g, o, none⟩) (Touch.refl g w) rfl _).setCell (p := ⟨g, o + 1, none⟩) rfl _).setCell (p := ⟨g, o + 2, none⟩) rfl _).setCell (p := ⟨g, o + 3, none⟩) rfl _).setCell (p := ⟨g, o + 4, none⟩) rfl _
set_option maxRecDepth 100000 in
set_option maxHeartbeats 1600000 in
theorem rseek_none {w : World} {base r : Nat} {S : St} (h : Rb w base r (lst S)) (hI : Ins S) (p s off : Int) (hS : S (p, s) = none) : Calls Try.prog 30 #[pq r, i64 p, i64 s, i64 off] w fun e w' => e = .returned (i64 6) ∧ Rb w' base r (lst S) ∧ Fr base [29, 42] w w' := by
  have HH := hid h
  have HAt := hid (rat_ok h (by have := lst_len S; omega) p s)
  rw [pos_none hI _ hS] at HAt
  clear h hI hS
  go_enter Try.func30, Try.ntmps30
  go_wp2_with fail
  refine HAt.out.mono ?_
  rintro e w1 ⟨rfl, hb1⟩
  have HB1 := hid hb1
  clear hb1
  go_wp2_with fail
  go_ret
  exact ⟨rfl, HH.out.below HB1.out, fr42 HH.out HB1.out⟩
structure SqR (r g n cap X : Nat) (p s a b c : Int) (W : World) : Prop where
  one : W.heap[r]? = some (.cells #[.slice (some ⟨g, 0, none⟩) n cap] 29)
  two : W.heap[X]? = some (enO p s a b c 42)
set_option maxRecDepth 100000 in
set_option maxHeartbeats 1600000 in
theorem rseek_bad {w : World} {base r : Nat} {S : St} (h : Rb w base r (lst S)) (hI : Ins S) (p s off a b c : Int) (hS : S (p, s) = some (a, b, c)) (hr : rightF p s a b off = false) : Calls Try.prog 30 #[pq r, i64 p, i64 s, i64 off] w fun e w' => e = .returned (i64 1) ∧ Rb w' base r (lst S) ∧ Fr base [29, 42] w w' := by
  have HH := hid h
  have HAt := hid (rat_ok h (by have := lst_len S; omega) p s)
  obtain ⟨i, hi, hpos, hget⟩ := pos_some hI _ _ hS
  rw [hpos] at HAt
  obtain ⟨hlo, ao, cap, hbk, hown⟩ := h
  have hcap := own_cap hown
  obtain ⟨g, rfl, hbg, cur, hgg, _⟩ := own_zero hown (by omega)
  obtain ⟨g', o', hg', hgl, c0, c1, c2, c3, c4⟩ := Rd5.own hown i _ hget
  simp only [Option.some.injEq, Addr.mk.injEq, and_true] at hg'
  obtain ⟨rfl, rfl⟩ := hg'
  rw [Nat.zero_add] at c0 c1 c2 c3 c4
  have b0 : w.cell? ⟨r, 0, none⟩ = some (.slice (some ⟨g, 0, none⟩) (lst S).length cap) := blk_cell hbk 0
  have hrl := blk_lt hbk
  have hI2 : (lst S)[i]'hi = ((p, s), (a, b, c)) := by rw [List.getElem?_eq_getElem hi] at hget; exact Option.some.inj hget
  have HSet : Hid (lst (upd S (p, s) (some (a, b, off))) = (lst S).set i ((p, s), (a, b, off))) := lst_set hI (p, s) (a, b, c) (a, b, off) i hi hI2 hS
  obtain ⟨N, hN⟩ : ∃ N, N = (lst S).length := ⟨_, rfl⟩
  have HN := hid hN
  have HBk := hid hbk
  have HOw := hid hown
  rw [← hN] at b0 hi hcap HBk HOw
  have hiI : (i : Int) < N := by omega
  have hi0 : ¬ ((i : Int) < 0) := by omega
  have hne : g ≠ r := fun e => by subst e; rw [hgg] at hbk; simp at hbk
  have hlen := lst_len S
  rw [← hN] at hlen
  clear hI hS hbk hown hget hpos hN hI2 hgg
  go_enter Try.func30, Try.ntmps30
  go_wp2_with fail
  refine HAt.out.mono ?_
  rintro e w1 ⟨rfl, hb1⟩
  have HB1 := hid hb1
  have d0 : w1.cell? ⟨g, i * 5, none⟩ = some (i64 p) := (hb1.cell (p := ⟨g, i * 5, none⟩) hgl).trans c0
  have d1 : w1.cell? ⟨g, i * 5 + 1, none⟩ = some (i64 s) := (hb1.cell (p := ⟨g, i * 5 + 1, none⟩) hgl).trans c1
  have d2 : w1.cell? ⟨g, i * 5 + 2, none⟩ = some (i64 a) := (hb1.cell (p := ⟨g, i * 5 + 2, none⟩) hgl).trans c2
  have d3 : w1.cell? ⟨g, i * 5 + 3, none⟩ = some (i64 b) := (hb1.cell (p := ⟨g, i * 5 + 3, none⟩) hgl).trans c3
  have d4 : w1.cell? ⟨g, i * 5 + 4, none⟩ = some (i64 c) := (hb1.cell (p := ⟨g, i * 5 + 4, none⟩) hgl).trans c4
  have e0 := (hb1.cell (p := ⟨r, 0, none⟩) hrl).trans b0
  have HX1 := hid (heap_last w1 (enO p s a b off 42))
  have HB2 : Hid (Below w.heap.size w (w1.alloc (enO p s a b off 42))) := hb1.alloc hb1.size _
  have HR := hid (rright_ok (w1.alloc (enO p s a b off 42)) p s a b off)
  rw [hr] at HR
  clear hb1 HAt c0 c1 c2 c3 c4 b0 hr
  go_wp2_with fail
  refine HR.out.mono ?_
  rintro e w2 ⟨rfl, hb2⟩
  have HB3 : Hid (Below w.heap.size w w2) := HB2.out.trans (hb2.mono HB2.out.size)
  clear hb2
  go_wp2_with fail
  go_ret
  exact ⟨rfl, HH.out.below HB3.out, fr42 HH.out HB3.out⟩
set_option maxRecDepth 100000 in
set_option maxHeartbeats 1600000 in
theorem rseek_good {w : World} {base r : Nat} {S : St} (h : Rb w base r (lst S)) (hI : Ins S) (p s off a b c : Int) (hS : S (p, s) = some (a, b, c)) (hr : rightF p s a b off = true) : Calls Try.prog 30 #[pq r, i64 p, i64 s, i64 off] w fun e w' => e = .returned (i64 0) ∧ Rb w' base r (lst (upd S (p, s) (some (a, b, off)))) ∧ Fr base [29, 42] w w' := by
  have HH := hid h
  have HAt := hid (rat_ok h (by have := lst_len S; omega) p s)
  obtain ⟨i, hi, hpos, hget⟩ := pos_some hI _ _ hS
  rw [hpos] at HAt
  obtain ⟨hlo, ao, cap, hbk, hown⟩ := h
  have hcap := own_cap hown
  obtain ⟨g, rfl, hbg, cur, hgg, _⟩ := own_zero hown (by omega)
  obtain ⟨g', o', hg', hgl, c0, c1, c2, c3, c4⟩ := Rd5.own hown i _ hget
  simp only [Option.some.injEq, Addr.mk.injEq, and_true] at hg'
  obtain ⟨rfl, rfl⟩ := hg'
  rw [Nat.zero_add] at c0 c1 c2 c3 c4
  have b0 : w.cell? ⟨r, 0, none⟩ = some (.slice (some ⟨g, 0, none⟩) (lst S).length cap) := blk_cell hbk 0
  have hrl := blk_lt hbk
  have hI2 : (lst S)[i]'hi = ((p, s), (a, b, c)) := by rw [List.getElem?_eq_getElem hi] at hget; exact Option.some.inj hget
  have HSet : Hid (lst (upd S (p, s) (some (a, b, off))) = (lst S).set i ((p, s), (a, b, off))) := lst_set hI (p, s) (a, b, c) (a, b, off) i hi hI2 hS
  obtain ⟨N, hN⟩ : ∃ N, N = (lst S).length := ⟨_, rfl⟩
  have HN := hid hN
  have HBk := hid hbk
  have HOw := hid hown
  rw [← hN] at b0 hi hcap HBk HOw
  have hiI : (i : Int) < N := by omega
  have hi0 : ¬ ((i : Int) < 0) := by omega
  have hne : g ≠ r := fun e => by subst e; rw [hgg] at hbk; simp at hbk
  have hlen := lst_len S
  rw [← hN] at hlen
  clear hI hS hbk hown hget hpos hN hI2 hgg
  go_enter Try.func30, Try.ntmps30
  go_wp2_with fail
  refine HAt.out.mono ?_
  rintro e w1 ⟨rfl, hb1⟩
  have HB1 := hid hb1
  have d0 : w1.cell? ⟨g, i * 5, none⟩ = some (i64 p) := (hb1.cell (p := ⟨g, i * 5, none⟩) hgl).trans c0
  have d1 : w1.cell? ⟨g, i * 5 + 1, none⟩ = some (i64 s) := (hb1.cell (p := ⟨g, i * 5 + 1, none⟩) hgl).trans c1
  have d2 : w1.cell? ⟨g, i * 5 + 2, none⟩ = some (i64 a) := (hb1.cell (p := ⟨g, i * 5 + 2, none⟩) hgl).trans c2
  have d3 : w1.cell? ⟨g, i * 5 + 3, none⟩ = some (i64 b) := (hb1.cell (p := ⟨g, i * 5 + 3, none⟩) hgl).trans c3
  have d4 : w1.cell? ⟨g, i * 5 + 4, none⟩ = some (i64 c) := (hb1.cell (p := ⟨g, i * 5 + 4, none⟩) hgl).trans c4
  have e0 := (hb1.cell (p := ⟨r, 0, none⟩) hrl).trans b0
  have HX1 := hid (heap_last w1 (enO p s a b off 42))
  have HB2 : Hid (Below w.heap.size w (w1.alloc (enO p s a b off 42))) := hb1.alloc hb1.size _
  have HR := hid (rright_ok (w1.alloc (enO p s a b off 42)) p s a b off)
  rw [hr] at HR
  clear hb1 HAt c0 c1 c2 c3 c4 b0 hr
  go_wp2_with fail
  refine HR.out.mono ?_
  rintro e w2 ⟨rfl, hb2⟩
  have HB3 : Hid (Below w.heap.size w w2) := HB2.out.trans (hb2.mono HB2.out.size)
  have HX2 := hid (blk_below HX1.out hb2)
  have HBk2 := hid (blk_below HBk.out HB3.out)
  have HOw2 : Hid (w2.ownsRow base 42 5 (.slice (some ⟨g, 0, none⟩) N cap) N (ecn (lst S))) := own_keep1 HOw.out fun k hk => HB3.out.block k (HOw.out.lt k hk).2
  have HFin : Hid (Rb (put5 w2.drew g (i * 5) ((p, s), (a, b, off))) base r (lst (upd S (p, s) (some (a, b, off))))) := by
    rw [HSet.out]
    refine ⟨hlo, some ⟨g, 0, none⟩, cap, ?_, ?_⟩
    · rw [(touch_put5 w2.drew g (i * 5) ((p, s), (a, b, off))).block r (blk_lt HBk2.out) (Ne.symm hne), List.length_set, ← HN.out]
      exact HBk2.out
    · rw [List.length_set, ← HN.out]
      exact own_put5 (w := w2.drew) HOw2.out HN.out (by rw [← HN.out]; exact hi) _
  have HF : Hid (Fr base [29, 42] w (put5 w2.drew g (i * 5) ((p, s), (a, b, off)))) := by
    obtain ⟨g2, hg2, _, cur2, hcur2, _⟩ := own_zero HOw2.out (by omega)
    cases hg2
    exact (fr42 HH.out HB3.out).trans (Fr.of_drewN (n := 1) (Fr.of_touch (touch_put5 w2.drew g (i * 5) ((p, s), (a, b, off))) hcur2 rfl hbg))
  have x0 : w2.cell? ⟨g, i * 5, none⟩ = some (i64 p) := (hb2.cell (p := ⟨g, i * 5, none⟩) (by show g < _; have := HB1.out.size; simp; omega)).trans (cell_keep d0 _)
  have x1 : w2.cell? ⟨g, i * 5 + 1, none⟩ = some (i64 s) := (hb2.cell (p := ⟨g, i * 5 + 1, none⟩) (by show g < _; have := HB1.out.size; simp; omega)).trans (cell_keep d1 _)
  have x2 : w2.cell? ⟨g, i * 5 + 2, none⟩ = some (i64 a) := (hb2.cell (p := ⟨g, i * 5 + 2, none⟩) (by show g < _; have := HB1.out.size; simp; omega)).trans (cell_keep d2 _)
  have x3 : w2.cell? ⟨g, i * 5 + 3, none⟩ = some (i64 b) := (hb2.cell (p := ⟨g, i * 5 + 3, none⟩) (by show g < _; have := HB1.out.size; simp; omega)).trans (cell_keep d3 _)
  have x4 : w2.cell? ⟨g, i * 5 + 4, none⟩ = some (i64 c) := (hb2.cell (p := ⟨g, i * 5 + 4, none⟩) (by show g < _; have := HB1.out.size; simp; omega)).trans (cell_keep d4 _)
  have xf : ∀ j, w2.frozen? ⟨g, j, none⟩ = false := by
    obtain ⟨g2, hg2, _, cur2, hcur2, _⟩ := own_zero HOw2.out (by omega)
    cases hg2
    exact blk_frozen hcur2
  clear hb2 d0 d1 d2 d3 d4
  go_upto_region 8 with fail
  obtain ⟨X, hX⟩ : ∃ X, X = w1.heap.size := ⟨_, rfl⟩
  rw [← hX] at HX2 ⊢
  clear hX
  have HS : Hid (SqR r g N cap X p s a b off w2.drew) := ⟨HBk2.out, HX2.out⟩
  refine wp_region_noPanic ?_
  refine wp_region_last (SqR r g N cap X p s a b off) 7 (by kernel_rfl) ?_
  refine wpL_take 0 29 (pq r) [] rfl rfl (by kernel_rfl) (by decide) (by kernel_rfl) (by kernel_rfl) (by kernel_rfl) (fun _ _ _ h => h) HS.out (by rfl) (fun W hW => by have o0 : W.cell? ⟨r, 0, none⟩ = some (.slice (some ⟨g, 0, none⟩) N cap) := blk_cell hW.one 0; obtain ⟨y0, y1, y2, y3, y4⟩ := five_cells hW.two; go_simp) ?_
  simp only [Act.put, List.setIfInBounds_toArray, List.set_cons_zero, List.set_cons_succ]
  refine wpL_take 1 30 (pq r) [] rfl rfl (by kernel_rfl) (by decide) (by kernel_rfl) (by kernel_rfl) (by kernel_rfl) (fun _ _ _ h => h) HS.out (by rfl) (fun W hW => by have o0 : W.cell? ⟨r, 0, none⟩ = some (.slice (some ⟨g, 0, none⟩) N cap) := blk_cell hW.one 0; obtain ⟨y0, y1, y2, y3, y4⟩ := five_cells hW.two; go_simp) ?_
  simp only [Act.put, List.setIfInBounds_toArray, List.set_cons_zero, List.set_cons_succ]
  refine wpL_take 2 31 (.pointer (some ⟨r, 0, none⟩)) [] rfl rfl (by kernel_rfl) (by decide) (by kernel_rfl) (by kernel_rfl) (by kernel_rfl) (fun _ _ _ h => h) HS.out (by rfl) (fun W hW => by have o0 : W.cell? ⟨r, 0, none⟩ = some (.slice (some ⟨g, 0, none⟩) N cap) := blk_cell hW.one 0; obtain ⟨y0, y1, y2, y3, y4⟩ := five_cells hW.two; go_simp) ?_
  simp only [Act.put, List.setIfInBounds_toArray, List.set_cons_zero, List.set_cons_succ]
  refine wpL_take 3 32 (.slice (some ⟨g, 0, none⟩) N cap) [] rfl rfl (by kernel_rfl) (by decide) (by kernel_rfl) (by kernel_rfl) (by kernel_rfl) (fun _ _ _ h => h) HS.out (by rfl) (fun W hW => by have o0 : W.cell? ⟨r, 0, none⟩ = some (.slice (some ⟨g, 0, none⟩) N cap) := blk_cell hW.one 0; obtain ⟨y0, y1, y2, y3, y4⟩ := five_cells hW.two; go_simp) ?_
  simp only [Act.put, List.setIfInBounds_toArray, List.set_cons_zero, List.set_cons_succ]
  refine wpL_take 4 33 (i64 i) [] rfl rfl (by kernel_rfl) (by decide) (by kernel_rfl) (by kernel_rfl) (by kernel_rfl) (fun _ _ _ h => h) HS.out (by rfl) (fun W hW => by have o0 : W.cell? ⟨r, 0, none⟩ = some (.slice (some ⟨g, 0, none⟩) N cap) := blk_cell hW.one 0; obtain ⟨y0, y1, y2, y3, y4⟩ := five_cells hW.two; go_simp) ?_
  simp only [Act.put, List.setIfInBounds_toArray, List.set_cons_zero, List.set_cons_succ]
  refine wpL_take 5 34 (ev p s a b off) [] rfl rfl (by kernel_rfl) (by decide) (by kernel_rfl) (by kernel_rfl) (by kernel_rfl) (fun _ _ _ h => h) HS.out (by rfl) (fun W hW => by have o0 : W.cell? ⟨r, 0, none⟩ = some (.slice (some ⟨g, 0, none⟩) N cap) := blk_cell hW.one 0; obtain ⟨y0, y1, y2, y3, y4⟩ := five_cells hW.two; go_simp) ?_
  simp only [Act.put, List.setIfInBounds_toArray, List.set_cons_zero, List.set_cons_succ]
  refine wpL_take 6 35 (.pointer (some ⟨g, i * 5, none⟩)) [] rfl rfl (by kernel_rfl) (by decide) (by kernel_rfl) (by kernel_rfl) (by kernel_rfl) (fun _ _ _ h => h) HS.out (by rfl) (fun W hW => by have o0 : W.cell? ⟨r, 0, none⟩ = some (.slice (some ⟨g, 0, none⟩) N cap) := blk_cell hW.one 0; obtain ⟨y0, y1, y2, y3, y4⟩ := five_cells hW.two; go_simp) ?_
  simp only [Act.put, List.setIfInBounds_toArray, List.set_cons_zero, List.set_cons_succ]
  refine wpL_one 7 rfl (by kernel_rfl) (by rfl) (fun K hK => ?_)
  go_simp
  refine hK.out _ _ (fun h => absurd rfl h) ?_
  clear hK K
  refine wpL_done (by kernel_rfl) ?_
  refine NoPanic.normal ?_
  go_wp2_with fail
  go_ret
  exact ⟨rfl, HFin.out, HF.out⟩
theorem rseek_ok {w : World} {base r : Nat} {S : St} (h : Rb w base r (lst S)) (hI : Ins S) (p s off : Int) : Calls Try.prog 30 #[pq r, i64 p, i64 s, i64 off] w fun e w' => e = .returned (i64 (seekE S (p, s) off)) ∧ Rb w' base r (lst (seekS S (p, s) off)) ∧ Fr base [29, 42] w w' := by
  unfold seekE seekS
  rcases hS : S (p, s) with _ | ⟨a, b, c⟩
  · exact rseek_none h hI p s off hS
  · simp only []
    cases hr : rightF p s a b off
    · exact rseek_bad h hI p s off a b c hS hr
    · exact rseek_good h hI p s off a b c hS hr
end Go.Proofs.Ytdgkajhlofpdeaa
