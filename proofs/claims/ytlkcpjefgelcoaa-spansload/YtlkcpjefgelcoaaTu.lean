/- Unmap, Protect, May, All; no statement is proved in this text. -/
import Derived.Test.YtlkcpjefgelcoaaTq
namespace Go.Proofs.Ytlkcpjefgelcoaa
open Go.ChangeShapes Go.WideShapes Go.ChangeAt Go.RowKit Go.Deep
attribute [local go_sem ↓] Go.wp_at_zero Go.wp_at_succ

theorem sfrom_none (w : World) (t : Nat) (L : List Sp) (p f : Int) (h : Tb w t L) (hG : GS L) (hf : L.find? (beg p f) = none) : Calls Try.prog 42 #[pq t, i64 p, i64 f] w fun e w' => e = .returned (.tuple #[sv (0, 0, 0, 0), .bool false]) ∧ Below w.heap.size w w' :=
  from_none w (pq t) p f (ofL L p) (fun W hb => of_any W t L p (h.below hb) hG) (by have := hG.four p; omega) (of_none hf)
theorem sfrom_some (w : World) (t : Nat) (L : List Sp) (p f : Int) (s : Sp) (h : Tb w t L) (hG : GS L) (hf : L.find? (beg p f) = some s) : Calls Try.prog 42 #[pq t, i64 p, i64 f] w fun e w' => e = .returned (.tuple #[sv s, .bool true]) ∧ Below w.heap.size w w' := by
  obtain ⟨X, Y, hXY, hX⟩ := hG.split hf
  have h4 := hG.four p
  rw [hXY] at h4
  exact from_some w (pq t) p f X Y s (fun W hb => by rw [← hXY]; exact of_any W t L p (h.below hb) hG) (by omega) hX (beg_iff.1 (List.find?_some hf)).2
theorem nfrom (w : World) (p f : Int) : Calls Try.prog 42 #[.pointer none, i64 p, i64 f] w fun e w' => e = .returned (.tuple #[sv (0, 0, 0, 0), .bool false]) ∧ Below w.heap.size w w' :=
  from_none w (.pointer none) p f [] (fun W _ => of_no W (.pointer none) p (.inl rfl) (.inl rfl)) (by simp) (fun x hx => by cases hx)
set_option maxRecDepth 100000 in
set_option maxHeartbeats 1600000 in
theorem sunmap_no (w : World) (pv : Value) (p f : Int) (hc : ∀ W, Below w.heap.size w W → Calls Try.prog 42 #[pv, i64 p, i64 f] W fun e w' => e = .returned (.tuple #[sv (0, 0, 0, 0), .bool false]) ∧ Below W.heap.size W w') : Calls Try.prog 20 #[pv, i64 p, i64 f] w fun e w' => e = .returned (.tuple #[i64 0, i64 6]) ∧ Below w.heap.size w w' := by
  have HC := hid (hc w (Below.refl _ _))
  clear hc
  go_enter Try.func20, Try.ntmps20
  go_wp2_with fail
  refine HC.out.mono ?_
  rintro e2 w2 ⟨rfl, hb2⟩
  have HB2 : Hid (Below w.heap.size w (w2.alloc (sO (0, 0, 0, 0) 71))) := hb2.alloc hb2.size _
  clear HC hb2
  go_wp2_with fail
  go_ret2
  exact ⟨rfl, HB2.out⟩
set_option maxRecDepth 100000 in
set_option maxHeartbeats 1600000 in
theorem sprot_no (w : World) (pv : Value) (p f o : Int) (hc : ∀ W, Below w.heap.size w W → Calls Try.prog 42 #[pv, i64 p, i64 f] W fun e w' => e = .returned (.tuple #[sv (0, 0, 0, 0), .bool false]) ∧ Below W.heap.size W w') : Calls Try.prog 30 #[pv, i64 p, i64 f, i64 o] w fun e w' => e = .returned (i64 6) ∧ Below w.heap.size w w' := by
  have HC := hid (hc w (Below.refl _ _))
  clear hc
  go_enter Try.func30, Try.ntmps30
  go_wp2_with fail
  refine HC.out.mono ?_
  rintro e2 w2 ⟨rfl, hb2⟩
  have HB2 : Hid (Below w.heap.size w (w2.alloc (sO (0, 0, 0, 0) 71))) := hb2.alloc hb2.size _
  clear HC hb2
  go_wp2_with fail
  go_ret
  exact ⟨rfl, HB2.out⟩
set_option maxRecDepth 100000 in
set_option maxHeartbeats 1600000 in
theorem sprot_arg (w : World) (t : Nat) (L : List Sp) (p f o : Int) (s : Sp) (h : Tb w t L) (hG : GS L) (hf : L.find? (beg p f) = some s) (ho : ¬(o = 1 ∨ o = 3)) : Calls Try.prog 30 #[pq t, i64 p, i64 f, i64 o] w fun e w' => e = .returned (i64 1) ∧ Below w.heap.size w w' := by
  have HC := hid (sfrom_some w t L p f s h hG hf)
  have HP := hid fun W => prot_ok W o
  rw [decide_eq_false ho] at HP
  clear h hf ho
  go_enter Try.func30, Try.ntmps30
  go_wp2_with fail
  refine HC.out.mono ?_
  rintro e2 w2 ⟨rfl, hb2⟩
  have HB2 : Hid (Below w.heap.size w (w2.alloc (sO s 71))) := hb2.alloc hb2.size _
  clear HC hb2
  go_wp2_with fail
  refine (HP.out _).mono ?_
  rintro e3 w3 ⟨rfl, hv⟩
  replace hv := hv.symm
  subst hv
  go_wp2_with fail
  go_ret
  exact ⟨rfl, HB2.out⟩
set_option maxRecDepth 100000 in
set_option maxHeartbeats 1600000 in
theorem sprot_yes (w : World) (t : Nat) (L : List Sp) (p f o : Int) (s : Sp) (h : Tb w t L) (hG : GS L) (hf : L.find? (beg p f) = some s) (ho : o = 1 ∨ o = 3) : Calls Try.prog 30 #[pq t, i64 p, i64 f, i64 o] w fun e w' => e = .returned (i64 0) ∧ Tb w' t (L.map (setP p f o)) ∧ Touch t w w' := by
  have HC := hid (sfrom_some w t L p f s h hG hf)
  have HP := hid fun W => prot_ok W o
  rw [decide_eq_true ho] at HP
  have hs := List.mem_of_find?_eq_some hf
  have hi := hG.isA hs
  obtain ⟨e1, e2⟩ := beg_iff.1 (List.find?_some hf)
  obtain ⟨sp, sf, sn, so⟩ := s
  obtain ⟨r, hr⟩ : ∃ r : Nat, sp = (r : Int) + 1 := ⟨(sp - 1).toNat, by simp only at hi; omega⟩
  obtain ⟨g, hg⟩ : ∃ g : Nat, sf = (g : Int) := ⟨sf.toNat, by simp only at hi; omega⟩
  obtain ⟨n, hn⟩ : ∃ n : Nat, sn = (n : Int) := ⟨sn.toNat, by simp only at hi; omega⟩
  subst hr hg hn
  simp only at hi e1 e2
  subst e1 e2
  have hr6 : r < 6 := by omega
  have hn1 : 1 ≤ n := by omega
  have hgn : g + n ≤ 16 := by omega
  have HS := hid (hG.fill hs r g n o rfl rfl rfl ho)
  have HT := hid h
  have HFI := hid fun W (hW : Tb W t L) => fill_ok W t r g n o (Gl L) hW hr6 hn1 hgn
  clear h hf ho hs
  go_enter Try.func30, Try.ntmps30
  go_wp2_with fail
  refine HC.out.mono ?_
  rintro e2 w2 ⟨rfl, hb2⟩
  have HB2 := hid hb2
  have ht2 := HT.out.lt
  clear HC hb2
  go_wp2_with fail
  refine (HP.out _).mono ?_
  rintro e3 w3 ⟨rfl, hv⟩
  replace hv := hv.symm
  subst hv
  have HB3 : Hid (Below w.heap.size w (w2.alloc (sO ((r : Int) + 1, (g : Int), (n : Int), o) 71))) := HB2.out.alloc HB2.out.size _
  go_wp2_with fail
  refine (HFI.out _ (HT.out.below HB3.out)).mono ?_
  rintro e5 w5 ⟨rfl, hT5, hO5⟩
  have HT5 : Hid (Tb w5 t (L.map (setP ((r : Int) + 1) (g : Int) o))) := hT5.ext fun r' g _ _ => HS.out r' g
  have HO5 : Hid (Touch t w w5) := (Touch.of_below HB3.out).trans hO5
  clear hT5 hO5
  go_wp2_with fail
  go_ret
  exact ⟨rfl, HT5.out, HO5.out⟩
set_option maxRecDepth 100000 in
set_option maxHeartbeats 1600000 in
theorem sunmap_yes (w : World) (t : Nat) (L : List Sp) (p f : Int) (s : Sp) (h : Tb w t L) (hG : GS L) (hf : L.find? (beg p f) = some s) : Calls Try.prog 20 #[pq t, i64 p, i64 f] w fun e w' => e = .returned (.tuple #[i64 s.2.2.1, i64 0]) ∧ Tb w' t (L.filter (keepF p f)) ∧ Touch t w w' := by
  have HC := hid (sfrom_some w t L p f s h hG hf)
  have hs := List.mem_of_find?_eq_some hf
  have hi := hG.isA hs
  obtain ⟨e1, e2⟩ := beg_iff.1 (List.find?_some hf)
  obtain ⟨sp, sf, sn, so⟩ := s
  obtain ⟨r, hr⟩ : ∃ r : Nat, sp = (r : Int) + 1 := ⟨(sp - 1).toNat, by simp only at hi; omega⟩
  obtain ⟨g, hg⟩ : ∃ g : Nat, sf = (g : Int) := ⟨sf.toNat, by simp only at hi; omega⟩
  obtain ⟨n, hn⟩ : ∃ n : Nat, sn = (n : Int) := ⟨sn.toNat, by simp only at hi; omega⟩
  subst hr hg hn
  simp only at hi e1 e2
  subst e1 e2
  have hr6 : r < 6 := by omega
  have hn1 : 1 ≤ n := by omega
  have hgn : g + n ≤ 16 := by omega
  have HS := hid (hG.clear hs r g n rfl rfl rfl)
  have HT := hid h
  have HP := hid fun W (hW : t < W.heap.size) => pages_ok W t r g n so hr6 hn1 hgn hW
  have HCL := hid fun W (hW : Tb W t L) => clear_run W t r g n (Gl L) hW hr6 hn1 hgn
  clear h hf hs
  go_enter Try.func20, Try.ntmps20
  go_wp2_with fail
  refine HC.out.mono ?_
  rintro e2 w2 ⟨rfl, hb2⟩
  have HB2 : Hid (Below w.heap.size w (w2.alloc (sO ((r : Int) + 1, (g : Int), (n : Int), so) 71))) := hb2.alloc hb2.size _
  have HX2 := hid (heap_last w2 (sO ((r : Int) + 1, (g : Int), (n : Int), so) 71))
  have ht2 : t < (w2.alloc (sO ((r : Int) + 1, (g : Int), (n : Int), so) 71)).heap.size := (HT.out.below HB2.out).lt
  have hwt := HT.out.lt
  have hw2 := hb2.size
  clear HC hb2
  go_wp2_with fail
  refine (HP.out _ ht2).mono ?_
  rintro e3 w3 ⟨rfl, hb3⟩
  have HB3 : Hid (Below w.heap.size w w3) := HB2.out.trans (hb3.mono HB2.out.size)
  have HX3 := hid (blk_below HX2.out hb3)
  obtain ⟨w4, hrun, hT4, hO4⟩ := HCL.out w3 (HT.out.below HB3.out)
  have HRUN := hid hrun
  have HT4 : Hid (Tb w4 t (L.filter (keepF ((r : Int) + 1) (g : Int)))) := hT4.ext fun r' g _ _ => HS.out r' g
  have HO4 : Hid (Touch t w w4) := (Touch.of_below HB3.out).trans hO4
  have HX4 : Hid (w4.heap[w2.heap.size]? = some (sO ((r : Int) + 1, (g : Int), (n : Int), so) 71)) := (hO4.block _ (blk_lt HX3.out) (by omega)).trans HX3.out
  obtain ⟨x0, x1, x2, x3⟩ := four_cells HX4.out
  have hbl := blk_lt HX4.out
  clear hb3 hT4 hO4 ht2 HRUN
  go_wp2_with fail
  go_ret2
  exact ⟨rfl, HT4.out, HO4.out⟩
end Go.Proofs.Ytlkcpjefgelcoaa
