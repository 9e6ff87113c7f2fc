/- CapsSteps' walk; no statement is proved in this text. -/
import Derived.Test.YtcffodkpflfeoaaStale
namespace Go.Proofs.Ytcffodkpflfeoaa
open Go.ChangeShapes Go.WideShapes Go.ChangeAt Go.RowKit Go.Deep
attribute [local go_sem ↓] Go.wp_at_zero Go.wp_at_succ

/-- Check tells the same. -/
theorem Rel.check {T : List Pl} {L : List Rw} (h : Rel T L) (env sl gn right : Int) : chE (lookF T env sl gn) right = rcE L (fdI L env sl gn) right := by
  rcases h.look env sl gn with ⟨h1, h2⟩ | ⟨k, q, s, h1, h2, h3, _⟩
  · rw [h1, h2]; rfl
  · rw [h1, h2]; unfold rcE; rw [if_neg (by omega), Int.toNat_natCast, h3]
structure SqX (X P : Nat) (r : Nat) (x : Sp) (W : World) : Prop where
  x : W.heap[X]? = some (spO x)
  p1 : W.cell? ⟨P, 1, none⟩ = some (pq r)
theorem SqX.of {X P r base b : Nat} {x : Sp} {W : World} {T : List Pl} {L : List Rw} (hx : W.heap[X]? = some (spO x)) (h : Pw W base P b r T L) : SqX X P r x W := ⟨hx, h.p01.2⟩
structure SqY (X Y P : Nat) (r : Nat) (x : Sp) (hs hg : Int) (W : World) : Prop where
  x : W.heap[X]? = some (spO x)
  y : W.heap[Y]? = some (hO hs hg)
  p1 : W.cell? ⟨P, 1, none⟩ = some (pq r)
theorem SqY.below {X Y P r : Nat} {x : Sp} {hs hg : Int} {W W' : World} (h : SqY X Y P r x hs hg W) (hb : Below W.heap.size W W') : SqY X Y P r x hs hg W' := ⟨blk_below h.x hb, blk_below h.y hb, (hb.cell (World.block_lt_of_cell? W _ h.p1)).trans h.p1⟩
structure SqC (ga gb j : Nat) (s : Nat) (g : Int) (W : World) : Prop where
  a0 : W.cell? ⟨ga, j * 2, none⟩ = some (i64 (s : Nat))
  a1 : W.cell? ⟨ga, j * 2 + 1, none⟩ = some (i64 g)
  b0 : W.cell? ⟨gb, j * 2, none⟩ = some (i64 (s : Nat))
  b1 : W.cell? ⟨gb, j * 2 + 1, none⟩ = some (i64 g)
theorem SqC.below {ga gb j s : Nat} {g : Int} {W W' : World} (h : SqC ga gb j s g W) (hb : Below W.heap.size W W') : SqC ga gb j s g W' :=
  ⟨(hb.cell (World.block_lt_of_cell? W _ h.a0)).trans h.a0, (hb.cell (World.block_lt_of_cell? W _ h.a1)).trans h.a1, (hb.cell (World.block_lt_of_cell? W _ h.b0)).trans h.b0, (hb.cell (World.block_lt_of_cell? W _ h.b1)).trans h.b1⟩
set_option maxRecDepth 100000 in
set_option maxHeartbeats 6400000 in
theorem steps_in (w : World) (ao : Option Addr) (len cap : Nat) (f : Nat → Sp) (hl : len ≤ 60) (hS : SSl w ao len f) : Calls Try.prog 3 #[.slice ao len cap] w fun e w' => e = .returned (.bool true) ∧ Below w.heap.size w w' := by
  have HSl := hid hS
  have hlI : (len : Int) ≤ 60 := by omega
  clear hS
  go_enter Try.func3, Try.ntmps3
  go_wp2_with fail
  refine (new_tb w).mono ?_
  rintro e w1 ⟨rfl, hT1, hb1, hl1⟩
  obtain ⟨hPn, hbn⟩ := pw_new hT1
  have HPn := hid hPn
  have HBn : Hid (Below w.heap.size w (nw w1 w.heap.size)) := hb1.trans (hbn.mono hb1.size)
  clear hT1 hb1 hPn hbn
  go_upto_region 5 with fail
  unfold nw at HPn HBn
  generalize (w1.alloc (.cells #[.slice none 0 0] 30)).alloc (.cells #[pq w.heap.size, pq w1.heap.size, .slice none 0 0, .slice none 0 0] 34) = U at *
  obtain ⟨b, hb⟩ : ∃ b, b = w.heap.size := ⟨_, rfl⟩
  rw [← hb] at HPn ⊢
  have HBb := hid hb
  clear hb
  generalize w1.heap.size = r at *
  go_wp2_with fail
  go_loopw [32] (fun u wr => ∃ (k : Nat), k ≤ len ∧ u = i64 k ∧ Hid (Below w.heap.size w wr) ∧ Hid (∃ T L, Pw wr b (r + 1) b r T L ∧ L.length ≤ k)) (fun u _ => len - (intOf u).toNat)
  case atStart => exact ⟨0, by omega, rfl, HBn, z128, [], HPn.out, by simp⟩
  case round =>
    obtain ⟨k, hk, rfl, HB, HT⟩ := hrel
    by_cases hlt : k < len
    · obtain ⟨T, L, hPw, hLk⟩ := HT.out
      obtain ⟨B, off, rfl, hBl, hce⟩ := (HSl.out.below HB.out).at hlt
      have HCe := hid hce
      obtain ⟨hs1, hs2, hs3⟩ := st38 wr (f k)
      have hz := zero38 wr
      have HTH := hid hs3
      have HX4 : Hid (((wr.alloc z38).setCells wr.heap.size 0 (f k).c').heap[wr.heap.size]? = some (spO (f k))) := hs1
      have HB4 : Hid (Below w.heap.size w ((wr.alloc z38).setCells wr.heap.size 0 (f k).c')) := HB.out.trans (hs2.mono HB.out.size)
      have HP4 : Hid (Pw ((wr.alloc z38).setCells wr.heap.size 0 (f k).c') b (r + 1) b r T L) := hPw.below hs2
      have HD := hid (fun W (hW : Pw W b (r + 1) b r T L) => does_any hW (by omega) (f k))
      have hkI : (k : Int) < len := by omega
      clear hPw hce hs1 hs2 hs3
      unfold z38 at *
      go_upto_region 8 with (first | (refine wpList_load_mid rfl 38 (.tmp 34) rfl B (off + k * 11) rfl (f k).c' _ (by exact HCe.out) Try.underlying38 rfl info38 ?_) | (refine wpList_store_mid rfl 38 (.tmp 6) (.tmp 35) rfl wr.heap.size 0 (f k).c'.toArray rfl rfl (by exact HTH.out) (by kernel_rfl) (sp_one _) ?_))
      generalize (wr.alloc (.cells #[i64 0, i64 0, i64 0, i64 0, i64 0, .bool false, i64 0, i64 0, i64 0, i64 0, i64 0] 38)).setCells wr.heap.size 0 (f k).c' = U4 at *
      generalize wr.heap.size = q7 at *
      have HS : Hid (SqX q7 (r + 1) r (f k) U4.drew) := ⟨HX4.out, HP4.out.p01.2⟩
      refine wp_region_noPanic ?_
      refine wp_region_last (SqX q7 (r + 1) r (f k)) 13 (by kernel_rfl) ?_
      refine wpL_take 0 36 (pq (r + 1)) [2, 4] rfl rfl (by kernel_rfl) (by decide) (by kernel_rfl) (by kernel_rfl) (by kernel_rfl) (fun _ _ _ h => h) HS.out (by rfl) (fun W hW => by have p1 := hW.p1; go_simp) ?_
      simp only [Act.put, List.setIfInBounds_toArray, List.set_cons_zero, List.set_cons_succ]
      refine wpL_take 1 37 (.agg #[i64 (f k).what, i64 (f k).n, i64 (f k).env, i64 (f k).tt, i64 (f k).rights, .bool (f k).by_, i64 (f k).c.env, i64 (f k).c.kind, i64 (f k).c.num, i64 (f k).c.rts, i64 (f k).wrong]) [2, 4] rfl rfl (by kernel_rfl) (by decide) (by kernel_rfl) (by kernel_rfl) (by kernel_rfl) (fun _ _ _ h => h) HS.out (by rfl) (fun W hW => by exact exec_load 38 (.tmp 6) rfl rfl (run_loadVar_mid _ _ 0 38 (f k).c' _ (spO_range hW.x) Try.underlying38 rfl info38)) ?_
      simp only [Act.put, List.setIfInBounds_toArray, List.set_cons_zero, List.set_cons_succ]
      refine wpL_one 2 rfl (by kernel_rfl) (by rfl) (fun K hK => ?_)
      go_simp
      refine (HD.out U4.drew HP4.out.drew).mono ?_
      rintro e w5 ⟨rfl, ⟨T', L', hP5, _, hL5⟩, hf5⟩
      have HB5 : Hid (Below w.heap.size w w5) := HB4.out.drew.trans (hf5.below.mono (by rw [HBb.out]; exact Nat.le_refl _))
      have HX5 : Hid (w5.heap[q7]? = some (spO (f k))) := hf5.kept _ _ HX4.out (by rfl)
      have HS5 : Hid (SqX q7 (r + 1) r (f k) w5) := SqX.of HX5.out hP5
      have HP5 := hid hP5
      have hrel5 := hP5.rel
      have HRel := hid hrel5
      have hLv := hrel5.live
      obtain ⟨Mv, hMv⟩ : ∃ Mv, Mv = lvR L' := ⟨_, rfl⟩
      have HLv1 : Hid (∀ W, Tb W b b T' → Calls Try.prog 11 #[pq b] W fun e w' => e = .returned (i64 (Mv : Nat)) ∧ Below W.heap.size W w') := fun W hW => by have := live_ok hW; rw [hLv, ← hMv] at this; exact this
      have HLv2 : Hid (∀ W, Rb W b r L' → Calls Try.prog 12 #[pq r] W fun e w' => e = .returned (i64 (Mv : Nat)) ∧ Below W.heap.size W w') := fun W hW => by have := rlive_ok hW (by omega); rw [← hMv] at this; exact this
      clear hP5 hf5 hrel5 hLv hMv
      go_simp
      refine hK.out _ _ (fun _ => HS5.out) ?_
      clear hK K
      refine wpL_take 3 39 (.bool false) [4] rfl rfl (by kernel_rfl) (by decide) (by kernel_rfl) (by kernel_rfl) (by kernel_rfl) (fun _ _ _ h => h) HS5.out (by rfl) (fun W hW => by have p1 := hW.p1; go_simp) ?_
      simp only [Act.put, List.setIfInBounds_toArray, List.set_cons_zero, List.set_cons_succ]
      refine wpL_take 4 40 (.bool false) [] rfl rfl (by kernel_rfl) (by decide) (by kernel_rfl) (by kernel_rfl) (by kernel_rfl) (fun _ _ _ h => h) HS5.out (by rfl) (fun W hW => by have p1 := hW.p1; go_simp) ?_
      simp only [Act.put, List.setIfInBounds_toArray, List.set_cons_zero, List.set_cons_succ]
      refine wpL_take 5 41 (pq b) [6, 12] rfl rfl (by kernel_rfl) (by decide) (by kernel_rfl) (by kernel_rfl) (by kernel_rfl) (fun _ _ _ h => h) HS5.out (by rfl) (fun W hW => by have p1 := hW.p1; go_simp) ?_
      simp only [Act.put, List.setIfInBounds_toArray, List.set_cons_zero, List.set_cons_succ]
      refine wpL_take 7 43 (pq (r + 1)) [8, 9, 10, 11, 12] rfl rfl (by kernel_rfl) (by decide) (by kernel_rfl) (by kernel_rfl) (by kernel_rfl) (fun _ _ _ h => h) HS5.out (by rfl) (fun W hW => by have p1 := hW.p1; go_simp) ?_
      simp only [Act.put, List.setIfInBounds_toArray, List.set_cons_zero, List.set_cons_succ]
      refine wpL_take 8 44 (pq (r + 1)) [9, 10, 11, 12] rfl rfl (by kernel_rfl) (by decide) (by kernel_rfl) (by kernel_rfl) (by kernel_rfl) (fun _ _ _ h => h) HS5.out (by rfl) (fun W hW => by have p1 := hW.p1; go_simp) ?_
      simp only [Act.put, List.setIfInBounds_toArray, List.set_cons_zero, List.set_cons_succ]
      refine wpL_take 9 45 (.pointer (some ⟨r + 1, 1, none⟩)) [10, 11, 12] rfl rfl (by kernel_rfl) (by decide) (by kernel_rfl) (by kernel_rfl) (by kernel_rfl) (fun _ _ _ h => h) HS5.out (by rfl) (fun W hW => by have p1 := hW.p1; go_simp) ?_
      simp only [Act.put, List.setIfInBounds_toArray, List.set_cons_zero, List.set_cons_succ]
      refine wpL_take 10 46 (pq r) [11, 12] rfl rfl (by kernel_rfl) (by decide) (by kernel_rfl) (by kernel_rfl) (by kernel_rfl) (fun _ _ _ h => h) HS5.out (by rfl) (fun W hW => by have p1 := hW.p1; go_simp) ?_
      simp only [Act.put, List.setIfInBounds_toArray, List.set_cons_zero, List.set_cons_succ]
      refine wpL_one 6 rfl (by kernel_rfl) (by rfl) (fun K hK => ?_)
      go_simp
      refine (HLv1.out w5 HP5.out.tb).mono ?_
      rintro e w6 ⟨rfl, hb6⟩
      have HB6 : Hid (Below w.heap.size w w6) := HB5.out.trans (hb6.mono HB5.out.size)
      have HX6 := hid (blk_below HX5.out hb6)
      have HP6 := hid (HP5.out.below hb6)
      have HS6 : Hid (SqX q7 (r + 1) r (f k) w6) := SqX.of HX6.out HP6.out
      clear hb6
      go_simp
      refine hK.out _ _ (fun _ => HS6.out) ?_
      clear hK K
      refine wpL_one 11 rfl (by kernel_rfl) (by rfl) (fun K hK => ?_)
      go_simp
      refine (HLv2.out w6 HP6.out.rb).mono ?_
      rintro e w7 ⟨rfl, hb7⟩
      have HB7 : Hid (Below w.heap.size w w7) := HB6.out.trans (hb7.mono HB6.out.size)
      have HX7 := hid (blk_below HX6.out hb7)
      have HP7 := hid (HP6.out.below hb7)
      have HS7 : Hid (SqX q7 (r + 1) r (f k) w7) := SqX.of HX7.out HP7.out
      clear hb7
      go_simp
      refine hK.out _ _ (fun _ => HS7.out) ?_
      clear hK K
      refine wpL_take 12 48 (.bool false) [] rfl rfl (by kernel_rfl) (by decide) (by kernel_rfl) (by kernel_rfl) (by kernel_rfl) (fun _ _ _ h => h) HS7.out (by rfl) (fun W hW => by have p1 := hW.p1; go_simp) ?_
      simp only [Act.put, List.setIfInBounds_toArray, List.set_cons_zero, List.set_cons_succ]
      refine wpL_one 13 rfl (by kernel_rfl) (by rfl) (fun K hK => ?_)
      go_simp
      refine hK.out _ _ (fun h => absurd rfl h) ?_
      clear hK K
      refine wpL_done (by kernel_rfl) ?_
      refine NoPanic.normal ?_
      clear HS HS5 HS6 HS7 HB4 HB5 HB6 HX4 HX5 HX6 HP4 HP5 HP6 HLv1 HLv2
      have hPk := pick_any HP7.out (by omega) (f k)
      generalize pkS L' (f k) = hs at *
      generalize pkG L' (f k) = hg at *
      generalize pkE L' (f k) = ev at *
      have HPk := hid hPk
      clear hPk
      go_wp2_with (refine wpList_load_mid rfl 38 (.tmp 6) rfl q7 0 rfl (f k).c' _ (by exact spO_range HX7.out) Try.underlying38 rfl info38 ?_)
      refine HPk.out.mono ?_
      rintro e w8 ⟨rfl, hb8⟩
      have hB8 : Below w.heap.size w w8 := HB7.out.trans (hb8.mono HB7.out.size)
      have HB9 : Hid (Below w.heap.size w (w8.alloc (hO hs hg))) := hB8.alloc hB8.size _
      have HX9 : Hid ((w8.alloc (hO hs hg)).heap[q7]? = some (spO (f k))) := blk_alloc (blk_below HX7.out hb8) _
      have HY9 : Hid ((w8.alloc (hO hs hg)).heap[w8.heap.size]? = some (hO hs hg)) := heap_last w8 _
      have HP9 : Hid (Pw (w8.alloc (hO hs hg)) b (r + 1) b r T' L') := (HP7.out.below hb8).below (below_one _ _)
      clear hb8 hB8 HPk HB7 HX7 HP7
      go_upto_region 11 with fail
      unfold hO at HB9 HX9 HY9 HP9
      generalize w8.alloc (.cells #[i64 hs, i64 hg] 42) = W9 at *
      generalize w8.heap.size = Y at *
      have x2 : W9.cell? ⟨q7, 2, none⟩ = some (i64 (f k).env) := blk_cell HX9.out 2
      go_wp2_with fail
      refine (handles_ok HP9.out.tb (f k).env).mono ?_
      rintro e w10 ⟨⟨va, rfl, hoA⟩, hb10⟩
      have HB10 : Hid (Below w.heap.size w w10) := HB9.out.trans (hb10.mono HB9.out.size)
      have HX10 := hid (blk_below HX9.out hb10)
      have HY10 := hid (blk_below HY9.out hb10)
      have HP10 := hid (HP9.out.below hb10)
      have hlA := hdL_le T' (f k).env 128
      obtain ⟨Hl, hHl⟩ : ∃ Hl, Hl = hdL T' (f k).env 128 := ⟨_, rfl⟩
      rw [← hHl] at hoA hlA
      obtain ⟨ao1, cap1, rfl, _⟩ := own_slice hoA
      have HOA := hid hoA
      have HHl : Hid (rhL L' (f k).env 128 = Hl) := by rw [hHl, HRel.out.handles]; exact hid rfl
      clear hb10 x2 hoA hHl HB9 HX9 HY9 HP9
      go_upto_region 12 with fail
      have HS : Hid (SqX q7 (r + 1) r (f k) w10.drew) := ⟨HX10.out, HP10.out.p01.2⟩
      refine wp_region_noPanic ?_
      refine wp_region_last (SqX q7 (r + 1) r (f k)) 7 (by kernel_rfl) ?_
      refine wpL_take 0 60 (pq (r + 1)) [] rfl rfl (by kernel_rfl) (by decide) (by kernel_rfl) (by kernel_rfl) (by kernel_rfl) (fun _ _ _ h => h) HS.out (by rfl) (fun W hW => by have p1 := hW.p1; have x2 := blk_cell hW.x 2; go_simp) ?_
      simp only [Act.put, List.setIfInBounds_toArray, List.set_cons_zero, List.set_cons_succ]
      refine wpL_take 1 61 (pq (r + 1)) [] rfl rfl (by kernel_rfl) (by decide) (by kernel_rfl) (by kernel_rfl) (by kernel_rfl) (fun _ _ _ h => h) HS.out (by rfl) (fun W hW => by have p1 := hW.p1; have x2 := blk_cell hW.x 2; go_simp) ?_
      simp only [Act.put, List.setIfInBounds_toArray, List.set_cons_zero, List.set_cons_succ]
      refine wpL_take 2 62 (.pointer (some ⟨r + 1, 1, none⟩)) [] rfl rfl (by kernel_rfl) (by decide) (by kernel_rfl) (by kernel_rfl) (by kernel_rfl) (fun _ _ _ h => h) HS.out (by rfl) (fun W hW => by have p1 := hW.p1; have x2 := blk_cell hW.x 2; go_simp) ?_
      simp only [Act.put, List.setIfInBounds_toArray, List.set_cons_zero, List.set_cons_succ]
      refine wpL_take 3 63 (pq r) [] rfl rfl (by kernel_rfl) (by decide) (by kernel_rfl) (by kernel_rfl) (by kernel_rfl) (fun _ _ _ h => h) HS.out (by rfl) (fun W hW => by have p1 := hW.p1; have x2 := blk_cell hW.x 2; go_simp) ?_
      simp only [Act.put, List.setIfInBounds_toArray, List.set_cons_zero, List.set_cons_succ]
      refine wpL_take 4 64 (.pointer (some ⟨q7, 2, none⟩)) [] rfl rfl (by kernel_rfl) (by decide) (by kernel_rfl) (by kernel_rfl) (by kernel_rfl) (fun _ _ _ h => h) HS.out (by rfl) (fun W hW => by have p1 := hW.p1; have x2 := blk_cell hW.x 2; go_simp) ?_
      simp only [Act.put, List.setIfInBounds_toArray, List.set_cons_zero, List.set_cons_succ]
      refine wpL_take 5 65 (i64 (f k).env) [] rfl rfl (by kernel_rfl) (by decide) (by kernel_rfl) (by kernel_rfl) (by kernel_rfl) (fun _ _ _ h => h) HS.out (by rfl) (fun W hW => by have p1 := hW.p1; have x2 := blk_cell hW.x 2; go_simp) ?_
      simp only [Act.put, List.setIfInBounds_toArray, List.set_cons_zero, List.set_cons_succ]
      refine wpL_one 6 rfl (by kernel_rfl) (by rfl) (fun K hK => ?_)
      go_simp
      refine (rhandles_ok HP10.out.drew.rb (by omega) (f k).env).mono ?_
      rintro e w11 ⟨⟨vb, rfl, hoB⟩, hb11⟩
      rw [HHl.out] at hoB
      have hb11' : Below w10.heap.size w10 w11 := ⟨hb11.os, hb11.tape, hb11.output, hb11.size, hb11.block⟩
      have HB11 : Hid (Below w.heap.size w w11) := HB10.out.trans (hb11'.mono HB10.out.size)
      have HX11 := hid (blk_below HX10.out hb11')
      have HY11 := hid (blk_below HY10.out hb11')
      have HP11 := hid (HP10.out.below hb11')
      have HOA11 : Hid (w11.ownsRow W9.heap.size 42 2 (.slice ao1 Hl.length cap1) Hl.length (hcn Hl)) := own_keep HOA.out (fun g C hC => blk_below hC hb11')
      obtain ⟨ao2, cap2, rfl, _⟩ := own_slice hoB
      have HOB := hid hoB
      have HS11 : Hid (SqX q7 (r + 1) r (f k) w11) := SqX.of HX11.out HP11.out
      clear hb11 hb11' hoB HB10 HX10 HY10 HP10 HOA
      go_simp
      refine hK.out _ _ (fun _ => HS11.out) ?_
      clear hK K
      refine wpL_one 7 rfl (by kernel_rfl) (by rfl) (fun K hK => ?_)
      go_simp
      refine hK.out _ _ (fun h => absurd rfl h) ?_
      clear hK K
      refine wpL_done (by kernel_rfl) ?_
      refine NoPanic.normal ?_
      clear HS HS11
      obtain ⟨Na, hNa⟩ : ∃ Na, Na = Hl.length := ⟨_, rfl⟩
      rw [← hNa] at hlA HOA11 HOB ⊢
      have HNa := hid hNa
      have hNaI : (Na : Int) ≤ 128 := by omega
      -- Check
      obtain ⟨Xc, hXc⟩ : ∃ Xc, Xc = chE (lookF T' ev hs hg) (f k).rights := ⟨_, rfl⟩
      have HC1 : Hid (∀ W, Tb W b b T' → Calls Try.prog 16 #[pq b, i64 ev, .agg #[i64 hs, i64 hg], i64 (f k).rights] W fun e w' => e = .returned (i64 Xc) ∧ Below W.heap.size W w') := fun W hW => by have := check_any hW HRel.out.rts ev hs hg (f k).rights; rw [← hXc] at this; exact this
      have HC2 : Hid (∀ W, Rb W b r L' → Calls Try.prog 17 #[pq r, i64 ev, .agg #[i64 hs, i64 hg], i64 (f k).rights] W fun e w' => e = .returned (i64 Xc) ∧ Below W.heap.size W w') := fun W hW => by have := rcheck_ok hW (by omega) HRel.out.rt ev hs hg (f k).rights; rw [← HRel.out.check, ← hXc] at this; exact this
      clear hXc hNa
      go_upto_region 13 with fail
      have HS : Hid (SqY q7 Y (r + 1) r (f k) hs hg w11.drew) := ⟨HX11.out, HY11.out, HP11.out.p01.2⟩
      refine wp_region_noPanic ?_
      refine wp_region_last (SqY q7 Y (r + 1) r (f k) hs hg) 23 (by kernel_rfl) ?_
      refine wpL_take 0 67 (.slice ao1 Na cap1) [1, 4, 5] rfl rfl (by kernel_rfl) (by decide) (by kernel_rfl) (by kernel_rfl) (by kernel_rfl) (fun _ _ _ h => h) HS.out (by rfl) (fun W hW => by have p1 := hW.p1; have x4 := blk_cell hW.x 4; have y0 := blk_cell hW.y 0; have y1 := blk_cell hW.y 1; go_simp) ?_
      simp only [Act.put, List.setIfInBounds_toArray, List.set_cons_zero, List.set_cons_succ]
      refine wpL_take 1 68 (i64 (Na : Nat)) [4, 5] rfl rfl (by kernel_rfl) (by decide) (by kernel_rfl) (by kernel_rfl) (by kernel_rfl) (fun _ _ _ h => h) HS.out (by rfl) (fun W hW => by have p1 := hW.p1; have x4 := blk_cell hW.x 4; have y0 := blk_cell hW.y 0; have y1 := blk_cell hW.y 1; go_simp) ?_
      simp only [Act.put, List.setIfInBounds_toArray, List.set_cons_zero, List.set_cons_succ]
      refine wpL_take 2 69 (.slice ao2 Na cap2) [3, 4, 5] rfl rfl (by kernel_rfl) (by decide) (by kernel_rfl) (by kernel_rfl) (by kernel_rfl) (fun _ _ _ h => h) HS.out (by rfl) (fun W hW => by have p1 := hW.p1; have x4 := blk_cell hW.x 4; have y0 := blk_cell hW.y 0; have y1 := blk_cell hW.y 1; go_simp) ?_
      simp only [Act.put, List.setIfInBounds_toArray, List.set_cons_zero, List.set_cons_succ]
      refine wpL_take 3 70 (i64 (Na : Nat)) [4, 5] rfl rfl (by kernel_rfl) (by decide) (by kernel_rfl) (by kernel_rfl) (by kernel_rfl) (fun _ _ _ h => h) HS.out (by rfl) (fun W hW => by have p1 := hW.p1; have x4 := blk_cell hW.x 4; have y0 := blk_cell hW.y 0; have y1 := blk_cell hW.y 1; go_simp) ?_
      simp only [Act.put, List.setIfInBounds_toArray, List.set_cons_zero, List.set_cons_succ]
      refine wpL_take 4 71 (.bool false) [5] rfl rfl (by kernel_rfl) (by decide) (by kernel_rfl) (by kernel_rfl) (by kernel_rfl) (fun _ _ _ h => h) HS.out (by rfl) (fun W hW => by have p1 := hW.p1; have x4 := blk_cell hW.x 4; have y0 := blk_cell hW.y 0; have y1 := blk_cell hW.y 1; go_simp) ?_
      simp only [Act.put, List.setIfInBounds_toArray, List.set_cons_zero, List.set_cons_succ]
      refine wpL_take 5 72 (.bool false) [] rfl rfl (by kernel_rfl) (by decide) (by kernel_rfl) (by kernel_rfl) (by kernel_rfl) (fun _ _ _ h => h) HS.out (by rfl) (fun W hW => by have p1 := hW.p1; have x4 := blk_cell hW.x 4; have y0 := blk_cell hW.y 0; have y1 := blk_cell hW.y 1; go_simp) ?_
      simp only [Act.put, List.setIfInBounds_toArray, List.set_cons_zero, List.set_cons_succ]
      refine wpL_take 6 73 (pq b) [11, 22] rfl rfl (by kernel_rfl) (by decide) (by kernel_rfl) (by kernel_rfl) (by kernel_rfl) (fun _ _ _ h => h) HS.out (by rfl) (fun W hW => by have p1 := hW.p1; have x4 := blk_cell hW.x 4; have y0 := blk_cell hW.y 0; have y1 := blk_cell hW.y 1; go_simp) ?_
      simp only [Act.put, List.setIfInBounds_toArray, List.set_cons_zero, List.set_cons_succ]
      refine wpL_take 7 74 (i64 ev) [11, 22] rfl rfl (by kernel_rfl) (by decide) (by kernel_rfl) (by kernel_rfl) (by kernel_rfl) (fun _ _ _ h => h) HS.out (by rfl) (fun W hW => by have p1 := hW.p1; have x4 := blk_cell hW.x 4; have y0 := blk_cell hW.y 0; have y1 := blk_cell hW.y 1; go_simp) ?_
      simp only [Act.put, List.setIfInBounds_toArray, List.set_cons_zero, List.set_cons_succ]
      refine wpL_take 8 75 (.agg #[i64 hs, i64 hg]) [11, 22] rfl rfl (by kernel_rfl) (by decide) (by kernel_rfl) (by kernel_rfl) (by kernel_rfl) (fun _ _ _ h => h) HS.out (by rfl) (fun W hW => by have p1 := hW.p1; have x4 := blk_cell hW.x 4; have y0 := blk_cell hW.y 0; have y1 := blk_cell hW.y 1; go_simp) ?_
      simp only [Act.put, List.setIfInBounds_toArray, List.set_cons_zero, List.set_cons_succ]
      refine wpL_take 9 76 (.pointer (some ⟨q7, 4, none⟩)) [10, 11, 22] rfl rfl (by kernel_rfl) (by decide) (by kernel_rfl) (by kernel_rfl) (by kernel_rfl) (fun _ _ _ h => h) HS.out (by rfl) (fun W hW => by have p1 := hW.p1; have x4 := blk_cell hW.x 4; have y0 := blk_cell hW.y 0; have y1 := blk_cell hW.y 1; go_simp) ?_
      simp only [Act.put, List.setIfInBounds_toArray, List.set_cons_zero, List.set_cons_succ]
      refine wpL_take 10 77 (i64 (f k).rights) [11, 22] rfl rfl (by kernel_rfl) (by decide) (by kernel_rfl) (by kernel_rfl) (by kernel_rfl) (fun _ _ _ h => h) HS.out (by rfl) (fun W hW => by have p1 := hW.p1; have x4 := blk_cell hW.x 4; have y0 := blk_cell hW.y 0; have y1 := blk_cell hW.y 1; go_simp) ?_
      simp only [Act.put, List.setIfInBounds_toArray, List.set_cons_zero, List.set_cons_succ]
      refine wpL_take 12 79 (pq (r + 1)) [13, 14, 15, 21, 22] rfl rfl (by kernel_rfl) (by decide) (by kernel_rfl) (by kernel_rfl) (by kernel_rfl) (fun _ _ _ h => h) HS.out (by rfl) (fun W hW => by have p1 := hW.p1; have x4 := blk_cell hW.x 4; have y0 := blk_cell hW.y 0; have y1 := blk_cell hW.y 1; go_simp) ?_
      simp only [Act.put, List.setIfInBounds_toArray, List.set_cons_zero, List.set_cons_succ]
      refine wpL_take 13 80 (pq (r + 1)) [14, 15, 21, 22] rfl rfl (by kernel_rfl) (by decide) (by kernel_rfl) (by kernel_rfl) (by kernel_rfl) (fun _ _ _ h => h) HS.out (by rfl) (fun W hW => by have p1 := hW.p1; have x4 := blk_cell hW.x 4; have y0 := blk_cell hW.y 0; have y1 := blk_cell hW.y 1; go_simp) ?_
      simp only [Act.put, List.setIfInBounds_toArray, List.set_cons_zero, List.set_cons_succ]
      refine wpL_take 14 81 (.pointer (some ⟨r + 1, 1, none⟩)) [15, 21, 22] rfl rfl (by kernel_rfl) (by decide) (by kernel_rfl) (by kernel_rfl) (by kernel_rfl) (fun _ _ _ h => h) HS.out (by rfl) (fun W hW => by have p1 := hW.p1; have x4 := blk_cell hW.x 4; have y0 := blk_cell hW.y 0; have y1 := blk_cell hW.y 1; go_simp) ?_
      simp only [Act.put, List.setIfInBounds_toArray, List.set_cons_zero, List.set_cons_succ]
      refine wpL_take 15 82 (pq r) [21, 22] rfl rfl (by kernel_rfl) (by decide) (by kernel_rfl) (by kernel_rfl) (by kernel_rfl) (fun _ _ _ h => h) HS.out (by rfl) (fun W hW => by have p1 := hW.p1; have x4 := blk_cell hW.x 4; have y0 := blk_cell hW.y 0; have y1 := blk_cell hW.y 1; go_simp) ?_
      simp only [Act.put, List.setIfInBounds_toArray, List.set_cons_zero, List.set_cons_succ]
      refine wpL_take 16 83 (i64 ev) [21, 22] rfl rfl (by kernel_rfl) (by decide) (by kernel_rfl) (by kernel_rfl) (by kernel_rfl) (fun _ _ _ h => h) HS.out (by rfl) (fun W hW => by have p1 := hW.p1; have x4 := blk_cell hW.x 4; have y0 := blk_cell hW.y 0; have y1 := blk_cell hW.y 1; go_simp) ?_
      simp only [Act.put, List.setIfInBounds_toArray, List.set_cons_zero, List.set_cons_succ]
      refine wpL_take 17 84 (.agg #[i64 hs, i64 hg]) [18, 21, 22] rfl rfl (by kernel_rfl) (by decide) (by kernel_rfl) (by kernel_rfl) (by kernel_rfl) (fun _ _ _ h => h) HS.out (by rfl) (fun W hW => by have p1 := hW.p1; have x4 := blk_cell hW.x 4; have y0 := blk_cell hW.y 0; have y1 := blk_cell hW.y 1; go_simp) ?_
      simp only [Act.put, List.setIfInBounds_toArray, List.set_cons_zero, List.set_cons_succ]
      refine wpL_take 19 86 (.pointer (some ⟨q7, 4, none⟩)) [20, 21, 22] rfl rfl (by kernel_rfl) (by decide) (by kernel_rfl) (by kernel_rfl) (by kernel_rfl) (fun _ _ _ h => h) HS.out (by rfl) (fun W hW => by have p1 := hW.p1; have x4 := blk_cell hW.x 4; have y0 := blk_cell hW.y 0; have y1 := blk_cell hW.y 1; go_simp) ?_
      simp only [Act.put, List.setIfInBounds_toArray, List.set_cons_zero, List.set_cons_succ]
      refine wpL_take 20 87 (i64 (f k).rights) [21, 22] rfl rfl (by kernel_rfl) (by decide) (by kernel_rfl) (by kernel_rfl) (by kernel_rfl) (fun _ _ _ h => h) HS.out (by rfl) (fun W hW => by have p1 := hW.p1; have x4 := blk_cell hW.x 4; have y0 := blk_cell hW.y 0; have y1 := blk_cell hW.y 1; go_simp) ?_
      simp only [Act.put, List.setIfInBounds_toArray, List.set_cons_zero, List.set_cons_succ]
      refine wpL_one 11 rfl (by kernel_rfl) (by rfl) (fun K hK => ?_)
      go_simp
      refine (HC1.out w11.drew HP11.out.drew.tb).mono ?_
      rintro e w12 ⟨rfl, hb12⟩
      have HSb : Hid (SqY q7 Y (r + 1) r (f k) hs hg w12) := HS.out.below hb12
      have HP12 := hid (HP11.out.drew.below hb12)
      have hb12' : Below w11.heap.size w11 w12 := ⟨hb12.os, hb12.tape, hb12.output, hb12.size, hb12.block⟩
      have HBb12 := hid hb12'
      clear hb12 hb12'
      go_simp
      refine hK.out _ _ (fun _ => HSb.out) ?_
      clear hK K
      refine wpL_one 18 rfl (by kernel_rfl) (by rfl) (fun K hK => ?_)
      go_simp
      refine (ref_ok _ hs hg).mono ?_
      rintro e w13 ⟨rfl, hb13⟩
      have HSc : Hid (SqY q7 Y (r + 1) r (f k) hs hg w13) := HSb.out.below hb13
      have HP13 := hid (HP12.out.below hb13)
      have HBb13 : Hid (Below w11.heap.size w11 w13) := HBb12.out.trans (hb13.mono HBb12.out.size)
      clear hb13
      go_simp
      refine hK.out _ _ (fun _ => HSc.out) ?_
      clear hK K
      refine wpL_one 21 rfl (by kernel_rfl) (by rfl) (fun K hK => ?_)
      go_simp
      refine (HC2.out w13 HP13.out.rb).mono ?_
      rintro e w14 ⟨rfl, hb14⟩
      have HSd : Hid (SqY q7 Y (r + 1) r (f k) hs hg w14) := HSc.out.below hb14
      have HP14 := hid (HP13.out.below hb14)
      have HBb14 : Hid (Below w11.heap.size w11 w14) := HBb13.out.trans (hb14.mono HBb13.out.size)
      clear hb14
      go_simp
      refine hK.out _ _ (fun _ => HSd.out) ?_
      clear hK K
      refine wpL_take 22 89 (.bool false) [] rfl rfl (by kernel_rfl) (by decide) (by kernel_rfl) (by kernel_rfl) (by kernel_rfl) (fun _ _ _ h => h) HSd.out (by rfl) (fun W hW => by have p1 := hW.p1; have x4 := blk_cell hW.x 4; have y0 := blk_cell hW.y 0; have y1 := blk_cell hW.y 1; go_simp) ?_
      simp only [Act.put, List.setIfInBounds_toArray, List.set_cons_zero, List.set_cons_succ]
      refine wpL_one 23 rfl (by kernel_rfl) (by rfl) (fun K hK => ?_)
      go_simp
      refine hK.out _ _ (fun h => absurd rfl h) ?_
      clear hK K
      refine wpL_done (by kernel_rfl) ?_
      refine NoPanic.normal ?_
      have HB14 : Hid (Below w.heap.size w w14) := HB11.out.trans (HBb14.out.mono HB11.out.size)
      have HOA14 : Hid (w14.ownsRow W9.heap.size 42 2 (.slice ao1 Na cap1) Na (hcn Hl)) := own_keep HOA11.out (fun g C hC => blk_below hC HBb14.out)
      have HOB14 : Hid (w14.ownsRow w10.heap.size 51 2 (.slice ao2 Na cap2) Na (hcn Hl)) := own_keep HOB.out (fun g C hC => blk_below hC HBb14.out)
      clear HS HSb HSc HSd HP12 HP13 HBb12 HBb13 HBb14 HOA11 HOB HB11 HX11 HY11 HP11 HC1 HC2
      have HT14 : Hid (∃ T L, Pw w14 b (r + 1) b r T L ∧ L.length ≤ k + 1) := ⟨T', L', HP14.out, by omega⟩
      go_wp2_with fail
      go_loopw [93] (fun u wq => ∃ (j : Nat), j ≤ Na ∧ u = i64 j ∧ Hid (Below w14.heap.size w14 wq)) (fun u _ => Na - (intOf u).toNat)
      case atStart => exact ⟨0, by omega, rfl, Below.refl _ _⟩
      case round =>
        obtain ⟨j, hj, rfl, HBj⟩ := hrel
        by_cases hltj : j < Na
        · obtain ⟨⟨sn, gg⟩, hd⟩ : ∃ d, Hl[j]? = some d := ⟨_, List.getElem?_eq_getElem (by rw [← HNa.out]; exact hltj)⟩
          have hcg := hcn_get Hl j (sn, gg) hd
          have hA : Na ≤ cap1 ∧ ∃ ga, ao1 = some ⟨ga, 0, none⟩ := by
            rcases HOA14.out.2 with ⟨hv, h0⟩ | ⟨g, cp, cur, hv, _, _, hc, _⟩
            · omega
            · simp only [Value.slice.injEq] at hv
              obtain ⟨h1, _, rfl⟩ := hv
              exact ⟨hc, g, h1⟩
          have hB : Na ≤ cap2 ∧ ∃ gb, ao2 = some ⟨gb, 0, none⟩ := by
            rcases HOB14.out.2 with ⟨hv, h0⟩ | ⟨g, cp, cur, hv, _, _, hc, _⟩
            · omega
            · simp only [Value.slice.injEq] at hv
              obtain ⟨h1, _, rfl⟩ := hv
              exact ⟨hc, g, h1⟩
          obtain ⟨hc1, ga, rfl⟩ := hA
          obtain ⟨hc2, gb, rfl⟩ := hB
          have hS14 : SqC ga gb j sn gg w14 := ⟨by rw [HOA14.out.cellAt _ (by omega)]; exact hcg.1, by rw [HOA14.out.cellAt _ (by omega)]; exact hcg.2, by rw [HOB14.out.cellAt _ (by omega)]; exact hcg.1, by rw [HOB14.out.cellAt _ (by omega)]; exact hcg.2⟩
          have hSj := hS14.below HBj.out
          have HS : Hid (SqC ga gb j sn gg wr.drew) := ⟨hSj.a0, hSj.a1, hSj.b0, hSj.b1⟩
          have hjI : (j : Int) < Na := by omega
          have hc1I : (Na : Int) ≤ cap1 := by omega
          have hc2I : (Na : Int) ≤ cap2 := by omega
          clear hcg hd hS14 hSj
          go_upto_region 18 with fail
          refine wp_region_noPanic ?_
          refine wp_region_last (SqC ga gb j sn gg) 9 (by kernel_rfl) ?_
          refine wpL_take 0 96 (.slice (some ⟨ga, 0, none⟩) Na cap1) [2, 3, 4] rfl rfl (by kernel_rfl) (by decide) (by kernel_rfl) (by kernel_rfl) (by kernel_rfl) (fun _ _ _ h => h) HS.out (by rfl) (fun W hW => by have a0 := hW.a0; have a1 := hW.a1; have b0 := hW.b0; have b1 := hW.b1; go_simp) ?_
          simp only [Act.put, List.setIfInBounds_toArray, List.set_cons_zero, List.set_cons_succ]
          refine wpL_take 1 97 (i64 (j : Nat)) [2, 3, 4] rfl rfl (by kernel_rfl) (by decide) (by kernel_rfl) (by kernel_rfl) (by kernel_rfl) (fun _ _ _ h => h) HS.out (by rfl) (fun W hW => by have a0 := hW.a0; have a1 := hW.a1; have b0 := hW.b0; have b1 := hW.b1; go_simp) ?_
          simp only [Act.put, List.setIfInBounds_toArray, List.set_cons_zero, List.set_cons_succ]
          refine wpL_take 2 98 (.pointer (some ⟨ga, j * 2, none⟩)) [3, 4] rfl rfl (by kernel_rfl) (by decide) (by kernel_rfl) (by kernel_rfl) (by kernel_rfl) (fun _ _ _ h => h) HS.out (by rfl) (fun W hW => by have a0 := hW.a0; have a1 := hW.a1; have b0 := hW.b0; have b1 := hW.b1; go_simp) ?_
          simp only [Act.put, List.setIfInBounds_toArray, List.set_cons_zero, List.set_cons_succ]
          refine wpL_take 3 99 (.agg #[i64 (sn : Nat), i64 gg]) [4] rfl rfl (by kernel_rfl) (by decide) (by kernel_rfl) (by kernel_rfl) (by kernel_rfl) (fun _ _ _ h => h) HS.out (by rfl) (fun W hW => by have a0 := hW.a0; have a1 := hW.a1; have b0 := hW.b0; have b1 := hW.b1; go_simp) ?_
          simp only [Act.put, List.setIfInBounds_toArray, List.set_cons_zero, List.set_cons_succ]
          refine wpL_take 5 101 (.slice (some ⟨gb, 0, none⟩) Na cap2) [7, 8] rfl rfl (by kernel_rfl) (by decide) (by kernel_rfl) (by kernel_rfl) (by kernel_rfl) (fun _ _ _ h => h) HS.out (by rfl) (fun W hW => by have a0 := hW.a0; have a1 := hW.a1; have b0 := hW.b0; have b1 := hW.b1; go_simp) ?_
          simp only [Act.put, List.setIfInBounds_toArray, List.set_cons_zero, List.set_cons_succ]
          refine wpL_take 6 102 (i64 (j : Nat)) [7, 8] rfl rfl (by kernel_rfl) (by decide) (by kernel_rfl) (by kernel_rfl) (by kernel_rfl) (fun _ _ _ h => h) HS.out (by rfl) (fun W hW => by have a0 := hW.a0; have a1 := hW.a1; have b0 := hW.b0; have b1 := hW.b1; go_simp) ?_
          simp only [Act.put, List.setIfInBounds_toArray, List.set_cons_zero, List.set_cons_succ]
          refine wpL_take 7 103 (.pointer (some ⟨gb, j * 2, none⟩)) [8] rfl rfl (by kernel_rfl) (by decide) (by kernel_rfl) (by kernel_rfl) (by kernel_rfl) (fun _ _ _ h => h) HS.out (by rfl) (fun W hW => by have a0 := hW.a0; have a1 := hW.a1; have b0 := hW.b0; have b1 := hW.b1; go_simp) ?_
          simp only [Act.put, List.setIfInBounds_toArray, List.set_cons_zero, List.set_cons_succ]
          refine wpL_take 8 104 (.agg #[i64 (sn : Nat), i64 gg]) [] rfl rfl (by kernel_rfl) (by decide) (by kernel_rfl) (by kernel_rfl) (by kernel_rfl) (fun _ _ _ h => h) HS.out (by rfl) (fun W hW => by have a0 := hW.a0; have a1 := hW.a1; have b0 := hW.b0; have b1 := hW.b1; go_simp) ?_
          simp only [Act.put, List.setIfInBounds_toArray, List.set_cons_zero, List.set_cons_succ]
          refine wpL_one 4 rfl (by kernel_rfl) (by rfl) (fun K hK => ?_)
          go_simp
          refine (ref_ok _ (sn : Nat) gg).mono ?_
          rintro e w15 ⟨rfl, hb15⟩
          have HS2 : Hid (SqC ga gb j sn gg w15) := HS.out.below hb15
          have HBj2 : Hid (Below w14.heap.size w14 w15) := HBj.out.drew.trans (hb15.mono HBj.out.size)
          clear hb15
          go_simp
          refine hK.out _ _ (fun _ => HS2.out) ?_
          clear hK K
          refine wpL_one 9 rfl (by kernel_rfl) (by rfl) (fun K hK => ?_)
          have hq51 := eqIn51 (sn : Nat) gg (sn : Nat) gg
          simp only [and_self, decide_true] at hq51
          go_simp
          refine hK.out _ _ (fun h => absurd rfl h) ?_
          clear hK K
          refine wpL_done (by kernel_rfl) ?_
          refine NoPanic.normal ?_
          clear HS HS2 hq51
          go_wp2_with fail
          exact ⟨⟨j + 1, by omega, by go_num, HBj2⟩, by simp [intOf]; omega⟩
        · have HBf : Hid (Below w.heap.size w wr) := HB14.out.trans (HBj.out.mono HB14.out.size)
          have HTf : Hid (∃ T L, Pw wr b (r + 1) b r T L ∧ L.length ≤ k + 1) := ⟨T', L', HP14.out.below HBj.out, by omega⟩
          go_wp2_with fail
          exact ⟨⟨k + 1, by omega, by go_num, HBf, HTf⟩, by simp [intOf]; omega⟩
    · go_wp2_with fail
      refine (two_ok _).mono ?_
      rintro e w2 ⟨rfl, hb2⟩
      have HB2 : Hid (Below w.heap.size w w2) := HB.out.trans (hb2.mono HB.out.size)
      clear hb2
      go_wp2_with fail
      go_ret
      exact ⟨rfl, HB2.out⟩
theorem steps_any (w : World) (ao : Option Addr) (len cap : Nat) (f : Nat → Sp) (hlen : len ≤ maxLen) (hS : SSl w ao len f) : Calls Try.prog 3 #[.slice ao len cap] w fun e w' => e = .returned (.bool true) ∧ Below w.heap.size w w' := by
  by_cases h : 60 < len
  · exact steps_out w ao len cap hlen h
  · exact steps_in w ao len cap f (by omega) hS
end Go.Proofs.Ytcffodkpflfeoaa
