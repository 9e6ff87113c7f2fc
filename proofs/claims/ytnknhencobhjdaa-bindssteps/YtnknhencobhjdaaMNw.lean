/- No statement here. -/
import Derived.Test.YtnknhencobhjdaaMSt
set_option maxRecDepth 100000
namespace Go.Proofs.Ytnknhencobhjdaa
open Go.ChangeShapes Go.WideShapes Go.ChangeAt Go.RowKit Go.Deep Go.ChangeMaps Go.MapKept
open Go.Proofs.Ytnknhencobhjdaa.Cp (pq hid bl1 hO cO zC looks_nil)
open Go.Proofs.Ytnknhencobhjdaa.Qt (zT badB)
theorem hC_rep : ∀ n : Nat, hC (List.replicate n ((0 : Int), (0 : Int))) = List.replicate (n * 2) (i64 0)
  | 0 => rfl
  | n + 1 => by
    have := hC_rep n
    unfold hC at this ⊢
    rw [List.replicate_succ, List.flatMap_cons, this, show (n + 1) * 2 = n * 2 + 1 + 1 by omega, List.replicate_succ, List.replicate_succ]
    rfl
theorem made_eq (n : Nat) : madeCells #[i64 0, i64 0] (n * 2) = (hC (List.replicate n ((0 : Int), (0 : Int)))).toArray := by
  rw [hC_rep]
  apply Array.ext
  · simp [madeCells]
  · intro i h1 h2
    have : (#[i64 0, i64 0] : Array Value)[i % 2]! = i64 0 := by
      rcases Nat.mod_two_eq_zero_or_one i with e | e <;> rw [e] <;> rfl
    simp only [madeCells, Array.getElem_map, Array.getElem_range]
    simpa using this
theorem info43x : (Try.prog.info? 43).map (fun i => (i.zero, i.size, i.bytes)) = some (some (.agg #[i64 0, i64 0]), 2, 16) := by kernel_rfl
theorem make43 (W : World) (n : Nat) (h : n ≤ 64) : (Instr.makeSlice 37 (i64 n) (i64 n)).run Try.prog W = .ok (slV W.heap.size n) (W.alloc (rtO (List.replicate n ((0 : Int), (0 : Int))))) := by
  have h1 := info43x
  cases hi : Try.prog.info? 43 with
  | none => rw [hi] at h1; cases h1
  | some i =>
    rw [hi] at h1
    simp only [Option.map_some, Option.some.injEq, Prod.mk.injEq] at h1
    obtain ⟨hz, hs, hb⟩ := h1
    have hm := run_make (P := Try.prog) W 37 43 i (.agg #[i64 0, i64 0]) (by kernel_rfl) hi hz .i64 .i64 n n (by omega) (by omega) (by rw [hb]; omega) (by omega)
    rw [Int.toNat_natCast, hs] at hm
    rw [hm]
    exact congrArg (fun c => Result.ok (slV W.heap.size n) (W.alloc (.cells c 43))) (made_eq n)
def svG (nn : Nat → Nat) (G : List Nat) (j : Nat) : Value := match G[j]? with
  | some g => slV g (nn j)
  | none => .slice none 0 0
structure Nw (w0 wr : World) (B kb kt km : Nat) (nn : Nat → Nat) (G : List Nat) : Prop where
  row : wr.heap[B]? = some (bdO (pq kb) (pq kt) (.map (some km)) (svG nn G 0) (svG nn G 1) (svG nn G 2))
  lo : w0.heap.size ≤ B
  bk : Qt.Bk wr w0.heap.size kb ⟨nn 0, nn 1, nn 2⟩ (fun _ => none)
  tb : Cp.Tb wr w0.heap.size kt Cp.z128
  mp : MapIs wr km []
  mlo : w0.heap.size ≤ km
  rt : ∀ j g, G[j]? = some g → wr.heap[g]? = some (rtO (List.replicate (nn j) ((0 : Int), (0 : Int)))) ∧ w0.heap.size ≤ g
  nd : G.Nodup
  bel : Below w0.heap.size w0 wr
theorem Nw.step {w0 wr : World} {B kb kt km : Nat} {nn : Nat → Nat} {G : List Nat} (h : Nw w0 wr B kb kt km nn G) (hG : G.length < 3) {o : Nat} (ho : o = 3 + G.length) : Nw w0 ((wr.alloc (rtO (List.replicate (nn G.length) ((0 : Int), (0 : Int))))).setCell ⟨B, o, none⟩ (slV wr.heap.size (nn G.length))).drew B kb kt km nn (G ++ [wr.heap.size]) := by
  have hal : ∀ {k : Nat} {o' : Obj}, wr.heap[k]? = some o' → (wr.alloc (rtO (List.replicate (nn G.length) ((0 : Int), (0 : Int))))).heap[k]? = some o' := fun hk => bka hk _
  have hB := hal h.row
  have keep : ∀ {k : Nat} {o' : Obj}, (wr.alloc (rtO (List.replicate (nn G.length) ((0 : Int), (0 : Int))))).heap[k]? = some o' → k ≠ B → ((wr.alloc (rtO (List.replicate (nn G.length) ((0 : Int), (0 : Int))))).setCell ⟨B, o, none⟩ (slV wr.heap.size (nn G.length))).drew.heap[k]? = some o' := fun hk hne => (Below.heap_setCell _ _ _ _ (by exact hne)).trans hk
  have hBl := blk_lt h.row
  have hlast := hlx wr (rtO (List.replicate (nn G.length) ((0 : Int), (0 : Int))))
  refine ⟨?_, h.lo, h.bk.same (fun k o' hk ho' => keep (hal hk) (ne_of_obj hk h.row (fun e => ?_))), ⟨h.tb.lo, h.tb.len, keep (hal h.tb.row) (ne_of_obj h.tb.row h.row (by simp))⟩, ?_, h.mlo, fun j g hj => ?_, ?_, ?_⟩
  · refine (heap_setCell_same _ B o _ 71 _ hB).trans ?_
    subst ho
    obtain _ | ⟨a, _ | ⟨c, _ | ⟨d, G⟩⟩⟩ := G
    · rfl
    · rfl
    · rfl
    · simp only [List.length_cons] at hG
      omega
  · obtain ⟨C, rfl | rfl⟩ := ho' <;> cases e
  · obtain ⟨es, clock, hb, g⟩ := h.mp
    exact ⟨es, clock, keep (hal hb) (ne_of_obj hb h.row (by simp)), g⟩
  · rw [List.getElem?_append] at hj
    split at hj
    · obtain ⟨h1, h2⟩ := h.rt j g hj
      exact ⟨keep (hal h1) (ne_of_obj h1 h.row (by simp)), h2⟩
    · rename_i hjl
      have hj0 : j - G.length = 0 := by
        rcases Nat.eq_zero_or_pos (j - G.length) with e | e
        · exact e
        · rw [List.getElem?_eq_none (by simp; omega)] at hj; cases hj
      rw [hj0] at hj
      simp at hj
      subst hj
      obtain rfl : j = G.length := by omega
      exact ⟨keep hlast (by omega), h.bel.size⟩
  · rw [List.nodup_append]
    refine ⟨h.nd, by simp, fun a ha c hc => ?_⟩
    simp at hc
    subst hc
    obtain ⟨j, hj⟩ := List.getElem?_of_mem ha
    have := blk_lt (h.rt j a hj).1
    omega
  · exact ((h.bel.alloc h.bel.size _).setCell h.lo _).drew
def Bx.of (kb kt km a c d : Nat) : Bx := ⟨kb, kt, km, fun j => if j = 0 then a else if j = 1 then c else d⟩
theorem Nw.done {w0 wr : World} {B kb kt km : Nat} {nn : Nat → Nat} {a c d : Nat} (h : Nw w0 wr B kb kt km nn [a, c, d]) (hn : ∀ k, k < 3 → nn k ≤ 64) : Bd wr w0.heap.size B (Bx.of kb kt km a c d) ⟨nn 0, nn 1, nn 2⟩ (fun _ => none) Cp.z128 [] (fun j => List.replicate (nn j) ((0 : Int), (0 : Int))) := by
  have hnd := h.nd
  simp only [List.nodup_cons, List.mem_cons, List.not_mem_nil, or_false, not_or, List.nodup_nil, not_false_eq_true, and_true] at hnd
  refine ⟨?_, h.lo, h.bk, h.tb, h.mp, h.mlo, fun k hk => ?_, fun i j hi hj hne => ?_, fun k hk => by simpa using hn k hk⟩
  · have := h.row
    simpa [svG, Bx.of] using this
  · obtain rfl | rfl | rfl : k = 0 ∨ k = 1 ∨ k = 2 := by omega
    · exact h.rt 0 a rfl
    · exact h.rt 1 c rfl
    · exact h.rt 2 d rfl
  · obtain rfl | rfl | rfl : i = 0 ∨ i = 1 ∨ i = 2 := by omega
    all_goals obtain rfl | rfl | rfl : j = 0 ∨ j = 1 ∨ j = 2 := by omega
    all_goals simp [Bx.of] at hne ⊢
    all_goals omega
theorem makeMap_run (W : World) : (Instr.makeMap 68 none).run Try.prog W = .ok (.map (some W.heap.size)) (W.alloc (.map #[] 0)) := by
  simp [Instr.makeMap, Result.andThen]
set_option maxHeartbeats 3200000 in
theorem bnew_ok (w : World) (nn : Nat → Nat) (hn : ∀ k, k < 3 → nn k ≤ 64) : Calls Try.prog 9 #[.agg #[i64 (nn 0), i64 (nn 1), i64 (nn 2)]] w fun e w' => ∃ B x, e = .returned (.tuple #[pq B, i64 0]) ∧ Bd w' w.heap.size B x ⟨nn 0, nn 1, nn 2⟩ (fun _ => none) Cp.z128 [] (fun j => List.replicate (nn j) ((0 : Int), (0 : Int))) ∧ Below w.heap.size w w' := by
  have h0 := hn 0 (by omega)
  have h1 := hn 1 (by omega)
  have h2 := hn 2 (by omega)
  have hout : Qt.outB 0 64 (⟨nn 0, nn 1, nn 2⟩ : Qt.T).l = false := by
    simp [Qt.outB, Qt.T.l]
    omega
  have HNe : Hid (∀ W, Calls Try.prog 28 #[.agg #[i64 (nn 0), i64 (nn 1), i64 (nn 2)]] W fun e w' => e = .returned (.tuple #[.pointer (some ⟨W.heap.size + 1, 0, none⟩), i64 0]) ∧ Below W.heap.size W w' ∧ Qt.Bk w' W.heap.size (W.heap.size + 1) ⟨nn 0, nn 1, nn 2⟩ (fun _ => none) ∧ W.heap.size + 1 < w'.heap.size) := fun W => Qt.new_ok W ⟨nn 0, nn 1, nn 2⟩ hout
  have HB0 : Hid (Below w.heap.size w (w.alloc (.cells #[i64 (nn 0), i64 (nn 1), i64 (nn 2)] 22))) := bl1 w _
  have HQ0 : Hid ((w.alloc (.cells #[i64 (nn 0), i64 (nn 1), i64 (nn 2)] 22)).heap[w.heap.size]? = some (.cells #[i64 (nn 0), i64 (nn 1), i64 (nn 2)] 22)) := hlx w _
  have HN := hid hn
  clear hout hn
  go_enter Try.func9, Try.ntmps9
  go_wp2_with fail
  refine (HNe.out _).mono ?_
  rintro e w1 ⟨rfl, hb1, hbk1, hs1⟩
  have HB1 : Hid (Below w.heap.size w w1) := bth HB0 hb1
  have HQ1 : Hid (w1.heap[w.heap.size]? = some (.cells #[i64 (nn 0), i64 (nn 1), i64 (nn 2)] 22)) := bkb HQ0.out hb1
  obtain ⟨kb, hkb⟩ : ∃ kb, (w.alloc (.cells #[i64 (nn 0), i64 (nn 1), i64 (nn 2)] 22)).heap.size + 1 = kb := ⟨_, rfl⟩
  have HK1 : Hid (Qt.Bk w1 w.heap.size kb ⟨nn 0, nn 1, nn 2⟩ (fun _ => none)) := by
    rw [hkb] at hbk1
    exact ⟨hbk1.book, Nat.le_trans HB0.out.size hbk1.lo, (fun e x hx => by cases hx), hbk1.apart, hbk1.wf⟩
  rw [hkb]
  clear hb1 hbk1 hs1 HB0 HQ0 HNe hkb
  go_wp2_with fail
  refine (Cp.new_ok w1).mono ?_
  rintro e w2 ⟨rfl, hw2⟩
  have HT2 : Hid (Cp.Tb w2 w.heap.size w1.heap.size Cp.z128) := by rw [hw2]; exact ⟨HB1.out.size, (Cp.Tb.new w1).len, (Cp.Tb.new w1).row⟩
  have hb2 : Below w1.heap.size w1 w2 := by rw [hw2]; exact bl1 w1 _
  have HB2 : Hid (Below w.heap.size w w2) := bth HB1 hb2
  have HQ2 : Hid (w2.heap[w.heap.size]? = some (.cells #[i64 (nn 0), i64 (nn 1), i64 (nn 2)] 22)) := bkb HQ1.out hb2
  have HK2 : Hid (Qt.Bk w2 w.heap.size kb ⟨nn 0, nn 1, nn 2⟩ (fun _ => none)) := HK1.out.below hb2
  clear hw2 hb2 HB1 HQ1 HK1
  generalize w1.heap.size = kt at *
  have hmk := makeMap_run w2
  have HW3 : Hid (Nw w ((w2.alloc (.map #[] 0)).alloc (bdO (pq kb) (pq kt) (.map (some w2.heap.size)) (.slice none 0 0) (.slice none 0 0) (.slice none 0 0))) (w2.heap.size + 1) kb kt w2.heap.size nn []) := by
    have hb := (bel_two w2 (.map #[] 0) (bdO (pq kb) (pq kt) (.map (some w2.heap.size)) (.slice none 0 0) (.slice none 0 0) (.slice none 0 0))).out
    refine ⟨?_, by have := HB2.out.size; omega, HK2.out.below hb, HT2.out.below hb, (MapIs.made w2).kept (by rw [Below.heap_alloc _ _ _ (by simp)]), HB2.out.size, (fun j g hj => by cases hj), List.nodup_nil, (bth HB2 hb).out⟩
    have := hlx (w2.alloc (.map #[] 0)) (bdO (pq kb) (pq kt) (.map (some w2.heap.size)) (.slice none 0 0) (.slice none 0 0) (.slice none 0 0))
    rwa [show (w2.alloc (.map #[] 0)).heap.size = w2.heap.size + 1 by simp] at this
  have HQ3 : Hid (((w2.alloc (.map #[] 0)).alloc (bdO (pq kb) (pq kt) (.map (some w2.heap.size)) (.slice none 0 0) (.slice none 0 0) (.slice none 0 0))).heap[w.heap.size]? = some (.cells #[i64 (nn 0), i64 (nn 1), i64 (nn 2)] 22)) := bka (bka HQ2.out _) _
  clear HK2 HT2 HB2 HQ2
  go_upto_region 5 with fail
  unfold bdO pq at HW3 HQ3
  clear hmk
  generalize hVV : (w2.alloc (.map #[] 0)).alloc (.cells #[.pointer (some ⟨kb, 0, none⟩), .pointer (some ⟨kt, 0, none⟩), .map (some w2.heap.size), .slice none 0 0, .slice none 0 0, .slice none 0 0] 71) = V at *
  clear hVV
  generalize hBB : w2.heap.size + 1 = B at *
  clear hBB
  generalize w2.heap.size = km at *
  have x0 : V.cell? ⟨w.heap.size, 0, none⟩ = some (i64 (nn 0)) := bkc HQ3.out 0
  have x1 : V.cell? ⟨w.heap.size, 1, none⟩ = some (i64 (nn 1)) := bkc HQ3.out 1
  have x2 : V.cell? ⟨w.heap.size, 2, none⟩ = some (i64 (nn 2)) := bkc HQ3.out 2
  go_wp2_with fail
  clear x0 x1 x2 HQ3
  go_loopw [23] (fun u23 wr => ∃ (k : Nat) (G : List Nat), G.length = k ∧ k ≤ 3 ∧ u23 = i64 k ∧ Hid (Nw w wr B kb kt km nn G)) (fun u _ => 3 - (intOf u).toNat)
  case atStart => exact ⟨0, [], rfl, by omega, rfl, HW3⟩
  case round =>
    obtain ⟨k, G, hGl, hG, rfl, HNw⟩ := hrel
    clear HW3
    obtain _ | ⟨g0, _ | ⟨g1, _ | ⟨g2, _ | ⟨g3, G⟩⟩⟩⟩ := G
    · have hb3 : wr.cell? ⟨B, 3, none⟩ = some (.slice none 0 0) := bkc HNw.out.row 3
      have HS : Hid ((fun _ => True) wr.drew) := trivial
      have hix : (Instr.index 22 (.agg #[i64 (nn 0), i64 (nn 1), i64 (nn 2)]) (.int .i64 0)).run Try.prog wr = .ok (i64 (nn 0)) wr := by kernel_rfl
      have hmk := make43 wr.drew (nn 0) h0
      have HB3 : Hid (wr.heap[B]? = some (bdO (pq kb) (pq kt) (.map (some km)) (svG nn [] 0) (svG nn [] 1) (svG nn [] 2))) := HNw.out.row
      obtain rfl : k = 0 := hGl.symm
      clear hGl
      go_upto_region 8 with fail
      clear hix
      have HN2 : Hid (Nw w ((wr.alloc (rtO (List.replicate (nn 0) ((0 : Int), (0 : Int))))).setCell ⟨B, 3, none⟩ (slV wr.heap.size (nn 0))).drew B kb kt km nn ([] ++ [wr.heap.size])) := HNw.out.step (by simp) rfl
      have cz : (wr.alloc (rtO (List.replicate (nn 0) ((0 : Int), (0 : Int))))).cell? ⟨B, 3, none⟩ = some (.slice none 0 0) := bkc (bka HB3.out _) 3
      have fz : (wr.alloc (rtO (List.replicate (nn 0) ((0 : Int), (0 : Int))))).frozen? ⟨B, 3, none⟩ = false := bkf (bka HB3.out _) 3
      clear hb3 HB3 HNw
      generalize hRR : rtO (List.replicate (nn 0) ((0 : Int), (0 : Int))) = RR at *
      clear hRR
      refine wp_region_noPanic ?_
      refine wrl (fun _ => True) 7 (by kernel_rfl) ?_
      refine wkp 0 27 (pq B) [4, 5, 6] rfl HS.out (fun W hW => by go_simp) ?_
      refine wkp 1 28 (i64 ((0 : Nat) : Int)) [6] rfl HS.out (fun W hW => by go_simp) ?_
      refine wkp 2 29 (i64 (nn 0)) [3] rfl HS.out (fun W hW => by go_simp) ?_
      refine wkp 4 31 (pq B) [5, 6] rfl HS.out (fun W hW => by go_simp) ?_
      refine wkp 5 32 (.pointer (some ⟨B, 3, none⟩)) [6] rfl HS.out (fun W hW => by go_simp) ?_
      simp only [Act.put, sA, sZ, sS]
      refine wo 3 rfl (fun K hK => ?_)
      go_simp
      refine hK.out _ _ (fun _ => trivial) ?_
      clear hK K
      clear hmk
      refine wk 6 33 (.pointer (some ⟨B, 3, none⟩)) rfl HS.out (fun W hW => by go_simp) ?_
      simp only [Act.put, sA, sZ, sS]
      refine wo 7 rfl (fun K hK => ?_)
      go_simp
      refine hK.out _ _ (fun h => absurd rfl h) ?_
      clear hK K
      refine wdd ?_
      refine NoPanic.normal ?_
      clear cz fz HS
      go_wp2_with fail
      exact ⟨⟨1, _, by simp, by omega, by first | rfl | go_num, HN2⟩, by simp [intOf]⟩
    · have hb3 : wr.cell? ⟨B, 4, none⟩ = some (.slice none 0 0) := bkc HNw.out.row 4
      have HS : Hid ((fun _ => True) wr.drew) := trivial
      have hix : (Instr.index 22 (.agg #[i64 (nn 0), i64 (nn 1), i64 (nn 2)]) (.int .i64 1)).run Try.prog wr = .ok (i64 (nn 1)) wr := by kernel_rfl
      have hmk := make43 wr.drew (nn 1) h1
      have HB3 : Hid (wr.heap[B]? = some (bdO (pq kb) (pq kt) (.map (some km)) (svG nn [g0] 0) (svG nn [g0] 1) (svG nn [g0] 2))) := HNw.out.row
      obtain rfl : k = 1 := hGl.symm
      clear hGl
      go_upto_region 8 with fail
      clear hix
      have HN2 : Hid (Nw w ((wr.alloc (rtO (List.replicate (nn 1) ((0 : Int), (0 : Int))))).setCell ⟨B, 4, none⟩ (slV wr.heap.size (nn 1))).drew B kb kt km nn ([g0] ++ [wr.heap.size])) := HNw.out.step (by simp) rfl
      have cz : (wr.alloc (rtO (List.replicate (nn 1) ((0 : Int), (0 : Int))))).cell? ⟨B, 4, none⟩ = some (.slice none 0 0) := bkc (bka HB3.out _) 4
      have fz : (wr.alloc (rtO (List.replicate (nn 1) ((0 : Int), (0 : Int))))).frozen? ⟨B, 4, none⟩ = false := bkf (bka HB3.out _) 4
      clear hb3 HB3 HNw
      generalize hRR : rtO (List.replicate (nn 1) ((0 : Int), (0 : Int))) = RR at *
      clear hRR
      refine wp_region_noPanic ?_
      refine wrl (fun _ => True) 7 (by kernel_rfl) ?_
      refine wkp 0 27 (pq B) [4, 5, 6] rfl HS.out (fun W hW => by go_simp) ?_
      refine wkp 1 28 (i64 ((1 : Nat) : Int)) [6] rfl HS.out (fun W hW => by go_simp) ?_
      refine wkp 2 29 (i64 (nn 1)) [3] rfl HS.out (fun W hW => by go_simp) ?_
      refine wkp 4 31 (pq B) [5, 6] rfl HS.out (fun W hW => by go_simp) ?_
      refine wkp 5 32 (.pointer (some ⟨B, 3, none⟩)) [6] rfl HS.out (fun W hW => by go_simp) ?_
      simp only [Act.put, sA, sZ, sS]
      refine wo 3 rfl (fun K hK => ?_)
      go_simp
      refine hK.out _ _ (fun _ => trivial) ?_
      clear hK K
      clear hmk
      refine wk 6 33 (.pointer (some ⟨B, 4, none⟩)) rfl HS.out (fun W hW => by go_simp) ?_
      simp only [Act.put, sA, sZ, sS]
      refine wo 7 rfl (fun K hK => ?_)
      go_simp
      refine hK.out _ _ (fun h => absurd rfl h) ?_
      clear hK K
      refine wdd ?_
      refine NoPanic.normal ?_
      clear cz fz HS
      go_wp2_with fail
      exact ⟨⟨2, _, by simp, by omega, by first | rfl | go_num, HN2⟩, by simp [intOf]⟩
    · have hb3 : wr.cell? ⟨B, 5, none⟩ = some (.slice none 0 0) := bkc HNw.out.row 5
      have HS : Hid ((fun _ => True) wr.drew) := trivial
      have hix : (Instr.index 22 (.agg #[i64 (nn 0), i64 (nn 1), i64 (nn 2)]) (.int .i64 2)).run Try.prog wr = .ok (i64 (nn 2)) wr := by kernel_rfl
      have hmk := make43 wr.drew (nn 2) h2
      have HB3 : Hid (wr.heap[B]? = some (bdO (pq kb) (pq kt) (.map (some km)) (svG nn [g0, g1] 0) (svG nn [g0, g1] 1) (svG nn [g0, g1] 2))) := HNw.out.row
      obtain rfl : k = 2 := hGl.symm
      clear hGl
      go_upto_region 8 with fail
      clear hix
      have HN2 : Hid (Nw w ((wr.alloc (rtO (List.replicate (nn 2) ((0 : Int), (0 : Int))))).setCell ⟨B, 5, none⟩ (slV wr.heap.size (nn 2))).drew B kb kt km nn ([g0, g1] ++ [wr.heap.size])) := HNw.out.step (by simp) rfl
      have cz : (wr.alloc (rtO (List.replicate (nn 2) ((0 : Int), (0 : Int))))).cell? ⟨B, 5, none⟩ = some (.slice none 0 0) := bkc (bka HB3.out _) 5
      have fz : (wr.alloc (rtO (List.replicate (nn 2) ((0 : Int), (0 : Int))))).frozen? ⟨B, 5, none⟩ = false := bkf (bka HB3.out _) 5
      clear hb3 HB3 HNw
      generalize hRR : rtO (List.replicate (nn 2) ((0 : Int), (0 : Int))) = RR at *
      clear hRR
      refine wp_region_noPanic ?_
      refine wrl (fun _ => True) 7 (by kernel_rfl) ?_
      refine wkp 0 27 (pq B) [4, 5, 6] rfl HS.out (fun W hW => by go_simp) ?_
      refine wkp 1 28 (i64 ((2 : Nat) : Int)) [6] rfl HS.out (fun W hW => by go_simp) ?_
      refine wkp 2 29 (i64 (nn 2)) [3] rfl HS.out (fun W hW => by go_simp) ?_
      refine wkp 4 31 (pq B) [5, 6] rfl HS.out (fun W hW => by go_simp) ?_
      refine wkp 5 32 (.pointer (some ⟨B, 3, none⟩)) [6] rfl HS.out (fun W hW => by go_simp) ?_
      simp only [Act.put, sA, sZ, sS]
      refine wo 3 rfl (fun K hK => ?_)
      go_simp
      refine hK.out _ _ (fun _ => trivial) ?_
      clear hK K
      clear hmk
      refine wk 6 33 (.pointer (some ⟨B, 5, none⟩)) rfl HS.out (fun W hW => by go_simp) ?_
      simp only [Act.put, sA, sZ, sS]
      refine wo 7 rfl (fun K hK => ?_)
      go_simp
      refine hK.out _ _ (fun h => absurd rfl h) ?_
      clear hK K
      refine wdd ?_
      refine NoPanic.normal ?_
      clear cz fz HS
      go_wp2_with fail
      exact ⟨⟨3, _, by simp, by omega, by first | rfl | go_num, HN2⟩, by simp [intOf]⟩
    · obtain rfl : k = 3 := hGl.symm
      clear hGl
      go_wp2_with fail
      go_ret2
      exact ⟨B, _, rfl, HNw.out.done HN.out, HNw.out.bel⟩
    · simp only [List.length_cons] at hGl
      omega
end Go.Proofs.Ytnknhencobhjdaa
