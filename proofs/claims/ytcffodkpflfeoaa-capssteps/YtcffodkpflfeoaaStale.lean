/- CapsStale's walk; no statement is proved in this text. -/
import Derived.Test.YtcffodkpflfeoaaLess
namespace Go.Proofs.Ytcffodkpflfeoaa
open Go.ChangeShapes Go.WideShapes Go.ChangeAt Go.RowKit Go.Deep
attribute [local go_sem ↓] Go.wp_at_zero Go.wp_at_succ

theorem cnS_mono (L : List Rw) (s : Int) : ∀ (n i : Nat), i ≤ n → cnS (L.take i) s ≤ cnS (L.take n) s
  | 0, i, h => by rw [show i = 0 by omega]; exact Nat.le_refl _
  | n + 1, i, h => by
    by_cases hi : i = n + 1
    · rw [hi]; exact Nat.le_refl _
    · refine Nat.le_trans (cnS_mono L s n i (by omega)) ?_
      rw [List.take_add_one]
      unfold cnS
      rw [List.filter_append, List.length_append]
      omega
theorem gu_lt {L : List Rw} (h : Gu L) {i j : Nat} {p q : Rw} (hp : L[i]? = some p) (hq : L[j]? = some q) (hs : p.sl = q.sl) (hij : i < j) : p.gn < q.gn := by
  have h1 := h i p hp
  have h2 := h j q hq
  have h3 := cnS_mono L q.sl j (i + 1) (by omega)
  rw [cnS_succ hp, if_pos hs] at h3
  rw [hs] at h1
  omega
theorem gu_one {L : List Rw} (h : Gu L) {i j : Nat} {p q : Rw} (hp : L[i]? = some p) (hq : L[j]? = some q) (hs : p.sl = q.sl) (hg : p.gn = q.gn) : i = j := by
  rcases Nat.lt_trichotomy i j with h' | h' | h'
  · have := gu_lt h hp hq hs h'; omega
  · exact h'
  · have := gu_lt h hq hp hs.symm h'; omega
theorem stale_look {T : List Pl} {L : List Rw} (hr : Rel T L) (hg : Gu L) {i : Nat} {q : Rw} (hq : L[i]? = some q) : (chE (lookF T q.c.env q.sl q.gn) 1 == 90) = !q.lv := by
  cases hl : q.lv with
  | true =>
    obtain ⟨s, hs1, hs2⟩ := hr.sl i q hq
    obtain ⟨p, hp⟩ := hr.get hs1
    obtain ⟨e1, e2, _⟩ := hr.tk i q s p hq hl hs2 hp
    rw [hs2, lookF_at (T := T) hp (by rw [e1]; exact right_ne (hr.rt i q hq hl)) e2 (by rw [e1])]
    rw [chE_eq]
    split <;> rfl
  | false =>
    rcases hr.look q.c.env q.sl q.gn with ⟨h1, _⟩ | ⟨k, q', s, h1, h2, h3, h4, h5, h6, h7, h8, h9⟩
    · rw [h1]; rfl
    · have := gu_one hg h3 hq h7 h8
      subst this
      rw [hq] at h3
      cases h3
      rw [hl] at h4
      cases h4
def nl (q : Rw) : Bool := !q.lv
def stL (Lo L : List Rw) (i : Nat) : List Bool := (L.take i).map nl ++ (Lo.drop i).map nl
theorem stL_len (Lo L : List Rw) (i : Nat) (hi : i ≤ L.length) : (stL Lo L i).length = i + (Lo.length - i) := by simp [stL]; omega
theorem stL_zero (Lo L : List Rw) : stL Lo L 0 = Lo.map nl := by simp [stL]
theorem stL_end (Lo L : List Rw) (h : Lo.length ≤ L.length) : stL Lo L L.length = L.map nl := by
  unfold stL
  rw [List.take_length, List.drop_eq_nil_of_le h]
  simp
theorem stL_get {Lo L : List Rw} {i : Nat} {p : Rw} (hi : i ≤ L.length) (hp : Lo[i]? = some p) : (stL Lo L i)[i]? = some (nl p) := by
  unfold stL
  rw [List.getElem?_append_right (by simp; omega), List.length_map, List.length_take, Nat.min_eq_left hi, Nat.sub_self, List.getElem?_map, List.getElem?_drop, Nat.add_zero, hp]
  rfl
theorem stL_set {Lo L : List Rw} {i : Nat} {q : Rw} (hq : L[i]? = some q) (hi : i < Lo.length) : (stL Lo L i).set i (nl q) = stL Lo L (i + 1) := by
  have hiL := (List.getElem?_eq_some_iff.1 hq).1
  unfold stL
  have hl : ((L.take i).map nl).length = i := by simp; omega
  rw [List.set_append_right _ _ (by omega), hl, Nat.sub_self, List.take_add_one, hq, List.map_append, List.append_assoc, List.drop_eq_getElem_cons hi]
  rfl
theorem stL_snoc {Lo L : List Rw} {i : Nat} {q : Rw} (hq : L[i]? = some q) (hi : Lo.length ≤ i) : stL Lo L i ++ [nl q] = stL Lo L (i + 1) := by
  unfold stL
  rw [List.drop_eq_nil_of_le hi, List.drop_eq_nil_of_le (by omega), List.take_add_one, hq]
  simp
def bcs (l : List Bool) : List Value := l.map Value.bool
theorem bcs_app (a b : List Bool) : bcs (a ++ b) = bcs a ++ bcs b := by simp [bcs]
theorem bcs_get (l : List Bool) (i : Nat) (x : Bool) (h : l[i]? = some x) : (bcs l)[i]? = some (.bool x) := by simp [bcs, h]
theorem bcs_set (l : List Bool) (i : Nat) (x : Bool) : (bcs l).set i (.bool x) = bcs (l.set i x) := by simp [bcs, List.map_set]
theorem under54 : Try.prog.underlying 54 = some (.slice 4) := by kernel_rfl
theorem info4x : (Try.prog.info? 4).map (fun i => (i.zero, i.size, i.bytes)) = some (some (.bool false), 1, 1) := by kernel_rfl
theorem Pw.fr {w w' : World} {base P b r : Nat} {T : List Pl} {L : List Rw} (h : Pw w base P b r T L) {bs : Nat} {ts : List TypeId} (hf : Fr bs ts w w') (h1 : ts.contains 72 = false) (h2 : ts.contains 30 = false) (h3 : ts.contains 66 = false) (h4 : ts.contains 34 = false) (h5 : ts.contains 42 = false) (h6 : ts.contains 3 = false) : Pw w' base P b r T L := by
  obtain ⟨vH, vE, g1, g2, g3⟩ := h.blk
  exact ⟨h.lo, h.tb.fr hf h1, h.rb.fr hf h2 h3, h.rel, h.gu, vH, vE, hf.kept _ _ g1 (by simp only [keeps, h4]; rfl), own_keep g2 (fun k C hC => hf.kept k _ hC (by simp only [keeps, h5]; rfl)), own_keep g3 (fun k C hC => hf.kept k _ hC (by simp only [keeps, h6]; rfl))⟩
theorem own_set {w : World} {base : Nat} {e : TypeId} {n cap g : Nat} {xs : List Value} (h : w.ownsRow base e 1 (.slice (some ⟨g, 0, none⟩) n cap) n xs) {i : Nat} (v : Value) : (w.setCell ⟨g, i, none⟩ v).ownsRow base e 1 (.slice (some ⟨g, 0, none⟩) n cap) n (xs.set i v) ∧ Fr base [e] w (w.setCell ⟨g, i, none⟩ v) := by
  obtain ⟨hl, h3⟩ := h
  rcases h3 with ⟨hn, _⟩ | ⟨g', cap', cur, he, hbg, hgg, hc1, hc2, hc3, htk⟩
  · simp at hn
  · simp only [Value.slice.injEq, Option.some.injEq, Addr.mk.injEq] at he
    obtain ⟨⟨rfl, _⟩, _, rfl⟩ := he
    refine ⟨⟨by rw [List.length_set]; exact hl, .inr ⟨g, cap, _, rfl, hbg, heap_setCell_same w g _ _ e _ hgg, hc1, hc2, by simpa using hc3, ?_⟩⟩, Fr.of_touch ((Touch.refl g w).setCell rfl _) hgg (by simp [keeps]) hbg⟩
    rw [← htk, Array.toList_setIfInBounds, List.take_set]
/-- Where the handles and their owners lie. -/
theorem Pw.rows {w : World} {base P b r : Nat} {T : List Pl} {L : List Rw} (h : Pw w base P b r T L) : ∃ aoH capH aoE capE, w.heap[P]? = some (.cells #[pq b, pq r, .slice aoH L.length capH, .slice aoE L.length capE] 34) ∧ L.length ≤ capH ∧ L.length ≤ capE ∧ ∀ (i : Nat) (q : Rw) (s : Nat), L[i]? = some q → q.sl = (s : Nat) → ∃ gH gE, aoH = some ⟨gH, 0, none⟩ ∧ aoE = some ⟨gE, 0, none⟩ ∧ w.cell? ⟨gH, i * 2, none⟩ = some (i64 (s : Nat)) ∧ w.cell? ⟨gH, i * 2 + 1, none⟩ = some (i64 q.gn) ∧ w.cell? ⟨gE, i, none⟩ = some (i64 q.c.env) := by
  obtain ⟨vH, vE, hP, hH, hE⟩ := h.blk
  obtain ⟨aoH, capH, rfl, _⟩ := own_slice hH
  obtain ⟨aoE, capE, rfl, _⟩ := own_slice hE
  refine ⟨aoH, capH, aoE, capE, hP, ?_, ?_, fun i q s hq hs => ?_⟩
  · rcases hH.2 with ⟨_, h0⟩ | ⟨g, cp, cur, hv, _, _, hc, _⟩
    · omega
    · simp only [Value.slice.injEq] at hv
      obtain ⟨_, _, rfl⟩ := hv
      exact hc
  · rcases hE.2 with ⟨_, h0⟩ | ⟨g, cp, cur, hv, _, _, hc, _⟩
    · omega
    · simp only [Value.slice.injEq] at hv
      obtain ⟨_, _, rfl⟩ := hv
      exact hc
  have hi := (List.getElem?_eq_some_iff.1 hq).1
  have hc := hcn_get (L.map hdR) i (hdR q) (by simp [hq])
  have hh1 : (hdR q).1 = s := by simp [hdR, hs]
  rw [hh1] at hc
  have h0 := hH
  have h0' := hE
  rcases hH.2 with ⟨_, h'⟩ | ⟨gH, cp, cur, hv, _, _, _, _⟩
  · omega
  · rcases hE.2 with ⟨_, h'⟩ | ⟨gE, cp', cur', hv', _, _, _, _⟩
    · omega
    · simp only [Value.slice.injEq] at hv hv'
      obtain ⟨rfl, _, rfl⟩ := hv
      obtain ⟨rfl, _, rfl⟩ := hv'
      refine ⟨gH, gE, rfl, rfl, ?_, ?_, ?_⟩
      · rw [h0.cellAt _ (by omega)]; exact hc.1
      · rw [h0.cellAt _ (by omega)]; exact hc.2
      · rw [h0'.cellAt _ (by omega)]; simp [icells, hq]
structure SqI (P gH gE i : Nat) (vH vE : Value) (s g e : Int) (W : World) : Prop where
  p2 : W.cell? ⟨P, 2, none⟩ = some vH
  p3 : W.cell? ⟨P, 3, none⟩ = some vE
  h0 : W.cell? ⟨gH, i * 2, none⟩ = some (i64 s)
  h1 : W.cell? ⟨gH, i * 2 + 1, none⟩ = some (i64 g)
  e0 : W.cell? ⟨gE, i, none⟩ = some (i64 e)
theorem SqI.below {P gH gE i : Nat} {vH vE : Value} {s g e : Int} {W W' : World} (h : SqI P gH gE i vH vE s g e W) (hb : Below W.heap.size W W') : SqI P gH gE i vH vE s g e W' :=
  ⟨(hb.cell (World.block_lt_of_cell? W _ h.p2)).trans h.p2, (hb.cell (World.block_lt_of_cell? W _ h.p3)).trans h.p3, (hb.cell (World.block_lt_of_cell? W _ h.h0)).trans h.h0, (hb.cell (World.block_lt_of_cell? W _ h.h1)).trans h.h1, (hb.cell (World.block_lt_of_cell? W _ h.e0)).trans h.e0⟩
set_option maxRecDepth 100000 in
set_option maxHeartbeats 6400000 in
theorem stale_in (w : World) (ao : Option Addr) (len cap : Nat) (f : Nat → Sp) (hl : len ≤ 60) (hS : SSl w ao len f) : Calls Try.prog 4 #[.slice ao len cap] w fun e w' => e = .returned (.bool true) ∧ Below w.heap.size w w' := by
  have HSl := hid hS
  have hlI : (len : Int) ≤ 60 := by omega
  clear hS
  go_enter Try.func4, Try.ntmps4
  go_wp2_with fail
  refine (new_tb w).mono ?_
  rintro e w1 ⟨rfl, hT1, hb1, hl1⟩
  obtain ⟨hPn, hbn⟩ := pw_new hT1
  have HPn := hid hPn
  have HBn : Hid (Below w.heap.size w (nw w1 w.heap.size)) := hb1.trans (hbn.mono hb1.size)
  clear hT1 hb1 hPn hbn
  go_upto_region 6 with fail
  unfold nw at HPn HBn
  generalize (w1.alloc (.cells #[.slice none 0 0] 30)).alloc (.cells #[pq w.heap.size, pq w1.heap.size, .slice none 0 0, .slice none 0 0] 34) = U at *
  obtain ⟨b, hb⟩ : ∃ b, b = w.heap.size := ⟨_, rfl⟩
  rw [← hb] at HPn ⊢
  have HBb := hid hb
  clear hb
  generalize w1.heap.size = r at *
  go_wp2_with fail
  go_loopw [5, 30] (fun v u wr => ∃ (k : Nat), k ≤ len ∧ u = i64 k ∧ Hid (Below w.heap.size w wr) ∧ Hid (∃ T L, Pw wr b (r + 1) b r T L ∧ L.length ≤ k ∧ wr.ownsRow b 4 1 v L.length (bcs (L.map nl)))) (fun _ u _ => len - (intOf u).toNat)
  case atStart => exact ⟨0, by omega, rfl, HBn, z128, [], HPn.out, by simp, World.ownsRow_nil _ _ 4 1⟩
  case round =>
    obtain ⟨k, hk, rfl, HB, HT⟩ := hrel
    by_cases hlt : k < len
    · obtain ⟨T, L, hPw, hLk, hSt⟩ := HT.out
      obtain ⟨B, off, rfl, hBl, hce⟩ := (HSl.out.below HB.out).at hlt
      have HCe := hid hce
      obtain ⟨hs1, hs2, hs3⟩ := st38 wr (f k)
      have hz := zero38 wr
      have HTH := hid hs3
      have HX4 : Hid (((wr.alloc z38).setCells wr.heap.size 0 (f k).c').heap[wr.heap.size]? = some (spO (f k))) := hs1
      have HB4 : Hid (Below w.heap.size w ((wr.alloc z38).setCells wr.heap.size 0 (f k).c')) := HB.out.trans (hs2.mono HB.out.size)
      have HP4 : Hid (Pw ((wr.alloc z38).setCells wr.heap.size 0 (f k).c') b (r + 1) b r T L) := hPw.below hs2
      have HO4 : Hid (((wr.alloc z38).setCells wr.heap.size 0 (f k).c').ownsRow b 4 1 u5 L.length (bcs (L.map nl))) := own_keep hSt (fun g C hC => blk_below hC hs2)
      have HD := hid (fun W (hW : Pw W b (r + 1) b r T L) => does_any hW (by omega) (f k))
      have hkI : (k : Int) < len := by omega
      clear hPw hce hs1 hs2 hs3 hSt
      unfold z38 at *
      go_upto_region 9 with (first | (refine wpList_load_mid rfl 38 (.tmp 32) rfl B (off + k * 11) rfl (f k).c' _ (by exact HCe.out) Try.underlying38 rfl info38 ?_) | (refine wpList_store_mid rfl 38 (.tmp 7) (.tmp 33) rfl wr.heap.size 0 (f k).c'.toArray rfl rfl (by exact HTH.out) (by kernel_rfl) (sp_one _) ?_))
      generalize (wr.alloc (.cells #[i64 0, i64 0, i64 0, i64 0, i64 0, .bool false, i64 0, i64 0, i64 0, i64 0, i64 0] 38)).setCells wr.heap.size 0 (f k).c' = U4 at *
      generalize wr.heap.size = q7 at *
      go_wp2_with (refine wpList_load_mid rfl 38 (.tmp 7) rfl q7 0 rfl (f k).c' _ (by exact spO_range HX4.out) Try.underlying38 rfl info38 ?_)
      refine (HD.out U4 HP4.out).mono ?_
      rintro e w5 ⟨rfl, ⟨T', L', hP5, hmono, hL5⟩, hf5⟩
      have HB5 : Hid (Below w.heap.size w w5) := HB4.out.trans (hf5.below.mono (by rw [HBb.out]; exact Nat.le_refl _))
      have HO5 : Hid (w5.ownsRow b 4 1 u5 L.length (bcs (L.map nl))) := own_keep HO4.out (fun g C hC => hf5.kept g _ hC (by rfl))
      have HP5 := hid hP5
      have HMo := hid hmono
      have hLL : L.length ≤ L'.length := by
        rcases Nat.lt_or_ge L'.length L.length with h' | h'
        · exfalso
          obtain ⟨q', hq', _⟩ := hmono L'.length L[L'.length] (List.getElem?_eq_getElem h')
          rw [List.getElem?_eq_none (Nat.le_refl _)] at hq'
          cases hq'
        · exact h'
      obtain ⟨aoH, capH, aoE, capE, hPb, _, _, _⟩ := hP5.rows
      have p2 : w5.cell? ⟨r + 1, 2, none⟩ = some (.slice aoH L'.length capH) := blk_cell hPb 2
      obtain ⟨N, hN⟩ : ∃ N, N = L'.length := ⟨_, rfl⟩
      rw [← hN] at p2 hLL hL5
      have HNe := hid hN
      have hNI : (N : Int) ≤ 61 := by omega
      have HO50 : Hid (w5.ownsRow b 4 1 u5 (stL L L' 0).length (bcs (stL L L' 0))) := by rw [stL_zero, List.length_map]; exact HO5
      clear hP5 hf5 hmono hPb hN HO5
      go_wp2_with fail
      go_loopw [5, 42] (fun v u wq => ∃ (i : Nat), i ≤ N ∧ u = i64 i ∧ Hid (Below w.heap.size w wq) ∧ Hid (Pw wq b (r + 1) b r T' L') ∧ Hid (wq.ownsRow b 4 1 v (stL L L' i).length (bcs (stL L L' i)))) (fun _ u _ => N - (intOf u).toNat)
      case atStart => exact ⟨0, by omega, rfl, HB5, HP5, HO50⟩
      case round =>
        obtain ⟨i, hi, rfl, HBi, HPi, HOi⟩ := hrel
        by_cases hlti : i < N
        · have hiL : i < L'.length := by rw [← HNe.out]; exact hlti
          obtain ⟨q, hq⟩ : ∃ q, L'[i]? = some q := ⟨_, List.getElem?_eq_getElem hiL⟩
          obtain ⟨sn, _, hsn⟩ := HPi.out.rel.sl i q hq
          obtain ⟨aoH', capH', aoE', capE', hPb, hcH, hcE, hrow⟩ := HPi.out.rows
          obtain ⟨gH, gE, rfl, rfl, r0, r1, r2⟩ := hrow i q sn hq hsn
          rw [← HNe.out] at hPb hcH hcE
          have hiI : (i : Int) < N := by omega
          have hcHI : (N : Int) ≤ capH' := by omega
          have hcEI : (N : Int) ≤ capE' := by omega
          have hch := check_any HPi.out.tb HPi.out.rel.rts q.c.env q.sl q.gn 1
          have hst := stale_look HPi.out.rel HPi.out.gu hq
          obtain ⟨X, hX⟩ : ∃ X, X = chE (lookF T' q.c.env q.sl q.gn) 1 := ⟨_, rfl⟩
          rw [← hX] at hch hst
          rw [hsn] at hch
          have hXn : (X == 90) = nl q := hst
          have HCh : Hid (Calls Try.prog 16 #[pq b, i64 q.c.env, .agg #[i64 (sn : Nat), i64 q.gn], i64 1] wr.drew fun e w' => e = .returned (i64 X) ∧ Below wr.drew.heap.size wr.drew w') := by
            have h9 := check_any (T := T') (w := wr.drew) ⟨HPi.out.tb.lo, HPi.out.tb.len, HPi.out.tb.row⟩ HPi.out.rel.rts q.c.env q.sl q.gn 1
            rw [← hX, hsn] at h9
            exact h9
          have hd : decide ((N : Int) ≤ (i : Int)) = false := decide_eq_false (by omega)
          have HS : Hid (SqI (r + 1) gH gE i (.slice (some ⟨gH, 0, none⟩) N capH') (.slice (some ⟨gE, 0, none⟩) N capE') (sn : Nat) q.gn q.c.env wr.drew) := ⟨blk_cell hPb 2, blk_cell hPb 3, r0, r1, r2⟩
          have HQ := hid hq
          have HXN := hid hXn
          have hnlq : (L.length ≤ i ∨ ∃ p, L[i]? = some p ∧ (nl p && !nl q) = false) := by
            rcases Nat.lt_or_ge i L.length with h' | h'
            · right
              obtain ⟨q', hq', _, _, _, hd'⟩ := HMo.out i L[i] (List.getElem?_eq_getElem h')
              rw [hq] at hq'
              cases hq'
              refine ⟨L[i], List.getElem?_eq_getElem h', ?_⟩
              cases hlv : L[i].lv with
              | true => simp [nl, hlv]
              | false => simp [nl, hlv, hd' hlv]
            · left; exact h'
          have HNl := hid hnlq
          clear hrow hq hPb hch hst hX hXn r0 r1 r2 hnlq
          go_upto_region 13 with fail
          refine wp_region_noPanic ?_
          refine wp_region_last (SqI (r + 1) gH gE i (.slice (some ⟨gH, 0, none⟩) N capH') (.slice (some ⟨gE, 0, none⟩) N capE') (sn : Nat) q.gn q.c.env) 26 (by kernel_rfl) ?_
          refine wpL_take 0 45 (i64 (i : Nat)) [] rfl rfl (by kernel_rfl) (by decide) (by kernel_rfl) (by kernel_rfl) (by kernel_rfl) (fun _ _ _ h => h) HS.out (by rfl) (fun W hW => by have p2 := hW.p2; have p3 := hW.p3; have h0 := hW.h0; have h1 := hW.h1; have e0 := hW.e0; go_simp) ?_
          simp only [Act.put, List.setIfInBounds_toArray, List.set_cons_zero, List.set_cons_succ]
          refine wpL_take 1 46 (pq (r + 1)) [] rfl rfl (by kernel_rfl) (by decide) (by kernel_rfl) (by kernel_rfl) (by kernel_rfl) (fun _ _ _ h => h) HS.out (by rfl) (fun W hW => by have p2 := hW.p2; have p3 := hW.p3; have h0 := hW.h0; have h1 := hW.h1; have e0 := hW.e0; go_simp) ?_
          simp only [Act.put, List.setIfInBounds_toArray, List.set_cons_zero, List.set_cons_succ]
          refine wpL_take 2 47 (pq (r + 1)) [] rfl rfl (by kernel_rfl) (by decide) (by kernel_rfl) (by kernel_rfl) (by kernel_rfl) (fun _ _ _ h => h) HS.out (by rfl) (fun W hW => by have p2 := hW.p2; have p3 := hW.p3; have h0 := hW.h0; have h1 := hW.h1; have e0 := hW.e0; go_simp) ?_
          simp only [Act.put, List.setIfInBounds_toArray, List.set_cons_zero, List.set_cons_succ]
          refine wpL_take 3 48 (.pointer (some ⟨r + 1, 3, none⟩)) [] rfl rfl (by kernel_rfl) (by decide) (by kernel_rfl) (by kernel_rfl) (by kernel_rfl) (fun _ _ _ h => h) HS.out (by rfl) (fun W hW => by have p2 := hW.p2; have p3 := hW.p3; have h0 := hW.h0; have h1 := hW.h1; have e0 := hW.e0; go_simp) ?_
          simp only [Act.put, List.setIfInBounds_toArray, List.set_cons_zero, List.set_cons_succ]
          refine wpL_take 4 49 (.slice (some ⟨gE, 0, none⟩) N capE') [] rfl rfl (by kernel_rfl) (by decide) (by kernel_rfl) (by kernel_rfl) (by kernel_rfl) (fun _ _ _ h => h) HS.out (by rfl) (fun W hW => by have p2 := hW.p2; have p3 := hW.p3; have h0 := hW.h0; have h1 := hW.h1; have e0 := hW.e0; go_simp) ?_
          simp only [Act.put, List.setIfInBounds_toArray, List.set_cons_zero, List.set_cons_succ]
          refine wpL_take 5 50 (i64 (N : Nat)) [] rfl rfl (by kernel_rfl) (by decide) (by kernel_rfl) (by kernel_rfl) (by kernel_rfl) (fun _ _ _ h => h) HS.out (by rfl) (fun W hW => by have p2 := hW.p2; have p3 := hW.p3; have h0 := hW.h0; have h1 := hW.h1; have e0 := hW.e0; go_simp) ?_
          simp only [Act.put, List.setIfInBounds_toArray, List.set_cons_zero, List.set_cons_succ]
          refine wpL_take 6 51 (.bool false) [] rfl rfl (by kernel_rfl) (by decide) (by kernel_rfl) (by kernel_rfl) (by kernel_rfl) (fun _ _ _ h => h) HS.out (by rfl) (fun W hW => by have p2 := hW.p2; have p3 := hW.p3; have h0 := hW.h0; have h1 := hW.h1; have e0 := hW.e0; go_simp) ?_
          simp only [Act.put, List.setIfInBounds_toArray, List.set_cons_zero, List.set_cons_succ]
          refine wpL_take 7 52 (.bool false) [] rfl rfl (by kernel_rfl) (by decide) (by kernel_rfl) (by kernel_rfl) (by kernel_rfl) (fun _ _ _ h => h) HS.out (by rfl) (fun W hW => by have p2 := hW.p2; have p3 := hW.p3; have h0 := hW.h0; have h1 := hW.h1; have e0 := hW.e0; go_simp) ?_
          simp only [Act.put, List.setIfInBounds_toArray, List.set_cons_zero, List.set_cons_succ]
          refine wpL_take 8 53 (pq b) [] rfl rfl (by kernel_rfl) (by decide) (by kernel_rfl) (by kernel_rfl) (by kernel_rfl) (fun _ _ _ h => h) HS.out (by rfl) (fun W hW => by have p2 := hW.p2; have p3 := hW.p3; have h0 := hW.h0; have h1 := hW.h1; have e0 := hW.e0; go_simp) ?_
          simp only [Act.put, List.setIfInBounds_toArray, List.set_cons_zero, List.set_cons_succ]
          refine wpL_take 9 54 (pq (r + 1)) [] rfl rfl (by kernel_rfl) (by decide) (by kernel_rfl) (by kernel_rfl) (by kernel_rfl) (fun _ _ _ h => h) HS.out (by rfl) (fun W hW => by have p2 := hW.p2; have p3 := hW.p3; have h0 := hW.h0; have h1 := hW.h1; have e0 := hW.e0; go_simp) ?_
          simp only [Act.put, List.setIfInBounds_toArray, List.set_cons_zero, List.set_cons_succ]
          refine wpL_take 10 55 (pq (r + 1)) [] rfl rfl (by kernel_rfl) (by decide) (by kernel_rfl) (by kernel_rfl) (by kernel_rfl) (fun _ _ _ h => h) HS.out (by rfl) (fun W hW => by have p2 := hW.p2; have p3 := hW.p3; have h0 := hW.h0; have h1 := hW.h1; have e0 := hW.e0; go_simp) ?_
          simp only [Act.put, List.setIfInBounds_toArray, List.set_cons_zero, List.set_cons_succ]
          refine wpL_take 11 56 (.pointer (some ⟨r + 1, 3, none⟩)) [] rfl rfl (by kernel_rfl) (by decide) (by kernel_rfl) (by kernel_rfl) (by kernel_rfl) (fun _ _ _ h => h) HS.out (by rfl) (fun W hW => by have p2 := hW.p2; have p3 := hW.p3; have h0 := hW.h0; have h1 := hW.h1; have e0 := hW.e0; go_simp) ?_
          simp only [Act.put, List.setIfInBounds_toArray, List.set_cons_zero, List.set_cons_succ]
          refine wpL_take 12 57 (.slice (some ⟨gE, 0, none⟩) N capE') [] rfl rfl (by kernel_rfl) (by decide) (by kernel_rfl) (by kernel_rfl) (by kernel_rfl) (fun _ _ _ h => h) HS.out (by rfl) (fun W hW => by have p2 := hW.p2; have p3 := hW.p3; have h0 := hW.h0; have h1 := hW.h1; have e0 := hW.e0; go_simp) ?_
          simp only [Act.put, List.setIfInBounds_toArray, List.set_cons_zero, List.set_cons_succ]
          refine wpL_take 13 58 (i64 (i : Nat)) [] rfl rfl (by kernel_rfl) (by decide) (by kernel_rfl) (by kernel_rfl) (by kernel_rfl) (fun _ _ _ h => h) HS.out (by rfl) (fun W hW => by have p2 := hW.p2; have p3 := hW.p3; have h0 := hW.h0; have h1 := hW.h1; have e0 := hW.e0; go_simp) ?_
          simp only [Act.put, List.setIfInBounds_toArray, List.set_cons_zero, List.set_cons_succ]
          refine wpL_take 14 59 (.pointer (some ⟨gE, i, none⟩)) [] rfl rfl (by kernel_rfl) (by decide) (by kernel_rfl) (by kernel_rfl) (by kernel_rfl) (fun _ _ _ h => h) HS.out (by rfl) (fun W hW => by have p2 := hW.p2; have p3 := hW.p3; have h0 := hW.h0; have h1 := hW.h1; have e0 := hW.e0; go_simp) ?_
          simp only [Act.put, List.setIfInBounds_toArray, List.set_cons_zero, List.set_cons_succ]
          refine wpL_take 15 60 (i64 q.c.env) [] rfl rfl (by kernel_rfl) (by decide) (by kernel_rfl) (by kernel_rfl) (by kernel_rfl) (fun _ _ _ h => h) HS.out (by rfl) (fun W hW => by have p2 := hW.p2; have p3 := hW.p3; have h0 := hW.h0; have h1 := hW.h1; have e0 := hW.e0; go_simp) ?_
          simp only [Act.put, List.setIfInBounds_toArray, List.set_cons_zero, List.set_cons_succ]
          refine wpL_take 16 61 (pq (r + 1)) [] rfl rfl (by kernel_rfl) (by decide) (by kernel_rfl) (by kernel_rfl) (by kernel_rfl) (fun _ _ _ h => h) HS.out (by rfl) (fun W hW => by have p2 := hW.p2; have p3 := hW.p3; have h0 := hW.h0; have h1 := hW.h1; have e0 := hW.e0; go_simp) ?_
          simp only [Act.put, List.setIfInBounds_toArray, List.set_cons_zero, List.set_cons_succ]
          refine wpL_take 17 62 (pq (r + 1)) [] rfl rfl (by kernel_rfl) (by decide) (by kernel_rfl) (by kernel_rfl) (by kernel_rfl) (fun _ _ _ h => h) HS.out (by rfl) (fun W hW => by have p2 := hW.p2; have p3 := hW.p3; have h0 := hW.h0; have h1 := hW.h1; have e0 := hW.e0; go_simp) ?_
          simp only [Act.put, List.setIfInBounds_toArray, List.set_cons_zero, List.set_cons_succ]
          refine wpL_take 18 63 (.pointer (some ⟨r + 1, 2, none⟩)) [] rfl rfl (by kernel_rfl) (by decide) (by kernel_rfl) (by kernel_rfl) (by kernel_rfl) (fun _ _ _ h => h) HS.out (by rfl) (fun W hW => by have p2 := hW.p2; have p3 := hW.p3; have h0 := hW.h0; have h1 := hW.h1; have e0 := hW.e0; go_simp) ?_
          simp only [Act.put, List.setIfInBounds_toArray, List.set_cons_zero, List.set_cons_succ]
          refine wpL_take 19 64 (.slice (some ⟨gH, 0, none⟩) N capH') [] rfl rfl (by kernel_rfl) (by decide) (by kernel_rfl) (by kernel_rfl) (by kernel_rfl) (fun _ _ _ h => h) HS.out (by rfl) (fun W hW => by have p2 := hW.p2; have p3 := hW.p3; have h0 := hW.h0; have h1 := hW.h1; have e0 := hW.e0; go_simp) ?_
          simp only [Act.put, List.setIfInBounds_toArray, List.set_cons_zero, List.set_cons_succ]
          refine wpL_take 20 65 (i64 (i : Nat)) [] rfl rfl (by kernel_rfl) (by decide) (by kernel_rfl) (by kernel_rfl) (by kernel_rfl) (fun _ _ _ h => h) HS.out (by rfl) (fun W hW => by have p2 := hW.p2; have p3 := hW.p3; have h0 := hW.h0; have h1 := hW.h1; have e0 := hW.e0; go_simp) ?_
          simp only [Act.put, List.setIfInBounds_toArray, List.set_cons_zero, List.set_cons_succ]
          refine wpL_take 21 66 (.pointer (some ⟨gH, i * 2, none⟩)) [] rfl rfl (by kernel_rfl) (by decide) (by kernel_rfl) (by kernel_rfl) (by kernel_rfl) (fun _ _ _ h => h) HS.out (by rfl) (fun W hW => by have p2 := hW.p2; have p3 := hW.p3; have h0 := hW.h0; have h1 := hW.h1; have e0 := hW.e0; go_simp) ?_
          simp only [Act.put, List.setIfInBounds_toArray, List.set_cons_zero, List.set_cons_succ]
          refine wpL_take 22 67 (.agg #[i64 (sn : Nat), i64 q.gn]) [] rfl rfl (by kernel_rfl) (by decide) (by kernel_rfl) (by kernel_rfl) (by kernel_rfl) (fun _ _ _ h => h) HS.out (by rfl) (fun W hW => by have p2 := hW.p2; have p3 := hW.p3; have h0 := hW.h0; have h1 := hW.h1; have e0 := hW.e0; go_simp) ?_
          simp only [Act.put, List.setIfInBounds_toArray, List.set_cons_zero, List.set_cons_succ]
          refine wpL_one 23 rfl (by kernel_rfl) (by rfl) (fun K hK => ?_)
          go_simp
          refine HCh.out.mono ?_
          rintro e w8 ⟨rfl, hb8⟩
          have HS2 : Hid (SqI (r + 1) gH gE i (.slice (some ⟨gH, 0, none⟩) N capH') (.slice (some ⟨gE, 0, none⟩) N capE') (sn : Nat) q.gn q.c.env w8) := HS.out.below hb8
          have hb8' : Below wr.heap.size wr w8 := ⟨hb8.os, hb8.tape, hb8.output, hb8.size, hb8.block⟩
          have HB8 : Hid (Below w.heap.size w w8) := HBi.out.trans (hb8'.mono HBi.out.size)
          have HP8 : Hid (Pw w8 b (r + 1) b r T' L') := HPi.out.below hb8'
          have HO8 : Hid (w8.ownsRow b 4 1 u5 (stL L L' i).length (bcs (stL L L' i))) := own_keep HOi.out (fun g C hC => blk_below hC hb8')
          clear hb8 hb8'
          go_simp
          refine hK.out _ _ (fun _ => HS2.out) ?_
          clear hK K
          refine wpL_take 24 69 (.bool (nl q)) [] rfl rfl (by kernel_rfl) (by decide) (by kernel_rfl) (by kernel_rfl) (by kernel_rfl) (fun _ _ _ h => h) HS2.out (by rfl) (fun W hW => by have hx := HXN.out; go_simp) ?_
          simp only [Act.put, List.setIfInBounds_toArray, List.set_cons_zero, List.set_cons_succ]
          refine wpL_take 25 70 (.bool (nl q)) [] rfl rfl (by kernel_rfl) (by decide) (by kernel_rfl) (by kernel_rfl) (by kernel_rfl) (fun _ _ _ h => h) HS2.out (by rfl) (fun W hW => by have p2 := hW.p2; have p3 := hW.p3; have h0 := hW.h0; have h1 := hW.h1; have e0 := hW.e0; go_simp) ?_
          simp only [Act.put, List.setIfInBounds_toArray, List.set_cons_zero, List.set_cons_succ]
          refine wpL_one 26 rfl (by kernel_rfl) (by rfl) (fun K hK => ?_)
          go_simp
          refine hK.out _ _ (fun h => absurd rfl h) ?_
          clear hK K
          refine wpL_done (by kernel_rfl) ?_
          refine NoPanic.normal ?_
          clear HS HS2 HCh
          have hsl := stL_len L L' i (by omega)
          have hbw : b ≤ w8.heap.size := by have := HP8.out.tb.lt; omega
          obtain ⟨ao5, cap5, rfl, _⟩ := own_slice HO8.out
          rcases HNl.out with hge | ⟨p, hp, hpn⟩
          · -- it is new
            have hlen : (stL L L' i).length = i := by omega
            have hsn2 := stL_snoc (Lo := L) HQ.out hge
            have ho8 := HO8.out
            rw [hlen] at ho8
            obtain ⟨ao9, cap9, w9, hrun, hown9, hfr9, _⟩ := app_one (te := 4) under54 info4x rfl (by omega) (by omega) ho8 [.bool (nl q)] rfl (by intro u hu; simp at hu; subst hu; rfl) (by omega) hbw
            have hown9' : w9.ownsRow b 4 1 (.slice ao9 (i + 1) cap9) (i + 1) (bcs (stL L L' (i + 1))) := by rw [← hsn2, bcs_app]; exact hown9
            have hcap9 : i + 1 ≤ cap9 ∧ ∃ g, ao9 = some ⟨g, 0, none⟩ := by
              rcases hown9'.2 with ⟨hv, _⟩ | ⟨g, cp, cur, hv, _, _, hc, _⟩
              · simp at hv
              · simp only [Value.slice.injEq] at hv
                obtain ⟨h1, _, rfl⟩ := hv
                exact ⟨hc, g, h1⟩
            obtain ⟨hcap9, g9, rfl⟩ := hcap9
            have hg9 : (stL L L' (i + 1))[i]? = some (nl q) := by rw [← hsn2, List.getElem?_append_right (by omega), hlen, Nat.sub_self]; rfl
            have c9 : w9.cell? ⟨g9, i, none⟩ = some (.bool (nl q)) := by rw [hown9'.cellAt i (by omega)]; exact bcs_get _ i _ hg9
            have f9 : w9.frozen? ⟨g9, i, none⟩ = false := by
              rcases hown9'.2 with ⟨hv, _⟩ | ⟨g, cp, cur, hv, _, hgg, hc, _⟩
              · simp at hv
              · simp only [Value.slice.injEq, Option.some.injEq, Addr.mk.injEq] at hv
                obtain ⟨⟨rfl, _⟩, _⟩ := hv
                exact blk_frozen hgg _
            obtain ⟨ho10, hf10⟩ := own_set hown9' (i := i) (.bool (nl q))
            have hset : (bcs (stL L L' (i + 1))).set i (.bool (nl q)) = bcs (stL L L' (i + 1)) := by
              rw [bcs_set]
              congr 1
              apply List.ext_getElem?
              intro j
              by_cases hj : i = j
              · subst hj; rw [List.getElem?_set_self (by have := (List.getElem?_eq_some_iff.1 hg9).1; exact this), hg9]
              · rw [List.getElem?_set_ne hj]
            rw [hset] at ho10
            have hl10 := stL_len L L' (i + 1) (by omega)
            have HO10 : Hid ((w9.setCell ⟨g9, i, none⟩ (.bool (nl q))).ownsRow b 4 1 (.slice (some ⟨g9, 0, none⟩) (i + 1) cap9) (stL L L' (i + 1)).length (bcs (stL L L' (i + 1)))) := by rw [show (stL L L' (i + 1)).length = i + 1 by omega]; exact ho10
            have hfr : Fr b [4] w8 (w9.setCell ⟨g9, i, none⟩ (.bool (nl q))) := hfr9.trans hf10
            have HB10 : Hid (Below w.heap.size w (w9.setCell ⟨g9, i, none⟩ (.bool (nl q)))) := HB8.out.trans (hfr.below.mono (by rw [HBb.out]; exact Nat.le_refl _))
            have HP10 : Hid (Pw (w9.setCell ⟨g9, i, none⟩ (.bool (nl q))) b (r + 1) b r T' L') := HP8.out.fr hfr (by rfl) (by rfl) (by rfl) (by rfl) (by rfl) (by rfl)
            have HRUN := hid hrun
            have hii : decide ((stL L L' i).length ≤ i) = true := decide_eq_true (by omega)
            rw [hlen]
            have hc9I : (i : Int) + 1 ≤ cap9 := by omega
            obtain ⟨z, hz9⟩ : ∃ z, z = nl q := ⟨_, rfl⟩
            rw [← hz9] at HRUN c9 HO10 HB10 HP10 ⊢
            clear hlen hsn2 ho8 hown9 hown9' hfr9 hrun ho10 hf10 hset hl10 hfr hg9 hsl hii hz9
            cases z
            all_goals
              go_wp2_with (at_builtin; refine wpList_app_run rfl (.tmp 75) (.tmp 77) 54 rfl _ _ rfl rfl 54 rfl _ _ HRUN.out ?_)
              exact ⟨⟨i + 1, by omega, by go_num, HB10, HP10, HO10⟩, by simp [intOf]; omega⟩
          · have hpL := (List.getElem?_eq_some_iff.1 hp).1
            have hlen : (stL L L' i).length = L.length := by omega
            have hst2 := stL_set HQ.out hpL
            have hgt := stL_get (L := L') (by omega) hp
            have ho8 := HO8.out
            rw [hlen] at ho8
            have hcap9 : L.length ≤ cap5 ∧ ∃ g, ao5 = some ⟨g, 0, none⟩ := by
              rcases ho8.2 with ⟨hv, h0⟩ | ⟨g, cp, cur, hv, _, _, hc, _⟩
              · omega
              · simp only [Value.slice.injEq] at hv
                obtain ⟨h1, _, rfl⟩ := hv
                exact ⟨hc, g, h1⟩
            obtain ⟨hcap9, g9, rfl⟩ := hcap9
            have c9 : w8.cell? ⟨g9, i, none⟩ = some (.bool (nl p)) := by
              have h7 := HO8.out
              rw [hlen] at h7
              rw [h7.cellAt i (by omega)]; exact bcs_get _ i _ hgt
            have ho8' : w8.ownsRow b 4 1 (.slice (some ⟨g9, 0, none⟩) L.length cap5) L.length (bcs (stL L L' i)) := by have h7 := HO8.out; rw [hlen] at h7; exact h7
            have f9 : w8.frozen? ⟨g9, i, none⟩ = false := by
              rcases ho8'.2 with ⟨hv, _⟩ | ⟨g, cp, cur, hv, _, hgg, hc, _⟩
              · simp at hv
              · simp only [Value.slice.injEq, Option.some.injEq, Addr.mk.injEq] at hv
                obtain ⟨⟨rfl, _⟩, _⟩ := hv
                exact blk_frozen hgg _
            obtain ⟨ho10, hf10⟩ := own_set ho8' (i := i) (.bool (nl q))
            rw [bcs_set, hst2] at ho10
            have hl10 := stL_len L L' (i + 1) (by omega)
            have HO10 : Hid ((w8.setCell ⟨g9, i, none⟩ (.bool (nl q))).ownsRow b 4 1 (.slice (some ⟨g9, 0, none⟩) L.length cap5) (stL L L' (i + 1)).length (bcs (stL L L' (i + 1)))) := by rw [show (stL L L' (i + 1)).length = L.length by omega]; exact ho10
            have HB10 : Hid (Below w.heap.size w (w8.setCell ⟨g9, i, none⟩ (.bool (nl q)))) := HB8.out.trans (hf10.below.mono (by rw [HBb.out]; exact Nat.le_refl _))
            have HP10 : Hid (Pw (w8.setCell ⟨g9, i, none⟩ (.bool (nl q))) b (r + 1) b r T' L') := HP8.out.fr hf10 (by rfl) (by rfl) (by rfl) (by rfl) (by rfl) (by rfl)
            rw [hlen]
            have hc9I : (L.length : Int) ≤ cap5 := by omega
            have hiL2 : (i : Int) < L.length := by omega
            have hLI : (L.length : Int) ≤ 61 := by omega
            obtain ⟨z, hz9⟩ : ∃ z, z = nl q := ⟨_, rfl⟩
            obtain ⟨y, hy9⟩ : ∃ y, y = nl p := ⟨_, rfl⟩
            rw [← hz9] at HO10 HB10 HP10 hpn ⊢
            rw [← hy9] at c9 hpn
            generalize L.length = m at *
            clear hlen hst2 ho8 ho8' ho10 hf10 hl10 hgt hp hsl hz9 hy9 HO8
            cases z <;> cases y <;> first
              | (exfalso; simp at hpn; done)
              | (clear hpn
                 go_wp2_with fail
                 exact ⟨⟨i + 1, by omega, by go_num, HB10, HP10, HO10⟩, by simp [intOf]; omega⟩)
        · obtain rfl : i = N := by omega
          have HTf : Hid (∃ T L, Pw wr b (r + 1) b r T L ∧ L.length ≤ k + 1 ∧ wr.ownsRow b 4 1 u5 L.length (bcs (L.map nl))) := by
            have h7 := HOi.out
            have hNe := HNe.out
            rw [hNe, stL_end L L' (by omega), List.length_map] at h7
            exact ⟨T', L', HPi.out, by omega, h7⟩
          go_wp2_with fail
          exact ⟨⟨k + 1, by omega, by go_num, HBi, HTf⟩, by simp [intOf]; omega⟩
    · go_wp2_with fail
      refine (two_ok _).mono ?_
      rintro e w2 ⟨rfl, hb2⟩
      have HB2 : Hid (Below w.heap.size w w2) := HB.out.trans (hb2.mono HB.out.size)
      clear hb2
      go_wp2_with fail
      go_ret
      exact ⟨rfl, HB2.out⟩
theorem stale_any (w : World) (ao : Option Addr) (len cap : Nat) (f : Nat → Sp) (hlen : len ≤ maxLen) (hS : SSl w ao len f) : Calls Try.prog 4 #[.slice ao len cap] w fun e w' => e = .returned (.bool true) ∧ Below w.heap.size w w' := by
  by_cases h : 60 < len
  · exact stale_out w ao len cap hlen h
  · exact stale_in w ao len cap f (by omega) hS
end Go.Proofs.Ytcffodkpflfeoaa
