/- CapsLess' walk; no statement is proved in this text. -/
import Derived.Test.YtcffodkpflfeoaaDoes7
import Derived.Test.YtcffodkpflfeoaaBelowW
namespace Go.Proofs.Ytcffodkpflfeoaa
open Go.ChangeShapes Go.WideShapes Go.ChangeAt Go.RowKit Go.Deep
attribute [local go_sem ↓] Go.wp_at_zero Go.wp_at_succ

theorem eqIn42 (a b a' b' : Int) (w : World) : (Op.equalIn 10000 42 (.agg #[i64 a, i64 b]) (.agg #[i64 a', i64 b'])).run Try.prog w = .ok (decide (a = a' ∧ b = b')) w := by
  rw [run_equalIn_struct w 9999 42 _ _ (by kernel_rfl) (by kernel_rfl)]
  have p0 : ∀ (a b : Int) (w : World), (part 3 #[i64 a, i64 b] 0).run Try.prog w = .ok (i64 a) w := fun _ _ w => by kernel_rfl
  have p1 : ∀ (a b : Int) (w : World), (part 3 #[i64 a, i64 b] 1).run Try.prog w = .ok (i64 b) w := fun _ _ w => by kernel_rfl
  have hq := eqI 9998
  simp only [Program.fieldsOf, Try.underlying42]
  simp only [Op.eqFields, ne_eq]
  by_cases h1 : a = a'
  · by_cases h2 : b = b'
    · simp_all [Sem.run_bind, Result.andThen]
    · simp_all [Sem.run_bind, Result.andThen]
  · simp_all [Sem.run_bind, Result.andThen]
abbrev nw (w1 : World) (b : Nat) : World := (w1.alloc (.cells #[.slice none 0 0] 30)).alloc (.cells #[pq b, pq w1.heap.size, .slice none 0 0, .slice none 0 0] 34)
theorem pw_new {w1 : World} {b : Nat} (h : Tb w1 b b z128) : Pw (nw w1 b) b (w1.heap.size + 1) b w1.heap.size z128 [] ∧ Below w1.heap.size w1 (nw w1 b) := by
  have hb : Below w1.heap.size w1 (nw w1 b) := (below_one w1 _).trans ((below_one _ _).mono (by simp))
  have hl := h.lt
  have h1 : (nw w1 b).heap[w1.heap.size]? = some (.cells #[.slice none 0 0] 30) := blk_alloc (heap_last w1 _) _
  have h2 : (nw w1 b).heap[w1.heap.size + 1]? = some (.cells #[pq b, pq w1.heap.size, .slice none 0 0, .slice none 0 0] 34) := by
    have := heap_last (w1.alloc (.cells #[.slice none 0 0] 30)) (.cells #[pq b, pq w1.heap.size, .slice none 0 0, .slice none 0 0] 34)
    rwa [show (w1.alloc (.cells #[.slice none 0 0] 30)).heap.size = w1.heap.size + 1 by simp] at this
  exact ⟨⟨by omega, h.below hb, ⟨by omega, _, h1, World.ownsRow_nil _ _ 66 8⟩, rel_nil, gu_nil, _, _, h2, World.ownsRow_nil _ _ 42 2, World.ownsRow_nil _ _ 3 1⟩, hb⟩
abbrev z38 : Obj := .cells #[i64 0, i64 0, i64 0, i64 0, i64 0, .bool false, i64 0, i64 0, i64 0, i64 0, i64 0] 38
theorem zero38 (w : World) : (zeroValue 38).run Try.prog w = .ok (.agg #[i64 0, i64 0, i64 0, i64 0, i64 0, .bool false, i64 0, i64 0, i64 0, i64 0, i64 0]) w := by kernel_rfl
theorem st38 (w : World) (x : Sp) : ((w.alloc z38).setCells w.heap.size 0 x.c').heap[w.heap.size]? = some (spO x) ∧ Below w.heap.size w ((w.alloc z38).setCells w.heap.size 0 x.c') ∧ (w.alloc z38).there w.heap.size 0 11 := by
  refine ⟨?_, ?_, ?_⟩
  · have := heap_mid (t := 38) (b := w.heap.size) [] x.c' [i64 0, i64 0, i64 0, i64 0, i64 0, .bool false, i64 0, i64 0, i64 0, i64 0, i64 0] [] (w.alloc z38) rfl (heap_last w _)
    simpa using this
  · exact (Touch.setCells x.c' 0 _ (Touch.of_below (q := w.heap.size) (below_one w z38))).below (Nat.le_refl _) (Nat.le_refl _)
  · intro j hj
    refine ⟨?_, blk_frozen (heap_last w z38) _⟩
    rw [show (w.alloc z38).cell? ⟨w.heap.size, 0 + j, none⟩ = _ from blk_cell (heap_last w z38) (0 + j), Nat.zero_add]
    match j, hj with
    | 0, _ => rfl
    | 1, _ => rfl
    | 2, _ => rfl
    | 3, _ => rfl
    | 4, _ => rfl
    | 5, _ => rfl
    | 6, _ => rfl
    | 7, _ => rfl
    | 8, _ => rfl
    | 9, _ => rfl
    | 10, _ => rfl
theorem sp_one (x : Sp) : x.c'.toArray.all (·.oneCell') = true := all_oneCell_toArray (by
  intro v hv
  simp only [List.mem_cons, List.not_mem_nil, or_false] at hv
  rcases hv with rfl | rfl | rfl | rfl | rfl | rfl | rfl | rfl | rfl | rfl | rfl <;> rfl)
set_option maxRecDepth 100000 in
set_option maxHeartbeats 6400000 in
theorem steps_out (w : World) (ao : Option Addr) (len cap : Nat) (hlen : len ≤ maxLen) (h : 60 < len) : Calls Try.prog 3 #[.slice ao len cap] w fun e w' => e = .returned (.bool true) ∧ Below w.heap.size w w' := by
  unfold maxLen at hlen
  have h' : (60 : Int) < len := by omega
  go_enter Try.func3, Try.ntmps3
  go_wp2_with fail
  refine (new_tb _).mono ?_
  rintro e w1 ⟨rfl, _, hb1, _⟩
  have HB1 : Hid (Below w.heap.size w w1) := hb1
  clear hb1
  go_wp2_with fail
  refine (two_ok _).mono ?_
  rintro e w2 ⟨rfl, hb2⟩
  have HB2 : Hid (Below w.heap.size w w2) := HB1.out.trans (hb2.mono HB1.out.size)
  clear hb2
  go_wp2_with fail
  go_ret
  exact ⟨rfl, HB2.out⟩
set_option maxRecDepth 100000 in
set_option maxHeartbeats 6400000 in
theorem stale_out (w : World) (ao : Option Addr) (len cap : Nat) (hlen : len ≤ maxLen) (h : 60 < len) : Calls Try.prog 4 #[.slice ao len cap] w fun e w' => e = .returned (.bool true) ∧ Below w.heap.size w w' := by
  unfold maxLen at hlen
  have h' : (60 : Int) < len := by omega
  go_enter Try.func4, Try.ntmps4
  go_wp2_with fail
  refine (new_tb _).mono ?_
  rintro e w1 ⟨rfl, _, hb1, _⟩
  have HB1 : Hid (Below w.heap.size w w1) := hb1
  clear hb1
  go_wp2_with fail
  refine (two_ok _).mono ?_
  rintro e w2 ⟨rfl, hb2⟩
  have HB2 : Hid (Below w.heap.size w w2) := HB1.out.trans (hb2.mono HB1.out.size)
  clear hb2
  go_wp2_with fail
  go_ret
  exact ⟨rfl, HB2.out⟩
set_option maxRecDepth 100000 in
set_option maxHeartbeats 6400000 in
theorem less_out (w : World) (ao : Option Addr) (len cap : Nat) (x : Sp) (hlen : len ≤ maxLen) (h : 60 < len) : Calls Try.prog 5 #[.slice ao len cap, x.v] w fun e w' => e = .returned (.bool true) ∧ Below w.heap.size w w' := by
  unfold maxLen at hlen
  have h' : (60 : Int) < len := by omega
  unfold Sp.v
  go_enter Try.func5, Try.ntmps5
  go_wp2_with fail
  refine (new_tb _).mono ?_
  rintro e w1 ⟨rfl, _, hb1, _⟩
  have HB1 : Hid (Below w.heap.size w w1) := (below_one w _).trans (hb1.mono (by simp))
  clear hb1
  go_wp2_with fail
  refine (two_ok _).mono ?_
  rintro e w2 ⟨rfl, hb2⟩
  have HB2 : Hid (Below w.heap.size w w2) := HB1.out.trans (hb2.mono HB1.out.size)
  clear hb2
  go_wp2_with fail
  go_ret
  exact ⟨rfl, HB2.out⟩
set_option maxRecDepth 100000 in
set_option maxHeartbeats 6400000 in
theorem less_in (w : World) (ao : Option Addr) (len cap : Nat) (x : Sp) (f : Nat → Sp) (hl : len ≤ 60) (hS : SSl w ao len f) : Calls Try.prog 5 #[.slice ao len cap, x.v] w fun e w' => e = .returned (.bool true) ∧ Below w.heap.size w w' := by
  obtain ⟨V, hV⟩ : ∃ V, V = w.alloc (spO x) := ⟨_, rfl⟩
  have HV : Hid (w.alloc (.cells #[i64 x.what, i64 x.n, i64 x.env, i64 x.tt, i64 x.rights, .bool x.by_, i64 x.c.env, i64 x.c.kind, i64 x.c.num, i64 x.c.rts, i64 x.wrong] 38) = V) := hV.symm
  have hbV : Below w.heap.size w V := by rw [hV]; exact below_one w _
  have HX : Hid (V.heap[w.heap.size]? = some (spO x)) := by rw [hV]; exact heap_last w _
  have HBV := hid hbV
  have HSl : Hid (SSl V ao len f) := hS.below hbV
  have hlI : (len : Int) ≤ 60 := by omega
  clear hV hbV hS
  unfold Sp.v
  go_enter Try.func5, Try.ntmps5
  go_upto_region 1 with fail
  rw [HV.out]
  go_wp2_with fail
  refine (new_tb V).mono ?_
  rintro e w1 ⟨rfl, hT1, hb1, hl1⟩
  obtain ⟨hPn, hbn⟩ := pw_new hT1
  have HPn := hid hPn
  have HBn : Hid (Below V.heap.size V (nw w1 V.heap.size)) := hb1.trans (hbn.mono hb1.size)
  have hVl : w.heap.size < V.heap.size := blk_lt HX.out
  clear hT1 hb1 hPn hbn
  go_upto_region 5 with fail
  unfold nw at HPn HBn
  generalize (w1.alloc (.cells #[.slice none 0 0] 30)).alloc (.cells #[pq V.heap.size, pq w1.heap.size, .slice none 0 0, .slice none 0 0] 34) = U at *
  obtain ⟨b, hb⟩ : ∃ b, b = V.heap.size := ⟨_, rfl⟩
  rw [← hb] at HPn HBn hVl ⊢
  have HBb := hid hb
  clear hb
  generalize w1.heap.size = r at *
  go_wp2_with fail
  go_loopw [37] (fun u wr => ∃ (k : Nat), k ≤ len ∧ u = i64 k ∧ Hid (Below b V wr) ∧ Hid (∃ T L, Pw wr b (r + 1) b r T L ∧ L.length ≤ k)) (fun u _ => len - (intOf u).toNat)
  case atStart => exact ⟨0, by omega, rfl, HBn, z128, [], HPn.out, by simp⟩
  case round =>
    obtain ⟨k, hk, rfl, HB, HT⟩ := hrel
    by_cases hlt : k < len
    · obtain ⟨T, L, hPw, hLk⟩ := HT.out
      have hbl : V.heap.size ≤ wr.heap.size := HB.out.size
      obtain ⟨B, off, rfl, hBl, hce⟩ := (HSl.out.below (w' := wr) (by have := HB.out; rw [HBb.out] at this; exact this)).at hlt
      have HCe := hid hce
      obtain ⟨hs1, hs2, hs3⟩ := st38 wr (f k)
      have hz := zero38 wr
      have HTH := hid hs3
      have HX4 : Hid (((wr.alloc z38).setCells wr.heap.size 0 (f k).c').heap[wr.heap.size]? = some (spO (f k))) := hs1
      have HB4 : Hid (Below b V ((wr.alloc z38).setCells wr.heap.size 0 (f k).c')) := HB.out.trans (hs2.mono (by rw [HBb.out]; exact hbl))
      have HP4 : Hid (Pw ((wr.alloc z38).setCells wr.heap.size 0 (f k).c') b (r + 1) b r T L) := hPw.below hs2
      have HD := hid (fun W (hW : Pw W b (r + 1) b r T L) => does_any hW (by omega) (f k))
      have hkI : (k : Int) < len := by omega
      clear hPw hce hs1 hs2 hs3
      unfold z38 at *
      go_upto_region 8 with (first | (refine wpList_load_mid rfl 38 (.tmp 39) rfl B (off + k * 11) rfl (f k).c' _ (by exact HCe.out) Try.underlying38 rfl info38 ?_) | (refine wpList_store_mid rfl 38 (.tmp 8) (.tmp 40) rfl wr.heap.size 0 (f k).c'.toArray rfl rfl (by exact HTH.out) (by kernel_rfl) (sp_one _) ?_))
      generalize (wr.alloc (.cells #[i64 0, i64 0, i64 0, i64 0, i64 0, .bool false, i64 0, i64 0, i64 0, i64 0, i64 0] 38)).setCells wr.heap.size 0 (f k).c' = U4 at *
      generalize wr.heap.size = q at *
      go_wp2_with (refine wpList_load_mid rfl 38 (.tmp 8) rfl q 0 rfl (f k).c' _ (by exact spO_range HX4.out) Try.underlying38 rfl info38 ?_)
      refine (HD.out U4 HP4.out).mono ?_
      rintro e w5 ⟨rfl, ⟨T', L', hP5, _, hL5⟩, hf5⟩
      have HB5 : Hid (Below b V w5) := HB4.out.trans hf5.below
      have HT5 : Hid (∃ T L, Pw w5 b (r + 1) b r T L ∧ L.length ≤ k + 1) := ⟨T', L', hP5, by omega⟩
      clear hP5 hL5 hf5
      go_wp2_with fail
      exact ⟨⟨k + 1, by omega, by go_num, HB5, HT5⟩, by simp [intOf]; omega⟩
    · obtain ⟨T, L, hPw, hLk⟩ := HT.out
      have HP := hid hPw
      have HXr : Hid (wr.heap[w.heap.size]? = some (spO x)) := (HB.out.block _ hVl).trans HX.out
      have HBw : Hid (Below w.heap.size w wr) := HBV.out.trans (HB.out.mono (by omega))
      have hPk := pick_any hPw (by omega) x
      have hrel := hPw.rel
      generalize pkS L x = hs at *
      generalize pkG L x = hg at *
      generalize pkE L x = ev at *
      have HPk := hid hPk
      have HRel := hid hrel
      clear hPw hPk hrel
      go_wp2_with (refine wpList_load_mid rfl 38 (.tmp 3) rfl w.heap.size 0 rfl x.c' _ (by exact spO_range HXr.out) Try.underlying38 rfl info38 ?_)
      refine HPk.out.mono ?_
      rintro e w2 ⟨rfl, hb2⟩
      have hB2 : Below w.heap.size w w2 := HBw.out.trans (hb2.mono HBw.out.size)
      have HB3 : Hid (Below w.heap.size w (w2.alloc (hO hs hg))) := hB2.alloc hB2.size _
      have HX3 : Hid ((w2.alloc (hO hs hg)).heap[w.heap.size]? = some (spO x)) := blk_alloc (blk_below HXr.out hb2) _
      have HY3 : Hid ((w2.alloc (hO hs hg)).heap[w2.heap.size]? = some (hO hs hg)) := heap_last w2 _
      have HT3 : Hid (Tb (w2.alloc (hO hs hg)) b b T) := (HP.out.tb.below hb2).below (below_one _ _)
      clear hb2 hB2
      go_upto_region 11 with fail
      unfold hO at HB3 HX3 HY3 HT3
      generalize w2.alloc (.cells #[i64 hs, i64 hg] 42) = W3 at *
      generalize w2.heap.size = Y at *
      have y0 : W3.cell? ⟨Y, 0, none⟩ = some (i64 hs) := blk_cell HY3.out 0
      have y1 : W3.cell? ⟨Y, 1, none⟩ = some (i64 hg) := blk_cell HY3.out 1
      go_wp2_with fail
      refine (look_any HT3.out ev hs hg).mono ?_
      rintro e w4 ⟨rfl, hb4⟩
      obtain ⟨c, hc⟩ : ∃ c, c = rC (lookF T ev hs hg) := ⟨_, rfl⟩
      obtain ⟨E, hE⟩ : ∃ E, E = rE (lookF T ev hs hg) := ⟨_, rfl⟩
      rw [← hc, ← hE]
      have hB4 : Below w.heap.size w w4 := HB3.out.trans (hb4.mono HB3.out.size)
      have HB5 : Hid (Below w.heap.size w (w4.alloc (cO c))) := hB4.alloc hB4.size _
      have HX5 : Hid ((w4.alloc (cO c)).heap[w.heap.size]? = some (spO x)) := blk_alloc (blk_below HX3.out hb4) _
      have HY5 : Hid ((w4.alloc (cO c)).heap[Y]? = some (hO hs hg)) := blk_alloc (blk_below HY3.out hb4) _
      have HT5 : Hid (Tb (w4.alloc (cO c)) b b T) := (HT3.out.below hb4).below (below_one _ _)
      have HZ5 : Hid ((w4.alloc (cO c)).heap[w4.heap.size]? = some (cO c)) := heap_last w4 _
      have HCe := hid hc
      have HEe := hid hE
      clear hb4 hB4 y0 y1 hc hE
      unfold Cp.v
      go_upto_region 12 with fail
      unfold cO at HB5 HX5 HY5 HT5 HZ5
      generalize w4.alloc (.cells #[i64 c.env, i64 c.kind, i64 c.num, i64 c.rts] 36) = W5 at *
      generalize w4.heap.size = Z at *
      have y0 : W5.cell? ⟨Y, 0, none⟩ = some (i64 hs) := blk_cell HY5.out 0
      have y1 : W5.cell? ⟨Y, 1, none⟩ = some (i64 hg) := blk_cell HY5.out 1
      have x3 : W5.cell? ⟨w.heap.size, 3, none⟩ = some (i64 x.tt) := blk_cell HX5.out 3
      have x4 : W5.cell? ⟨w.heap.size, 4, none⟩ = some (i64 x.rights) := blk_cell HX5.out 4
      -- what Derive answers
      have hcase : (∃ F, F ≠ 0 ∧ Calls Try.prog 20 #[pq b, i64 ev, .agg #[i64 hs, i64 hg], i64 x.tt, i64 x.rights] W5 fun e w' => e = .returned (.tuple #[.agg #[i64 0, i64 0], i64 F]) ∧ Below W5.heap.size W5 w') ∨ (E = 0 ∧ grB c.rts x.rights = true ∧ envB c.rts = true ∧ envB x.rights = true ∧ ∃ (s : Nat) (g : Int) (T' : List Pl), lookF T' x.tt (s : Nat) g = some ⟨x.tt, c.kind, c.num, x.rights⟩ ∧ Calls Try.prog 20 #[pq b, i64 ev, .agg #[i64 hs, i64 hg], i64 x.tt, i64 x.rights] W5 fun e w' => e = .returned (.tuple #[.agg #[i64 (s : Nat), i64 g], i64 0]) ∧ Tb w' b b T' ∧ Touch b W5 w') := by
        rw [HCe.out, HEe.out]
        have hlk := looks_tb HT5.out ev hs hg
        have hrel := HRel.out
        cases hlo : lookF T ev hs hg with
        | none =>
          rw [hlo] at hlk
          exact Or.inl ⟨90, by decide, derive_stale W5 _ ev hs hg x.tt x.rights hlk⟩
        | some c =>
          rw [hlo] at hlk
          have hqr := hrel.rts.look hlo
          have hcr := rightB_rts hqr
          cases ht : envB x.tt with
          | false => exact Or.inl ⟨1, by decide, derive_to (pq b) ev hs hg x.tt x.rights c.env c.kind c.num c.rts hlk ht⟩
          | true =>
            cases hr : envB x.rights with
            | false => exact Or.inl ⟨1, by decide, derive_rts (pq b) ev hs hg x.tt x.rights c.env c.kind c.num c.rts hlk ht hr⟩
            | true =>
              cases hgr : grB c.rts x.rights with
              | false => exact Or.inl ⟨91, by decide, derive_no (pq b) ev hs hg x.tt x.rights c hlk ht hr hcr hgr⟩
              | true =>
                obtain ⟨s, p, hsl, hp, hz, hno, _, _⟩ := hrel.first (by omega)
                have hgn := hrel.gen_le hp
                refine Or.inr ⟨rfl, hgr, hcr, rfl, s, p.gen + 1, _, ?_, derive_ok HT5.out ev hs hg x.tt x.rights c hlk ht hr hcr hgr s p hp hz hno hgn.1 (by omega)⟩
                have hne : (⟨x.tt, c.kind, c.num, x.rights⟩ : Cp) ≠ zC := fun e => by
                  have : x.tt = 0 := congrArg Cp.env e
                  have := envB_iff.1 ht
                  omega
                exact lookF_at (T := T.set s ⟨⟨x.tt, c.kind, c.num, x.rights⟩, hs, p.gen + 1⟩) (s := s) (p := ⟨⟨x.tt, c.kind, c.num, x.rights⟩, hs, p.gen + 1⟩) (by rw [List.getElem?_set_self (by rw [hrel.len]; exact hsl)]) hne rfl rfl
      rcases hcase with ⟨F, hF, hcall⟩ | ⟨hE0, hgr, hcr, hrr, s, g, T', hlk', hcall⟩
      · have HCa := hid hcall
        have hFd : (F == 0) = false := by simpa using hF
        have hq := eqIn42 0 0 0 0
        simp only [and_self, decide_true] at hq
        clear hcall hF
        go_wp2_with fail
        refine HCa.out.mono ?_
        rintro e w6 ⟨rfl, hb6⟩
        have HB6 : Hid (∀ o, Below w.heap.size w (w6.alloc o)) := fun o => (HB5.out.trans (hb6.mono HB5.out.size)).alloc (HB5.out.trans (hb6.mono HB5.out.size)).size o
        clear hb6 y0 y1 x3 x4
        go_wp2_with fail
        refine (two_ok _).mono ?_
        rintro e w7 ⟨rfl, hb7⟩
        have HB7 : Hid (Below w.heap.size w w7) := (HB6.out _).trans (hb7.mono (HB6.out _).size)
        clear hb7
        go_wp2_with fail
        go_ret
        exact ⟨rfl, HB7.out⟩
      · have HCa := hid hcall
        have HLk := hid hlk'
        have hblo : w.heap.size < b := hVl
        subst hE0
        clear hcall hlk'
        go_wp2_with fail
        refine HCa.out.mono ?_
        rintro e w6 ⟨rfl, hT6, ht6⟩
        have hB6 : Below w.heap.size w w6 := HB5.out.trans (ht6.below (by omega) HB5.out.size)
        have HB7 : Hid (Below w.heap.size w (w6.alloc (hO (s : Nat) g))) := hB6.alloc hB6.size _
        have HT7 : Hid (Tb (w6.alloc (hO (s : Nat) g)) b b T') := hT6.below (below_one _ _)
        have hX6 : w6.heap[w.heap.size]? = some (spO x) := (ht6.block _ (blk_lt HX5.out) (by omega)).trans HX5.out
        have hZ6 : w6.heap[Z]? = some (cO c) := (ht6.block _ (blk_lt HZ5.out) (fun e => by have := HT5.out.row; rw [← e, HZ5.out] at this; simp at this)).trans HZ5.out
        have HX7 : Hid ((w6.alloc (hO (s : Nat) g)).heap[w.heap.size]? = some (spO x)) := blk_alloc hX6 _
        have HZ7 : Hid ((w6.alloc (hO (s : Nat) g)).heap[Z]? = some (cO c)) := blk_alloc hZ6 _
        have HK7 : Hid ((w6.alloc (hO (s : Nat) g)).heap[w6.heap.size]? = some (hO (s : Nat) g)) := heap_last w6 _
        clear hB6 hT6 ht6 hX6 hZ6 y0 y1 x3 x4
        go_upto_region 15 with fail
        unfold hO at HB7 HT7 HX7 HZ7 HK7
        generalize w6.alloc (.cells #[i64 (s : Nat), i64 g] 42) = W7 at *
        generalize w6.heap.size = KK at *
        have k0 : W7.cell? ⟨KK, 0, none⟩ = some (i64 (s : Nat)) := blk_cell HK7.out 0
        have k1 : W7.cell? ⟨KK, 1, none⟩ = some (i64 g) := blk_cell HK7.out 1
        have x3 : W7.cell? ⟨w.heap.size, 3, none⟩ = some (i64 x.tt) := blk_cell HX7.out 3
        have hlook := look_any HT7.out x.tt (s : Nat) g
        rw [HLk.out] at hlook
        have HLook := hid hlook
        clear hlook
        go_wp2_with fail
        refine HLook.out.mono ?_
        rintro e w8 ⟨rfl, hb8⟩
        have hB8 : Below w.heap.size w w8 := HB7.out.trans (hb8.mono HB7.out.size)
        have HB9 : Hid (Below w.heap.size w (w8.alloc (cO ⟨x.tt, c.kind, c.num, x.rights⟩))) := hB8.alloc hB8.size _
        have hX8 := blk_below HX7.out hb8
        have hZ8 := blk_below HZ7.out hb8
        have HX9 : Hid ((w8.alloc (cO ⟨x.tt, c.kind, c.num, x.rights⟩)).heap[w.heap.size]? = some (spO x)) := blk_alloc hX8 _
        have HZ9 : Hid ((w8.alloc (cO ⟨x.tt, c.kind, c.num, x.rights⟩)).heap[Z]? = some (cO c)) := blk_alloc hZ8 _
        have HD9 : Hid ((w8.alloc (cO ⟨x.tt, c.kind, c.num, x.rights⟩)).heap[w8.heap.size]? = some (cO ⟨x.tt, c.kind, c.num, x.rights⟩)) := heap_last w8 _
        clear hB8 hb8 hX8 hZ8 k0 k1 x3
        unfold Cp.v rC rE
        go_upto_region 16 with fail
        unfold cO at HB9 HX9 HZ9 HD9
        generalize w8.alloc (.cells #[i64 x.tt, i64 c.kind, i64 c.num, i64 x.rights] 36) = W9 at *
        generalize w8.heap.size = DD at *
        have x3 : W9.cell? ⟨w.heap.size, 3, none⟩ = some (i64 x.tt) := blk_cell HX9.out 3
        have z1 : W9.cell? ⟨Z, 1, none⟩ = some (i64 c.kind) := blk_cell HZ9.out 1
        have z2 : W9.cell? ⟨Z, 2, none⟩ = some (i64 c.num) := blk_cell HZ9.out 2
        have z3 : W9.cell? ⟨Z, 3, none⟩ = some (i64 c.rts) := blk_cell HZ9.out 3
        have d0 : W9.cell? ⟨DD, 0, none⟩ = some (i64 x.tt) := blk_cell HD9.out 0
        have d1 : W9.cell? ⟨DD, 1, none⟩ = some (i64 c.kind) := blk_cell HD9.out 1
        have d2 : W9.cell? ⟨DD, 2, none⟩ = some (i64 c.num) := blk_cell HD9.out 2
        have d3 : W9.cell? ⟨DD, 3, none⟩ = some (i64 x.rights) := blk_cell HD9.out 3
        have hcomb : (c.rts = 2 ∧ x.rights = 2) ∨ (c.rts = 3 ∧ x.rights = 1) ∨ (c.rts = 3 ∧ x.rights = 2) ∨ (c.rts = 3 ∧ x.rights = 3) := by
          unfold grB at hgr
          rw [decide_eq_true_iff] at hgr
          have h1 := envB_iff.1 hcr
          have h2 := envB_iff.1 hrr
          omega
        clear hgr hcr hrr
        rcases hcomb with ⟨e1, e2⟩ | ⟨e1, e2⟩ | ⟨e1, e2⟩ | ⟨e1, e2⟩
        all_goals
          rw [e1] at z3
          rw [e2] at d3
          clear e1 e2
          go_wp2_with fail
          refine (two_ok _).mono ?_
          rintro e w10 ⟨rfl, hb10⟩
          have HB10 : Hid (Below w.heap.size w w10) := HB9.out.trans (hb10.mono HB9.out.size)
          clear hb10
          go_wp2_with fail
          go_ret
          exact ⟨rfl, HB10.out⟩
theorem less_any (w : World) (ao : Option Addr) (len cap : Nat) (x : Sp) (f : Nat → Sp) (hlen : len ≤ maxLen) (hS : SSl w ao len f) : Calls Try.prog 5 #[.slice ao len cap, x.v] w fun e w' => e = .returned (.bool true) ∧ Below w.heap.size w w' := by
  by_cases h : 60 < len
  · exact less_out w ao len cap x hlen h
  · exact less_in w ao len cap x f (by omega) hS
end Go.Proofs.Ytcffodkpflfeoaa
