/- Texts Qv Qw in one; no statement is proved in this text. -/
import Derived.Test.YtjppcfjjpkniaaaGreatDoorMR
namespace Go.Proofs.YtjppcfjjpkniaaaGreatDoor
open Go.ChangeShapes Go.WideShapes Go.ChangeAt Go.RowKit Go.Deep
attribute [local go_sem ↓] Go.wp_at_zero Go.wp_at_succ
set_option maxRecDepth 100000

theorem words_mem : ∀ (n : Nat) (s : Bs), s.length ≤ n → ∀ y ∈ wordsF s, y.length ≤ s.length
  | 0, s, h, y, hy => by
    have : s = [] := List.eq_nil_of_length_eq_zero (by omega)
    subst this; simp [wordsF_nil] at hy
  | n + 1, s, h, y, hy => by
    by_cases hs : s = []
    · subst hs; simp [wordsF_nil] at hy
    rw [wordsF_cons hs] at hy
    have h1 := aft_lt hs
    rcases List.mem_cons.1 hy with hy | hy
    · rw [hy]; exact (List.takeWhile_sublist _).length_le
    · have := words_mem n (aft s) (by omega) y hy
      omega
theorem blk_suf : ∀ (f : Nat) (rows : List Bs) (i line cnt : Nat) (l : List Sm) (rest : List Bs) (a b : Nat), blk f rows i line cnt = .ok l rest a b → ∃ p, rows = p ++ rest
  | 0, _, _, _, _, _, _, _, _, h => by simp [blk] at h
  | f + 1, rows, i, line, cnt, l, rest, a, b, h => by
    unfold blk at h
    cases rows with
    | nil =>
      simp only at h
      split at h
      · cases h; exact ⟨[], rfl⟩
      · cases h
    | cons x rs =>
      simp only at h
      split at h
      · obtain ⟨p, rfl⟩ := blk_suf f _ _ _ _ _ _ _ _ h; exact ⟨x :: p, rfl⟩
      split at h
      · split at h
        · cases h; exact ⟨[x], rfl⟩
        · cases h
      split at h
      · cases h
      split at h
      · cases h
      split at h
      · split at h
        · cases h
        split at h
        · cases h
        rename_i B rs' line' cnt' hB
        obtain ⟨p1, rfl⟩ := blk_suf f _ _ _ _ _ _ _ _ hB
        generalize hR : blk f rs' i line' cnt' = R at h
        cases R with
        | bad k => simp [Rs.cons] at h
        | ok l2 r2 a2 b2 =>
          simp only [Rs.cons] at h
          cases h
          obtain ⟨p2, rfl⟩ := blk_suf f _ _ _ _ _ _ _ _ hR
          exact ⟨x :: (p1 ++ p2), by simp⟩
      · generalize hR : blk f rs i (line + 1) (cnt + 1) = R at h
        cases R with
        | bad k => simp [Rs.cons] at h
        | ok l2 r2 a2 b2 =>
          simp only [Rs.cons] at h
          cases h
          obtain ⟨p2, rfl⟩ := blk_suf f _ _ _ _ _ _ _ _ hR
          exact ⟨x :: p2, rfl⟩
theorem LsI.jump {w wr wr' : World} {Q R rb off n cnt : Nat} {S : Nat → Prop} {W : List (List Bs)} {Lv bv : Value} {Ks : List Kst} (h : LsI w wr Q R S rb off W Lv bv n cnt Ks) (hz : wr.heap.size ≤ wr'.heap.size) (hk : ∀ b, b < wr.heap.size → b ≠ Q → wr'.heap[b]? = wr.heap[b]?) (hb : Below w.heap.size w wr') {Lv' : Value} {n' cnt' : Nat} (hQ : wr'.heap[Q]? = some (rO Lv' (i64 (n' : Nat)) (i64 (cnt' : Nat)) (i64 0))) : LsI w wr' Q R S rb off W Lv' bv n' cnt' Ks :=
  ⟨hQ, by rw [hk R (blk_lt h.hR) h.qr.symm]; exact h.hR, h.qr, h.ql, h.rl, h.st.move hz (fun k hk2 => hk k (h.st.own.lt k hk2).2 (fun e => bv_ne57 h.st h.hQ (by rw [hk2, e]))) fun b h1 h2 _ => ⟨h1, hk b h2 h1.2.1⟩,
    h.rows.move h.sb (Nat.lt_of_lt_of_le (h.sl _ h.sb) h.bel.size) hz fun b h3 h4 => hk b h4 (fun e => by have h1 := h.sl b h3; have h2 := h.ql; omega), h.sb, h.sl, hb⟩
set_option maxHeartbeats 6400000 in
theorem list_in (i : Nat) (hi : i ≤ 4) (all : List Bs) (hall : all.length ≤ 100000) (hx : ∀ x ∈ all, x.length ≤ 90000)
    (ih : i < 4 → ∀ (n cnt : Nat) (w : World) (S : Nat → Prop) (v Lp bd : Value), Rws w S v (all.map wordsF) → (∀ k, S k → k < w.heap.size) → n ≤ all.length → cnt ≤ 60 → Calls Tryz.prog 19 #[v, .agg #[Lp, i64 (n : Nat), i64 (cnt : Nat), bd], i64 ((i : Int) + 1)] w (LsOk w S all.length (i + 1) (blkR (all.drop n) (i + 1) n cnt)))
    (n cnt : Nat) (w : World) (S : Nat → Prop) (v Lp bd : Value) (hr : Rws w S v (all.map wordsF)) (hS : ∀ k, S k → k < w.heap.size) (hn : n ≤ all.length) (hc : cnt ≤ 60) :
    Calls Tryz.prog 19 #[v, .agg #[Lp, i64 (n : Nat), i64 (cnt : Nat), bd], i64 (i : Int)] w (LsOk w S all.length i (blkR (all.drop n) i n cnt)) := by
  obtain ⟨rb, off, cap, rfl, hcap, hsb, hbl, hrow⟩ := hr
  have hml : (all.map wordsF).length = all.length := by simp
  rw [hml] at hcap ⊢
  obtain ⟨RES, hRES⟩ : ∃ RES, RES = blkR (all.drop n) i n cnt := ⟨_, rfl⟩
  have HRs : Hid (RES = (blkR (all.drop n) i n cnt).pre (([] : List Kst).map (·.1))) := by show _ = _; rw [hRES]; exact (pre_nil _).symm
  rw [← hRES]
  clear hRES
  have HIH := hid ih
  have HX := hid hx
  have HI0 : Hid (LsI w (((w.alloc (rO Lp (i64 (n : Nat)) (i64 (cnt : Nat)) bd)).alloc zR).alloc (rO nilS (i64 (n : Nat)) (i64 (cnt : Nat)) (i64 0))) (w.heap.size + 1 + 1) (w.heap.size + 1) S rb off (all.map wordsF) nilS nilS n cnt []) := by
    have b0 := below_one w (rO Lp (i64 (n : Nat)) (i64 (cnt : Nat)) bd)
    have b1 := b0.trans ((below_one _ zR).mono b0.size)
    have b2 := b1.trans ((below_one _ (rO nilS (i64 (n : Nat)) (i64 (cnt : Nat)) (i64 0))).mono b1.size)
    have hq := heap_last ((w.alloc (rO Lp (i64 (n : Nat)) (i64 (cnt : Nat)) bd)).alloc zR) (rO nilS (i64 (n : Nat)) (i64 (cnt : Nat)) (i64 0))
    have hR := heap_last (w.alloc (rO Lp (i64 (n : Nat)) (i64 (cnt : Nat)) bd)) zR
    simp only [sz_alloc] at hq hR
    have hR2 := blk_below hR (below_one _ (rO nilS (i64 (n : Nat)) (i64 (cnt : Nat)) (i64 0)))
    refine ⟨hq, hR2, by omega, by omega, by omega, StmE.nil _ _ _, ?_, hsb, hS, b2⟩
    have hrow : RwC w S rb off (all.map wordsF) := hrow
    exact hrow.move hsb hbl b2.size fun b hb hlt => b2.block b hlt
  have HRW := hid hcap
  have HSB := hid hbl
  clear hrow hsb hbl hx ih hS hcap hml
  go_enter Tryz.func19, Tryz.ntmps19
  go_upto_region 2 with fail
  obtain ⟨Q, hQ⟩ : ∃ Q, Q = w.heap.size + 1 + 1 := ⟨_, rfl⟩
  obtain ⟨R, hR⟩ : ∃ R, R = w.heap.size + 1 := ⟨_, rfl⟩
  rw [← hQ, ← hR] at HI0
  rw [← hQ, ← hR]
  clear hQ hR
  generalize (((w.alloc (rO Lp (i64 (n : Nat)) (i64 (cnt : Nat)) bd)).alloc zR).alloc (rO nilS (i64 (n : Nat)) (i64 (cnt : Nat)) (i64 0))) = V at *
  go_loopg [] (all.length - n) (fun g wr => ∃ (n cnt : Nat) (bv : Value) (Ks : List Kst), all.length - n ≤ g ∧ n ≤ all.length ∧ cnt ≤ 60 ∧ Ks.length ≤ cnt ∧ Hid (LsI w wr Q R S rb off (all.map wordsF) bv bv n cnt Ks) ∧ Hid (RES = (blkR (all.drop n) i n cnt).pre (Ks.map (·.1))))
  case atStart => exact ⟨n, cnt, nilS, [], Nat.le_refl _, hn, hc, Nat.zero_le _, HI0, HRs⟩
  case round =>
    clear HI0 HRs hn hc
    obtain ⟨n, cnt, bv, Ks, hg, hn, hc, hk, HI, HRs⟩ := hrel
    obtain ⟨av, cv, rfl, _⟩ := own_slice HI.out.st.own
    obtain ⟨q0, q1, q2, q3, qf0, qf1, qf2, qf3⟩ := lfs HI.out.hQ
    have hn0 : (0 : Int) ≤ (n : Int) := by omega
    have hc0 : (0 : Int) ≤ (cnt : Int) := by omega
    have hi0 : (0 : Int) ≤ (i : Int) := by omega
    have hi4 : (i : Int) ≤ 4 := by omega
    by_cases hlt : n < all.length
    ·
      have HDR : Hid (all.drop n = all[n] :: all.drop (n + 1)) := List.drop_eq_getElem_cons hlt
      obtain ⟨u, hu, hus⟩ := HI.out.rows n (wordsF all[n]) (by rw [List.getElem?_map, List.getElem?_eq_getElem hlt]; rfl)
      have HXL : Hid (all[n].length ≤ 90000) := HX.out _ (List.getElem_mem hlt)
      have HRs1 : Hid (RES = (if all[n] = [] then blkR (all.drop (n + 1)) i (n + 1) cnt else stepR all[n] (all.drop (n + 1)) i (n + 1) cnt).pre (Ks.map (·.1))) := by show _ = _; rw [← blkR_cons, ← HDR.out]; exact HRs.out
      clear HRs HDR
      generalize all[n] = x at *
      have hlI : (n : Int) < (all.length : Int) := by omega
      have hen : ((n + 1 : Nat) : Int) = (n : Int) + 1 := by omega
      by_cases hxe : x = []
      ·
        obtain ⟨au, cu, rfl⟩ := hus.form
        subst hxe
        have HRs2 : Hid (RES = (blkR (all.drop (n + 1)) i (n + 1) cnt).pre (Ks.map (·.1))) := by show _ = _; rw [HRs1.out, if_pos rfl]
        have HI2 : Hid (LsI w (wr.setCell ⟨Q, 1, none⟩ (i64 ((n : Int) + 1))) Q R S rb off (all.map wordsF) (.slice av Ks.length cv) (.slice av Ks.length cv) (n + 1) cnt Ks) := HI.out.onQ (ts wr Q 1 _) (by rw [hen]; exact rb1 HI.out.hQ _)
        have hw0 : (wordsF ([] : Bs)).length = 0 := rfl
        rw [hw0] at hu
        clear HRs1 HI hus hw0
        go_wp2_with fail
        go_roundg (all.length - (n + 1))
        case measure => omega
        case rel => exact ⟨n + 1, cnt, _, Ks, by omega, by omega, hc, hk, HI2, HRs2⟩
      ·
        have HWM : Hid (∀ y ∈ wordsF x, y.length ≤ 90000) := fun y hy => Nat.le_trans (words_mem _ x (Nat.le_refl _) y hy) HXL.out
        have HWL : Hid ((wordsF x).length ≤ 90000) := Nat.le_trans (wordsF_len _ x (Nat.le_refl _)) HXL.out
        have HRs2 : Hid (RES = (if wordsF x = [wEnd] then (if 0 < i then Rs.ok [] (all.drop (n + 1)) (n + 1) cnt else .bad (n + 1)) else stepS (readS (wordsF x)) (all.drop (n + 1)) i (n + 1) cnt).pre (Ks.map (·.1))) := by show _ = _; rw [HRs1.out, if_neg hxe]; rfl
        have hwx := wordsF_cons hxe
        generalize wordsF x = ws at *
        subst hwx
        clear HRs1 HXL hxe
        generalize wordsF (aft x) = r0 at *
        generalize wd x = w0 at *
        have HUS := hid hus
        obtain ⟨ua, uc, rfl, hul1, hul2, hu3⟩ := hus
        rcases hu3 with hu3 | ⟨ub, uo, rfl, hub, hubl, huc⟩
        · exact absurd hu3 (by simp)
        have x0 := huc 0 w0 rfl
        rw [Nat.add_zero] at x0
        clear huc hub hubl hul2
        have hr0 : (w0 :: r0).length = r0.length + 1 := rfl
        rw [hr0] at hu hul1
        have HR0 : Hid (r0.length + 1 ≤ 90000) := HWL.out
        have hr1 : ¬ ((r0.length : Int) + 1 = 0) := by omega
        by_cases he : w0 = wEnd
        ·
          subst he
          have heq : ((⟨wEnd.toArray⟩ : ByteArray) == ⟨#[101, 110, 100]⟩) = true := by decide
          by_cases hb : i = 0 ∨ r0 ≠ []
          ·
            have HRf : Hid (RES = .bad (n + 1)) := by
              show _ = _
              rw [HRs2.out]
              by_cases hr : r0 = []
              · have h0 : i = 0 := by rcases hb with h | h; exact h; exact absurd hr h
                rw [if_pos (by rw [hr]), if_neg (by omega)]; rfl
              · rw [if_neg (by simp [hr])]; rfl
            clear HRs2
            by_cases h0 : i = 0
            ·
              subst h0
              have HRX := hid HI.out.hR
              obtain ⟨rc0, rc1, rc2, rc3, rf0, rf1, rf2, rf3⟩ := lfs HRX.out
              go_wp2_with fail
              refine bodyPost_ret (v := .agg #[nilS, i64 0, i64 0, i64 ((n : Int) + 1)]) (results_one Tryz.results19 rfl (vload57 (setR_at HRX.out _ _ _ _))) rfl ?_
              rw [HRf.out]
              rw [show (n : Int) + 1 = ((n + 1 : Nat) : Int) by omega]
              exact ls_bad HI.out (n + 1)
            ·
              have hr : r0 ≠ [] := by rcases hb with h | h; exact absurd h h0; exact h
              have hrl : 1 ≤ r0.length := List.length_pos_iff.2 hr
              have hib : ((i : Int) == 0) = false := by
                have : (i : Int) ≠ 0 := by omega
                simpa using this
              have hgt : (1 : Int) < (r0.length : Int) + 1 := by omega
              have HRX := hid HI.out.hR
              obtain ⟨rc0, rc1, rc2, rc3, rf0, rf1, rf2, rf3⟩ := lfs HRX.out
              go_wp2_with fail
              refine bodyPost_ret (v := .agg #[nilS, i64 0, i64 0, i64 ((n : Int) + 1)]) (results_one Tryz.results19 rfl (vload57 (setR_at HRX.out _ _ _ _))) rfl ?_
              rw [HRf.out]
              rw [show (n : Int) + 1 = ((n + 1 : Nat) : Int) by omega]
              exact ls_bad HI.out (n + 1)
          ·
            obtain ⟨h0, hr⟩ : i ≠ 0 ∧ r0 = [] := by
              constructor
              · exact fun h => hb (Or.inl h)
              · by_cases hr : r0 = []
                · exact hr
                · exact absurd (Or.inr hr) hb
            subst hr
            have hib : ((i : Int) == 0) = false := by
              have : (i : Int) ≠ 0 := by omega
              simpa using this
            have HRf : Hid (RES = .ok (Ks.map (·.1)) (all.drop (n + 1)) (n + 1) cnt) := by show _ = _; rw [HRs2.out, if_pos rfl, if_pos (by omega), pre_ok, List.append_nil]
            clear HRs2
            have HRX := hid HI.out.hR
            obtain ⟨rc0, rc1, rc2, rc3, rf0, rf1, rf2, rf3⟩ := lfs HRX.out
            go_wp2_with fail
            refine bodyPost_ret (v := .agg #[.slice av Ks.length cv, i64 (n : Nat), i64 (cnt : Nat), i64 0]) (results_one Tryz.results19 rfl (vload57 (setR_at HRX.out _ _ _ _))) rfl ?_
            rw [HRf.out]
            exact ls_ok HI.out (by rw [if_neg h0])
        ·
          have heq : (w0 == ([101, 110, 100] : List UInt8)) = false := by
            rw [show ([101, 110, 100] : List UInt8) = wEnd from rfl]; simp [he]
          have HONE := hid (one_ok (w0 :: r0) wr S (.slice (some ⟨ub, uo, none⟩) (r0.length + 1) uc) HUS.out (by simp) (by have := HR0.out; simp; omega) HWM.out)
          have HRD : Hid (∀ s, readS (w0 :: r0) = some s → s.body = []) := fun s h => readS_body h
          have HRs3 : Hid (RES = (stepS (readS (w0 :: r0)) (all.drop (n + 1)) i (n + 1) cnt).pre (Ks.map (·.1))) := by show _ = _; rw [HRs2.out, if_neg (fun h => he (by cases h; rfl))]
          clear HRs2 HWM HWL HUS he
          generalize readS (w0 :: r0) = rd at *
          go_upto_region 10 with fail
          clear q0 q1 q2 q3 qf0 qf1 qf2 qf3
          go_wp2_with fail
          refine HONE.out.mono ?_
          rintro e w1 ⟨⟨nv, tn, tk, rfl, hsd⟩, hb1⟩
          have HI1 := hid (HI.out.below hb1)
          obtain ⟨a1, c1, a2, n2, c2, a3, n3, c3, a4, c4, hv⟩ := hsd.form
          simp only [SV.mk.injEq] at hv
          obtain ⟨rfl, rfl, rfl, h4⟩ := hv
          clear h4
          have HSD1 : Hid (Sd w1 (fun b => (((S b ∨ w.heap.size ≤ b) ∧ b ≠ Q ∧ b ≠ R) ∧ some b ≠ (Value.slice av Ks.length cv).ownBlock) ∧ b < w1.heap.size) (rd.getD smZ) ⟨.slice a1 (rd.getD smZ).names.length c1, .slice a2 n2 c2, .slice a3 n3 c3, nilS⟩) := hsd.mono fun b hb hlt => by
            have e1 := blk_lt HI.out.hQ
            have e2 := blk_lt HI.out.hR
            have e3 := HI.out.ql
            have e4 := HI.out.rl
            have e5 := HI.out.bel.size
            rcases hb with hb | hb
            · have e6 := HI.out.sl b hb
              exact ⟨⟨⟨Or.inl hb, by omega, by omega⟩, fun e => by have := (HI.out.st.own.lt b e.symm).1; omega⟩, hlt⟩
            · exact ⟨⟨⟨Or.inr (by omega), by omega, by omega⟩, fun e => by have := (HI.out.st.own.lt b e.symm).2; omega⟩, hlt⟩
          clear hsd hb1 HI HONE hu x0
          obtain ⟨sm, hsm⟩ : ∃ sm, sm = rd.getD smZ := ⟨_, rfl⟩
          have HSM := hid hsm
          rw [← hsm] at HSD1
          rw [← hsm]
          clear hsm
          obtain ⟨op, num, nm, ds, names, ty, body⟩ := sm
          simp only [Sm.op, Sm.nm, Sm.dst, Sm.ty, Sm.num, Sm.names] at HSD1 ⊢
          go_upto_region 11 with fail
          obtain ⟨X, hX⟩ : ∃ X, X = w1.heap.size := ⟨_, rfl⟩
          rw [← hX]
          have HXQ : Hid (X ≠ Q ∧ w1.heap.size ≤ X) := by show _ ∧ _; have := blk_lt HI1.out.hQ; exact ⟨by omega, by omega⟩
          have HX2 : Hid ((w1.alloc (oO (i64 op) (str nm) (str ds) (.slice a1 names.length c1) (i64 ty.kind) (i64 ty.num) (.slice a2 n2 c2) (.slice a3 n3 c3) (i64 num) nilS (.bool rd.isSome))).heap[X]? = some (oO (i64 op) (str nm) (str ds) (.slice a1 names.length c1) (i64 ty.kind) (i64 ty.num) (.slice a2 n2 c2) (.slice a3 n3 c3) (i64 num) nilS (.bool rd.isSome))) := by show _ = _; rw [hX]; exact heap_last w1 _
          have hb2 := below_one w1 (oO (i64 op) (str nm) (str ds) (.slice a1 names.length c1) (i64 ty.kind) (i64 ty.num) (.slice a2 n2 c2) (.slice a3 n3 c3) (i64 num) nilS (.bool rd.isSome))
          have HI2 := hid (HI1.out.below hb2)
          have HSD2 := hid (HSD1.out.move (S' := fun b => (((S b ∨ w.heap.size ≤ b) ∧ b ≠ Q ∧ b ≠ R) ∧ some b ≠ (Value.slice av Ks.length cv).ownBlock) ∧ b < w1.heap.size) hb2.size fun b hb _ => ⟨hb, hb2.block b hb.2⟩)
          have HK2 : Hid (w1.heap.size ≤ (w1.alloc (oO (i64 op) (str nm) (str ds) (.slice a1 names.length c1) (i64 ty.kind) (i64 ty.num) (.slice a2 n2 c2) (.slice a3 n3 c3) (i64 num) nilS (.bool rd.isSome))).heap.size ∧ ∀ b, b < w1.heap.size → b ≠ Q → (w1.alloc (oO (i64 op) (str nm) (str ds) (.slice a1 names.length c1) (i64 ty.kind) (i64 ty.num) (.slice a2 n2 c2) (.slice a3 n3 c3) (i64 num) nilS (.bool rd.isSome))).heap[b]? = w1.heap[b]?) := ⟨hb2.size, fun b h1 _ => hb2.block b h1⟩
          clear hb2 HSD1 hX
          generalize w1.alloc (oO (i64 op) (str nm) (str ds) (.slice a1 names.length c1) (i64 ty.kind) (i64 ty.num) (.slice a2 n2 c2) (.slice a3 n3 c3) (i64 num) nilS (.bool rd.isSome)) = W2 at *
          obtain ⟨q0, q1, q2, q3, qf0, qf1, qf2, qf3⟩ := lfs HI2.out.hQ
          have hec : ((cnt + 1 : Nat) : Int) = (cnt : Int) + 1 := by omega
          have HI3 : Hid (LsI w (W2.setCell ⟨Q, 2, none⟩ (i64 ((cnt : Int) + 1))) Q R S rb off (all.map wordsF) (.slice av Ks.length cv) (.slice av Ks.length cv) n (cnt + 1) Ks) := HI2.out.onQ (ts W2 Q 2 _) (by rw [hec]; exact rb2 HI2.out.hQ _)
          have HX3 : Hid ((W2.setCell ⟨Q, 2, none⟩ (i64 ((cnt : Int) + 1))).heap[X]? = some (oO (i64 op) (str nm) (str ds) (.slice a1 names.length c1) (i64 ty.kind) (i64 ty.num) (.slice a2 n2 c2) (.slice a3 n3 c3) (i64 num) nilS (.bool rd.isSome))) := by show _ = _; rw [(ts W2 Q 2 _).block X (blk_lt HX2.out) HXQ.out.1]; exact HX2.out
          have HSD3 := hid (HSD2.out.move (S' := fun b => (((S b ∨ w.heap.size ≤ b) ∧ b ≠ Q ∧ b ≠ R) ∧ some b ≠ (Value.slice av Ks.length cv).ownBlock) ∧ b < w1.heap.size) (ts W2 Q 2 (i64 ((cnt : Int) + 1))).size fun b hb hlt => ⟨hb, (ts W2 Q 2 _).block b hlt hb.1.1.2.1⟩)
          have HK3 : Hid (w1.heap.size ≤ (W2.setCell ⟨Q, 2, none⟩ (i64 ((cnt : Int) + 1))).heap.size ∧ ∀ b, b < w1.heap.size → b ≠ Q → (W2.setCell ⟨Q, 2, none⟩ (i64 ((cnt : Int) + 1))).heap[b]? = w1.heap[b]?) := ⟨Nat.le_trans HK2.out.1 (ts W2 Q 2 _).size, fun b h1 h2 => ((ts W2 Q 2 _).block b (Nat.lt_of_lt_of_le h1 HK2.out.1) h2).trans (HK2.out.2 b h1 h2)⟩
          clear HI2 HX2 HSD2 HK2
          go_upto_region 12 with fail
          clear q0 q1 q2 q3 qf0 qf1 qf2 qf3
          generalize (W2.setCell ⟨Q, 2, none⟩ (i64 ((cnt : Int) + 1))) = W3 at *
          obtain ⟨q0, q1, q2, q3, qf0, qf1, qf2, qf3⟩ := lfs HI3.out.hQ
          rw [hec] at q2
          obtain ⟨t0, t1, t2, t3, t4, t5, t6, t7, t8, t9, t10, tf0, tf1, tf2, tf3, tf4, tf5, tf6, tf7, tf8, tf9, tf10⟩ := qfs HX3.out
          cases rd with
          | none =>
            have HRf : Hid (RES = .bad (n + 1)) := HRs3.out
            clear HRs3
            rw [Option.isSome_none] at t10
            have HRX := hid HI3.out.hR
            obtain ⟨rc0, rc1, rc2, rc3, rf0, rf1, rf2, rf3⟩ := lfs HRX.out
            go_wp2_with fail
            refine bodyPost_ret (v := .agg #[nilS, i64 0, i64 0, i64 ((n : Int) + 1)]) (results_one Tryz.results19 rfl (vload57 (setR_at HRX.out _ _ _ _))) rfl ?_
            rw [HRf.out]
            rw [show (n : Int) + 1 = ((n + 1 : Nat) : Int) by omega]
            exact ls_bad HI3.out (n + 1)
          | some s =>
            have hse : s = .mk op num nm ds names ty body := HSM.out.symm
            subst hse
            have hbd : body = [] := HRD.out _ rfl
            subst hbd
            rw [Option.isSome_some] at t10
            have HX4 : Hid (W3.heap[X]? = some (oO (i64 op) (str nm) (str ds) (.slice a1 names.length c1) (i64 ty.kind) (i64 ty.num) (.slice a2 n2 c2) (.slice a3 n3 c3) (i64 num) nilS (.bool true))) := HX3.out
            have HRs4 : Hid (RES = (if 60 < cnt + 1 then Rs.bad (n + 1) else if op = 5 then (if i = 4 then .bad (n + 1) else match blkR (all.drop (n + 1)) (i + 1) (n + 1) (cnt + 1) with
              | .bad k => .bad k
              | .ok B rs' n' cnt' => (blkR rs' i n' cnt').cons (.mk op num nm ds names ty B)) else (blkR (all.drop (n + 1)) i (n + 1) (cnt + 1)).cons (.mk op num nm ds names ty [])).pre (Ks.map (·.1))) := HRs3.out
            clear HRs3 HRD HSM HX3
            by_cases h60 : 60 < cnt + 1
            ·
              have HRf : Hid (RES = .bad (n + 1)) := by show _ = _; rw [HRs4.out, if_pos h60, pre_bad]
              clear HRs4
              have hcI : (60 : Int) < (cnt : Int) + 1 := by omega
              have HRX := hid HI3.out.hR
              obtain ⟨rc0, rc1, rc2, rc3, rf0, rf1, rf2, rf3⟩ := lfs HRX.out
              go_wp2_with fail
              refine bodyPost_ret (v := .agg #[nilS, i64 0, i64 0, i64 ((n : Int) + 1)]) (results_one Tryz.results19 rfl (vload57 (setR_at HRX.out _ _ _ _))) rfl ?_
              rw [HRf.out]
              rw [show (n : Int) + 1 = ((n + 1 : Nat) : Int) by omega]
              exact ls_bad HI3.out (n + 1)
            ·
              have hcI : ¬ (60 : Int) < (cnt : Int) + 1 := by omega
              have hcI2 : (cnt : Int) + 1 ≤ 60 := by omega
              by_cases h5 : op = 5
              ·
                subst h5
                by_cases h4 : i = 4
                ·
                  have HRf : Hid (RES = .bad (n + 1)) := by show _ = _; rw [HRs4.out, if_neg h60, if_pos rfl, if_pos h4, pre_bad]
                  clear HRs4
                  subst h4
                  have HRX := hid HI3.out.hR
                  obtain ⟨rc0, rc1, rc2, rc3, rf0, rf1, rf2, rf3⟩ := lfs HRX.out
                  go_wp2_with fail
                  refine bodyPost_ret (v := .agg #[nilS, i64 0, i64 0, i64 ((n : Int) + 1)]) (results_one Tryz.results19 rfl (vload57 (setR_at HRX.out _ _ _ _))) rfl ?_
                  rw [HRf.out]
                  rw [show (n : Int) + 1 = ((n + 1 : Nat) : Int) by omega]
                  exact ls_bad HI3.out (n + 1)
                ·
                  have HRs5 : Hid (RES = (match blkR (all.drop (n + 1)) (i + 1) (n + 1) (cnt + 1) with
                    | .bad k => Rs.bad k
                    | .ok B rs' n' cnt' => (blkR rs' i n' cnt').cons (.mk 5 num nm ds names ty B)).pre (Ks.map Prod.fst)) := by show _ = _; rw [HRs4.out, if_neg h60, if_pos rfl, if_neg h4]
                  have hib : ¬ (3 : Int) < (i : Int) := by omega
                  clear HRs4 h60
                  go_upto_region 14 with fail
                  have HI5 : Hid (LsI w (W3.setCell ⟨Q, 1, none⟩ (i64 ((n : Int) + 1))) Q R S rb off (all.map wordsF) (.slice av Ks.length cv) (.slice av Ks.length cv) (n + 1) (cnt + 1) Ks) := HI3.out.onQ (ts W3 Q 1 _) (by rw [hen]; exact rb1 HI3.out.hQ _)
                  have HX5 : Hid ((W3.setCell ⟨Q, 1, none⟩ (i64 ((n : Int) + 1))).heap[X]? = some (oO (i64 5) (str nm) (str ds) (.slice a1 names.length c1) (i64 ty.kind) (i64 ty.num) (.slice a2 n2 c2) (.slice a3 n3 c3) (i64 num) nilS (.bool true))) := by show _ = _; rw [(ts W3 Q 1 _).block X (blk_lt HX4.out) HXQ.out.1]; exact HX4.out
                  have HSD5 := hid (HSD3.out.move (S' := fun b => (((S b ∨ w.heap.size ≤ b) ∧ b ≠ Q ∧ b ≠ R) ∧ some b ≠ (Value.slice av Ks.length cv).ownBlock) ∧ b < w1.heap.size) (ts W3 Q 1 (i64 ((n : Int) + 1))).size fun b hb hlt => ⟨hb, (ts W3 Q 1 _).block b hlt hb.1.1.2.1⟩)
                  have HK5 : Hid (∀ b, b < w1.heap.size → b ≠ Q → (W3.setCell ⟨Q, 1, none⟩ (i64 ((n : Int) + 1))).heap[b]? = w1.heap[b]?) := fun b h1 h2 => ((ts W3 Q 1 _).block b (Nat.lt_of_lt_of_le h1 HK3.out.1) h2).trans (HK3.out.2 b h1 h2)
                  clear HI3 HX4 HSD3 HK3 t0 t1 t2 t3 t4 t5 t6 t7 t8 t9 t10 tf0 tf1 tf2 tf3 tf4 tf5 tf6 tf7 tf8 tf9 tf10
                  go_upto_region 15 with fail
                  clear q0 q1 q2 q3 qf0 qf1 qf2 qf3
                  generalize (W3.setCell ⟨Q, 1, none⟩ (i64 ((n : Int) + 1))) = W5 at *
                  obtain ⟨q0, q1, q2, q3, qf0, qf1, qf2, qf3⟩ := lfs HI5.out.hQ
                  rw [hen] at q1
                  rw [hec] at q2
                  have t0 := (qfs HX5.out).c0
                  have HCA := hid (HIH.out (by omega) (n + 1) (cnt + 1) W5 S (.slice (some ⟨rb, off, none⟩) all.length cap) (.slice av Ks.length cv) (i64 0) ⟨rb, off, cap, by simp, by simpa using HRW.out, HI5.out.sb, by have := HSB.out; have := HI5.out.bel.size; omega, HI5.out.rows⟩ (fun k hk => by have := HI5.out.sl k hk; have := HI5.out.bel.size; omega) (by omega) (by omega))
                  rw [hen, hec] at HCA
                  have HBB : Hid (∀ k, blkR (all.drop (n + 1)) (i + 1) (n + 1) (cnt + 1) = .bad k → 0 < k) := fun k h => blk_bad _ _ _ _ _ _ (by omega) (by omega) h
                  have HBC : Hid (∀ B rs' n' cnt', blkR (all.drop (n + 1)) (i + 1) (n + 1) (cnt + 1) = .ok B rs' n' cnt' → cnt + 1 ≤ cnt' ∧ cnt' ≤ 60 ∧ n + 1 ≤ n' ∧ n' ≤ all.length ∧ rs' = all.drop n') := fun B rs' n' cnt' h => by
                    have h1 := blkR_cnt h (by omega)
                    obtain ⟨p, hp⟩ := blk_suf _ _ _ _ _ _ _ _ _ h
                    have hl := congrArg List.length hp
                    rw [List.length_append, List.length_drop] at hl
                    rw [List.length_drop] at h1
                    refine ⟨h1.1, h1.2.1, by omega, by omega, ?_⟩
                    rw [show n' = (n + 1) + p.length by omega, ← List.drop_drop, hp, List.drop_left]
                  generalize blkR (all.drop (n + 1)) (i + 1) (n + 1) (cnt + 1) = RB at *
                  clear HIH
                  go_upto_region 16 with fail
                  go_wp2_with fail
                  refine HCA.out.mono ?_
                  clear q0 q1 q2 q3 qf0 qf1 qf2 qf3 t0 HCA
                  cases RB with
                  | bad k =>
                    have HRf : Hid (RES = .bad k) := HRs5.out
                    have hk0 : (0 : Int) < (k : Int) := by have := HBB.out k rfl; omega
                    rintro e w6 ⟨hres, hb6⟩
                    have HI6 := hid (HI5.out.below hb6)
                    clear HRs5 HBB HBC HI5 HX5 HSD5 HK5 hb6
                    rcases hres with rfl | ⟨_, hkl, a6, m6, c6, ct6, rfl⟩
                    · have HB7 : Hid ((w6.alloc (rO nilS (i64 0) (i64 0) (i64 (k : Nat)))).heap[w6.heap.size]? = some (rO nilS (i64 0) (i64 0) (i64 (k : Nat)))) := heap_last w6 _
                      have HI7 := hid (HI6.out.below (below_one w6 (rO nilS (i64 0) (i64 0) (i64 (k : Nat)))))
                      clear HI6
                      go_upto_region 17 with fail
                      obtain ⟨Z, hZ⟩ : ∃ Z, Z = w6.heap.size := ⟨_, rfl⟩
                      rw [← hZ] at HB7
                      rw [← hZ]
                      clear hZ
                      generalize w6.alloc (rO nilS (i64 0) (i64 0) (i64 (k : Nat))) = W7 at *
                      obtain ⟨z0, z1, z2, z3, _, _, _, _⟩ := lfs HB7.out
                      have HRX := hid HI7.out.hR
                      obtain ⟨rc0, rc1, rc2, rc3, rf0, rf1, rf2, rf3⟩ := lfs HRX.out
                      go_wp2_with fail
                      refine bodyPost_ret (v := .agg #[nilS, i64 0, i64 0, i64 (k : Nat)]) (results_one Tryz.results19 rfl (vload57 (setR_at HRX.out _ _ _ _))) rfl ?_
                      rw [HRf.out]
                      exact ls_bad HI7.out k
                    · have HKL := hid hkl
                      clear hkl
                      have HB7 : Hid ((w6.alloc (rO (.slice a6 m6 c6) (i64 (all.length : Nat)) (i64 (ct6 : Nat)) (i64 0))).heap[w6.heap.size]? = some (rO (.slice a6 m6 c6) (i64 (all.length : Nat)) (i64 (ct6 : Nat)) (i64 0))) := heap_last w6 _
                      have HI7 := hid (HI6.out.below (below_one w6 (rO (.slice a6 m6 c6) (i64 (all.length : Nat)) (i64 (ct6 : Nat)) (i64 0))))
                      clear HI6
                      go_upto_region 17 with fail
                      obtain ⟨Z, hZ⟩ : ∃ Z, Z = w6.heap.size := ⟨_, rfl⟩
                      rw [← hZ] at HB7
                      rw [← hZ]
                      clear hZ
                      generalize w6.alloc (rO (.slice a6 m6 c6) (i64 (all.length : Nat)) (i64 (ct6 : Nat)) (i64 0)) = W7 at *
                      obtain ⟨z0, z1, z2, z3, _, _, _, _⟩ := lfs HB7.out
                      have HRX := hid HI7.out.hR
                      obtain ⟨rc0, rc1, rc2, rc3, rf0, rf1, rf2, rf3⟩ := lfs HRX.out
                      go_wp2_with fail
                      refine bodyPost_ret (v := .agg #[nilS, i64 0, i64 0, i64 (all.length : Nat)]) (results_one Tryz.results19 rfl (vload57 (setR_at HRX.out _ _ _ _))) rfl ?_
                      rw [HRf.out, HKL.out]
                      exact ls_bad HI7.out all.length
                  | ok Bd rs' n' cnt' =>
                    obtain ⟨hcn1, hcn2, hn1, hn2, hrs⟩ := HBC.out _ _ _ _ rfl
                    subst hrs
                    have HRs7 : Hid (RES = (blkR (all.drop n') i n' cnt').pre (Ks.map Prod.fst ++ [.mk 5 num nm ds names ty Bd])) := by show _ = _; rw [← pre_snoc]; exact HRs5.out
                    rintro e w6 ⟨⟨ab, cb, m6, hm6, rfl, hsds⟩, hb6⟩
                    rw [if_neg (by omega)] at hm6
                    have HSB6 := hid hsds
                    have HB6 := hid hb6
                    clear hsds hb6 HRs5 HBB HBC
                    have HZ7 : Hid ((w6.alloc (rO (.slice ab Bd.length cb) (i64 (m6 : Nat)) (i64 (cnt' : Nat)) (i64 0))).heap[w6.heap.size]? = some (rO (.slice ab Bd.length cb) (i64 (m6 : Nat)) (i64 (cnt' : Nat)) (i64 0))) := heap_last w6 _
                    have hb7 := HB6.out.trans ((below_one w6 (rO (.slice ab Bd.length cb) (i64 (m6 : Nat)) (i64 (cnt' : Nat)) (i64 0))).mono HB6.out.size)
                    have HB7 := hid hb7
                    have HI7 := hid (HI5.out.below hb7)
                    have HX7 : Hid ((w6.alloc (rO (.slice ab Bd.length cb) (i64 (m6 : Nat)) (i64 (cnt' : Nat)) (i64 0))).heap[X]? = some (oO (i64 5) (str nm) (str ds) (.slice a1 names.length c1) (i64 ty.kind) (i64 ty.num) (.slice a2 n2 c2) (.slice a3 n3 c3) (i64 num) nilS (.bool true))) := blk_below HX5.out hb7
                    have HSB7 := hid (HSB6.out.under (below_one w6 (rO (.slice ab Bd.length cb) (i64 (m6 : Nat)) (i64 (cnt' : Nat)) (i64 0))))
                    have HSZ : Hid (W5.heap.size ≤ w6.heap.size ∧ X < W5.heap.size ∧ Q < W5.heap.size) := ⟨HB6.out.size, blk_lt HX5.out, blk_lt HI5.out.hQ⟩
                    have HBP : Hid (∀ b, (S b ∨ W5.heap.size ≤ b) → (((S b ∨ w.heap.size ≤ b) ∧ b ≠ Q ∧ b ≠ R) ∧ some b ≠ (Value.slice av Ks.length cv).ownBlock) ∧ b ≠ X) := fun k hk => by
                      have e1 := blk_lt HI5.out.hQ
                      have e2 := blk_lt HI5.out.hR
                      have e3 := HI5.out.ql
                      have e4 := HI5.out.rl
                      have e5 := HI5.out.bel.size
                      have e7 := blk_lt HX5.out
                      have e8 := HXQ.out.2
                      have e9 := HI1.out.bel.size
                      rcases hk with hb | hb
                      · have e6 := HI5.out.sl k hb
                        exact ⟨⟨⟨Or.inl hb, by omega, by omega⟩, fun e => by have := (HI5.out.st.own.lt k e.symm).1; omega⟩, by omega⟩
                      · exact ⟨⟨⟨Or.inr (by omega), by omega, by omega⟩, fun e => by have := (HI5.out.st.own.lt k e.symm).2; omega⟩, by omega⟩
                    have HK7 : Hid (w1.heap.size ≤ W5.heap.size ∧ ∀ b, b < w1.heap.size → b ≠ Q → (w6.alloc (rO (.slice ab Bd.length cb) (i64 (m6 : Nat)) (i64 (cnt' : Nat)) (i64 0))).heap[b]? = w1.heap[b]?) := by
                      have e7 := blk_lt HX5.out
                      have e8 := HXQ.out.2
                      exact ⟨by omega, fun b h1 h2 => (hb7.block b (by omega)).trans (HK5.out b h1 h2)⟩
                    have hmI : ((m6 : Int) == (all.length : Int)) = false := by
                      have : (m6 : Int) ≠ (all.length : Int) := by omega
                      simpa using this
                    have HMC : Hid ((m6 : Int) + 1 = ((n' : Nat) : Int)) := by show _ = _; omega
                    have hm0 : (0 : Int) ≤ (m6 : Int) := by omega
                    have hml : (m6 : Int) ≤ 1000000 := by omega
                    clear hb7 HSB6 HB6 HI5 HX5 HK5 hm6
                    go_upto_region 17 with fail
                    obtain ⟨Z, hZ⟩ : ∃ Z, Z = w6.heap.size := ⟨_, rfl⟩
                    have HZX : Hid (Z ≠ X ∧ Z ≠ Q) := by show _ ∧ _; have := HSZ.out; omega
                    rw [← hZ] at HZ7
                    rw [← hZ]
                    clear hZ
                    generalize w6.alloc (rO (.slice ab Bd.length cb) (i64 (m6 : Nat)) (i64 (cnt' : Nat)) (i64 0)) = W7 at *
                    obtain ⟨z0, z1, z2, z3, _, _, _, _⟩ := lfs HZ7.out
                    have x9 := blk_cell HX7.out 9
                    have xf9 := blk_frozen HX7.out 9
                    have HT8 := hid (ts W7 X 9 (.slice ab Bd.length cb))
                    have HQ8 : Hid ((W7.setCell ⟨X, 9, none⟩ (.slice ab Bd.length cb)).heap[Q]? = some (rO (.slice av Ks.length cv) (i64 ((n + 1 : Nat) : Int)) (i64 ((cnt + 1 : Nat) : Int)) (i64 0))) := by show _ = _; rw [HT8.out.block Q (blk_lt HI7.out.hQ) HXQ.out.1.symm]; exact HI7.out.hQ
                    have HX8 : Hid ((W7.setCell ⟨X, 9, none⟩ (.slice ab Bd.length cb)).heap[X]? = some (oO (i64 5) (str nm) (str ds) (.slice a1 names.length c1) (i64 ty.kind) (i64 ty.num) (.slice a2 n2 c2) (.slice a3 n3 c3) (i64 num) (.slice ab Bd.length cb) (.bool true))) := qb9 HX7.out _
                    have HZ8 : Hid ((W7.setCell ⟨X, 9, none⟩ (.slice ab Bd.length cb)).heap[Z]? = some (rO (.slice ab Bd.length cb) (i64 (m6 : Nat)) (i64 (cnt' : Nat)) (i64 0))) := by show _ = _; rw [HT8.out.block Z (blk_lt HZ7.out) HZX.out.1]; exact HZ7.out
                    go_upto_region 22 with fail
                    clear z0 z1 z2 z3 x9 xf9
                    generalize W7.setCell ⟨X, 9, none⟩ (.slice ab Bd.length cb) = W8 at *
                    obtain ⟨z0, z1, z2, z3, _, _, _, _⟩ := lfs HZ8.out
                    obtain ⟨q0, q1, q2, q3, qf0, qf1, qf2, qf3⟩ := lfs HQ8.out
                    have HT9 := hid (ts W8 Q 1 (i64 ((m6 : Int) + 1)))
                    have HQ9 : Hid ((W8.setCell ⟨Q, 1, none⟩ (i64 ((m6 : Int) + 1))).heap[Q]? = some (rO (.slice av Ks.length cv) (i64 ((m6 : Int) + 1)) (i64 ((cnt + 1 : Nat) : Int)) (i64 0))) := rb1 HQ8.out _
                    have HX9 : Hid ((W8.setCell ⟨Q, 1, none⟩ (i64 ((m6 : Int) + 1))).heap[X]? = some (oO (i64 5) (str nm) (str ds) (.slice a1 names.length c1) (i64 ty.kind) (i64 ty.num) (.slice a2 n2 c2) (.slice a3 n3 c3) (i64 num) (.slice ab Bd.length cb) (.bool true))) := by show _ = _; rw [HT9.out.block X (blk_lt HX8.out) HXQ.out.1]; exact HX8.out
                    have HZ9 : Hid ((W8.setCell ⟨Q, 1, none⟩ (i64 ((m6 : Int) + 1))).heap[Z]? = some (rO (.slice ab Bd.length cb) (i64 (m6 : Nat)) (i64 (cnt' : Nat)) (i64 0))) := by show _ = _; rw [HT9.out.block Z (blk_lt HZ8.out) HZX.out.2]; exact HZ8.out
                    go_upto_region 23 with fail
                    clear z0 z1 z2 z3 q0 q1 q2 q3 qf0 qf1 qf2 qf3
                    generalize W8.setCell ⟨Q, 1, none⟩ (i64 ((m6 : Int) + 1)) = W9 at *
                    obtain ⟨z0, z1, z2, z3, _, _, _, _⟩ := lfs HZ9.out
                    obtain ⟨q0, q1, q2, q3, qf0, qf1, qf2, qf3⟩ := lfs HQ9.out
                    have HT10 := hid (ts W9 Q 2 (i64 ((cnt' : Nat) : Int)))
                    have HQ10 : Hid ((W9.setCell ⟨Q, 2, none⟩ (i64 ((cnt' : Nat) : Int))).heap[Q]? = some (rO (.slice av Ks.length cv) (i64 ((n' : Nat) : Int)) (i64 ((cnt' : Nat) : Int)) (i64 0))) := by show _ = _; rw [← HMC.out]; exact rb2 HQ9.out _
                    have HX10 : Hid ((W9.setCell ⟨Q, 2, none⟩ (i64 ((cnt' : Nat) : Int))).heap[X]? = some (oO (i64 5) (str nm) (str ds) (.slice a1 names.length c1) (i64 ty.kind) (i64 ty.num) (.slice a2 n2 c2) (.slice a3 n3 c3) (i64 num) (.slice ab Bd.length cb) (.bool true))) := by show _ = _; rw [HT10.out.block X (blk_lt HX9.out) HXQ.out.1]; exact HX9.out
                    go_upto_region 24 with fail
                    clear z0 z1 z2 z3 q0 q1 q2 q3 qf0 qf1 qf2 qf3 HZ7 HZ8 HZ9
                    have HBK : Hid (∀ b, b < W7.heap.size → b ≠ X → b ≠ Q → (W9.setCell ⟨Q, 2, none⟩ (i64 ((cnt' : Nat) : Int))).heap[b]? = W7.heap[b]?) := fun b h1 h2 h3 => by
                      have e8 := HT8.out.size
                      have e9 := HT9.out.size
                      rw [HT10.out.block b (by omega) h3, HT9.out.block b (by omega) h3, HT8.out.block b h1 h2]
                    have HSZ10 : Hid (W7.heap.size ≤ (W9.setCell ⟨Q, 2, none⟩ (i64 ((cnt' : Nat) : Int))).heap.size) := by show _ ≤ _; have := HT8.out.size; have := HT9.out.size; have := HT10.out.size; omega
                    have HB10 : Hid (Below w.heap.size w (W9.setCell ⟨Q, 2, none⟩ (i64 ((cnt' : Nat) : Int)))) := by
                      have e1 := HI7.out.bel.trans (HT8.out.below (B := w.heap.size) (by have := HXQ.out.2; have := HI1.out.bel.size; omega) HI7.out.bel.size)
                      have e2 := e1.trans (HT9.out.below HI7.out.ql e1.size)
                      exact e2.trans (HT10.out.below HI7.out.ql e2.size)
                    clear HT8 HT9 HT10 HQ8 HQ9 HX8 HX9
                    generalize W9.setCell ⟨Q, 2, none⟩ (i64 ((cnt' : Nat) : Int)) = W10 at *
                    have HI10 : Hid (LsI w W10 Q R S rb off (all.map wordsF) (.slice av Ks.length cv) (.slice av Ks.length cv) n' cnt' Ks) := HI1.out.jump (by have := HSZ10.out; have := HK7.out.1; have := HB7.out.size; omega) (fun b h1 h2 => (HBK.out b (by have := HK7.out.1; have := HB7.out.size; omega) (by have := HXQ.out.2; omega) h2).trans (HK7.out.2 b h1 h2)) HB10.out HQ10.out
                    have HSD10 : Hid (Sd W10 (fun b => ((S b ∨ w.heap.size ≤ b) ∧ b ≠ Q ∧ b ≠ R) ∧ some b ≠ (Value.slice av Ks.length cv).ownBlock) (.mk 5 num nm ds names ty Bd) ⟨.slice a1 names.length c1, .slice a2 n2 c2, .slice a3 n3 c3, .slice ab Bd.length cb⟩) := by
                      have hp := HSD5.out.parts
                      have hz : W5.heap.size ≤ W10.heap.size := by have := HSZ10.out; have := HB7.out.size; omega
                      have hmv : ∀ b, ((((S b ∨ w.heap.size ≤ b) ∧ b ≠ Q ∧ b ≠ R) ∧ some b ≠ (Value.slice av Ks.length cv).ownBlock) ∧ b < w1.heap.size) → b < W5.heap.size → (((S b ∨ w.heap.size ≤ b) ∧ b ≠ Q ∧ b ≠ R) ∧ some b ≠ (Value.slice av Ks.length cv).ownBlock) ∧ W10.heap[b]? = W5.heap[b]? := fun b hb hlt => ⟨hb.1, (HBK.out b (by have := HB7.out.size; omega) (by have := hb.2; have := HXQ.out.2; omega) hb.1.1.2.1).trans (HB7.out.block b hlt)⟩
                      exact Sd.of (hp.1.move hz hmv) (hp.2.1.move hz hmv) (HSB7.out.move HSZ10.out fun b hb hlt => ⟨(HBP.out b hb).1, HBK.out b hlt (HBP.out b hb).2 (HBP.out b hb).1.1.2.1⟩)
                    clear HBK HSZ10 HB10 HB7 HSB7 HSD5 HBP HK7 HSZ HI7 HX7 HQ10
                    have hnI : (n' : Int) ≤ 1000000 := by omega
                    obtain ⟨q0, q1, q2, q3, qf0, qf1, qf2, qf3⟩ := lfs HI10.out.hQ
                    obtain ⟨t0, t1, t2, t3, t4, t5, t6, t7, t8, t9, t10, tf0, tf1, tf2, tf3, tf4, tf5, tf6, tf7, tf8, tf9, tf10⟩ := qfs HX10.out
                    have hkl : Ks.length ≤ 100000 := by omega
                    obtain ⟨ao8, cap8, w8, hrun, hI8⟩ := HI10.out.push (.mk 5 num nm ds names ty Bd) ⟨.slice a1 names.length c1, .slice a2 n2 c2, .slice a3 n3 c3, .slice ab Bd.length cb⟩ HSD10.out hkl
                    have HRUN : Hid ((Builtin.append_ #[26, 26] 26 #[.slice av Ks.length cv, .slice (some ⟨W10.heap.size, 0, none⟩) 1 1]).run Tryz.prog (W10.alloc (sbE (i64 5) (str nm) (str ds) (.slice a1 names.length c1) (i64 ty.kind) (i64 ty.num) (.slice a2 n2 c2) (.slice a3 n3 c3) (i64 num) (.slice ab Bd.length cb))) = .ok (.slice ao8 (Ks.length + 1) cap8) w8) := hrun
                    have HI9 : Hid (LsI w (w8.setCell ⟨Q, 0, none⟩ (.slice ao8 (Ks.length + 1) cap8)) Q R S rb off (all.map wordsF) (.slice ao8 (Ks.length + 1) cap8) (.slice ao8 (Ks.length + 1) cap8) n' cnt' (Ks ++ [(((.mk 5 num nm ds names ty Bd), ⟨.slice a1 names.length c1, .slice a2 n2 c2, .slice a3 n3 c3, .slice ab Bd.length cb⟩) : Kst)])) := hI8.onQ (ts w8 Q 0 _) (rb0 hI8.hQ _)
                    obtain ⟨p0, p1, p2, p3, pf0, pf1, pf2, pf3⟩ := lfs hI8.hQ
                    have HRs9 : Hid (RES = (blkR (all.drop n') i n' cnt').pre ((Ks ++ [(((.mk 5 num nm ds names ty Bd), ⟨.slice a1 names.length c1, .slice a2 n2 c2, .slice a3 n3 c3, .slice ab Bd.length cb⟩) : Kst)]).map (·.1))) := by show _ = _; rw [HRs7.out, List.map_append]; rfl
                    clear hrun hI8 hkl HSD10 HRs7
                    go_wp2_with (at_builtin; refine wpList_app_run rfl (.tmp 115) (.tmp 118) 26 rfl _ _ rfl rfl 26 rfl _ _ HRUN.out ?_)
                    generalize w8.setCell ⟨Q, 0, none⟩ (.slice ao8 (Ks.length + 1) cap8) = w9 at *
                    have hkl9 : (Ks ++ [(((.mk 5 num nm ds names ty Bd), ⟨.slice a1 names.length c1, .slice a2 n2 c2, .slice a3 n3 c3, .slice ab Bd.length cb⟩) : Kst)]).length = Ks.length + 1 := by simp
                    rw [← hkl9] at HI9
                    go_roundg (all.length - n')
                    case measure => omega
                    case rel => exact ⟨n', cnt', _, _, Nat.le_refl _, by omega, by omega, by rw [hkl9]; omega, HI9, HRs9⟩
              ·
                have hob : (op == 5) = false := by simpa using h5
                have HRs5 : Hid (RES = (blkR (all.drop (n + 1)) i (n + 1) (cnt + 1)).pre (Ks.map (·.1) ++ [.mk op num nm ds names ty []])) := by show _ = _; rw [← pre_snoc, HRs4.out, if_neg h60, if_neg h5]
                clear HRs4 h60 h5
                go_upto_region 14 with fail
                have HI5 : Hid (LsI w (W3.setCell ⟨Q, 1, none⟩ (i64 ((n : Int) + 1))) Q R S rb off (all.map wordsF) (.slice av Ks.length cv) (.slice av Ks.length cv) (n + 1) (cnt + 1) Ks) := HI3.out.onQ (ts W3 Q 1 _) (by rw [hen]; exact rb1 HI3.out.hQ _)
                have HX5 : Hid ((W3.setCell ⟨Q, 1, none⟩ (i64 ((n : Int) + 1))).heap[X]? = some (oO (i64 op) (str nm) (str ds) (.slice a1 names.length c1) (i64 ty.kind) (i64 ty.num) (.slice a2 n2 c2) (.slice a3 n3 c3) (i64 num) nilS (.bool true))) := by show _ = _; rw [(ts W3 Q 1 _).block X (blk_lt HX4.out) HXQ.out.1]; exact HX4.out
                have HSD5 := hid (HSD3.out.move (S' := fun b => ((S b ∨ w.heap.size ≤ b) ∧ b ≠ Q ∧ b ≠ R) ∧ some b ≠ (Value.slice av Ks.length cv).ownBlock) (ts W3 Q 1 (i64 ((n : Int) + 1))).size fun b hb hlt => ⟨hb.1, (ts W3 Q 1 _).block b hlt hb.1.1.2.1⟩)
                clear HI3 HX4 HSD3 t0 t1 t2 t3 t4 t5 t6 t7 t8 t9 t10 tf0 tf1 tf2 tf3 tf4 tf5 tf6 tf7 tf8 tf9 tf10
                go_upto_region 15 with fail
                clear q0 q1 q2 q3 qf0 qf1 qf2 qf3
                generalize (W3.setCell ⟨Q, 1, none⟩ (i64 ((n : Int) + 1))) = W5 at *
                obtain ⟨q0, q1, q2, q3, qf0, qf1, qf2, qf3⟩ := lfs HI5.out.hQ
                obtain ⟨t0, t1, t2, t3, t4, t5, t6, t7, t8, t9, t10, tf0, tf1, tf2, tf3, tf4, tf5, tf6, tf7, tf8, tf9, tf10⟩ := qfs HX5.out
                have hkl : Ks.length ≤ 100000 := by omega
                obtain ⟨ao8, cap8, w8, hrun, hI8⟩ := HI5.out.push (.mk op num nm ds names ty []) ⟨.slice a1 names.length c1, .slice a2 n2 c2, .slice a3 n3 c3, nilS⟩ HSD5.out hkl
                have HRUN : Hid ((Builtin.append_ #[26, 26] 26 #[.slice av Ks.length cv, .slice (some ⟨W5.heap.size, 0, none⟩) 1 1]).run Tryz.prog (W5.alloc (sbE (i64 op) (str nm) (str ds) (.slice a1 names.length c1) (i64 ty.kind) (i64 ty.num) (.slice a2 n2 c2) (.slice a3 n3 c3) (i64 num) (nilS))) = .ok (.slice ao8 (Ks.length + 1) cap8) w8) := hrun
                have HI9 : Hid (LsI w (w8.setCell ⟨Q, 0, none⟩ (.slice ao8 (Ks.length + 1) cap8)) Q R S rb off (all.map wordsF) (.slice ao8 (Ks.length + 1) cap8) (.slice ao8 (Ks.length + 1) cap8) (n + 1) (cnt + 1) (Ks ++ [(((.mk op num nm ds names ty []), ⟨.slice a1 names.length c1, .slice a2 n2 c2, .slice a3 n3 c3, nilS⟩) : Kst)])) := hI8.onQ (ts w8 Q 0 _) (rb0 hI8.hQ _)
                obtain ⟨p0, p1, p2, p3, pf0, pf1, pf2, pf3⟩ := lfs hI8.hQ
                have HRs9 : Hid (RES = (blkR (all.drop (n + 1)) i (n + 1) (cnt + 1)).pre ((Ks ++ [(((.mk op num nm ds names ty []), ⟨.slice a1 names.length c1, .slice a2 n2 c2, .slice a3 n3 c3, nilS⟩) : Kst)]).map (·.1))) := by show _ = _; rw [HRs5.out, List.map_append]; rfl
                clear hrun hI8 hkl HSD5 HRs5
                go_wp2_with (at_builtin; refine wpList_app_run rfl (.tmp 115) (.tmp 118) 26 rfl _ _ rfl rfl 26 rfl _ _ HRUN.out ?_)
                generalize w8.setCell ⟨Q, 0, none⟩ (.slice ao8 (Ks.length + 1) cap8) = w9 at *
                have hkl9 : (Ks ++ [(((.mk op num nm ds names ty []), ⟨.slice a1 names.length c1, .slice a2 n2 c2, .slice a3 n3 c3, nilS⟩) : Kst)]).length = Ks.length + 1 := by simp
                rw [← hkl9] at HI9
                go_roundg (all.length - (n + 1))
                case measure => omega
                case rel => exact ⟨(n + 1), (cnt + 1), _, _, Nat.le_refl _, by omega, by omega, by rw [hkl9]; omega, HI9, HRs9⟩
    ·
      have hne : n = all.length := by omega
      have HNE := hid hne
      clear hne
      have hlI : ¬ (n : Int) < (all.length : Int) := by have := HNE.out; omega
      have HRs1 : Hid (RES = (if i = 0 then Rs.ok [] [] n cnt else .bad n).pre (Ks.map (·.1))) := by
        show _ = _
        rw [HRs.out, List.drop_eq_nil_of_le (by have := HNE.out; omega)]; rfl
      clear HRs
      by_cases h0 : i = 0
      ·
        have HRf : Hid (RES = .ok (Ks.map (·.1)) [] n cnt) := by show _ = _; rw [HRs1.out, if_pos h0, pre_ok, List.append_nil]
        clear HRs1
        have HRX := hid HI.out.hR
        obtain ⟨rc0, rc1, rc2, rc3, rf0, rf1, rf2, rf3⟩ := lfs HRX.out
        go_wp2_with fail
        refine bodyPost_ret (v := .agg #[.slice av Ks.length cv, i64 (n : Nat), i64 (cnt : Nat), i64 0]) (results_one Tryz.results19 rfl (vload57 (setR_at HRX.out _ _ _ _))) rfl ?_
        rw [HRf.out]
        exact ls_ok HI.out (by simp)
      ·
        have HRf : Hid (RES = .bad n) := by show _ = _; rw [HRs1.out, if_neg h0, pre_bad]
        clear HRs1
        have HRX := hid HI.out.hR
        obtain ⟨rc0, rc1, rc2, rc3, rf0, rf1, rf2, rf3⟩ := lfs HRX.out
        go_wp2_with fail
        refine bodyPost_ret (v := .agg #[.slice av Ks.length cv, i64 (n : Nat), i64 (cnt : Nat), i64 0]) (results_one Tryz.results19 rfl (vload57 (setR_at HRX.out _ _ _ _))) rfl ?_
        rw [HRf.out]
        rw [HNE.out]
        exact ls_late HI.out (by omega)
end Go.Proofs.YtjppcfjjpkniaaaGreatDoor
namespace Go.Proofs.YtjppcfjjpkniaaaGreatDoor
open Go.ChangeShapes Go.WideShapes Go.ChangeAt Go.RowKit Go.Deep
attribute [local go_sem ↓] Go.wp_at_zero Go.wp_at_succ
set_option maxRecDepth 100000

theorem qlist_ok (all : List Bs) (hall : all.length ≤ 100000) (hx : ∀ x ∈ all, x.length ≤ 90000) : ∀ (d i : Nat), i + d = 4 → ∀ (n cnt : Nat) (w : World) (S : Nat → Prop) (v Lp bd : Value), Rws w S v (all.map wordsF) → (∀ k, S k → k < w.heap.size) → n ≤ all.length → cnt ≤ 60 → Calls Tryz.prog 19 #[v, .agg #[Lp, i64 (n : Nat), i64 (cnt : Nat), bd], i64 (i : Int)] w (LsOk w S all.length i (blkR (all.drop n) i n cnt))
  | 0, i, hd, n, cnt, w, S, v, Lp, bd, hr, hS, hn, hc => list_in i (by omega) all hall hx (fun h => by omega) n cnt w S v Lp bd hr hS hn hc
  | d + 1, i, hd, n, cnt, w, S, v, Lp, bd, hr, hS, hn, hc => by
    have ih := qlist_ok all hall hx d (i + 1) (by omega)
    have e : ((i + 1 : Nat) : Int) = (i : Int) + 1 := by omega
    rw [e] at ih
    exact list_in i (by omega) all hall hx (fun _ => ih) n cnt w S v Lp bd hr hS hn hc
theorem lns_mem : ∀ l : Bs, ∀ x ∈ lns l, x.length ≤ l.length
  | [], x, h => by simp [lns] at h; subst h; simp
  | c :: r, x, h => by
    have ih := lns_mem r
    rw [lns_cons] at h
    split at h
    · rcases List.mem_cons.1 h with h | h
      · subst h; simp
      · have := ih x h; simp only [List.length_cons]; omega
    · cases hr : lns r with
      | nil => exact absurd hr (lns_ne r)
      | cons y ys =>
        rw [hr] at h ih
        simp only at h
        rcases List.mem_cons.1 h with h | h
        · subst h; have := ih y (by simp); simp only [List.length_cons]; omega
        · have := ih x (by simp [h]); simp only [List.length_cons]; omega
set_option maxHeartbeats 1600000 in
theorem qparse_ok (text : Bs) (w : World) (hl : text.length ≤ 90000) : Calls Tryz.prog 10 #[str text] w fun e w' => (∃ a c, e = .returned (.tuple #[.slice a (parseR text).1.length c, i64 ((parseR text).2 : Nat)]) ∧ Sds w' (fun k => w.heap.size ≤ k) (parseR text).1 (.slice a (parseR text).1.length c)) ∧ Below w.heap.size w w' := by
  have HRW := hid (rows_s ⟨text.toArray⟩ w (by show text.toArray.size ≤ _; simpa using hl))
  have hall : ((lns text).map lineT).length ≤ 100000 := by have := lns_len text; rw [List.length_map]; omega
  have hx : ∀ x ∈ (lns text).map lineT, x.length ≤ 90000 := fun x h => by
    obtain ⟨y, hy, rfl⟩ := List.mem_map.1 h
    have h1 := lns_mem text y hy
    have h2 := lineT_len y
    omega
  have HLS := hid (qlist_ok ((lns text).map lineT) hall hx 4 0 rfl 0 0)
  have HPR := hid (parseR_blkR text)
  have hle : linesM text true = (lns text).map lineT := by unfold linesM; rw [if_pos rfl]
  rw [hle] at HPR
  rw [List.drop_zero] at HLS
  have HBB : Hid (∀ k, blkR ((lns text).map lineT) 0 0 0 = .bad k → 0 < k) := fun k h => blk_bad _ _ _ _ _ _ (by omega) (by omega) h
  have hrr : (lns text).map rowF = ((lns text).map lineT).map wordsF := by rw [List.map_map]; rfl
  have hdd : (⟨text.toArray⟩ : ByteArray).data.toList = text := by simp
  rw [hdd, hrr] at HRW
  generalize (lns text).map lineT = all at *
  generalize blkR all 0 0 0 = RB at *
  generalize parseR text = P at *
  clear hall hx hle hrr hdd hl
  go_enter Tryz.func10, Tryz.ntmps10
  go_wp2_with fail
  refine HRW.out.mono ?_
  rintro e w1 ⟨⟨v, rfl, hrw⟩, hb1⟩
  have HB1 := hid hb1
  have HV : Hid (∃ b off cap, v = .slice (some ⟨b, off, none⟩) (all.map wordsF).length cap) := by obtain ⟨b, off, cap, hv, _⟩ := hrw; exact ⟨b, off, cap, hv⟩
  have HCA := hid (HLS.out w1 (fun k => w.heap.size ≤ k ∧ k < w1.heap.size) v nilS (i64 0) (by
    obtain ⟨b, off, cap, h1, h2, h3, h4, h5⟩ := hrw
    exact ⟨b, off, cap, h1, h2, ⟨h3, h4⟩, h4, fun i ws hi => by
      obtain ⟨u, h6, h7⟩ := h5 i ws hi
      exact ⟨u, h6, h7.move (Nat.le_refl _) fun k hk hlt => ⟨⟨hk, hlt⟩, rfl⟩⟩⟩) (fun k hk => hk.2) (Nat.zero_le _) (Nat.zero_le _))
  clear hrw hb1 HRW HLS
  obtain ⟨vb, vo, vc, rfl⟩ := HV.out
  have e0 : ((0 : Nat) : Int) = 0 := rfl
  rw [List.length_map, e0] at HCA
  clear e0
  go_simp
  go_wp2_with fail
  refine HCA.out.mono ?_
  cases RB with
  | bad k =>
    have HP : Hid (P = ([], k)) := HPR.out
    have hk0 : (0 : Int) < (k : Int) := by have := HBB.out k rfl; omega
    rintro e w2 ⟨hres, hb2⟩
    have HB2 := hid (HB1.out.trans (hb2.mono HB1.out.size))
    clear hb2 HB1 HBB HPR HCA HV
    rcases hres with rfl | ⟨h, _⟩
    · have HZ : Hid ((w2.alloc (rO nilS (i64 0) (i64 0) (i64 (k : Nat)))).heap[w2.heap.size]? = some (rO nilS (i64 0) (i64 0) (i64 (k : Nat)))) := heap_last w2 _
      have HB3 := hid (HB2.out.trans ((below_one w2 (rO nilS (i64 0) (i64 0) (i64 (k : Nat)))).mono HB2.out.size))
      clear HB2
      go_upto_region 2 with fail
      obtain ⟨Z, hZ⟩ : ∃ Z, Z = w2.heap.size := ⟨_, rfl⟩
      rw [← hZ] at HZ
      rw [← hZ]
      clear hZ
      generalize w2.alloc (rO nilS (i64 0) (i64 0) (i64 (k : Nat))) = W3 at *
      obtain ⟨z0, z1, z2, z3, _, _, _, _⟩ := lfs HZ.out
      go_wp2_with fail
      go_quiet (fail)
      go_wp2_with fail
      go_ret2
      rw [HP.out]
      exact ⟨⟨none, 0, rfl, Sds.nil _ _⟩, ⟨HB3.out.os, HB3.out.tape, HB3.out.output, HB3.out.size, HB3.out.block⟩⟩
    · exact absurd h (by omega)
  | ok l rest n cnt =>
    have HP : Hid (P = (l, 0)) := HPR.out
    rintro e w2 ⟨⟨a, c, m, _, rfl, hs⟩, hb2⟩
    have HB2 := hid (HB1.out.trans (hb2.mono HB1.out.size))
    have HS2 : Hid (Sds w2 (fun k => w.heap.size ≤ k) l (.slice a l.length c)) := hs.mono fun b hb _ => by
      have := HB1.out.size
      rcases hb with hb | hb
      · exact hb.1
      · omega
    clear hs hb2 HB1 HBB HPR HCA HV
    have HZ : Hid ((w2.alloc (rO (.slice a l.length c) (i64 (m : Nat)) (i64 (cnt : Nat)) (i64 0))).heap[w2.heap.size]? = some (rO (.slice a l.length c) (i64 (m : Nat)) (i64 (cnt : Nat)) (i64 0))) := heap_last w2 _
    have HB3 := hid (HB2.out.trans ((below_one w2 (rO (.slice a l.length c) (i64 (m : Nat)) (i64 (cnt : Nat)) (i64 0))).mono HB2.out.size))
    have HS3 := hid (HS2.out.under (below_one w2 (rO (.slice a l.length c) (i64 (m : Nat)) (i64 (cnt : Nat)) (i64 0))))
    clear HB2 HS2
    go_upto_region 2 with fail
    obtain ⟨Z, hZ⟩ : ∃ Z, Z = w2.heap.size := ⟨_, rfl⟩
    rw [← hZ] at HZ
    rw [← hZ]
    clear hZ
    generalize w2.alloc (rO (.slice a l.length c) (i64 (m : Nat)) (i64 (cnt : Nat)) (i64 0)) = W3 at *
    obtain ⟨z0, z1, z2, z3, _, _, _, _⟩ := lfs HZ.out
    go_wp2_with fail
    go_ret2
    rw [HP.out]
    exact ⟨⟨a, c, rfl, HS3.out⟩, HB3.out⟩
theorem bad_eq (n : Nat) : ((n : Int) == (n : Int)) = true := by simp
set_option maxHeartbeats 6400000 in
theorem parses_core (s : ByteArray) (w : World) (he : Env w) : Calls Tryz.prog 3 #[.string s] w fun e w' => e = .returned (.bool true) ∧ Below w.heap.size w w' := by
  have HEA : Hid (∀ w', Below w.heap.size w w' → Calls Tryz.prog 8 #[] w' fun e w'' => e = .returned (.bool true) ∧ Below w'.heap.size w' w'') := fun w' hb => each_ok w' (he.below hb)
  have HE := hid he
  clear he
  by_cases h1 : 2500 < s.size
  · go_enter Tryz.func3, Tryz.ntmps3
    go_wp2_with fail
    refine (HEA.out w (Below.refl _ _)).mono ?_
    rintro e w1 ⟨rfl, hb1⟩
    go_wp2_with fail
    go_ret
    exact ⟨rfl, hb1⟩
  have hsl : s.data.toList.length = s.size := Array.length_toList
  have HPA : Hid (Calls Tryz.prog 9 #[.string s] w fun e w' => (∃ a c, e = .returned (.tuple #[.slice a (parseR s.data.toList).1.length c, i64 ((parseR s.data.toList).2 : Nat)]) ∧ Sds w' (fun k => w.heap.size ≤ k) (parseR s.data.toList).1 (.slice a (parseR s.data.toList).1.length c)) ∧ Below w.heap.size w w') := lparse_ok s.data.toList w HE.out (by omega)
  have HPC : Hid (∀ w', Calls Tryz.prog 10 #[.string s] w' fun e w'' => (∃ a c, e = .returned (.tuple #[.slice a (parseR s.data.toList).1.length c, i64 ((parseR s.data.toList).2 : Nat)]) ∧ Sds w'' (fun k => w'.heap.size ≤ k) (parseR s.data.toList).1 (.slice a (parseR s.data.toList).1.length c)) ∧ Below w'.heap.size w' w'') := fun w' => qparse_ok s.data.toList w' (by omega)
  have hcn := parse_cnt s.data.toList
  have hty := parse_ty s.data.toList
  have HCN : Hid (cntL (parseR s.data.toList).1 ≤ 10000) := by show _ ≤ _; omega
  have HTY := hid hty
  clear hsl hcn hty
  generalize parseR s.data.toList = X at *
  obtain ⟨z, k⟩ := X
  simp only at HPA HPC HCN HTY
  have hbe := bad_eq k
  go_enter Tryz.func3, Tryz.ntmps3
  go_wp2_with fail
  refine HPA.out.mono ?_
  rintro e w1 ⟨⟨ax, cx, rfl, hsx⟩, hbx⟩
  have HB1 := hid hbx
  have HSX : Hid (Sds w1 (fun _ => True) z (.slice ax z.length cx)) := hsx.mono fun _ _ _ => trivial
  clear hsx hbx HPA
  go_wp2_with fail
  refine (HPC.out w1).mono ?_
  rintro e w2 ⟨⟨az, cz, rfl, hsz⟩, hbz⟩
  have HB2 : Hid (Below w.heap.size w w2) := HB1.out.trans (hbz.mono HB1.out.size)
  have HSX2 := hid (HSX.out.under hbz)
  have HSZ : Hid (Sds w2 (fun _ => True) z (.slice az z.length cz)) := hsz.mono fun _ _ _ => trivial
  clear hsz hbz HPC HB1 HSX
  have HR1 : Hid (Calls Tryz.prog 12 #[.slice ax z.length cx] w2 fun e w' => ∃ a c, e = .returned (.slice a z.length c) ∧ Below w2.heap.size w2 w' ∧ Sds w' (fun _ => True) z (.slice a z.length c)) := lref_ok z w2 _ HSX2.out HCN.out HTY.out
  go_wp2_with fail
  refine HR1.out.mono ?_
  rintro e w3 ⟨ar, cr, rfl, hb3, hs3⟩
  have HB3 : Hid (Below w.heap.size w w3) := HB2.out.trans (hb3.mono HB2.out.size)
  have HS3 := hid hs3
  have HSM := hid (lsame_ok z w3 _ _ HS3.out (HSZ.out.under hb3))
  clear hb3 hs3 HR1 HSZ HSX2 HB2 HS3
  go_simp
  go_wp2_with fail
  refine HSM.out.mono ?_
  rintro e w5 ⟨rfl, hb5⟩
  have HB5 : Hid (Below w.heap.size w w5) := HB3.out.trans (hb5.mono HB3.out.size)
  clear hb5 HSM HB3
  go_simp
  go_wp2_with fail
  refine (HEA.out w5 HB5.out).mono ?_
  rintro e w6 ⟨rfl, hb6⟩
  have HB6 : Hid (Below w.heap.size w w6) := HB5.out.trans (hb6.mono HB5.out.size)
  clear hb6
  go_simp
  go_wp2_with fail
  go_ret
  exact ⟨rfl, HB6.out⟩
end Go.Proofs.YtjppcfjjpkniaaaGreatDoor
