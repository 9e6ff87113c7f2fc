/- The document: Protect, Drop, All; no statement is proved in this text. -/
import Derived.Test.YtlkcpjefgelcoaaRc
namespace Go.Proofs.Ytlkcpjefgelcoaa
open Go.ChangeShapes Go.WideShapes Go.ChangeAt Go.RowKit Go.Deep
attribute [local go_sem ↓] Go.wp_at_zero Go.wp_at_succ

set_option maxRecDepth 100000 in
set_option maxHeartbeats 800000 in
theorem rprot_no {w : World} {base r : Nat} {L : List Sp} (p f o : Int) (h : Rt w base r L) (hl : L.length ≤ 1000) (hf : L.find? (beg p f) = none) : Calls Try.prog 34 #[pq r, i64 p, i64 f, i64 o] w fun e w' => e = .returned (i64 6) ∧ Below w.heap.size w w' := by
  have HC := hid (rat_none p f h hl hf)
  clear h hf
  go_enter Try.func34, Try.ntmps34
  go_wp2_with fail
  refine HC.out.mono ?_
  rintro e2 w2 ⟨rfl, hb2⟩
  have HB2 := hid hb2
  clear HC hb2
  go_wp2_with fail
  go_ret
  exact ⟨rfl, HB2.out⟩
set_option maxRecDepth 100000 in
set_option maxHeartbeats 800000 in
theorem rprot_arg {w : World} {base r : Nat} {L : List Sp} (p f o : Int) (s : Sp) (h : Rt w base r L) (hl : L.length ≤ 1000) (hf : L.find? (beg p f) = some s) (ho : ¬(o = 1 ∨ o = 3)) : Calls Try.prog 34 #[pq r, i64 p, i64 f, i64 o] w fun e w' => e = .returned (i64 1) ∧ Below w.heap.size w w' := by
  obtain ⟨K, hK, hq, hj⟩ := find_at hf
  have HC := hid (rat_some p f K s h hl hK hq hj)
  have q1 : (o != 1) = true := by rw [bne, beq_false_of_ne (fun e => ho (.inl e))]; rfl
  have q3 : (o != 3) = true := by rw [bne, beq_false_of_ne (fun e => ho (.inr e))]; rfl
  clear h hf hK hq hj ho
  go_enter Try.func34, Try.ntmps34
  go_wp2_with fail
  refine HC.out.mono ?_
  rintro e2 w2 ⟨rfl, hb2⟩
  have HB2 := hid hb2
  clear HC hb2
  go_wp2_with fail
  go_ret
  exact ⟨rfl, HB2.out⟩
theorem setP_at {L : List Sp} (hG : GS L) {p f : Int} {s : Sp} {K : Nat} (hK : L[K]? = some s) (hq : beg p f s = true) (o : Int) : L.map (setP p f o) = L.set K (s.1, s.2.1, s.2.2.1, o) := by
  have hs := List.mem_of_getElem? hK
  apply List.ext_getElem?
  intro i
  rw [List.getElem?_map, List.getElem?_set]
  have hKL := (List.getElem?_eq_some_iff.1 hK).1
  by_cases hi : K = i
  · subst hi
    rw [if_pos rfl, if_pos hKL, hK]
    show some (setP p f o s) = _
    unfold setP
    rw [if_pos hq]
  · rw [if_neg hi]
    cases hx : L[i]? with
    | none => rfl
    | some x =>
      show some (setP p f o x) = some x
      unfold setP
      by_cases hb : beg p f x = true
      · exfalso
        have hxm := List.mem_of_getElem? hx
        have hpw := hG.good.pw
        have e := hG.one hs hxm (hG.begs hs hq) (hG.begs hxm hb)
        subst e
        -- two places of one span would meet
        have hiL := (List.getElem?_eq_some_iff.1 hx).1
        have h1 := hG.isA hs
        have hm : meetF (ar s) (ar s) = true := meetF_iff.2 ⟨rfl, by show s.2.1 < s.2.1 + s.2.2.1; omega, by show s.2.1 < s.2.1 + s.2.2.1; omega⟩
        rw [List.pairwise_iff_getElem] at hpw
        rcases Nat.lt_or_gt_of_ne hi with hlt | hgt
        · have := hpw K i (by simpa using hKL) (by simpa using hiL) hlt
          simp only [List.getElem_map, (List.getElem?_eq_some_iff.1 hK).2, (List.getElem?_eq_some_iff.1 hx).2] at this
          rw [hm] at this; cases this
        · have := hpw i K (by simpa using hiL) (by simpa using hKL) hgt
          simp only [List.getElem_map, (List.getElem?_eq_some_iff.1 hK).2, (List.getElem?_eq_some_iff.1 hx).2] at this
          rw [hm] at this; cases this
      · rw [if_neg hb]
theorem scn_setK {L : List Sp} {K : Nat} {s : Sp} (hK : L[K]? = some s) (o : Int) : (scn L).set (K * 4 + 3) (i64 o) = scn (L.set K (s.1, s.2.1, s.2.2.1, o)) := by
  obtain ⟨hKL, hKs⟩ := List.getElem?_eq_some_iff.1 hK
  have e1 : L = L.take K ++ s :: L.drop (K + 1) := by rw [← hKs, List.getElem_cons_drop, List.take_append_drop]
  have hlen : (L.take K).length = K := by rw [List.length_take]; omega
  have e2 : L.set K (s.1, s.2.1, s.2.2.1, o) = L.take K ++ (s.1, s.2.1, s.2.2.1, o) :: L.drop (K + 1) := List.set_eq_take_append_cons_drop.trans (by rw [if_pos hKL])
  have e3 := scn_set (L.take K) s (L.drop (K + 1)) 3 (by omega) (i64 o)
  rw [hlen, ← e1] at e3
  rw [e3, e2, scn_app]
  show _ = scn (L.take K) ++ (sC (s.1, s.2.1, s.2.2.1, o) ++ scn (L.drop (K + 1)))
  rw [List.append_assoc]
  rfl
set_option maxRecDepth 100000 in
set_option maxHeartbeats 800000 in
theorem rprot_yes {w : World} {base r : Nat} {L : List Sp} (p f o : Int) (s : Sp) (h : Rt w base r L) (hG : GS L) (hf : L.find? (beg p f) = some s) (ho : o = 1 ∨ o = 3) : Calls Try.prog 34 #[pq r, i64 p, i64 f, i64 o] w fun e w' => e = .returned (i64 0) ∧ Rt w' base r (L.map (setP p f o)) ∧ Fr base [29, 58] w w' := by
  have hl : L.length ≤ 1000 := by have := hG.len; omega
  obtain ⟨K, hK, hq, hj⟩ := find_at hf
  have HC := hid (rat_some p f K s h hl hK hq hj)
  have hKL := (List.getElem?_eq_some_iff.1 hK).1
  have HSP := hid (setP_at hG hK hq o)
  have HSC := hid (scn_setK hK o)
  have HK := hid hK
  have HR := hid h
  have hlob := h.lob
  clear h hf hK hq hj
  go_enter Try.func34, Try.ntmps34
  go_wp2_with fail
  refine HC.out.mono ?_
  rintro e2 w2 ⟨rfl, hb2⟩
  have HB2 := hid hb2
  obtain ⟨hlo, ao, cap, hbk, hown⟩ := HR.out.below hb2
  have hcap := own_cap4 hown
  have r0 : w2.cell? ⟨r, 0, none⟩ = some (.slice ao L.length cap) := blk_cell hbk 0
  have hrl := blk_lt hbk
  obtain ⟨g, rfl, hbg, cur, hgg, _⟩ := own_zero4 hown (by omega)
  have hgl := blk_lt hgg
  have c3 : w2.cell? ⟨g, K * 4 + 3, none⟩ = some (i64 s.2.2.2) := by
    rw [hown.cellAt _ (by omega)]
    exact (scn_get L K s HK.out).2.2.2
  have z3 : w2.frozen? ⟨g, K * 4 + 3, none⟩ = false := blk_frozen hgg _
  have hne : g ≠ r := fun e => by rw [e, hbk] at hgg; cases hgg
  have HE : Hid (Rt (w2.setCell ⟨g, K * 4 + 3, none⟩ (i64 o)) base r (L.map (setP p f o))) := by
    have h1 := own_setg hown (i := K * 4 + 3) (i64 o)
    rw [HSC.out, ← HSP.out] at h1
    refine ⟨hlo, some ⟨g, 0, none⟩, cap, ?_, ?_⟩
    · rw [List.length_map]
      exact (Below.heap_setCell _ _ _ _ (by exact fun e => hne e.symm)).trans hbk
    · rw [List.length_map]; exact h1
  have HF : Hid (Fr base [29, 58] w (w2.setCell ⟨g, K * 4 + 3, none⟩ (i64 o))) := (Fr.of_below _ hb2 hlob).trans (Fr.of_touch ((Touch.refl g w2).setCell rfl _) hgg rfl hbg)
  have hKI : (K : Int) < L.length := by omega
  clear HC hb2 hbk hown hgg
  generalize L.length = N at *
  rcases ho with rfl | rfl
  all_goals
    go_wp2_with fail
    go_ret
    exact ⟨rfl, HE.out, HF.out⟩
end Go.Proofs.Ytlkcpjefgelcoaa
