/- The document: Unmap, Drop; no statement is proved in this text. -/
import Derived.Test.YtlkcpjefgelcoaaRd
namespace Go.Proofs.Ytlkcpjefgelcoaa
open Go.ChangeShapes Go.WideShapes Go.ChangeAt Go.RowKit Go.Deep
attribute [local go_sem ↓] Go.wp_at_zero Go.wp_at_succ

theorem rappS {V : World} {base : Nat} {v : Value} {L1 : List Sp} (ho : V.ownsRow base 58 4 v L1.length (scn L1)) (L2 : List Sp) (ad : Addr) (c : Nat) (hnews : ∀ j u, (scn L2)[j]? = some u → V.cell? (ad.add j) = some u) (hl : L1.length + L2.length ≤ 1000) (hB : base ≤ V.heap.size) :
    ∃ v' w', (Builtin.append_ #[27, 27] 27 #[v, .slice (some ad) L2.length c]).run Try.prog V = .ok v' w' ∧ w'.ownsRow base 58 4 v' (L1 ++ L2).length (scn (L1 ++ L2)) ∧ Fr base [58] V w' ∧ (v.ownBlock = none → Below V.heap.size V w') := by
  obtain ⟨i, hi, hz, hs, hby⟩ := info_parts iD
  have hmul : (L1.length + L2.length) * 32 ≤ 140737488355328 := Nat.le_trans (Nat.mul_le_mul hl (Nat.le_refl 32)) (by decide)
  obtain ⟨v', w', hr, h2, h3, _, _⟩ := run_append_own_at (P := Try.prog) V base 27 27 58 i (sv (0, 0, 0, 0)) 4 32 uD hi hz hs hby rfl (by omega) v L1.length (scn L1) ho ad L2.length c (scn L2) (scn_len L2) hnews (scn_one' L2) (by unfold maxLen; omega) hmul hB
  rw [← scn_app, ← List.length_append] at h2
  refine ⟨v', w', hr, h2, ⟨⟨h3.os, h3.tape, h3.output, h3.size, fun k hk => h3.block k (by omega) (fun e => by have := (ho.lt k e.symm).1; omega)⟩, fun k o hk hko => ?_⟩, fun hn => ⟨h3.os, h3.tape, h3.output, h3.size, fun k hk => h3.block k hk (by rw [hn]; simp)⟩⟩
  rw [h3.block k (blk_lt hk) (fun e => ?_)]
  · exact hk
  · rcases ho.2 with ⟨rfl, _⟩ | ⟨g, cap, cur, rfl, _, hgg, _⟩
    · simp [Value.ownBlock] at e
    · simp [Value.ownBlock] at e
      subst e
      rw [hgg] at hk
      cases hk
      simp [keeps] at hko
theorem scn_pre (L : List Sp) (k : Nat) : ∀ (j : Nat) u, (scn (L.take k))[j]? = some u → (scn L)[j]? = some u := fun j u hu => by
  have : scn L = scn (L.take k) ++ scn (L.drop k) := by rw [← scn_app, List.take_append_drop]
  rw [this, List.getElem?_append_left (List.getElem?_eq_some_iff.1 hu).1]
  exact hu
theorem scn_suf (L : List Sp) (k : Nat) (hk : k ≤ L.length) : ∀ (j : Nat) u, (scn (L.drop k))[j]? = some u → (scn L)[k * 4 + j]? = some u := fun j u hu => by
  have : scn L = scn (L.take k) ++ scn (L.drop k) := by rw [← scn_app, List.take_append_drop]
  have hl : (scn (L.take k)).length = k * 4 := by rw [scn_len, List.length_take, Nat.min_eq_left hk]
  rw [this, List.getElem?_append_right (by omega), hl, Nat.add_sub_cancel_left]
  exact hu
/-- What is left when the span that begins at a page is cut out. -/
theorem filter_at {L : List Sp} (hG : GS L) {p f : Int} {s : Sp} {K : Nat} (hK : L[K]? = some s) (hq : beg p f s = true) : L.filter (keepF p f) = L.take K ++ L.drop (K + 1) := by
  obtain ⟨hKL, hKs⟩ := List.getElem?_eq_some_iff.1 hK
  have e1 : L = L.take K ++ s :: L.drop (K + 1) := by rw [← hKs, List.getElem_cons_drop, List.take_append_drop]
  have hs := List.mem_of_getElem? hK
  have hpw := hG.good.pw
  rw [List.pairwise_iff_getElem] at hpw
  have h1 := hG.isA hs
  have hm : meetF (ar s) (ar s) = true := meetF_iff.2 ⟨rfl, by show s.2.1 < s.2.1 + s.2.2.1; omega, by show s.2.1 < s.2.1 + s.2.2.1; omega⟩
  have key : ∀ (i : Nat) (x : Sp), L[i]? = some x → i ≠ K → keepF p f x = true := fun i x hx hi => by
    cases hb : beg p f x
    · simp [keepF, hb]
    · exfalso
      have e := hG.one hs (List.mem_of_getElem? hx) (hG.begs hs hq) (hG.begs (List.mem_of_getElem? hx) hb)
      subst e
      have hiL := (List.getElem?_eq_some_iff.1 hx).1
      rcases Nat.lt_or_gt_of_ne hi with hlt | hgt
      · have := hpw i K (by simpa using hiL) (by simpa using hKL) hlt
        simp only [List.getElem_map, (List.getElem?_eq_some_iff.1 hK).2, (List.getElem?_eq_some_iff.1 hx).2] at this
        rw [hm] at this; cases this
      · have := hpw K i (by simpa using hKL) (by simpa using hiL) hgt
        simp only [List.getElem_map, (List.getElem?_eq_some_iff.1 hK).2, (List.getElem?_eq_some_iff.1 hx).2] at this
        rw [hm] at this; cases this
  have k1 : (L.take K).filter (keepF p f) = L.take K := List.filter_eq_self.2 fun x hx => by
    obtain ⟨i, hi, rfl⟩ := List.mem_iff_getElem.1 hx
    have hi' : i < K ∧ i < L.length := by simp only [List.length_take] at hi; omega
    exact key i _ (by rw [List.getElem_take]; exact List.getElem?_eq_getElem hi'.2) (by omega)
  have k2 : (L.drop (K + 1)).filter (keepF p f) = L.drop (K + 1) := List.filter_eq_self.2 fun x hx => by
    obtain ⟨i, hi, rfl⟩ := List.mem_iff_getElem.1 hx
    have hi' : i < L.length - (K + 1) := by simpa using hi
    exact key (K + 1 + i) _ (by rw [List.getElem_drop]; exact List.getElem?_eq_getElem (by omega)) (by omega)
  have k3 : keepF p f s = false := by simp [keepF, hq]
  conv => lhs; rw [e1]
  rw [List.filter_append, List.filter_cons, k1, k2, k3]
  rfl
set_option maxRecDepth 100000 in
set_option maxHeartbeats 800000 in
theorem rsun_no {w : World} {base r : Nat} {L : List Sp} (p f : Int) (h : Rt w base r L) (hl : L.length ≤ 1000) (hf : L.find? (beg p f) = none) : Calls Try.prog 33 #[pq r, i64 p, i64 f] w fun e w' => e = .returned (.tuple #[i64 0, i64 6]) ∧ Below w.heap.size w w' := by
  have HC := hid (rat_none p f h hl hf)
  clear h hl hf
  go_enter Try.func33, Try.ntmps33
  go_wp2_with fail
  refine HC.out.mono ?_
  rintro e2 w2 ⟨rfl, hb2⟩
  have HB2 := hid hb2
  clear HC hb2
  go_wp2_with fail
  go_ret2
  exact ⟨rfl, HB2.out⟩
set_option maxRecDepth 100000 in
set_option maxHeartbeats 2000000 in
theorem rsun_yes {w : World} {base r : Nat} {L : List Sp} (p f : Int) (s : Sp) (h : Rt w base r L) (hG : GS L) (hf : L.find? (beg p f) = some s) : Calls Try.prog 33 #[pq r, i64 p, i64 f] w fun e w' => e = .returned (.tuple #[i64 s.2.2.1, i64 0]) ∧ Rt w' base r (L.filter (keepF p f)) ∧ Fr base [29, 58] w w' := by
  have hl : L.length ≤ 24 := hG.len
  obtain ⟨k, hK, hq, hj⟩ := find_at hf
  have HC := hid (rat_some p f k s h (by omega) hK hq hj)
  have HFL := hid (filter_at hG hK hq)
  have hkL := (List.getElem?_eq_some_iff.1 hK).1
  have HKs := hid hK
  have HR := hid h
  have hlo : base ≤ w.heap.size := h.lob
  have hrl := h.lt
  clear h hG hf hK hq hj
  go_enter Try.func33, Try.ntmps33
  go_wp2_with fail
  refine HC.out.mono ?_
  rintro e w1 ⟨rfl, hb1⟩
  obtain ⟨hlr, ao, cap, hbk, hown⟩ := HR.out.below hb1
  have hcap := own_cap4 hown
  obtain ⟨g, rfl, hbg, cur, hgg, _⟩ := own_zero4 hown (by omega)
  have hgl := blk_lt hgg
  have hs1 := hb1.size
  have hadd : ∀ o j, (⟨g, o, none⟩ : Addr).add j = ⟨g, o + j, none⟩ := fun o j => Addr.add_mid g o j
  have hcells : ∀ (j : Nat) u, (scn L)[j]? = some u → w1.cell? ⟨g, j, none⟩ = some u := fun j u hu => by
    have := hown.cells (g := g) rfl j u hu
    rw [hadd, Nat.zero_add] at this
    exact this
  obtain ⟨v2, w2, hrun1, hown2, hfr2, hbel2⟩ := rappS (V := w1) (base := base) (v := .slice none 0 0) (L1 := []) (World.ownsRow_nil w1 base 58 4) (L.take k) ⟨g, 0, none⟩ cap (fun j u hu => by rw [hadd, Nat.zero_add]; exact hcells j u (scn_pre L k j u hu)) (by simp; omega) (by omega)
  have hb2 := hbel2 rfl
  have hs2 := hb2.size
  have hlt : (L.take k).length = k := by rw [List.length_take]; omega
  have hld : (L.drop (k + 1)).length = L.length - (k + 1) := List.length_drop
  simp only [List.nil_append] at hown2
  obtain ⟨o2, c2, hsl⟩ : ∃ o2 c2, (cap = k + 1 ∧ o2 = 0 ∧ c2 = 0) ∨ (¬ cap = k + 1 ∧ o2 = (k + 1) * 4 ∧ c2 = cap - (k + 1)) := by
    by_cases hc : cap = k + 1
    · exact ⟨0, 0, Or.inl ⟨hc, rfl, rfl⟩⟩
    · exact ⟨_, _, Or.inr ⟨hc, rfl, rfl⟩⟩
  obtain ⟨v3, w3, hrun2, hown3, hfr3, _⟩ := rappS hown2 (L.drop (k + 1)) ⟨g, o2, none⟩ c2 (fun j u hu => by
    rcases hsl with ⟨hc, rfl, _⟩ | ⟨_, rfl, _⟩
    · rw [List.drop_eq_nil_of_le (by omega)] at hu
      simp [scn] at hu
    · rw [hadd, hb2.cell (by exact hgl)]; exact hcells _ u (scn_suf L (k + 1) (by omega) j u hu)) (by rw [hlt, hld]; omega) (by omega)
  obtain ⟨ao3, cap3, rfl, _⟩ := own_slice hown3
  rw [hlt] at hrun1
  rw [hld] at hrun2
  obtain ⟨M, hM⟩ : ∃ M, (L.take k ++ L.drop (k + 1)).length = M := ⟨_, rfl⟩
  rw [hM] at hrun2
  rw [hM] at hown3
  have hbk3 : w3.heap[r]? = some (.cells #[.slice (some ⟨g, 0, none⟩) L.length cap] 29) := hfr3.kept _ _ (blk_below hbk hb2) (by rfl)
  have b1 : w1.cell? ⟨r, 0, none⟩ = some (.slice (some ⟨g, 0, none⟩) L.length cap) := blk_cell hbk 0
  have b2 : w2.cell? ⟨r, 0, none⟩ = some (.slice (some ⟨g, 0, none⟩) L.length cap) := blk_cell (blk_below hbk hb2) 0
  have b3 : w3.cell? ⟨r, 0, none⟩ = some (.slice (some ⟨g, 0, none⟩) L.length cap) := blk_cell hbk3 0
  have f3 : w3.frozen? ⟨r, 0, none⟩ = false := blk_frozen hbk3 0
  have n2 : w1.cell? ⟨g, k * 4 + 2, none⟩ = some (i64 s.2.2.1) := hcells _ _ (scn_get L k s HKs.out).2.2.1
  have HR1 : Hid ((Builtin.append_ #[27, 27] 27 #[.slice none 0 0, .slice (some ⟨g, 0, none⟩) k cap]).run Try.prog w1 = .ok v2 w2) := hrun1
  have HR2 : Hid ((Builtin.append_ #[27, 27] 27 #[v2, .slice (some ⟨g, o2, none⟩) (L.length - (k + 1)) c2]).run Try.prog w2 = .ok (.slice ao3 M cap3) w3) := hrun2
  have HE : Hid (Rt (w3.setCell ⟨r, 0, none⟩ (.slice ao3 M cap3)) base r (L.filter (keepF p f))) := set_rt hlr hbk3 (by rw [HFL.out, hM]) (by rw [HFL.out]; exact hown3)
  have HF3 : Hid (Fr base [29, 58] w (w3.setCell ⟨r, 0, none⟩ (.slice ao3 M cap3))) := (((Fr.of_below [29, 58] hb1 hlo).trans (Fr.of_below [29, 58] hb2 (by omega))).trans (fr_58 hfr3)).trans (set_frt hlr hbk3 _)
  have hr3 := blk_lt hbk3
  have hcI : ((k : Int) + 1 ≤ cap) := by omega
  have hNI : ((k : Int) + 1 ≤ L.length) := by omega
  have hNc : ((L.length : Int) ≤ cap) := by omega
  have h3I : ((L.length : Int) ≤ 24) := by omega
  clear hb1 hbk hown hcells hrun1 hown2 hfr2 hbel2 hb2 hrun2 hown3 hM hfr3 hbk3 hadd hlt hld hgg HC
  generalize L.length = N at *
  rcases hsl with ⟨hc, rfl, rfl⟩ | ⟨hc, rfl, rfl⟩
  all_goals
    go_wp2_with (at_builtin; first | refine wpList_app_run rfl (.tmp 25) (.tmp 31) 27 rfl _ _ rfl rfl 27 rfl _ _ HR1.out ?_ | refine wpList_app_run rfl (.tmp 33) (.tmp 40) 27 rfl _ _ rfl rfl 27 rfl _ _ HR2.out ?_)
    go_ret2
    exact ⟨rfl, HE.out, HF3.out⟩
theorem keep_all {L : List Sp} {p f : Int} (hf : L.find? (beg p f) = none) : L.filter (keepF p f) = L := List.filter_eq_self.2 fun s hs => by
  have := List.find?_eq_none.1 hf s hs
  simp [keepF, this]
def cntS (L : List Sp) (p : Int) : Nat := (L.filter (pidF p)).length
theorem GS.cntS {L : List Sp} (h : GS L) (p : Int) : (Ytlkcpjefgelcoaa.ofL L p).length = Ytlkcpjefgelcoaa.cntS L p := by
  rw [h.cnt]
  show ((L.map ar).filter (ofF p)).length = _
  rw [← filter_ar L (ofF p), List.length_map]
  rfl
theorem cnt_drpS (L : List Sp) (p : Int) : L.length = cntS L p + (dropS L p).length := by
  induction L with
  | nil => rfl
  | cons a l ih =>
    cases h : pidF p a
    · have e1 : cntS (a :: l) p = cntS l p := by simp [cntS, h]
      have e2 : dropS (a :: l) p = a :: dropS l p := by simp [dropS, h]
      rw [e1, e2, List.length_cons, List.length_cons, ih]
      omega
    · have e1 : cntS (a :: l) p = cntS l p + 1 := by simp [cntS, h]
      have e2 : dropS (a :: l) p = dropS l p := by simp [dropS, h]
      rw [e1, e2, List.length_cons, ih]
      omega
theorem flS_yes {f : Sp → Bool} {L : List Sp} {k : Nat} {e : Sp} (h : L[k]? = some e) (hf : f e = true) : (L.take (k + 1)).filter f = (L.take k).filter f ++ [e] := by
  obtain ⟨hk, rfl⟩ := List.getElem?_eq_some_iff.1 h
  rw [← List.take_append_getElem hk, List.filter_append]
  simp [hf]
theorem flS_no {f : Sp → Bool} {L : List Sp} {k : Nat} {e : Sp} (h : L[k]? = some e) (hf : f e = false) : (L.take (k + 1)).filter f = (L.take k).filter f := by
  obtain ⟨hk, rfl⟩ := List.getElem?_eq_some_iff.1 h
  rw [← List.take_append_getElem hk, List.filter_append]
  simp [hf]
set_option maxRecDepth 100000 in
set_option maxHeartbeats 3200000 in
theorem rsdrop_ok {w : World} {base r : Nat} {L : List Sp} (h : Rt w base r L) (hl : L.length ≤ 1000) (p : Int) : Calls Try.prog 36 #[pq r, i64 p] w fun e w' => e = .returned (i64 (cntS L p)) ∧ Rt w' base r (dropS L p) ∧ Fr base [29, 58] w w' := by
  have HR := hid h
  have hbw := h.lob
  obtain ⟨hlo, ao, cap, hbk, hown⟩ := h
  have hcap := own_cap4 hown
  have HRd0 : Hid (Rd4 w ao L) := Rd4.own hown
  have b0 : w.cell? ⟨r, 0, none⟩ = some (.slice ao L.length cap) := blk_cell hbk 0
  obtain ⟨N, hN⟩ : ∃ N, N = L.length := ⟨_, rfl⟩
  have HN : Hid (N = L.length) := hN
  rw [← hN] at b0 hl hcap
  clear hN
  have HBk := hid hbk
  clear hbk hown
  obtain ⟨C, hC⟩ : ∃ C, C = cntS L p := ⟨_, rfl⟩
  have HC := hid hC
  rw [← hC]
  clear hC
  go_enter Try.func36, Try.ntmps36
  go_wp2_with fail
  go_loopw [5, 14] (fun v i wr => ∃ (k n : Nat) (ao2 : Option Addr) (cap2 : Nat), k ≤ N ∧ n ≤ k ∧ i = i64 k ∧ v = .slice ao2 n cap2 ∧ Hid (n = ((L.take k).filter (fun a => !pidF p a)).length ∧ wr.ownsRow w.heap.size 58 4 (.slice ao2 n cap2) n (scn ((L.take k).filter (fun a => !pidF p a)))) ∧ Hid (Below w.heap.size w wr)) (fun _ i _ => N - (intOf i).toNat)
  case atStart => exact ⟨0, 0, none, 0, by omega, by omega, rfl, rfl, ⟨rfl, World.ownsRow_nil _ _ _ _⟩, Below.refl _ _⟩
  case round =>
    obtain ⟨k, n, ao2, cap2, hk, hn, rfl, rfl, HO, HB⟩ := hrel
    by_cases hlt : k < N
    · have hkI : (k : Int) < N := by omega
      obtain ⟨e, he⟩ : ∃ e, L[k]? = some e := ⟨_, List.getElem?_eq_getElem (by rw [← HN.out]; exact hlt)⟩
      obtain ⟨g0, o, rfl, hgl, c0, c1, c2, c3⟩ := HRd0.out.below HB.out k e he
      have HBV : Hid (Below w.heap.size w (wr.alloc (sO e 58))) := HB.out.alloc HB.out.size _
      have HEe := hid he
      clear he
      by_cases h1 : e.1 = p
      · have q1 : (e.1 != p) = false := by rw [bne, beq_iff_eq.2 h1]; rfl
        have hfe : (fun a => !pidF p a) e = false := by simp [pidF, h1]
        clear h1
        have HE : Hid (n = ((L.take (k + 1)).filter (fun a => !pidF p a)).length ∧ (wr.alloc (sO e 58)).ownsRow w.heap.size 58 4 (.slice ao2 n cap2) n (scn ((L.take (k + 1)).filter (fun a => !pidF p a)))) := by
          rw [flS_no HEe.out hfe]
          exact ⟨HO.out.1, HO.out.2.alloc _⟩
        clear hfe
        go_wp2_with fail
        exact ⟨⟨k + 1, n, ao2, cap2, by omega, by omega, by go_num, rfl, HE, HBV⟩, by simp [intOf]; omega⟩
      · have q1 : (e.1 != p) = true := by rw [bne, beq_false_of_ne h1]; rfl
        have hfe : (fun a => !pidF p a) e = true := by simp [pidF, h1]
        clear h1
        obtain ⟨ao3, cap3, w3, hrun, hown3, hfr3, _, _⟩ := app_far (te := 58) uD iD rfl (by omega) (by omega) (V := wr.alloc (sO e 58)) (HO.out.2.alloc _) (sC e) rfl (sC_one _) (by omega) HBV.out.size
        have e1 : (wr.alloc (sO e 58)).heap.size = wr.heap.size + 1 := by simp
        rw [e1] at hrun
        have HRun : Hid ((Builtin.append_ #[27, 27] 27 #[.slice ao2 n cap2, .slice (some ⟨wr.heap.size + 1, 0, none⟩) 1 1]).run Try.prog ((wr.alloc (sO e 58)).alloc (sO e 58)) = .ok (.slice ao3 (n + 1) cap3) w3) := hrun
        have HB3 : Hid (Below w.heap.size w w3) := HBV.out.trans hfr3.below
        have HE : Hid (n + 1 = ((L.take (k + 1)).filter (fun a => !pidF p a)).length ∧ w3.ownsRow w.heap.size 58 4 (.slice ao3 (n + 1) cap3) (n + 1) (scn ((L.take (k + 1)).filter (fun a => !pidF p a)))) := by
          rw [flS_yes HEe.out hfe, scn_app, scn_one, List.length_append, ← HO.out.1]
          exact ⟨rfl, hown3⟩
        clear hrun hown3 hfr3 e1 hfe
        go_wp2_with (at_builtin; refine wpList_app_run rfl (.tmp 22) (.tmp 24) 27 rfl _ _ rfl rfl 27 rfl _ _ HRun.out ?_)
        exact ⟨⟨k + 1, n + 1, ao3, cap3, by omega, by omega, by go_num, rfl, HE, HB3⟩, by simp [intOf]; omega⟩
    · have hE : n = (dropS L p).length ∧ wr.ownsRow w.heap.size 58 4 (.slice ao2 n cap2) n (scn (dropS L p)) := by
        have := HO.out
        rw [List.take_of_length_le (by rw [← HN.out]; omega)] at this
        exact this
      have HBr := hid ((HB.out.block r (blk_lt HBk.out)).trans HBk.out)
      have r0 : wr.cell? ⟨r, 0, none⟩ = some (.slice ao N cap) := by rw [HN.out]; exact blk_cell HBr.out 0
      have rf : wr.frozen? ⟨r, 0, none⟩ = false := blk_frozen HBr.out 0
      have HRb : Hid (Rt (wr.setCell ⟨r, 0, none⟩ (.slice ao2 n cap2)) base r (dropS L p)) := set_rt hlo HBr.out hE.1 (own_low hE.2 hbw)
      have HFr : Hid (Fr base [29, 58] w (wr.setCell ⟨r, 0, none⟩ (.slice ao2 n cap2))) := (Fr.of_below _ HB.out hbw).trans (set_frt hlo HBr.out _)
      have hCn : (C : Int) = N - n := by
        have h1 := cnt_drpS L p
        rw [← HN.out, ← HC.out, ← hE.1] at h1
        omega
      have HCn := hid hCn
      have hnN : n ≤ N := by omega
      clear hE hCn
      go_wp2_with fail
      go_ret
      exact ⟨by rw [HCn.out]; rfl, HRb.out, HFr.out⟩
end Go.Proofs.Ytlkcpjefgelcoaa
