/- imagoref13.Table's Close: its contract; no statement is proved in this text. -/
import Derived.Test.YtopbgeoledocaaaROps
namespace Go.Proofs.Ytopbgeoledocaaa
open Go.ChangeShapes Go.WideShapes Go.ChangeAt Go.RowKit Go.Deep
attribute [local go_sem ↓] Go.wp_at_zero Go.wp_at_succ

theorem rapp {V : World} {base : Nat} {v : Value} {L1 : List Rn} (ho : V.ownsRow base 41 5 v L1.length (rcs L1)) (L2 : List Rn) (h1 : ∀ u ∈ rcs L2, u.oneCell' = true) (ad : Addr) (c : Nat) (hnews : ∀ j u, (rcs L2)[j]? = some u → V.cell? (ad.add j) = some u) (hl : L1.length + L2.length ≤ 4) (hB : base ≤ V.heap.size) :
    ∃ v' w', (Builtin.append_ #[27, 27] 27 #[v, .slice (some ad) L2.length c]).run Try.prog V = .ok v' w' ∧ w'.ownsRow base 41 5 v' (L1 ++ L2).length (rcs (L1 ++ L2)) ∧ Fr base [41] V w' ∧ (v.ownBlock = none → Below V.heap.size V w') := by
  obtain ⟨i, hi, hz, hs, hby⟩ := info_parts info41x
  obtain ⟨v', w', hr, h2, h3, _, _⟩ := run_append_own_at (P := Try.prog) V base 27 27 41 i (.agg #[i64 0, i64 0, .slice none 0 0, i64 0, i64 0]) 5 56 under27 hi hz hs hby rfl (by omega) v L1.length (rcs L1) ho ad L2.length c (rcs L2) (rcs_len L2) hnews h1 (by unfold maxLen; omega) (by omega) hB
  rw [← rcs_app, ← List.length_append] at h2
  refine ⟨v', w', hr, h2, ⟨⟨h3.os, h3.tape, h3.output, h3.size, fun k hk => h3.block k (by omega) (fun e => by have := (ho.lt k e.symm).1; omega)⟩, fun k o hk hko => ?_⟩, fun hn => ⟨h3.os, h3.tape, h3.output, h3.size, fun k hk => h3.block k hk (by rw [hn]; simp)⟩⟩
  rw [h3.block k (blk_lt hk) (fun e => ?_)]
  · exact hk
  · rcases ho.2 with ⟨rfl, _⟩ | ⟨g, cap, cur, rfl, _, hgg, _⟩
    · simp [Value.ownBlock] at e
    · simp [Value.ownBlock] at e
      subst e
      rw [hgg] at hk
      cases hk
      simp [keeps] at hko
theorem rcs_pre (L : List Rn) (k : Nat) : ∀ (j : Nat) u, (rcs (L.take k))[j]? = some u → (rcs L)[j]? = some u := fun j u hu => by
  have : rcs L = rcs (L.take k) ++ rcs (L.drop k) := by rw [← rcs_app, List.take_append_drop]
  rw [this, List.getElem?_append_left (List.getElem?_eq_some_iff.1 hu).1]
  exact hu
theorem rcs_suf (L : List Rn) (k : Nat) (hk : k ≤ L.length) : ∀ (j : Nat) u, (rcs (L.drop k))[j]? = some u → (rcs L)[k * 5 + j]? = some u := fun j u hu => by
  have : rcs L = rcs (L.take k) ++ rcs (L.drop k) := by rw [← rcs_app, List.take_append_drop]
  have hl : (rcs (L.take k)).length = k * 5 := by rw [rcs_len, List.length_take, Nat.min_eq_left hk]
  rw [this, List.getElem?_append_right (by omega), hl, Nat.add_sub_cancel_left]
  exact hu
theorem rclose_none {w : World} {base r : Nat} {L : List Rn} (h : Rb w base r L) (hl : L.length ≤ 3) (n : Int) (hi : atI L n = -1) :
    Calls Try.prog 23 #[pq r, i64 n] w fun e w' => e = .returned (i64 6) ∧ Below w.heap.size w w' := by
  have HA := rat_ok h hl n
  rw [hi] at HA
  have HA := hid HA
  clear h hi hl
  go_enter Try.func23, Try.ntmps23
  go_wp2_with fail
  refine HA.out.mono ?_
  rintro e w1 ⟨rfl, hb1⟩
  have HB1 := hid hb1
  clear hb1
  go_wp2_with fail
  go_ret
  exact ⟨rfl, HB1.out⟩
theorem Rb.one {w : World} {base r : Nat} {L : List Rn} (h : Rb w base r L) : ∀ u ∈ rcs L, u.oneCell' = true := rcs_one L (fun i p hp => own_cell1 (h.all i p hp))
/-- The places that are left, by where they stood. -/
theorem cut_get {L : List Rn} {k : Nat} (hk : k < L.length) (i : Nat) (q : Rn) (hq : (L.take k ++ L.drop (k + 1))[i]? = some q) : L[if i < k then i else i + 1]? = some q := by
  rw [List.getElem?_append] at hq
  have hlt : (L.take k).length = k := by rw [List.length_take]; omega
  rw [hlt] at hq
  split at hq
  · rename_i h
    rw [if_pos h]
    rw [List.getElem?_take] at hq
    simpa [h] using hq
  · rename_i h
    rw [if_neg h]
    rw [List.getElem?_drop] at hq
    rw [show i + 1 = k + 1 + (i - k) by omega]
    exact hq
set_option maxRecDepth 100000 in
set_option maxHeartbeats 2000000 in
theorem rclose_in {w : World} {base r : Nat} {L : List Rn} (h : Rb w base r L) (hl : L.length ≤ 3) (env : Int) (k : Nat) (p : Rn) (hp : L[k]? = some p) (hi : atI L env = k) :
    Calls Try.prog 23 #[pq r, i64 env] w fun e w' => e = .returned (i64 0) ∧ Rb w' base r (L.take k ++ L.drop (k + 1)) ∧ Fr base [29, 41] w w' := by
  have HR : Hid (Rb w base r L) := h
  have HP : Hid (L[k]? = some p) := hp
  have HI : Hid (atI L env = k) := hi
  have HLL : Hid (L.length ≤ 3) := hl
  have hkL : k < L.length := (List.getElem?_eq_some_iff.1 hp).1
  have hlo : base ≤ w.heap.size := by have := h.lt; have := h.lo; omega
  have hrl := h.lt
  clear h hi hp
  go_enter Try.func23, Try.ntmps23
  go_wp2_with fail
  refine (rat_ok HR.out HLL.out env).mono ?_
  rintro e w1 ⟨rfl, hb1⟩
  rw [HI.out]
  have hR1 := HR.out.below hb1
  obtain ⟨ao, cap, hbk, hown, hcap, hrow⟩ := hR1.row
  obtain ⟨g, rfl, hbg, hgl, hgr, _, _⟩ := hrow k p HP.out
  have hs1 := hb1.size
  have hadd : ∀ o j, (⟨g, o, none⟩ : Addr).add j = ⟨g, o + j, none⟩ := fun o j => Addr.add_mid g o j
  have hcells : ∀ (j : Nat) u, (rcs L)[j]? = some u → w1.cell? ⟨g, j, none⟩ = some u := fun j u hu => by
    have := hown.cells (g := g) rfl j u hu
    rw [hadd, Nat.zero_add] at this
    exact this
  have hone := hR1.one
  have ho1 : ∀ u ∈ rcs (L.take k), u.oneCell' = true := fun u hu => by
    obtain ⟨j, hj⟩ := List.getElem?_of_mem hu
    exact hone u (List.mem_of_getElem? (rcs_pre L k j u hj))
  have ho2 : ∀ u ∈ rcs (L.drop (k + 1)), u.oneCell' = true := fun u hu => by
    obtain ⟨j, hj⟩ := List.getElem?_of_mem hu
    exact hone u (List.mem_of_getElem? (rcs_suf L (k + 1) (by omega) j u hj))
  obtain ⟨v2, w2, hrun1, hown2, hfr2, hbel2⟩ := rapp (V := w1) (base := base) (v := .slice none 0 0) (L1 := []) (World.ownsRow_nil w1 base 41 5) (L.take k) ho1 ⟨g, 0, none⟩ cap (fun j u hu => by rw [hadd, Nat.zero_add]; exact hcells j u (rcs_pre L k j u hu)) (by simp; omega) (by omega)
  have hb2 := hbel2 rfl
  have hs2 := hb2.size
  have hlt : (L.take k).length = k := by rw [List.length_take]; omega
  have hld : (L.drop (k + 1)).length = L.length - (k + 1) := List.length_drop
  simp only [List.nil_append] at hown2
  obtain ⟨o2, c2, hsl⟩ : ∃ o2 c2, (cap = k + 1 ∧ o2 = 0 ∧ c2 = 0) ∨ (¬ cap = k + 1 ∧ o2 = (k + 1) * 5 ∧ c2 = cap - (k + 1)) := by
    by_cases hc : cap = k + 1
    · exact ⟨0, 0, Or.inl ⟨hc, rfl, rfl⟩⟩
    · exact ⟨_, _, Or.inr ⟨hc, rfl, rfl⟩⟩
  obtain ⟨v3, w3, hrun2, hown3, hfr3, _⟩ := rapp hown2 (L.drop (k + 1)) ho2 ⟨g, o2, none⟩ c2 (fun j u hu => by
    rcases hsl with ⟨hc, rfl, _⟩ | ⟨_, rfl, _⟩
    · rw [List.drop_eq_nil_of_le (by omega)] at hu
      simp [rcs] at hu
    · rw [hadd, hb2.cell (by exact hgl)]; exact hcells _ u (rcs_suf L (k + 1) (by omega) j u hu)) (by rw [hlt, hld]; omega) (by omega)
  obtain ⟨ao3, cap3, rfl, _⟩ := own_slice hown3
  rw [hlt] at hrun1
  rw [hld] at hrun2
  obtain ⟨M, hM⟩ : ∃ M, (L.take k ++ L.drop (k + 1)).length = M := ⟨_, rfl⟩
  rw [hM] at hrun2
  have hown4 : w3.ownsRow base 41 5 (.slice ao3 M cap3) (L.take k ++ L.drop (k + 1)).length (rcs (L.take k ++ L.drop (k + 1))) := by rw [← hM]; exact hown3
  have hbk3 : w3.heap[r]? = some (.cells #[.slice (some ⟨g, 0, none⟩) L.length cap] 29) := hfr3.kept _ _ (blk_below hbk hb2) (by rfl)
  have b1 : w1.cell? ⟨r, 0, none⟩ = some (.slice (some ⟨g, 0, none⟩) L.length cap) := blk_cell hbk 0
  have b2 : w2.cell? ⟨r, 0, none⟩ = some (.slice (some ⟨g, 0, none⟩) L.length cap) := blk_cell (blk_below hbk hb2) 0
  have b3 : w3.cell? ⟨r, 0, none⟩ = some (.slice (some ⟨g, 0, none⟩) L.length cap) := blk_cell hbk3 0
  have f3 : w3.frozen? ⟨r, 0, none⟩ = false := blk_frozen hbk3 0
  have HR1 : Hid ((Builtin.append_ #[27, 27] 27 #[.slice none 0 0, .slice (some ⟨g, 0, none⟩) k cap]).run Try.prog w1 = .ok v2 w2) := hrun1
  have HR2 : Hid ((Builtin.append_ #[27, 27] 27 #[v2, .slice (some ⟨g, o2, none⟩) (L.length - (k + 1)) c2]).run Try.prog w2 = .ok (.slice ao3 M cap3) w3) := hrun2
  have hoth : ∀ (k' : Nat) (C : Array Value) (t : TypeId), t = 41 ∨ t = 60 → w3.heap[k']? = some (.cells C t) → (w3.setCell ⟨r, 0, none⟩ (.slice ao3 M cap3)).heap[k']? = some (.cells C t) := fun k' C t ht hC => by
    rw [Below.heap_setCell _ _ _ _ (fun e => ?_)]
    · exact hC
    · rw [show k' = r from e, hbk3] at hC
      rcases ht with rfl | rfl <;> simp at hC
  have HF : Hid (Rb (w3.setCell ⟨r, 0, none⟩ (.slice ao3 M cap3)) base r (L.take k ++ L.drop (k + 1)) ∧ Fr base [29, 41] w (w3.setCell ⟨r, 0, none⟩ (.slice ao3 M cap3))) := by
    refine ⟨⟨HR.out.lo, ⟨_, heap_setCell_same w3 r 0 _ 29 _ hbk3, own_keep hown4 (fun k' C hC => hoth k' C 41 (.inl rfl) hC)⟩, ?_, ?_⟩, ?_⟩
    · intro i q hq
      exact own_keep (hR1.all _ q (cut_get hkL i q hq)) (fun k' C hC => hoth k' C 60 (.inr rfl) (hfr3.kept _ _ (blk_below hC hb2) (by rfl)))
    · intro i i' q q' hq hq' hne
      exact hR1.dis _ _ q q' (cut_get hkL i q hq) (cut_get hkL i' q' hq') (by split <;> split <;> omega)
    · exact (((Fr.of_below [29, 41] hb1 hlo).trans (Fr.of_below [29, 41] hb2 (by omega))).trans (hfr3.mono (fun o ho => by
        cases o with
        | cells C t fr => simp [keeps] at ho ⊢; exact ho.2
        | _ => rfl))).trans (Fr.of_touch ((Touch.refl r w3).setCell rfl _) hbk3 (by rfl) HR.out.lo)
  have hcI : ((k : Int) + 1 ≤ cap) := by omega
  have hNI : ((k : Int) + 1 ≤ L.length) := by omega
  have hNc : ((L.length : Int) ≤ cap) := by omega
  have h3I : ((L.length : Int) ≤ 3) := by omega
  clear hb1 hbk hown hrow hcells hrun1 hown2 hfr2 hbel2 hb2 hrun2 hown3 hown4 hM hfr3 hbk3 hadd hlt hld hoth hR1 hone ho1 ho2
  generalize L.length = N at *
  rcases hsl with ⟨hc, rfl, rfl⟩ | ⟨hc, rfl, rfl⟩
  all_goals
    go_wp2_with (at_builtin; first | refine wpList_app_run rfl (.tmp 12) (.tmp 18) 27 rfl _ _ rfl rfl 27 rfl _ _ HR1.out ?_ | refine wpList_app_run rfl (.tmp 20) (.tmp 27) 27 rfl _ _ rfl rfl 27 rfl _ _ HR2.out ?_)
    go_ret
    exact ⟨rfl, HF.out⟩
end Go.Proofs.Ytopbgeoledocaaa
