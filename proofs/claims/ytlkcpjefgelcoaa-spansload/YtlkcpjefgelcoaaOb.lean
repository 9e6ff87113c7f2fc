/- cut, Unmap, Drop; no statement is proved in this text. -/
import Derived.Test.YtlkcpjefgelcoaaOa
namespace Go.Proofs.Ytlkcpjefgelcoaa
open Go.ChangeShapes Go.WideShapes Go.ChangeAt Go.RowKit Go.Deep
attribute [local go_sem ↓] Go.wp_at_zero Go.wp_at_succ

theorem flt_keep {L : List Ar} {f : Ar → Bool} (h : L.filter f = []) : (L.filter fun a => !f a) = L := by
  refine List.filter_eq_self.2 fun a ha => ?_
  have := List.filter_eq_nil_iff.1 h a ha
  cases hf : f a
  · rfl
  · exact absurd hf this
theorem Got.keep {w w' w2 : World} {e : Ending} {M : List Ar} (h : Got w w' e M) (hk : ∀ (k : Nat) (C : Array Value), w'.heap[k]? = some (.cells C 79) → w2.heap[k]? = some (.cells C 79)) : Got w w2 e M := by
  obtain ⟨ao, cap, rfl, ho⟩ := h
  exact ⟨ao, cap, rfl, own_keep ho hk⟩
theorem Got.low {w w1 w' : World} {e : Ending} {M : List Ar} (h : Got w1 w' e M) (hs : w.heap.size ≤ w1.heap.size) : Got w w' e M := by
  obtain ⟨ao, cap, rfl, ho⟩ := h
  exact ⟨ao, cap, rfl, own_low ho hs⟩
def CutA (w w' : World) (base P : Nat) (L : List Ar) (f : Ar → Bool) (e : Ending) : Prop := Got w w' e (L.filter f) ∧ Lb w' base P (L.filter fun a => !f a) ∧ Fr base [75, 79] w w'
set_option maxRecDepth 100000 in
set_option maxHeartbeats 3200000 in
theorem cutn42 (w : World) (c : Nat) : Calls Try.prog 44 #[.pointer none, .func (.func 63) #[] #[pq c]] w fun e w' => Got w w' e [] ∧ Below w.heap.size w w' := by
  have hb0 := below_one w (.cells #[.func (.func 63) #[] #[pq c]] 77)
  have HC := hid (those42 (w.alloc (.cells #[.func (.func 63) #[] #[pq c]] 77)) 0 (.pointer none) [] (.inl ⟨rfl, rfl⟩) (by simp) c (fun _ => true) (fun W a ha _ => by cases ha))
  have HB0 := hid hb0
  clear hb0
  go_enter Try.func44, Try.ntmps44
  go_wp2_with fail
  refine HC.out.mono ?_
  rintro e w2 ⟨hg, hb⟩
  have HB2 : Hid (Below w.heap.size w w2) := HB0.out.trans (hb.mono HB0.out.size)
  have hg2 : Got w w2 e [] := hg.low HB0.out.size
  obtain ⟨ao, cap, rfl, ho⟩ := hg2
  have HG : Hid (Got w w2 (.returned (.slice ao 0 cap)) []) := ⟨ao, cap, rfl, ho⟩
  clear hb ho hg HC
  go_wp2_with fail
  go_ret
  exact ⟨HG.out, HB2.out⟩
set_option maxRecDepth 100000 in
set_option maxHeartbeats 3200000 in
theorem cut42 (w : World) (base P : Nat) (L : List Ar) (h : Lb w base P L) (hl : L.length ≤ 1000) (c : Nat) (f : Ar → Bool) (hf : ∀ (W : World) (a : Ar), a ∈ L → Below w.heap.size w W → Calls Try.prog 63 #[av a, pq c] W fun e w' => e = .returned (.bool (f a)) ∧ Below W.heap.size W w') : Calls Try.prog 44 #[pq P, .func (.func 63) #[] #[pq c]] w fun e w' => CutA w w' base P L f e := by
  have HL := hid h
  have hbw := h.lob
  have hlo := h.lo
  have hPl := h.lt
  have HB0 : Hid (Below w.heap.size w (w.alloc (.cells #[.func (.func 63) #[] #[pq c]] 77))) := below_one w _
  have HQ0 : Hid ((w.alloc (.cells #[.func (.func 63) #[] #[pq c]] 77)).heap[w.heap.size]? = some (.cells #[.func (.func 63) #[] #[pq c]] 77)) := heap_last w _
  have HC := hid (those42 (w.alloc (.cells #[.func (.func 63) #[] #[pq c]] 77)) base (pq P) L (h.below HB0.out).lv hl c f (fun W a ha hW => hf W a ha (HB0.out.trans (hW.mono HB0.out.size))))
  have HF := hid hf
  clear h hf
  go_enter Try.func44, Try.ntmps44
  go_wp2_with fail
  refine HC.out.mono ?_
  rintro e w2 ⟨hg, hb⟩
  have HB2 : Hid (Below w.heap.size w w2) := HB0.out.trans (hb.mono HB0.out.size)
  have HQ2 := hid (blk_below HQ0.out hb)
  have hg2 : Got w w2 e (L.filter f) := hg.low HB0.out.size
  clear hb hg HC
  obtain ⟨ao, cap, rfl, ho⟩ := hg2
  obtain ⟨n, hn⟩ : ∃ n, n = (L.filter f).length := ⟨_, rfl⟩
  have HG : Hid (Got w w2 (.returned (.slice ao n cap)) (L.filter f)) := ⟨ao, cap, by rw [hn], ho⟩
  rw [← hn]
  have HN := hid hn
  clear ho hn
  by_cases h0 : n = 0
  · have HE : Hid (CutA w w2 base P L f (.returned (.slice ao n cap))) := by
      refine ⟨HG.out, ?_, Fr.of_below _ HB2.out hbw⟩
      rw [flt_keep (List.eq_nil_of_length_eq_zero (HN.out.symm.trans h0))]
      exact HL.out.below HB2.out
    have hq : decide (0 < n) = false := decide_eq_false (by omega)
    subst h0
    go_wp2_with fail
    go_ret
    exact HE.out
  · have h0' : 0 < n := by omega
    have HC3 := hid (those40 w2 base (pq P) L (HL.out.below HB2.out).lv hl w.heap.size (fun a => !f a) (fun W a ha hW => cut42_cl W a w.heap.size c f ((hW.cell (blk_lt HQ2.out)).trans (blk_cell HQ2.out 0)) (HF.out _ a ha ((HB2.out.trans (hW.mono HB2.out.size)).alloc (Nat.le_trans HB2.out.size hW.size) _))))
    clear h0
    go_wp2_with fail
    refine HC3.out.mono ?_
    rintro e w3 ⟨⟨ao3, cap3, rfl, ho3⟩, hb3⟩
    have HB3 : Hid (Below w.heap.size w w3) := HB2.out.trans (hb3.mono HB2.out.size)
    have hp3 : ∃ v, w3.heap[P]? = some (.cells #[v] 75) := by
      obtain ⟨v, h1, h2, h3⟩ := HL.out.below HB3.out
      exact ⟨v, h2⟩
    obtain ⟨v3, hp3⟩ := hp3
    have HP3 := hid hp3
    obtain ⟨m, hm⟩ : ∃ m, m = (L.filter fun a => !f a).length := ⟨_, rfl⟩
    have HM := hid hm
    rw [← hm] at ho3 ⊢
    have HO3 := hid ho3
    have HG3 : Hid (Got w w3 (.returned (.slice ao n cap)) (L.filter f)) := HG.out.keep fun k C hC => by rw [hb3.block k (blk_lt hC)]; exact hC
    have r0 : w3.cell? ⟨P, 0, none⟩ = some v3 := blk_cell hp3 0
    have rf : w3.frozen? ⟨P, 0, none⟩ = false := blk_frozen hp3 0
    have HK : Hid (∀ (k : Nat) (C : Array Value), w3.heap[k]? = some (.cells C 79) → (w3.setCell ⟨P, 0, none⟩ (.slice ao3 m cap3)).heap[k]? = some (.cells C 79)) := fun k C hC => by
      rw [Below.heap_setCell _ _ _ _ (fun e => by rw [show k = P from e, HP3.out] at hC; simp at hC)]
      exact hC
    have HE : Hid (CutA w (w3.setCell ⟨P, 0, none⟩ (.slice ao3 m cap3)) base P L f (.returned (.slice ao n cap))) := by
      refine ⟨HG3.out.keep HK.out, ⟨_, hlo, heap_set1 HP3.out _, ?_⟩, (Fr.of_below _ HB3.out hbw).trans (Fr.of_touch ((Touch.refl P w3).setCell rfl _) HP3.out (by rfl) hlo)⟩
      rw [← HM.out]
      exact own_low (own_keep HO3.out HK.out) (Nat.le_trans hbw HB2.out.size)
    clear hb3 hp3 ho3 hm HC3 HK
    go_wp2_with fail
    go_ret
    exact HE.out
set_option maxRecDepth 100000 in
set_option maxHeartbeats 3200000 in
theorem cutn41 (w : World) (c d : Nat) : Calls Try.prog 44 #[.pointer none, .func (.func 62) #[] #[pq c, pq d]] w fun e w' => Got w w' e [] ∧ Below w.heap.size w w' := by
  have hb0 := below_one w (.cells #[.func (.func 62) #[] #[pq c, pq d]] 77)
  have HC := hid (those41 (w.alloc (.cells #[.func (.func 62) #[] #[pq c, pq d]] 77)) 0 (.pointer none) [] (.inl ⟨rfl, rfl⟩) (by simp) c d (fun _ => true) (fun W a ha _ => by cases ha))
  have HB0 := hid hb0
  clear hb0
  go_enter Try.func44, Try.ntmps44
  go_wp2_with fail
  refine HC.out.mono ?_
  rintro e w2 ⟨hg, hb⟩
  have HB2 : Hid (Below w.heap.size w w2) := HB0.out.trans (hb.mono HB0.out.size)
  have hg2 : Got w w2 e [] := hg.low HB0.out.size
  obtain ⟨ao, cap, rfl, ho⟩ := hg2
  have HG : Hid (Got w w2 (.returned (.slice ao 0 cap)) []) := ⟨ao, cap, rfl, ho⟩
  clear hb ho hg HC
  go_wp2_with fail
  go_ret
  exact ⟨HG.out, HB2.out⟩
set_option maxRecDepth 100000 in
set_option maxHeartbeats 3200000 in
theorem cut41 (w : World) (base P : Nat) (L : List Ar) (h : Lb w base P L) (hl : L.length ≤ 1000) (c d : Nat) (f : Ar → Bool) (hf : ∀ (W : World) (a : Ar), a ∈ L → Below w.heap.size w W → Calls Try.prog 62 #[av a, pq c, pq d] W fun e w' => e = .returned (.bool (f a)) ∧ Below W.heap.size W w') : Calls Try.prog 44 #[pq P, .func (.func 62) #[] #[pq c, pq d]] w fun e w' => CutA w w' base P L f e := by
  have HL := hid h
  have hbw := h.lob
  have hlo := h.lo
  have hPl := h.lt
  have HB0 : Hid (Below w.heap.size w (w.alloc (.cells #[.func (.func 62) #[] #[pq c, pq d]] 77))) := below_one w _
  have HQ0 : Hid ((w.alloc (.cells #[.func (.func 62) #[] #[pq c, pq d]] 77)).heap[w.heap.size]? = some (.cells #[.func (.func 62) #[] #[pq c, pq d]] 77)) := heap_last w _
  have HC := hid (those41 (w.alloc (.cells #[.func (.func 62) #[] #[pq c, pq d]] 77)) base (pq P) L (h.below HB0.out).lv hl c d f (fun W a ha hW => hf W a ha (HB0.out.trans (hW.mono HB0.out.size))))
  have HF := hid hf
  clear h hf
  go_enter Try.func44, Try.ntmps44
  go_wp2_with fail
  refine HC.out.mono ?_
  rintro e w2 ⟨hg, hb⟩
  have HB2 : Hid (Below w.heap.size w w2) := HB0.out.trans (hb.mono HB0.out.size)
  have HQ2 := hid (blk_below HQ0.out hb)
  have hg2 : Got w w2 e (L.filter f) := hg.low HB0.out.size
  clear hb hg HC
  obtain ⟨ao, cap, rfl, ho⟩ := hg2
  obtain ⟨n, hn⟩ : ∃ n, n = (L.filter f).length := ⟨_, rfl⟩
  have HG : Hid (Got w w2 (.returned (.slice ao n cap)) (L.filter f)) := ⟨ao, cap, by rw [hn], ho⟩
  rw [← hn]
  have HN := hid hn
  clear ho hn
  by_cases h0 : n = 0
  · have HE : Hid (CutA w w2 base P L f (.returned (.slice ao n cap))) := by
      refine ⟨HG.out, ?_, Fr.of_below _ HB2.out hbw⟩
      rw [flt_keep (List.eq_nil_of_length_eq_zero (HN.out.symm.trans h0))]
      exact HL.out.below HB2.out
    have hq : decide (0 < n) = false := decide_eq_false (by omega)
    subst h0
    go_wp2_with fail
    go_ret
    exact HE.out
  · have h0' : 0 < n := by omega
    have HC3 := hid (those40 w2 base (pq P) L (HL.out.below HB2.out).lv hl w.heap.size (fun a => !f a) (fun W a ha hW => cut41_cl W a w.heap.size c d f ((hW.cell (blk_lt HQ2.out)).trans (blk_cell HQ2.out 0)) (HF.out _ a ha ((HB2.out.trans (hW.mono HB2.out.size)).alloc (Nat.le_trans HB2.out.size hW.size) _))))
    clear h0
    go_wp2_with fail
    refine HC3.out.mono ?_
    rintro e w3 ⟨⟨ao3, cap3, rfl, ho3⟩, hb3⟩
    have HB3 : Hid (Below w.heap.size w w3) := HB2.out.trans (hb3.mono HB2.out.size)
    have hp3 : ∃ v, w3.heap[P]? = some (.cells #[v] 75) := by
      obtain ⟨v, h1, h2, h3⟩ := HL.out.below HB3.out
      exact ⟨v, h2⟩
    obtain ⟨v3, hp3⟩ := hp3
    have HP3 := hid hp3
    obtain ⟨m, hm⟩ : ∃ m, m = (L.filter fun a => !f a).length := ⟨_, rfl⟩
    have HM := hid hm
    rw [← hm] at ho3 ⊢
    have HO3 := hid ho3
    have HG3 : Hid (Got w w3 (.returned (.slice ao n cap)) (L.filter f)) := HG.out.keep fun k C hC => by rw [hb3.block k (blk_lt hC)]; exact hC
    have r0 : w3.cell? ⟨P, 0, none⟩ = some v3 := blk_cell hp3 0
    have rf : w3.frozen? ⟨P, 0, none⟩ = false := blk_frozen hp3 0
    have HK : Hid (∀ (k : Nat) (C : Array Value), w3.heap[k]? = some (.cells C 79) → (w3.setCell ⟨P, 0, none⟩ (.slice ao3 m cap3)).heap[k]? = some (.cells C 79)) := fun k C hC => by
      rw [Below.heap_setCell _ _ _ _ (fun e => by rw [show k = P from e, HP3.out] at hC; simp at hC)]
      exact hC
    have HE : Hid (CutA w (w3.setCell ⟨P, 0, none⟩ (.slice ao3 m cap3)) base P L f (.returned (.slice ao n cap))) := by
      refine ⟨HG3.out.keep HK.out, ⟨_, hlo, heap_set1 HP3.out _, ?_⟩, (Fr.of_below _ HB3.out hbw).trans (Fr.of_touch ((Touch.refl P w3).setCell rfl _) HP3.out (by rfl) hlo)⟩
      rw [← HM.out]
      exact own_low (own_keep HO3.out HK.out) (Nat.le_trans hbw HB2.out.size)
    clear hb3 hp3 ho3 hm HC3 HK
    go_wp2_with fail
    go_ret
    exact HE.out
def unmI (L : List Ar) (p g : Int) : Int := match L.filter (fromF p g) with
  | [] => 0
  | a :: _ => a.2.2
def unmE (L : List Ar) (p g : Int) : Int := match L.filter (fromF p g) with
  | [] => 6
  | _ :: _ => 0
def unmL (L : List Ar) (p g : Int) : List Ar := L.filter fun a => !fromF p g a
def drpL (L : List Ar) (p : Int) : List Ar := L.filter fun a => !ofF p a
set_option maxRecDepth 100000 in
set_option maxHeartbeats 3200000 in
theorem unmap_nil (w : World) (p g : Int) : Calls Try.prog 21 #[.pointer none, i64 p, i64 g] w fun e w' => e = .returned (.tuple #[i64 0, i64 6]) ∧ Below w.heap.size w w' := by
  go_enter Try.func21, Try.ntmps21
  go_wp2_with fail
  refine (from_mk2 _ p g).mono ?_
  rintro e w1 ⟨c, d, rfl, hc, hd, hb1⟩
  have HB1 := hid hb1
  have HC := hid (cutn41 w1 c d)
  clear hc hd hb1
  go_wp2_with fail
  refine HC.out.mono ?_
  rintro e w2 ⟨⟨ao, cap, rfl, _⟩, hb2⟩
  have HB2 : Hid (Below w.heap.size w w2) := HB1.out.trans (hb2.mono HB1.out.size)
  clear hb2 HC
  go_wp2_with fail
  go_ret2
  exact ⟨rfl, HB2.out⟩
set_option maxRecDepth 100000 in
set_option maxHeartbeats 3200000 in
theorem unmap_ok (w : World) (base P : Nat) (L : List Ar) (p g : Int) (h : Lb w base P L) (hl : L.length ≤ 1000) : Calls Try.prog 21 #[pq P, i64 p, i64 g] w fun e w' => e = .returned (.tuple #[i64 (unmI L p g), i64 (unmE L p g)]) ∧ Lb w' base P (unmL L p g) ∧ Fr base [75, 79] w w' := by
  have HL := hid h
  have hbw := h.lob
  clear h
  unfold unmI unmE
  rcases hM : L.filter (fromF p g) with _ | ⟨a, M⟩
  · have HM := hid hM
    clear hM
    go_enter Try.func21, Try.ntmps21
    go_wp2_with fail
    refine (from_mk2 _ p g).mono ?_
    rintro e w1 ⟨c, d, rfl, hc, hd, hb1⟩
    have HB1 := hid hb1
    have HC := hid (cut41 w1 base P L (HL.out.below hb1) hl c d (fromF p g) (fun W a _ hW => from_cl W a c d p g ((hW.cell (World.block_lt_of_cell? _ _ hc)).trans hc) ((hW.cell (World.block_lt_of_cell? _ _ hd)).trans hd)))
    clear hc hd hb1
    go_wp2_with fail
    refine HC.out.mono ?_
    rintro e w2 ⟨⟨ao, cap, rfl, _⟩, hl2, hf2⟩
    have HL2 := hid hl2
    have HF2 : Hid (Fr base [75, 79] w w2) := (Fr.of_below _ HB1.out hbw).trans hf2
    rw [HM.out]
    clear hl2 hf2 HC
    go_wp2_with fail
    go_ret2
    exact ⟨rfl, HL2.out, HF2.out⟩
  · have HM := hid hM
    clear hM
    go_enter Try.func21, Try.ntmps21
    go_wp2_with fail
    refine (from_mk2 _ p g).mono ?_
    rintro e w1 ⟨c, d, rfl, hc, hd, hb1⟩
    have HB1 := hid hb1
    have HC := hid (cut41 w1 base P L (HL.out.below hb1) hl c d (fromF p g) (fun W a _ hW => from_cl W a c d p g ((hW.cell (World.block_lt_of_cell? _ _ hc)).trans hc) ((hW.cell (World.block_lt_of_cell? _ _ hd)).trans hd)))
    clear hc hd hb1
    go_wp2_with fail
    refine HC.out.mono ?_
    rintro e w2 ⟨⟨ao, cap, rfl, ho2⟩, hl2, hf2⟩
    have HL2 := hid hl2
    have HF2 : Hid (Fr base [75, 79] w w2) := (Fr.of_below _ HB1.out hbw).trans hf2
    rw [HM.out] at ho2 ⊢
    obtain ⟨b, o, rfl, hbl, x0, x1, x2⟩ := Rd3.own ho2 0 a rfl
    have hcp := own_cap ho2
    have hlen : (a :: M).length = M.length + 1 := rfl
    rw [hlen] at hcp ⊢
    obtain ⟨m, hm⟩ : ∃ m, m = M.length := ⟨_, rfl⟩
    have hml : m ≤ 1000 := by have h1 := filter_len L (fromF p g); rw [HM.out, hlen, ← hm] at h1; omega
    rw [← hm] at hcp ⊢
    clear hl2 hf2 HC ho2 hm hlen
    go_wp2_with fail
    go_ret2
    exact ⟨rfl, HL2.out, HF2.out⟩
set_option maxRecDepth 100000 in
set_option maxHeartbeats 3200000 in
theorem drop_nil (w : World) (p : Int) : Calls Try.prog 25 #[.pointer none, i64 p] w fun e w' => e = .returned (i64 0) ∧ Below w.heap.size w w' := by
  go_enter Try.func25, Try.ntmps25
  go_wp2_with fail
  refine (of_mk2 _ p).mono ?_
  rintro e w1 ⟨c, rfl, hc, hb1⟩
  have HB1 := hid hb1
  have HC := hid (cutn42 w1 c)
  clear hc hb1
  go_wp2_with fail
  refine HC.out.mono ?_
  rintro e w2 ⟨⟨ao, cap, rfl, _⟩, hb2⟩
  have HB2 : Hid (Below w.heap.size w w2) := HB1.out.trans (hb2.mono HB1.out.size)
  clear hb2 HC
  go_wp2_with fail
  go_ret
  exact ⟨rfl, HB2.out⟩
set_option maxRecDepth 100000 in
set_option maxHeartbeats 3200000 in
theorem drop_ok (w : World) (base P : Nat) (L : List Ar) (p : Int) (h : Lb w base P L) (hl : L.length ≤ 1000) : Calls Try.prog 25 #[pq P, i64 p] w fun e w' => e = .returned (i64 (cntL L p)) ∧ Lb w' base P (drpL L p) ∧ Fr base [75, 79] w w' := by
  have HL := hid h
  have hbw := h.lob
  clear h
  obtain ⟨n, hn⟩ : ∃ n, n = cntL L p := ⟨_, rfl⟩
  rw [← hn]
  have HN : Hid (n = (L.filter (ofF p)).length) := hn
  clear hn
  go_enter Try.func25, Try.ntmps25
  go_wp2_with fail
  refine (of_mk2 _ p).mono ?_
  rintro e w1 ⟨c, rfl, hc, hb1⟩
  have HB1 := hid hb1
  have HC := hid (cut42 w1 base P L (HL.out.below hb1) hl c (ofF p) (fun W a _ hW => of_cl W a c p ((hW.cell (World.block_lt_of_cell? _ _ hc)).trans hc)))
  clear hc hb1
  go_wp2_with fail
  refine HC.out.mono ?_
  rintro e w2 ⟨⟨ao, cap, rfl, _⟩, hl2, hf2⟩
  have HL2 := hid hl2
  have HF2 : Hid (Fr base [75, 79] w w2) := (Fr.of_below _ HB1.out hbw).trans hf2
  rw [← HN.out]
  clear hl2 hf2 HC
  go_wp2_with fail
  go_ret
  exact ⟨rfl, HL2.out, HF2.out⟩
end Go.Proofs.Ytlkcpjefgelcoaa
