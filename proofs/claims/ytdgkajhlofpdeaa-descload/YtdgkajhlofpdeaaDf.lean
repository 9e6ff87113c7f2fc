/- The document's Fork; no statement is proved in this text. -/
import Derived.Test.YtdgkajhlofpdeaaDd
namespace Go.Proofs.Ytdgkajhlofpdeaa
open Go.ChangeShapes Go.WideShapes Go.ChangeAt Go.RowKit Go.Deep
attribute [local go_sem ↓] Go.wp_at_zero Go.wp_at_succ


def forkD (p c : Int) (l : List En) (S : St) : St := l.foldl (fun S e => if e.1.1 = p then upd S (c, e.1.2) (some e.2) else S) S
theorem forkD_filter (p c : Int) (l : List En) (S : St) : forkL c (l.filter fun e => decide (e.1.1 = p)) S = forkD p c l S := by
  induction l generalizing S with
  | nil => rfl
  | cons x l ih =>
    have e1 : forkD p c (x :: l) S = forkD p c l (if x.1.1 = p then upd S (c, x.1.2) (some x.2) else S) := rfl
    rw [e1]
    by_cases hx : x.1.1 = p
    · rw [List.filter_cons_of_pos (p := fun e : En => decide (e.1.1 = p)) (decide_eq_true hx), if_pos hx, ← ih]
      rfl
    · rw [List.filter_cons_of_neg (p := fun e : En => decide (e.1.1 = p)) (by rw [decide_eq_false hx]; simp), if_neg hx, ← ih]
theorem forkD_eq {S : St} (h : Ins S) (p c : Int) : forkL c (ofL S p) S = forkD p c (lst S) S := by rw [ofL_filter h, forkD_filter]
theorem forkD_last (p c : Int) {L : List En} {k : Nat} {e : En} (h : L[k]? = some e) (S : St) : forkD p c (L.take (k + 1)) S = if e.1.1 = p then upd (forkD p c (L.take k) S) (c, e.1.2) (some e.2) else forkD p c (L.take k) S := by
  unfold forkD
  rw [take_last h, List.foldl_append]
  rfl
theorem forkD_some (p c : Int) (l : List En) (S : St) (k : K) (t : Tr) (h : forkD p c l S k = some t) : S k = some t ∨ ∃ e ∈ l, e.1.1 = p ∧ k = (c, e.1.2) := by
  induction l generalizing S with
  | nil => exact .inl h
  | cons x l ih =>
    have e1 : forkD p c (x :: l) S = forkD p c l (if x.1.1 = p then upd S (c, x.1.2) (some x.2) else S) := rfl
    rw [e1] at h
    rcases ih _ h with h | ⟨e, he, h1, h2⟩
    · by_cases hx : x.1.1 = p
      · rw [if_pos hx] at h
        rcases upd_some h with ⟨h1, _⟩ | ⟨_, h1⟩
        · exact .inr ⟨x, by simp, hx, h1⟩
        · exact .inl h1
      · rw [if_neg hx] at h
        exact .inl h
    · exact .inr ⟨e, List.mem_cons_of_mem _ he, h1, h2⟩
theorem forkD_ins {p c : Int} {l : List En} {S : St} (h : Ins S) (hc : 1 ≤ c ∧ c ≤ 6) (hl : ∀ e ∈ l, 0 ≤ e.1.2 ∧ e.1.2 ≤ 5) : Ins (forkD p c l S) := fun k t hk => by
  rcases forkD_some p c l S k t hk with h1 | ⟨e, he, _, rfl⟩
  · exact h k t h1
  · have := hl e he
    exact ⟨hc.1, hc.2, this.1, this.2⟩
theorem none_of {S : St} (h : Ins S) (c : Int) (h0 : (ofL S c).length = 0) (s : Int) (t : Tr) : S (c, s) ≠ some t := fun hs => by
  have hm := (mem_ofL h c ((c, s), t)).2 ⟨rfl, hs⟩
  rw [List.eq_nil_of_length_eq_zero h0] at hm
  cases hm
theorem fork_fresh {S : St} (h : Ins S) (p c : Int) (h0 : (ofL S c).length = 0) {k : Nat} {e : En} (he : (lst S)[k]? = some e) (hp : e.1.1 = p) : forkD p c ((lst S).take k) S (c, e.1.2) = none := by
  cases hf : forkD p c ((lst S).take k) S (c, e.1.2) with
  | none => rfl
  | some t =>
    exfalso
    rcases forkD_some _ _ _ _ _ _ hf with h1 | ⟨e', he', hp', h2⟩
    · exact none_of h c h0 _ _ h1
    · obtain ⟨j, hj, hje⟩ := List.getElem_of_mem he'
      obtain ⟨hk, hke⟩ := List.getElem?_eq_some_iff.1 he
      have hjk : j < k := by rw [List.length_take] at hj; omega
      rw [List.getElem_take] at hje
      have hlt := List.pairwise_iff_getElem.1 (srt_allK S 6) j k (Nat.lt_trans hjk hk) hk hjk
      rw [hje, hke] at hlt
      refine lt2_ne hlt (Prod.ext (hp'.trans hp.symm) ?_)
      have := congrArg Prod.snd h2
      exact this.symm
theorem lst_rng {S : St} (h : Ins S) {e : En} (he : e ∈ lst S) : 1 ≤ e.1.1 ∧ e.1.1 ≤ 6 ∧ 0 ≤ e.1.2 ∧ e.1.2 ≤ 5 := h _ _ ((mem_lst h e).1 he)
theorem Ins.fork {S : St} (h : Ins S) (p c : Int) : Ins (forkS S p c) := by
  unfold forkS
  split
  · rename_i hE
    have hc : 1 ≤ c ∧ c ≤ 6 := by
      unfold forkE at hE
      split at hE
      · rename_i h1
        exact of_decide_eq_true h1.2.1
      · cases hE
    rw [forkD_eq h]
    exact forkD_ins h hc fun e he => ⟨(lst_rng h he).2.2.1, (lst_rng h he).2.2.2⟩
  · exact h
set_option maxRecDepth 100000 in
set_option maxHeartbeats 1600000 in
theorem rfork_ok {w : World} {base r : Nat} {S : St} (h : Rb w base r (lst S)) (hI : Ins S) (p c : Int) : Calls Try.prog 33 #[pq r, i64 p, i64 c] w fun e w' => e = .returned (i64 (forkE S p c)) ∧ Rb w' base r (lst (forkS S p c)) ∧ Fr base [29, 42] w w' := by
  have HH := hid h
  unfold forkS
  by_cases k1 : p < 1
  · have hE : forkE S p c = 1 := by unfold forkE isP; rw [if_neg (by simp only [decide_eq_true_eq]; omega)]
    rw [hE, if_neg (by decide)]
    clear h hI hE
    go_enter Try.func33, Try.ntmps33
    go_wp2_with fail
    go_ret
    exact ⟨rfl, HH.out, Fr.refl _ _ _⟩
  by_cases k2 : 6 < p
  · have hE : forkE S p c = 1 := by unfold forkE isP; rw [if_neg (by simp only [decide_eq_true_eq]; omega)]
    rw [hE, if_neg (by decide)]
    clear h hI hE
    go_enter Try.func33, Try.ntmps33
    go_wp2_with fail
    go_ret
    exact ⟨rfl, HH.out, Fr.refl _ _ _⟩
  by_cases k3 : c < 1
  · have hE : forkE S p c = 1 := by unfold forkE isP; rw [if_neg (by simp only [decide_eq_true_eq]; omega)]
    rw [hE, if_neg (by decide)]
    clear h hI hE
    go_enter Try.func33, Try.ntmps33
    go_wp2_with fail
    go_ret
    exact ⟨rfl, HH.out, Fr.refl _ _ _⟩
  by_cases k4 : 6 < c
  · have hE : forkE S p c = 1 := by unfold forkE isP; rw [if_neg (by simp only [decide_eq_true_eq]; omega)]
    rw [hE, if_neg (by decide)]
    clear h hI hE
    go_enter Try.func33, Try.ntmps33
    go_wp2_with fail
    go_ret
    exact ⟨rfl, HH.out, Fr.refl _ _ _⟩
  by_cases k5 : p = c
  · have hE : forkE S p c = 1 := by unfold forkE isP; rw [if_neg (by simp only [decide_eq_true_eq]; omega)]
    rw [hE, if_neg (by decide)]
    have q : (p == c) = true := beq_iff_eq.2 k5
    clear k5
    clear h hI hE
    go_enter Try.func33, Try.ntmps33
    go_wp2_with fail
    go_ret
    exact ⟨rfl, HH.out, Fr.refl _ _ _⟩
  have q : (p == c) = false := beq_false_of_ne k5
  have HLf := hid (rleft_ok (w := w.drew) (base := base) (r := r) (L := lst S) (h.below ⟨rfl, rfl, rfl, Nat.le_refl _, fun _ _ => rfl⟩) (by have := lst_len S; omega) c (-1))
  obtain ⟨hd, hle⟩ := len_split (lst S) c
  rw [← ofL_filter hI c] at hd
  have hlen := lst_len S
  have hlo := h.lo
  have hrl := h.lt
  obtain ⟨_, ao, cap, hbk, hown⟩ := h
  have hcap := own_cap hown
  have HRd := hid (Rd5.own hown)
  have HG : Hid (∀ g o, ao = some ⟨g, o, none⟩ → g ≠ r) := fun g o hg hgr => by
    subst hg hgr
    rcases hown.2 with ⟨h, _⟩ | ⟨g2, cap2, cur, he, _, hgg, _⟩
    · cases h
    · simp only [Value.slice.injEq, Option.some.injEq, Addr.mk.injEq] at he
      obtain ⟨⟨rfl, _⟩, _⟩ := he
      rw [hgg] at hbk
      simp at hbk
  have b0 : w.cell? ⟨r, 0, none⟩ = some (.slice ao (lst S).length cap) := blk_cell hbk 0
  generalize hM : ((lst S).filter (lfF c (-1))).length = Q at *
  obtain ⟨N, hN⟩ : ∃ N, N = (lst S).length := ⟨_, rfl⟩
  have HN := hid hN
  rw [← hN] at b0 hd hle hlen hcap
  clear hM hbk hown
  by_cases hm0 : (ofL S c).length = 0
  rotate_left
  · have hE : forkE S p c = 7 := by unfold forkE isP; rw [if_pos (by simp only [decide_eq_true_eq]; omega), if_neg hm0]
    rw [hE, if_neg (by decide)]
    have hlt : (Q : Int) < N := by omega
    clear hI hE k5 hd hN hm0 HRd
    go_enter Try.func33, Try.ntmps33
    go_upto_region 3 with fail
    have HS : Hid (w.drew.cell? ⟨r, 0, none⟩ = some (.slice ao N cap)) := b0
    refine wp_region_noPanic ?_
    refine wp_region_last (fun W => W.cell? ⟨r, 0, none⟩ = some (.slice ao N cap)) 9 (by kernel_rfl) ?_
    refine wpL_take 0 28 (pq r) [2, 3] rfl rfl (by kernel_rfl) (by decide) (by kernel_rfl) (by kernel_rfl) (by kernel_rfl) (fun _ _ _ h => h) HS.out (by rfl) (fun W hW => by go_simp) ?_
    simp only [Act.put, List.setIfInBounds_toArray, List.set_cons_zero, List.set_cons_succ]
    refine wpL_take 1 29 (i64 c) [2, 3] rfl rfl (by kernel_rfl) (by decide) (by kernel_rfl) (by kernel_rfl) (by kernel_rfl) (fun _ _ _ h => h) HS.out (by rfl) (fun W hW => by go_simp) ?_
    simp only [Act.put, List.setIfInBounds_toArray, List.set_cons_zero, List.set_cons_succ]
    refine wpL_take 4 32 (pq r) [5, 6, 7, 8] rfl rfl (by kernel_rfl) (by decide) (by kernel_rfl) (by kernel_rfl) (by kernel_rfl) (fun _ _ _ h => h) HS.out (by rfl) (fun W hW => by go_simp) ?_
    simp only [Act.put, List.setIfInBounds_toArray, List.set_cons_zero, List.set_cons_succ]
    refine wpL_take 5 33 (pq r) [6, 7, 8] rfl rfl (by kernel_rfl) (by decide) (by kernel_rfl) (by kernel_rfl) (by kernel_rfl) (fun _ _ _ h => h) HS.out (by rfl) (fun W hW => by have o0 : W.cell? ⟨r, 0, none⟩ = some (.slice ao N cap) := hW; go_simp) ?_
    simp only [Act.put, List.setIfInBounds_toArray, List.set_cons_zero, List.set_cons_succ]
    refine wpL_take 6 34 (.pointer (some ⟨r, 0, none⟩)) [7, 8] rfl rfl (by kernel_rfl) (by decide) (by kernel_rfl) (by kernel_rfl) (by kernel_rfl) (fun _ _ _ h => h) HS.out (by rfl) (fun W hW => by go_simp) ?_
    simp only [Act.put, List.setIfInBounds_toArray, List.set_cons_zero, List.set_cons_succ]
    refine wpL_take 7 35 (.slice ao N cap) [8] rfl rfl (by kernel_rfl) (by decide) (by kernel_rfl) (by kernel_rfl) (by kernel_rfl) (fun _ _ _ h => h) HS.out (by rfl) (fun W hW => by have o0 : W.cell? ⟨r, 0, none⟩ = some (.slice ao N cap) := hW; go_simp) ?_
    simp only [Act.put, List.setIfInBounds_toArray, List.set_cons_zero, List.set_cons_succ]
    refine wpL_take 8 36 (i64 N) [] rfl rfl (by kernel_rfl) (by decide) (by kernel_rfl) (by kernel_rfl) (by kernel_rfl) (fun _ _ _ h => h) HS.out (by rfl) (fun W hW => by go_simp) ?_
    simp only [Act.put, List.setIfInBounds_toArray, List.set_cons_zero, List.set_cons_succ]
    refine wpL_one 2 rfl (by kernel_rfl) (by rfl) (fun K hK => ?_)
    go_simp
    refine HLf.out.mono ?_
    rintro e w1 ⟨ao1, cap1, rfl, _, hb1⟩
    have HB1 : Hid (Below w.heap.size w w1) := ⟨hb1.os, hb1.tape, hb1.output, hb1.size, hb1.block⟩
    have HS1 : Hid (w1.cell? ⟨r, 0, none⟩ = some (.slice ao N cap)) := (HB1.out.cell (p := ⟨r, 0, none⟩) hrl).trans b0
    clear hb1
    go_simp
    refine hK.out _ _ (fun _ => HS1.out) ?_
    clear hK K
    refine wpL_take 3 31 (i64 Q) [] rfl rfl (by kernel_rfl) (by decide) (by kernel_rfl) (by kernel_rfl) (by kernel_rfl) (fun _ _ _ h => h) HS1.out (by rfl) (fun W hW => by go_simp) ?_
    simp only [Act.put, List.setIfInBounds_toArray, List.set_cons_zero, List.set_cons_succ]
    refine wpL_one 9 rfl (by kernel_rfl) (by rfl) (fun K hK => ?_)
    go_simp
    refine hK.out _ _ (fun h => absurd rfl h) ?_
    clear hK K
    refine wpL_done (by kernel_rfl) ?_
    refine NoPanic.normal ?_
    go_wp2_with fail
    go_ret
    exact ⟨rfl, HH.out.below HB1.out, fr42 HH.out HB1.out⟩
  · have hE : forkE S p c = 0 := by unfold forkE isP; rw [if_pos (by simp only [decide_eq_true_eq]; omega), if_pos hm0]
    rw [hE, if_pos rfl, forkD_eq hI]
    have hlt : ¬ (Q : Int) < N := by omega
    have HIn := hid hI
    have HM0 := hid hm0
    have hc : 1 ≤ c ∧ c ≤ 6 := by omega
    clear hI hE k5 hd hN hm0
    go_enter Try.func33, Try.ntmps33
    go_upto_region 3 with fail
    have HS : Hid (w.drew.cell? ⟨r, 0, none⟩ = some (.slice ao N cap)) := b0
    refine wp_region_noPanic ?_
    refine wp_region_last (fun W => W.cell? ⟨r, 0, none⟩ = some (.slice ao N cap)) 9 (by kernel_rfl) ?_
    refine wpL_take 0 28 (pq r) [2, 3] rfl rfl (by kernel_rfl) (by decide) (by kernel_rfl) (by kernel_rfl) (by kernel_rfl) (fun _ _ _ h => h) HS.out (by rfl) (fun W hW => by go_simp) ?_
    simp only [Act.put, List.setIfInBounds_toArray, List.set_cons_zero, List.set_cons_succ]
    refine wpL_take 1 29 (i64 c) [2, 3] rfl rfl (by kernel_rfl) (by decide) (by kernel_rfl) (by kernel_rfl) (by kernel_rfl) (fun _ _ _ h => h) HS.out (by rfl) (fun W hW => by go_simp) ?_
    simp only [Act.put, List.setIfInBounds_toArray, List.set_cons_zero, List.set_cons_succ]
    refine wpL_take 4 32 (pq r) [5, 6, 7, 8] rfl rfl (by kernel_rfl) (by decide) (by kernel_rfl) (by kernel_rfl) (by kernel_rfl) (fun _ _ _ h => h) HS.out (by rfl) (fun W hW => by go_simp) ?_
    simp only [Act.put, List.setIfInBounds_toArray, List.set_cons_zero, List.set_cons_succ]
    refine wpL_take 5 33 (pq r) [6, 7, 8] rfl rfl (by kernel_rfl) (by decide) (by kernel_rfl) (by kernel_rfl) (by kernel_rfl) (fun _ _ _ h => h) HS.out (by rfl) (fun W hW => by have o0 : W.cell? ⟨r, 0, none⟩ = some (.slice ao N cap) := hW; go_simp) ?_
    simp only [Act.put, List.setIfInBounds_toArray, List.set_cons_zero, List.set_cons_succ]
    refine wpL_take 6 34 (.pointer (some ⟨r, 0, none⟩)) [7, 8] rfl rfl (by kernel_rfl) (by decide) (by kernel_rfl) (by kernel_rfl) (by kernel_rfl) (fun _ _ _ h => h) HS.out (by rfl) (fun W hW => by go_simp) ?_
    simp only [Act.put, List.setIfInBounds_toArray, List.set_cons_zero, List.set_cons_succ]
    refine wpL_take 7 35 (.slice ao N cap) [8] rfl rfl (by kernel_rfl) (by decide) (by kernel_rfl) (by kernel_rfl) (by kernel_rfl) (fun _ _ _ h => h) HS.out (by rfl) (fun W hW => by have o0 : W.cell? ⟨r, 0, none⟩ = some (.slice ao N cap) := hW; go_simp) ?_
    simp only [Act.put, List.setIfInBounds_toArray, List.set_cons_zero, List.set_cons_succ]
    refine wpL_take 8 36 (i64 N) [] rfl rfl (by kernel_rfl) (by decide) (by kernel_rfl) (by kernel_rfl) (by kernel_rfl) (fun _ _ _ h => h) HS.out (by rfl) (fun W hW => by go_simp) ?_
    simp only [Act.put, List.setIfInBounds_toArray, List.set_cons_zero, List.set_cons_succ]
    refine wpL_one 2 rfl (by kernel_rfl) (by rfl) (fun K hK => ?_)
    go_simp
    refine HLf.out.mono ?_
    rintro e w1 ⟨ao1, cap1, rfl, _, hb1⟩
    have HB1 : Hid (Below w.heap.size w w1) := ⟨hb1.os, hb1.tape, hb1.output, hb1.size, hb1.block⟩
    have HS1 : Hid (w1.cell? ⟨r, 0, none⟩ = some (.slice ao N cap)) := (HB1.out.cell (p := ⟨r, 0, none⟩) hrl).trans b0
    clear hb1
    go_simp
    refine hK.out _ _ (fun _ => HS1.out) ?_
    clear hK K
    refine wpL_take 3 31 (i64 Q) [] rfl rfl (by kernel_rfl) (by decide) (by kernel_rfl) (by kernel_rfl) (by kernel_rfl) (fun _ _ _ h => h) HS1.out (by rfl) (fun W hW => by go_simp) ?_
    simp only [Act.put, List.setIfInBounds_toArray, List.set_cons_zero, List.set_cons_succ]
    refine wpL_one 9 rfl (by kernel_rfl) (by rfl) (fun K hK => ?_)
    go_simp
    refine hK.out _ _ (fun h => absurd rfl h) ?_
    clear hK K
    refine wpL_done (by kernel_rfl) ?_
    refine NoPanic.normal ?_
    have hs1 := HS1.out
    go_wp2_with fail
    go_loopw [43] (fun i wr => ∃ (k : Nat), k ≤ N ∧ i = i64 k ∧ Hid (Rb wr base r (lst (forkD p c ((lst S).take k) S))) ∧ Hid (Touch r w wr)) (fun i _ => N - (intOf i).toNat)
    case atStart => exact ⟨0, by omega, rfl, HH.out.below HB1.out, Touch.of_below HB1.out⟩
    case round =>
      obtain ⟨k, hk, rfl, HR, HT⟩ := hrel
      by_cases hltN : k < N
      · have hkI : (k : Int) < N := by omega
        obtain ⟨e, he⟩ : ∃ e, (lst S)[k]? = some e := ⟨_, List.getElem?_eq_getElem (by rw [← HN.out]; exact hltN)⟩
        have hrd : Rd5 wr ao (lst S) := HRd.out.keep (fun g o hg hgl => HT.out.block g hgl (HG.out g o hg)) HT.out.size
        obtain ⟨g, o, rfl, hgl, c0, c1, c2, c3, c4⟩ := hrd k e he
        have hRV : Rb (wr.alloc (enO e.1.1 e.1.2 e.2.1 e.2.2.1 e.2.2.2 42)) base r (lst (forkD p c ((lst S).take k) S)) := HR.out.below (below_one wr _)
        have HTV : Hid (Touch r w (wr.alloc (enO e.1.1 e.1.2 e.2.1 e.2.2.1 e.2.2.2 42))) := HT.out.alloc _
        have hlast := forkD_last p c he S
        by_cases hp : e.1.1 = p
        · have q2 : (e.1.1 == p) = true := beq_iff_eq.2 hp
          rw [if_pos hp] at hlast
          have hrng := lst_rng HIn.out (List.mem_of_getElem? he)
          have hins : Ins (forkD p c ((lst S).take k) S) := forkD_ins HIn.out hc fun e' he' => ⟨(lst_rng HIn.out (List.mem_of_mem_take he')).2.2.1, (lst_rng HIn.out (List.mem_of_mem_take he')).2.2.2⟩
          obtain ⟨A, B, hL, hL2, hA, hB⟩ := lst_put hins (c, e.1.2) e.2 ⟨hc.1, hc.2, hrng.2.2.1, hrng.2.2.2⟩ (fork_fresh HIn.out p c HM0.out he hp)
          have HL2 : Hid (lst (forkD p c ((lst S).take (k + 1)) S) = A ++ ((c, e.1.2), (e.2.1, e.2.2.1, e.2.2.2)) :: B) := by rw [hlast]; exact hL2
          have hln := lst_len (forkD p c ((lst S).take k) S)
          rw [hL] at hRV hln
          have HC := hid (rins_ok hRV (by omega) c e.1.2 e.2.1 e.2.2.1 e.2.2.2 hA hB)
          clear hlast hrng hins hL hL2 hA hB hRV he hp hrd hln
          go_wp2_with fail
          refine HC.out.mono ?_
          rintro e' w3 ⟨rfl, hr3, ht3⟩
          have HR3 : Hid (Rb w3 base r (lst (forkD p c ((lst S).take (k + 1)) S))) := by rw [HL2.out]; exact hr3
          have HT3 : Hid (Touch r w w3) := HTV.out.trans ht3
          clear hr3 ht3
          go_wp2_with fail
          exact ⟨⟨k + 1, by omega, by go_num, HR3, HT3⟩, by simp [intOf]; omega⟩
        · have q2 : (e.1.1 == p) = false := beq_false_of_ne hp
          rw [if_neg hp] at hlast
          have HR3 : Hid (Rb (wr.alloc (enO e.1.1 e.1.2 e.2.1 e.2.2.1 e.2.2.2 42)) base r (lst (forkD p c ((lst S).take (k + 1)) S))) := by rw [hlast]; exact hRV
          clear hlast hRV he hp hrd
          go_wp2_with fail
          exact ⟨⟨k + 1, by omega, by go_num, HR3, HTV⟩, by simp [intOf]; omega⟩
      · have HE : Hid (Rb wr base r (lst (forkD p c (lst S) S))) := by have := HR.out; rw [List.take_of_length_le (by rw [← HN.out]; omega)] at this; exact this
        go_wp2_with fail
        go_ret
        exact ⟨rfl, HE.out, Touch.fr29 HH.out HT.out⟩
end Go.Proofs.Ytdgkajhlofpdeaa
