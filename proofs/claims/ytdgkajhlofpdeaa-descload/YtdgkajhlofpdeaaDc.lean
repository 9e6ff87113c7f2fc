/- The document's Put, Add, Dup, Close, Drop; no statement is proved in this text. -/
import Derived.Test.YtdgkajhlofpdeaaDb
namespace Go.Proofs.Ytdgkajhlofpdeaa
open Go.ChangeShapes Go.WideShapes Go.ChangeAt Go.RowKit Go.Deep
attribute [local go_sem ↓] Go.wp_at_zero Go.wp_at_succ


theorem pos_none {S : St} (h : Ins S) (k : K) (hk : S k = none) : posF (lst S) k 0 = -1 := posF_none _ _ _ fun e he hek => by
  have := (mem_lst h e).1 he
  rw [hek, hk] at this
  cases this
theorem pos_some {S : St} (h : Ins S) (k : K) (t : Tr) (hk : S k = some t) : ∃ i : Nat, i < (lst S).length ∧ posF (lst S) k 0 = (i : Int) ∧ (lst S)[i]? = some (k, t) := by
  obtain ⟨i, hi, he, hb⟩ := lst_at h k t hk
  refine ⟨i, hi, ?_, by rw [List.getElem?_eq_getElem hi, he]⟩
  have := posF_at (lst S) k 0 i hi (by rw [he]) hb
  rw [this]
  omega
theorem fr42 {w w' : World} {base r : Nat} {L : List En} (h : Rb w base r L) (hb : Below w.heap.size w w') : Fr base [29, 42] w w' := Fr.of_below _ hb (by have := h.lo; have := h.lt; omega)
set_option maxRecDepth 100000 in
set_option maxHeartbeats 1600000 in
theorem rput_ok {w : World} {base r : Nat} {S : St} (h : Rb w base r (lst S)) (hI : Ins S) (p s a b c : Int) (hp : 1 ≤ p ∧ p ≤ 6) : Calls Try.prog 41 #[pq r, ev p s a b c] w fun e w' => e = .returned (.tuple #[i64 (stI S p), i64 (stE S p)]) ∧ Rb w' base r (lst (stS S p (a, b, c))) ∧ Fr base [29, 42] w w' := by
  have HH := hid h
  have hlo := h.lo
  have hrl := h.lt
  have HB0 := hid (below_one w (enO p s a b c 42))
  have HX0 := hid (heap_last w (enO p s a b c 42))
  obtain ⟨I, hIi⟩ : ∃ I, I = stI S p := ⟨_, rfl⟩
  obtain ⟨E, hE⟩ : ∃ E, E = stE S p := ⟨_, rfl⟩
  obtain ⟨S', hS'⟩ : ∃ S', S' = stS S p (a, b, c) := ⟨_, rfl⟩
  have HI := hid hIi
  have HE := hid hE
  have HS' := hid hS'
  rw [← hIi, ← hE, ← hS']
  have HIn := hid hI
  have HPp := hid hp
  clear h hIi hE hS' hI hp
  go_enter Try.func41, Try.ntmps41
  go_wp2_with fail
  go_loopw [6] (fun i wr => ∃ (k : Nat), k ≤ 6 ∧ i = i64 k ∧ Hid (∀ j : Nat, j < k → S (p, (j : Int)) ≠ none) ∧ Hid (Below w.heap.size w wr) ∧ Hid (wr.heap[w.heap.size]? = some (enO p s a b c 42))) (fun i _ => 6 - (intOf i).toNat)
  case atStart => exact ⟨0, by omega, rfl, fun j hj => absurd hj (by omega), HB0, HX0⟩
  case round =>
    obtain ⟨k, hk, rfl, HF, HB, HX⟩ := hrel
    obtain ⟨x0, x1, x2, x3, x4⟩ := five_cells HX.out
    by_cases hlt6 : k < 6
    · have hkI : (k : Int) < 6 := by omega
      have HAt := hid (rat_ok (HH.out.below HB.out) (by have := lst_len S; omega) p (k : Int))
      rcases hS : S (p, (k : Int)) with _ | t
      · rw [pos_none HIn.out _ hS] at HAt
        obtain ⟨q1, q2, q3⟩ := st_at hlt6 (free_at hlt6 HF.out hS) (a, b, c)
        have HI2 : Hid (I = (k : Int)) := HI.out.trans q1
        have HE2 : Hid (E = 0) := HE.out.trans q2
        have HS2 : Hid (S' = upd S (p, (k : Int)) (some (a, b, c))) := HS'.out.trans q3
        obtain ⟨A, B, hL, hL2, hA, hB⟩ := lst_put HIn.out (p, (k : Int)) (a, b, c) (by have := HPp.out; simp only []; omega) hS
        have HL2 : Hid (lst S' = A ++ ((p, (k : Int)), (a, b, c)) :: B) := by rw [HS2.out]; exact hL2
        have HIns : Hid (∀ W, Rb W base r (lst S) → Calls Try.prog 23 #[pq r, ev p k a b c] W fun e w' => e = .returned (.tuple #[]) ∧ Rb w' base r (A ++ ((p, (k : Int)), (a, b, c)) :: B) ∧ Touch r W w') := fun W hW => by
          have hlen := lst_len S
          rw [hL] at hW hlen
          exact rins_ok hW (by omega) p k a b c hA hB
        clear hS q1 q2 q3 hL hL2 hA hB
        go_wp2_with fail
        refine HAt.out.mono ?_
        rintro e w2 ⟨rfl, hb2⟩
        have HB2 : Hid (Below w.heap.size w w2) := HB.out.trans (hb2.mono HB.out.size)
        have HX2 := hid (blk_below HX.out hb2)
        obtain ⟨y0, y1, y2, y3, y4⟩ := five_cells HX2.out
        have HIn2 := hid (HIns.out w2 (HH.out.below HB2.out))
        clear hb2 HAt x0 x1 x2 x3 x4
        go_wp2_with fail
        refine HIn2.out.mono ?_
        rintro e w3 ⟨rfl, hr3, ht3⟩
        have HR3 : Hid (Rb w3 base r (lst S')) := by rw [HL2.out]; exact hr3
        have HF3 : Hid (Fr base [29, 42] w w3) := (fr42 HH.out HB2.out).trans (Touch.fr29 (HH.out.below HB2.out) ht3)
        clear hr3 ht3
        go_wp2_with fail
        go_ret2
        exact ⟨by rw [HI2.out, HE2.out]; rfl, HR3.out, HF3.out⟩
      · obtain ⟨i, hi, hpos, _⟩ := pos_some HIn.out _ _ hS
        rw [hpos] at HAt
        have HF2 : Hid (∀ j : Nat, j < k + 1 → S (p, (j : Int)) ≠ none) := fun j hj => by
          by_cases hjk : j = k
          · subst hjk; rw [hS]; simp
          · exact HF.out j (by omega)
        have hi0 : ¬ ((i : Int) < 0) := by omega
        clear hS hi hpos
        go_wp2_with fail
        refine HAt.out.mono ?_
        rintro e w2 ⟨rfl, hb2⟩
        have HB2 : Hid (Below w.heap.size w w2) := HB.out.trans (hb2.mono HB.out.size)
        have HX2 := hid (blk_below HX.out hb2)
        clear hb2 HAt x0 x1 x2 x3 x4
        go_wp2_with fail
        exact ⟨⟨k + 1, by omega, by go_num, HF2, HB2, HX2⟩, by simp [intOf]; omega⟩
    · obtain rfl : k = 6 := by omega
      obtain ⟨q1, q2, q3⟩ := st_full (free_full HF.out) (a, b, c)
      have HI2 : Hid (I = 0) := HI.out.trans q1
      have HE2 : Hid (E = 5) := HE.out.trans q2
      have HT3 : Hid (Rb wr base r (lst S')) := by rw [HS'.out, q3]; exact HH.out.below HB.out
      have HF3 : Hid (Fr base [29, 42] w wr) := fr42 HH.out HB.out
      clear q1 q2 q3
      go_wp2_with fail
      go_ret2
      exact ⟨by rw [HI2.out, HE2.out]; rfl, HT3.out, HF3.out⟩
theorem rightF_p {p s a b c : Int} (h : rightF p s a b c = true) : 1 ≤ p ∧ p ≤ 6 ∧ 0 ≤ s ∧ s ≤ 5 := by
  have := of_decide_eq_true h
  unfold RightP at this
  omega
set_option maxRecDepth 100000 in
set_option maxHeartbeats 1600000 in
theorem radd_ok {w : World} {base r : Nat} {S : St} (h : Rb w base r (lst S)) (hI : Ins S) (p a b : Int) : Calls Try.prog 29 #[pq r, ev p 0 a b 0] w fun e w' => e = .returned (.tuple #[i64 (addI S p a b), i64 (addE S p a b)]) ∧ Rb w' base r (lst (addS S p a b)) ∧ Fr base [29, 42] w w' := by
  have HH := hid h
  have hlo := h.lo
  have hrl := h.lt
  have HB0 := hid (below_one w (enO p 0 a b 0 42))
  have HX0 := hid (heap_last w (enO p 0 a b 0 42))
  have HR := hid (rright_ok (w.alloc (enO p 0 a b 0 42)) p 0 a b 0)
  have hz := zero42
  unfold addI addE addS
  cases hr : rightF p 0 a b 0
  · rw [hr] at HR
    clear hr h hI
    go_enter Try.func29, Try.ntmps29
    go_wp2_with fail
    refine HR.out.mono ?_
    rintro e w1 ⟨rfl, hb1⟩
    have HB1 : Hid (Below w.heap.size w w1) := HB0.out.trans (hb1.mono HB0.out.size)
    clear hb1
    go_wp2_with fail
    go_ret2
    exact ⟨rfl, HH.out.below HB1.out, fr42 HH.out HB1.out⟩
  · have HP := hid fun W hW => rput_ok (w := W) (base := base) (r := r) hW hI p 0 a b 0 ⟨(rightF_p hr).1, (rightF_p hr).2.1⟩
    rw [hr] at HR
    rw [if_pos rfl, if_pos rfl, if_pos rfl]
    clear hr h hI
    go_enter Try.func29, Try.ntmps29
    go_wp2_with fail
    refine HR.out.mono ?_
    rintro e w1 ⟨rfl, hb1⟩
    have HB1 : Hid (Below w.heap.size w w1) := HB0.out.trans (hb1.mono HB0.out.size)
    obtain ⟨x0, x1, x2, x3, x4⟩ := five_cells (blk_below HX0.out hb1)
    have HC := hid (HP.out w1 (HH.out.below HB1.out))
    clear hb1 HR HP
    go_wp2_with fail
    refine HC.out.mono ?_
    rintro e w2 ⟨rfl, hr2, hf2⟩
    have HR2 := hid hr2
    have HF2 : Hid (Fr base [29, 42] w w2) := (fr42 HH.out HB1.out).trans hf2
    clear hr2 hf2
    go_wp2_with fail
    go_ret2
    exact ⟨rfl, HR2.out, HF2.out⟩
set_option maxRecDepth 100000 in
set_option maxHeartbeats 1600000 in
theorem rdup_ok {w : World} {base r : Nat} {S : St} (h : Rb w base r (lst S)) (hI : Ins S) (p s : Int) : Calls Try.prog 31 #[pq r, i64 p, i64 s] w fun e w' => e = .returned (.tuple #[i64 (dupI S (p, s)), i64 (dupE S (p, s))]) ∧ Rb w' base r (lst (dupS S (p, s))) ∧ Fr base [29, 42] w w' := by
  have HH := hid h
  have HAt := hid (rat_ok h (by have := lst_len S; omega) p s)
  unfold dupI dupE dupS
  rcases hS : S (p, s) with _ | ⟨a, b, c⟩
  · rw [pos_none hI _ hS] at HAt
    clear h hI hS
    go_enter Try.func31, Try.ntmps31
    go_wp2_with fail
    refine HAt.out.mono ?_
    rintro e w1 ⟨rfl, hb1⟩
    have HB1 := hid hb1
    clear hb1
    go_wp2_with fail
    go_ret2
    exact ⟨rfl, HH.out.below HB1.out, fr42 HH.out HB1.out⟩
  · obtain ⟨i, hi, hpos, hget⟩ := pos_some hI _ _ hS
    rw [hpos] at HAt
    rw [if_pos Option.isSome_some, if_pos Option.isSome_some]
    have hk := hI _ _ hS
    have HP := hid fun W hW => rput_ok (w := W) (base := base) (r := r) hW hI p s a b c ⟨hk.1, hk.2.1⟩
    obtain ⟨hlo, ao, cap, hbk, hown⟩ := h
    have hcap := own_cap hown
    obtain ⟨g, o, rfl, hgl, c0, c1, c2, c3, c4⟩ := Rd5.own hown i _ hget
    have b0 : w.cell? ⟨r, 0, none⟩ = some (.slice (some ⟨g, o, none⟩) (lst S).length cap) := blk_cell hbk 0
    have hrl := blk_lt hbk
    obtain ⟨N, hN⟩ : ∃ N, N = (lst S).length := ⟨_, rfl⟩
    rw [← hN] at b0 hi hcap
    have hiI : (i : Int) < N := by omega
    have hi0 : ¬ ((i : Int) < 0) := by omega
    clear hI hS hk hbk hown hget hpos hN
    go_enter Try.func31, Try.ntmps31
    go_wp2_with fail
    refine HAt.out.mono ?_
    rintro e w1 ⟨rfl, hb1⟩
    have HB1 := hid hb1
    have HC := hid (HP.out w1 (HH.out.below hb1))
    have d0 := (hb1.cell (p := ⟨g, o + i * 5, none⟩) hgl).trans c0
    have d1 := (hb1.cell (p := ⟨g, o + i * 5 + 1, none⟩) hgl).trans c1
    have d2 := (hb1.cell (p := ⟨g, o + i * 5 + 2, none⟩) hgl).trans c2
    have d3 := (hb1.cell (p := ⟨g, o + i * 5 + 3, none⟩) hgl).trans c3
    have d4 := (hb1.cell (p := ⟨g, o + i * 5 + 4, none⟩) hgl).trans c4
    have e0 := (hb1.cell (p := ⟨r, 0, none⟩) hrl).trans b0
    clear hb1 HAt HP c0 c1 c2 c3 c4 b0
    go_wp2_with fail
    refine HC.out.mono ?_
    rintro e w2 ⟨rfl, hr2, hf2⟩
    have HR2 := hid hr2
    have HF2 : Hid (Fr base [29, 42] w w2) := (fr42 HH.out HB1.out).trans hf2
    clear hr2 hf2
    go_wp2_with fail
    go_ret2
    exact ⟨rfl, HR2.out, HF2.out⟩
theorem cls_left {S : St} (hI : Ins S) (p s : Int) (t : Tr) (hS : S (p, s) = some t) : lst (clsS S (p, s)) = (lst S).filter (lfF p s) := by
  have hk := hI _ _ hS
  refine lst_left hI _ fun k u => ?_
  unfold clsS
  rw [hS, if_pos Option.isSome_some]
  constructor
  · intro h
    obtain ⟨h1, h2⟩ := upd_none h
    refine ⟨h2, decide_eq_true ?_⟩
    by_cases hp : k.1 = p
    · refine .inr ⟨hk.2.2.1, fun hs => h1 (Prod.ext hp hs)⟩
    · exact .inl hp
  · rintro ⟨h1, h2⟩
    rw [upd_other _ _ _ _ (fun e => ?_)]
    · exact h1
    · subst e
      have := of_decide_eq_true h2
      rcases this with h | h
      · exact h rfl
      · exact h.2 rfl
set_option maxRecDepth 100000 in
set_option maxHeartbeats 1600000 in
theorem rclose_ok {w : World} {base r : Nat} {S : St} (h : Rb w base r (lst S)) (hI : Ins S) (p s : Int) : Calls Try.prog 32 #[pq r, i64 p, i64 s] w fun e w' => e = .returned (i64 (getE S (p, s))) ∧ Rb w' base r (lst (clsS S (p, s))) ∧ Fr base [29, 42] w w' := by
  have HH := hid h
  have HAt := hid (rat_ok h (by have := lst_len S; omega) p s)
  unfold getE
  rcases hS : S (p, s) with _ | t
  · rw [pos_none hI _ hS] at HAt
    have HE : Hid (clsS S (p, s) = S) := by unfold clsS; rw [hS, if_neg (by simp)]; rfl
    clear h hI hS
    go_enter Try.func32, Try.ntmps32
    go_wp2_with fail
    refine HAt.out.mono ?_
    rintro e w1 ⟨rfl, hb1⟩
    have HB1 := hid hb1
    clear hb1
    go_wp2_with fail
    go_ret
    exact ⟨rfl, by rw [HE.out]; exact HH.out.below HB1.out, fr42 HH.out HB1.out⟩
  · obtain ⟨i, hi, hpos, hget⟩ := pos_some hI _ _ hS
    rw [hpos] at HAt
    rw [if_pos Option.isSome_some]
    have HE := hid (cls_left hI p s t hS)
    have HLf := hid fun W hW => rleft_ok (w := W) (base := base) (r := r) (L := lst S) hW (by have := lst_len S; omega) p s
    have hi0 : ¬ ((i : Int) < 0) := by omega
    have hrl := h.lt
    have hlo := h.lo
    rw [HE.out]
    generalize (lst S).filter (lfF p s) = M at *
    clear h hI hS hpos hget hi
    go_enter Try.func32, Try.ntmps32
    go_wp2_with fail
    refine HAt.out.mono ?_
    rintro e w1 ⟨rfl, hb1⟩
    have HC := hid (HLf.out w1 (HH.out.below hb1))
    have HB1 := hid hb1
    clear hb1 HLf HAt
    go_wp2_with fail
    refine HC.out.mono ?_
    rintro e w2 ⟨ao, cap, rfl, hown, hb2⟩
    have HB2 : Hid (Below w.heap.size w w2) := HB1.out.trans (hb2.mono HB1.out.size)
    obtain ⟨_, ao0, cap0, hbk, _⟩ := HH.out.below HB2.out
    have y0 := blk_cell hbk 0
    have yf := blk_frozen hbk 0
    have hsz := HB1.out.size
    have HR : Hid (Rb (w2.setCell ⟨r, 0, none⟩ (.slice ao M.length cap)) base r M) := Rb.set (B := w1.heap.size) hlo (.inr ⟨_, hbk⟩) rfl hown (by omega) (by omega)
    have HT : Hid (Fr base [29, 42] w (w2.setCell ⟨r, 0, none⟩ (.slice ao M.length cap))) := Touch.fr29 HH.out (Touch.setCell (q := r) (p := ⟨r, 0, none⟩) (Touch.of_below HB2.out) rfl _)
    clear hbk hown hb2
    go_wp2_with fail
    go_ret
    exact ⟨rfl, HR.out, HT.out⟩
/-- A process's are dropped. -/
theorem drpL_at (l : List En) (S : St) (k : K) : drpL l S k = if (∃ e ∈ l, e.1 = k) then none else S k := by
  induction l generalizing S with
  | nil => simp [drpL]
  | cons x l ih =>
    have e1 : drpL (x :: l) S = drpL l (clsS S x.1) := rfl
    rw [e1, ih]
    by_cases h : ∃ e ∈ l, e.1 = k
    · rw [if_pos h, if_pos]
      obtain ⟨e, he, hk⟩ := h
      exact ⟨e, List.mem_cons_of_mem _ he, hk⟩
    · rw [if_neg h]
      by_cases hx : x.1 = k
      · rw [if_pos ⟨x, by simp, hx⟩]
        unfold clsS
        split
        · rw [hx]; exact upd_same _ _ _
        · rename_i hn
          rw [hx] at hn
          simpa using hn
      · rw [if_neg]
        · unfold clsS
          split
          · exact upd_other _ _ _ _ (Ne.symm hx)
          · rfl
        · rintro ⟨e, he, hk⟩
          rcases List.mem_cons.1 he with rfl | he
          · exact hx hk
          · exact h ⟨e, he, hk⟩
theorem drpS_some {S : St} (hI : Ins S) (p : Int) (k : K) (t : Tr) : drpS S p k = some t ↔ (S k = some t ∧ lfF p (-1) (k, t) = true) := by
  unfold drpS
  rw [drpL_at]
  constructor
  · intro h
    split at h
    · cases h
    · rename_i hn
      refine ⟨h, decide_eq_true (.inl fun hp => hn ⟨(k, t), (mem_ofL hI p _).2 ⟨hp, h⟩, rfl⟩)⟩
  · rintro ⟨h1, h2⟩
    rw [if_neg]
    · exact h1
    · rintro ⟨e, he, rfl⟩
      have := of_decide_eq_true h2
      rcases this with h | h
      · exact h ((mem_ofL hI p e).1 he).1
      · omega
theorem drp_left {S : St} (hI : Ins S) (p : Int) : lst (drpS S p) = (lst S).filter (lfF p (-1)) := lst_left hI _ (drpS_some hI p)
theorem len_split (L : List En) (p : Int) : L.length - (L.filter (lfF p (-1))).length = (L.filter fun e => decide (e.1.1 = p)).length ∧ (L.filter (lfF p (-1))).length ≤ L.length := by
  induction L with
  | nil => simp
  | cons x l ih =>
    have hl : (l.filter (lfF p (-1))).length ≤ l.length := List.length_filter_le _ _
    by_cases hx : x.1.1 = p
    · have h1 : lfF p (-1) x = false := decide_eq_false (by omega)
      have h2 : decide (x.1.1 = p) = true := decide_eq_true hx
      rw [List.filter_cons_of_neg (by rw [h1]; simp), List.filter_cons_of_pos (by rw [h2])]
      simp only [List.length_cons]
      omega
    · have h1 : lfF p (-1) x = true := decide_eq_true (.inl hx)
      have h2 : decide (x.1.1 = p) = false := decide_eq_false hx
      rw [List.filter_cons_of_pos (by rw [h1]), List.filter_cons_of_neg (by rw [h2]; simp)]
      simp only [List.length_cons]
      omega
set_option maxRecDepth 100000 in
set_option maxHeartbeats 1600000 in
theorem rdrop_ok {w : World} {base r : Nat} {S : St} (h : Rb w base r (lst S)) (hI : Ins S) (p : Int) : Calls Try.prog 34 #[pq r, i64 p] w fun e w' => e = .returned (i64 (ofL S p).length) ∧ Rb w' base r (lst (drpS S p)) ∧ Fr base [29, 42] w w' := by
  have HH := hid h
  have HE := hid (drp_left hI p)
  have HLf := hid (rleft_ok h (by have := lst_len S; omega) p (-1))
  have hrl := h.lt
  have hlo := h.lo
  have hlen := lst_len S
  obtain ⟨hd, hle⟩ := len_split (lst S) p
  rw [← ofL_filter hI p] at hd
  rw [HE.out]
  obtain ⟨m, hm⟩ : ∃ m, m = (ofL S p).length := ⟨_, rfl⟩
  rw [← hm] at hd ⊢
  generalize (lst S).filter (lfF p (-1)) = M at *
  obtain ⟨Q, hQ⟩ : ∃ Q, Q = M.length := ⟨_, rfl⟩
  have HQ := hid hQ
  obtain ⟨N, hN⟩ : ∃ N, N = (lst S).length := ⟨_, rfl⟩
  have HN := hid hN
  rw [← hQ] at HLf hd hle
  rw [← hN] at hd hle hlen
  have hmI : (m : Int) = (N : Int) - (Q : Int) := by omega
  clear h hI hm hQ hN hd
  go_enter Try.func34, Try.ntmps34
  go_wp2_with fail
  refine HLf.out.mono ?_
  rintro e w2 ⟨ao, cap, rfl, hown, hb2⟩
  obtain ⟨_, ao0, cap0, hbk, _⟩ := HH.out.below hb2
  have y0 : w2.cell? ⟨r, 0, none⟩ = some (.slice ao0 N cap0) := by rw [HN.out]; exact blk_cell hbk 0
  have yf := blk_frozen hbk 0
  have HR : Hid (Rb (w2.setCell ⟨r, 0, none⟩ (.slice ao Q cap)) base r M) := Rb.set (B := w.heap.size) hlo (.inr ⟨_, hbk⟩) HQ.out hown (by omega) hrl
  have HT : Hid (Fr base [29, 42] w (w2.setCell ⟨r, 0, none⟩ (.slice ao Q cap))) := Touch.fr29 HH.out (Touch.setCell (q := r) (p := ⟨r, 0, none⟩) (Touch.of_below hb2) rfl _)
  have HmI := hid hmI
  clear hbk hown hb2 hmI
  go_wp2_with fail
  go_ret
  exact ⟨by rw [HmI.out]; rfl, HR.out, HT.out⟩
end Go.Proofs.Ytdgkajhlofpdeaa
