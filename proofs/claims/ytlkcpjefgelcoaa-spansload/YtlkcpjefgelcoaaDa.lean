/- The document's list in memory; Has, Is, Count, fits; no statement is proved in this text. -/
import Derived.Test.YtlkcpjefgelcoaaOd
namespace Go.Proofs.Ytlkcpjefgelcoaa
open Go.ChangeShapes Go.WideShapes Go.ChangeAt Go.RowKit Go.Deep
attribute [local go_sem ↓] Go.wp_at_zero Go.wp_at_succ

def Rb (w : World) (base r : Nat) (L : List Ar) : Prop := base ≤ r ∧ ∃ ao cap, w.heap[r]? = some (.cells #[.slice ao L.length cap] 91) ∧ w.ownsRow base 98 3 (.slice ao L.length cap) L.length (acn L)
theorem Rb.lt {w : World} {base r : Nat} {L : List Ar} (h : Rb w base r L) : r < w.heap.size := by
  obtain ⟨_, ao, cap, h1, _⟩ := h
  exact blk_lt h1
theorem Rb.lo {w : World} {base r : Nat} {L : List Ar} (h : Rb w base r L) : base ≤ r := h.1
theorem Rb.lob {w : World} {base r : Nat} {L : List Ar} (h : Rb w base r L) : base ≤ w.heap.size := Nat.le_of_lt (Nat.lt_of_le_of_lt h.lo h.lt)
theorem Rb.below {w w' : World} {base r : Nat} {L : List Ar} (h : Rb w base r L) (hb : Below w.heap.size w w') : Rb w' base r L := by
  obtain ⟨h0, ao, cap, h1, h2⟩ := h
  exact ⟨h0, ao, cap, blk_below h1 hb, own_keep1 h2 fun k hk => hb.block k (h2.lt k hk).2⟩
theorem Rb.fr {w w' : World} {base base' r : Nat} {L : List Ar} {ts : List TypeId} (h : Rb w base r L) (hf : Fr base' ts w w') (h29 : ts.contains 91 = false) (h58 : ts.contains 98 = false) : Rb w' base r L := by
  obtain ⟨h0, ao, cap, h1, h2⟩ := h
  exact ⟨h0, ao, cap, hf.kept _ _ h1 (by simp only [keeps, h29]; rfl), own_keep h2 fun k _ hk => hf.kept k _ hk (by simp only [keeps, h58]; rfl)⟩
theorem rb_new (w : World) (base : Nat) (h : base ≤ w.heap.size) : Rb (w.alloc (.cells #[.slice none 0 0] 91)) base w.heap.size [] := ⟨h, none, 0, heap_last w _, World.ownsRow_nil _ _ _ _⟩
theorem any_snoc {L : List Ar} {k : Nat} {e : Ar} {f : Ar → Bool} (h : L[k]? = some e) (h1 : (L.take k).any f = false) (h2 : f e = false) : (L.take (k + 1)).any f = false := by
  rw [take_last h, List.any_append, h1]
  simp [h2]
theorem any_at {L : List Ar} {k : Nat} {e : Ar} {f : Ar → Bool} (h : L[k]? = some e) (h2 : f e = true) : L.any f = true := List.any_eq_true.2 ⟨e, List.mem_of_getElem? h, h2⟩
theorem cnt_snoc {L : List Ar} {k : Nat} {e : Ar} (p : Int) (h : L[k]? = some e) : cntL (L.take (k + 1)) p = cntL (L.take k) p + if e.1 = p then 1 else 0 := by
  rw [take_last h, cntL_app, cntL_one]
set_option maxRecDepth 100000 in
set_option maxHeartbeats 3200000 in
theorem rhas_ok {w : World} {base r : Nat} {L : List Ar} (h : Rb w base r L) (hl : L.length ≤ 1000) (hA : ∀ a ∈ L, isA a = true) (p g : Int) : Calls Try.prog 70 #[pq r, i64 p, i64 g] w fun e w' => e = .returned (.bool (hasL L p g)) ∧ Below w.heap.size w w' := by
  have HAA := hid hA
  clear hA
  obtain ⟨hlo, ao, cap, hbk, hown⟩ := h
  have hcap := own_cap hown
  have HRd0 : Hid (Rd3 w ao L) := Rd3.own hown
  have b0 : w.cell? ⟨r, 0, none⟩ = some (.slice ao L.length cap) := blk_cell hbk 0
  obtain ⟨N, hN⟩ : ∃ N, N = L.length := ⟨_, rfl⟩
  have HN : Hid (N = L.length) := hN
  rw [← hN] at b0 hl hcap
  clear hN
  clear hbk hown
  obtain ⟨R, hR⟩ : ∃ R, R = hasL L p g := ⟨_, rfl⟩
  have HR := hid hR
  rw [← hR]
  clear hR
  go_enter Try.func70, Try.ntmps70
  go_wp2_with fail
  go_loopw [14] (fun i wr => ∃ k : Nat, k ≤ N ∧ i = i64 k ∧ Hid ((L.take k).any (withF p g) = false) ∧ Hid (Below w.heap.size w wr)) (fun i _ => N - (intOf i).toNat)
  case atStart => exact ⟨0, by omega, rfl, rfl, Below.refl _ _⟩
  case round =>
    obtain ⟨k, hk, rfl, HP, HB⟩ := hrel
    by_cases hlt : k < N
    · have hkI : (k : Int) < N := by omega
      obtain ⟨e, he⟩ : ∃ e, L[k]? = some e := ⟨_, List.getElem?_eq_getElem (by rw [← HN.out]; exact hlt)⟩
      obtain ⟨g0, o, rfl, hgl, c0, c1, c2⟩ := HRd0.out.below HB.out k e he
      have HBV : Hid (Below w.heap.size w (wr.alloc (arO e 98))) := HB.out.alloc HB.out.size _
      have HEe := hid he
      clear he
      obtain ⟨_, _, i1, i2, i3⟩ := isA_of (HAA.out e (List.mem_of_getElem? HEe.out))
      by_cases h1 : e.1 = p
      · have q1 : (e.1 == p) = true := beq_iff_eq.2 h1
        by_cases h2 : e.2.1 ≤ g
        · by_cases h3 : g < e.2.1 + e.2.2
          · have HE : Hid (R = true) := by rw [HR.out]; exact any_at HEe.out (withF_iff.2 ⟨h1, h2, h3⟩)
            clear h1
            go_wp2_with fail
            go_ret
            exact ⟨by rw [HE.out]; rfl, HBV.out⟩
          · have hw : withF p g e = false := by simp [withF]; omega
            have h3' : e.2.1 + e.2.2 ≤ g := by omega
            clear h1 h3
            have HE : Hid ((L.take (k + 1)).any (withF p g) = false) := any_snoc HEe.out HP.out hw
            clear hw
            go_wp2_with fail
            exact ⟨⟨k + 1, by omega, by go_num, HE, HBV⟩, by simp [intOf]; omega⟩
        · have hw : withF p g e = false := by simp [withF]; omega
          have h2' : g < e.2.1 := by omega
          clear h1 h2
          have HE : Hid ((L.take (k + 1)).any (withF p g) = false) := any_snoc HEe.out HP.out hw
          clear hw
          go_wp2_with fail
          exact ⟨⟨k + 1, by omega, by go_num, HE, HBV⟩, by simp [intOf]; omega⟩
      · have q1 : (e.1 == p) = false := beq_false_of_ne h1
        have hw : withF p g e = false := by simp [withF, h1]
        clear h1
        have HE : Hid ((L.take (k + 1)).any (withF p g) = false) := any_snoc HEe.out HP.out hw
        clear hw
        go_wp2_with fail
        exact ⟨⟨k + 1, by omega, by go_num, HE, HBV⟩, by simp [intOf]; omega⟩
    · have HE : Hid (R = false) := by
        have h1 := HP.out
        rw [List.take_of_length_le (by rw [← HN.out]; omega)] at h1
        rw [HR.out]
        exact h1
      go_wp2_with fail
      go_ret
      exact ⟨by rw [HE.out]; rfl, HB.out⟩
set_option maxRecDepth 100000 in
set_option maxHeartbeats 3200000 in
theorem rcount_ok {w : World} {base r : Nat} {L : List Ar} (h : Rb w base r L) (hl : L.length ≤ 1000) (p : Int) : Calls Try.prog 66 #[pq r, i64 p] w fun e w' => e = .returned (i64 (cntL L p)) ∧ Below w.heap.size w w' := by
  obtain ⟨hlo, ao, cap, hbk, hown⟩ := h
  have hcap := own_cap hown
  have HRd0 : Hid (Rd3 w ao L) := Rd3.own hown
  have b0 : w.cell? ⟨r, 0, none⟩ = some (.slice ao L.length cap) := blk_cell hbk 0
  obtain ⟨N, hN⟩ : ∃ N, N = L.length := ⟨_, rfl⟩
  have HN : Hid (N = L.length) := hN
  rw [← hN] at b0 hl hcap
  clear hN
  clear hbk hown
  go_enter Try.func66, Try.ntmps66
  go_wp2_with fail
  go_loopw [5, 13] (fun v i wr => ∃ (k n : Nat), k ≤ N ∧ n ≤ k ∧ i = i64 k ∧ v = i64 n ∧ Hid (n = cntL (L.take k) p) ∧ Hid (Below w.heap.size w wr)) (fun _ i _ => N - (intOf i).toNat)
  case atStart => exact ⟨0, 0, by omega, by omega, rfl, rfl, rfl, Below.refl _ _⟩
  case round =>
    obtain ⟨k, n, hk, hn, rfl, rfl, HP, HB⟩ := hrel
    by_cases hlt : k < N
    · have hkI : (k : Int) < N := by omega
      obtain ⟨e, he⟩ : ∃ e, L[k]? = some e := ⟨_, List.getElem?_eq_getElem (by rw [← HN.out]; exact hlt)⟩
      obtain ⟨g0, o, rfl, hgl, c0, c1, c2⟩ := HRd0.out.below HB.out k e he
      have HBV : Hid (Below w.heap.size w (wr.alloc (arO e 98))) := HB.out.alloc HB.out.size _
      have HEe := hid he
      clear he
      by_cases h1 : e.1 = p
      · have q1 : (e.1 == p) = true := beq_iff_eq.2 h1
        have HE : Hid (n + 1 = cntL (L.take (k + 1)) p) := by rw [Hid, cnt_snoc p HEe.out, if_pos h1, HP.out]
        clear h1
        go_wp2_with fail
        exact ⟨⟨k + 1, n + 1, by omega, by omega, by go_num, by go_num, HE, HBV⟩, by simp [intOf]; omega⟩
      · have q1 : (e.1 == p) = false := beq_false_of_ne h1
        have HE : Hid (n = cntL (L.take (k + 1)) p) := by rw [Hid, cnt_snoc p HEe.out, if_neg h1, HP.out]; rfl
        clear h1
        go_wp2_with fail
        exact ⟨⟨k + 1, n, by omega, by omega, by go_num, rfl, HE, HBV⟩, by simp [intOf]; omega⟩
    · have HE : Hid (n = cntL L p) := by
        have h1 := HP.out
        rw [List.take_of_length_le (by rw [← HN.out]; omega)] at h1
        exact h1
      go_wp2_with fail
      go_ret
      exact ⟨by rw [← HE.out]; rfl, HB.out⟩
set_option maxRecDepth 100000 in
set_option maxHeartbeats 3200000 in
theorem ris_ok (w : World) (a : Ar) : Calls Try.prog 69 #[av a] w fun e w' => e = .returned (.bool (isA a)) ∧ Below w.heap.size w w' := by
  have HB := hid (below_one w (arO a 98))
  by_cases h0 : 0 < a.1
  · by_cases h1 : a.1 < 7
    · by_cases h2 : 0 ≤ a.2.1
      · by_cases h3 : a.2.1 < 16
        · by_cases h4 : 0 < a.2.2
          · by_cases h5 : a.2.2 < 17
            · have q : isA a = decide (a.2.1 + a.2.2 < 17) := by simp only [isA]; exact decide_eq_decide.2 (by omega)
              rw [q]
              clear q
              go_enter Try.func69, Try.ntmps69
              go_wp2_with fail
              go_ret
              exact ⟨rfl, HB.out⟩
            · have q : isA a = false := by simp only [isA]; exact decide_eq_false (by omega)
              rw [q]
              have h5' : 17 ≤ a.2.2 := by omega
              clear q h5
              go_enter Try.func69, Try.ntmps69
              go_wp2_with fail
              go_ret
              exact ⟨rfl, HB.out⟩
          · have q : isA a = false := by simp only [isA]; exact decide_eq_false (by omega)
            rw [q]
            have h4' : a.2.2 ≤ 0 := by omega
            clear q h4
            go_enter Try.func69, Try.ntmps69
            go_wp2_with fail
            go_ret
            exact ⟨rfl, HB.out⟩
        · have q : isA a = false := by simp only [isA]; exact decide_eq_false (by omega)
          rw [q]
          have h3' : 16 ≤ a.2.1 := by omega
          clear q h3
          go_enter Try.func69, Try.ntmps69
          go_wp2_with fail
          go_ret
          exact ⟨rfl, HB.out⟩
      · have q : isA a = false := by simp only [isA]; exact decide_eq_false (by omega)
        rw [q]
        have h2' : a.2.1 < 0 := by omega
        clear q h2
        go_enter Try.func69, Try.ntmps69
        go_wp2_with fail
        go_ret
        exact ⟨rfl, HB.out⟩
    · have q : isA a = false := by simp only [isA]; exact decide_eq_false (by omega)
      rw [q]
      have h1' : 7 ≤ a.1 := by omega
      clear q h1
      go_enter Try.func69, Try.ntmps69
      go_wp2_with fail
      go_ret
      exact ⟨rfl, HB.out⟩
  · have q : isA a = false := by simp only [isA]; exact decide_eq_false (by omega)
    rw [q]
    have h0' : a.1 ≤ 0 := by omega
    clear q h0
    go_enter Try.func69, Try.ntmps69
    go_wp2_with fail
    go_ret
    exact ⟨rfl, HB.out⟩
set_option maxRecDepth 100000 in
set_option maxHeartbeats 3200000 in
theorem rfits_ok {w : World} {base r : Nat} {L : List Ar} (h : Rb w base r L) (hl : L.length ≤ 1000) (hA : ∀ a ∈ L, isA a = true) (a : Ar) : Calls Try.prog 65 #[pq r, av a] w fun e w' => e = .returned (.bool (fitB L a)) ∧ Below w.heap.size w w' := by
  have HR := hid h
  have HAA := hid hA
  have HB0 := hid (below_one w (arO a 98))
  have HX0 := hid (heap_last w (arO a 98))
  have HC := hid (ris_ok (w.alloc (arO a 98)) a)
  clear h hA
  obtain ⟨F, hF⟩ : ∃ F, F = fitB L a := ⟨_, rfl⟩
  have HF := hid hF
  rw [← hF]
  clear hF
  cases hi : isA a
  · rw [hi] at HC
    have HE : Hid (F = false) := by show F = false; rw [HF.out]; simp [fitB, hi]
    clear hi
    go_enter Try.func65, Try.ntmps65
    go_wp2_with fail
    refine HC.out.mono ?_
    rintro e w1 ⟨rfl, hb1⟩
    have HB1 : Hid (Below w.heap.size w w1) := HB0.out.trans (hb1.mono HB0.out.size)
    clear hb1 HC
    go_wp2_with fail
    go_ret
    exact ⟨by rw [HE.out]; rfl, HB1.out⟩
  · rw [hi] at HC
    obtain ⟨_, _, i1, i2, i3⟩ := isA_of hi
    have HIi := hid hi
    clear hi
    go_enter Try.func65, Try.ntmps65
    go_wp2_with fail
    refine HC.out.mono ?_
    rintro e w1 ⟨rfl, hb1⟩
    have HB1 : Hid (Below w.heap.size w w1) := HB0.out.trans (hb1.mono HB0.out.size)
    have HX1 := hid (blk_below HX0.out hb1)
    obtain ⟨x0, x1, x2⟩ := three_cells HX1.out
    clear hb1 HC
    go_wp2_with fail
    go_loopw [5] (fun i wr => ∃ (k : Nat), (k : Int) ≤ a.2.2 ∧ i = i64 (a.2.1 + k) ∧ Hid (∀ g, a.2.1 ≤ g → g < a.2.1 + k → hasL L a.1 g = false) ∧ Hid (Below w.heap.size w wr) ∧ Hid (wr.heap[w.heap.size]? = some (arO a 98))) (fun i _ => (a.2.1 + a.2.2 - intOf i).toNat)
    case atStart => exact ⟨0, by omega, by simp, fun g h1 h2 => by omega, HB1, HX1⟩
    case round =>
      obtain ⟨k, hk, rfl, HP, HB, HX⟩ := hrel
      clear x0 x1 x2
      obtain ⟨x0, x1, x2⟩ := three_cells HX.out
      obtain ⟨pg, hpg⟩ : ∃ pg, pg = a.2.1 + (k : Int) := ⟨_, rfl⟩
      have hp1 : a.2.1 ≤ pg := by omega
      have hp2 : pg ≤ a.2.1 + a.2.2 := by omega
      have HPG := hid hpg
      rw [← hpg] at HP ⊢
      by_cases hlt : (k : Int) < a.2.2
      · have hp3 : pg < a.2.1 + a.2.2 := by omega
        have HH := hid (rhas_ok (HR.out.below HB.out) hl HAA.out a.1 pg)
        clear hpg
        cases hh : hasL L a.1 pg
        · rw [hh] at HH
          have HP2 : Hid (∀ g, a.2.1 ≤ g → g < a.2.1 + ((k + 1 : Nat) : Int) → hasL L a.1 g = false) := fun g h1 h2 => by
            by_cases hg : g < pg
            · exact HP.out g h1 hg
            · have : g = pg := by have := HPG.out; omega
              rw [this]; exact hh
          clear hh
          go_wp2_with fail
          refine HH.out.mono ?_
          rintro e w2 ⟨rfl, hb2⟩
          have HB2 : Hid (Below w.heap.size w w2) := HB.out.trans (hb2.mono HB.out.size)
          have HX2 := hid (blk_below HX.out hb2)
          clear hb2 HH x0 x1 x2
          go_wp2_with fail
          exact ⟨⟨k + 1, by omega, by have := HPG.out; simp only [Value.int.injEq, true_and]; push_cast; omega, HP2, HB2, HX2⟩, by have := HPG.out; simp [intOf]; omega⟩
        · rw [hh] at HH
          have HE : Hid (F = false) := by
            show F = false
            rw [HF.out, fitB, meet_page hp1 hp3 hh]
            simp
          clear hh
          go_wp2_with fail
          refine HH.out.mono ?_
          rintro e w2 ⟨rfl, hb2⟩
          have HB2 : Hid (Below w.heap.size w w2) := HB.out.trans (hb2.mono HB.out.size)
          clear hb2 HH x0 x1 x2
          go_wp2_with fail
          go_ret
          exact ⟨by rw [HE.out]; rfl, HB2.out⟩
      · have hp3 : ¬ pg < a.2.1 + a.2.2 := by omega
        have HE : Hid (F = true) := by
          rw [HF.out, fitB, HIi.out, page_meet HAA.out i2 (fun g h1 h2 => HP.out g h1 (by omega))]
          rfl
        clear hpg
        go_wp2_with fail
        go_ret
        exact ⟨by rw [HE.out]; rfl, HB.out⟩
end Go.Proofs.Ytlkcpjefgelcoaa
