/- QuotaFree's walk; no statement is proved in this text. -/
import Derived.Test.YtfnhiefngbcnaaaApartW
namespace Go.Proofs.Ytfnhiefngbcnaaa
open Go.ChangeShapes Go.WideShapes Go.ChangeAt Go.RowKit Go.Deep

/-- What is left of the first m environments. -/
def ps (s : St) (g : T → Int) : Nat → Int
  | 0 => 0
  | m + 1 => ps s g m + g (lfT (at_ s ((m : Int) + 1)))
theorem lf_eq (o : Option Pge) : lfT o = sub (qT o) (hT o) := by
  cases o with
  | none => simp [lfT, qT, hT, sub, zT]
  | some x => rfl
theorem lf_bd {t : T} {s : St} (h : Wf t s) (env : Int) : 0 ≤ (lfT (at_ s env)).a ∧ (lfT (at_ s env)).a ≤ 64 ∧ 0 ≤ (lfT (at_ s env)).b ∧ (lfT (at_ s env)).b ≤ 64 ∧ 0 ≤ (lfT (at_ s env)).c ∧ (lfT (at_ s env)).c ≤ 64 := by
  cases hx : at_ s env with
  | none => exact ⟨by decide, by decide, by decide, by decide, by decide, by decide⟩
  | some x =>
    have h1 := h.le_at (at_some hx).2.2
    have h2 := h.le64 (at_some hx).2.2
    obtain ⟨a0, a1, b0, b1, c0, c1⟩ := h1
    have a2 := h2.a1; have b2 := h2.b1; have c2 := h2.c1
    simp only at a2 b2 c2
    simp only [lfT, sub]
    omega
theorem ps_bd {t : T} {s : St} (h : Wf t s) : ∀ m : Nat, (0 ≤ ps s (·.a) m ∧ ps s (·.a) m ≤ 64 * m) ∧ (0 ≤ ps s (·.b) m ∧ ps s (·.b) m ≤ 64 * m) ∧ (0 ≤ ps s (·.c) m ∧ ps s (·.c) m ≤ 64 * m)
  | 0 => by simp [ps]
  | m + 1 => by
    have ih := ps_bd h m
    have hl := lf_bd h ((m : Int) + 1)
    simp only [ps]
    omega
theorem ps_le {t : T} {s : St} (h : Wf t s) : ps s (·.a) 3 ≤ (freeT t s).a ∧ ps s (·.b) 3 ≤ (freeT t s).b ∧ ps s (·.c) 3 ≤ (freeT t s).c := by
  have hf : freeT t s = sub t (add (add (hT (s 0)) (hT (s 1))) (hT (s 2))) := by unfold freeT; rw [lessT_sum, sum_h]
  have := h.sa
  have := h.sb
  have := h.sc
  rw [hf]
  simp only [ps, sub, add]
  have f0 : at_ s (((0 : Nat) : Int) + 1) = s 0 := rfl
  have f1 : at_ s (((1 : Nat) : Int) + 1) = s 1 := rfl
  have f2 : at_ s (((2 : Nat) : Int) + 1) = s 2 := rfl
  rw [f0, f1, f2, lf_eq, lf_eq, lf_eq]
  simp only [sub]
  omega
set_option maxRecDepth 100000 in
set_option maxHeartbeats 1000000 in
theorem free_out (w : World) (t : T) (ao : Option Addr) (len cap : Nat) (hlen : len ≤ maxLen) (h : outB 0 64 t.l = true ∨ 100 < len) :
    Calls Try.prog 4 #[t.v, .slice ao len cap] w fun e w' => e = .returned (.bool true) ∧ Below w.heap.size w w' := by
  unfold maxLen at hlen
  obtain ⟨V, hV⟩ : ∃ V, V = w.alloc (triO t) := ⟨_, rfl⟩
  have HV : Hid (w.alloc (Obj.cells #[i64 t.a, i64 t.b, i64 t.c] 22) = V) := hV.symm
  have HQ0 : Hid (V.heap[w.heap.size]? = some (triO t)) := by rw [hV]; exact heap_last w _
  have HB0 : Hid (Below w.heap.size w V) := by rw [hV]; exact (Below.refl _ _).alloc (Nat.le_refl _) _
  clear hV
  by_cases ho : outB 0 64 t.l = true
  · have HO : Hid (outB 0 64 t.l = true) := ho
    clear h ho
    go_enter Try.func4, Try.ntmps4
    go_wp2_with fail
    rw [HV.out]
    refine (new_no V t HO.out).mono ?_
    rintro e w1 ⟨rfl, hb1⟩
    have HB1 : Hid (Below w.heap.size w w1) := HB0.out.trans (hb1.mono HB0.out.size)
    have hq1 := blk_below HQ0.out hb1
    have c0 : w1.cell? ⟨w.heap.size, 0, none⟩ = some (i64 t.a) := blk_cell hq1 0
    have c1 : w1.cell? ⟨w.heap.size, 1, none⟩ = some (i64 t.b) := blk_cell hq1 1
    have c2 : w1.cell? ⟨w.heap.size, 2, none⟩ = some (i64 t.c) := blk_cell hq1 2
    clear hb1 hq1
    go_wp2_with fail
    refine (right_no w1 t HO.out).mono ?_
    rintro e w2 ⟨rfl, hb2⟩
    have HB2 : Hid (Below w.heap.size w w2) := HB1.out.trans (hb2.mono HB1.out.size)
    clear hb2
    go_wp2_with fail
    refine (five_ok _).mono ?_
    rintro e w6 ⟨rfl, hb6⟩
    have HB6 : Hid (Below w.heap.size w w6) := HB2.out.trans (hb6.mono HB2.out.size)
    clear hb6
    go_wp2_with fail
    go_ret
    exact ⟨rfl, HB6.out⟩
  · have HO : Hid (outB 0 64 t.l = false) := (by simpa using ho : outB 0 64 t.l = false)
    have hl : (100 : Int) < len := by rcases h with h | h; exact absurd h ho; omega
    clear h ho
    go_enter Try.func4, Try.ntmps4
    go_wp2_with fail
    rw [HV.out]
    refine (new_ok V t HO.out).mono ?_
    rintro e w1 ⟨rfl, hb1, _, _⟩
    have HB1 : Hid (Below w.heap.size w w1) := HB0.out.trans (hb1.mono HB0.out.size)
    have hq1 := blk_below HQ0.out hb1
    have c0 : w1.cell? ⟨w.heap.size, 0, none⟩ = some (i64 t.a) := blk_cell hq1 0
    have c1 : w1.cell? ⟨w.heap.size, 1, none⟩ = some (i64 t.b) := blk_cell hq1 1
    have c2 : w1.cell? ⟨w.heap.size, 2, none⟩ = some (i64 t.c) := blk_cell hq1 2
    clear hb1 hq1
    go_wp2_with fail
    refine (right_yes w1 t HO.out).mono ?_
    rintro e w2 ⟨rfl, hb2⟩
    have HB2 : Hid (Below w.heap.size w w2) := HB1.out.trans (hb2.mono HB1.out.size)
    clear hb2
    go_wp2_with fail
    refine (five_ok _).mono ?_
    rintro e w6 ⟨rfl, hb6⟩
    have HB6 : Hid (Below w.heap.size w w6) := HB2.out.trans (hb6.mono HB2.out.size)
    clear hb6
    go_wp2_with fail
    go_ret
    exact ⟨rfl, HB6.out⟩

set_option maxRecDepth 100000 in
set_option maxHeartbeats 4000000 in
theorem free_in (w : World) (t : T) (ao : Option Addr) (len cap : Nat) (f : Nat → Sp) (ho : outB 0 64 t.l = false) (hl : len ≤ 100) (hst : SSl w ao len f) (hrg : ∀ i, i < len → (f i).rng) :
    Calls Try.prog 4 #[t.v, .slice ao len cap] w fun e w' => e = .returned (.bool true) ∧ Below w.heap.size w w' := by
  obtain ⟨V, hV⟩ : ∃ V, V = w.alloc (triO t) := ⟨_, rfl⟩
  have HV : Hid (w.alloc (Obj.cells #[i64 t.a, i64 t.b, i64 t.c] 22) = V) := hV.symm
  have HQ0 : Hid (V.heap[w.heap.size]? = some (triO t)) := by rw [hV]; exact heap_last w _
  have HB0 : Hid (Below w.heap.size w V) := by rw [hV]; exact (Below.refl _ _).alloc (Nat.le_refl _) _
  have HO : Hid (outB 0 64 t.l = false) := ho
  have HST : Hid (SSl w ao len f) := hst
  have HRG : Hid (∀ i, i < len → (f i).rng) := hrg
  have hlI : (len : Int) ≤ 100 := by omega
  clear hV ho hst hrg
  go_enter Try.func4, Try.ntmps4
  go_wp2_with fail
  rw [HV.out]
  refine (new_ok V t HO.out).mono ?_
  rintro e w1 ⟨rfl, hb1, hk1, hz1⟩
  have HK1 : Hid (Bk w1 V.heap.size (V.heap.size + 1) t (fun _ => none)) := hk1
  have HB1 : Hid (Below w.heap.size w w1) := HB0.out.trans (hb1.mono HB0.out.size)
  have HQ1 : Hid (w1.heap[w.heap.size]? = some (triO t)) := blk_below HQ0.out hb1
  have c0 : w1.cell? ⟨w.heap.size, 0, none⟩ = some (i64 t.a) := blk_cell HQ1.out 0
  have c1 : w1.cell? ⟨w.heap.size, 1, none⟩ = some (i64 t.b) := blk_cell HQ1.out 1
  have c2 : w1.cell? ⟨w.heap.size, 2, none⟩ = some (i64 t.c) := blk_cell HQ1.out 2
  have hs1 := hb1.size
  clear hb1 hk1
  go_wp2_with fail
  refine (right_yes w1 t HO.out).mono ?_
  rintro e w2 ⟨rfl, hb2⟩
  have HB2 : Hid (Below w.heap.size w w2) := HB1.out.trans (hb2.mono HB1.out.size)
  have HQ2 : Hid (w2.heap[w.heap.size]? = some (triO t)) := blk_below HQ1.out hb2
  have d0 : w2.cell? ⟨w.heap.size, 0, none⟩ = some (i64 t.a) := blk_cell HQ2.out 0
  have d1 : w2.cell? ⟨w.heap.size, 1, none⟩ = some (i64 t.b) := blk_cell HQ2.out 1
  have d2 : w2.cell? ⟨w.heap.size, 2, none⟩ = some (i64 t.c) := blk_cell HQ2.out 2
  have hs2 := hb2.size
  have HK2 : Hid (Bk w2 V.heap.size (V.heap.size + 1) t (fun _ => none)) := HK1.out.below hb2
  obtain ⟨base, hbase⟩ : ∃ b, b = V.heap.size := ⟨_, rfl⟩
  have HT3 : Hid (Two (w2.alloc (.cells #[i64 t.a, i64 t.b, i64 t.c, .slice none 0 0] 33)) base (V.heap.size + 1) w2.heap.size t (fun _ => none) []) := by
    rw [hbase]
    exact ⟨HK2.out.below ((Below.refl _ _).alloc (Nat.le_refl _) _), rb_new w2 _ t (by omega), rel_nil⟩
  have HB3 : Hid (Below w.heap.size w (w2.alloc (.cells #[i64 t.a, i64 t.b, i64 t.c, .slice none 0 0] 33))) := HB2.out.alloc HB2.out.size _
  have hbs : w.heap.size ≤ base := by rw [hbase]; exact HB0.out.size
  clear hb2 hbase
  go_wp2_with fail
  go_loopw [41] (fun i wr => ∃ (k : Nat) (s : St) (L : List Pr), k ≤ len ∧ i = i64 k ∧ Two wr base (V.heap.size + 1) w2.heap.size t s L ∧ Below w.heap.size w wr) (fun i _ => len - (intOf i).toNat)
  case atStart => exact ⟨0, _, _, by omega, rfl, HT3.out, HB3.out⟩
  case round =>
    obtain ⟨k, s, L, hk, rfl, htw, hbw⟩ := hrel
    have HB : Hid (Below w.heap.size w wr) := hbw
    by_cases hlt : k < len
    · obtain ⟨B, off, rfl, hBl, e0, e1, e2, e3, e4, e5, e6⟩ := (HST.out.below hbw).at hlt
      have HX : Hid (f k).rng := HRG.out k hlt
      generalize f k = x at *
      have HTA : Hid (Two (wr.alloc (spO x)) base (V.heap.size + 1) w2.heap.size t s L) := htw.below ((Below.refl _ _).alloc (Nat.le_refl _) _)
      clear htw hbw
      go_wp2_with fail
      refine (does_ok HTA.out x HX.out).mono ?_
      rintro e w4 ⟨rfl, s4, L4, htw4, _, hf4⟩
      have HT4 : Hid (Two w4 base (V.heap.size + 1) w2.heap.size t s4 L4) := htw4
      have HB4 : Hid (Below w.heap.size w w4) := (HB.out.alloc HB.out.size _).trans (hf4.below.mono hbs)
      clear htw4 hf4
      go_wp2_with fail
      refine (free_ok HT4.out.k).mono ?_
      rintro e w5 ⟨rfl, hb5⟩
      have HB5 : Hid (Below w.heap.size w w5) := HB4.out.trans (hb5.mono HB4.out.size)
      have HT5 : Hid (Two w5 base (V.heap.size + 1) w2.heap.size t s4 L4) := HT4.out.below hb5
      obtain ⟨pl1, pl2, pl3⟩ := ps_le HT4.out.k.wf
      have HPB : Hid (∀ m : Nat, (0 ≤ ps s4 (·.a) m ∧ ps s4 (·.a) m ≤ 64 * m) ∧ (0 ≤ ps s4 (·.b) m ∧ ps s4 (·.b) m ≤ 64 * m) ∧ (0 ≤ ps s4 (·.c) m ∧ ps s4 (·.c) m ≤ 64 * m)) := ps_bd HT4.out.k.wf
      have HLB : Hid (∀ env : Int, 0 ≤ (lfT (at_ s4 env)).a ∧ (lfT (at_ s4 env)).a ≤ 64 ∧ 0 ≤ (lfT (at_ s4 env)).b ∧ (lfT (at_ s4 env)).b ≤ 64 ∧ 0 ≤ (lfT (at_ s4 env)).c ∧ (lfT (at_ s4 env)).c ≤ 64) := lf_bd HT4.out.k.wf
      generalize freeT t s4 = FT at *
      have HT6 : Hid (Two (w5.alloc (triO FT)) base (V.heap.size + 1) w2.heap.size t s4 L4) := HT5.out.below ((Below.refl _ _).alloc (Nat.le_refl _) _)
      have HB6 : Hid (Below w.heap.size w (w5.alloc (triO FT))) := HB5.out.alloc HB5.out.size _
      have HF6 : Hid ((w5.alloc (triO FT)).heap[w5.heap.size]? = some (triO FT)) := heap_last w5 _
      obtain ⟨Q, hQ⟩ : ∃ Q, Q = w5.heap.size := ⟨_, rfl⟩
      have HQQ : Hid (w5.heap.size = Q) := hQ.symm
      rw [← hQ] at HF6
      clear hb5 hQ
      go_wp2_with fail
      rw [HQQ.out]
      go_loopw [11] (fun i wm => ∃ j : Nat, j ≤ 3 ∧ i = i64 j ∧ Two wm base (V.heap.size + 1) w2.heap.size t s4 L4 ∧ Below w.heap.size w wm ∧ wm.heap[Q]? = some (triO FT)) (fun i _ => 3 - (intOf i).toNat)
      case atStart => exact ⟨0, by omega, rfl, HT6.out, HB6.out, HF6.out⟩
      case round =>
        obtain ⟨j, hj, rfl, htm, hbm, hfm⟩ := hrel
        have HTM : Hid (Two wr base (V.heap.size + 1) w2.heap.size t s4 L4) := htm
        have HBM : Hid (Below w.heap.size w wr) := hbm
        have HFM : Hid (wr.heap[Q]? = some (triO FT)) := hfm
        clear htm hbm hfm
        obtain rfl | rfl | rfl | rfl : j = 0 ∨ j = 1 ∨ j = 2 ∨ j = 3 := by omega
        · rw [show i64 ((0 : Nat) : Int) = i64 0 from rfl]
          go_wp2_with fail
          go_loopw [12, 13] (fun sm ev wq => ∃ m : Nat, m ≤ 3 ∧ ev = i64 ((m : Int) + 1) ∧ sm = i64 (ps s4 (·.a) m) ∧ Two wq base (V.heap.size + 1) w2.heap.size t s4 L4 ∧ Below w.heap.size w wq ∧ wq.heap[Q]? = some (triO FT)) (fun _ ev _ => 4 - (intOf ev).toNat)
          case atStart => exact ⟨0, by omega, rfl, rfl, HTM.out, HBM.out, HFM.out⟩
          case round =>
            obtain ⟨m, hm, rfl, rfl, htq, hbq, hfq⟩ := hrel
            have HTQ : Hid (Two wr base (V.heap.size + 1) w2.heap.size t s4 L4) := htq
            have HBQ : Hid (Below w.heap.size w wr) := hbq
            have HFQ : Hid (wr.heap[Q]? = some (triO FT)) := hfq
            obtain ⟨b1, b2⟩ := (HPB.out m).1
            by_cases hlm : m < 3
            · have hmI : (m : Int) + 1 < 4 := by omega
              have b3 := (HLB.out ((m : Int) + 1)).1
              have b4 := (HLB.out ((m : Int) + 1)).2.1
              have HPS : Hid (ps s4 (·.a) (m + 1) = ps s4 (·.a) m + (lfT (at_ s4 ((m : Int) + 1))).a) := rfl
              clear htq hbq hfq
              generalize hA : at_ s4 ((m : Int) + 1) = A at *
              have HA : Hid (at_ s4 ((m : Int) + 1) = A) := hA
              clear hA
              generalize ps s4 (·.a) m = S at *
              go_wp2_with fail
              refine (left_ok HTQ.out.k ((m : Int) + 1)).mono ?_
              rintro e w7 ⟨rfl, hb7⟩
              rw [HA.out]
              have HB7 : Hid (Below w.heap.size w w7) := HBQ.out.trans (hb7.mono HBQ.out.size)
              have HT7 : Hid (∀ o, Two (w7.alloc o) base (V.heap.size + 1) w2.heap.size t s4 L4) := fun o => (HTQ.out.below hb7).below ((Below.refl _ _).alloc (Nat.le_refl _) _)
              have HF7 : Hid (∀ o, (w7.alloc o).heap[Q]? = some (triO FT)) := fun o => blk_alloc (blk_below HFQ.out hb7) o
              clear hb7
              generalize lfT A = F1 at *
              generalize pE A = P1 at *
              by_cases hp0 : P1 = 0
              · have hp : (P1 == 0) = true := by simpa using hp0
                clear hp0
                go_wp2_with fail
                exact ⟨⟨m + 1, by omega, by go_num, by rw [HPS.out], HT7.out _, HB7.out.alloc HB7.out.size _, HF7.out _⟩, by simp [intOf]; omega⟩
              · have hp : (P1 == 0) = false := by simpa using hp0
                clear hp0
                go_wp2_with fail
                exact ⟨⟨m + 1, by omega, by go_num, by rw [HPS.out], HT7.out _, HB7.out.alloc HB7.out.size _, HF7.out _⟩, by simp [intOf]; omega⟩
            · obtain rfl : m = 3 := by omega
              have d0 : wr.cell? ⟨Q, 0, none⟩ = some (i64 FT.a) := blk_cell hfq 0
              clear htq hbq hfq
              generalize ps s4 (·.a) 3 = S at *
              go_wp2_with fail
              exact ⟨⟨1, by omega, by go_num, HTQ.out, HBQ.out, HFQ.out⟩, by simp [intOf]⟩
        · rw [show i64 ((1 : Nat) : Int) = i64 1 from rfl]
          go_wp2_with fail
          go_loopw [12, 13] (fun sm ev wq => ∃ m : Nat, m ≤ 3 ∧ ev = i64 ((m : Int) + 1) ∧ sm = i64 (ps s4 (·.b) m) ∧ Two wq base (V.heap.size + 1) w2.heap.size t s4 L4 ∧ Below w.heap.size w wq ∧ wq.heap[Q]? = some (triO FT)) (fun _ ev _ => 4 - (intOf ev).toNat)
          case atStart => exact ⟨0, by omega, rfl, rfl, HTM.out, HBM.out, HFM.out⟩
          case round =>
            obtain ⟨m, hm, rfl, rfl, htq, hbq, hfq⟩ := hrel
            have HTQ : Hid (Two wr base (V.heap.size + 1) w2.heap.size t s4 L4) := htq
            have HBQ : Hid (Below w.heap.size w wr) := hbq
            have HFQ : Hid (wr.heap[Q]? = some (triO FT)) := hfq
            obtain ⟨b1, b2⟩ := (HPB.out m).2.1
            by_cases hlm : m < 3
            · have hmI : (m : Int) + 1 < 4 := by omega
              have b3 := (HLB.out ((m : Int) + 1)).2.2.1
              have b4 := (HLB.out ((m : Int) + 1)).2.2.2.1
              have HPS : Hid (ps s4 (·.b) (m + 1) = ps s4 (·.b) m + (lfT (at_ s4 ((m : Int) + 1))).b) := rfl
              clear htq hbq hfq
              generalize hA : at_ s4 ((m : Int) + 1) = A at *
              have HA : Hid (at_ s4 ((m : Int) + 1) = A) := hA
              clear hA
              generalize ps s4 (·.b) m = S at *
              go_wp2_with fail
              refine (left_ok HTQ.out.k ((m : Int) + 1)).mono ?_
              rintro e w7 ⟨rfl, hb7⟩
              rw [HA.out]
              have HB7 : Hid (Below w.heap.size w w7) := HBQ.out.trans (hb7.mono HBQ.out.size)
              have HT7 : Hid (∀ o, Two (w7.alloc o) base (V.heap.size + 1) w2.heap.size t s4 L4) := fun o => (HTQ.out.below hb7).below ((Below.refl _ _).alloc (Nat.le_refl _) _)
              have HF7 : Hid (∀ o, (w7.alloc o).heap[Q]? = some (triO FT)) := fun o => blk_alloc (blk_below HFQ.out hb7) o
              clear hb7
              generalize lfT A = F1 at *
              generalize pE A = P1 at *
              by_cases hp0 : P1 = 0
              · have hp : (P1 == 0) = true := by simpa using hp0
                clear hp0
                go_wp2_with fail
                exact ⟨⟨m + 1, by omega, by go_num, by rw [HPS.out], HT7.out _, HB7.out.alloc HB7.out.size _, HF7.out _⟩, by simp [intOf]; omega⟩
              · have hp : (P1 == 0) = false := by simpa using hp0
                clear hp0
                go_wp2_with fail
                exact ⟨⟨m + 1, by omega, by go_num, by rw [HPS.out], HT7.out _, HB7.out.alloc HB7.out.size _, HF7.out _⟩, by simp [intOf]; omega⟩
            · obtain rfl : m = 3 := by omega
              have d0 : wr.cell? ⟨Q, 1, none⟩ = some (i64 FT.b) := blk_cell hfq 1
              clear htq hbq hfq
              generalize ps s4 (·.b) 3 = S at *
              go_wp2_with fail
              exact ⟨⟨2, by omega, by go_num, HTQ.out, HBQ.out, HFQ.out⟩, by simp [intOf]⟩
        · rw [show i64 ((2 : Nat) : Int) = i64 2 from rfl]
          go_wp2_with fail
          go_loopw [12, 13] (fun sm ev wq => ∃ m : Nat, m ≤ 3 ∧ ev = i64 ((m : Int) + 1) ∧ sm = i64 (ps s4 (·.c) m) ∧ Two wq base (V.heap.size + 1) w2.heap.size t s4 L4 ∧ Below w.heap.size w wq ∧ wq.heap[Q]? = some (triO FT)) (fun _ ev _ => 4 - (intOf ev).toNat)
          case atStart => exact ⟨0, by omega, rfl, rfl, HTM.out, HBM.out, HFM.out⟩
          case round =>
            obtain ⟨m, hm, rfl, rfl, htq, hbq, hfq⟩ := hrel
            have HTQ : Hid (Two wr base (V.heap.size + 1) w2.heap.size t s4 L4) := htq
            have HBQ : Hid (Below w.heap.size w wr) := hbq
            have HFQ : Hid (wr.heap[Q]? = some (triO FT)) := hfq
            obtain ⟨b1, b2⟩ := (HPB.out m).2.2
            by_cases hlm : m < 3
            · have hmI : (m : Int) + 1 < 4 := by omega
              have b3 := (HLB.out ((m : Int) + 1)).2.2.2.2.1
              have b4 := (HLB.out ((m : Int) + 1)).2.2.2.2.2
              have HPS : Hid (ps s4 (·.c) (m + 1) = ps s4 (·.c) m + (lfT (at_ s4 ((m : Int) + 1))).c) := rfl
              clear htq hbq hfq
              generalize hA : at_ s4 ((m : Int) + 1) = A at *
              have HA : Hid (at_ s4 ((m : Int) + 1) = A) := hA
              clear hA
              generalize ps s4 (·.c) m = S at *
              go_wp2_with fail
              refine (left_ok HTQ.out.k ((m : Int) + 1)).mono ?_
              rintro e w7 ⟨rfl, hb7⟩
              rw [HA.out]
              have HB7 : Hid (Below w.heap.size w w7) := HBQ.out.trans (hb7.mono HBQ.out.size)
              have HT7 : Hid (∀ o, Two (w7.alloc o) base (V.heap.size + 1) w2.heap.size t s4 L4) := fun o => (HTQ.out.below hb7).below ((Below.refl _ _).alloc (Nat.le_refl _) _)
              have HF7 : Hid (∀ o, (w7.alloc o).heap[Q]? = some (triO FT)) := fun o => blk_alloc (blk_below HFQ.out hb7) o
              clear hb7
              generalize lfT A = F1 at *
              generalize pE A = P1 at *
              by_cases hp0 : P1 = 0
              · have hp : (P1 == 0) = true := by simpa using hp0
                clear hp0
                go_wp2_with fail
                exact ⟨⟨m + 1, by omega, by go_num, by rw [HPS.out], HT7.out _, HB7.out.alloc HB7.out.size _, HF7.out _⟩, by simp [intOf]; omega⟩
              · have hp : (P1 == 0) = false := by simpa using hp0
                clear hp0
                go_wp2_with fail
                exact ⟨⟨m + 1, by omega, by go_num, by rw [HPS.out], HT7.out _, HB7.out.alloc HB7.out.size _, HF7.out _⟩, by simp [intOf]; omega⟩
            · obtain rfl : m = 3 := by omega
              have d0 : wr.cell? ⟨Q, 2, none⟩ = some (i64 FT.c) := blk_cell hfq 2
              clear htq hbq hfq
              generalize ps s4 (·.c) 3 = S at *
              go_wp2_with fail
              exact ⟨⟨3, by omega, by go_num, HTQ.out, HBQ.out, HFQ.out⟩, by simp [intOf]⟩
        · go_wp2_with fail
          exact ⟨⟨k + 1, s4, L4, by omega, by go_num, HTM.out, HBM.out⟩, by simp [intOf]; omega⟩
    · clear htw hbw
      go_wp2_with fail
      refine (five_ok _).mono ?_
      rintro e w6 ⟨rfl, hb6⟩
      have HB6 : Hid (Below w.heap.size w w6) := HB.out.trans (hb6.mono HB.out.size)
      clear hb6
      go_wp2_with fail
      go_ret
      exact ⟨rfl, HB6.out⟩
end Go.Proofs.Ytfnhiefngbcnaaa
