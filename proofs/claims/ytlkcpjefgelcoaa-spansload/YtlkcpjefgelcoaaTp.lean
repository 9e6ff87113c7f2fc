/- New, isProc, isProt, isSpan, ahead, pages, fill, IndexFunc, ContainsFunc; no statement is proved in this text. -/
import Derived.Test.YtlkcpjefgelcoaaTr
namespace Go.Proofs.Ytlkcpjefgelcoaa
open Go.ChangeShapes Go.WideShapes Go.ChangeAt Go.RowKit Go.Deep
attribute [local go_sem ↓] Go.wp_at_zero Go.wp_at_succ

theorem zero67 (w : World) : (zeroValue 67).run Try.prog w = .ok (.agg (tcs fun _ _ => (0, 0)).toArray) w := by kernel_rfl
theorem tcs_size (G : Gr) : (tcs G).toArray.size = 192 := by simp [tcs_len]
set_option maxRecDepth 100000 in
set_option maxHeartbeats 3200000 in
theorem snew_ok (w : World) : Calls Try.prog 8 #[] w fun e w' => e = .returned (pq w.heap.size) ∧ Tg w' w.heap.size (fun _ _ => (0, 0)) ∧ Below w.heap.size w w' := by
  have hz := zero67 w
  have hs := tcs_size fun _ _ => (0, 0)
  have HP : Hid (Tg (w.alloc (.cells (tcs fun _ _ => (0, 0)).toArray 67)) w.heap.size fun _ _ => (0, 0)) := ⟨heap_last w _⟩
  have HB := hid (below_one w (.cells (tcs fun _ _ => (0, 0)).toArray 67))
  generalize (tcs fun _ _ => (0, 0)).toArray = Z at hz hs HP HB
  go_enter Try.func8, Try.ntmps8
  go_wp2_with fail
  go_ret
  exact ⟨rfl, HP.out, HB.out⟩
set_option maxRecDepth 100000 in
set_option maxHeartbeats 3200000 in
theorem sproc_ok (w : World) (p : Int) : Calls Try.prog 38 #[i64 p] w fun e w' => e = .returned (.bool (decide (1 ≤ p ∧ p ≤ 6))) ∧ w' = w := by
  by_cases h1 : 1 ≤ p
  · by_cases h6 : p ≤ 6
    · rw [decide_eq_true (show 1 ≤ p ∧ p ≤ 6 from ⟨h1, h6⟩)]
      go_enter Try.func38, Try.ntmps38
      go_wp2_with fail
      go_ret
      exact ⟨rfl, rfl⟩
    · rw [decide_eq_false (show ¬(1 ≤ p ∧ p ≤ 6) from fun h => h6 h.2)]
      go_enter Try.func38, Try.ntmps38
      go_wp2_with fail
      go_ret
      exact ⟨rfl, rfl⟩
  · rw [decide_eq_false (show ¬(1 ≤ p ∧ p ≤ 6) from fun h => h1 h.1)]
    go_enter Try.func38, Try.ntmps38
    go_wp2_with fail
    go_ret
    exact ⟨rfl, rfl⟩
set_option maxRecDepth 100000 in
set_option maxHeartbeats 3200000 in
theorem prot_ok (w : World) (p : Int) : Calls Try.prog 54 #[i64 p] w fun e w' => e = .returned (.bool (decide (p = 1 ∨ p = 3))) ∧ w' = w := by
  by_cases h1 : p = 1
  · subst h1
    go_enter Try.func54, Try.ntmps54
    go_wp2_with fail
    go_ret
    exact ⟨rfl, rfl⟩
  · by_cases h3 : p = 3
    · subst h3
      go_enter Try.func54, Try.ntmps54
      go_wp2_with fail
      go_ret
      exact ⟨rfl, rfl⟩
    · rw [decide_eq_false (show ¬(p = 1 ∨ p = 3) from fun h => h.elim h1 h3)]
      have q1 : (p == 1) = false := beq_false_of_ne h1
      have q3 : (p == 3) = false := beq_false_of_ne h3
      go_enter Try.func54, Try.ntmps54
      go_wp2_with fail
      go_ret
      exact ⟨rfl, rfl⟩
set_option maxRecDepth 100000 in
set_option maxHeartbeats 3200000 in
theorem pages_ok (w : World) (t r f n : Nat) (o : Int) (hr : r < 6) (hn : 1 ≤ n) (h : f + n ≤ 16) (_ht : t < w.heap.size) :
    Calls Try.prog 43 #[pq t, .agg #[i64 ((r : Int) + 1), i64 f, i64 n, i64 o]] w fun e w' => e = .returned (.slice (some ⟨t, r * 32 + f * 2, none⟩) n (16 - f)) ∧ Below w.heap.size w w' := by
  have hp : ∀ W, (Instr.sliceAt 64 (.pointer (some ⟨t, r * 32, none⟩)) (some (i64 f)) (some (i64 ((f : Int) + n))) none).run Try.prog W = .ok (.slice (some ⟨t, r * 32 + f * 2, none⟩) n (16 - f)) W := fun W => pages_run W t r f n hn h
  have hw1 : IntKind.i64.wrap (r : Int) = (r : Int) := wrap_id (by omega) (by omega)
  have hw2 : IntKind.i64.wrap ((f : Int) + (n : Int)) = (f : Int) + n := wrap_id (by omega) (by omega)
  have HB := hid (below_one w (.cells #[i64 ((r : Int) + 1), i64 f, i64 n, i64 o] 71))
  go_enter Try.func43, Try.ntmps43
  go_wp2_with fail
  go_quiet (fail)
  go_wp2_with fail
  go_ret
  exact ⟨rfl, below_drewN HB.out _⟩
/-- Pages that are made those of a span. -/
def fillG (G : Gr) (r f n : Nat) (c : Int × Int) : Gr := fun r' g => if r' = r ∧ f ≤ g ∧ g < f + n then c else G r' g
theorem fillG_zero (G : Gr) (r f : Nat) (c : Int × Int) : fillG G r f 0 c = G := by
  funext r' g
  unfold fillG
  rw [if_neg (by omega)]
theorem fillG_succ (G : Gr) (r f k : Nat) (c : Int × Int) (r' g : Nat) : updG (fillG G r f k c) r (f + k) c r' g = fillG G r f (k + 1) c r' g := by
  unfold updG fillG
  by_cases h1 : r' = r ∧ g = f + k
  · rw [if_pos h1, if_pos (by omega)]
  · rw [if_neg h1]
    by_cases h2 : r' = r ∧ f ≤ g ∧ g < f + k
    · rw [if_pos h2, if_pos (by omega)]
    · rw [if_neg h2, if_neg (by omega)]
set_option maxRecDepth 100000 in
set_option maxHeartbeats 3200000 in
theorem fill_ok (w : World) (t r f n : Nat) (o : Int) (G : Gr) (h : Tg w t G) (hr : r < 6) (hn : 1 ≤ n) (hfn : f + n ≤ 16) :
    Calls Try.prog 55 #[pq t, .agg #[i64 ((r : Int) + 1), i64 f, i64 n, i64 o]] w fun e w' => e = .returned (.tuple #[]) ∧ Tg w' t (fillG G r f n ((f : Int), o)) ∧ Touch t w w' := by
  have HB := hid (below_one w (.cells #[i64 ((r : Int) + 1), i64 f, i64 n, i64 o] 71))
  have HX := hid (heap_last w (.cells #[i64 ((r : Int) + 1), i64 f, i64 n, i64 o] 71))
  have ht := h.lt
  have HC := hid (pages_ok (w.alloc (.cells #[i64 ((r : Int) + 1), i64 f, i64 n, i64 o] 71)) t r f n o hr hn hfn (by simp; omega))
  have HT := hid h
  clear h
  go_enter Try.func55, Try.ntmps55
  go_wp2_with fail
  refine HC.out.mono ?_
  rintro e2 w2 ⟨rfl, hb2⟩
  have HB2 : Hid (Below w.heap.size w w2) := HB.out.trans (hb2.mono HB.out.size)
  have HX2 := hid (blk_below HX.out hb2)
  have HT2 := hid (HT.out.below HB2.out)
  clear HB HX HC HT hb2
  go_wp2_with fail
  go_loopw [11] (fun i wr => ∃ k : Nat, k ≤ n ∧ i = i64 k ∧ Hid (Tg wr t (fillG G r f k ((f : Int), o))) ∧ Hid (wr.heap[w.heap.size]? = some (.cells #[i64 ((r : Int) + 1), i64 f, i64 n, i64 o] 71)) ∧ Hid (Touch t w wr)) (fun i _ => n - (intOf i).toNat)
  case atStart => exact ⟨0, by omega, rfl, by rw [fillG_zero]; exact HT2.out, HX2.out, Touch.of_below HB2.out⟩
  case round =>
    obtain ⟨k, hk, rfl, HT3, HX3, HO3⟩ := hrel
    by_cases hlt : k < n
    · have hkI : (k : Int) < n := by omega
      obtain ⟨x0, x1, x2, x3⟩ := four_cells HX3.out
      have c0 := HT3.out.fst r (f + k) hr (by omega)
      have c1 := HT3.out.snd r (f + k) hr (by omega)
      rw [show r * 32 + (f + k) * 2 = r * 32 + f * 2 + k * 2 by omega] at c0 c1
      have z0 := HT3.out.frz (r * 32 + f * 2 + k * 2)
      have z1 := HT3.out.frz (r * 32 + f * 2 + k * 2 + 1)
      have hE := HT3.out.set r (f + k) hr (by omega) (f : Int) o
      rw [show r * 32 + (f + k) * 2 = r * 32 + f * 2 + k * 2 by omega] at hE
      have HE : Hid (Tg (put2 wr t (r * 32 + f * 2 + k * 2) f o) t (fillG G r f (k + 1) ((f : Int), o))) := hE.ext fun r' g _ _ => fillG_succ G r f k _ r' g
      have HXE : Hid ((put2 wr t (r * 32 + f * 2 + k * 2) f o).heap[w.heap.size]? = some (.cells #[i64 ((r : Int) + 1), i64 f, i64 n, i64 o] 71)) := ((put2_touch wr t (r * 32 + f * 2 + k * 2) f o).block _ (blk_lt HX3.out) (by omega)).trans HX3.out
      have HOE : Hid (Touch t w (put2 wr t (r * 32 + f * 2 + k * 2) f o)) := HO3.out.trans (put2_touch wr t (r * 32 + f * 2 + k * 2) f o)
      have hbl := blk_lt HX3.out
      have htl := HT3.out.lt
      clear hE
      generalize (fillG G r f k ((f : Int), o) r (f + k)).1 = y0 at c0
      generalize (fillG G r f k ((f : Int), o) r (f + k)).2 = y1 at c1
      go_wp2_with fail
      exact ⟨⟨k + 1, by omega, by go_num, HE, HXE, HOE⟩, by simp [intOf]; omega⟩
    · have : k = n := by omega
      subst this
      go_wp2_with fail
      exact bodyPost_end (v := .tuple #[]) (by simp [results, Try.results55]) rfl ⟨rfl, HT3.out, HO3.out⟩
set_option maxRecDepth 100000 in
set_option maxHeartbeats 3200000 in
theorem taken_ok (w : World) (a b : Int) : Calls Try.prog 58 #[.agg #[i64 a, i64 b]] w fun e w' => e = .returned (.bool (!decide (a = 0 ∧ b = 0))) ∧ Below w.heap.size w w' := by
  have hq : ∀ W, (Op.equalIn 10000 62 (.agg #[i64 a, i64 b]) (.agg #[i64 0, i64 0])).run Try.prog W = .ok (decide (a = 0 ∧ b = 0)) W := fun W => eqC 9998 W a b 0 0
  have HB := hid (below_one w (.cells #[i64 a, i64 b] 62))
  have hz := fun W => zero62 W
  generalize decide (a = 0 ∧ b = 0) = B at *
  go_enter Try.func58, Try.ntmps58
  go_wp2_with fail
  go_ret
  exact ⟨rfl, HB.out⟩
end Go.Proofs.Ytlkcpjefgelcoaa
