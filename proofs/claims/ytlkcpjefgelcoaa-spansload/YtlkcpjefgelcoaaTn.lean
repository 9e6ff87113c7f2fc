/- Map, from; clear; no statement is proved in this text. -/
import Derived.Test.YtlkcpjefgelcoaaTl
namespace Go.Proofs.Ytlkcpjefgelcoaa
open Go.ChangeShapes Go.WideShapes Go.ChangeAt Go.RowKit Go.Deep
attribute [local go_sem ↓] Go.wp_at_zero Go.wp_at_succ

set_option maxRecDepth 100000 in
set_option maxHeartbeats 1600000 in
theorem smap_arg (w : World) (pv : Value) (p n : Int) (h : ¬(1 ≤ p ∧ p ≤ 6) ∨ n < 1 ∨ 16 < n) : Calls Try.prog 18 #[pv, i64 p, i64 n] w fun e w' => e = .returned (.tuple #[i64 0, i64 1]) ∧ w' = w := by
  have HC := hid (sproc_ok w p)
  by_cases hp : 1 ≤ p ∧ p ≤ 6
  · rw [decide_eq_true hp] at HC
    have h2 := h.resolve_left (fun h => h hp)
    clear h
    by_cases h1 : n < 1
    · clear h2
      go_enter Try.func18, Try.ntmps18
      go_wp2_with fail
      refine HC.out.mono ?_
      rintro e2 w2 ⟨rfl, hv⟩
      replace hv := hv.symm
      subst hv
      clear HC
      go_wp2_with fail
      go_ret2
      exact ⟨rfl, rfl⟩
    · have h16 : 16 < n := h2.resolve_left h1
      clear h2
      go_enter Try.func18, Try.ntmps18
      go_wp2_with fail
      refine HC.out.mono ?_
      rintro e2 w2 ⟨rfl, hv⟩
      replace hv := hv.symm
      subst hv
      clear HC
      go_wp2_with fail
      go_ret2
      exact ⟨rfl, rfl⟩
  · rw [decide_eq_false hp] at HC
    clear h
    go_enter Try.func18, Try.ntmps18
    go_wp2_with fail
    refine HC.out.mono ?_
    rintro e2 w2 ⟨rfl, hv⟩
    replace hv := hv.symm
    subst hv
    clear HC
    go_wp2_with fail
    go_ret2
    exact ⟨rfl, rfl⟩
set_option maxRecDepth 100000 in
set_option maxHeartbeats 1600000 in
theorem smap_nil (w : World) (p n : Int) (hp : 1 ≤ p ∧ p ≤ 6) (hn : 1 ≤ n) (h16 : n ≤ 16) : Calls Try.prog 18 #[.pointer none, i64 p, i64 n] w fun e w' => e = .returned (.tuple #[i64 0, i64 7]) ∧ w' = w := by
  have HC := hid (sproc_ok w p)
  rw [decide_eq_true hp] at HC
  go_enter Try.func18, Try.ntmps18
  go_wp2_with fail
  refine HC.out.mono ?_
  rintro e2 w2 ⟨rfl, hv⟩
  replace hv := hv.symm
  subst hv
  clear HC
  go_wp2_with fail
  go_ret2
  exact ⟨rfl, rfl⟩
set_option maxRecDepth 100000 in
set_option maxHeartbeats 1600000 in
theorem smap_no (w : World) (t r n : Nat) (L : List Sp) (h : Tb w t L) (hG : GS L) (hr : r < 6) (hn : 1 ≤ n) (h16 : n ≤ 16) (hm : MapNo (L.map ar) ((r : Int) + 1) n) :
    Calls Try.prog 18 #[pq t, i64 ((r : Int) + 1), i64 n] w fun e w' => e = .returned (.tuple #[i64 0, i64 5]) ∧ Tb w' t L ∧ Touch t w w' := by
  have HC := hid (sproc_ok w ((r : Int) + 1))
  rw [decide_eq_true (show 1 ≤ (r : Int) + 1 ∧ (r : Int) + 1 ≤ 6 by omega)] at HC
  have HL := hid fun W (j : Nat) (hW : Tb W t L) (hj : j + n ≤ 16) => (show _ = false from hm j (by omega)) ▸ slay_ok W t r j n 3 L hW hG hr hn hj
  have HT := hid h
  clear h hm
  go_enter Try.func18, Try.ntmps18
  go_wp2_with fail
  refine HC.out.mono ?_
  rintro e2 w2 ⟨rfl, hv⟩
  replace hv := hv.symm
  subst hv
  clear HC
  go_wp2_with fail
  go_loopw [25] (fun i wr => ∃ j : Nat, j + n ≤ 17 ∧ i = i64 j ∧ Hid (Tb wr t L) ∧ Hid (Touch t w wr)) (fun i _ => 17 - (intOf i).toNat)
  case atStart => exact ⟨0, by omega, rfl, HT.out, Touch.refl _ _⟩
  case round =>
    obtain ⟨j, hj, rfl, HT2, HO2⟩ := hrel
    by_cases hlt : j + n ≤ 16
    · have hjI : (j : Int) < 16 - n + 1 := by omega
      have HC := hid (HL.out wr j HT2.out hlt)
      go_wp2_with fail
      refine HC.out.mono ?_
      rintro e3 w3 ⟨rfl, hT3, hO3⟩
      have HT3 : Hid (Tb w3 t L) := by rw [if_neg (by decide)] at hT3; exact hT3
      have HO3 : Hid (Touch t w w3) := HO2.out.trans hO3
      clear hT3 hO3 HC
      go_wp2_with fail
      exact ⟨⟨j + 1, by omega, by go_num, HT3, HO3⟩, by simp [intOf]; omega⟩
    · have hjI : ¬(j : Int) < 16 - n + 1 := by omega
      go_wp2_with fail
      go_ret2
      exact ⟨rfl, HT2.out, HO2.out⟩
set_option maxRecDepth 100000 in
set_option maxHeartbeats 1600000 in
theorem smap_yes (w : World) (t r n k : Nat) (L : List Sp) (h : Tb w t L) (hG : GS L) (hr : r < 6) (hn : 1 ≤ n) (h16 : n ≤ 16) (hm : MapAt (L.map ar) ((r : Int) + 1) n k) :
    Calls Try.prog 18 #[pq t, i64 ((r : Int) + 1), i64 n] w fun e w' => e = .returned (.tuple #[i64 k, i64 0]) ∧ Tb w' t (L ++ [((r : Int) + 1, (k : Int), (n : Int), 3)]) ∧ Touch t w w' := by
  have HC := hid (sproc_ok w ((r : Int) + 1))
  rw [decide_eq_true (show 1 ≤ (r : Int) + 1 ∧ (r : Int) + 1 ≤ 6 by omega)] at HC
  obtain ⟨hm0, hm1, hm2⟩ := hm
  have HL := hid fun W (j : Nat) (hW : Tb W t L) (hj : j < k) => (show _ = false from hm2 j hj) ▸ slay_ok W t r j n 3 L hW hG hr hn (by omega)
  have HK := hid fun W (hW : Tb W t L) => (show _ = true from hm1) ▸ slay_ok W t r k n 3 L hW hG hr hn (by omega)
  have HT := hid h
  have hkn : k + n ≤ 16 := by omega
  clear h hm0 hm1 hm2
  go_enter Try.func18, Try.ntmps18
  go_wp2_with fail
  refine HC.out.mono ?_
  rintro e2 w2 ⟨rfl, hv⟩
  replace hv := hv.symm
  subst hv
  clear HC
  go_wp2_with fail
  go_loopw [25] (fun i wr => ∃ j : Nat, j ≤ k ∧ i = i64 j ∧ Hid (Tb wr t L) ∧ Hid (Touch t w wr)) (fun i _ => 17 - (intOf i).toNat)
  case atStart => exact ⟨0, by omega, rfl, HT.out, Touch.refl _ _⟩
  case round =>
    obtain ⟨j, hj, rfl, HT2, HO2⟩ := hrel
    have hjI : (j : Int) < 16 - n + 1 := by omega
    by_cases hlt : j < k
    · have HC := hid (HL.out wr j HT2.out hlt)
      go_wp2_with fail
      refine HC.out.mono ?_
      rintro e3 w3 ⟨rfl, hT3, hO3⟩
      have HT3 : Hid (Tb w3 t L) := by rw [if_neg (by decide)] at hT3; exact hT3
      have HO3 : Hid (Touch t w w3) := HO2.out.trans hO3
      clear hT3 hO3 HC
      go_wp2_with fail
      exact ⟨⟨j + 1, by omega, by go_num, HT3, HO3⟩, by simp [intOf]; omega⟩
    · have hjk : j = k := by omega
      subst hjk
      have HC := hid (HK.out wr HT2.out)
      go_wp2_with fail
      refine HC.out.mono ?_
      rintro e3 w3 ⟨rfl, hT3, hO3⟩
      have HT3 : Hid (Tb w3 t (L ++ [((r : Int) + 1, (j : Int), (n : Int), 3)])) := by rw [if_pos (by decide)] at hT3; exact hT3
      have HO3 : Hid (Touch t w w3) := HO2.out.trans hO3
      clear hT3 hO3 HC
      go_wp2_with fail
      go_ret2
      exact ⟨rfl, HT3.out, HO3.out⟩
theorem vload71 {W : World} {b : Nat} {s : Sp} (h : W.heap[b]? = some (sO s 71)) : (loadVar 71 ⟨b, 0, none⟩).run Try.prog W = .ok (sv s) W := by
  refine run_loadVar_mid _ _ 0 71 [i64 s.1, i64 s.2.1, i64 s.2.2.1, i64 s.2.2.2] _ (fun j u hu => ?_) Try.underlying71 rfl (by kernel_rfl)
  rw [Nat.zero_add, blk_cell h]
  simpa using hu
theorem set4 {V : World} {b : Nat} {x y z u : Value} {t : TypeId} (h : V.heap[b]? = some (.cells #[x, y, z, u] t)) (s g c d : Value) : ((((V.setCell ⟨b, 0, none⟩ s).setCell ⟨b, 1, none⟩ g).setCell ⟨b, 2, none⟩ c).setCell ⟨b, 3, none⟩ d).heap[b]? = some (.cells #[s, g, c, d] t) := by
  have h1 := heap_setCell_same V b 0 _ t s h
  have h2 := heap_setCell_same _ b 1 _ t g h1
  have h3 := heap_setCell_same _ b 2 _ t c h2
  have h4 := heap_setCell_same _ b 3 _ t d h3
  simpa using h4
/-- Pages are cleared. -/
theorem clear_run (w : World) (t r f n : Nat) (G : Gr) (h : Tg w t G) (hr : r < 6) (hn : 1 ≤ n) (hfn : f + n ≤ 16) :
    ∃ w', (Builtin.clear_ #[82] 0 #[.slice (some ⟨t, r * 32 + f * 2, none⟩) n (16 - f)]).run Try.prog w = .ok (.tuple #[]) w' ∧ Tg w' t (fillG G r f n (0, 0)) ∧ Touch t w w' := by
  have hz : (zeroValue 62).run Try.prog w = .ok (.agg #[i64 0, i64 0]) w := zero62 w
  have hc : (Builtin.zeroCells (Value.agg #[i64 0, i64 0]).cells n).toList = List.replicate (n * 2) (i64 0) := by
    have h1 : (Value.agg #[i64 0, i64 0]).cells = #[i64 0, i64 0] := rfl
    rw [h1]
    unfold Builtin.zeroCells
    apply List.ext_getElem
    · simp
    · intro i _ _
      simp
      have : i % 2 = 0 ∨ i % 2 = 1 := by omega
      rcases this with e | e <;> simp [e]
  have hst := run_storeCells_at Try.prog t (r * 32 + f * 2) 67 (List.replicate (n * 2) (i64 0)) 0 (tcs G).toArray w h.blk (by simp [tcs_len]; omega) (fun v hv => by rw [List.eq_of_mem_replicate hv]; rfl)
  have hE : List.take (r * 32 + f * 2) (tcs G) ++ List.replicate (n * 2) (i64 0) ++ List.drop (r * 32 + f * 2 + n * 2) (tcs G) = tcs (fillG G r f n (0, 0)) := by
    refine tcs_of ?_ ?_
    · simp [tcs_len]; omega
    · intro i hi
      by_cases h1 : i < r * 32 + f * 2
      · rw [List.append_assoc, List.getElem?_append_left (by simp [tcs_len]; omega), List.getElem?_take, if_pos h1, tcs_get G i hi]
        refine congrArg (fun x => some (i64 x)) ?_
        have hne : ¬(i / 32 = r ∧ f ≤ i % 32 / 2 ∧ i % 32 / 2 < f + n) := by omega
        unfold cl fillG
        simp only [hne, if_false]
      · by_cases h2 : i < r * 32 + f * 2 + n * 2
        · rw [List.getElem?_append_left (by simp [tcs_len]; omega), List.getElem?_append_right (by simp [tcs_len]; omega), List.getElem?_replicate, if_pos (by simp [tcs_len]; omega)]
          have hyes : i / 32 = r ∧ f ≤ i % 32 / 2 ∧ i % 32 / 2 < f + n := by omega
          unfold cl fillG
          simp only [hyes, and_self, if_true, ite_self]
        · rw [List.getElem?_append_right (by simp [tcs_len]; omega), List.getElem?_drop]
          rw [show r * 32 + f * 2 + n * 2 + (i - (List.take (r * 32 + f * 2) (tcs G) ++ List.replicate (n * 2) (i64 0)).length) = i by simp [tcs_len]; omega, tcs_get G i hi]
          refine congrArg (fun x => some (i64 x)) ?_
          have hne : ¬(i / 32 = r ∧ f ≤ i % 32 / 2 ∧ i % 32 / 2 < f + n) := by omega
          unfold cl fillG
          simp only [hne, if_false]
  simp only [Nat.add_zero, List.length_replicate, hE] at hst
  refine ⟨w.setRow t (tcs (fillG G r f n (0, 0))).toArray, ?_, ⟨setRow_heap w t _ _ 67 _ h.blk⟩, ⟨rfl, rfl, rfl, by simp, fun k _ hk => setRow_other w t k _ hk⟩⟩
  obtain ⟨m, rfl⟩ : ∃ m, n = m + 1 := ⟨n - 1, by omega⟩
  simp [Builtin.clear_, run_underlying under82, hz, hc, hst]
end Go.Proofs.Ytlkcpjefgelcoaa
