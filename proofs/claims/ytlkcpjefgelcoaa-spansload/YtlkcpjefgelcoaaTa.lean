/- May, All; no statement is proved in this text. -/
import Derived.Test.YtlkcpjefgelcoaaTq
namespace Go.Proofs.Ytlkcpjefgelcoaa
open Go.ChangeShapes Go.WideShapes Go.ChangeAt Go.RowKit Go.Deep
attribute [local go_sem ↓] Go.wp_at_zero Go.wp_at_succ

/-- What may be done at a page. -/
def mayB (L : List Sp) (p g : Int) (wr : Bool) : Bool := match L.find? (cov p g) with | some s => !wr || s.2.2.2 == 3 | none => false
theorem may_out {L : List Sp} (h : GS L) {p g : Int} (wr : Bool) (hp : ¬(1 ≤ p ∧ p ≤ 6) ∨ g < 0 ∨ 16 ≤ g) : mayB L p g wr = false := by
  have : L.find? (cov p g) = none := List.find?_eq_none.2 fun s hs hc => by
    have hi := h.isA hs
    obtain ⟨e1, e2, e3⟩ := cov_iff.1 hc
    omega
  rw [mayB, this]
theorem may_cel {L : List Sp} (h : GS L) (p g : Int) (wr : Bool) : mayB L p g wr = ((cel L p g).2 == 3 || (cel L p g).2 == 1 && !wr) := by
  unfold mayB cel
  cases hf : L.find? (cov p g) with
  | none => rfl
  | some s =>
    rcases h.prot s (List.mem_of_find?_eq_some hf) with e | e
    · cases wr <;> simp [e]
    · cases wr <;> simp [e]
set_option maxRecDepth 100000 in
set_option maxHeartbeats 1600000 in
theorem smay_nil (w : World) (p g : Int) (wr : Bool) : Calls Try.prog 15 #[.pointer none, i64 p, i64 g, .bool wr] w fun e w' => e = .returned (.bool false) ∧ w' = w := by
  go_enter Try.func15, Try.ntmps15
  go_wp2_with fail
  go_ret
  exact ⟨rfl, rfl⟩
set_option maxRecDepth 100000 in
set_option maxHeartbeats 1600000 in
theorem smay_ok (w : World) (t : Nat) (L : List Sp) (p g : Int) (wr : Bool) (h : Tb w t L) (hG : GS L) : Calls Try.prog 15 #[pq t, i64 p, i64 g, .bool wr] w fun e w' => e = .returned (.bool (mayB L p g wr)) ∧ w' = w := by
  have HC := hid (sproc_ok w p)
  by_cases hp : 1 ≤ p ∧ p ≤ 6
  · rw [decide_eq_true hp] at HC
    by_cases h0 : g < 0
    · rw [may_out hG wr (.inr (.inl h0))]
      go_enter Try.func15, Try.ntmps15
      go_wp2_with fail
      refine HC.out.mono ?_
      rintro e2 w2 ⟨rfl, hv⟩
      replace hv := hv.symm
      subst hv
      clear HC
      go_wp2_with fail
      go_ret
      exact ⟨rfl, rfl⟩
    · by_cases h16 : 16 ≤ g
      · rw [may_out hG wr (.inr (.inr h16))]
        go_enter Try.func15, Try.ntmps15
        go_wp2_with fail
        refine HC.out.mono ?_
        rintro e2 w2 ⟨rfl, hv⟩
        replace hv := hv.symm
        subst hv
        clear HC
        go_wp2_with fail
        go_ret
        exact ⟨rfl, rfl⟩
      · rw [may_cel hG]
        obtain ⟨r, rfl⟩ : ∃ r : Nat, p = (r : Int) + 1 := ⟨(p - 1).toNat, by omega⟩
        obtain ⟨k, rfl⟩ : ∃ k : Nat, g = (k : Int) := ⟨g.toNat, by omega⟩
        have c1 := h.snd r k (by omega) (by omega)
        have ht := h.lt
        have hr6 : r < 6 := by omega
        have hk16 : k < 16 := by omega
        have hY : (cel L ((r : Int) + 1) k).2 = 0 ∨ (cel L ((r : Int) + 1) k).2 = 1 ∨ (cel L ((r : Int) + 1) k).2 = 3 := by
          by_cases hz : cel L ((r : Int) + 1) k = (0, 0)
          · rw [hz]; exact .inl rfl
          · obtain ⟨s, hs, hc⟩ := cel_some hz
            rw [hG.cel hs hc]
            exact .inr (hG.prot s hs)
        replace c1 : w.cell? ⟨t, r * 32 + k * 2 + 1, none⟩ = some (i64 (cel L ((r : Int) + 1) k).2) := c1
        generalize (cel L ((r : Int) + 1) k).2 = y at *
        clear h h0 h16 hp hG
        rcases hY with rfl | rfl | rfl <;> cases wr
        · rw [show (((0 : Int) == 3) || ((0 : Int) == 1) && !false) = false by simp]
          go_enter Try.func15, Try.ntmps15
          go_wp2_with fail
          refine HC.out.mono ?_
          rintro e2 w2 ⟨rfl, hv⟩
          replace hv := hv.symm
          subst hv
          clear HC
          go_wp2_with fail
          go_ret
          exact ⟨rfl, rfl⟩
        · rw [show (((0 : Int) == 3) || ((0 : Int) == 1) && !true) = false by simp]
          go_enter Try.func15, Try.ntmps15
          go_wp2_with fail
          refine HC.out.mono ?_
          rintro e2 w2 ⟨rfl, hv⟩
          replace hv := hv.symm
          subst hv
          clear HC
          go_wp2_with fail
          go_ret
          exact ⟨rfl, rfl⟩
        · rw [show (((1 : Int) == 3) || ((1 : Int) == 1) && !false) = true by simp]
          go_enter Try.func15, Try.ntmps15
          go_wp2_with fail
          refine HC.out.mono ?_
          rintro e2 w2 ⟨rfl, hv⟩
          replace hv := hv.symm
          subst hv
          clear HC
          go_wp2_with fail
          go_ret
          exact ⟨rfl, rfl⟩
        · rw [show (((1 : Int) == 3) || ((1 : Int) == 1) && !true) = false by simp]
          go_enter Try.func15, Try.ntmps15
          go_wp2_with fail
          refine HC.out.mono ?_
          rintro e2 w2 ⟨rfl, hv⟩
          replace hv := hv.symm
          subst hv
          clear HC
          go_wp2_with fail
          go_ret
          exact ⟨rfl, rfl⟩
        · rw [show (((3 : Int) == 3) || ((3 : Int) == 1) && !false) = true by simp]
          go_enter Try.func15, Try.ntmps15
          go_wp2_with fail
          refine HC.out.mono ?_
          rintro e2 w2 ⟨rfl, hv⟩
          replace hv := hv.symm
          subst hv
          clear HC
          go_wp2_with fail
          go_ret
          exact ⟨rfl, rfl⟩
        · rw [show (((3 : Int) == 3) || ((3 : Int) == 1) && !true) = true by simp]
          go_enter Try.func15, Try.ntmps15
          go_wp2_with fail
          refine HC.out.mono ?_
          rintro e2 w2 ⟨rfl, hv⟩
          replace hv := hv.symm
          subst hv
          clear HC
          go_wp2_with fail
          go_ret
          exact ⟨rfl, rfl⟩
  · rw [decide_eq_false hp] at HC
    rw [may_out hG wr (.inl hp)]
    go_enter Try.func15, Try.ntmps15
    go_wp2_with fail
    refine HC.out.mono ?_
    rintro e2 w2 ⟨rfl, hv⟩
    replace hv := hv.symm
    subst hv
    clear HC
    go_wp2_with fail
    go_ret
    exact ⟨rfl, rfl⟩
theorem app_manyS {V : World} {base : Nat} {v u : Value} {n m : Nat} {xs : List Value} {Y : List Sp} (ho : V.ownsRow base 71 4 v n xs) (hu : V.ownsRow base 71 4 u m (scn Y)) (hn : n + m ≤ 1000) (hB : base ≤ V.heap.size) :
    ∃ ao cap w', (Builtin.append_ #[35, 35] 35 #[v, u]).run Try.prog V = .ok (.slice ao (n + m) cap) w' ∧ w'.ownsRow base 71 4 (.slice ao (n + m) cap) (n + m) (xs ++ scn Y) ∧ Below base V w' := by
  obtain ⟨i, hi, hz, hs, hb⟩ := info_parts iS
  rcases hu.2 with ⟨rfl, rfl⟩ | ⟨g, cap, cur, rfl, hbg, hgg, _⟩
  · have hY : scn Y = [] := List.eq_nil_of_length_eq_zero (by have := hu.1; omega)
    obtain ⟨ao, cap, rfl, _⟩ := own_slice ho
    rw [hY, List.append_nil]
    exact ⟨ao, cap, V, run_append_owned_none (P := Try.prog) V base 35 35 71 i 4 uS hi _ n xs ho, ho, Below.refl _ _⟩
  · have hmul : (n + m) * 32 ≤ 140737488355328 := Nat.le_trans (Nat.mul_le_mul hn (Nat.le_refl 32)) (by decide)
    have hnews : ∀ j x, (scn Y)[j]? = some x → V.cell? ((⟨g, 0, none⟩ : Addr).add j) = some x := fun j x hx => by
      have hadd : (⟨g, 0, none⟩ : Addr).add j = ⟨g, j, none⟩ := by unfold Addr.add; split <;> simp_all
      have hj : j < (scn Y).length := (List.getElem?_eq_some_iff.1 hx).1
      rw [hadd, hu.cellAt j (by have := hu.1; omega)]
      exact hx
    obtain ⟨v', w', hr, h2, h3, _, _⟩ := run_append_own_at (P := Try.prog) V base 35 35 71 i (sv (0, 0, 0, 0)) 4 32 uS hi hz hs hb rfl (by omega) v n xs ho ⟨g, 0, none⟩ m cap (scn Y) hu.1 hnews (scn_one' Y) (by unfold maxLen; omega) hmul hB
    obtain ⟨ao, cap, rfl, _⟩ := own_slice h2
    refine ⟨ao, cap, w', hr, h2, ⟨h3.os, h3.tape, h3.output, h3.size, fun k hk => ?_⟩⟩
    exact h3.block k (by omega) (fun hE => by have := (ho.lt k hE.symm).1; omega)
/-- The spans of the first processes. -/
def firstA (Z : Int → List Sp) (k : Nat) : List Sp := (List.range k).flatMap fun r : Nat => Z ((r : Int) + 1)
theorem firstA_succ (Z : Int → List Sp) (k : Nat) : firstA Z (k + 1) = firstA Z k ++ Z ((k : Int) + 1) := by
  unfold firstA
  rw [List.range_succ, List.flatMap_append]
  simp
theorem firstA_len (Z : Int → List Sp) (hZ : ∀ p, (Z p).length ≤ 4) : ∀ k, (firstA Z k).length ≤ 4 * k
  | 0 => Nat.le_refl _
  | k + 1 => by
    have := firstA_len Z hZ k
    have := hZ ((k : Int) + 1)
    rw [firstA_succ, List.length_append]
    omega
set_option maxRecDepth 100000 in
set_option maxHeartbeats 1600000 in
theorem all_gen (w : World) (pv : Value) (Z : Int → List Sp) (hZ : ∀ p, (Z p).length ≤ 4) (hof : ∀ W p, Below w.heap.size w W → Calls Try.prog 37 #[pv, i64 p] W fun e w' => GotS W w' e (Z p) ∧ Below W.heap.size W w') :
    Calls Try.prog 13 #[pv] w fun e w' => GotS w w' e (firstA Z 6) ∧ Below w.heap.size w w' := by
  have HOF := hid hof
  have HZ := hid hZ
  clear hof hZ
  go_enter Try.func13, Try.ntmps13
  go_wp2_with fail
  go_loopw [3, 4] (fun v i wr => ∃ (k n : Nat) (ao2 : Option Addr) (cap2 : Nat), k ≤ 6 ∧ n ≤ 24 ∧ i = i64 ((k : Int) + 1) ∧ v = .slice ao2 n cap2 ∧ Hid (n = (firstA Z k).length ∧ wr.ownsRow w.heap.size 71 4 (.slice ao2 n cap2) n (scn (firstA Z k))) ∧ Hid (Below w.heap.size w wr)) (fun _ i _ => 8 - (intOf i).toNat)
  case atStart => exact ⟨0, 0, none, 0, by omega, by omega, rfl, rfl, ⟨rfl, World.ownsRow_nil _ _ _ _⟩, Below.refl _ _⟩
  case round =>
    obtain ⟨k, n, ao2, cap2, hk, hn, rfl, rfl, HO, HB⟩ := hrel
    by_cases hlt : k < 6
    · have hkI : (k : Int) + 1 ≤ 6 := by omega
      have HC := hid (HOF.out wr ((k : Int) + 1) HB.out)
      have h4 := HZ.out ((k : Int) + 1)
      have h24 := firstA_len Z HZ.out (k + 1)
      go_wp2_with fail
      refine HC.out.mono ?_
      rintro e2 w2 ⟨⟨ao, cap, rfl, hown⟩, hb2⟩
      have HB2 : Hid (Below w.heap.size w w2) := HB.out.trans (hb2.mono HB.out.size)
      have hO2 : w2.ownsRow w.heap.size 71 4 (.slice ao2 n cap2) n (scn (firstA Z k)) := own_keep1 HO.out.2 fun g hg => hb2.block g (HO.out.2.lt g hg).2
      obtain ⟨ao3, cap3, w3, hrun, hown3, hb3⟩ := app_manyS hO2 (own_low hown HB.out.size) (by omega) HB2.out.size
      have HRUN := hid hrun
      have HE : Hid (n + (Z ((k : Int) + 1)).length = (firstA Z (k + 1)).length ∧ w3.ownsRow w.heap.size 71 4 (.slice ao3 (n + (Z ((k : Int) + 1)).length) cap3) (n + (Z ((k : Int) + 1)).length) (scn (firstA Z (k + 1)))) := by
        rw [firstA_succ, scn_app, List.length_append, ← HO.out.1]
        exact ⟨rfl, hown3⟩
      have HB3 : Hid (Below w.heap.size w w3) := HB2.out.trans hb3
      have hn3 : n + (Z ((k : Int) + 1)).length ≤ 24 := by rw [HE.out.1]; omega
      clear HO HC hb2 hown hO2 hrun hown3 hb3 h24
      generalize (Z ((k : Int) + 1)).length = m at *
      go_wp2_with (at_builtin; refine wpList_app_run rfl (.tmp 9) (.tmp 12) 35 rfl _ _ rfl rfl 35 rfl _ _ HRUN.out ?_)
      exact ⟨⟨k + 1, n + m, ao3, cap3, by omega, by omega, by go_num, rfl, HE, HB3⟩, by simp [intOf]; omega⟩
    · have : k = 6 := by omega
      subst this
      have HG : Hid (GotS w wr (.returned (.slice ao2 n cap2)) (firstA Z 6)) := by
        obtain ⟨e1, e2⟩ := HO.out
        rw [e1] at e2 ⊢
        exact ⟨ao2, cap2, rfl, e2⟩
      clear HO
      go_wp2_with fail
      go_ret
      exact ⟨HG.out, HB.out⟩
theorem sall_ok (w : World) (t : Nat) (L : List Sp) (h : Tb w t L) (hG : GS L) : Calls Try.prog 13 #[pq t] w fun e w' => GotS w w' e (allL L) ∧ Below w.heap.size w w' :=
  all_gen w (pq t) (ofL L) hG.four fun W p hb => of_any W t L p (h.below hb) hG
theorem sall_nil (w : World) : Calls Try.prog 13 #[.pointer none] w fun e w' => GotS w w' e [] ∧ Below w.heap.size w w' :=
  all_gen w (.pointer none) (fun _ => []) (fun _ => by simp) fun W p _ => of_no W (.pointer none) p (.inl rfl) (.inl rfl)
end Go.Proofs.Ytlkcpjefgelcoaa
