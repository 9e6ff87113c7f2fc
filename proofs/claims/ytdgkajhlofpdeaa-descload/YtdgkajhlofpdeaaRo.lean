/- Rows of descriptors in memory; of, List, stand; no statement is proved in this text. -/
import Derived.Test.YtdgkajhlofpdeaaPu
import Derived.Test.YtdgkajhlofpdeaaRt
namespace Go.Proofs.Ytdgkajhlofpdeaa
open Go.ChangeShapes Go.WideShapes Go.ChangeAt Go.RowKit Go.Deep
attribute [local go_sem ↓] Go.wp_at_zero Go.wp_at_succ


def eC (e : En) : List Value := [i64 e.1.1, i64 e.1.2, i64 e.2.1, i64 e.2.2.1, i64 e.2.2.2]
def ecn (l : List En) : List Value := l.flatMap eC
theorem ecn_app (a b : List En) : ecn (a ++ b) = ecn a ++ ecn b := by simp [ecn]
theorem ecn_one (e : En) : ecn [e] = eC e := by simp [ecn]
theorem ecn_len (l : List En) : (ecn l).length = l.length * 5 := by
  induction l with
  | nil => rfl
  | cons x l ih =>
    have e : (ecn (x :: l)).length = 5 + (ecn l).length := by rw [show ecn (x :: l) = eC x ++ ecn l from rfl, List.length_append]; rfl
    rw [e, ih, List.length_cons]
    omega
theorem ecn_get (l : List En) (i : Nat) (e : En) (h : l[i]? = some e) : (ecn l)[i * 5]? = some (i64 e.1.1) ∧ (ecn l)[i * 5 + 1]? = some (i64 e.1.2) ∧ (ecn l)[i * 5 + 2]? = some (i64 e.2.1) ∧ (ecn l)[i * 5 + 3]? = some (i64 e.2.2.1) ∧ (ecn l)[i * 5 + 4]? = some (i64 e.2.2.2) := by
  induction l generalizing i with
  | nil => simp at h
  | cons x l ih =>
    cases i with
    | zero => simp at h; subst h; exact ⟨rfl, rfl, rfl, rfl, rfl⟩
    | succ i =>
      have := ih i (by simpa using h)
      rw [show (i + 1) * 5 = i * 5 + 5 by omega]
      exact this
theorem eC_one (e : En) : ∀ u ∈ eC e, u.oneCell' = true := by
  intro u hu
  simp only [eC, List.mem_cons, List.not_mem_nil, or_false] at hu
  rcases hu with rfl | rfl | rfl | rfl | rfl <;> rfl
theorem ecn_one' (l : List En) : ∀ u ∈ ecn l, u.oneCell' = true := by
  intro u hu
  obtain ⟨e, _, he⟩ := List.mem_flatMap.1 hu
  exact eC_one e u he
/-- A slice of descriptors that reads as a list. -/
def Rd5 (w : World) (ao : Option Addr) (X : List En) : Prop := ∀ (i : Nat) (e : En), X[i]? = some e → ∃ g o, ao = some ⟨g, o, none⟩ ∧ g < w.heap.size ∧ w.cell? ⟨g, o + i * 5, none⟩ = some (i64 e.1.1) ∧ w.cell? ⟨g, o + i * 5 + 1, none⟩ = some (i64 e.1.2) ∧ w.cell? ⟨g, o + i * 5 + 2, none⟩ = some (i64 e.2.1) ∧ w.cell? ⟨g, o + i * 5 + 3, none⟩ = some (i64 e.2.2.1) ∧ w.cell? ⟨g, o + i * 5 + 4, none⟩ = some (i64 e.2.2.2)
theorem Rd5.keep {w w' : World} {ao : Option Addr} {X : List En} (h : Rd5 w ao X) (hb : ∀ g o, ao = some ⟨g, o, none⟩ → g < w.heap.size → w'.heap[g]? = w.heap[g]?) (hs : w.heap.size ≤ w'.heap.size) : Rd5 w' ao X := fun i p hp => by
  obtain ⟨g, o, h1, h2, h3, h4, h5, h6, h7⟩ := h i p hp
  have hk := hb g o h1 h2
  refine ⟨g, o, h1, Nat.lt_of_lt_of_le h2 hs, ?_, ?_, ?_, ?_, ?_⟩
  all_goals (rw [World.cell?_of_block (w := w) hk]; assumption)
theorem Rd5.below {w w' : World} {ao : Option Addr} {X : List En} (h : Rd5 w ao X) (hb : Below w.heap.size w w') : Rd5 w' ao X := h.keep (fun g _ _ hg => hb.block g hg) hb.size
theorem own_zero {w : World} {base : Nat} {t : TypeId} {n cap : Nat} {ao : Option Addr} {xs : List Value} (h2 : w.ownsRow base t 5 (.slice ao n cap) n xs) (h0 : 0 < n) : ∃ g, ao = some ⟨g, 0, none⟩ ∧ base ≤ g ∧ ∃ cur, w.heap[g]? = some (.cells cur t) ∧ n ≤ cap := by
  rcases h2.2 with ⟨_, h⟩ | ⟨g, cap', cur, he, hbg, hgg, hc, _⟩
  · omega
  · simp only [Value.slice.injEq] at he
    obtain ⟨rfl, _, rfl⟩ := he
    exact ⟨g, rfl, hbg, cur, hgg, hc⟩
theorem Rd5.own {w : World} {base : Nat} {t : TypeId} {ao : Option Addr} {cap : Nat} {X : List En} (h2 : w.ownsRow base t 5 (.slice ao X.length cap) X.length (ecn X)) : Rd5 w ao X := fun i p hp => by
  have hi : i < X.length := (List.getElem?_eq_some_iff.1 hp).1
  obtain ⟨g, rfl, hbg, cur, hgg, _⟩ := own_zero h2 (by omega)
  obtain ⟨e0, e1, e2, e3, e4⟩ := ecn_get X i p hp
  refine ⟨g, 0, rfl, blk_lt hgg, ?_, ?_, ?_, ?_, ?_⟩
  · rw [Nat.zero_add, h2.cellAt _ (by omega), e0]
  · rw [Nat.zero_add, h2.cellAt _ (by omega), e1]
  · rw [Nat.zero_add, h2.cellAt _ (by omega), e2]
  · rw [Nat.zero_add, h2.cellAt _ (by omega), e3]
  · rw [Nat.zero_add, h2.cellAt _ (by omega), e4]
theorem under34 : Try.prog.underlying 34 = some (.slice 38) := by kernel_rfl
theorem info38x : (Try.prog.info? 38).map (fun i => (i.zero, i.size, i.bytes)) = some (some (ev 0 0 0 0 0), 5, 40) := by kernel_rfl
theorem under27 : Try.prog.underlying 27 = some (.slice 42) := by kernel_rfl
theorem info42x : (Try.prog.info? 42).map (fun i => (i.zero, i.size, i.bytes)) = some (some (ev 0 0 0 0 0), 5, 40) := by kernel_rfl
/-- A row behind a row. -/
theorem app_many {V : World} {base : Nat} {v u : Value} {n m : Nat} {xs : List Value} {Y : List En} (ho : V.ownsRow base 38 5 v n xs) (hu : V.ownsRow base 38 5 u m (ecn Y)) (hn : n + m ≤ 1000) (hB : base ≤ V.heap.size) :
    ∃ ao cap w', (Builtin.append_ #[34, 34] 34 #[v, u]).run Try.prog V = .ok (.slice ao (n + m) cap) w' ∧ w'.ownsRow base 38 5 (.slice ao (n + m) cap) (n + m) (xs ++ ecn Y) ∧ Below base V w' := by
  obtain ⟨i, hi, hz, hs, hb⟩ := info_parts info38x
  rcases hu.2 with ⟨rfl, rfl⟩ | ⟨g, cap, cur, rfl, hbg, hgg, _⟩
  · have hY : ecn Y = [] := List.eq_nil_of_length_eq_zero (by have := hu.1; omega)
    obtain ⟨ao, cap, rfl, _⟩ := own_slice ho
    rw [hY, List.append_nil]
    exact ⟨ao, cap, V, run_append_owned_none (P := Try.prog) V base 34 34 38 i 5 under34 hi _ n xs ho, ho, Below.refl _ _⟩
  · have hmul : (n + m) * 40 ≤ 140737488355328 := Nat.le_trans (Nat.mul_le_mul hn (Nat.le_refl 40)) (by decide)
    have hnews : ∀ j x, (ecn Y)[j]? = some x → V.cell? ((⟨g, 0, none⟩ : Addr).add j) = some x := fun j x hx => by
      have hadd : (⟨g, 0, none⟩ : Addr).add j = ⟨g, j, none⟩ := by unfold Addr.add; split <;> simp_all
      have hj : j < (ecn Y).length := (List.getElem?_eq_some_iff.1 hx).1
      rw [hadd, hu.cellAt j (by have := hu.1; omega)]
      exact hx
    obtain ⟨v', w', hr, h2, h3, _, _⟩ := run_append_own_at (P := Try.prog) V base 34 34 38 i (ev 0 0 0 0 0) 5 40 under34 hi hz hs hb rfl (by omega) v n xs ho ⟨g, 0, none⟩ m cap (ecn Y) hu.1 hnews (ecn_one' Y) (by unfold maxLen; omega) hmul hB
    obtain ⟨ao, cap, rfl, _⟩ := own_slice h2
    refine ⟨ao, cap, w', hr, h2, ⟨h3.os, h3.tape, h3.output, h3.size, fun k hk => ?_⟩⟩
    exact h3.block k (by omega) (fun hE => by have := (ho.lt k hE.symm).1; omega)
/-- A table, or none. -/
def Tv (w : World) (base : Nat) (pv : Value) (S : St) : Prop := (pv = .pointer none ∧ S = noSt) ∨ ∃ P, pv = pq P ∧ Tb w base P S
theorem Tb.tv {w : World} {base P : Nat} {S : St} (h : Tb w base P S) : Tv w base (pq P) S := .inr ⟨P, rfl, h⟩
theorem tv_nil (w : World) (base : Nat) : Tv w base (.pointer none) noSt := .inl ⟨rfl, rfl⟩
theorem Tv.below {w w' : World} {base : Nat} {pv : Value} {S : St} (h : Tv w base pv S) (hb : Below w.heap.size w w') : Tv w' base pv S := by
  rcases h with h | ⟨P, rfl, h⟩
  · exact .inl h
  · exact .inr ⟨P, rfl, h.below hb⟩
theorem atv_none (w : World) (base : Nat) (pv : Value) (S : St) (p s : Int) (h : Tv w base pv S) (hS : S (p, s) = none) : Calls Try.prog 36 #[pv, i64 p, i64 s] w fun e w' => e = .returned (.tuple #[ev 0 0 0 0 0, .bool false]) ∧ Below w.heap.size w w' := by
  rcases h with ⟨rfl, _⟩ | ⟨P, rfl, h⟩
  · exact at_nil w p s
  · exact at_none w base P S p s h hS
theorem atv_some (w : World) (base : Nat) (pv : Value) (S : St) (p s a b c : Int) (h : Tv w base pv S) (hS : S (p, s) = some (a, b, c)) : Calls Try.prog 36 #[pv, i64 p, i64 s] w fun e w' => e = .returned (.tuple #[ev p s a b c, .bool true]) ∧ Below w.heap.size w w' := by
  rcases h with ⟨_, rfl⟩ | ⟨P, rfl, h⟩
  · cases hS
  · exact at_some w base P S p s a b c h hS
set_option maxRecDepth 100000 in
set_option maxHeartbeats 1600000 in
theorem of_ok (w : World) (base : Nat) (pv : Value) (S : St) (p : Int) (h : Tv w base pv S) : Calls Try.prog 35 #[pv, i64 p] w fun e w' => ∃ ao cap, e = .returned (.slice ao (ofL S p).length cap) ∧ w'.ownsRow w.heap.size 38 5 (.slice ao (ofL S p).length cap) (ofL S p).length (ecn (ofL S p)) ∧ Below w.heap.size w w' := by
  have HH := hid h
  clear h
  go_enter Try.func35, Try.ntmps35
  go_wp2_with fail
  go_loopw [5, 9] (fun v i wr => ∃ (k n : Nat) (ao : Option Addr) (cap : Nat), k ≤ 6 ∧ n ≤ 6 ∧ i = i64 k ∧ v = .slice ao n cap ∧ Hid (n = (ofK S p k).length ∧ wr.ownsRow w.heap.size 38 5 (.slice ao n cap) n (ecn (ofK S p k))) ∧ Hid (Below w.heap.size w wr)) (fun _ i _ => 6 - (intOf i).toNat)
  case atStart => exact ⟨0, 0, none, 0, by omega, by omega, rfl, rfl, ⟨rfl, World.ownsRow_nil _ _ _ _⟩, Below.refl _ _⟩
  case round =>
    obtain ⟨k, n, ao, cap, hk, hn, rfl, rfl, HO, HB⟩ := hrel
    by_cases hlt6 : k < 6
    · have hkI : (k : Int) < 6 := by omega
      rcases hS : S (p, (k : Int)) with _ | ⟨a, b, c⟩
      · have HC := hid (atv_none wr base pv S p k (HH.out.below HB.out) hS)
        have HT : Hid (ofK S p (k + 1) = ofK S p k) := ofK_none S p k hS
        clear hS
        go_wp2_with fail
        refine HC.out.mono ?_
        rintro e w2 ⟨rfl, hb2⟩
        have HB2 : Hid (Below wr.heap.size wr w2) := hb2
        have HBV : Hid (Below w.heap.size w (w2.alloc (enO 0 0 0 0 0 38))) := (HB.out.trans (hb2.mono HB.out.size)).alloc (Nat.le_trans HB.out.size hb2.size) _
        clear hb2 HC
        have HE : Hid (n = (ofK S p (k + 1)).length ∧ (w2.alloc (enO 0 0 0 0 0 38)).ownsRow w.heap.size 38 5 (.slice ao n cap) n (ecn (ofK S p (k + 1)))) := by
          rw [HT.out]
          exact ⟨HO.out.1, (own_keep1 HO.out.2 (fun g hg => HB2.out.block g (HO.out.2.lt g hg).2)).alloc _⟩
        go_wp2_with fail
        exact ⟨⟨k + 1, n, ao, cap, by omega, by omega, by go_num, rfl, HE, HBV⟩, by simp [intOf]; omega⟩
      · have HC := hid (atv_some wr base pv S p k a b c (HH.out.below HB.out) hS)
        have HT : Hid (ofK S p (k + 1) = ofK S p k ++ [((p, (k : Int)), (a, b, c))]) := ofK_some S p k (a, b, c) hS
        have hnk : n ≤ k := by rw [HO.out.1]; exact ofK_len S p k
        clear hS
        go_wp2_with fail
        refine HC.out.mono ?_
        rintro e w2 ⟨rfl, hb2⟩
        have hown2 := (own_keep1 HO.out.2 (fun g hg => hb2.block g (HO.out.2.lt g hg).2)).alloc (enO p k a b c 38)
        have hbV : Below w.heap.size w (w2.alloc (enO p k a b c 38)) := (HB.out.trans (hb2.mono HB.out.size)).alloc (Nat.le_trans HB.out.size hb2.size) _
        obtain ⟨ao3, cap3, w3, hrun, hown3, hfr3, _, _⟩ := app_far (te := 38) under34 info38x rfl (by omega) (by omega) (V := w2.alloc (enO p k a b c 38)) hown2 (eC ((p, (k : Int)), (a, b, c))) rfl (eC_one _) (by omega) hbV.size
        have e1 : (w2.alloc (enO p k a b c 38)).heap.size = w2.heap.size + 1 := by simp
        rw [e1] at hrun
        have HRun : Hid ((Builtin.append_ #[34, 34] 34 #[.slice ao n cap, .slice (some ⟨w2.heap.size + 1, 0, none⟩) 1 1]).run Try.prog ((w2.alloc (enO p k a b c 38)).alloc (enO p k a b c 38)) = .ok (.slice ao3 (n + 1) cap3) w3) := hrun
        have HB3 : Hid (Below w.heap.size w w3) := hbV.trans hfr3.below
        have HE : Hid (n + 1 = (ofK S p (k + 1)).length ∧ w3.ownsRow w.heap.size 38 5 (.slice ao3 (n + 1) cap3) (n + 1) (ecn (ofK S p (k + 1)))) := by
          rw [HT.out, ecn_app, ecn_one, List.length_append, ← HO.out.1]
          exact ⟨rfl, hown3⟩
        clear hb2 HC hown2 hbV hrun hown3 hfr3 e1
        go_wp2_with (at_builtin; refine wpList_app_run rfl (.tmp 20) (.tmp 22) 34 rfl _ _ rfl rfl 34 rfl _ _ HRun.out ?_)
        exact ⟨⟨k + 1, n + 1, ao3, cap3, by omega, by omega, by go_num, rfl, HE, HB3⟩, by simp [intOf]; omega⟩
    · obtain rfl : k = 6 := by omega
      have HE : Hid (n = (ofL S p).length) := HO.out.1
      have HO2 : Hid (wr.ownsRow w.heap.size 38 5 (.slice ao (ofL S p).length cap) (ofL S p).length (ecn (ofL S p))) := by
        have := HO.out.2
        rw [HO.out.1] at this
        exact this
      go_wp2_with fail
      go_ret
      exact ⟨ao, cap, by rw [← HE.out]; rfl, HO2.out, HB.out⟩
end Go.Proofs.Ytdgkajhlofpdeaa
