/- Both sides do a call alike; no statement is proved in this text. -/
import Derived.Test.YtaapiffglfppnaaSm
namespace Go.Proofs.Ytaapiffglfppnaa
open Go.ChangeShapes Go.WideShapes Go.ChangeAt Go.RowKit Go.Deep

theorem right_any {p s a b c : Int} (hp : 1 ≤ p ∧ p ≤ 6) (hs : 0 ≤ s ∧ s < 6) : rightF p s a b c = rightF 1 0 a b c := by
  have key : RightP p s a b c ↔ RightP 1 0 a b c := by
    unfold RightP
    omega
  exact decide_eq_decide.2 key
theorem openB_eq {x : Op4} (h : 0 ≤ x.1 ∧ x.1 < 36) : openB x = rightF 1 0 x.2.1 x.2.2.1 x.2.2.2 := by
  unfold openB
  rw [decide_eq_true h, Bool.true_and]
/-- What the program's side has come to. -/
def Got (t : Nat) (O : List Op4) (S : List Sl3) (w w' : World) : Prop := ∃ A V, Jn A V ∧ Tg w' t A V ∧ opL A V = O ∧ slL A V = S ∧ Fr t [75, 54] w w'
def Two3 (t b r : Nat) (A : Tab) (V : Nat → Op4) (f g : Nat) (xs : List Value) (v : Value) : Prop :=
  ∀ W, Tg W t A V → Calls Try.prog f (pq t :: xs).toArray W fun e w' => e = .returned v ∧ ∃ O' S', Got t O' S' W w' ∧ ∀ W2, Rt W2 b r (opL A V) (slL A V) → Calls Try.prog g (pq r :: xs).toArray W2 fun e w' => e = .returned v ∧ Rt w' b r O' S' ∧ Fr b [30, 55, 57] W2 w'
theorem got_same {t : Nat} {A : Tab} {V : Nat → Op4} {w w' : World} (hJ : Jn A V) (h : Tg w t A V) (hb : Below w.heap.size w w') : Got t (opL A V) (slL A V) w w' := ⟨A, V, hJ, h.below hb, rfl, rfl, Fr.of_below _ hb (Nat.le_of_lt h.lt)⟩
theorem got_touch {t : Nat} {A A' : Tab} {V : Nat → Op4} {w w' : World} (hJ : Jn A' V) (h : Tg w t A V) (h' : Tg w' t A' V) (ho : Touch t w w') : Got t (opL A' V) (slL A' V) w w' := ⟨A', V, hJ, h', rfl, rfl, Fr.of_touch ho h.blk rfl (Nat.le_refl _)⟩
theorem rt_same {b r : Nat} {O : List Op4} {S : List Sl3} {W : World} {f : Nat} {args : Array Value} {v : Value} (h : Rt W b r O S) (hc : Calls Try.prog f args W fun e w' => e = .returned v ∧ Below W.heap.size W w') : Calls Try.prog f args W fun e w' => e = .returned v ∧ Rt w' b r O S ∧ Fr b [30, 55, 57] W w' :=
  hc.mono fun _ _ ⟨h1, h2⟩ => ⟨h1, h.below h2, Fr.of_below _ h2 h.lob⟩
theorem rt_touch {b r : Nat} {O O' : List Op4} {S S' : List Sl3} {W : World} {f : Nat} {args : Array Value} {v : Value} (h : Rt W b r O S) (hc : Calls Try.prog f args W fun e w' => e = .returned v ∧ Rt w' b r O' S' ∧ Touch r W w') : Calls Try.prog f args W fun e w' => e = .returned v ∧ Rt w' b r O' S' ∧ Fr b [30, 55, 57] W w' :=
  hc.mono fun _ _ ⟨h1, h2, h3⟩ => by
    refine ⟨h1, h2, ?_⟩
    obtain ⟨h0, a1, c1, a2, c2, hb, _⟩ := h
    exact Fr.of_touch h3 hb rfl h0
theorem find_at2 {A : Tab} {V : Nat → Op4} {p q : Int} {a : Nat} (h : atA A p q = some a) : (slL A V).find? (kp p q) = some (p, q, (V a).1) := by
  obtain ⟨r, g, rfl, rfl, hr, hg, ha⟩ := atA_some h
  exact find_some hr hg ha
theorem sub_upd {A : Tab} {r g : Nat} {x : Option Nat} (h : ∀ a, x = some a → ∃ r' g', r' < 6 ∧ g' < 6 ∧ A r' g' = some a) : SubT (upd A r g x) A := fun r1 g1 a hr hg ha => by
  rcases upd_some ha with ⟨_, _, hx⟩ | hx
  · exact h a hx
  · exact ⟨r1, g1, hr, hg, hx⟩
theorem op_sub {A A' : Tab} {V : Nat → Op4} (h : Jn A V) (hs : SubT A' A) (hs2 : SubT A A') : opL A' V = opL A V := by
  refine srtO_ext (srt_op _ _) (srt_op _ _) fun x => ?_
  rw [mem_op (h.sub hs), mem_op h, mem_nm, mem_nm]
  constructor
  · rintro ⟨r, g, a, hr, hg, ha, rfl⟩
    obtain ⟨r', g', h1, h2, h3⟩ := hs r g a hr hg ha
    exact ⟨r', g', a, h1, h2, h3, rfl⟩
  · rintro ⟨r, g, a, hr, hg, ha, rfl⟩
    obtain ⟨r', g', h1, h2, h3⟩ := hs2 r g a hr hg ha
    exact ⟨r', g', a, h1, h2, h3, rfl⟩
theorem sub_put {A : Tab} {r g a : Nat} (hn : A r g = none) : SubT A (upd A r g (some a)) := fun r1 g1 b hr hg hb => ⟨r1, g1, hr, hg, by rw [upd_other fun hc => by rw [hc.1, hc.2, hn] at hb; cases hb]; exact hb⟩
theorem dup_two (t b r : Nat) (A : Tab) (V : Nat → Op4) (hJ : Jn A V) (p q : Int) : ∃ x y, Two3 t b r A V 25 32 [i64 p, i64 q] (.tuple #[i64 x, i64 y]) := by
  have hl := sl_len A V
  cases ha : atA A p q with
  | none => exact ⟨0, 6, fun W h => (dup_none W (pq t) A V p q h.tv ha).mono fun e w' ⟨he, hw⟩ => ⟨he, _, _, got_same hJ h (hw ▸ Below.refl _ _), fun W2 h2 => rt_same h2 (rdup_none p q h2 (by omega) (find_none ha))⟩⟩
  | some a =>
    have hs := find_at2 (V := V) ha
    obtain ⟨u, g, rfl, rfl, hu, hg, hA⟩ := atA_some ha
    rcases fst_dec A u with ⟨f, hF⟩ | hF
    · have hf6 := hF.1
      have hs1 : SubT (upd A u f (some a)) A := sub_upd fun b hb => by cases hb; exact ⟨u, g, hu, hg, hA⟩
      refine ⟨(f : Int), 0, fun W h => (dup_some W t A V u g a f 0 _ h hu hg hA ((stand_yes W t A V u f a h hu hF (h.obj u g a hu hg hA)))).mono fun e w' ⟨he, hT, ho⟩ => ⟨he, _, _, got_touch (hJ.sub hs1) h hT ho, fun W2 h2 => ?_⟩⟩
      have h3 := rt_touch h2 (rdup_yes ((u : Int) + 1) g _ f h2 (by omega) hs (free_fst hu hF) hf6 (spl_free hu hf6 hF.2.1 (V a).1))
      rw [op_sub hJ hs1 (sub_put hF.2.1), sl_put hu hf6 fun _ _ _ _ _ _ => rfl]
      exact h3
    · exact ⟨0, 5, fun W h => (dup_some W t A V u g a 0 5 _ h hu hg hA ((stand_no W t A V u a h hu hF))).mono fun e w' ⟨he, hw⟩ => ⟨he, _, _, got_same hJ h (hw ▸ Below.refl _ _), fun W2 h2 => rt_same h2 (rdup_full ((u : Int) + 1) g _ h2 (by omega) hs (free_full hu hF))⟩⟩
theorem close_two (t b r : Nat) (A : Tab) (V : Nat → Op4) (hJ : Jn A V) (p q : Int) : ∃ y, Two3 t b r A V 29 33 [i64 p, i64 q] (i64 y) := by
  have hl := sl_len A V
  have hO := op_len A V
  cases ha : atA A p q with
  | none => exact ⟨6, fun W h => (close_none W (pq t) A V p q h.tv ha).mono fun e w' ⟨he, hw⟩ => ⟨he, _, _, got_same hJ h (hw ▸ Below.refl _ _), fun W2 h2 => rt_same h2 (rclose_none p q h2 (by omega) (find_none ha))⟩⟩
  | some a =>
    have hs := find_at2 (V := V) ha
    obtain ⟨u, g, rfl, rfl, hu, hg, hA⟩ := atA_some ha
    have hs1 : SubT (upd A u g none) A := sub_upd fun b hb => by cases hb
    refine ⟨0, fun W h => (close_some W t A V u g a h hu hg hA).mono fun e w' ⟨he, hT, ho⟩ => ⟨he, _, _, got_touch (hJ.sub hs1) h hT ho, fun W2 h2 => ?_⟩⟩
    have h3 := rt_touch h2 (rclose_yes ((u : Int) + 1) g _ h2 (by omega) (by omega) hs)
    rw [lf_cut hu hg, sw_op hJ hs1] at h3
    exact h3
theorem dup2_two (t b r : Nat) (A : Tab) (V : Nat → Op4) (hJ : Jn A V) (p q n : Int) : ∃ y, Two3 t b r A V 28 36 [i64 p, i64 q, i64 n] (i64 y) := by
  have hl := sl_len A V
  have hO := op_len A V
  cases ha : atA A p q with
  | none => exact ⟨6, fun W h => (dup2_none W (pq t) A V p q n h.tv ha).mono fun e w' ⟨he, hw⟩ => ⟨he, _, _, got_same hJ h (hw ▸ Below.refl _ _), fun W2 h2 => rt_same h2 (rdup2_none p q n h2 (by omega) (find_none ha))⟩⟩
  | some a =>
    have hs := find_at2 (V := V) ha
    by_cases hn : 0 ≤ n ∧ n < 6
    · obtain ⟨u, g, rfl, rfl, hu, hg, hA⟩ := atA_some ha
      obtain ⟨m, rfl⟩ : ∃ m : Nat, n = (m : Int) := ⟨n.toNat, by omega⟩
      have hm : m < 6 := by omega
      have hs1 : SubT (upd A u m (some a)) A := sub_upd fun b hb => by cases hb; exact ⟨u, g, hu, hg, hA⟩
      refine ⟨0, fun W h => (dup2_yes W t A V u g m a h hu hg hA hm).mono fun e w' ⟨he, hT, ho⟩ => ⟨he, _, _, got_touch (hJ.sub hs1) h hT ho, fun W2 h2 => ?_⟩⟩
      have hsp := spl_cut (A := A) (V := V) hu hm (V a).1
      rw [← lf_cut hu hm] at hsp
      have h3 := rt_touch h2 (rdup2_yes ((u : Int) + 1) g m _ h2 (by omega) (by omega) hs hn.1 hn.2 hsp)
      rw [← sl_put (V' := V) hu hm fun _ _ _ _ _ _ => rfl, sw_op hJ hs1] at h3
      exact h3
    · exact ⟨1, fun W h => (dup2_arg W t A V p q n a h ha hn).mono fun e w' ⟨he, hw⟩ => ⟨he, _, _, got_same hJ h (hw ▸ Below.refl _ _), fun W2 h2 => rt_same h2 (rdup2_arg p q n _ h2 (by omega) hs hn)⟩⟩
theorem seek_two (t b r : Nat) (A : Tab) (V : Nat → Op4) (hJ : Jn A V) (p q n : Int) : ∃ y, Two3 t b r A V 17 31 [i64 p, i64 q, i64 n] (i64 y) := by
  have hl := sl_len A V
  have hO := op_len A V
  cases ha : atA A p q with
  | none => exact ⟨6, fun W h => (seek_none W (pq t) A V p q n h.tv ha).mono fun e w' ⟨he, hw⟩ => ⟨he, _, _, got_same hJ h (hw ▸ Below.refl _ _), fun W2 h2 => rt_same h2 (rseek_none p q n h2 (by omega) (find_none ha))⟩⟩
  | some a =>
    have hs := find_at2 (V := V) ha
    obtain ⟨u, g, rfl, rfl, hu, hg, hA⟩ := atA_some ha
    have ho := op_find hJ hu hg hA
    have hr : openB ((V a).1, (V a).2.1, (V a).2.2.1, n) = rightF ((u : Int) + 1) g (V a).2.1 (V a).2.2.1 n := (openB_eq (x := ((V a).1, (V a).2.1, (V a).2.2.1, n)) (hJ.sml u g a hu hg hA)).trans (right_any (by omega) (by omega)).symm
    cases hb : rightF ((u : Int) + 1) g (V a).2.1 (V a).2.2.1 n with
    | false => exact ⟨1, fun W h => (seek_arg W t A V _ _ n a h ha (hr.trans hb)).mono fun e w' ⟨he, hw⟩ => ⟨he, _, _, got_same hJ h hw, fun W2 h2 => rt_same h2 (rseek_arg _ _ n _ _ h2 (by omega) (by omega) hs ho hb)⟩⟩
    | true =>
      refine ⟨0, fun W h => (seek_yes W t A V u g n a h hu hg hA (hr.trans hb)).mono fun e w' ⟨he, hT, hto⟩ => ⟨he, _, _, ⟨A, mvV V a n, hJ.mv a n ((right_any (by omega) (by omega)).symm.trans hb), hT, rfl, sl_mv A V a n, (Fr.of_touch (ts := [75, 54]) hto (h.obj u g a hu hg hA).2 rfl (Nat.le_refl _)).lower (Nat.le_of_lt (h.obj u g a hu hg hA).1)⟩, fun W2 h2 => ?_⟩⟩
      · refine (rseek_yes _ _ n _ _ h2 (by omega) (by omega) hs ho hb).mono fun e w' ⟨he, ⟨J, hJ1, hR⟩, hf⟩ => ⟨he, ?_, hf.mono fun o hk => ?_⟩
        · rw [off_op hJ hu hg hA hJ1 ((right_any (by omega) (by omega)).symm.trans hb)] at hR
          exact hR
        · cases o with
          | cells C ty fr => simp only [keeps, Bool.not_eq_true', List.contains_eq_mem, decide_eq_false_iff_not, List.mem_cons, List.not_mem_nil, or_false, not_or] at hk ⊢; exact hk.2.1
          | map es c => simp only [keeps]; rfl
          | _ => rfl
theorem add_two (t b r : Nat) (A : Tab) (V : Nat → Op4) (hJ : Jn A V) (p kd ob : Int) : ∃ x y, Two3 t b r A V 24 30 [i64 p, i64 kd, i64 ob] (.tuple #[i64 x, i64 y]) := by
  have hl := sl_len A V
  have hO := op_len A V
  cases hr : rightF p 0 kd ob 0 with
  | false => exact ⟨0, 1, fun W h => (add_arg W (pq t) p kd ob hr).mono fun e w' ⟨he, hw⟩ => ⟨he, _, _, got_same hJ h hw, fun W2 h2 => rt_same h2 (radd_arg r p kd ob hr)⟩⟩
  | true =>
    have hp : 1 ≤ p ∧ p ≤ 6 := by
      have h1 := of_decide_eq_true hr
      exact ⟨h1.1, h1.2.1⟩
    obtain ⟨u, rfl⟩ : ∃ u : Nat, p = (u : Int) + 1 := ⟨(p - 1).toNat, by omega⟩
    have hu : u < 6 := by omega
    rcases fst_dec A u with ⟨f, hF⟩ | hF
    · have hf6 := hF.1
      refine ⟨(f : Int), 0, fun W h => (add_gen W t u A V kd ob f 0 (fun i w' => Tg w' t (upd A u f (some W.heap.size)) (newV V W.heap.size ((i : Int), kd, ob, 0)) ∧ Fr t [75, 54] W w') h hJ.sml hr fun W' i hi hb hX => ?_).mono fun e w' ⟨he, i, hi, hT, hfr⟩ => ?_⟩
      · have hT : Tg W' t A (newV V W.heap.size ((i : Int), kd, ob, 0)) := h.newV (Nat.le_refl _) hb
        refine (stand_yes W' t A _ u f W.heap.size hT hu hF ⟨h.lt, by rw [newV_eq]; exact hX⟩).mono fun e w' ⟨he, hT', ho⟩ => ⟨he, hT', ?_⟩
        exact (Fr.of_below _ hb (Nat.le_of_lt h.lt)).trans (Fr.of_touch ho hT.blk rfl (Nat.le_refl _))
      · have hfi := free_op hJ hi
        have hXf : Fresh A W.heap.size := fun r1 g1 a hr1 hg1 ha e => by
          have := blk_lt (h.obj r1 g1 a hr1 hg1 ha).2
          omega
        have h36 : i < 36 := by
          obtain ⟨M, hp, _, rfl⟩ := hi
          have h1 := frI_le M 0
          have h2 := hp.length_eq
          have h3 := apL_len (nmL A V)
          have h4 : (nmL A V).length = (slL A V).length := by unfold nmL slL; rw [List.length_map, List.length_map]
          have h5 : (slL A V).length ≤ 35 := by
            rw [sl_free hu hf6 hF.2.1, List.length_append]
            unfold slo shi
            have h6 := List.length_filterMap_le (slX A V) (places.take (u * 6 + f))
            have h7 := List.length_filterMap_le (slX A V) (places.drop (u * 6 + f + 1))
            have h8 : places.length = 36 := by decide
            rw [List.length_take] at h6
            rw [List.length_drop] at h7
            omega
          omega
        have hV : ∀ r' g' a, r' < 6 → g' < 6 → A r' g' = some a → (newV V W.heap.size ((i : Int), kd, ob, 0) a).1 = (V a).1 := fun r' g' a h1 h2 h3 => by rw [newV_ne (hXf r' g' a h1 h2 h3)]
        refine ⟨he, _, _, ⟨_, _, hJ.add hXf hfi h36 ((right_any hp (by omega)).symm.trans hr), hT, rfl, rfl, hfr⟩, fun W2 h2 => ?_⟩
        have h3 := rt_touch h2 (radd_yes ((u : Int) + 1) kd ob f i h2 (by omega) (by omega) hr (free_fst hu hF) hf6 (by omega) hfi (spl_free hu hf6 hF.2.1 (i : Int)))
        rw [obj_op hJ hu hf6 hF.2.1 hXf hfi h36 ((right_any hp (by omega)).symm.trans hr)] at h3
        rw [sl_put hu hf6 hV, newV_eq]
        exact h3
    · refine ⟨0, 5, fun W h => (add_gen W t u A V kd ob 0 5 (fun _ w' => Below W.heap.size W w') h hJ.sml hr fun W' i hi hb hX => ?_).mono fun e w' ⟨he, i, hi, hT⟩ => ⟨he, _, _, got_same hJ h hT, fun W2 h2 => rt_same h2 (radd_full _ kd ob h2 (by omega) hr (free_full hu hF))⟩⟩
      exact (stand_no W' t A V u W.heap.size (h.below hb) hu hF).mono fun e w' ⟨he, hw⟩ => ⟨he, hw ▸ hb⟩
end Go.Proofs.Ytaapiffglfppnaa
