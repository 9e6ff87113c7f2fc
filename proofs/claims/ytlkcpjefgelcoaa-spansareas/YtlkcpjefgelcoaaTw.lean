/- A table of spans and a list of areas side by side; no statement is proved in this text. -/
import Derived.Test.YtlkcpjefgelcoaaTy
import Derived.Test.YtlkcpjefgelcoaaArgs
namespace Go.Proofs.Ytlkcpjefgelcoaa
open Go.ChangeShapes Go.WideShapes Go.ChangeAt Go.RowKit Go.Deep
attribute [local go_sem ↓] Go.wp_at_zero Go.wp_at_succ

/-- Both in one memory. -/
structure Bo (W : World) (t b P : Nat) (L : List Sp) : Prop where
  gs : GS L
  tb : Tb W t L
  lb : Lb W b P (L.map ar)
  lt : t < b
theorem Bo.below {W W' : World} {t b P : Nat} {L : List Sp} (h : Bo W t b P L) (hb : Below W.heap.size W W') : Bo W' t b P L := ⟨h.gs, h.tb.below hb, h.lb.below hb, h.lt⟩
theorem lb_touch {W W' : World} {t b P : Nat} {M : List Ar} (h : Lb W b P M) (hlt : t < b) (ho : Touch t W W') : Lb W' b P M := by
  obtain ⟨v, h0, h1, h2⟩ := h
  exact ⟨v, h0, (ho.block _ (blk_lt h1) (by omega)).trans h1, own_keep1 h2 fun k hk => ho.block k (h2.lt k hk).2 (by have := (h2.lt k hk).1; omega)⟩
theorem tb_fr {W W' : World} {t b : Nat} {L : List Sp} (h : Tb W t L) (hf : Fr b [75, 79] W W') : Tb W' t L := ⟨hf.kept _ _ h.blk rfl⟩
/-- Nothing is protected. -/
def Free (L : List Sp) : Prop := ∀ s ∈ L, s.2.2.2 = 3
theorem Free.snoc {L : List Sp} (h : Free L) (p k n : Int) : Free (L ++ [(p, k, n, 3)]) := fun s hs => by
  rcases List.mem_append.1 hs with hs | hs
  · exact h s hs
  · rw [List.mem_singleton.1 hs]
theorem Free.filter {L : List Sp} (h : Free L) (f : Sp → Bool) : Free (L.filter f) := fun s hs => h s (List.mem_filter.1 hs).1
theorem Free.fork {L : List Sp} (h : Free L) (p c : Int) : Free (forkS L p c) := fun s hs => by
  rcases List.mem_append.1 hs with hs | hs
  · exact h s hs
  · obtain ⟨x, hx, rfl⟩ := List.mem_map.1 hs
    exact h x (List.mem_filter.1 hx).1
/-- Two calls that answer the same, and come to the same. -/
def Two2 (t b P : Nat) (L L' : List Sp) (f g : Nat) (xs : List Value) (v : Value) : Prop :=
  GS L' ∧ (Free L → Free L') ∧ (∀ W, Tb W t L → Calls Try.prog f (pq t :: xs).toArray W fun e w' => e = .returned v ∧ Tb w' t L' ∧ Touch t W w') ∧ (∀ W, Lb W b P (L.map ar) → b ≤ W.heap.size → Calls Try.prog g (pq P :: xs).toArray W fun e w' => e = .returned v ∧ Lb w' b P (L'.map ar) ∧ Fr b [75, 79] W w')
theorem two_map (t b P : Nat) (L : List Sp) (hG : GS L) (p n : Int) : ∃ a e L', Two2 t b P L L' 18 19 [i64 p, i64 n] (.tuple #[i64 a, i64 e]) := by
  by_cases hb : (1 ≤ p ∧ p ≤ 6) ∧ 1 ≤ n ∧ n ≤ 16
  · obtain ⟨r, hr⟩ : ∃ r : Nat, p = (r : Int) + 1 := ⟨(p - 1).toNat, by omega⟩
    obtain ⟨m, hm⟩ : ∃ m : Nat, n = (m : Int) := ⟨n.toNat, by omega⟩
    subst hr hm
    rcases map_dec (L.map ar) ((r : Int) + 1) m (by omega) with ⟨k, hk⟩ | hk
    · refine ⟨k, 0, L ++ [((r : Int) + 1, (k : Int), (m : Int), 3)], hG.snoc (isA_mk ⟨by show 1 ≤ (r : Int) + 1; omega, by show (r : Int) + 1 ≤ 6; omega, by show (0 : Int) ≤ k; omega, by show (1 : Int) ≤ m; omega, hk.1⟩) hk.2.1 (.inr rfl), fun h => h.snoc _ _ _, fun W h => smap_yes W t r m k L h hG (by omega) (by omega) (by omega) hk, fun W h _ => ?_⟩
      rw [List.map_append]
      exact map_at W b P (L.map ar) ((r : Int) + 1) m k hb h hG.good hk
    · exact ⟨0, 5, L, hG, id, fun W h => smap_no W t r m L h hG (by omega) (by omega) (by omega) hk, fun W h hbW => (map_no W b P (L.map ar) _ _ hb h hG.good hk).mono fun e w' ⟨he, hw⟩ => ⟨he, h.below hw, Fr.of_below _ hw hbW⟩⟩
  · refine ⟨0, 1, L, hG, id, fun W h => (smap_arg W (pq t) p n (by by_cases hp : 1 ≤ p ∧ p ≤ 6 <;> omega)).mono fun e w' ⟨he, hw⟩ => ⟨he, hw ▸ h, hw ▸ Touch.refl _ _⟩, fun W h hbW => (map_arg W (pq P) p n hb).mono fun e w' ⟨he, hw⟩ => ⟨he, h.below hw, Fr.of_below _ hw hbW⟩⟩
theorem two_unmap (t b P : Nat) (L : List Sp) (hG : GS L) (p g : Int) : ∃ a e L', Two2 t b P L L' 20 21 [i64 p, i64 g] (.tuple #[i64 a, i64 e]) := by
  have hl : (L.map ar).length ≤ 1000 := by have := hG.len; simp; omega
  cases hf : L.find? (beg p g) with
  | none =>
    have hn : ∀ s ∈ L, beg p g s = false := fun s hs => by simpa using List.find?_eq_none.1 hf s hs
    have he : (L.map ar).filter (fromF p g) = [] := by
      rw [← filter_ar L (fromF p g), List.map_eq_nil_iff, List.filter_eq_nil_iff]
      intro s hs
      have := hn s hs
      simpa [beg] using this
    have hu : unmL (L.map ar) p g = L.map ar := by
      unfold unmL
      rw [List.filter_eq_self]
      intro a ha
      obtain ⟨s, hs, rfl⟩ := List.mem_map.1 ha
      have := hn s hs
      simpa [beg] using this
    refine ⟨0, 6, L, hG, id, fun W h => (sunmap_no W (pq t) p g (fun W' hb => sfrom_none W' t L p g (h.below hb) hG hf)).mono fun e w' ⟨he, hw⟩ => ⟨he, h.below hw, Touch.of_below hw⟩, fun W h _ => ?_⟩
    have := unmap_ok W b P (L.map ar) p g h hl
    rw [hu, unmI, unmE, he] at this
    exact this
  | some s =>
    have hs := List.mem_of_find?_eq_some hf
    have hb := List.find?_some hf
    have hu : unmL (L.map ar) p g = (L.filter (keepF p g)).map ar := (filter_ar L fun a => !fromF p g a).symm
    have he : (L.map ar).filter (fromF p g) = [ar s] := by
      rcases hG.good.one p g with e | ⟨a, e, _⟩
      · have : ar s ∈ (L.map ar).filter (fromF p g) := List.mem_filter.2 ⟨List.mem_map_of_mem hs, hb⟩
        rw [e] at this; cases this
      · have : ar s ∈ (L.map ar).filter (fromF p g) := List.mem_filter.2 ⟨List.mem_map_of_mem hs, hb⟩
        rw [e] at this ⊢
        rw [List.mem_singleton.1 this]
    refine ⟨s.2.2.1, 0, L.filter (keepF p g), hG.filter (fun a => !fromF p g a), fun h => h.filter _, fun W h => sunmap_yes W t L p g s h hG hf, fun W h _ => ?_⟩
    have := unmap_ok W b P (L.map ar) p g h hl
    rw [hu, unmI, unmE, he] at this
    exact this
theorem two_fork (t b P : Nat) (L : List Sp) (hG : GS L) (p c : Int) : ∃ e L', Two2 t b P L L' 22 23 [i64 p, i64 c] (i64 e) := by
  have hl : (L.map ar).length ≤ 1000 := by have := hG.len; simp; omega
  by_cases hk : FkOk p c
  · have hk' := hk
    obtain ⟨h1, h2, h3⟩ := hk'
    obtain ⟨r, hr⟩ : ∃ r : Nat, p = (r : Int) + 1 := ⟨(p - 1).toNat, by omega⟩
    obtain ⟨q, hq⟩ : ∃ q : Nat, c = (q : Int) + 1 := ⟨(c - 1).toNat, by omega⟩
    subst hr hq
    by_cases hc : cntL (L.map ar) ((q : Int) + 1) = 0
    · refine ⟨0, forkS L ((r : Int) + 1) ((q : Int) + 1), hG.fork (by omega) (by omega) hc, fun h => h.fork _ _, fun W h => sfork_yes W t r q L h hG (by omega) (by omega) (by omega) hc, fun W h _ => ?_⟩
      rw [forkS_ar]
      exact fork_ok W b P (L.map ar) _ _ hk h hG.good hc
    · exact ⟨7, L, hG, id, fun W h => (sfork_st W t r q L h hG (by omega) (by omega) (by omega) hc).mono fun e w' ⟨he, hw⟩ => ⟨he, hw ▸ h, hw ▸ Touch.refl _ _⟩, fun W h hbW => (fork_st W b P (L.map ar) _ _ hk h hl (by omega)).mono fun e w' ⟨he, hw⟩ => ⟨he, h.below hw, Fr.of_below _ hw hbW⟩⟩
  · refine ⟨1, L, hG, id, fun W h => (sfork_arg W (pq t) p c ?_).mono fun e w' ⟨he, hw⟩ => ⟨he, hw ▸ h, hw ▸ Touch.refl _ _⟩, fun W h hbW => (fork_arg W (pq P) p c hk).mono fun e w' ⟨he, hw⟩ => ⟨he, h.below hw, Fr.of_below _ hw hbW⟩⟩
    by_cases a : 1 ≤ p ∧ p ≤ 6
    · by_cases d : 1 ≤ c ∧ c ≤ 6
      · exact .inr (.inr (Classical.byContradiction fun e => hk ⟨a, d, e⟩))
      · exact .inr (.inl d)
    · exact .inl a
theorem two_drop (t b P : Nat) (L : List Sp) (hG : GS L) (p : Int) : ∃ e L', Two2 t b P L L' 24 25 [i64 p] (i64 e) := by
  have hl : (L.map ar).length ≤ 1000 := by have := hG.len; simp; omega
  refine ⟨cntL (L.map ar) p, dropS L p, hG.drop p, fun h => h.filter _, fun W h => ?_, fun W h _ => ?_⟩
  · have := sdrop_gen W t L p h hG
    rw [hG.cnt] at this
    exact this
  · have := drop_ok W b P (L.map ar) p h hl
    rw [show drpL (L.map ar) p = (dropS L p).map ar from (filter_ar L fun a => !ofF p a).symm] at this
    exact this
end Go.Proofs.Ytlkcpjefgelcoaa
