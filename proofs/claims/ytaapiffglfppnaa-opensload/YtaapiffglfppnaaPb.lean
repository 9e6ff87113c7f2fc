/- Plain lists: objects by IDs; no statement is proved in this text. -/
import Derived.Test.YtaapiffglfppnaaPa
namespace Go.Proofs.Ytaapiffglfppnaa
open Go.ChangeShapes Go.WideShapes Go.ChangeAt Go.RowKit Go.Deep

def SrtO (L : List Op4) : Prop := L.Pairwise fun a b => a.1 < b.1
theorem srtO_ext : ∀ {L M : List Op4}, SrtO L → SrtO M → (∀ e, e ∈ L ↔ e ∈ M) → L = M
  | [], [], _, _, _ => rfl
  | [], y :: _, _, _, h => absurd ((h y).2 List.mem_cons_self) (by simp)
  | x :: _, [], _, _, h => absurd ((h x).1 List.mem_cons_self) (by simp)
  | x :: L, y :: M, hL, hM, h => by
    obtain ⟨hL1, hL2⟩ := List.pairwise_cons.1 hL
    obtain ⟨hM1, hM2⟩ := List.pairwise_cons.1 hM
    have hxy : x = y := by
      rcases List.mem_cons.1 ((h x).1 List.mem_cons_self) with e | hx
      · exact e
      · rcases List.mem_cons.1 ((h y).2 List.mem_cons_self) with e | hy
        · exact e.symm
        · have h1 := hM1 x hx
          have h2 := hL1 y hy
          omega
    subst hxy
    rw [srtO_ext hL2 hM2 fun e => ⟨fun he => ?_, fun he => ?_⟩]
    · rcases List.mem_cons.1 ((h e).1 (List.mem_cons_of_mem _ he)) with rfl | h2
      · have := hL1 e he
        omega
      · exact h2
    · rcases List.mem_cons.1 ((h e).2 (List.mem_cons_of_mem _ he)) with rfl | h2
      · have := hM1 e he
        omega
      · exact h2
def opL (A : Tab) (V : Nat → Op4) : List Op4 := (List.range 36).filterMap fun i : Nat => (nmL A V).find? (ko i)
/-- Addresses are told apart by their objects' IDs; the IDs are small. -/
structure Jn (A : Tab) (V : Nat → Op4) : Prop where
  sml : Sml A V
  inj : ∀ r g r' g' a a', r < 6 → g < 6 → r' < 6 → g' < 6 → A r g = some a → A r' g' = some a' → (V a).1 = (V a').1 → a = a'
  ok : ∀ r g a, r < 6 → g < 6 → A r g = some a → rightF 1 0 (V a).2.1 (V a).2.2.1 (V a).2.2.2 = true
theorem mem_nm {A : Tab} {V : Nat → Op4} {x : Op4} : x ∈ nmL A V ↔ ∃ r g a, r < 6 ∧ g < 6 ∧ A r g = some a ∧ x = V a := by
  constructor
  · intro h
    obtain ⟨y, hy, rfl⟩ := List.mem_map.1 h
    obtain ⟨h1, h2, h3⟩ := adU_mem hy
    exact ⟨y.1, y.2.1, y.2.2, h1, h2, h3, rfl⟩
  · rintro ⟨r, g, a, hr, hg, ha, rfl⟩
    exact List.mem_map.2 ⟨_, mem_adL hr hg ha, rfl⟩
theorem mem_sl {A : Tab} {V : Nat → Op4} {s : Sl3} : s ∈ slL A V ↔ ∃ r g a, r < 6 ∧ g < 6 ∧ A r g = some a ∧ s = ((r : Int) + 1, (g : Int), (V a).1) := by
  constructor
  · intro h
    obtain ⟨y, hy, rfl⟩ := List.mem_map.1 h
    obtain ⟨h1, h2, h3⟩ := adU_mem hy
    exact ⟨y.1, y.2.1, y.2.2, h1, h2, h3, rfl⟩
  · rintro ⟨r, g, a, hr, hg, ha, rfl⟩
    exact List.mem_map.2 ⟨_, mem_adL hr hg ha, rfl⟩
theorem Jn.injV {A : Tab} {V : Nat → Op4} (h : Jn A V) {x y : Op4} (hx : x ∈ nmL A V) (hy : y ∈ nmL A V) (he : x.1 = y.1) : x = y := by
  obtain ⟨r, g, a, hr, hg, ha, rfl⟩ := mem_nm.1 hx
  obtain ⟨r', g', a', hr', hg', ha', rfl⟩ := mem_nm.1 hy
  rw [h.inj r g r' g' a a' hr hg hr' hg' ha ha' he]
theorem mem_op {A : Tab} {V : Nat → Op4} (h : Jn A V) {x : Op4} : x ∈ opL A V ↔ x ∈ nmL A V := by
  constructor
  · intro hx
    obtain ⟨i, _, hf⟩ := List.mem_filterMap.1 hx
    exact List.mem_of_find?_eq_some hf
  · intro hx
    have hs := h.sml.nm x hx
    refine List.mem_filterMap.2 ⟨x.1.toNat, List.mem_range.2 (by omega), ?_⟩
    cases hf : (nmL A V).find? (ko (x.1.toNat : Int)) with
    | none =>
      have := List.find?_eq_none.1 hf x hx
      exact absurd (ko_iff.2 (by omega)) this
    | some y =>
      have hy := ko_iff.1 (List.find?_some hf)
      rw [h.injV hx (List.mem_of_find?_eq_some hf) (by omega)]
theorem srt_op (A : Tab) (V : Nat → Op4) : SrtO (opL A V) := by
  unfold SrtO opL
  rw [List.pairwise_filterMap]
  refine List.Pairwise.imp ?_ List.pairwise_lt_range
  intro i j hij x hx y hy
  have h1 := ko_iff.1 (List.find?_some hx)
  have h2 := ko_iff.1 (List.find?_some hy)
  omega
theorem find_uniq {L : List Op4} {x : Op4} {i : Int} (hu : ∀ a b, a ∈ L → b ∈ L → a.1 = b.1 → a = b) (hx : x ∈ L) (hi : x.1 = i) : L.find? (ko i) = some x := by
  cases hf : L.find? (ko i) with
  | none => exact absurd (ko_iff.2 hi) (List.find?_eq_none.1 hf x hx)
  | some y =>
    have hy := ko_iff.1 (List.find?_some hf)
    rw [hu y x (List.mem_of_find?_eq_some hf) hx (by omega)]
theorem Jn.uniq {A : Tab} {V : Nat → Op4} (h : Jn A V) : ∀ a b, a ∈ opL A V → b ∈ opL A V → a.1 = b.1 → a = b := fun _ _ ha hb he => h.injV ((mem_op h).1 ha) ((mem_op h).1 hb) he
/-- The object of an ID. -/
theorem op_find {A : Tab} {V : Nat → Op4} (h : Jn A V) {r g a : Nat} (hr : r < 6) (hg : g < 6) (ha : A r g = some a) : (opL A V).find? (ko (V a).1) = some (V a) := find_uniq h.uniq ((mem_op h).2 (mem_nm.2 ⟨r, g, a, hr, hg, ha, rfl⟩)) rfl
theorem named_op {A : Tab} {V : Nat → Op4} (h : Jn A V) : Named (opL A V) (slL A V) := fun s hs => by
  obtain ⟨r, g, a, hr, hg, ha, rfl⟩ := mem_sl.1 hs
  exact ⟨_, op_find h hr hg ha⟩
theorem op_len (A : Tab) (V : Nat → Op4) : (opL A V).length ≤ 36 := by
  have := List.length_filterMap_le (fun i : Nat => (nmL A V).find? (ko i)) (List.range 36)
  rw [List.length_range] at this
  exact this
theorem sl_len (A : Tab) (V : Nat → Op4) : (slL A V).length ≤ 36 := by
  have h1 := nm_len A V
  unfold nmL at h1
  unfold slL
  rw [List.length_map] at h1 ⊢
  exact h1
def SubT (A' A : Tab) : Prop := ∀ r g a, r < 6 → g < 6 → A' r g = some a → ∃ r' g', r' < 6 ∧ g' < 6 ∧ A r' g' = some a
theorem Jn.sub {A A' : Tab} {V : Nat → Op4} (h : Jn A V) (hs : SubT A' A) : Jn A' V := by
  refine ⟨fun r g a hr hg ha => ?_, fun r g r' g' a a' hr hg hr' hg' ha ha' he => ?_, fun r g a hr hg ha => ?_⟩
  · obtain ⟨r1, g1, h1, h2, h3⟩ := hs r g a hr hg ha
    exact h.sml r1 g1 a h1 h2 h3
  · obtain ⟨r1, g1, h1, h2, h3⟩ := hs r g a hr hg ha
    obtain ⟨r2, g2, k1, k2, k3⟩ := hs r' g' a' hr' hg' ha'
    exact h.inj r1 g1 r2 g2 a a' h1 h2 k1 k2 h3 k3 he
  · obtain ⟨r1, g1, h1, h2, h3⟩ := hs r g a hr hg ha
    exact h.ok r1 g1 a h1 h2 h3
theorem sw_op {A A' : Tab} {V : Nat → Op4} (h : Jn A V) (hs : SubT A' A) : swO (opL A V) (slL A' V) = opL A' V := by
  refine srtO_ext ((srt_op A V).sublist List.filter_sublist) (srt_op A' V) fun x => ?_
  rw [mem_op (h.sub hs)]
  unfold swO
  rw [List.mem_filter, mem_op h]
  constructor
  · rintro ⟨hx, hf⟩
    obtain ⟨s, hsm, he⟩ := List.any_eq_true.1 hf
    obtain ⟨r, g, a, hr, hg, ha, rfl⟩ := mem_sl.1 hsm
    obtain ⟨r1, g1, h1, h2, h3⟩ := hs r g a hr hg ha
    have he2 : (V a).1 = x.1 := by simpa using he
    rw [h.injV hx (mem_nm.2 ⟨r1, g1, a, h1, h2, h3, rfl⟩) he2.symm]
    exact mem_nm.2 ⟨r, g, a, hr, hg, ha, rfl⟩
  · intro hx
    obtain ⟨r, g, a, hr, hg, ha, rfl⟩ := mem_nm.1 hx
    obtain ⟨r1, g1, h1, h2, h3⟩ := hs r g a hr hg ha
    refine ⟨mem_nm.2 ⟨r1, g1, a, h1, h2, h3, rfl⟩, List.any_eq_true.2 ⟨_, mem_sl.2 ⟨r, g, a, hr, hg, ha, rfl⟩, ?_⟩⟩
    simp
theorem ref_op {A : Tab} {V : Nat → Op4} (h : Jn A V) (kd ob : Int) : ((slL A V).filter (refB (opL A V) kd ob)).length = refN (nmL A V) kd ob := by
  unfold refN slL nmL
  rw [List.filter_map, List.filter_map, List.length_map, List.length_map]
  congr 1
  refine List.filter_congr fun y hy => ?_
  obtain ⟨h1, h2, h3⟩ := adU_mem hy
  show refB (opL A V) kd ob (slF V y) = _
  unfold refB slF
  rw [show ((opL A V).find? (ko ((y.1 : Int) + 1, (y.2.1 : Int), (V y.2.2).1).2.2)) = some (V y.2.2) from op_find h h1 h2 h3]
  rfl
/-- An object more. -/
def Fresh (A : Tab) (X : Nat) : Prop := ∀ r g a, r < 6 → g < 6 → A r g = some a → a ≠ X
theorem freeI_mem {O : List Op4} {i : Nat} (h : FreeI O i) {x : Op4} (hx : x ∈ O) : x.1 ≠ (i : Int) := fun e => absurd (ko_iff.2 e) (List.find?_eq_none.1 h.1 x hx)
theorem newV_ne {V : Nat → Op4} {X a : Nat} {y : Op4} (h : a ≠ X) : newV V X y a = V a := if_neg h
theorem newV_eq {V : Nat → Op4} {X : Nat} {y : Op4} : newV V X y X = y := if_pos rfl
theorem upd_some {A : Tab} {r g r' g' a : Nat} {x : Option Nat} (h : upd A r g x r' g' = some a) : (r' = r ∧ g' = g ∧ x = some a) ∨ A r' g' = some a := by
  unfold upd at h
  by_cases hc : r' = r ∧ g' = g
  · rw [if_pos hc] at h
    exact .inl ⟨hc.1, hc.2, h⟩
  · rw [if_neg hc] at h
    exact .inr h
theorem upd_other {A : Tab} {r g r' g' : Nat} {x : Option Nat} (h : ¬ (r' = r ∧ g' = g)) : upd A r g x r' g' = A r' g' := if_neg h
theorem Jn.add {A : Tab} {V : Nat → Op4} {r g X i : Nat} {kd ob : Int} (h : Jn A V) (hX : Fresh A X) (hi : FreeI (opL A V) i) (h36 : i < 36) (hR : rightF 1 0 kd ob 0 = true) : Jn (upd A r g (some X)) (newV V X ((i : Int), kd, ob, 0)) := by
  have hne : ∀ r g a, r < 6 → g < 6 → A r g = some a → (V a).1 ≠ (i : Int) := fun r g a hr hg ha => freeI_mem hi ((mem_op h).2 (mem_nm.2 ⟨r, g, a, hr, hg, ha, rfl⟩))
  refine ⟨fun r1 g1 a hr1 hg1 ha => ?_, fun r1 g1 r2 g2 a b hr1 hg1 hr2 hg2 ha hb he => ?_, fun r1 g1 a hr1 hg1 ha => ?_⟩
  · rcases upd_some ha with ⟨_, _, hx⟩ | hx
    · cases hx
      rw [newV_eq]
      simp only []
      omega
    · rw [newV_ne (hX r1 g1 a hr1 hg1 hx)]
      exact h.sml r1 g1 a hr1 hg1 hx
  · rcases upd_some ha with ⟨_, _, hx⟩ | hx
    · cases hx
      rcases upd_some hb with ⟨_, _, hy⟩ | hy
      · cases hy; rfl
      · rw [newV_eq, newV_ne (hX r2 g2 b hr2 hg2 hy)] at he
        exact absurd he.symm (hne r2 g2 b hr2 hg2 hy)
    · rw [newV_ne (hX r1 g1 a hr1 hg1 hx)] at he
      rcases upd_some hb with ⟨_, _, hy⟩ | hy
      · cases hy
        rw [newV_eq] at he
        exact absurd he (hne r1 g1 a hr1 hg1 hx)
      · rw [newV_ne (hX r2 g2 b hr2 hg2 hy)] at he
        exact h.inj r1 g1 r2 g2 a b hr1 hg1 hr2 hg2 hx hy he
  · rcases upd_some ha with ⟨_, _, hx⟩ | hx
    · cases hx
      rw [newV_eq]
      exact hR
    · rw [newV_ne (hX r1 g1 a hr1 hg1 hx)]
      exact h.ok r1 g1 a hr1 hg1 hx
theorem obj_op {A : Tab} {V : Nat → Op4} {r g X i : Nat} {kd ob : Int} (h : Jn A V) (hr : r < 6) (hg : g < 6) (hn : A r g = none) (hX : Fresh A X) (hi : FreeI (opL A V) i) (h36 : i < 36) (hR : rightF 1 0 kd ob 0 = true) : objO (opL A V) i kd ob = opL (upd A r g (some X)) (newV V X ((i : Int), kd, ob, 0)) := by
  have hJ := h.add (r := r) (g := g) (kd := kd) (ob := ob) hX hi h36 hR
  have hs := srt_op A V
  refine srtO_ext ?_ (srt_op _ _) fun x => ?_
  · unfold SrtO objO
    rw [List.append_assoc, List.pairwise_append]
    refine ⟨hs.sublist List.filter_sublist, ?_, ?_⟩
    · rw [List.singleton_append, List.pairwise_cons]
      refine ⟨fun y hy => ?_, hs.sublist List.filter_sublist⟩
      exact of_decide_eq_true (List.mem_filter.1 hy).2
    · intro a ha b hb
      have h1 := of_decide_eq_true (List.mem_filter.1 ha).2
      rcases List.mem_append.1 hb with hb | hb
      · rw [List.mem_singleton.1 hb]
        exact h1
      · have h2 := of_decide_eq_true (List.mem_filter.1 hb).2
        omega
  · rw [mem_op hJ, mem_nm]
    unfold objO
    rw [List.mem_append, List.mem_append, List.mem_filter, List.mem_filter, List.mem_singleton]
    constructor
    · rintro ((⟨hx, _⟩ | rfl) | ⟨hx, _⟩)
      · obtain ⟨r1, g1, a, hr1, hg1, ha, rfl⟩ := mem_nm.1 ((mem_op h).1 hx)
        refine ⟨r1, g1, a, hr1, hg1, ?_, (newV_ne (hX r1 g1 a hr1 hg1 ha)).symm⟩
        rw [upd_other fun hc => by rw [hc.1, hc.2, hn] at ha; cases ha]
        exact ha
      · exact ⟨r, g, X, hr, hg, upd_same _ _ _ _, newV_eq.symm⟩
      · obtain ⟨r1, g1, a, hr1, hg1, ha, rfl⟩ := mem_nm.1 ((mem_op h).1 hx)
        refine ⟨r1, g1, a, hr1, hg1, ?_, (newV_ne (hX r1 g1 a hr1 hg1 ha)).symm⟩
        rw [upd_other fun hc => by rw [hc.1, hc.2, hn] at ha; cases ha]
        exact ha
    · rintro ⟨r1, g1, a, hr1, hg1, ha, rfl⟩
      rcases upd_some ha with ⟨_, _, hx⟩ | hx
      · cases hx
        rw [newV_eq]
        exact .inl (.inr rfl)
      · rw [newV_ne (hX r1 g1 a hr1 hg1 hx)]
        have hm := (mem_op h).2 (mem_nm.2 ⟨r1, g1, a, hr1, hg1, hx, rfl⟩)
        have hne := freeI_mem hi hm
        by_cases hlt : (V a).1 < (i : Int)
        · exact .inl (.inl ⟨hm, decide_eq_true hlt⟩)
        · exact .inr ⟨hm, decide_eq_true (by omega)⟩
/-- A place that is moved. -/
theorem mv_id (V : Nat → Op4) (a b : Nat) (off : Int) : (mvV V a off b).1 = (V b).1 := by
  unfold mvV
  by_cases h : b = a
  · rw [if_pos h, h]
  · rw [if_neg h]
theorem Jn.mv {A : Tab} {V : Nat → Op4} (h : Jn A V) (a : Nat) (off : Int) (hR : rightF 1 0 (V a).2.1 (V a).2.2.1 off = true) : Jn A (mvV V a off) := by
  refine ⟨fun r g b hr hg hb => ?_, fun r g r' g' b b' hr hg hr' hg' hb hb' he => ?_, fun r g b hr hg hb => ?_⟩
  · rw [mv_id]
    exact h.sml r g b hr hg hb
  · rw [mv_id, mv_id] at he
    exact h.inj r g r' g' b b' hr hg hr' hg' hb hb' he
  · unfold mvV
    by_cases h1 : b = a
    · rw [if_pos h1]
      exact hR
    · rw [if_neg h1]
      exact h.ok r g b hr hg hb
theorem sl_mv (A : Tab) (V : Nat → Op4) (a : Nat) (off : Int) : slL A (mvV V a off) = slL A V := by
  unfold slL
  refine List.map_congr_left fun y _ => ?_
  unfold slF
  rw [mv_id]
theorem off_op {A : Tab} {V : Nat → Op4} {r g a K : Nat} {off : Int} (h : Jn A V) (hr : r < 6) (hg : g < 6) (ha : A r g = some a) (hK : (opL A V)[K]? = some (V a)) (hR : rightF 1 0 (V a).2.1 (V a).2.2.1 off = true) : (opL A V).set K (offO (V a) off) = opL A (mvV V a off) := by
  have hs := srt_op A V
  have hi := (List.getElem?_eq_some_iff.1 hK).1
  have hKe := (List.getElem?_eq_some_iff.1 hK).2
  have hmv : mvV V a off a = offO (V a) off := if_pos rfl
  refine srtO_ext ?_ (srt_op _ _) fun x => ?_
  · unfold SrtO at hs ⊢
    rw [List.pairwise_iff_getElem] at hs ⊢
    intro i j h1 h2 hij
    rw [List.length_set] at h1 h2
    rw [List.getElem_set, List.getElem_set]
    have h3 := hs i j h1 h2 hij
    by_cases e1 : K = i
    · subst e1
      rw [if_pos rfl, if_neg (by omega)]
      rw [hKe] at h3
      exact h3
    · rw [if_neg e1]
      by_cases e2 : K = j
      · subst e2
        rw [if_pos rfl]
        rw [hKe] at h3
        exact h3
      · rw [if_neg e2]
        exact h3
  · rw [mem_op (h.mv a off hR), mem_nm]
    constructor
    · intro hx
      obtain ⟨n, hn, hxe⟩ := List.getElem_of_mem hx
      have hn2 : n < (opL A V).length := by
        rw [List.length_set] at hn
        exact hn
      rw [List.getElem_set] at hxe
      by_cases e1 : K = n
      · rw [if_pos e1] at hxe
        exact ⟨r, g, a, hr, hg, ha, by rw [hmv]; exact hxe.symm⟩
      · rw [if_neg e1] at hxe
        have hm : (opL A V)[n] ∈ opL A V := List.getElem_mem hn2
        obtain ⟨r1, g1, b, hr1, hg1, hb, he⟩ := mem_nm.1 ((mem_op h).1 hm)
        have hba : b ≠ a := fun e => by
          subst e
          unfold SrtO at hs
          rw [List.pairwise_iff_getElem] at hs
          rcases Nat.lt_or_gt_of_ne e1 with hlt | hlt
          · have := hs K n hi hn2 hlt
            rw [hKe, he] at this
            omega
          · have := hs n K hn2 hi hlt
            rw [hKe, he] at this
            omega
        exact ⟨r1, g1, b, hr1, hg1, hb, by rw [show mvV V a off b = V b from if_neg hba, ← he]; exact hxe.symm⟩
    · rintro ⟨r1, g1, b, hr1, hg1, hb, rfl⟩
      by_cases e : b = a
      · subst e
        rw [hmv]
        exact List.mem_of_getElem? (i := K) (by rw [List.getElem?_set_self hi])
      · rw [show mvV V a off b = V b from if_neg e]
        obtain ⟨n, hn, hne⟩ := List.getElem_of_mem ((mem_op h).2 (mem_nm.2 ⟨r1, g1, b, hr1, hg1, hb, rfl⟩))
        have hKn : K ≠ n := fun e2 => by
          subst e2
          rw [hKe] at hne
          exact e (h.inj r1 g1 r g b a hr1 hg1 hr hg hb ha (by rw [hne]))
        exact List.mem_of_getElem? (i := n) (by rw [List.getElem?_set_ne hKn, List.getElem?_eq_getElem hn, hne])
/-- Of each ID one: what Opens answers is the objects by IDs. -/
theorem apS_ids {acc : List Op4} {x : Op4} (h : acc.Pairwise fun a b => a.1 ≠ b.1) : (apS acc x).Pairwise fun a b => a.1 ≠ b.1 := by
  unfold apS
  split
  · exact h
  · next hn =>
    rw [List.pairwise_append]
    refine ⟨h, List.pairwise_singleton _ _, fun a ha b hb => ?_⟩
    rw [List.mem_singleton.1 hb]
    intro e
    exact hn (List.any_eq_true.2 ⟨a, ha, by simp [e]⟩)
theorem ap_ids : ∀ (X acc : List Op4), (acc.Pairwise fun a b => a.1 ≠ b.1) → (X.foldl apS acc).Pairwise fun a b => a.1 ≠ b.1
  | [], _, h => h
  | x :: X, acc, h => ap_ids X (apS acc x) (apS_ids h)
theorem apS_has {acc : List Op4} {x : Op4} : (∃ y ∈ apS acc x, y.1 = x.1) ∧ ∀ z ∈ acc, z ∈ apS acc x := by
  unfold apS
  split
  · next hn =>
    obtain ⟨y, hy, he⟩ := List.any_eq_true.1 hn
    exact ⟨⟨y, hy, by simpa using he⟩, fun z hz => hz⟩
  · exact ⟨⟨x, List.mem_append_right _ (List.mem_singleton.2 rfl), rfl⟩, fun z hz => List.mem_append_left _ hz⟩
theorem ap_has : ∀ (X acc : List Op4), (∀ z ∈ acc, z ∈ X.foldl apS acc) ∧ ∀ x ∈ X, ∃ y ∈ X.foldl apS acc, y.1 = x.1
  | [], _ => ⟨fun _ h => h, fun _ h => absurd h (by simp)⟩
  | x :: X, acc => by
    obtain ⟨h1, h2⟩ := ap_has X (apS acc x)
    obtain ⟨⟨y, hy, he⟩, h3⟩ := apS_has (acc := acc) (x := x)
    refine ⟨fun z hz => h1 z (h3 z hz), fun z hz => ?_⟩
    rcases List.mem_cons.1 hz with rfl | hz
    · exact ⟨y, h1 y hy, he⟩
    · exact h2 z hz
theorem opens_eq {A : Tab} {V : Nat → Op4} (h : Jn A V) {M : List Op4} (hp : M.Perm (apL (nmL A V))) (hs : M.Pairwise fun a b => a.1 ≤ b.1) : M = opL A V := by
  refine srtO_ext ?_ (srt_op A V) fun x => ?_
  · have hn : M.Pairwise fun a b => a.1 ≠ b.1 := (hp.pairwise_iff (fun h e => h e.symm)).2 (ap_ids _ [] List.Pairwise.nil)
    exact (hs.and hn).imp fun ⟨h1, h2⟩ => by omega
  · rw [mem_op h, hp.mem_iff]
    constructor
    · exact apL_sub
    · intro hx
      obtain ⟨y, hy, he⟩ := (ap_has (nmL A V) []).2 x hx
      rw [h.injV hx (apL_sub hy) he.symm]
      exact hy
theorem frI_ge : ∀ (M : List Op4) (i : Nat), i ≤ frI i M
  | [], i => Nat.le_refl _
  | x :: l, i => by
    unfold frI
    split
    · have := frI_ge l (i + 1); omega
    · exact Nat.le_refl _
theorem frI_free : ∀ (M : List Op4) (k : Nat), SrtO M → (∀ x ∈ M, (k : Int) ≤ x.1) → (∀ j : Nat, k ≤ j → j < frI k M → ∃ x ∈ M, x.1 = (j : Int)) ∧ ∀ x ∈ M, x.1 ≠ (frI k M : Int)
  | [], k, _, _ => ⟨fun j h1 h2 => by unfold frI at h2; omega, fun _ h => absurd h (by simp)⟩
  | x :: l, k, hs, hk => by
    obtain ⟨hs1, hs2⟩ := List.pairwise_cons.1 hs
    have hxk := hk x List.mem_cons_self
    unfold frI
    by_cases he : x.1 = (k : Int)
    · rw [if_pos he]
      obtain ⟨h1, h2⟩ := frI_free l (k + 1) hs2 fun y hy => by have := hs1 y hy; omega
      have hge := frI_ge l (k + 1)
      refine ⟨fun j hj hlt => ?_, fun y hy => ?_⟩
      · by_cases hjk : j = k
        · exact ⟨x, List.mem_cons_self, by rw [hjk]; exact he⟩
        · obtain ⟨y, hy, hye⟩ := h1 j (by omega) hlt
          exact ⟨y, List.mem_cons_of_mem _ hy, hye⟩
      · rcases List.mem_cons.1 hy with rfl | hy
        · omega
        · exact h2 y hy
    · rw [if_neg he]
      refine ⟨fun j h1 h2 => by omega, fun y hy => ?_⟩
      rcases List.mem_cons.1 hy with rfl | hy
      · exact he
      · have := hs1 y hy
        omega
theorem free_op {A : Tab} {V : Nat → Op4} (h : Jn A V) {i : Nat} (hf : FreeA A V i) : FreeI (opL A V) i := by
  obtain ⟨M, hp, hs, rfl⟩ := hf
  rw [opens_eq h hp hs]
  obtain ⟨h1, h2⟩ := frI_free (opL A V) 0 (srt_op A V) fun x hx => (h.sml.nm x ((mem_op h).1 hx)).1
  refine ⟨List.find?_eq_none.2 fun x hx hk => h2 x hx (ko_iff.1 hk), fun j hj hn => ?_⟩
  obtain ⟨x, hx, he⟩ := h1 j (by omega) hj
  exact List.find?_eq_none.1 hn x hx (ko_iff.2 he)
end Go.Proofs.Ytaapiffglfppnaa
