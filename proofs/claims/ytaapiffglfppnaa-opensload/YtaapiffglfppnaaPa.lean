/- Plain lists: slots by places; no statement is proved in this text. -/
import Derived.Test.YtaapiffglfppnaaDj
import Derived.Test.YtaapiffglfppnaaAd
namespace Go.Proofs.Ytaapiffglfppnaa
open Go.ChangeShapes Go.WideShapes Go.ChangeAt Go.RowKit Go.Deep

def places : List (Nat × Nat) := (List.range 6).flatMap fun r => (List.range 6).map fun g => (r, g)
def slX (A : Tab) (V : Nat → Op4) (x : Nat × Nat) : Option Sl3 := (A x.1 x.2).map fun a => ((x.1 : Int) + 1, (x.2 : Int), (V a).1)
theorem adL_eq (A : Tab) : adL A = places.filterMap fun x => (A x.1 x.2).map fun a => (x.1, x.2, a) := by
  unfold adL adU adR places
  rw [List.filterMap_flatMap]
  congr 1
theorem slL_eq (A : Tab) (V : Nat → Op4) : slL A V = places.filterMap (slX A V) := by
  unfold slL
  rw [adL_eq, List.map_filterMap]
  congr 1
  funext x
  unfold slX slF
  cases A x.1 x.2 <;> rfl
def lexN (a b : Nat × Nat) : Prop := a.1 < b.1 ∨ a.1 = b.1 ∧ a.2 < b.2
instance (a b : Nat × Nat) : Decidable (lexN a b) := by unfold lexN; infer_instance
theorem places_split : ∀ r, r < 6 → ∀ g, g < 6 → places = places.take (r * 6 + g) ++ (r, g) :: places.drop (r * 6 + g + 1) ∧ (∀ y ∈ places.take (r * 6 + g), lexN y (r, g)) ∧ ∀ y ∈ places.drop (r * 6 + g + 1), lexN (r, g) y := by decide +kernel
theorem mem_places {x : Nat × Nat} : x ∈ places ↔ x.1 < 6 ∧ x.2 < 6 := by
  obtain ⟨r, g⟩ := x
  unfold places
  simp
theorem slX_some {A : Tab} {V : Nat → Op4} {x : Nat × Nat} {s : Sl3} (h : slX A V x = some s) : ∃ a, A x.1 x.2 = some a ∧ s = ((x.1 : Int) + 1, (x.2 : Int), (V a).1) := by
  unfold slX at h
  cases ha : A x.1 x.2 with
  | none => rw [ha] at h; cases h
  | some a => rw [ha] at h; simp at h; exact ⟨a, rfl, h.symm⟩
/-- Slots below and above a place. -/
def slo (A : Tab) (V : Nat → Op4) (r g : Nat) : List Sl3 := (places.take (r * 6 + g)).filterMap (slX A V)
def shi (A : Tab) (V : Nat → Op4) (r g : Nat) : List Sl3 := (places.drop (r * 6 + g + 1)).filterMap (slX A V)
theorem slL_split (A : Tab) (V : Nat → Op4) (r g : Nat) (hr : r < 6) (hg : g < 6) : slL A V = slo A V r g ++ ((slX A V (r, g)).toList ++ shi A V r g) := by
  unfold slo shi
  rw [slL_eq]
  refine (congrArg (List.filterMap (slX A V)) (places_split r hr g hg).1).trans ?_
  rw [List.filterMap_append, List.filterMap_cons]
  cases slX A V (r, g) <;> rfl
theorem slo_lt {A : Tab} {V : Nat → Op4} {r g : Nat} (hr : r < 6) (hg : g < 6) : ∀ e ∈ slo A V r g, lt2 (pk e) ((r : Int) + 1, (g : Int)) := fun e he => by
  obtain ⟨y, hy, hx⟩ := List.mem_filterMap.1 he
  obtain ⟨a, _, rfl⟩ := slX_some hx
  have h1 := (places_split r hr g hg).2.1 y hy
  unfold lexN at h1
  unfold lt2 pk
  simp only []
  omega
theorem shi_lt {A : Tab} {V : Nat → Op4} {r g : Nat} (hr : r < 6) (hg : g < 6) : ∀ e ∈ shi A V r g, lt2 ((r : Int) + 1, (g : Int)) (pk e) := fun e he => by
  obtain ⟨y, hy, hx⟩ := List.mem_filterMap.1 he
  obtain ⟨a, _, rfl⟩ := slX_some hx
  have h1 := (places_split r hr g hg).2.2 y hy
  unfold lexN at h1
  unfold lt2 pk
  simp only []
  omega
theorem slX_congr {A A' : Tab} {V V' : Nat → Op4} {l : List (Nat × Nat)} (h : ∀ y ∈ l, slX A V y = slX A' V' y) : l.filterMap (slX A V) = l.filterMap (slX A' V') := by
  induction l with
  | nil => rfl
  | cons y l ih =>
    rw [List.filterMap_cons, List.filterMap_cons, h y List.mem_cons_self, ih fun z hz => h z (List.mem_cons_of_mem _ hz)]
theorem slX_upd {A : Tab} {V V' : Nat → Op4} {r g : Nat} {x : Option Nat} {y : Nat × Nat} (hy : y ≠ (r, g)) (hV : ∀ a, A y.1 y.2 = some a → (V' a).1 = (V a).1) : slX (upd A r g x) V' y = slX A V y := by
  unfold slX upd
  rw [if_neg fun h => hy (Prod.ext h.1 h.2)]
  cases ha : A y.1 y.2 with
  | none => rfl
  | some a => show some ((y.1 : Int) + 1, (y.2 : Int), (V' a).1) = some _; rw [hV a ha]
theorem slo_upd {A : Tab} {V V' : Nat → Op4} {r g : Nat} {x : Option Nat} (hr : r < 6) (hg : g < 6) (hV : ∀ r' g' a, r' < 6 → g' < 6 → A r' g' = some a → (V' a).1 = (V a).1) : slo (upd A r g x) V' r g = slo A V r g := slX_congr fun y hy => by
  have hm := mem_places.1 (List.mem_of_mem_take hy)
  refine slX_upd (fun e => ?_) fun a ha => hV _ _ a hm.1 hm.2 ha
  have := (places_split r hr g hg).2.1 y hy
  subst e
  unfold lexN at this
  omega
theorem shi_upd {A : Tab} {V V' : Nat → Op4} {r g : Nat} {x : Option Nat} (hr : r < 6) (hg : g < 6) (hV : ∀ r' g' a, r' < 6 → g' < 6 → A r' g' = some a → (V' a).1 = (V a).1) : shi (upd A r g x) V' r g = shi A V r g := slX_congr fun y hy => by
  have hm := mem_places.1 (List.mem_of_mem_drop hy)
  refine slX_upd (fun e => ?_) fun a ha => hV _ _ a hm.1 hm.2 ha
  have := (places_split r hr g hg).2.2 y hy
  subst e
  unfold lexN at this
  omega
theorem upd_same (A : Tab) (r g : Nat) (x : Option Nat) : upd A r g x r g = x := by unfold upd; rw [if_pos ⟨rfl, rfl⟩]
/-- A slot more at a free place. -/
theorem sl_put {A : Tab} {V V' : Nat → Op4} {r g a : Nat} (hr : r < 6) (hg : g < 6) (hV : ∀ r' g' a, r' < 6 → g' < 6 → A r' g' = some a → (V' a).1 = (V a).1) : slL (upd A r g (some a)) V' = slo A V r g ++ ((r : Int) + 1, (g : Int), (V' a).1) :: shi A V r g := by
  rw [slL_split _ _ r g hr hg, slo_upd hr hg hV, shi_upd hr hg hV]
  unfold slX
  rw [upd_same]
  rfl
theorem sl_cut {A : Tab} {V : Nat → Op4} {r g : Nat} (hr : r < 6) (hg : g < 6) : slL (upd A r g none) V = slo A V r g ++ shi A V r g := by
  rw [slL_split _ _ r g hr hg, slo_upd (V := V) hr hg (fun _ _ _ _ _ _ => rfl), shi_upd (V := V) hr hg (fun _ _ _ _ _ _ => rfl)]
  unfold slX
  rw [upd_same]
  rfl
theorem sl_free {A : Tab} {V : Nat → Op4} {r g : Nat} (hr : r < 6) (hg : g < 6) (ha : A r g = none) : slL A V = slo A V r g ++ shi A V r g := by
  rw [slL_split A V r g hr hg]
  unfold slX
  rw [ha]
  rfl
theorem spl_free {A : Tab} {V : Nat → Op4} {r g : Nat} (hr : r < 6) (hg : g < 6) (ha : A r g = none) (i : Int) : Spl (slL A V) ((r : Int) + 1, (g : Int), i) (slo A V r g) (shi A V r g) := ⟨sl_free hr hg ha, slo_lt hr hg, shi_lt hr hg⟩
theorem spl_cut {A : Tab} {V : Nat → Op4} {r g : Nat} (hr : r < 6) (hg : g < 6) (i : Int) : Spl (slL (upd A r g none) V) ((r : Int) + 1, (g : Int), i) (slo A V r g) (shi A V r g) := ⟨sl_cut hr hg, slo_lt hr hg, shi_lt hr hg⟩
/-- All slots but one. -/
theorem lf_cut {A : Tab} {V : Nat → Op4} {r g : Nat} (hr : r < 6) (hg : g < 6) : lfL (slL A V) ((r : Int) + 1) g = slL (upd A r g none) V := by
  rw [sl_cut hr hg, slL_split A V r g hr hg]
  unfold lfL
  have h1 : (slo A V r g).filter (lfF ((r : Int) + 1) g) = slo A V r g := List.filter_eq_self.2 fun e he => by
    have := slo_lt hr hg e he
    unfold lt2 pk at this
    unfold lfF
    simp only [Bool.or_eq_true, bne_iff_ne, Bool.and_eq_true, decide_eq_true_eq] at this ⊢
    omega
  have h2 : (shi A V r g).filter (lfF ((r : Int) + 1) g) = shi A V r g := List.filter_eq_self.2 fun e he => by
    have := shi_lt hr hg e he
    unfold lt2 pk at this
    unfold lfF
    simp only [Bool.or_eq_true, bne_iff_ne, Bool.and_eq_true, decide_eq_true_eq] at this ⊢
    omega
  rw [List.filter_append, List.filter_append, h1, h2]
  unfold slX
  cases A r g with
  | none => rfl
  | some a =>
    show _ ++ (List.filter _ [_] ++ _) = _
    rw [List.filter_cons]
    have : lfF ((r : Int) + 1) g ((r : Int) + 1, (g : Int), (V a).1) = false := by
      unfold lfF
      simp
    rw [if_neg (by rw [this]; simp)]
    rfl
/-- All slots but a process's. -/
theorem lf_drop (A : Tab) (V : Nat → Op4) (p : Int) : lfL (slL A V) p (-1) = slL (drK A p 6) V := by
  rw [slL_eq, slL_eq]
  unfold lfL
  have key : ∀ l : List (Nat × Nat), (∀ y ∈ l, y.2 < 6) → (l.filterMap (slX A V)).filter (lfF p (-1)) = l.filterMap (slX (drK A p 6) V) := by
    intro l
    induction l with
    | nil => intro _; rfl
    | cons y l ih =>
      intro hl
      have ih2 := ih fun z hz => hl z (List.mem_cons_of_mem _ hz)
      have hy := hl y List.mem_cons_self
      rw [List.filterMap_cons, List.filterMap_cons]
      by_cases hp : (y.1 : Int) + 1 = p
      · have h1 : slX (drK A p 6) V y = none := by
          unfold slX drK
          rw [if_pos ⟨hp, hy⟩]
          rfl
        rw [h1]
        cases hs : slX A V y with
        | none => exact ih2
        | some s =>
          obtain ⟨a, _, rfl⟩ := slX_some hs
          show List.filter _ (_ :: _) = _
          rw [List.filter_cons, if_neg (by unfold lfF; simp [hp])]
          exact ih2
      · have h1 : slX (drK A p 6) V y = slX A V y := by
          unfold slX drK
          rw [if_neg fun h => hp h.1]
        rw [h1]
        cases hs : slX A V y with
        | none => exact ih2
        | some s =>
          obtain ⟨a, _, rfl⟩ := slX_some hs
          show List.filter _ (_ :: _) = _ :: _
          rw [List.filter_cons, if_pos (by unfold lfF; simp [hp]), ih2]
  exact key _ fun y hy => (mem_places.1 hy).2
theorem find_none {A : Tab} {V : Nat → Op4} {p q : Int} (h : atA A p q = none) : (slL A V).find? (kp p q) = none := by
  rw [List.find?_eq_none]
  intro s hs
  rw [slL_eq] at hs
  obtain ⟨y, hy, hx⟩ := List.mem_filterMap.1 hs
  obtain ⟨a, ha, rfl⟩ := slX_some hx
  intro hk
  obtain ⟨rfl, rfl⟩ := kp_iff.1 hk
  have hm := mem_places.1 hy
  rw [atA_in A y.1 y.2 hm.1 hm.2, ha] at h
  cases h
theorem find_some {A : Tab} {V : Nat → Op4} {r g a : Nat} (hr : r < 6) (hg : g < 6) (ha : A r g = some a) : (slL A V).find? (kp ((r : Int) + 1) g) = some ((r : Int) + 1, (g : Int), (V a).1) := by
  rw [slL_split A V r g hr hg, List.find?_append, List.find?_eq_none.2 fun e he hk => by
    have := slo_lt hr hg e he
    unfold lt2 pk at this
    have := kp_iff.1 hk
    simp only [] at *
    omega]
  unfold slX
  rw [ha]
  show Option.or _ (List.find? _ (_ :: _)) = _
  rw [List.find?_cons, show kp ((r : Int) + 1) g ((r : Int) + 1, (g : Int), (V a).1) = true from kp_iff.2 ⟨rfl, rfl⟩]
  rfl
theorem free_fst {A : Tab} {V : Nat → Op4} {r f : Nat} (hr : r < 6) (h : Fst A r f) : FreeS (slL A V) ((r : Int) + 1) f := by
  obtain ⟨h6, hn, hj⟩ := h
  refine ⟨by omega, fun j hlt => ?_, fun _ => find_none (by rw [atA_in A r f hr h6]; exact hn)⟩
  cases ha : A r j with
  | none => exact absurd ha (hj j hlt)
  | some a => rw [find_some hr (by omega) ha]; simp
theorem free_full {A : Tab} {V : Nat → Op4} {r : Nat} (hr : r < 6) (h : ∀ j, j < 6 → A r j ≠ none) : FreeS (slL A V) ((r : Int) + 1) 6 := by
  refine ⟨Nat.le_refl _, fun j hlt => ?_, fun h => by omega⟩
  cases ha : A r j with
  | none => exact absurd ha (h j hlt)
  | some a => rw [find_some hr hlt ha]; simp
end Go.Proofs.Ytaapiffglfppnaa
