/- A region that draws its order, with several stores at its end: reads are taken first; S holds up to number z alone; no statement is proved in this text. -/
import Derived.Test.YtgiemijhndanjaaDoorOrd
namespace Go.Proofs.YtgiemijhndanjaaDoor

section
variable {P : Program} {ops : Array Oper} {Q : Exit → Act → World → Prop} {md : Region.Mode} {S : World → Prop} {z : Nat}

theorem anc_op : ∀ (p : List Nat) (i : Nat), anc md ops (i :: (p ++ [z])) = true → ∃ oz, ops[z]? = some oz
  | [], i, h => by
    obtain ⟨⟨o, ho, _⟩, _⟩ := anc_edge h
    exact ⟨o, ho⟩
  | j :: p, i, h => by
    obtain ⟨_, h2⟩ := anc_edge (r := p ++ [z]) h
    exact anc_op p j h2
theorem anc_unl {i : Nat} {p : List Nat} (hp : anc md ops (i :: (p ++ [z])) = true) {listed : Array Bool} (hc : Closed md ops listed) (hun : listed.getD i true = false) : listed.getD z false = false := by
  cases hz : listed.getD z false with
  | false => rfl
  | true =>
    obtain ⟨oz, hoz⟩ := anc_op p i hp
    have := anc_listed hc hoz (fun e he hb => hc z oz hoz hz e he hb) p i hp
    rcases Nat.lt_or_ge i listed.size with h' | h'
    · simp [h'] at hun this; rw [hun] at this; cases this
    · simp [Array.getElem?_eq_none h'] at this
/-- Whatever order is picked from here on, and S holds behind every operation that is carried out ahead of number z. -/
def wpAnyM (P : Program) (md : Region.Mode) (ops : Array Oper) (Q : Exit → Act → World → Prop) (S : World → Prop) (z : Nat) : Nat → Array Bool → Act → World → Prop
  | 0, listed, a, w => Region.ready md ops listed = [] ∧ Q .normal a w
  | fuel + 1, listed, a, w =>
    (Region.ready md ops listed = [] → Q .normal a w) ∧
    ∀ i ∈ Region.ready md ops listed, wpOp P ops Q i (fun a' w' => ((listed.setIfInBounds i true).getD z false = false → S w') ∧ wpAnyM P md ops Q S z fuel (listed.setIfInBounds i true) a' w') a w
theorem wpAny_of_lastM : ∀ (fuel : Nat) (listed : Array Bool) (a : Act) (w : World), wpAnyM P md ops Q S z fuel listed a w → wpAny P md ops Q fuel listed a w
  | 0, _, _, _, h => h
  | fuel + 1, _, _, _, h => ⟨h.1, fun i hi => wpOp_mono (fun a' w' h' => wpAny_of_lastM fuel _ a' w' h'.2) (h.2 i hi)⟩
theorem wpAnyM_first {i : Nat} {oi : Oper} {v : Value} {p : List Nat} (hp : anc md ops (i :: (p ++ [z])) = true) (hi : ops[i]? = some oi) (hsel : ∀ (j : Nat) (o : Oper) cs b, ops[j]? = some o → o.op ≠ .select cs b)
    (hQ : ∀ c a w, Q (.panic c) (a.put oi.dst v) w → Q (.panic c) a w) :
    ∀ (fuel : Nat) (listed : Array Bool) (a : Act) (w : World), Closed md ops listed →
      (∀ j oj, ops[j]? = some oj → j ≠ i → listed.getD j true = false → (∀ e ∈ oj.after, Region.binds md e = true → e.on ≠ i) → oi.apart ops oj = true) →
      i ∈ Region.ready md ops listed → YieldsIf P ops S oi v a → S w →
      wpAnyM P md ops Q S z fuel (listed.setIfInBounds i true) (a.put oi.dst v) w → wpAnyM P md ops Q S z (fuel + 1) listed a w := by
  intro fuel
  induction fuel with
  | zero =>
    intro listed a w _ _ hr hy hS H
    refine ⟨fun h => (by rw [h] at hr; cases hr), fun j hj => ?_⟩
    by_cases hji : j = i
    · subst hji; exact hy.wpOp hi hS ⟨fun _ => hS, H⟩
    · have := ready_mono hj hji
      rw [H.1] at this
      cases this
  | succ fuel ih =>
    intro listed a w hc hfree hr hy hS H
    refine ⟨fun h => (by rw [h] at hr; cases hr), fun j hj => ?_⟩
    by_cases hji : j = i
    · subst hji; exact hy.wpOp hi hS ⟨fun _ => hS, H⟩
    · have h1 := H.2 j (ready_mono hj hji)
      have hjz : j ≠ z := fun h => anc_last hp hc (mem_ready.1 hr).1 (h ▸ hj)
      have hzu : (listed.setIfInBounds j true).getD z false = false := by
        rw [getD_set_ne false hjz]
        exact anc_unl hp hc (mem_ready.1 hr).1
      have hzu2 : ((listed.setIfInBounds i true).setIfInBounds j true).getD z false = false ∨ i = z := by
        by_cases hiz : i = z
        · exact Or.inr hiz
        · refine Or.inl ?_
          rw [getD_set_ne false hjz, getD_set_ne false hiz]
          exact anc_unl hp hc (mem_ready.1 hr).1
      obtain ⟨hjun, oj, hoj, hall⟩ := mem_ready.1 hj
      have hnot : ∀ e ∈ oj.after, Region.binds md e = true → e.on ≠ i := fun e he hb heq => by
        have h1 := hall e he hb
        have h0 := (mem_ready.1 hr).1
        rw [heq] at h1
        rcases Nat.lt_or_ge i listed.size with h' | h'
        · simp [h'] at h0 h1; rw [h0] at h1; cases h1
        · simp [Array.getElem?_eq_none h'] at h1
      have h2 := wpOp_putIf hoj (hfree j oj hoj hji hjun hnot) (fun cs b => hsel i oi cs b hi) (fun cs b => hsel j oj cs b hoj) hQ hy h1
      have hfree' : ∀ k ok, ops[k]? = some ok → k ≠ i → (listed.setIfInBounds j true).getD k true = false →
          (∀ e ∈ ok.after, Region.binds md e = true → e.on ≠ i) → oi.apart ops ok = true := fun k ok hk hki hun hno => by
        refine hfree k ok hk hki ?_ hno
        by_cases hjk : j = k
        · subst hjk; exact hjun
        · rw [getD_set_ne true hjk] at hun; exact hun
      have hiz : i ≠ z := fun e => by
        subst e
        exact anc_last hp hc (mem_ready.1 hr).1 hr
      have hz3 : ((listed.setIfInBounds i true).setIfInBounds j true).getD z false = false := hzu2.resolve_right hiz
      refine wpOp_mono (fun a' w' h3 => ⟨fun _ => h3.2.1 hz3, ih (listed.setIfInBounds j true) a' w' (hc.step hj) hfree' (ready_mono hr (Ne.symm hji)) h3.1 (h3.2.1 hz3) ?_⟩) h2
      rw [Array.setIfInBounds_comm _ _ hji]
      exact h3.2.2
/-- .. in an order that is closed. -/
def wpM (P : Program) (md : Region.Mode) (ops : Array Oper) (Q : Exit → Act → World → Prop) (S : World → Prop) (z fuel : Nat) (listed : Array Bool) (a : Act) (w : World) : Prop :=
  Closed md ops listed → wpAnyM P md ops Q S z fuel listed a w
theorem wpM_take (i d : Nat) (v : Value) (p : List Nat) {oi : Oper} {fuel : Nat} {listed : Array Bool} {a : Act} {w : World} (hi : ops[i]? = some oi) (hd : oi.dst = some d) (hp : anc md ops (i :: (p ++ [z])) = true)
    (hs : Region.noSelect ops = true) (hf : Region.free md ops listed i = true) (hr : (Region.ready md ops listed).contains i = true)
    (hQ : ∀ c a w, Q (.panic c) (a.put (some d) v) w → Q (.panic c) a w) (hS : S w) (hw : Region.wanted oi (yielded ops a.tmps) = true) (hy : ∀ w, S w → (execOp a.eval oi).run P w = .ok (.value v) w)
    (h : wpM P md ops Q S z fuel (listed.setIfInBounds i true) (a.put (some d) v) w) : wpM P md ops Q S z (fuel + 1) listed a w := fun hc =>
  have hr' : i ∈ Region.ready md ops listed := by simpa using hr
  wpAnyM_first hp hi (Region.noSelect_spec hs) (by rw [hd]; exact hQ) fuel listed a w hc (Region.free_spec hi hf) hr' (Or.inl ⟨hw, hy⟩) hS (by rw [hd]; exact h (hc.step hr'))
theorem wpM_one (i : Nat) {o : Oper} {fuel : Nat} {listed : Array Bool} {a : Act} {w : World} (ho : ops[i]? = some o) (hr : Region.ready md ops listed = [i]) (hw : Region.wanted o (yielded ops a.tmps) = true)
    (h : ∀ K' : Act → World → Prop, Shut (∀ a w, ((listed.setIfInBounds i true).getD z false = false → S w) → wpM P md ops Q S z fuel (listed.setIfInBounds i true) a w → K' a w) → Oper.wp P o a w K' Q) : wpM P md ops Q S z (fuel + 1) listed a w := fun hc =>
  ⟨fun h0 => (by rw [hr] at h0; cases h0), fun j hj => by
    rw [hr] at hj
    obtain rfl := List.mem_singleton.1 hj
    refine wpOp_step ho fun K' hK => ?_
    rw [if_pos hw]
    exact h K' (fun a w hS hM => hK a w ⟨hS, hM (hc.step (by rw [hr]; exact List.mem_singleton.2 rfl))⟩)⟩
theorem wpM_done {fuel : Nat} {listed : Array Bool} {a : Act} {w : World} (hr : Region.ready md ops listed = []) (h : Q .normal a w) : wpM P md ops Q S z fuel listed a w := fun _ => by
  cases fuel with
  | zero => exact ⟨hr, h⟩
  | succ n => exact ⟨fun _ => h, fun i hi => by rw [hr] at hi; cases hi⟩
theorem wp_region_lastM (S : World → Prop) (z : Nat) {id : Nat} {a : Act} {w : World} (hm : P.follows .mixedOrders = true)
    (h : wpM P .any ops Q S z ops.size (Array.replicate ops.size false) a w.drew) : (Code.region id ops true).wp P Q a w :=
  wp_region_any hm (wpAny_of_lastM (S := S) (z := z) _ _ _ _ (h fun j o _ hl => by
    exfalso
    by_cases hj : j < ops.size
    · simp [hj] at hl
    · simp [hj] at hl))
end
end Go.Proofs.YtgiemijhndanjaaDoor
