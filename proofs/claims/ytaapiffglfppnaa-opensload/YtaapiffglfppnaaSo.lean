/- The sort of objects by their IDs; no statement is proved in this text. -/
import Derived.Test.YtaapiffglfppnaaAp
import Derived.Test.YtaapiffglfppnaaShelf
import Derived.Shelf.SlSortCmp.NoneTotal
namespace Go.Proofs.Ytaapiffglfppnaa
open Go.ChangeShapes Go.WideShapes Go.ChangeAt Go.RowKit Go.Deep
attribute [local go_sem ↓] Go.wp_at_zero Go.wp_at_succ

/-- Objects whose IDs are small. -/
abbrev Rg := { x : Op4 // 0 ≤ x.1 ∧ x.1 < 36 }
instance : Inhabited Rg := ⟨⟨(0, 0, 0, 0), by decide, by decide⟩⟩
def enc (x : Rg) : List Value := oC x.1
def cf (x y : Rg) : Int := x.1.1 - y.1.1
theorem lt_cf (x y : Rg) : Go.Proofs.ltOf cf x y = decide (x.1.1 < y.1.1) := by
  show decide (x.1.1 - y.1.1 < 0) = _
  rw [decide_eq_decide]
  omega
theorem swo : Go.Sort.SWO (Go.Proofs.ltOf cf) where
  irrefl x := by rw [lt_cf]; simp
  trans x y z h1 h2 := by rw [lt_cf] at *; simp at *; omega
  ntrans x y z h1 h2 := by rw [lt_cf] at *; simp at *; omega
set_option maxRecDepth 100000 in
set_option maxHeartbeats 1000000 in
theorem cmp_ok (x y : Rg) (W : World) : Calls Try.prog 63 #[ov x.1, ov y.1] W fun e w' => e = .returned (i64 (cf x y)) ∧ ∃ q os', w' = Go.Sort.grow (W.drewN q) os' := by
  obtain ⟨x, hx0, hx1⟩ := x
  obtain ⟨y, hy0, hy1⟩ := y
  show Calls Try.prog 63 #[ov x, ov y] W fun e w' => e = .returned (i64 (x.1 - y.1)) ∧ _
  have hw : IntKind.i64.wrap (x.1 - y.1) = x.1 - y.1 := wrap_id (by omega) (by omega)
  have HX := hid (blk_alloc (heap_last W (oO x 54)) (oO y 54))
  have HY := hid (heap_last (W.alloc (oO x 54)) (oO y 54))
  have hsz : (W.alloc (oO x 54)).heap.size = W.heap.size + 1 := by simp
  rw [hsz] at HY
  obtain ⟨x0, x1, x2, x3⟩ := four_cells HX.out
  obtain ⟨y0, y1, y2, y3⟩ := four_cells HY.out
  clear hsz
  go_enter Try.func63, Try.ntmps63
  go_wp2_with fail
  go_ret
  exact ⟨rfl, 0, _, by rw [Go.Sort.alloc_eq_grow, Go.Sort.alloc_eq_grow, Go.Sort.grow_grow]; rfl⟩
theorem cmpLays (blk off size : Nat) (w : World) : Go.Proofs.CmpLays Try.prog 63 #[] enc 4 cf blk off size w := fun _ _ _ _ x y => cmp_ok x y _
theorem sort_touch (w : World) (blk n : Nat) (d : Array Rg) (os : Array Obj) : Touch blk w (Go.Proofs.sortWorldK enc 4 w blk 0 n d os) := by
  refine ⟨rfl, rfl, rfl, ?_, fun k hk hq => ?_⟩
  · simp [Go.Proofs.sortWorldK, Go.Sort.grow, Go.Sort.putRowK, Go.Sort.putRow, Go.Sort.mapBlock, Go.Sort.ahead]
  · show ((w.heap.modify blk _) ++ os)[k]? = w.heap[k]?
    rw [Array.getElem?_append_left (by simpa using hk), Array.getElem?_modify]
    rw [if_neg (fun e => hq e.symm)]
theorem ocn_at (D : List Rg) (j : Nat) (hj : j < D.length * 4) : (ocn (D.map (·.1)))[j]? = some ((Go.Sort.flatK enc 4 D.toArray)[j]!) := by
  have hd : j / 4 < D.length := by omega
  rw [Go.Sort.get_flatK enc 4 D.toArray j (by simpa using hj)]
  obtain ⟨x, hx⟩ : ∃ x, D[j / 4]? = some x := ⟨_, List.getElem?_eq_getElem hd⟩
  have hx' : D.toArray[j / 4]! = x := by
    rw [getElem!_pos D.toArray (j / 4) (by simpa using hd)]
    have := (List.getElem?_eq_some_iff.1 hx).2
    simpa using this
  rw [hx']
  obtain ⟨e0, e1, e2, e3⟩ := ocn_get (D.map (·.1)) (j / 4) x.1 (by rw [List.getElem?_map, hx]; rfl)
  have hm : j % 4 = 0 ∨ j % 4 = 1 ∨ j % 4 = 2 ∨ j % 4 = 3 := by omega
  rcases hm with h | h | h | h
  · rw [h, show (ocn (D.map (·.1)))[j]? = _ from (congrArg (fun q => (ocn (D.map (·.1)))[q]?) (show j = j / 4 * 4 by omega)).trans e0]; rfl
  · rw [h, show (ocn (D.map (·.1)))[j]? = _ from (congrArg (fun q => (ocn (D.map (·.1)))[q]?) (show j = j / 4 * 4 + 1 by omega)).trans e1]; rfl
  · rw [h, show (ocn (D.map (·.1)))[j]? = _ from (congrArg (fun q => (ocn (D.map (·.1)))[q]?) (show j = j / 4 * 4 + 2 by omega)).trans e2]; rfl
  · rw [h, show (ocn (D.map (·.1)))[j]? = _ from (congrArg (fun q => (ocn (D.map (·.1)))[q]?) (show j = j / 4 * 4 + 3 by omega)).trans e3]; rfl
abbrev cfn : Value := .func (.func 63) #[] #[]
set_option maxHeartbeats 1000000 in
theorem sort_ok (w : World) (base : Nat) (ao : Option Addr) (cap : Nat) (X : List Op4) (hr : ∀ x ∈ X, 0 ≤ x.1 ∧ x.1 < 36) (hX : X.length ≤ 1000) (ho : w.ownsRow base 54 4 (.slice ao X.length cap) X.length (ocn X)) : Calls Try.prog 62 #[.slice ao X.length cap, cfn] w fun e w' => e = .returned (.tuple #[]) ∧ (∃ Y : List Op4, Y.Perm X ∧ Y.Pairwise (fun a b => a.1 ≤ b.1) ∧ Rd4 w' ao Y) ∧ Below base w w' := by
  by_cases h0 : X.length = 0
  · have hX0 : X = [] := List.eq_nil_of_length_eq_zero h0
    subst hX0
    have hcon := AnyF.slices_SortFunc_none { Try.sortO with } ao cap cfn w
    change Calls Try.prog 62 _ _ _ at hcon
    exact hcon.mono fun e w' ⟨he, hw⟩ => ⟨he, ⟨[], List.Perm.refl _, .nil, fun i a h => by simp at h⟩, hw ▸ Below.refl _ _⟩
  · obtain ⟨g, rfl, hbg, cur, hgg, hc⟩ := own_zeroK ho (by omega)
    obtain ⟨D, hD⟩ : ∃ D : List Rg, D.map (·.1) = X := by
      clear ho hX h0 hc
      induction X with
      | nil => exact ⟨[], rfl⟩
      | cons x X ih =>
        obtain ⟨D, hD⟩ := ih (fun y hy => hr y (List.mem_cons_of_mem _ hy))
        exact ⟨⟨x, hr x (by simp)⟩ :: D, by simp [hD]⟩
    subst hD
    rw [List.length_map] at *
    have eg : ∀ args w, (callFunc 63 args).run Try.prog w = .ok (.enter 63 args) w := enters_of Try.func63 (by kernel_rfl) rfl
    have hH : Go.Sort.HoldsK enc 4 w g 0 D.toArray := fun j hj => by
      have hj' : j < D.length * 4 := by simpa using hj
      refine ⟨?_, blk_frozen hgg _⟩
      rw [Nat.zero_add, ho.cellAt j (by omega), ocn_at D j hj']
      rfl
    have hcon := AnyQ.slices_SortFunc Try.sortO 4 (fun w => by kernel_rfl) (fun w => by kernel_rfl) enc (fun _ => rfl) (fun x v hv => oC_one x.1 v hv) cf swo 63 #[] g 0 cap D.toArray w eg (cmpLays g 0 _ w) hH (blk_lt hgg) (by simp; omega)
    change Calls Try.prog 62 _ _ _ at hcon
    simp only [List.size_toArray] at hcon
    refine hcon.mono ?_
    rintro e w' ⟨he, d', n, os, hp, hs, rfl⟩
    obtain ⟨hsz, _, hperm⟩ := hp
    simp only [List.size_toArray] at hsz
    have hH' := Go.Proofs.holdsK_sortWorldK enc 4 w g 0 n D.toArray d' os (blk_lt hgg) hH (by simpa using hsz)
    have hfull : (d'.extract 0 D.length).toList = d'.toList := by rw [← hsz]; simp
    have hfull2 : (D.toArray.extract 0 D.length).toList = D := by simp
    rw [hfull, hfull2] at hperm
    refine ⟨he, ⟨d'.toList.map (·.1), hperm.map _, ?_, fun i a hi => ?_⟩, (sort_touch w g n d' os).below hbg (Nat.le_trans hbg (Nat.le_of_lt (blk_lt hgg)))⟩
    · rw [List.pairwise_map, List.pairwise_iff_getElem]
      intro i j hi hj hij
      have hj' : j < d'.size := by simpa using hj
      have h := hs i j (Nat.zero_le _) hij (by omega)
      rw [lt_cf, getElem!_pos d' i (by omega), getElem!_pos d' j (by omega)] at h
      have := of_decide_eq_false h
      simp only [Array.getElem_toList]
      omega
    · rw [List.getElem?_map] at hi
      have hlt : i < d'.size := by
        rcases Nat.lt_or_ge i d'.size with h | h
        · exact h
        · rw [List.getElem?_eq_none (by simpa using h)] at hi; cases hi
      have ha : a = (d'[i]!).1 := by
        rw [List.getElem?_eq_getElem (by simpa using hlt)] at hi
        rw [getElem!_pos d' i hlt]
        simpa using hi.symm
      subst ha
      refine ⟨g, 0, rfl, Go.Proofs.lt_sortWorldK enc 4 w g 0 n d' os (blk_lt hgg), ?_, ?_, ?_, ?_⟩
      · exact (hH'.cell hlt (c := 0) (by omega)).1
      · exact (hH'.cell hlt (c := 1) (by omega)).1
      · exact (hH'.cell hlt (c := 2) (by omega)).1
      · exact (hH'.cell hlt (c := 3) (by omega)).1
end Go.Proofs.Ytaapiffglfppnaa
