/- Binds as it lies in memory; what becomes of it; no statement is proved in this text. -/
import Derived.Test.YtnknhencobhjdaaNil2
namespace Go.Proofs.Ytnknhencobhjdaa
open Go.ChangeShapes Go.WideShapes Go.ChangeAt Go.RowKit Go.Deep Go.ChangeMaps Go.MapKept
open Go.Proofs.Ytnknhencobhjdaa.Cp (pq hid below_one hO cO zC looks_nil)
open Go.Proofs.Ytnknhencobhjdaa.Qt (zT badB)

def hC (R : List Hn) : List Value := R.flatMap fun h => [i64 h.1, i64 h.2]
theorem hC_len : ∀ R : List Hn, (hC R).length = R.length * 2
  | [] => rfl
  | h :: R => by
    have := hC_len R
    unfold hC at this ⊢
    rw [List.flatMap_cons, List.length_append, this]
    simp
    omega
theorem hC_get : ∀ (R : List Hn) (i : Nat) (h : Hn), R[i]? = some h → (hC R)[i * 2]? = some (i64 h.1) ∧ (hC R)[i * 2 + 1]? = some (i64 h.2)
  | [], _, _, e => by simp at e
  | x :: R, 0, h, e => by
    simp at e
    subst e
    exact ⟨rfl, rfl⟩
  | x :: R, i + 1, h, e => by
    have := hC_get R i h (by simpa using e)
    unfold hC at this ⊢
    rw [List.flatMap_cons, show (i + 1) * 2 = i * 2 + 2 by omega, show i * 2 + 2 + 1 = (i * 2 + 1) + 2 by omega]
    simpa using this
theorem hC_set : ∀ (R : List Hn) (i : Nat) (h : Hn), i < R.length → hC (R.set i h) = ((hC R).set (i * 2) (i64 h.1)).set (i * 2 + 1) (i64 h.2)
  | [], _, _, e => by simp at e
  | x :: R, 0, h, _ => rfl
  | x :: R, i + 1, h, e => by
    have := hC_set R i h (by simpa using e)
    unfold hC at this ⊢
    rw [List.set_cons_succ, List.flatMap_cons, List.flatMap_cons, this, show (i + 1) * 2 = i * 2 + 2 by omega, show i * 2 + 2 + 1 = (i * 2 + 1) + 2 by omega]
    simp
abbrev rtO (R : List Hn) : Obj := .cells (hC R).toArray 43
abbrev slV (g n : Nat) : Value := .slice (some ⟨g, 0, none⟩) n n
structure Bx where
  kb : Nat
  kt : Nat
  km : Nat
  g : Nat → Nat
/-- A Binds lies in block b. -/
structure Bd (w : World) (base b : Nat) (x : Bx) (t : Qt.T) (s : Qt.St) (T : List Cp.Pl) (L : Ls) (R : Nat → List Hn) : Prop where
  row : w.heap[b]? = some (bdO (pq x.kb) (pq x.kt) (.map (some x.km)) (slV (x.g 0) (R 0).length) (slV (x.g 1) (R 1).length) (slV (x.g 2) (R 2).length))
  lo : base ≤ b
  bk : Qt.Bk w base x.kb t s
  tb : Cp.Tb w base x.kt T
  mp : MapIs w x.km L
  mlo : base ≤ x.km
  rt : ∀ k, k < 3 → w.heap[x.g k]? = some (rtO (R k)) ∧ base ≤ x.g k
  ap : ∀ i j, i < 3 → j < 3 → i ≠ j → x.g i ≠ x.g j
  len : ∀ k, k < 3 → (R k).length ≤ 64
section
variable {w w' : World} {base b : Nat} {x : Bx} {t : Qt.T} {s : Qt.St} {T : List Cp.Pl} {L : Ls} {R : Nat → List Hn}
theorem Bd.lt (h : Bd w base b x t s T L R) : b < w.heap.size := blk_lt h.row
theorem Bd.below (h : Bd w base b x t s T L R) (hb : Below w.heap.size w w') : Bd w' base b x t s T L R :=
  ⟨blk_below h.row hb, h.lo, h.bk.below hb, h.tb.below hb, h.mp.kept (hb.block _ h.mp.lt), h.mlo, fun k hk => ⟨blk_below (h.rt k hk).1 hb, (h.rt k hk).2⟩, h.ap, h.len⟩
theorem Bd.drew (h : Bd w base b x t s T L R) : Bd w.drew base b x t s T L R :=
  ⟨h.row, h.lo, h.bk.same (fun _ _ hk _ => hk), ⟨h.tb.lo, h.tb.len, h.tb.row⟩, h.mp.kept rfl, h.mlo, h.rt, h.ap, h.len⟩
/-- What a call may have changed. -/
def ownB (x : Bx) (k : Nat) : Obj → Bool
  | .cells _ t _ => t == 118 || t == 141 || t == 123 || k == x.g 0 || k == x.g 1 || k == x.g 2
  | .map _ _ => k == x.km
  | _ => false
structure Bf (base : Nat) (x : Bx) (w w' : World) : Prop where
  below : Below base w w'
  kept : ∀ (k : Nat) (o : Obj), w.heap[k]? = some o → ownB x k o = false → w'.heap[k]? = some o
theorem Bf.refl (base : Nat) (x : Bx) (w : World) : Bf base x w w := ⟨Below.refl _ _, fun _ _ h _ => h⟩
theorem Bf.trans {a c : World} (h : Bf base x a w) (k : Bf base x w c) : Bf base x a c :=
  ⟨h.below.trans k.below, fun i o hi ho => k.kept i o (h.kept i o hi ho) ho⟩
theorem Bf.of_below (hb : Below w.heap.size w w') (h : base ≤ w.heap.size) : Bf base x w w' := ⟨hb.mono h, fun _ _ hk _ => blk_below hk hb⟩
theorem Bf.size (h : Bf base x w w') : w.heap.size ≤ w'.heap.size := h.below.size
theorem Bd.lo' (h : Bd w base b x t s T L R) : base ≤ w.heap.size := by have := h.lt; have := h.lo; omega
theorem Bf.drew (h : Bf base x w w') : Bf base x w w'.drew := ⟨h.below.drew, h.kept⟩
theorem Bf.of_drew (h : Bf base x w.drew w') : Bf base x w w' := ⟨⟨h.below.os, h.below.tape, h.below.output, h.below.size, h.below.block⟩, h.kept⟩
theorem ne_of_obj {a c : Nat} {o p : Obj} (h : w.heap[a]? = some o) (k : w.heap[c]? = some p) (hne : o ≠ p) : a ≠ c := fun e => by
  subst e
  rw [h] at k
  exact hne (Option.some.inj k)
theorem MapIs.ne {km a : Nat} {C : Array Value} {ty : TypeId} (h : MapIs w km L) (k : w.heap[a]? = some (.cells C ty)) : a ≠ km := fun e => by
  obtain ⟨es, clock, hb, _⟩ := h
  subst e
  rw [hb] at k
  cases k
/-- The table has changed. -/
theorem Bd.table (h : Bd w base b x t s T L R) {T' : List Cp.Pl} (ht : Cp.Tb w' base x.kt T') (hto : Touch x.kt w w') : Bd w' base b x t s T' L R := by
  have keep : ∀ {k : Nat} {o : Obj}, w.heap[k]? = some o → k ≠ x.kt → w'.heap[k]? = some o := fun hk hne => (hto.block _ (blk_lt hk) hne).trans hk
  refine ⟨keep h.row (ne_of_obj h.row h.tb.row (by simp)), h.lo, h.bk.same (fun k o hk ho => keep hk (ne_of_obj hk h.tb.row (fun e => ?_))), ht, h.mp.kept (hto.block _ h.mp.lt (fun e => h.mp.ne h.tb.row e.symm)), h.mlo, fun k hk => ⟨keep (h.rt k hk).1 (ne_of_obj (h.rt k hk).1 h.tb.row (by simp)), (h.rt k hk).2⟩, h.ap, h.len⟩
  obtain ⟨C, rfl | rfl⟩ := ho <;> cases e
theorem Bd.table_f (h : Bd w base b x t s T L R) (hto : Touch x.kt w w') : Bf base x w w' :=
  ⟨hto.below h.tb.lo h.lo', fun k o hk ho => (hto.block _ (blk_lt hk) (fun e => by
    subst e
    rw [h.tb.row] at hk
    cases hk
    simp [ownB] at ho)).trans hk⟩
/-- The book has. -/
theorem Bd.book (h : Bd w base b x t s T L R) {s' : Qt.St} (hk : Qt.Bk w' base x.kb t s') (hf : Fr base [118, 141] w w') : Bd w' base b x t s' T L R := by
  refine ⟨hf.kept _ _ h.row rfl, h.lo, hk, ⟨h.tb.lo, h.tb.len, hf.kept _ _ h.tb.row rfl⟩, ?_, h.mlo, fun k hk => ⟨hf.kept _ _ (h.rt k hk).1 rfl, (h.rt k hk).2⟩, h.ap, h.len⟩
  obtain ⟨es, clock, hb, g⟩ := h.mp
  exact ⟨es, clock, hf.kept _ _ hb rfl, g⟩
theorem Bd.book_f (hf : Fr base [118, 141] w w') : Bf base x w w' := ⟨hf.below, fun k o hk ho => hf.kept k o hk (by
  cases o with
  | cells C ty fr =>
    simp only [ownB, Bool.or_eq_false_iff] at ho
    simp only [keeps]
    simp
    simp at ho
    exact ⟨ho.1.1.1.1.1, ho.1.1.1.1.2⟩
  | _ => rfl)⟩
/-- The bills have. -/
theorem Bd.bills (h : Bd w base b x t s T L R) {L' : Ls} (hm : MapIs w' x.km L') (hto : Touch x.km w w') : Bd w' base b x t s T L' R := by
  have keep : ∀ {k : Nat} {C : Array Value} {ty : TypeId}, w.heap[k]? = some (.cells C ty) → w'.heap[k]? = some (.cells C ty) := fun hk => (hto.block _ (blk_lt hk) (h.mp.ne hk)).trans hk
  refine ⟨keep h.row, h.lo, h.bk.same (fun k o hk ho => ?_), ⟨h.tb.lo, h.tb.len, keep h.tb.row⟩, hm, h.mlo, fun k hk => ⟨keep (h.rt k hk).1, (h.rt k hk).2⟩, h.ap, h.len⟩
  obtain ⟨C, rfl | rfl⟩ := ho <;> exact keep hk
theorem Bd.bills_f (h : Bd w base b x t s T L R) (hto : Touch x.km w w') : Bf base x w w' :=
  ⟨hto.below h.mlo h.lo', fun k o hk ho => (hto.block _ (blk_lt hk) (fun e => by
    subst e
    obtain ⟨es, clock, hb, _⟩ := h.mp
    rw [hb] at hk
    cases hk
    simp [ownB] at ho)).trans hk⟩
/-- One root of kind k has. -/
theorem Bd.root (h : Bd w base b x t s T L R) {k : Nat} (hk : k < 3) {R' : List Hn} (hl : R'.length = (R k).length) (hr : w'.heap[x.g k]? = some (rtO R')) (hto : Touch (x.g k) w w') : Bd w' base b x t s T L (fun i => if i = k then R' else R i) := by
  have hg := (h.rt k hk).1
  have keep : ∀ {j : Nat} {o : Obj}, w.heap[j]? = some o → j ≠ x.g k → w'.heap[j]? = some o := fun hk hne => (hto.block _ (blk_lt hk) hne).trans hk
  have hlen : ∀ i, (if i = k then R' else R i).length = (R i).length := fun i => by
    by_cases e : i = k
    · rw [if_pos e, e, hl]
    · rw [if_neg e]
  refine ⟨?_, h.lo, h.bk.same (fun j o hj ho => keep hj (ne_of_obj hj hg (fun e => ?_))), ⟨h.tb.lo, h.tb.len, keep h.tb.row (ne_of_obj h.tb.row hg (by simp))⟩, h.mp.kept (hto.block _ h.mp.lt (fun e => h.mp.ne hg e.symm)), h.mlo, fun i hi => ?_, h.ap, fun i hi => by rw [hlen]; exact h.len i hi⟩
  · rw [hlen, hlen, hlen]
    exact keep h.row (ne_of_obj h.row hg (by simp))
  · obtain ⟨C, rfl | rfl⟩ := ho <;> cases e
  · by_cases e : i = k
    · subst e
      rw [if_pos rfl]
      exact ⟨hr, (h.rt i hi).2⟩
    · rw [if_neg e]
      exact ⟨keep (h.rt i hi).1 (h.ap i k hi hk e), (h.rt i hi).2⟩
theorem Bd.root_f (h : Bd w base b x t s T L R) {k : Nat} (hk : k < 3) (hto : Touch (x.g k) w w') : Bf base x w w' :=
  ⟨hto.below (h.rt k hk).2 h.lo', fun j o hj ho => (hto.block _ (blk_lt hj) (fun e => by
    subst e
    rw [(h.rt k hk).1] at hj
    cases hj
    obtain rfl | rfl | rfl : k = 0 ∨ k = 1 ∨ k = 2 := by omega
    all_goals simp [ownB] at ho)).trans hj⟩
/-- A box that is not its own has changed. -/
theorem Bd.box (h : Bd w base b x t s T L R) {a : Nat} {C : Array Value} (ha : w.heap[a]? = some (.cells C 43)) (hg : ∀ k, k < 3 → x.g k ≠ a) (hto : Touch a w w') : Bd w' base b x t s T L R := by
  have keep : ∀ {k : Nat} {o : Obj}, w.heap[k]? = some o → k ≠ a → w'.heap[k]? = some o := fun hk hne => (hto.block _ (blk_lt hk) hne).trans hk
  refine ⟨keep h.row (ne_of_obj h.row ha (by simp)), h.lo, h.bk.same (fun k o hk ho => keep hk (ne_of_obj hk ha (fun e => ?_))), ⟨h.tb.lo, h.tb.len, keep h.tb.row (ne_of_obj h.tb.row ha (by simp))⟩, h.mp.kept (hto.block _ h.mp.lt (fun e => h.mp.ne ha e.symm)), h.mlo, fun k hk => ⟨keep (h.rt k hk).1 (hg k hk), (h.rt k hk).2⟩, h.ap, h.len⟩
  obtain ⟨C, rfl | rfl⟩ := ho <;> cases e
theorem Bf.box {a : Nat} {w0 : World} (h : Bf base x w0 w) (ha : w0.heap.size ≤ a) (hb : base ≤ w0.heap.size) (hto : Touch a w w') : Bf base x w0 w' :=
  ⟨h.below.trans (hto.below (by omega) (by have := h.size; omega)), fun k o hk ho => (hto.block _ (by have := blk_lt hk; have := h.size; omega) (by have := blk_lt hk; omega)).trans (h.kept k o hk ho)⟩
end
set_option maxRecDepth 100000 in
theorem orEmpty_ok (w : World) (b : Nat) : Calls Try.prog 48 #[pq b] w fun e w' => e = .returned (pq b) ∧ w' = w := by
  go_enter Try.func48, Try.ntmps48
  go_wp2_with fail
  go_ret
  exact ⟨rfl, rfl⟩
theorem ent_ok {w : World} {b : Nat} {O : Obj} (h : w.heap[b]? = some O) : Ent w (pq b) O := fun W hW => (orEmpty_ok W b).mono fun e w' ⟨he, hw⟩ => ⟨b, he, by rw [hw]; exact Below.refl _ _, by rw [hw]; exact blk_below h hW⟩
end Go.Proofs.Ytnknhencobhjdaa
