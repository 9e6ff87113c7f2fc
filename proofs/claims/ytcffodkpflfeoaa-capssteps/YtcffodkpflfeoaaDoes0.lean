/- What a step leaves of a pair; no statement is proved in this text. -/
import Derived.Test.YtcffodkpflfeoaaGiven
namespace Go.Proofs.Ytcffodkpflfeoaa
open Go.ChangeShapes Go.WideShapes Go.ChangeAt Go.RowKit Go.Deep

abbrev FD : List TypeId := [72, 30, 66, 34, 42, 3]
theorem fd_r {base : Nat} {w w' : World} (h : Fr base [30, 66] w w') : Fr base FD w w' := h.mono (fun o ho => by
  cases o with
  | cells C t fr => simp [keeps] at ho ⊢; exact ⟨ho.2.1, ho.2.2.1⟩
  | _ => rfl)
theorem fd_g {base : Nat} {w w' : World} (h : Fr base [34, 42, 3] w w') : Fr base FD w w' := h.mono (fun o ho => by
  cases o with
  | cells C t fr => simp [keeps] at ho ⊢; exact ⟨ho.2.2.2.1, ho.2.2.2.2.1, ho.2.2.2.2.2⟩
  | _ => rfl)
theorem fd_t {base b : Nat} {w w' : World} {T : List Pl} (hT : Tb w base b T) (h : Touch b w w') : Fr base FD w w' := Fr.of_touch h hT.row (by rfl) hT.lo
theorem fr_t {base b : Nat} {w w' : World} {T : List Pl} (hT : Tb w base b T) (h : Touch b w w') : Fr base [72] w w' := Fr.of_touch h hT.row (by rfl) hT.lo
/-- What was dead stays dead. -/
def Mono (L L' : List Rw) : Prop := ∀ (i : Nat) q, L[i]? = some q → ∃ q', L'[i]? = some q' ∧ q'.sl = q.sl ∧ q'.gn = q.gn ∧ q'.c = q.c ∧ (q.lv = false → q'.lv = false)
theorem Mono.refl (L : List Rw) : Mono L L := fun _ q h => ⟨q, h, rfl, rfl, rfl, fun h => h⟩
theorem mono_snoc (L : List Rw) (x : Rw) : Mono L (L ++ [x]) := fun i q h => ⟨q, by rw [List.getElem?_append_left (List.getElem?_eq_some_iff.1 h).1]; exact h, rfl, rfl, rfl, fun h => h⟩
theorem mono_offs (K : Nat → Bool) (L : List Rw) : Mono L (offs K L) := fun i q h => by
  rw [offs_get, h]
  cases hk : K i with
  | true => exact ⟨offR q, by simp, rfl, rfl, rfl, fun _ => rfl⟩
  | false => exact ⟨q, by simp, rfl, rfl, rfl, fun h => h⟩
theorem gu_nil : Gu [] := fun i q h => by simp at h
theorem gu_snoc {L : List Rw} (h : Gu L) {c : Cp} {s : Int} {fr : Int} : Gu (L ++ [⟨c, s, (cnS L s : Int) + 1, fr, true⟩]) := fun i q hq => by
  rcases snoc_get hq with ⟨h1, h2⟩ | ⟨rfl, rfl⟩
  · rw [List.take_append_of_le_length (by omega)]
    exact h i q h1
  · simp
theorem cnS_offs (K : Nat → Bool) (L : List Rw) (s : Int) : cnS (offs K L) s = cnS L s := by
  unfold cnS offs
  have e : ∀ (M : List Rw) (o : Nat), ((M.mapIdx fun i p => if K (i + o) = true then offR p else p).filter fun r => decide (r.sl = s)).length = (M.filter fun r => decide (r.sl = s)).length := by
    intro M
    induction M with
    | nil => intro o; rfl
    | cons p M ih =>
      intro o
      rw [List.mapIdx_cons]
      have e2 : (fun (i : Nat) (p : Rw) => if K (i + 1 + o) = true then offR p else p) = fun i p => if K (i + (o + 1)) = true then offR p else p := by
        funext i p
        rw [show i + 1 + o = i + (o + 1) by omega]
      have e3 : (if K (0 + o) = true then offR p else p).sl = p.sl := by split <;> rfl
      rw [e2]
      have := ih (o + 1)
      by_cases hs : p.sl = s
      · rw [List.filter_cons_of_pos (by rw [e3]; simpa using hs), List.filter_cons_of_pos (by simpa using hs), List.length_cons, List.length_cons, this]
      · rw [List.filter_cons_of_neg (by rw [e3]; simpa using hs), List.filter_cons_of_neg (by simpa using hs), this]
  exact e L 0
theorem offs_take (K : Nat → Bool) (L : List Rw) (i : Nat) : (offs K L).take i = offs K (L.take i) := by
  apply List.ext_getElem?
  intro j
  rw [List.getElem?_take, offs_get, offs_get, List.getElem?_take]
  split <;> rfl
theorem gu_offs {L : List Rw} (h : Gu L) (K : Nat → Bool) : Gu (offs K L) := fun i q hq => by
  rw [offs_take, cnS_offs]
  rw [offs_get] at hq
  cases hp : L[i]? with
  | none => rw [hp] at hq; cases hq
  | some p =>
    rw [hp] at hq
    simp only [Option.map_some, Option.some.injEq] at hq
    have := h i p hp
    rw [← hq]
    by_cases hk : K i = true
    · rw [if_pos hk]; exact this
    · rw [if_neg hk]; exact this
theorem map_offs {α : Type} (f : Rw → α) (hf : ∀ p, f (offR p) = f p) (K : Nat → Bool) (L : List Rw) : (offs K L).map f = L.map f := by
  apply List.ext_getElem?
  intro i
  rw [List.getElem?_map, List.getElem?_map, offs_get]
  cases L[i]? with
  | none => rfl
  | some p => by_cases hk : K i = true <;> simp [hk, hf]
/-- A step's answer. -/
abbrev DoesTo (w : World) (base P b r : Nat) (L : List Rw) (x : Sp) : Prop := Calls Try.prog 10 #[pq P, x.v] w fun e w' => e = .returned (.bool true) ∧ (∃ T' L', Pw w' base P b r T' L' ∧ Mono L L' ∧ L'.length ≤ L.length + 1) ∧ Fr base FD w w'
/-- A pair whose tables have turned. -/
theorem Pw.turn {w w' : World} {base P b r : Nat} {T T' : List Pl} {L : List Rw} {K : Nat → Bool} (h : Pw w base P b r T L) (hP : ∀ (k : Nat) (C : Array Value) (t : TypeId), t = 34 ∨ t = 42 ∨ t = 3 → w.heap[k]? = some (.cells C t) → w'.heap[k]? = some (.cells C t)) (ht : Tb w' base b T') (hr : Rb w' base r (offs K L)) (hrel : Rel T' (offs K L)) : Pw w' base P b r T' (offs K L) := by
  obtain ⟨vH, vE, h1, h2, h3⟩ := h.blk
  refine ⟨h.lo, ht, hr, hrel, gu_offs h.gu K, vH, vE, hP _ _ 34 (by simp) h1, ?_, ?_⟩
  · rw [offs_len, map_offs hdR (fun p => rfl)]
    exact own_keep h2 (fun k C hC => hP k C 42 (by simp) hC)
  · rw [offs_len, map_offs (fun q => q.c.env) (fun p => rfl)]
    exact own_keep h3 (fun k C hC => hP k C 3 (by simp) hC)
structure SqW (X Y P b r : Nat) (x : Sp) (hs hg : Int) (W : World) : Prop where
  x : W.heap[X]? = some (spO x)
  y : W.heap[Y]? = some (hO hs hg)
  p : ∃ vH vE, W.heap[P]? = some (.cells #[pq b, pq r, vH, vE] 34)
theorem SqW.p0 {X Y P b r : Nat} {x : Sp} {hs hg : Int} {W : World} (h : SqW X Y P b r x hs hg W) : W.cell? ⟨P, 0, none⟩ = some (pq b) := by
  obtain ⟨_, _, h1⟩ := h.p
  exact blk_cell h1 0
theorem SqW.p1 {X Y P b r : Nat} {x : Sp} {hs hg : Int} {W : World} (h : SqW X Y P b r x hs hg W) : W.cell? ⟨P, 1, none⟩ = some (pq r) := by
  obtain ⟨_, _, h1⟩ := h.p
  exact blk_cell h1 1
theorem SqW.fr {X Y P b r : Nat} {x : Sp} {hs hg : Int} {W W' : World} (h : SqW X Y P b r x hs hg W) {base : Nat} {ts : List TypeId} (hf : Fr base ts W W') (h1 : ts.contains 38 = false) (h2 : ts.contains 42 = false) (h3 : ts.contains 34 = false) : SqW X Y P b r x hs hg W' := by
  obtain ⟨vH, vE, hp⟩ := h.p
  exact ⟨hf.kept _ _ h.x (by simp only [keeps, h1]; rfl), hf.kept _ _ h.y (by simp only [keeps, h2]; rfl), vH, vE, hf.kept _ _ hp (by simp only [keeps, h3]; rfl)⟩
theorem SqW.below {X Y P b r : Nat} {x : Sp} {hs hg : Int} {W W' : World} (h : SqW X Y P b r x hs hg W) (hb : Below W.heap.size W W') : SqW X Y P b r x hs hg W' := by
  obtain ⟨vH, vE, hp⟩ := h.p
  exact ⟨blk_below h.x hb, blk_below h.y hb, vH, vE, blk_below hp hb⟩
theorem SqW.drew {X Y P b r : Nat} {x : Sp} {hs hg : Int} {W : World} (h : SqW X Y P b r x hs hg W) : SqW X Y P b r x hs hg W.drew := ⟨h.x, h.y, h.p⟩
theorem SqW.of {X Y P b r base : Nat} {x : Sp} {hs hg : Int} {W : World} {T : List Pl} {L : List Rw} (hx : W.heap[X]? = some (spO x)) (hy : W.heap[Y]? = some (hO hs hg)) (h : Pw W base P b r T L) : SqW X Y P b r x hs hg W := by
  obtain ⟨vH, vE, hp, _⟩ := h.blk
  exact ⟨hx, hy, vH, vE, hp⟩
theorem Pw.drew {w : World} {base P b r : Nat} {T : List Pl} {L : List Rw} (h : Pw w base P b r T L) : Pw w.drew base P b r T L := h.below ⟨rfl, rfl, rfl, Nat.le_refl _, fun _ _ => rfl⟩
theorem info38 : (Try.prog.info? 38).map (·.size) = some 11 := by kernel_rfl
theorem spO_range {W : World} {X : Nat} {x : Sp} (h : W.heap[X]? = some (spO x)) : W.rangeAt X 0 x.c' := fun j v hv => by
  rw [Nat.zero_add, show W.cell? ⟨X, j, none⟩ = _ from blk_cell h j]
  simpa using hv
end Go.Proofs.Ytcffodkpflfeoaa
