/- What Copy keeps: rows that are done, rows that wait; no statement is proved in this text. -/
import Derived.Test.YtgiemijhndanjaaDoorEz
namespace Go.Proofs.YtgiemijhndanjaaDoor
open Go.ChangeShapes Go.WideShapes Go.ChangeAt Go.RowKit Go.Deep

/-- A row: its block, its room, the values that it shall read as. -/
abbrev Er : Type := Nat × Nat × List Vl
abbrev slE (x : Er) : Value := .slice (some ⟨x.1, 0, none⟩) x.2.2.length x.2.1
/-- Kids that are none, or a row of E. -/
def KvOk (E : List Er) (V : Vl) (kv : Value) : Prop := (V.kids = [] ∧ ∃ a c, kv = .slice a 0 c) ∨ ∃ x ∈ E, x.2.2 = V.kids ∧ kv = slE x
theorem KvOk.mono {E E' : List Er} {V : Vl} {kv : Value} (h : KvOk E V kv) (hE : ∀ x ∈ E, x ∈ E') : KvOk E' V kv := by
  rcases h with h | ⟨x, hx, h⟩
  · exact Or.inl h
  · exact Or.inr ⟨x, hE x hx, h⟩
abbrev c4 (V : Vl) (kv : Value) : List Value := [i64 V.kind, i64 V.num, str V.s, kv]
def RowK (W : World) (g : Nat) (l : List Vl) (K : Vl → Value → Prop) : Prop := ∀ i V, l[i]? = some V → ∃ kv, W.rangeAt g (i * 4) (c4 V kv) ∧ K V kv
theorem RowK.keep {W W' : World} {g : Nat} {l : List Vl} {K K' : Vl → Value → Prop} (h : RowK W g l K) (hg : W'.heap[g]? = W.heap[g]?) (hK : ∀ V kv, K V kv → K' V kv) : RowK W' g l K' := fun i V hV => by
  obtain ⟨kv, h1, h2⟩ := h i V hV
  exact ⟨kv, range_keep h1 hg, hK V kv h2⟩
def kvF (V : Vl) (y : Er) : Value := if V.kids.length = 0 then .slice none 0 0 else slE y
def newE (l : List Vl) (f : Nat → Er) : Nat → List Er
  | 0 => []
  | i + 1 => newE l f i ++ (match l[i]? with | some V => if V.kids.length = 0 then [] else [f i] | none => [])
theorem newE_same (l : List Vl) (f f' : Nat → Er) : ∀ i, (∀ j, j < i → f j = f' j) → newE l f i = newE l f' i
  | 0, _ => rfl
  | i + 1, h => by
    have ih := newE_same l f f' i (fun j hj => h j (by omega))
    simp only [newE, ih, h i (by omega)]
theorem newE_mem (l : List Vl) (f : Nat → Er) : ∀ i j V, j < i → l[j]? = some V → V.kids.length ≠ 0 → f j ∈ newE l f i
  | 0, j, V, hj, _, _ => by omega
  | i + 1, j, V, hj, hV, hk => by
    simp only [newE]
    by_cases h : j = i
    · subst h
      rw [hV]
      simp [hk]
    · exact List.mem_append.2 (Or.inl (newE_mem l f i j V (by omega) hV hk))
/-- Rows D are done, rows P wait; what was there at w below lo is as it was. -/
structure CpI (w wr : World) (lo : Nat) (D P : List Er) : Prop where
  b : Below lo w wr
  z : w.heap.size ≤ wr.heap.size
  done : ∀ x ∈ D, RowK wr x.1 x.2.2 (KvOk (D ++ P))
  pend : ∀ x ∈ P, RowK wr x.1 x.2.2 (fun V kv => Vd w (fun b => b < lo) V kv)
  blk : ∀ x ∈ D ++ P, lo ≤ x.1 ∧ x.2.2.length ≤ x.2.1 ∧ x.2.1 ≤ maxLen ∧ ∃ C, wr.heap[x.1]? = some (.cells C 24)
  nd : ((D ++ P).map (·.1)).Nodup
  ss : ∀ x ∈ D ++ P, ∀ V ∈ x.2.2, V.s.length ≤ maxLen
/-- In the middle of a row: i of its values have new kids. -/
structure CqI (w wr : World) (lo : Nat) (D P : List Er) (x : Er) (f : Nat → Er) (i : Nat) : Prop where
  b : Below lo w wr
  z : w.heap.size ≤ wr.heap.size
  done : ∀ y ∈ D, RowK wr y.1 y.2.2 (KvOk (D ++ (P ++ [x])))
  pend : ∀ y ∈ P ++ newE x.2.2 f i, RowK wr y.1 y.2.2 (fun V kv => Vd w (fun b => b < lo) V kv)
  rl : ∀ j V, x.2.2[j]? = some V → j < i → wr.rangeAt x.1 (j * 4) (c4 V (kvF V (f j))) ∧ (V.kids.length ≠ 0 → (f j).2.2 = V.kids)
  rr : ∀ j V, x.2.2[j]? = some V → i ≤ j → ∃ kv, wr.rangeAt x.1 (j * 4) (c4 V kv) ∧ Vd w (fun b => b < lo) V kv
  blk : ∀ y ∈ D ++ (P ++ [x]) ++ newE x.2.2 f i, lo ≤ y.1 ∧ y.2.2.length ≤ y.2.1 ∧ y.2.1 ≤ maxLen ∧ ∃ C, wr.heap[y.1]? = some (.cells C 24)
  nd : ((D ++ (P ++ [x]) ++ newE x.2.2 f i).map (·.1)).Nodup
  ss : ∀ y ∈ D ++ (P ++ [x]) ++ newE x.2.2 f i, ∀ V ∈ y.2.2, V.s.length ≤ maxLen
theorem CqI.start {w wr : World} {lo : Nat} {D P : List Er} {x : Er} (h : CpI w wr lo D (P ++ [x])) (f : Nat → Er) : CqI w wr lo D P x f 0 := by
  refine ⟨h.b, h.z, h.done, fun y hy => ?_, fun j V _ hj => by omega, fun j V hV _ => h.pend x (by simp) j V hV, fun y hy => h.blk y (by simpa [newE] using hy), by simpa [newE] using h.nd, fun y hy => h.ss y (by simpa [newE] using hy)⟩
  have hy' : y ∈ P := by simpa [newE] using hy
  exact h.pend y (List.mem_append.2 (Or.inl hy'))
theorem CqI.fin {w wr : World} {lo : Nat} {D P : List Er} {x : Er} {f : Nat → Er} (h : CqI w wr lo D P x f x.2.2.length) : CpI w wr lo (D ++ [x]) (P ++ newE x.2.2 f x.2.2.length) := by
  have hsub : ∀ y, y ∈ D ++ (P ++ [x]) ++ newE x.2.2 f x.2.2.length ↔ y ∈ D ++ [x] ++ (P ++ newE x.2.2 f x.2.2.length) := by
    intro y
    simp only [List.mem_append, List.mem_singleton]
    grind
  refine ⟨h.b, h.z, fun y hy => ?_, h.pend, fun y hy => h.blk y ((hsub y).2 hy), ?_, fun y hy => h.ss y ((hsub y).2 hy)⟩
  · rcases List.mem_append.1 hy with hy | hy
    · exact (h.done y hy).keep rfl (fun V kv hk => hk.mono (fun z hz => by
        have := (hsub z).1 (List.mem_append.2 (Or.inl hz))
        exact this))
    · rw [List.mem_singleton.1 hy]
      intro j V hV
      have hj := (List.getElem?_eq_some_iff.1 hV).1
      obtain ⟨h1, h2⟩ := h.rl j V hV hj
      refine ⟨_, h1, ?_⟩
      unfold kvF
      by_cases hk : V.kids.length = 0
      · rw [if_pos hk]
        exact Or.inl ⟨List.eq_nil_of_length_eq_zero hk, none, 0, rfl⟩
      · rw [if_neg hk]
        exact Or.inr ⟨f j, List.mem_append.2 (Or.inr (List.mem_append.2 (Or.inr (newE_mem _ f _ j V hj hV hk)))), h2 hk, rfl⟩
  · have hp : (D ++ (P ++ [x]) ++ newE x.2.2 f x.2.2.length).Perm (D ++ [x] ++ (P ++ newE x.2.2 f x.2.2.length)) := by
      have h1 : (P ++ [x]).Perm ([x] ++ P) := List.perm_append_comm
      have h2 : (D ++ (P ++ [x])).Perm (D ++ ([x] ++ P)) := List.Perm.append_left D h1
      have h3 := List.Perm.append_right (newE x.2.2 f x.2.2.length) h2
      simpa [List.append_assoc] using h3
    exact ((hp.map (·.1)).nodup_iff).1 h.nd
/-- At the end all is new, and reads as it should. -/
theorem CpI.rd_in {w wr : World} {lo : Nat} {D : List Er} (h : CpI w wr lo D []) (g c : Nat) (l : List Vl) (hx : (g, c, l) ∈ D) (ih : ∀ y ∈ D, sizeL y.2.2 < sizeL l → Vd wr (fun b => lo ≤ b) (.mk 0 0 [] y.2.2) (slE y)) : Vd wr (fun b => lo ≤ b) (.mk 0 0 [] l) (slE (g, c, l)) := by
  obtain ⟨h1, h2, h3, C, h4⟩ := h.blk (g, c, l) (by simpa using hx)
  have hrow := h.done (g, c, l) hx
  have hall : ∀ i, ∃ kv, ∀ V, l[i]? = some V → wr.rangeAt g (i * 4) (c4 V kv) ∧ KvOk (D ++ []) V kv := by
    intro i
    cases hV : l[i]? with
    | none => exact ⟨undef, fun V h => by cases h⟩
    | some V =>
      obtain ⟨kv, g1, g2⟩ := hrow i V hV
      exact ⟨kv, fun V' h => by cases h; exact ⟨g1, g2⟩⟩
  obtain ⟨kvs, hkvs⟩ := Classical.axiomOfChoice hall
  refine .mk (kids := l) g 0 kvs (Nat.zero_le _) (Nat.le_trans h2 h3) h2 (Or.inr ⟨rfl, h1, blk_lt h4⟩) ?_ ?_
  · intro i V hV
    have := (hkvs i V hV).1
    rw [Nat.zero_add]
    exact this
  · intro i V hV
    have hmem : V ∈ l := List.mem_of_getElem? hV
    have hs := sizeL_mem hmem
    have hsz := V.size_eq
    have hstr : V.s.length ≤ maxLen := h.ss (g, c, l) (by simpa using hx) V hmem
    rcases (hkvs i V hV).2 with ⟨hk, a, cc, hkv⟩ | ⟨y, hy, hyk, hkv⟩
    · rw [hkv]
      obtain ⟨k, n, s, kk⟩ := V
      simp only [Vl.kids] at hk
      subst hk
      exact Vd.leaf _ _ _ _ _ hstr _ _
    · have hy' : y ∈ D := by simpa using hy
      have := ih y hy' (by rw [hyk]; omega)
      rw [hkv]
      refine Vd.ofRow ?_ hstr
      rw [← hyk]
      exact this
theorem CpI.rd {w wr : World} {lo : Nat} {D : List Er} (h : CpI w wr lo D []) : ∀ (M : Nat) (x : Er), x ∈ D → sizeL x.2.2 ≤ M → Vd wr (fun b => lo ≤ b) (.mk 0 0 [] x.2.2) (slE x)
  | 0, (g, c, l), hx, hM => h.rd_in g c l hx (fun y _ hy => by simp only at hM; omega)
  | M + 1, (g, c, l), hx, hM => h.rd_in g c l hx (fun y hy' hy => CpI.rd h M y hy' (by simp only at hM; omega))
end Go.Proofs.YtgiemijhndanjaaDoor
