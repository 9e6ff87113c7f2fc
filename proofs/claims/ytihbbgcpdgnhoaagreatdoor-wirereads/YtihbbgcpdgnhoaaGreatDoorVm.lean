/- Values as trees, in memory; no statement is proved in this text. -/
import Derived.Test.YtihbbgcpdgnhoaaGreatDoorApp
import Derived.Test.YtihbbgcpdgnhoaaGreatDoorLi
import Derived.Test.YtihbbgcpdgnhoaaGreatDoorFmd
namespace Go.Proofs.YtihbbgcpdgnhoaaGreatDoor
open Go.ChangeShapes Go.WideShapes Go.ChangeAt Go.RowKit Go.Deep

/-- A value, as a tree. -/
inductive Vl where
  | mk (kind n : Int) (s : Bs) (kids : List Vl)
def Vl.kind : Vl → Int | .mk k _ _ _ => k
def Vl.num : Vl → Int | .mk _ n _ _ => n
def Vl.s : Vl → Bs | .mk _ _ s _ => s
def Vl.kids : Vl → List Vl | .mk _ _ _ l => l
mutual
def Vl.size : Vl → Nat | .mk _ _ _ l => 1 + sizeL l
def sizeL : List Vl → Nat | [] => 0 | t :: r => t.size + sizeL r
end
theorem size_pos (t : Vl) : 1 ≤ t.size := by cases t; simp only [Vl.size]; omega
theorem sizeL_mem : ∀ {l : List Vl} {t : Vl}, t ∈ l → t.size ≤ sizeL l
  | x :: r, t, h => by
    simp only [sizeL]
    rcases List.mem_cons.1 h with rfl | h
    · omega
    · have := sizeL_mem h; omega
theorem sizeL_app : ∀ (a b : List Vl), sizeL (a ++ b) = sizeL a + sizeL b
  | [], b => by simp [sizeL]
  | t :: r, b => by simp [sizeL, sizeL_app r b]; omega
theorem sizeL_take (l : List Vl) (k : Nat) (hk : k < l.length) : sizeL (l.take (k + 1)) = sizeL (l.take k) + l[k].size := by
  rw [List.take_succ_eq_append_getElem hk, sizeL_app]
  simp [sizeL]
theorem sizeL_len : ∀ l : List Vl, l.length ≤ sizeL l
  | [] => by simp
  | t :: r => by have := sizeL_len r; have := size_pos t; simp only [sizeL, List.length_cons]; omega
theorem Vl.size_eq (v : Vl) : v.size = 1 + sizeL v.kids := by cases v; rfl
/-- A right value by itself, of a right type. -/
def alB (k n : Int) (s : Bs) (m : Nat) (tk tn : Int) (tm : Nat) : Bool :=
  if k ≠ tk then false
  else if k = 1 then decide (s = []) && decide (0 ≤ n) && decide (n < 2 ^ tn.toNat) && decide (m = 0)
  else if k = 2 then decide (n = 0) && decide ((s.length : Int) ≤ tn) && decide (m = 0)
  else if k = 3 then decide (n = 0) && decide (s = []) && decide ((m : Int) ≤ tn)
  else decide (n = 0) && decide (s = []) && decide (m = tm)
def aloneB (v : Vl) (T : Ty) : Bool := alB v.kind v.num v.s v.kids.length T.kind T.num T.kids.length
/-- The type of a kid. -/
def kidT (T : Ty) (i : Nat) : Ty := if T.kind = 3 then T.kids.getD 0 (.mk 0 0 [] []) else T.kids.getD i (.mk 0 0 [] [])
mutual
/-- The way to what does not fit. -/
def firstF : Vl → Ty → List Nat | .mk k n s l, T => if aloneB (.mk k n s l) T = true then firstL l 0 T else [0]
def firstL : List Vl → Nat → Ty → List Nat
  | [], _, _ => []
  | v :: r, i, T => if (firstF v (kidT T i)).length = 0 then firstL r (i + 1) T else 0 :: i :: (firstF v (kidT T i)).tail
end
theorem firstF_eq (v : Vl) (T : Ty) : firstF v T = if aloneB v T = true then firstL v.kids 0 T else [0] := by cases v; rfl
theorem firstL_step (l : List Vl) (i : Nat) (T : Ty) (h : i < l.length) : firstL (l.drop i) i T = if (firstF l[i] (kidT T i)).length = 0 then firstL (l.drop (i + 1)) (i + 1) T else 0 :: i :: (firstF l[i] (kidT T i)).tail := by
  rw [List.drop_eq_getElem_cons h]
  rfl
/-- A value that reads as V: its Kids' slice, in blocks of S. -/
inductive Vd (w : World) (S : Nat → Prop) : Vl → Value → Prop where
  | mk {k n : Int} {s : Bs} {kids : List Vl} {ao : Option Addr} {cap : Nat} (b off : Nat) (kvs : Nat → Value) (hs : s.length ≤ maxLen) (hl : kids.length ≤ maxLen) (hcap : kids.length ≤ cap)
      (ha : kids = [] ∨ (ao = some ⟨b, off, none⟩ ∧ S b ∧ b < w.heap.size))
      (hc : ∀ i V, kids[i]? = some V → w.rangeAt b (off + i * 4) [i64 V.kind, i64 V.num, str V.s, kvs i])
      (hr : ∀ i V, kids[i]? = some V → Vd w S V (kvs i)) : Vd w S (.mk k n s kids) (.slice ao kids.length cap)
theorem Vd.move {w w' : World} {S S' : Nat → Prop} {V : Vl} {kv : Value} (h : Vd w S V kv) (hz : w.heap.size ≤ w'.heap.size) (hk : ∀ b, S b → b < w.heap.size → S' b ∧ w'.heap[b]? = w.heap[b]?) : Vd w' S' V kv := by
  induction h with
  | mk b off kvs hs hl hcap ha hc _ ih =>
    refine .mk b off kvs hs hl hcap ?_ ?_ ih
    · rcases ha with ha | ⟨h1, h2, h3⟩
      · exact Or.inl ha
      · exact Or.inr ⟨h1, (hk b h2 h3).1, by omega⟩
    · intro i T hT
      rcases ha with ha | ⟨h1, h2, h3⟩
      · subst ha; simp at hT
      · exact range_keep (hc i T hT) (hk b h2 h3).2
theorem Vd.under {w w' : World} {S : Nat → Prop} {V : Vl} {kv : Value} (h : Vd w S V kv) (hb : Below w.heap.size w w') : Vd w' S V kv := h.move hb.size fun b hS hlt => ⟨hS, hb.block b hlt⟩
theorem Vd.mono {w : World} {S S' : Nat → Prop} {V : Vl} {kv : Value} (h : Vd w S V kv) (hs : ∀ b, S b → b < w.heap.size → S' b) : Vd w S' V kv := h.move (Nat.le_refl _) fun b hS hlt => ⟨hs b hS hlt, rfl⟩
theorem Vd.touch {w w' : World} {q : Nat} {V : Vl} {kv : Value} (h : Vd w (fun b => b ≠ q) V kv) (ht : Touch q w w') : Vd w' (fun b => b ≠ q) V kv := h.move ht.size fun b hS hlt => ⟨hS, ht.block b hlt hS⟩
theorem Vd.form {w : World} {S : Nat → Prop} {V : Vl} {kv : Value} (h : Vd w S V kv) : ∃ ao cap, kv = .slice ao V.kids.length cap := by
  cases h with
  | mk => exact ⟨_, _, rfl⟩
theorem Vd.lens {w : World} {S : Nat → Prop} {V : Vl} {kv : Value} (h : Vd w S V kv) : V.s.length ≤ maxLen ∧ V.kids.length ≤ maxLen := by
  cases h with
  | mk _ _ _ hs hl _ _ _ _ => exact ⟨hs, hl⟩
/-- What is at a kid's place. -/
theorem Vd.kid {w : World} {S : Nat → Prop} {V : Vl} {ao : Option Addr} {n cap : Nat} (h : Vd w S V (.slice ao n cap)) (i : Nat) (hi : i < V.kids.length) : ∃ b off kv', ao = some ⟨b, off, none⟩ ∧ S b ∧ b < w.heap.size ∧ w.rangeAt b (off + i * 4) [i64 V.kids[i].kind, i64 V.kids[i].num, str V.kids[i].s, kv'] ∧ Vd w S V.kids[i] kv' := by
  cases h with
  | mk b off kvs hs hl hcap ha hc hr =>
    rename_i k n s kids
    have hT : kids[i]? = some kids[i] := List.getElem?_eq_getElem hi
    rcases ha with rfl | ⟨h1, h2, h3⟩
    · simp [Vl.kids] at hi
    · exact ⟨b, off, kvs i, h1, h2, h3, hc i _ hT, hr i _ hT⟩
theorem Vd.leaf (w : World) (S : Nat → Prop) (k n : Int) (s : Bs) (hs : s.length ≤ maxLen) (ao : Option Addr) (cap : Nat) : Vd w S (.mk k n s []) (.slice ao 0 cap) :=
  .mk (kids := []) 0 0 (fun _ => undef) hs (Nat.zero_le _) (Nat.zero_le _) (Or.inl rfl) (fun i T hT => by simp at hT) (fun i T hT => by simp at hT)
abbrev vlV (V : Vl) (kv : Value) : Value := .agg #[i64 V.kind, i64 V.num, str V.s, kv]
theorem load24 {W : World} {b : Nat} {k n : Int} {s kv : Value} (h : W.heap[b]? = some (.cells #[i64 k, i64 n, s, kv] 28)) : (loadVar 28 ⟨b, 0, none⟩).run Tryz.prog W = .ok (.agg #[i64 k, i64 n, s, kv]) W := by
  refine run_loadVar_mid _ _ 0 28 [i64 k, i64 n, s, kv] _ (fun j v hv => ?_) Tryz.underlying28 rfl (by kernel_rfl)
  rw [Nat.zero_add, cell_of_row _ _ _ _ 28 (0, 0) h]
  simpa using hv
theorem Rd.lens {w : World} {S : Nat → Prop} {T : Ty} {nv kv : Value} (h : Rd w S T nv kv) : T.names.length ≤ maxLen ∧ T.kids.length ≤ maxLen := by
  obtain ⟨k, n, names, kids⟩ := T
  obtain ⟨⟨_, _, _, h1, _⟩, h2, _⟩ := h.kid
  exact ⟨h1, h2⟩
theorem Rd.kidAt {w : World} {S : Nat → Prop} {T : Ty} {nv : Value} {ao : Option Addr} {n cap : Nat} (h : Rd w S T nv (.slice ao n cap)) (i : Nat) (hi : i < T.kids.length) : ∃ b off nv' kv', ao = some ⟨b, off, none⟩ ∧ S b ∧ b < w.heap.size ∧ w.rangeAt b (off + i * 4) [i64 T.kids[i].kind, i64 T.kids[i].num, nv', kv'] ∧ Rd w S T.kids[i] nv' kv' := by
  obtain ⟨k, m, names, kids⟩ := T
  obtain ⟨_, _, ao', cap', he, hk⟩ := h.kid
  cases he
  exact hk i hi
theorem getD_lt {α : Type} (l : List α) (i : Nat) (d : α) (h : i < l.length) : l.getD i d = l[i] := by
  rw [List.getD_eq_getElem?_getD, List.getElem?_eq_getElem h]; rfl
/-- Two values of one kind that fit alone have kids' types. -/
theorem formed_node {T : Ty} (h : T.formed = true) : nodeB T.kind T.num T.names T.kids.length = true ∧ formedL T.kids = true := by
  obtain ⟨k, n, names, kids⟩ := T
  simp only [Ty.formed, Bool.and_eq_true] at h
  exact h
theorem kid_room {v : Vl} {T : Ty} (hf : T.formed = true) (ha : aloneB v T = true) (i : Nat) (hi : i < v.kids.length) : (T.kind = 3 → 0 < T.kids.length) ∧ (T.kind ≠ 3 → i < T.kids.length) := by
  have hn := (formed_node hf).1
  unfold aloneB alB at ha
  unfold nodeB at hn
  split at ha
  · cases ha
  · rename_i hk
    have hk : v.kind = T.kind := Classical.byContradiction hk
    rw [hk] at ha
    refine ⟨fun h3 => ?_, fun h3 => ?_⟩
    · rw [if_neg (by omega), if_neg (by omega), if_pos h3] at hn
      simp only [Bool.and_eq_true, decide_eq_true_eq] at hn
      omega
    · split at ha
      · simp only [Bool.and_eq_true, decide_eq_true_eq] at ha; omega
      · split at ha
        · simp only [Bool.and_eq_true, decide_eq_true_eq] at ha; omega
        · simp only [Bool.and_eq_true, decide_eq_true_eq] at ha; omega
theorem kidT_formed {T : Ty} (hf : T.formed = true) (i : Nat) (h3 : T.kind = 3 → 0 < T.kids.length) (h4 : T.kind ≠ 3 → i < T.kids.length) : (kidT T i).formed = true := by
  unfold kidT
  have hl := (formed_node hf).2
  split
  · rename_i h
    rw [getD_lt _ _ _ (h3 h)]
    exact formedL_mem hl (List.getElem_mem _)
  · rename_i h
    rw [getD_lt _ _ _ (h4 h)]
    exact formedL_mem hl (List.getElem_mem _)
end Go.Proofs.YtihbbgcpdgnhoaaGreatDoor
