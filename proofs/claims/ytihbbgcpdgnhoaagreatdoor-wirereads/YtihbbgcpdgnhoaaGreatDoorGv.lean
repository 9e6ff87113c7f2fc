/- Rows of values that grow; no statement is proved in this text. -/
import Derived.Test.YtihbbgcpdgnhoaaGreatDoorFi
import Derived.Test.YtihbbgcpdgnhoaaGreatDoorGrow
namespace Go.Proofs.YtihbbgcpdgnhoaaGreatDoor
open Go.ChangeShapes Go.WideShapes Go.ChangeAt Go.RowKit Go.Deep

abbrev Kv : Type := Vl × Value
abbrev vc4 (x : Kv) : List Value := [i64 x.1.kind, i64 x.1.num, str x.1.s, x.2]
def vcs (Ks : List Kv) : List Value := Ks.flatMap vc4
theorem vcs_app (a b : List Kv) : vcs (a ++ b) = vcs a ++ vcs b := by simp [vcs]
theorem vcs_len : ∀ a : List Kv, (vcs a).length = a.length * 4
  | [] => rfl
  | x :: r => by
    have := vcs_len r
    simp only [vcs, List.flatMap_cons, List.length_append, List.length_cons, List.length_nil] at this ⊢
    omega
theorem vcs_get : ∀ (Ks : List Kv) (i j : Nat) (x : Kv), Ks[i]? = some x → j < 4 → (vcs Ks)[i * 4 + j]? = (vc4 x)[j]?
  | [], i, _, _, h, _ => by simp at h
  | y :: r, 0, j, x, h, hj => by
    simp at h
    subst h
    simp only [vcs, List.flatMap_cons, Nat.zero_mul, Nat.zero_add]
    rw [List.getElem?_append_left (by simpa using hj)]
  | y :: r, i + 1, j, x, h, hj => by
    have ih := vcs_get r i j x (by simpa using h) hj
    simp only [vcs, List.flatMap_cons] at ih ⊢
    rw [List.getElem?_append_right (by simp; omega)]
    rw [← ih]
    congr 1
    simp
    omega
/-- A row of values that grows: own, and what hangs below it stands elsewhere. -/
structure VKids (V : World) (lo : Nat) (e : TypeId) (Av : Nat → Prop) (kv : Value) (Ks : List Kv) : Prop where
  own : V.ownsRow lo e 4 kv Ks.length (vcs Ks)
  sub : ∀ x ∈ Ks, Vd V (fun b => Av b ∧ some b ≠ kv.ownBlock) x.1 x.2
theorem VKids.nil (V : World) (lo : Nat) (e : TypeId) (Av : Nat → Prop) : VKids V lo e Av (.slice none 0 0) [] := ⟨⟨rfl, Or.inl ⟨rfl, rfl⟩⟩, fun x hx => by cases hx⟩
theorem VKids.move {V V' : World} {lo : Nat} {e : TypeId} {Av Av' : Nat → Prop} {kv : Value} {Ks : List Kv} (h : VKids V lo e Av kv Ks) (hz : V.heap.size ≤ V'.heap.size) (ho : ∀ k, kv.ownBlock = some k → V'.heap[k]? = V.heap[k]?) (hk : ∀ b, Av b → b < V.heap.size → some b ≠ kv.ownBlock → Av' b ∧ V'.heap[b]? = V.heap[b]?) : VKids V' lo e Av' kv Ks :=
  ⟨own_keep1 h.own ho, fun x hx => (h.sub x hx).move hz fun b hb hlt => ⟨⟨(hk b hb.1 hlt hb.2).1, hb.2⟩, (hk b hb.1 hlt hb.2).2⟩⟩
/-- The value that the row's kids make. -/
theorem VKids.rd {V : World} {lo : Nat} {e : TypeId} {Av S : Nat → Prop} {kv : Value} {Ks : List Kv} {k n : Int} {s : Bs} (h : VKids V lo e Av kv Ks) (hs : s.length ≤ maxLen) (hS : ∀ b, Av b → b < V.heap.size → S b) (ho : ∀ b, kv.ownBlock = some b → S b) : Vd V S (.mk k n s (Ks.map (·.1))) kv := by
  rcases h.own.2 with ⟨hv, h0⟩ | ⟨g, cap, cur, hv, hb, hg, hc1, hc2, _, _⟩
  · subst hv
    have : Ks = [] := List.eq_nil_of_length_eq_zero h0
    subst this
    exact Vd.leaf _ _ _ _ _ hs _ _
  · have hl : (Ks.map (·.1)).length = Ks.length := by simp
    subst hv
    have hcell : ∀ (i : Nat) (x : Kv), Ks[i]? = some x → V.rangeAt g (0 + i * 4) (vc4 x) := by
      intro i x hx j v hv
      have hj : j < 4 := by have := (List.getElem?_eq_some_iff.1 hv).1; simpa using this
      have hi := (List.getElem?_eq_some_iff.1 hx).1
      rw [Nat.zero_add, h.own.cellAt (i * 4 + j) (by omega), vcs_get Ks i j x hx hj]
      exact hv
    have hT : ∀ (i : Nat) (T : Vl), (Ks.map (·.1))[i]? = some T → ∃ x : Kv, Ks[i]? = some x ∧ x.1 = T := by
      intro i T h1
      rw [List.getElem?_map] at h1
      obtain ⟨x, h2, h3⟩ := Option.map_eq_some_iff.1 h1
      exact ⟨x, h2, h3⟩
    rw [← hl]
    refine .mk (kids := Ks.map (·.1)) g 0 (fun i => (Ks.getD i (.mk 0 0 [] [], undef)).2) hs (by rw [hl]; omega) (by rw [hl]; exact hc1) (Or.inr ⟨rfl, ho g rfl, blk_lt hg⟩) ?_ ?_
    · intro i T h1
      obtain ⟨x, h2, rfl⟩ := hT i T h1
      have := hcell i x h2
      simpa [List.getD_eq_getElem?_getD, h2] using this
    · intro i T h1
      obtain ⟨x, h2, rfl⟩ := hT i T h1
      have := (h.sub x (List.mem_of_getElem? h2)).mono (S' := S) (fun b hb hlt => hS b hb.1 hlt)
      simpa [List.getD_eq_getElem?_getD, h2] using this
abbrev zAgg : Value := .agg #[i64 0, i64 0, .string ⟨#[]⟩, .slice none 0 0]
theorem vunder22 : Tryz.prog.underlying 26 = some (.slice 28) := Tryz.underlying26
theorem vunder31 : Tryz.prog.underlying 36 = some (.slice 38) := Tryz.underlying36
theorem vinfo24 : (Tryz.prog.info? 28).map (fun i => (i.zero, i.size, i.bytes)) = some (some zAgg, 4, 56) := by kernel_rfl
theorem vinfo33 : (Tryz.prog.info? 38).map (fun i => (i.zero, i.size, i.bytes)) = some (some zAgg, 4, 56) := by kernel_rfl
/-- A kid more. -/
theorem push_val {ts e : TypeId} (hu : Tryz.prog.underlying ts = some (.slice e)) (hi : (Tryz.prog.info? e).map (fun i => (i.zero, i.size, i.bytes)) = some (some zAgg, 4, 56)) {V : World} {lo : Nat} {Av : Nat → Prop} {kv : Value} {Ks : List Kv} (h : VKids V lo e Av kv Ks) (U : Vl) (a2 : Option Addr) (n2 c2 : Nat)
    (hR : Vd V (fun b => Av b ∧ some b ≠ kv.ownBlock) U (.slice a2 n2 c2)) (hl : Ks.length ≤ 3000) (hlo : lo ≤ V.heap.size) :
    ∃ ao cap w', (Builtin.append_ #[ts, ts] ts #[kv, .slice (some ⟨V.heap.size, 0, none⟩) 1 1]).run Tryz.prog (V.alloc (.cells #[i64 U.kind, i64 U.num, str U.s, .slice a2 n2 c2] e)) = .ok (.slice ao (Ks.length + 1) cap) w' ∧ VKids w' lo e Av (.slice ao (Ks.length + 1) cap) (Ks ++ [(U, .slice a2 n2 c2)]) ∧ Fr lo [e] V w' ∧ (∀ k, k < V.heap.size → some k ≠ kv.ownBlock → w'.heap[k]? = V.heap[k]?) ∧ ((Value.slice ao (Ks.length + 1) cap).ownBlock = kv.ownBlock ∨ (Value.slice ao (Ks.length + 1) cap).ownBlock = some (V.heap.size + 1)) := by
  obtain ⟨ao, cap, w', h1, h2, h3, h4, h5⟩ := app_far (te := e) hu hi rfl (by omega) (by omega) h.own [i64 U.kind, i64 U.num, str U.s, .slice a2 n2 c2] rfl (fun u hu => by
    simp only [List.mem_cons, List.not_mem_nil, or_false] at hu
    rcases hu with rfl | rfl | rfl | rfl <;> rfl) (by omega) hlo
  have hmv : ∀ x : Kv, Vd V (fun b => Av b ∧ some b ≠ kv.ownBlock) x.1 x.2 → Vd w' (fun b => Av b ∧ some b ≠ (Value.slice ao (Ks.length + 1) cap).ownBlock) x.1 x.2 := fun x hx => hx.move h3.size fun b hb hlt => ⟨⟨hb.1, by
    rcases h5 with h5 | h5
    · rw [h5]; exact hb.2
    · rw [h5]; intro e; cases e; omega⟩, h4 b hlt hb.2⟩
  refine ⟨ao, cap, w', h1, ⟨?_, ?_⟩, h3, h4, h5⟩
  · rw [List.length_append, vcs_app]
    exact h2
  · intro x hx
    rcases List.mem_append.1 hx with hx | hx
    · exact hmv x (h.sub x hx)
    · rw [List.mem_singleton.1 hx]; exact hmv (U, _) hR
abbrev zO (e : TypeId) : Obj := .cells #[i64 0, i64 0, .string ⟨#[]⟩, .slice none 0 0] e
def Avw (lo R O b : Nat) : Prop := lo ≤ b ∧ b ≠ R ∧ b ≠ O
/-- A value that is being made in the box O; the answer's box R. -/
structure VfI (w wr : World) (R O : Nat) (e : TypeId) (k n : Int) (s : Bs) (kv : Value) (Ks : List Kv) : Prop where
  r : wr.heap[R]? = some (zO e)
  o : wr.heap[O]? = some (.cells #[i64 k, i64 n, str s, kv] e)
  ok : VKids wr w.heap.size e (Avw w.heap.size R O) kv Ks
  s1 : kv.ownBlock ≠ some R
  s2 : kv.ownBlock ≠ some O
  b : Below w.heap.size w wr
theorem VfI.below {w wr wr' : World} {R O : Nat} {e : TypeId} {k n : Int} {s : Bs} {kv : Value} {Ks : List Kv} (h : VfI w wr R O e k n s kv Ks) (hb : Below wr.heap.size wr wr') : VfI w wr' R O e k n s kv Ks :=
  ⟨blk_below h.r hb, blk_below h.o hb, h.ok.move hb.size (fun k hk => hb.block k (h.ok.own.lt k hk).2) fun b hB hlt _ => ⟨hB, hb.block b hlt⟩, h.s1, h.s2, h.b.trans (hb.mono h.b.size)⟩
theorem VfI.slice {w wr : World} {R O : Nat} {e : TypeId} {k n : Int} {s : Bs} {kv : Value} {Ks : List Kv} (h : VfI w wr R O e k n s kv Ks) : ∃ a c, kv = .slice a Ks.length c := by
  obtain ⟨a, c, h2, _⟩ := own_slice h.ok.own
  exact ⟨a, c, h2⟩
theorem vf_push {ts e : TypeId} (hu : Tryz.prog.underlying ts = some (.slice e)) (hi : (Tryz.prog.info? e).map (fun i => (i.zero, i.size, i.bytes)) = some (some zAgg, 4, 56)) {w X : World} {R O : Nat} {k n : Int} {s : Bs} {kv : Value} {Ks : List Kv} (h : VfI w X R O e k n s kv Ks) (hO : w.heap.size ≤ O) (hRO : R ≠ O) (U : Vl) (a2 : Option Addr) (n2 c2 : Nat)
    (hR : Vd X (fun b => Avw w.heap.size R O b ∧ some b ≠ kv.ownBlock) U (.slice a2 n2 c2)) (hl : Ks.length ≤ 3000) (Kb : Nat) (oK : Obj) (hK : X.heap[Kb]? = some oK) (hKn : some Kb ≠ kv.ownBlock) :
    ∃ ao cap Y, (Builtin.append_ #[ts, ts] ts #[kv, .slice (some ⟨X.heap.size, 0, none⟩) 1 1]).run Tryz.prog (X.alloc (.cells #[i64 U.kind, i64 U.num, str U.s, .slice a2 n2 c2] e)) = .ok (.slice ao (Ks.length + 1) cap) Y ∧ Y.heap[O]? = some (.cells #[i64 k, i64 n, str s, kv] e) ∧ Y.heap[Kb]? = some oK ∧
      VfI w (Y.setCell ⟨O, 3, none⟩ (.slice ao (Ks.length + 1) cap)) R O e k n s (.slice ao (Ks.length + 1) cap) (Ks ++ [(U, .slice a2 n2 c2)]) := by
  obtain ⟨ao, cap, Y, p1, p2, p3, p4, p5⟩ := push_val hu hi h.ok U a2 n2 c2 hR hl h.b.size
  have n2' : (Value.slice ao (Ks.length + 1) cap).ownBlock ≠ some O := by
    rcases p5 with p5 | p5
    · rw [p5]; exact h.s2
    · rw [p5]; intro e; cases e; have := blk_lt h.o; omega
  have n1' : (Value.slice ao (Ks.length + 1) cap).ownBlock ≠ some R := by
    rcases p5 with p5 | p5
    · rw [p5]; exact h.s1
    · rw [p5]; intro e; cases e; have := blk_lt h.r; omega
  have qO : Y.heap[O]? = some (.cells #[i64 k, i64 n, str s, kv] e) := by rw [p4 O (blk_lt h.o) (fun e => h.s2 e.symm)]; exact h.o
  have qR : Y.heap[R]? = some (zO e) := by rw [p4 R (blk_lt h.r) (fun e => h.s1 e.symm)]; exact h.r
  have qK : Y.heap[Kb]? = some oK := by rw [p4 Kb (blk_lt hK) hKn]; exact hK
  have qz : Y.heap.size ≤ (Y.setCell ⟨O, 3, none⟩ (.slice ao (Ks.length + 1) cap)).heap.size := by simp [World.setCell]
  refine ⟨ao, cap, Y, p1, qO, qK, ?_, ?_, ?_, n1', n2', ?_⟩
  · rw [Below.heap_setCell _ _ _ _ (show R ≠ O from hRO)]; exact qR
  · have := heap_setCell_same Y O 3 _ e (.slice ao (Ks.length + 1) cap) qO
    simpa using this
  · exact p2.move qz (fun k hk => Below.heap_setCell _ _ _ _ (fun e => n2' (by rw [hk]; exact congrArg some e))) fun b hb _ _ => ⟨hb, Below.heap_setCell _ _ _ _ (show b ≠ O from hb.2.2)⟩
  · exact (h.b.trans p3.below).setCell (p := ⟨O, 3, none⟩) hO _
theorem VfI.rd {w wr : World} {R O : Nat} {e : TypeId} {k n : Int} {s : Bs} {kv : Value} {Ks : List Kv} (h : VfI w wr R O e k n s kv Ks) (hs : s.length ≤ maxLen) (a0 b1 b2 b3 : Value) :
    Vd ((((wr.setCell ⟨R, 0, none⟩ a0).setCell ⟨R, 1, none⟩ b1).setCell ⟨R, 2, none⟩ b2).setCell ⟨R, 3, none⟩ b3) (fun b => w.heap.size ≤ b) (.mk k n s (Ks.map (·.1))) kv := by
  have h2 : Vd wr (fun b => w.heap.size ≤ b ∧ b ≠ R) (.mk k n s (Ks.map (·.1))) kv := h.ok.rd hs (fun b hb _ => ⟨hb.1, hb.2.1⟩) (fun b hb => ⟨(h.ok.own.lt b hb).1, fun e => h.s1 (by rw [hb, e])⟩)
  refine h2.move (by simp [World.setCell]) (fun b hb _ => ⟨hb.1, ?_⟩)
  rw [Below.heap_setCell _ _ _ _ (show b ≠ R from hb.2), Below.heap_setCell _ _ _ _ (show b ≠ R from hb.2), Below.heap_setCell _ _ _ _ (show b ≠ R from hb.2), Below.heap_setCell _ _ _ _ (show b ≠ R from hb.2)]
theorem load33 {W : World} {b : Nat} {k n : Int} {s kv : Value} (h : W.heap[b]? = some (.cells #[i64 k, i64 n, s, kv] 38)) : (loadVar 38 ⟨b, 0, none⟩).run Tryz.prog W = .ok (.agg #[i64 k, i64 n, s, kv]) W := by
  refine run_loadVar_mid _ _ 0 38 [i64 k, i64 n, s, kv] _ (fun j v hv => ?_) Tryz.underlying38 rfl (by kernel_rfl)
  rw [Nat.zero_add, cell_of_row _ _ _ _ 38 (0, 0) h]
  simpa using hv
mutual
/-- The plainest value. -/
def Ty.dflt : Ty → Vl | .mk k _ _ l => .mk k 0 [] (if k = 4 then dfltL l else [])
def dfltL : List Ty → List Vl | [] => [] | t :: r => t.dflt :: dfltL r
end
theorem dfltL_len : ∀ l : List Ty, (dfltL l).length = l.length
  | [] => rfl
  | _ :: r => by simp [dfltL, dfltL_len r]
theorem dfltL_get : ∀ (l : List Ty) (i : Nat) (h : i < l.length) (h' : i < (dfltL l).length), (dfltL l)[i] = l[i].dflt
  | t :: r, 0, _, _ => rfl
  | t :: r, i + 1, h, h' => dfltL_get r i (by simpa using h) (by simpa [dfltL] using h')
theorem Ty.dflt_eq (T : Ty) : T.dflt = .mk T.kind 0 [] (if T.kind = 4 then dfltL T.kids else []) := by cases T; rfl
/-- What val, plainest and Default answer. -/
def MkOk (w : World) (D : Vl) (e : Ending) (w' : World) : Prop := ∃ a c, e = .returned (vlV D (.slice a D.kids.length c)) ∧ Below w.heap.size w w' ∧ Vd w' (fun b => w.heap.size ≤ b) D (.slice a D.kids.length c)
end Go.Proofs.YtihbbgcpdgnhoaaGreatDoor
