/- Rows of kids and of names that grow; no statement is proved in this text. -/
import Derived.Test.YtihbbgcpdgnhoaaGreatDoorLi
namespace Go.Proofs.YtihbbgcpdgnhoaaGreatDoor
open Go.ChangeShapes Go.WideShapes Go.ChangeAt Go.RowKit Go.Deep

abbrev Kd : Type := Ty × Value × Value
abbrev kc4 (x : Kd) : List Value := [i64 x.1.kind, i64 x.1.num, x.2.1, x.2.2]
def kcs (Ks : List Kd) : List Value := Ks.flatMap kc4
theorem kcs_app (a b : List Kd) : kcs (a ++ b) = kcs a ++ kcs b := by simp [kcs]
theorem kcs_len : ∀ a : List Kd, (kcs a).length = a.length * 4
  | [] => rfl
  | x :: r => by
    have := kcs_len r
    simp only [kcs, List.flatMap_cons, List.length_append, List.length_cons, List.length_nil] at this ⊢
    omega
theorem kcs_get : ∀ (Ks : List Kd) (i j : Nat) (x : Kd), Ks[i]? = some x → j < 4 → (kcs Ks)[i * 4 + j]? = (kc4 x)[j]?
  | [], i, _, _, h, _ => by simp at h
  | y :: r, 0, j, x, h, hj => by
    simp at h
    subst h
    simp only [kcs, List.flatMap_cons, Nat.zero_mul, Nat.zero_add]
    rw [List.getElem?_append_left (by simpa using hj)]
  | y :: r, i + 1, j, x, h, hj => by
    have ih := kcs_get r i j x (by simpa using h) hj
    simp only [kcs, List.flatMap_cons] at ih ⊢
    rw [List.getElem?_append_right (by simp; omega)]
    rw [← ih]
    congr 1
    simp
    omega
/-- A row of kids that grows: own, and what hangs below it stands elsewhere. -/
structure KidsR (V : World) (lo : Nat) (e : TypeId) (Av : Nat → Prop) (kv : Value) (Ks : List Kd) : Prop where
  own : V.ownsRow lo e 4 kv Ks.length (kcs Ks)
  sub : ∀ x ∈ Ks, Rd V (fun b => Av b ∧ some b ≠ kv.ownBlock) x.1 x.2.1 x.2.2
theorem KidsR.nil (V : World) (lo : Nat) (e : TypeId) (Av : Nat → Prop) : KidsR V lo e Av (.slice none 0 0) [] := ⟨⟨rfl, Or.inl ⟨rfl, rfl⟩⟩, fun x hx => by cases hx⟩
theorem KidsR.move {V V' : World} {lo : Nat} {e : TypeId} {Av Av' : Nat → Prop} {kv : Value} {Ks : List Kd} (h : KidsR V lo e Av kv Ks) (hz : V.heap.size ≤ V'.heap.size) (ho : ∀ k, kv.ownBlock = some k → V'.heap[k]? = V.heap[k]?) (hk : ∀ b, Av b → b < V.heap.size → some b ≠ kv.ownBlock → Av' b ∧ V'.heap[b]? = V.heap[b]?) : KidsR V' lo e Av' kv Ks :=
  ⟨own_keep1 h.own ho, fun x hx => (h.sub x hx).move hz fun b hb hlt => ⟨⟨(hk b hb.1 hlt hb.2).1, hb.2⟩, (hk b hb.1 hlt hb.2).2⟩⟩
/-- The type that the row's kids make. -/
theorem KidsR.rd {V : World} {lo : Nat} {e : TypeId} {Av S : Nat → Prop} {kv nv : Value} {Ks : List Kd} {k n : Int} {names : List Bs} (h : KidsR V lo e Av kv Ks) (hn : Strs V S nv names) (hS : ∀ b, Av b → b < V.heap.size → S b) (ho : ∀ b, kv.ownBlock = some b → S b) : Rd V S (.mk k n names (Ks.map (·.1))) nv kv := by
  rcases h.own.2 with ⟨hv, h0⟩ | ⟨g, cap, cur, hv, hb, hg, hc1, hc2, _, _⟩
  · subst hv
    have : Ks = [] := List.eq_nil_of_length_eq_zero h0
    subst this
    exact .mk (kids := []) 0 0 (fun _ => undef) (fun _ => undef) hn (Nat.zero_le _) (Or.inl rfl) (fun i T hT => by simp at hT) (fun i T hT => by simp at hT)
  · have hl : (Ks.map (·.1)).length = Ks.length := by simp
    subst hv
    have hcell : ∀ (i : Nat) (x : Kd), Ks[i]? = some x → V.rangeAt g (0 + i * 4) (kc4 x) := by
      intro i x hx j v hv
      have hj : j < 4 := by have := (List.getElem?_eq_some_iff.1 hv).1; simpa using this
      have hi := (List.getElem?_eq_some_iff.1 hx).1
      rw [Nat.zero_add, h.own.cellAt (i * 4 + j) (by omega), kcs_get Ks i j x hx hj]
      exact hv
    have hT : ∀ (i : Nat) (T : Ty), (Ks.map (·.1))[i]? = some T → ∃ x : Kd, Ks[i]? = some x ∧ x.1 = T := by
      intro i T h1
      rw [List.getElem?_map] at h1
      obtain ⟨x, h2, h3⟩ := Option.map_eq_some_iff.1 h1
      exact ⟨x, h2, h3⟩
    rw [← hl]
    refine .mk (kids := Ks.map (·.1)) g 0 (fun i => (Ks.getD i (.mk 0 0 [] [], undef, undef)).2.1) (fun i => (Ks.getD i (.mk 0 0 [] [], undef, undef)).2.2) hn (by rw [hl]; omega) (Or.inr ⟨rfl, ho g rfl, blk_lt hg⟩) ?_ ?_
    · intro i T h1
      obtain ⟨x, h2, rfl⟩ := hT i T h1
      have := hcell i x h2
      simpa [List.getD_eq_getElem?_getD, h2] using this
    · intro i T h1
      obtain ⟨x, h2, rfl⟩ := hT i T h1
      have := (h.sub x (List.mem_of_getElem? h2)).mono (S' := S) (fun b hb hlt => hS b hb.1 hlt)
      simpa [List.getD_eq_getElem?_getD, h2] using this
/-- A row of names that grows. -/
theorem own_strs {V : World} {lo : Nat} {S : Nat → Prop} {nv : Value} {l : List Bs} (h : V.ownsRow lo 9 1 nv l.length (l.map str)) (hs : ∀ x ∈ l, x.length ≤ maxLen) (ho : ∀ b, nv.ownBlock = some b → S b) : Strs V S nv l := by
  rcases h.2 with ⟨hv, h0⟩ | ⟨g, cap, cur, hv, hb, hg, hc1, hc2, _, _⟩
  · subst hv
    have : l = [] := List.eq_nil_of_length_eq_zero h0
    subst this
    exact ⟨none, 0, rfl, Nat.zero_le _, ⟨Nat.le_refl _, hs⟩, Or.inl rfl⟩
  · subst hv
    refine ⟨_, cap, rfl, by omega, ⟨hc1, hs⟩, Or.inr ⟨g, 0, rfl, ho g rfl, blk_lt hg, fun i x hx => ?_⟩⟩
    have hi := (List.getElem?_eq_some_iff.1 hx).1
    rw [Nat.zero_add, h.cellAt i (by omega)]
    simp [hx]
theorem own_tag {V : World} {lo : Nat} {e : TypeId} {s : Nat} {v : Value} {n : Nat} {xs : List Value} (h : V.ownsRow lo e s v n xs) {k : Nat} (hk : v.ownBlock = some k) : ∃ cur, V.heap[k]? = some (.cells cur e) := by
  rcases h.2 with ⟨rfl, _⟩ | ⟨g, cap, cur, rfl, _, hg, _⟩
  · simp [Value.ownBlock] at hk
  · simp [Value.ownBlock] at hk
    subst hk
    exact ⟨cur, hg⟩
theorem own_apart {V : World} {lo lo' : Nat} {e e' : TypeId} {s s' : Nat} {v v' : Value} {n n' : Nat} {xs xs' : List Value} (h : V.ownsRow lo e s v n xs) (h' : V.ownsRow lo' e' s' v' n' xs') (hne : e ≠ e') {k : Nat} (hk : v.ownBlock = some k) : some k ≠ v'.ownBlock := fun hE => by
  obtain ⟨c, h1⟩ := own_tag h hk
  obtain ⟨c', h2⟩ := own_tag h' hE.symm
  rw [h1] at h2
  cases h2
  exact hne rfl
theorem under22 : Tryz.prog.underlying 22 = some (.slice 9) := Tryz.underlying22
theorem under23 : Tryz.prog.underlying 23 = some (.slice 25) := Tryz.underlying23
theorem under35 : Tryz.prog.underlying 33 = some (.slice 35) := Tryz.underlying33
theorem info9 : (Tryz.prog.info? 9).map (fun i => (i.zero, i.size, i.bytes)) = some (some (.string ⟨#[]⟩), 1, 16) := by kernel_rfl
theorem info25 : (Tryz.prog.info? 25).map (fun i => (i.zero, i.size, i.bytes)) = some (some (.agg #[i64 0, i64 0, .slice none 0 0, .slice none 0 0]), 4, 64) := by kernel_rfl
theorem info37 : (Tryz.prog.info? 35).map (fun i => (i.zero, i.size, i.bytes)) = some (some (.agg #[i64 0, i64 0, .slice none 0 0, .slice none 0 0]), 4, 64) := by kernel_rfl
/-- A name more. -/
theorem push_name {V : World} {lo : Nat} {nv : Value} {l : List Bs} (h : V.ownsRow lo 9 1 nv l.length (l.map str)) (x : Bs) (hl : l.length ≤ 1000) (hlo : lo ≤ V.heap.size) :
    ∃ ao cap w', (Builtin.append_ #[22, 22] 22 #[nv, .slice (some ⟨V.heap.size, 0, none⟩) 1 1]).run Tryz.prog (V.alloc (.cells #[str x] 9)) = .ok (.slice ao (l.length + 1) cap) w' ∧ w'.ownsRow lo 9 1 (.slice ao (l.length + 1) cap) (l ++ [x]).length ((l ++ [x]).map str) ∧ Fr lo [9] V w' ∧ (∀ k, k < V.heap.size → some k ≠ nv.ownBlock → w'.heap[k]? = V.heap[k]?) ∧ ((Value.slice ao (l.length + 1) cap).ownBlock = nv.ownBlock ∨ (Value.slice ao (l.length + 1) cap).ownBlock = some (V.heap.size + 1)) := by
  obtain ⟨ao, cap, w', h1, h2, h3⟩ := app_far (te := 9) under22 info9 rfl (by omega) (by omega) h [str x] rfl (fun u hu => by rw [List.mem_singleton.1 hu]; rfl) (by omega) hlo
  exact ⟨ao, cap, w', h1, by simpa using h2, h3⟩
/-- A kid more. -/
theorem push_kid {ts e : TypeId} (hu : Tryz.prog.underlying ts = some (.slice e)) (hi : (Tryz.prog.info? e).map (fun i => (i.zero, i.size, i.bytes)) = some (some (.agg #[i64 0, i64 0, .slice none 0 0, .slice none 0 0]), 4, 64)) {V : World} {lo : Nat} {Av : Nat → Prop} {kv : Value} {Ks : List Kd} (h : KidsR V lo e Av kv Ks) (T : Ty) (a1 : Option Addr) (n1 c1 : Nat) (a2 : Option Addr) (n2 c2 : Nat)
    (hR : Rd V (fun b => Av b ∧ some b ≠ kv.ownBlock) T (.slice a1 n1 c1) (.slice a2 n2 c2)) (hl : Ks.length ≤ 1000) (hlo : lo ≤ V.heap.size) :
    ∃ ao cap w', (Builtin.append_ #[ts, ts] ts #[kv, .slice (some ⟨V.heap.size, 0, none⟩) 1 1]).run Tryz.prog (V.alloc (.cells #[i64 T.kind, i64 T.num, .slice a1 n1 c1, .slice a2 n2 c2] e)) = .ok (.slice ao (Ks.length + 1) cap) w' ∧ KidsR w' lo e Av (.slice ao (Ks.length + 1) cap) (Ks ++ [(T, .slice a1 n1 c1, .slice a2 n2 c2)]) ∧ Fr lo [e] V w' ∧ (∀ k, k < V.heap.size → some k ≠ kv.ownBlock → w'.heap[k]? = V.heap[k]?) ∧ ((Value.slice ao (Ks.length + 1) cap).ownBlock = kv.ownBlock ∨ (Value.slice ao (Ks.length + 1) cap).ownBlock = some (V.heap.size + 1)) := by
  obtain ⟨ao, cap, w', h1, h2, h3, h4, h5⟩ := app_far (te := e) hu hi rfl (by omega) (by omega) h.own [i64 T.kind, i64 T.num, .slice a1 n1 c1, .slice a2 n2 c2] rfl (fun u hu => by
    simp only [List.mem_cons, List.not_mem_nil, or_false] at hu
    rcases hu with rfl | rfl | rfl | rfl <;> rfl) (by omega) hlo
  have hmv : ∀ x : Kd, Rd V (fun b => Av b ∧ some b ≠ kv.ownBlock) x.1 x.2.1 x.2.2 → Rd w' (fun b => Av b ∧ some b ≠ (Value.slice ao (Ks.length + 1) cap).ownBlock) x.1 x.2.1 x.2.2 := fun x hx => hx.move h3.size fun b hb hlt => ⟨⟨hb.1, by
    rcases h5 with h5 | h5
    · rw [h5]; exact hb.2
    · rw [h5]; intro e; cases e; omega⟩, h4 b hlt hb.2⟩
  refine ⟨ao, cap, w', h1, ⟨?_, ?_⟩, h3, h4, h5⟩
  · rw [List.length_append, kcs_app]
    exact h2
  · intro x hx
    rcases List.mem_append.1 hx with hx | hx
    · exact hmv x (h.sub x hx)
    · rw [List.mem_singleton.1 hx]; exact hmv (T, _, _) hR
end Go.Proofs.YtihbbgcpdgnhoaaGreatDoor
