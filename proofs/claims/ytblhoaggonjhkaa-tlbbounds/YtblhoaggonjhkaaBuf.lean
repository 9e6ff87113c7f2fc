/- tlb.Buffer as it lies in memory, what may turn by its calls; New, Get, Counts, Keys: their contracts; no statement is proved in this text. -/
import Derived.Test.YtblhoaggonjhkaaMap
namespace Go.Proofs.Ytblhoaggonjhkaa
open Go.ChangeShapes Go.WideShapes Go.ChangeAt Go.RowKit Go.Deep

def keeps (ts : List TypeId) (mp : Bool) : Obj → Bool
  | .cells _ t _ => !ts.contains t
  | .map _ _ => !mp
  | _ => true
/-- What may have turned: blocks of given types from base on, and what is new. -/
structure Fr (base : Nat) (ts : List TypeId) (mp : Bool) (w w' : World) : Prop where
  below : Below base w w'
  kept : ∀ (k : Nat) (o : Obj), w.heap[k]? = some o → keeps ts mp o = true → w'.heap[k]? = some o
theorem Fr.refl (base : Nat) (ts : List TypeId) (mp : Bool) (w : World) : Fr base ts mp w w := ⟨Below.refl _ _, fun _ _ h _ => h⟩
theorem Fr.trans {base : Nat} {ts : List TypeId} {mp : Bool} {a b c : World} (h : Fr base ts mp a b) (k : Fr base ts mp b c) : Fr base ts mp a c :=
  ⟨h.below.trans k.below, fun i o hi ho => k.kept i o (h.kept i o hi ho) ho⟩
theorem Fr.size {base : Nat} {ts : List TypeId} {mp : Bool} {a b : World} (h : Fr base ts mp a b) : a.heap.size ≤ b.heap.size := h.below.size
theorem Fr.of_below {base : Nat} (ts : List TypeId) (mp : Bool) {w w' : World} (h : Below w.heap.size w w') (hb : base ≤ w.heap.size) : Fr base ts mp w w' :=
  ⟨h.mono hb, fun k _o hk _ => (h.block k (Array.getElem?_eq_some_iff.1 hk).1).trans hk⟩
theorem Fr.of_touch {base q : Nat} {ts : List TypeId} {mp : Bool} {w w' : World} {o : Obj} (h : Touch q w w') (hq : w.heap[q]? = some o) (ho : keeps ts mp o = false) (hb : base ≤ q) : Fr base ts mp w w' := by
  have hl := (Array.getElem?_eq_some_iff.1 hq).1
  refine ⟨h.below hb (by omega), fun k o' hk ho' => ?_⟩
  have hne : k ≠ q := fun e => by subst e; rw [hq] at hk; cases hk; rw [ho] at ho'; cases ho'
  exact (h.block k (Array.getElem?_eq_some_iff.1 hk).1 hne).trans hk
theorem Fr.mono {base : Nat} {ts ts' : List TypeId} {mp mp' : Bool} {w w' : World} (h : Fr base ts mp w w') (hs : ∀ o, keeps ts' mp' o = true → keeps ts mp o = true) : Fr base ts' mp' w w' := ⟨h.below, fun k o hk ho => h.kept k o hk (hs o ho)⟩
theorem Fr.lower {base base' : Nat} {ts : List TypeId} {mp : Bool} {w w' : World} (h : Fr base ts mp w w') (hb : base' ≤ base) : Fr base' ts mp w w' := ⟨h.below.mono hb, h.kept⟩
theorem Fr.drewN {base : Nat} {ts : List TypeId} {mp : Bool} {w w' : World} (h : Fr base ts mp w w') (n : Nat) : Fr base ts mp w (w'.drewN n) := ⟨below_drewN h.below n, h.kept⟩
theorem Fr.of_drewN {base n : Nat} {ts : List TypeId} {mp : Bool} {w w' : World} (h : Fr base ts mp (w.drewN n) w') : Fr base ts mp w w' := ⟨below_of_drewN h.below, h.kept⟩
theorem Fr.alloc {base : Nat} {ts : List TypeId} {mp : Bool} {w w' : World} (h : Fr base ts mp w w') (hb : base ≤ w'.heap.size) (o : Obj) : Fr base ts mp w (w'.alloc o) :=
  h.trans (Fr.of_below ts mp ((Below.refl _ _).alloc (Nat.le_refl _) o) hb)

def kcells : List K3 → List Value
  | [] => []
  | k :: r => i64 k.env :: i64 k.proc :: i64 k.page :: kcells r
theorem kcells_len : ∀ ks : List K3, (kcells ks).length = ks.length * 3
  | [] => rfl
  | k :: r => by simp [kcells, kcells_len r]; omega
theorem kcells_app : ∀ a b : List K3, kcells (a ++ b) = kcells a ++ kcells b
  | [], b => rfl
  | k :: r, b => by simp [kcells, kcells_app r b]
theorem kcells_one : ∀ ks : List K3, ∀ v ∈ kcells ks, v.oneCell' = true
  | [], v, h => by cases h
  | k :: r, v, h => by
    simp only [kcells, List.mem_cons] at h
    rcases h with rfl | rfl | rfl | h
    · rfl
    · rfl
    · rfl
    · exact kcells_one r v h
theorem kcells_get : ∀ (ks : List K3) (i : Nat) (k : K3), ks[i]? = some k → (kcells ks)[i * 3]? = some (i64 k.env) ∧ (kcells ks)[i * 3 + 1]? = some (i64 k.proc) ∧ (kcells ks)[i * 3 + 2]? = some (i64 k.page)
  | [], i, k, h => by simp at h
  | a :: t, 0, k, h => by
    simp at h
    subst h
    exact ⟨rfl, rfl, rfl⟩
  | a :: t, i + 1, k, h => by
    have := kcells_get t i k (by simpa using h)
    rw [show (i + 1) * 3 = i * 3 + 1 + 1 + 1 by omega]
    simpa [kcells] using this

/-- A slice of keys that reads as ks. -/
def KSl (w : World) (ao : Option Addr) (ks : List K3) : Prop :=
  ks = [] ∨ ∃ b, ao = some ⟨b, 0, none⟩ ∧ b < w.heap.size ∧ (∃ C, w.heap[b]? = some (.cells C 31 (0, 0))) ∧ ∀ i k, ks[i]? = some k → w.cell? ⟨b, i * 3, none⟩ = some (i64 k.env) ∧ w.cell? ⟨b, i * 3 + 1, none⟩ = some (i64 k.proc) ∧ w.cell? ⟨b, i * 3 + 2, none⟩ = some (i64 k.page)
theorem own_keys {w : World} {base : Nat} {ao : Option Addr} {n cap : Nat} {ks : List K3} (h : w.ownsRow base 31 3 (.slice ao n cap) n (kcells ks)) : KSl w ao ks ∧ ks.length = n := by
  have hl : ks.length = n := by have := h.1; rw [kcells_len] at this; omega
  refine ⟨?_, hl⟩
  rcases h.2 with ⟨_, rfl⟩ | ⟨g, cap', cur, hv, hb, hg, _, _, _, htake⟩
  · exact Or.inl (List.eq_nil_of_length_eq_zero hl)
  · cases hv
    refine Or.inr ⟨g, rfl, (Array.getElem?_eq_some_iff.1 hg).1, ⟨cur, hg⟩, fun i k hk => ?_⟩
    have hi : i < n := by have := (List.getElem?_eq_some_iff.1 hk).1; omega
    rw [h.cellAt (i * 3) (by omega), h.cellAt (i * 3 + 1) (by omega), h.cellAt (i * 3 + 2) (by omega)]
    exact kcells_get ks i k hk
theorem KSl.at {w : World} {ao : Option Addr} {ks : List K3} (h : KSl w ao ks) {i : Nat} (hi : i < ks.length) : ∃ b, ao = some ⟨b, 0, none⟩ ∧ b < w.heap.size ∧ w.cell? ⟨b, i * 3, none⟩ = some (i64 ks[i].env) ∧ w.cell? ⟨b, i * 3 + 1, none⟩ = some (i64 ks[i].proc) ∧ w.cell? ⟨b, i * 3 + 2, none⟩ = some (i64 ks[i].page) := by
  rcases h with rfl | ⟨b, rfl, hlt, _, hc⟩
  · simp at hi
  · exact ⟨b, rfl, hlt, hc i _ (List.getElem?_eq_getElem hi)⟩
theorem KSl.kept {w w' : World} {ao : Option Addr} {ks : List K3} (h : KSl w ao ks) (hk : ∀ (b : Nat) (C : Array Value), w.heap[b]? = some (.cells C 31 (0, 0)) → w'.heap[b]? = some (.cells C 31 (0, 0))) : KSl w' ao ks := by
  rcases h with rfl | ⟨b, rfl, hlt, ⟨C, hC⟩, hc⟩
  · exact Or.inl rfl
  · have hC' := hk b C hC
    have hcell : ∀ j, w'.cell? ⟨b, j, none⟩ = w.cell? ⟨b, j, none⟩ := fun j => World.cell?_of_block (w := w) (hC'.trans hC.symm)
    exact Or.inr ⟨b, rfl, (Array.getElem?_eq_some_iff.1 hC').1, ⟨C, hC'⟩, fun i k hi => by rw [hcell, hcell, hcell]; exact hc i k hi⟩

def MapV (w : World) (base : Nat) (mv : Value) (L : Ls) : Prop := (mv = .map none ∧ L = []) ∨ ∃ b, mv = .map (some b) ∧ base ≤ b ∧ MapIs w b L
theorem MapV.lkup {w : World} {base : Nat} {mv : Value} {L : Ls} (h : MapV w base mv L) (hn : ND L) (k : K3) (c : Bool) : (Instr.lookup 54 mv (keyV k) c).run Try.prog w = .ok (lookR L k c) w := by
  rcases h with ⟨rfl, rfl⟩ | ⟨b, rfl, _, hm⟩
  · exact look_nilmap w k c
  · exact hm.lkup hn k c
theorem MapV.kept {w w' : World} {base : Nat} {mv : Value} {L : Ls} (h : MapV w base mv L) (hk : ∀ (b : Nat) (es : Array MapEntry) (clock : Nat), w.heap[b]? = some (.map es clock) → w'.heap[b]? = some (.map es clock)) : MapV w' base mv L := by
  rcases h with h | ⟨b, rfl, hb, hm⟩
  · exact Or.inl h
  · obtain ⟨es, clock, h1, h2⟩ := hm
    exact Or.inr ⟨b, rfl, hb, es, clock, hk b es clock h1, h2⟩

theorem own_kept {w w' : World} {base : Nat} {e : TypeId} {size : Nat} {v : Value} {n : Nat} {xs : List Value} (h : w.ownsRow base e size v n xs) (hk : ∀ (b : Nat) (C : Array Value), w.heap[b]? = some (.cells C e (0, 0)) → w'.heap[b]? = some (.cells C e (0, 0))) : w'.ownsRow base e size v n xs := by
  refine ⟨h.1, ?_⟩
  rcases h.2 with h2 | ⟨g, cap, cur, h1, h2, h3, h4⟩
  · exact Or.inl h2
  · exact Or.inr ⟨g, cap, cur, h1, h2, hk g cur h3, h4⟩

/-- A buffer at p: its map holds L, its keys are ks. -/
structure Buf (w : World) (base p : Nat) (L : Ls) (ks : List K3) (h m : Nat) : Prop where
  ex : ∃ mv kv, w.heap[p]? = some (.cells #[mv, kv, i64 h, i64 m] 56 (0, 0)) ∧ MapV w base mv L ∧ w.ownsRow base 31 3 kv ks.length (kcells ks)
  nd : ND L
  bp : base ≤ p
theorem Buf.plt {w : World} {base p : Nat} {L : Ls} {ks : List K3} {h m : Nat} (b : Buf w base p L ks h m) : p < w.heap.size := by
  obtain ⟨mv, kv, h1, _⟩ := b.ex
  exact (Array.getElem?_eq_some_iff.1 h1).1
theorem Buf.kept {w w' : World} {base p : Nat} {L : Ls} {ks : List K3} {h m : Nat} (b : Buf w base p L ks h m) (hk : ∀ (k : Nat) (o : Obj), w.heap[k]? = some o → keeps [29, 42] false o = true → w'.heap[k]? = some o) : Buf w' base p L ks h m := by
  obtain ⟨mv, kv, h1, h2, h3⟩ := b.ex
  exact ⟨⟨mv, kv, hk p _ h1 (by simp [keeps]), h2.kept (fun b es c hb => hk b _ hb (by simp [keeps])), own_kept h3 (fun b C hb => hk b _ hb (by simp [keeps]))⟩, b.nd, b.bp⟩
theorem Buf.below {w w' : World} {base p : Nat} {L : Ls} {ks : List K3} {h m : Nat} (b : Buf w base p L ks h m) (hb : Below w.heap.size w w') : Buf w' base p L ks h m :=
  b.kept (fun k _o hk _ => (hb.block k (Array.getElem?_eq_some_iff.1 hk).1).trans hk)

theorem four_cells {w : World} {B : Nat} {a b c d : Value} {t : TypeId} (h : w.heap[B]? = some (.cells #[a, b, c, d] t (0, 0))) : (w.cell? ⟨B, 0, none⟩ = some a ∧ w.cell? ⟨B, 1, none⟩ = some b ∧ w.cell? ⟨B, 2, none⟩ = some c ∧ w.cell? ⟨B, 3, none⟩ = some d) ∧ ∀ j, w.frozen? ⟨B, j, none⟩ = false := by
  rw [cell_of_row w B 0 _ t (0, 0) h, cell_of_row w B 1 _ t (0, 0) h, cell_of_row w B 2 _ t (0, 0) h, cell_of_row w B 3 _ t (0, 0) h]
  refine ⟨⟨rfl, rfl, rfl, rfl⟩, fun j => ?_⟩
  unfold World.frozen?
  rw [show w.heap[(⟨B, j, none⟩ : Addr).block]? = _ from h]
  simp

theorem new_ok (w : World) : Calls Try.prog 7 #[] w fun e w' => e = .returned (.pointer (some ⟨w.heap.size, 0, none⟩)) ∧ Below w.heap.size w w' ∧ Buf w' w.heap.size w.heap.size [] [] 0 0 := by
  have hb : Buf (w.alloc (.cells #[.map none, .slice none 0 0, i64 0, i64 0] 56)) w.heap.size w.heap.size [] [] 0 0 :=
    ⟨⟨_, _, heap_last w _, Or.inl ⟨rfl, rfl⟩, World.ownsRow_nil _ _ _ _⟩, by simp [ND], Nat.le_refl _⟩
  have HB : Hid (Buf (w.alloc (.cells #[.map none, .slice none 0 0, i64 0, i64 0] 56)) w.heap.size w.heap.size [] [] 0 0) := hb
  clear hb
  go_enter Try.func7, Try.ntmps7
  go_wp2
  go_ret
  exact ⟨rfl, (Below.refl _ _).alloc (Nat.le_refl _) _, HB.out⟩

theorem counts_ok {w : World} {base p : Nat} {L : Ls} {ks : List K3} {h m : Nat} (b : Buf w base p L ks h m) :
    Calls Try.prog 11 #[.pointer (some ⟨p, 0, none⟩)] w fun e w' => e = .returned (.tuple #[i64 h, i64 m]) ∧ ∃ n, w' = w.drewN n := by
  obtain ⟨mv, kv, h1, _, _⟩ := b.ex
  obtain ⟨⟨_, _, c2, c3⟩, _⟩ := four_cells h1
  clear h1 b
  go_enter Try.func11, Try.ntmps11
  go_wp2
  go_quiet (fail)
  go_wp2
  go_ret2
  exact ⟨rfl, nq, rfl⟩
end Go.Proofs.Ytblhoaggonjhkaa
