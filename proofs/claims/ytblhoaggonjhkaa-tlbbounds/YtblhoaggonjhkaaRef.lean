/- imagoref04.Buffer as it lies in memory; Is, At, Get, wanted: their contracts; no statement is proved in this text. -/
import Derived.Test.YtblhoaggonjhkaaArgs
namespace Go.Proofs.Ytblhoaggonjhkaa
open Go.ChangeShapes Go.WideShapes Go.ChangeAt Go.RowKit Go.Deep

abbrev oneA (q : K3 × En) : Array Value := #[i64 q.1.env, i64 q.1.proc, i64 q.1.page, i64 q.2.frame, .bool q.2.wr]
abbrev oneV (q : K3 × En) : Value := .agg (oneA q)
def ocells : Ls → List Value
  | [] => []
  | q :: r => i64 q.1.env :: i64 q.1.proc :: i64 q.1.page :: i64 q.2.frame :: .bool q.2.wr :: ocells r
theorem ocells_len : ∀ L : Ls, (ocells L).length = L.length * 5
  | [] => rfl
  | q :: r => by simp [ocells, ocells_len r]; omega
theorem ocells_app : ∀ a b : Ls, ocells (a ++ b) = ocells a ++ ocells b
  | [], b => rfl
  | q :: r, b => by simp [ocells, ocells_app r b]
theorem ocells_one : ∀ L : Ls, ∀ v ∈ ocells L, v.oneCell' = true
  | [], v, h => by cases h
  | q :: r, v, h => by
    simp only [ocells, List.mem_cons] at h
    rcases h with rfl | rfl | rfl | rfl | rfl | h
    · rfl
    · rfl
    · rfl
    · rfl
    · rfl
    · exact ocells_one r v h
theorem ocells_get : ∀ (L : Ls) (i : Nat) (q : K3 × En), L[i]? = some q → ∀ j v, (oneA q)[j]? = some v → (ocells L)[i * 5 + j]? = some v
  | [], i, q, h => by simp at h
  | a :: t, 0, q, h => by
    simp at h
    subst h
    intro j v hv
    rcases j with _|_|_|_|_|j
    all_goals first | (simp at hv; done) | (simp at hv; subst hv; rfl)
  | a :: t, i + 1, q, h => by
    intro j v hv
    have := ocells_get t i q (by simpa using h) j v hv
    rw [show (i + 1) * 5 + j = (i * 5 + j) + 1 + 1 + 1 + 1 + 1 by omega]
    simpa [ocells] using this
/-- One entry's cells at a place. -/
def OneAt (w : World) (B o : Nat) (q : K3 × En) : Prop := w.cell? ⟨B, o, none⟩ = some (i64 q.1.env) ∧ w.cell? ⟨B, o + 1, none⟩ = some (i64 q.1.proc) ∧ w.cell? ⟨B, o + 2, none⟩ = some (i64 q.1.page) ∧ w.cell? ⟨B, o + 3, none⟩ = some (i64 q.2.frame) ∧ w.cell? ⟨B, o + 4, none⟩ = some (.bool q.2.wr)
theorem own_one {w : World} {base g n cap : Nat} {L : Ls} (h : w.ownsRow base 42 5 (.slice (some ⟨g, 0, none⟩) n cap) n (ocells L)) {i : Nat} (hi : i < L.length) : OneAt w g (i * 5) L[i] := by
  have hl : L.length = n := by have := h.1; rw [ocells_len] at this; omega
  have hg := ocells_get L i L[i] (List.getElem?_eq_getElem hi)
  unfold OneAt
  rw [h.cellAt (i * 5) (by omega), h.cellAt (i * 5 + 1) (by omega), h.cellAt (i * 5 + 2) (by omega), h.cellAt (i * 5 + 3) (by omega), h.cellAt (i * 5 + 4) (by omega)]
  exact ⟨hg 0 _ rfl, hg 1 _ rfl, hg 2 _ rfl, hg 3 _ rfl, hg 4 _ rfl⟩
theorem one_new {w : World} {B : Nat} {q : K3 × En} (h : w.heap[B]? = some (.cells (oneA q) 42 (0, 0))) : OneAt w B 0 q := by
  unfold OneAt
  rw [cell_of_row w B 0 _ 42 (0, 0) h, cell_of_row w B (0 + 1) _ 42 (0, 0) h, cell_of_row w B (0 + 2) _ 42 (0, 0) h, cell_of_row w B (0 + 3) _ 42 (0, 0) h, cell_of_row w B (0 + 4) _ 42 (0, 0) h]
  exact ⟨rfl, rfl, rfl, rfl, rfl⟩

/-- The document's buffer at p. -/
structure RBuf (w : World) (base p : Nat) (L : Ls) (h m : Nat) : Prop where
  ex : ∃ lv, w.heap[p]? = some (.cells #[lv, i64 h, i64 m] 29 (0, 0)) ∧ w.ownsRow base 42 5 lv L.length (ocells L)
  bp : base ≤ p
theorem RBuf.plt {w : World} {base p : Nat} {L : Ls} {h m : Nat} (b : RBuf w base p L h m) : p < w.heap.size := by
  obtain ⟨lv, h1, _⟩ := b.ex
  exact (Array.getElem?_eq_some_iff.1 h1).1
theorem RBuf.kept {w w' : World} {base p : Nat} {L : Ls} {h m : Nat} (b : RBuf w base p L h m) (hk : ∀ (k : Nat) (o : Obj), w.heap[k]? = some o → keeps [31, 56] true o = true → w'.heap[k]? = some o) : RBuf w' base p L h m := by
  obtain ⟨lv, h1, h2⟩ := b.ex
  exact ⟨⟨lv, hk p _ h1 (by simp [keeps]), own_kept h2 (fun b C hb => hk b _ hb (by simp [keeps]))⟩, b.bp⟩
theorem RBuf.below {w w' : World} {base p : Nat} {L : Ls} {h m : Nat} (b : RBuf w base p L h m) (hb : Below w.heap.size w w') : RBuf w' base p L h m :=
  b.kept (fun k _ hk _ => (hb.block k (Array.getElem?_eq_some_iff.1 hk).1).trans hk)
theorem three_cells {w : World} {B : Nat} {a b c : Value} {t : TypeId} (h : w.heap[B]? = some (.cells #[a, b, c] t (0, 0))) : (w.cell? ⟨B, 0, none⟩ = some a ∧ w.cell? ⟨B, 1, none⟩ = some b ∧ w.cell? ⟨B, 2, none⟩ = some c) ∧ ∀ j, w.frozen? ⟨B, j, none⟩ = false := by
  rw [cell_of_row w B 0 _ t (0, 0) h, cell_of_row w B 1 _ t (0, 0) h, cell_of_row w B 2 _ t (0, 0) h]
  refine ⟨⟨rfl, rfl, rfl⟩, fun j => ?_⟩
  unfold World.frozen?
  rw [show w.heap[(⟨B, j, none⟩ : Addr).block]? = _ from h]
  simp

theorem k3_eq (a b : K3) : decide (a = b) = (a.env == b.env && (a.proc == b.proc && a.page == b.page)) := by
  cases a; cases b
  rw [Bool.eq_iff_iff]
  simp
set_option maxHeartbeats 800000 in
theorem is_ok (w : World) (a b : K3 × En) : Calls Try.prog 30 #[oneV a, oneV b] w fun e w' => e = .returned (.bool (decide (a.1 = b.1))) ∧ Below w.heap.size w w' := by
  have HB : Hid (Below w.heap.size w ((w.alloc (.cells (oneA a) 42)).alloc (.cells (oneA b) 42))) := ((Below.refl _ _).alloc (Nat.le_refl _) _).alloc (by simp) _
  rw [k3_eq]
  by_cases h1 : a.1.env = b.1.env
  · have x1 : (a.1.env == b.1.env) = true := by simpa using h1
    clear h1
    by_cases h2 : a.1.proc = b.1.proc
    · have x2 : (a.1.proc == b.1.proc) = true := by simpa using h2
      clear h2
      go_enter Try.func30, Try.ntmps30
      go_wp2_with fail
      go_ret
      exact ⟨by simp [x1, x2], HB.out⟩
    · have x2 : (a.1.proc == b.1.proc) = false := by simpa using h2
      clear h2
      go_enter Try.func30, Try.ntmps30
      go_wp2_with fail
      go_ret
      exact ⟨by simp [x1, x2], HB.out⟩
  · have x1 : (a.1.env == b.1.env) = false := by simpa using h1
    clear h1
    go_enter Try.func30, Try.ntmps30
    go_wp2_with fail
    go_ret
    exact ⟨by simp [x1], HB.out⟩

/-- Where a key stands. -/
def AtR (L : Ls) (k : K3) (r : Int) : Prop := (look L k = none ∧ r = -1) ∨ ∃ (j : Nat) (hj : j < L.length), r = j ∧ L[j].1 = k

set_option maxRecDepth 100000 in
set_option maxHeartbeats 2000000 in
theorem at_ok {w : World} {base p : Nat} {L : Ls} {h m : Nat} (b : RBuf w base p L h m) (hl : L.length ≤ 100) (q : K3 × En) :
    Calls Try.prog 22 #[.pointer (some ⟨p, 0, none⟩), oneV q] w fun e w' => Below w.heap.size w w' ∧ ∃ r, e = .returned (i64 r) ∧ AtR L q.1 r := by
  obtain ⟨lv, h1, ho⟩ := b.ex
  have hplt := b.plt
  have c0 := (three_cells h1).1.1
  obtain ⟨ao, cap, rfl, _⟩ := own_slice ho
  have HO : Hid (w.ownsRow base 42 5 (.slice ao L.length cap) L.length (ocells L)) := ho
  have hN : ∃ n, L.length = n := ⟨_, rfl⟩
  obtain ⟨n, hN⟩ := hN
  have HN : Hid (L.length = n) := hN
  rw [hN] at c0 hl
  have hb0 : Below w.heap.size w (w.alloc (.cells (oneA q) 42)) := (Below.refl _ _).alloc (Nat.le_refl _) _
  have HB0 : Hid (Below w.heap.size w (w.alloc (.cells (oneA q) 42))) := hb0
  have hX := heap_last w (.cells (oneA q) 42)
  have HX : Hid ((w.alloc (.cells (oneA q) 42)).heap[w.heap.size]? = some (.cells (oneA q) 42 (0, 0))) := hX
  have hsz : (w.alloc (.cells (oneA q) 42)).heap.size = w.heap.size + 1 := by simp
  have cA := (hb0.cell (p := ⟨p, 0, none⟩) hplt).trans c0
  clear b h1 ho hN hX hb0
  go_enter Try.func22, Try.ntmps22
  go_wp2_with fail
  go_loopw [12] (fun i wr => ∃ k : Nat, k ≤ n ∧ i = i64 k ∧ Below (w.heap.size + 1) (w.alloc (.cells (oneA q) 42)) wr ∧ Hid (∀ (j : Nat) (hj : j < L.length), j < k → L[j].1 ≠ q.1)) (fun i _ => n - (intOf i).toNat)
  case atStart => exact ⟨0, by omega, rfl, Below.refl _ _, fun j _ hj => absurd hj (by omega)⟩
  case round =>
    obtain ⟨k, hk, rfl, hb, HK⟩ := hrel
    have hs := hb.size
    rw [hsz] at hs
    have HB : Hid (Below (w.heap.size + 1) (w.alloc (.cells (oneA q) 42)) wr) := hb
    by_cases hlt : k < n
    · have hkl : k < L.length := by rw [HN.out]; exact hlt
      have hw : Below w.heap.size w wr := HB0.out.trans (hb.mono (by omega))
      have hor : wr.ownsRow base 42 5 (.slice ao L.length cap) L.length (ocells L) := own_kept HO.out (fun b C hb' => (hw.block b (Array.getElem?_eq_some_iff.1 hb').1).trans hb')
      obtain ⟨g, rfl⟩ : ∃ g, ao = some ⟨g, 0, none⟩ := by
        rcases hor.2 with ⟨_, h0⟩ | ⟨g, cp, cur, hv, _⟩
        · omega
        · cases hv; exact ⟨g, rfl⟩
      obtain ⟨o0, o1, o2, o3, o4⟩ := own_one hor hkl
      have hE : ∃ x, L[k] = x := ⟨_, rfl⟩
      obtain ⟨x, hE⟩ := hE
      rw [hE] at o0 o1 o2 o3 o4
      have HE : Hid (L[k] = x) := hE
      have hX2 := (hb.block _ (by omega)).trans HX.out
      have hbx : ∀ o, (wr.alloc o).heap[w.heap.size]? = some (.cells (oneA q) 42 (0, 0)) := fun o => (Below.heap_alloc _ _ _ (by omega)).trans hX2
      obtain ⟨y0, y1, y2, y3, y4⟩ := one_new (hbx (.cells (oneA x) 42))
      clear hb hE hor hw hX2 hbx
      go_wp2_with fail
      refine (is_ok _ x q).mono ?_
      rintro e w2 ⟨rfl, hb2⟩
      have HB2 : Hid (Below (w.heap.size + 1) (w.alloc (.cells (oneA q) 42)) w2) := (HB.out.alloc hs _).trans (hb2.mono (by simp; omega))
      clear hb2 y0 y1 y2 y3 y4
      by_cases heq : x.1 = q.1
      · have hd : decide (x.1 = q.1) = true := decide_eq_true heq
        go_wp2_with fail
        go_ret
        exact ⟨HB0.out.trans (HB2.out.mono (by omega)), _, rfl, Or.inr ⟨k, hkl, rfl, by rw [HE.out]; exact heq⟩⟩
      · have hd : decide (x.1 = q.1) = false := decide_eq_false heq
        go_wp2_with fail
        exact ⟨⟨k + 1, by omega, by go_num, HB2.out, fun j hj hjk => by
          by_cases hjk' : j = k
          · subst hjk'; rw [HE.out]; exact heq
          · exact HK.out j hj (by omega)⟩, by simp [intOf]; omega⟩
    · obtain rfl : k = n := by omega
      clear hb
      go_wp2_with fail
      go_ret
      refine ⟨HB0.out.trans (HB.out.mono (by omega)), -1, rfl, Or.inl ⟨look_none (fun r hr => ?_), rfl⟩⟩
      obtain ⟨j, hj, rfl⟩ := List.getElem_of_mem hr
      exact HK.out j hj (by rw [← HN.out]; exact hj)
end Go.Proofs.Ytblhoaggonjhkaa
