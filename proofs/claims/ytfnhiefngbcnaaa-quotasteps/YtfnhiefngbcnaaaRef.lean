/- imagoref10.Book as it lies in memory; At: its contract; no statement is proved in this text. -/
import Derived.Test.YtfnhiefngbcnaaaArgs
namespace Go.Proofs.Ytfnhiefngbcnaaa
open Go.ChangeShapes Go.WideShapes Go.ChangeAt Go.RowKit Go.Deep

structure Pr where
  env : Int
  q : T
  h : T
deriving DecidableEq
abbrev Pr.c (p : Pr) : List Value := [i64 p.env, i64 p.q.a, i64 p.q.b, i64 p.q.c, i64 p.h.a, i64 p.h.b, i64 p.h.c]
def pcells : List Pr → List Value
  | [] => []
  | p :: r => p.c ++ pcells r
theorem pcells_len : ∀ L : List Pr, (pcells L).length = L.length * 7
  | [] => rfl
  | p :: r => by simp [pcells, pcells_len r]; omega
theorem pcells_app : ∀ a b : List Pr, pcells (a ++ b) = pcells a ++ pcells b
  | [], b => rfl
  | p :: r, b => by simp [pcells, pcells_app r b]
theorem pcells_one : ∀ L : List Pr, ∀ v ∈ pcells L, v.oneCell' = true
  | [], v, h => by cases h
  | p :: r, v, h => by
    simp only [pcells, List.mem_append] at h
    rcases h with h | h
    · simp only [List.mem_cons, List.not_mem_nil, or_false] at h
      rcases h with rfl | rfl | rfl | rfl | rfl | rfl | rfl <;> rfl
    · exact pcells_one r v h
theorem pcells_get : ∀ (L : List Pr) (i j : Nat) (p : Pr), L[i]? = some p → j < 7 → (pcells L)[i * 7 + j]? = p.c[j]?
  | [], i, j, p, h, _ => by simp at h
  | x :: r, 0, j, p, h, hj => by
    simp at h
    subst h
    rw [Nat.zero_mul, Nat.zero_add, pcells, List.getElem?_append_left (by simpa using hj)]
  | x :: r, i + 1, j, p, h, hj => by
    have := pcells_get r i j p (by simpa using h) hj
    rw [pcells, List.getElem?_append_right (by simp; omega), show (i + 1) * 7 + j - x.c.length = i * 7 + j by simp; omega]
    exact this
theorem pcells_set : ∀ (L : List Pr) (i j : Nat) (p p' : Pr) (v : Value), L[i]? = some p → j < 7 → p.c.set j v = p'.c → (pcells L).set (i * 7 + j) v = pcells (L.set i p')
  | [], i, j, p, p', v, h, _, _ => by simp at h
  | x :: r, 0, j, p, p', v, h, hj, hp => by
    simp at h
    subst h
    rw [Nat.zero_mul, Nat.zero_add, pcells, List.set_append_left _ _ (by simpa using hj), hp]
    rfl
  | x :: r, i + 1, j, p, p', v, h, hj, hp => by
    have := pcells_set r i j p p' v (by simpa using h) hj hp
    rw [pcells, List.set_append_right _ _ (by simp; omega), show (i + 1) * 7 + j - x.c.length = i * 7 + j by simp; omega, this]
    rfl
/-- The document's book. -/
structure Rb (w : World) (base r : Nat) (t : T) (L : List Pr) : Prop where
  lo : base ≤ r
  own : ∃ v, w.heap[r]? = some (.cells #[i64 t.a, i64 t.b, i64 t.c, v] 33) ∧ w.ownsRow base 42 7 v L.length (pcells L)
theorem own_keep {w w' : World} {base : Nat} {e : TypeId} {size : Nat} {v : Value} {n : Nat} {xs : List Value} (h : w.ownsRow base e size v n xs) (hk : ∀ (k : Nat) (C : Array Value), w.heap[k]? = some (.cells C e) → w'.heap[k]? = some (.cells C e)) : w'.ownsRow base e size v n xs := by
  refine ⟨h.1, ?_⟩
  rcases h.2 with hn | ⟨g, cap, cur, rfl, hbg, hgg, rest⟩
  · exact .inl hn
  · exact .inr ⟨g, cap, cur, rfl, hbg, hk g cur hgg, rest⟩
theorem Rb.same {w w' : World} {base r : Nat} {t : T} {L : List Pr} (h : Rb w base r t L) (hk : ∀ (k : Nat) (o : Obj), w.heap[k]? = some o → (∃ C, o = .cells C 33 ∨ o = .cells C 42) → w'.heap[k]? = some o) : Rb w' base r t L := by
  obtain ⟨v, h1, h2⟩ := h.own
  exact ⟨h.lo, v, hk _ _ h1 ⟨_, Or.inl rfl⟩, own_keep h2 (fun k C hC => hk k _ hC ⟨_, Or.inr rfl⟩)⟩
theorem Rb.below {w w' : World} {base r : Nat} {t : T} {L : List Pr} (h : Rb w base r t L) (hb : Below w.heap.size w w') : Rb w' base r t L :=
  h.same (fun _ _ hk _ => blk_below hk hb)
theorem Rb.fr {w w' : World} {base r : Nat} {t : T} {L : List Pr} {bs : Nat} {ts : List TypeId} (h : Rb w base r t L) (hb : Fr bs ts w w') (h1 : ts.contains 33 = false) (h2 : ts.contains 42 = false) : Rb w' base r t L :=
  h.same (fun k o hk ho => hb.kept k o hk (by
    obtain ⟨C, rfl | rfl⟩ := ho
    · simp only [keeps, h1]; rfl
    · simp only [keeps, h2]; rfl))
theorem Rb.lt {w : World} {base r : Nat} {t : T} {L : List Pr} (h : Rb w base r t L) : r < w.heap.size := by
  obtain ⟨v, h1, _⟩ := h.own
  exact blk_lt h1
/-- The value, and the cells of its row. -/
theorem Rb.row {w : World} {base r : Nat} {t : T} {L : List Pr} (h : Rb w base r t L) : ∃ ao cap, w.heap[r]? = some (.cells #[i64 t.a, i64 t.b, i64 t.c, .slice ao L.length cap] 33) ∧ w.ownsRow base 42 7 (.slice ao L.length cap) L.length (pcells L) ∧ ∀ i p, L[i]? = some p → ∃ g, ao = some ⟨g, 0, none⟩ ∧ base ≤ g ∧ g < w.heap.size ∧ g ≠ r ∧ (∀ o, w.frozen? ⟨g, o, none⟩ = false) ∧ ∀ j, j < 7 → w.cell? ⟨g, i * 7 + j, none⟩ = p.c[j]? := by
  obtain ⟨v, h1, h2⟩ := h.own
  obtain ⟨ao, cap, rfl, _⟩ := own_slice h2
  refine ⟨ao, cap, h1, h2, fun i p hp => ?_⟩
  have hi : i < L.length := (List.getElem?_eq_some_iff.1 hp).1
  rcases h2.2 with ⟨_, h0⟩ | ⟨g, cap', cur, he, hbg, hgg, _⟩
  · omega
  · simp only [Value.slice.injEq] at he
    obtain ⟨rfl, _, rfl⟩ := he
    refine ⟨g, rfl, hbg, blk_lt hgg, fun e => ?_, fun o => blk_frozen hgg o, fun j hj => ?_⟩
    · rw [e, h1] at hgg; simp at hgg
    · rw [h2.cellAt _ (by omega), pcells_get L i j p hp hj]
def idx (L : List Pr) (env : Int) : Int := match L.findIdx? (fun p => p.env == env) with
  | some i => i
  | none => -1
theorem idx_none {L : List Pr} {env : Int} (h : ∀ (i : Nat) p, L[i]? = some p → p.env ≠ env) : idx L env = -1 := by
  unfold idx
  have : L.findIdx? (fun p => p.env == env) = none := by
    rw [List.findIdx?_eq_none_iff]
    intro p hp
    obtain ⟨i, hi⟩ := List.getElem?_of_mem hp
    simpa using h i p hi
  rw [this]
theorem idx_some {L : List Pr} {env : Int} {k : Nat} {p : Pr} (hp : L[k]? = some p) (he : p.env = env) (h : ∀ (i : Nat) p, i < k → L[i]? = some p → p.env ≠ env) : idx L env = k := by
  unfold idx
  have hk : k < L.length := (List.getElem?_eq_some_iff.1 hp).1
  have : L.findIdx? (fun p => p.env == env) = some k := by
    rw [List.findIdx?_eq_some_iff_getElem]
    refine ⟨hk, ?_, fun j hj => ?_⟩
    · rw [List.getElem?_eq_getElem hk] at hp
      cases hp
      simpa using he
    · simpa using h j L[j] hj (List.getElem?_eq_getElem (by omega))
  rw [this]
set_option maxRecDepth 100000 in
set_option maxHeartbeats 2000000 in
theorem rat_ok {w : World} {base r : Nat} {t : T} {L : List Pr} (h : Rb w base r t L) (hl : L.length ≤ 3) (env : Int) :
    Calls Try.prog 16 #[.pointer (some ⟨r, 0, none⟩), i64 env] w fun e w' => e = .returned (i64 (idx L env)) ∧ Below w.heap.size w w' := by
  obtain ⟨ao, cap, hbk, hown, _⟩ := h.row
  have HR : Hid (Rb w base r t L) := h
  have b3 : w.cell? ⟨r, 3, none⟩ = some (.slice ao L.length cap) := blk_cell hbk 3
  have HK : Hid (w.heap[r]? = some (.cells #[i64 t.a, i64 t.b, i64 t.c, .slice ao L.length cap] 33)) := hbk
  obtain ⟨N, hN⟩ : ∃ N, N = L.length := ⟨_, rfl⟩
  have HN : Hid (N = L.length) := hN
  rw [← hN] at b3 hl
  clear h hbk hown hN
  go_enter Try.func16, Try.ntmps16
  go_wp2_with fail
  go_loopw [12] (fun i wr => ∃ k : Nat, k ≤ N ∧ i = i64 k ∧ Below w.heap.size w wr ∧ Hid (∀ (i : Nat) p, i < k → L[i]? = some p → p.env ≠ env)) (fun i _ => N - (intOf i).toNat)
  case atStart => exact ⟨0, by omega, rfl, Below.refl _ _, fun i p hi => by omega⟩
  case round =>
    obtain ⟨k, hk, rfl, hb, HO⟩ := hrel
    by_cases hlt : k < N
    · have hlt2 : k < L.length := by rw [← HN.out]; exact hlt
      obtain ⟨p, hp⟩ : ∃ p, L[k]? = some p := ⟨_, List.getElem?_eq_getElem hlt2⟩
      obtain ⟨ao', cap', hbk', hown', hrow⟩ := (HR.out.below hb).row
      have hs := (blk_below HK.out hb).symm.trans hbk'
      simp only [Option.some.injEq, Obj.cells.injEq, Array.mk.injEq, List.cons.injEq, Value.slice.injEq, true_and, and_true] at hs
      obtain ⟨rfl, rfl⟩ := hs
      obtain ⟨g, rfl, hbg, hgl, _, _, hc⟩ := hrow k p hp
      have c0 : wr.cell? ⟨g, k * 7, none⟩ = some (i64 p.env) := hc 0 (by omega)
      have c1 : wr.cell? ⟨g, k * 7 + 1, none⟩ = some (i64 p.q.a) := hc 1 (by omega)
      have c2 : wr.cell? ⟨g, k * 7 + 2, none⟩ = some (i64 p.q.b) := hc 2 (by omega)
      have c3 : wr.cell? ⟨g, k * 7 + 3, none⟩ = some (i64 p.q.c) := hc 3 (by omega)
      have c4 : wr.cell? ⟨g, k * 7 + 4, none⟩ = some (i64 p.h.a) := hc 4 (by omega)
      have c5 : wr.cell? ⟨g, k * 7 + 5, none⟩ = some (i64 p.h.b) := hc 5 (by omega)
      have c6 : wr.cell? ⟨g, k * 7 + 6, none⟩ = some (i64 p.h.c) := hc 6 (by omega)
      have HB : Hid (∀ o, Below w.heap.size w (wr.alloc o)) := fun o => hb.alloc hb.size o
      have HP : Hid (L[k]? = some p) := hp
      clear hb hrow hc hp hbk' hown'
      by_cases he : p.env = env
      · have HE : Hid (idx L env = k) := idx_some HP.out he HO.out
        have hq : (p.env == env) = true := by simpa using he
        clear he
        go_wp2_with fail
        go_ret
        exact ⟨by rw [HE.out]; rfl, HB.out _⟩
      · have HE : Hid (∀ (i : Nat) p, i < k + 1 → L[i]? = some p → p.env ≠ env) := fun i p' hi hp' => by
          by_cases hik : i = k
          · subst hik
            have := HP.out.symm.trans hp'
            simp at this
            subst this
            exact he
          · exact HO.out i p' (by omega) hp'
        have hq : (p.env == env) = false := by simpa using he
        clear he
        go_wp2_with fail
        exact ⟨⟨k + 1, by omega, by go_num, HB.out _, HE⟩, by simp [intOf]; omega⟩
    · have HE : Hid (idx L env = -1) := idx_none fun i p hp => HO.out i p (by have := (List.getElem?_eq_some_iff.1 hp).1; have := HN.out; omega) hp
      have HB : Hid (Below w.heap.size w wr) := hb
      clear hb
      go_wp2_with fail
      go_ret
      exact ⟨by rw [HE.out]; rfl, HB.out⟩
end Go.Proofs.Ytfnhiefngbcnaaa
