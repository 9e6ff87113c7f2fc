/- No statement here. -/
import Derived.Test.YtnknhencobhjdaaMQtNilWalk
set_option maxRecDepth 100000
namespace Go.Proofs.Ytnknhencobhjdaa.Qt
open Go.ChangeShapes Go.WideShapes Go.ChangeAt Go.RowKit Go.Deep
structure Pr where
  env : Int
  q : T
  h : T
deriving DecidableEq
abbrev Pr.c (p : Pr) : List Value := [i64 p.env, i64 p.q.a, i64 p.q.b, i64 p.q.c, i64 p.h.a, i64 p.h.b, i64 p.h.c]
def pcells : List Pr → List Value
  | [] => []
  | p :: r => p.c ++ pcells r
theorem pcells_len : ∀ L : List Pr, (pcells L).length = L.length * 7
  | [] => rfl
  | p :: r => by simp [pcells, pcells_len r]; omega
theorem pcells_app : ∀ a b : List Pr, pcells (a ++ b) = pcells a ++ pcells b
  | [], b => rfl
  | p :: r, b => by simp [pcells, pcells_app r b]
theorem pcells_one : ∀ L : List Pr, ∀ v ∈ pcells L, v.oneCell' = true
  | [], v, h => by cases h
  | p :: r, v, h => by
    simp only [pcells, List.mem_append] at h
    rcases h with h | h
    · simp only [List.mem_cons, List.not_mem_nil, or_false] at h
      rcases h with rfl | rfl | rfl | rfl | rfl | rfl | rfl <;> rfl
    · exact pcells_one r v h
theorem pcells_get : ∀ (L : List Pr) (i j : Nat) (p : Pr), L[i]? = some p → j < 7 → (pcells L)[i * 7 + j]? = p.c[j]?
  | [], i, j, p, h, _ => by simp at h
  | x :: r, 0, j, p, h, hj => by
    simp at h
    subst h
    rw [Nat.zero_mul, Nat.zero_add, pcells, List.getElem?_append_left (by simpa using hj)]
  | x :: r, i + 1, j, p, h, hj => by
    have := pcells_get r i j p (by simpa using h) hj
    rw [pcells, List.getElem?_append_right (by simp; omega), show (i + 1) * 7 + j - x.c.length = i * 7 + j by simp; omega]
    exact this
theorem pcells_set : ∀ (L : List Pr) (i j : Nat) (p p' : Pr) (v : Value), L[i]? = some p → j < 7 → p.c.set j v = p'.c → (pcells L).set (i * 7 + j) v = pcells (L.set i p')
  | [], i, j, p, p', v, h, _, _ => by simp at h
  | x :: r, 0, j, p, p', v, h, hj, hp => by
    simp at h
    subst h
    rw [Nat.zero_mul, Nat.zero_add, pcells, List.set_append_left _ _ (by simpa using hj), hp]
    rfl
  | x :: r, i + 1, j, p, p', v, h, hj, hp => by
    have := pcells_set r i j p p' v (by simpa using h) hj hp
    rw [pcells, List.set_append_right _ _ (by simp; omega), show (i + 1) * 7 + j - x.c.length = i * 7 + j by simp; omega, this]
    rfl
structure Rb (w : World) (base r : Nat) (t : T) (L : List Pr) : Prop where
  lo : base ≤ r
  own : ∃ v, w.heap[r]? = some (.cells #[i64 t.a, i64 t.b, i64 t.c, v] 126) ∧ w.ownsRow base 128 7 v L.length (pcells L)
theorem own_keep {w w' : World} {base : Nat} {e : TypeId} {size : Nat} {v : Value} {n : Nat} {xs : List Value} (h : w.ownsRow base e size v n xs) (hk : ∀ (k : Nat) (C : Array Value), w.heap[k]? = some (.cells C e) → w'.heap[k]? = some (.cells C e)) : w'.ownsRow base e size v n xs := by
  refine ⟨h.1, ?_⟩
  rcases h.2 with hn | ⟨g, cap, cur, rfl, hbg, hgg, rest⟩
  · exact .inl hn
  · exact .inr ⟨g, cap, cur, rfl, hbg, hk g cur hgg, rest⟩
theorem Rb.same {w w' : World} {base r : Nat} {t : T} {L : List Pr} (h : Rb w base r t L) (hk : ∀ (k : Nat) (o : Obj), w.heap[k]? = some o → (∃ C, o = .cells C 126 ∨ o = .cells C 128) → w'.heap[k]? = some o) : Rb w' base r t L := by
  obtain ⟨v, h1, h2⟩ := h.own
  exact ⟨h.lo, v, hk _ _ h1 ⟨_, Or.inl rfl⟩, own_keep h2 (fun k C hC => hk k _ hC ⟨_, Or.inr rfl⟩)⟩
theorem Rb.below {w w' : World} {base r : Nat} {t : T} {L : List Pr} (h : Rb w base r t L) (hb : Below w.heap.size w w') : Rb w' base r t L :=
  h.same (fun _ _ hk _ => bkb hk hb)
theorem Rb.fr {w w' : World} {base r : Nat} {t : T} {L : List Pr} {bs : Nat} {ts : List TypeId} (h : Rb w base r t L) (hb : Fr bs ts w w') (h1 : ts.contains 126 = false) (h2 : ts.contains 128 = false) : Rb w' base r t L :=
  h.same (fun k o hk ho => hb.kept k o hk (by
    obtain ⟨C, rfl | rfl⟩ := ho
    · simp only [keeps, h1]; rfl
    · simp only [keeps, h2]; rfl))
theorem Rb.lt {w : World} {base r : Nat} {t : T} {L : List Pr} (h : Rb w base r t L) : r < w.heap.size := by
  obtain ⟨v, h1, _⟩ := h.own
  exact blk_lt h1
theorem Rb.row {w : World} {base r : Nat} {t : T} {L : List Pr} (h : Rb w base r t L) : ∃ ao cap, w.heap[r]? = some (.cells #[i64 t.a, i64 t.b, i64 t.c, .slice ao L.length cap] 126) ∧ w.ownsRow base 128 7 (.slice ao L.length cap) L.length (pcells L) ∧ ∀ i p, L[i]? = some p → ∃ g, ao = some ⟨g, 0, none⟩ ∧ base ≤ g ∧ g < w.heap.size ∧ g ≠ r ∧ (∀ o, w.frozen? ⟨g, o, none⟩ = false) ∧ ∀ j, j < 7 → w.cell? ⟨g, i * 7 + j, none⟩ = p.c[j]? := by
  obtain ⟨v, h1, h2⟩ := h.own
  obtain ⟨ao, cap, rfl, _⟩ := own_slice h2
  refine ⟨ao, cap, h1, h2, fun i p hp => ?_⟩
  have hi : i < L.length := (List.getElem?_eq_some_iff.1 hp).1
  rcases h2.2 with ⟨_, h0⟩ | ⟨g, cap', cur, he, hbg, hgg, _⟩
  · omega
  · simp only [Value.slice.injEq] at he
    obtain ⟨rfl, _, rfl⟩ := he
    refine ⟨g, rfl, hbg, blk_lt hgg, fun e => ?_, fun o => bkf hgg o, fun j hj => ?_⟩
    · rw [e, h1] at hgg; simp at hgg
    · rw [h2.cellAt _ (by omega), pcells_get L i j p hp hj]
def idx (L : List Pr) (env : Int) : Int := match L.findIdx? (fun p => p.env == env) with
  | some i => i
  | none => -1
theorem idx_none {L : List Pr} {env : Int} (h : ∀ (i : Nat) p, L[i]? = some p → p.env ≠ env) : idx L env = -1 := by
  unfold idx
  have : L.findIdx? (fun p => p.env == env) = none := by
    rw [List.findIdx?_eq_none_iff]
    intro p hp
    obtain ⟨i, hi⟩ := List.getElem?_of_mem hp
    simpa using h i p hi
  rw [this]
theorem idx_some {L : List Pr} {env : Int} {k : Nat} {p : Pr} (hp : L[k]? = some p) (he : p.env = env) (h : ∀ (i : Nat) p, i < k → L[i]? = some p → p.env ≠ env) : idx L env = k := by
  unfold idx
  have hk : k < L.length := (List.getElem?_eq_some_iff.1 hp).1
  have : L.findIdx? (fun p => p.env == env) = some k := by
    rw [List.findIdx?_eq_some_iff_getElem]
    refine ⟨hk, ?_, fun j hj => ?_⟩
    · rw [List.getElem?_eq_getElem hk] at hp
      cases hp
      simpa using he
    · simpa using h j L[j] hj (List.getElem?_eq_getElem (by omega))
  rw [this]
set_option maxHeartbeats 2000000 in
theorem rat_ok {w : World} {base r : Nat} {t : T} {L : List Pr} (h : Rb w base r t L) (hl : L.length ≤ 3) (env : Int) :
    Calls Try.prog 46 #[.pointer (some ⟨r, 0, none⟩), i64 env] w fun e w' => e = .returned (i64 (idx L env)) ∧ Below w.heap.size w w' := by
  obtain ⟨ao, cap, hbk, hown, _⟩ := h.row
  have HR : Hid (Rb w base r t L) := h
  have b3 : w.cell? ⟨r, 3, none⟩ = some (.slice ao L.length cap) := bkc hbk 3
  have HK : Hid (w.heap[r]? = some (.cells #[i64 t.a, i64 t.b, i64 t.c, .slice ao L.length cap] 126)) := hbk
  obtain ⟨N, hN⟩ : ∃ N, N = L.length := ⟨_, rfl⟩
  have HN : Hid (N = L.length) := hN
  rw [← hN] at b3 hl
  clear h hbk hown hN
  go_enter Try.func46, Try.ntmps46
  go_wp2_with fail
  go_loopw [12] (fun i wr => ∃ k : Nat, k ≤ N ∧ i = i64 k ∧ Below w.heap.size w wr ∧ Hid (∀ (i : Nat) p, i < k → L[i]? = some p → p.env ≠ env)) (fun i _ => N - (intOf i).toNat)
  case atStart => exact ⟨0, by omega, rfl, Below.refl _ _, fun i p hi => by omega⟩
  case round =>
    obtain ⟨k, hk, rfl, hb, HO⟩ := hrel
    by_cases hlt : k < N
    · have hlt2 : k < L.length := by rw [← HN.out]; exact hlt
      obtain ⟨p, hp⟩ : ∃ p, L[k]? = some p := ⟨_, List.getElem?_eq_getElem hlt2⟩
      obtain ⟨ao', cap', hbk', hown', hrow⟩ := (HR.out.below hb).row
      have hs := (bkb HK.out hb).symm.trans hbk'
      simp only [Option.some.injEq, Obj.cells.injEq, Array.mk.injEq, List.cons.injEq, Value.slice.injEq, true_and, and_true] at hs
      obtain ⟨rfl, rfl⟩ := hs
      obtain ⟨g, rfl, hbg, hgl, _, _, hc⟩ := hrow k p hp
      have c0 : wr.cell? ⟨g, k * 7, none⟩ = some (i64 p.env) := hc 0 (by omega)
      have c1 : wr.cell? ⟨g, k * 7 + 1, none⟩ = some (i64 p.q.a) := hc 1 (by omega)
      have c2 : wr.cell? ⟨g, k * 7 + 2, none⟩ = some (i64 p.q.b) := hc 2 (by omega)
      have c3 : wr.cell? ⟨g, k * 7 + 3, none⟩ = some (i64 p.q.c) := hc 3 (by omega)
      have c4 : wr.cell? ⟨g, k * 7 + 4, none⟩ = some (i64 p.h.a) := hc 4 (by omega)
      have c5 : wr.cell? ⟨g, k * 7 + 5, none⟩ = some (i64 p.h.b) := hc 5 (by omega)
      have c6 : wr.cell? ⟨g, k * 7 + 6, none⟩ = some (i64 p.h.c) := hc 6 (by omega)
      have HB : Hid (∀ o, Below w.heap.size w (wr.alloc o)) := fun o => hb.alloc hb.size o
      have HP : Hid (L[k]? = some p) := hp
      clear hb hrow hc hp hbk' hown'
      by_cases he : p.env = env
      · have HE : Hid (idx L env = k) := idx_some HP.out he HO.out
        have hq : (p.env == env) = true := by simpa using he
        clear he
        go_wp2_with fail
        go_ret
        exact ⟨by rw [HE.out]; rfl, HB.out _⟩
      · have HE : Hid (∀ (i : Nat) p, i < k + 1 → L[i]? = some p → p.env ≠ env) := fun i p' hi hp' => by
          by_cases hik : i = k
          · subst hik
            have := HP.out.symm.trans hp'
            simp at this
            subst this
            exact he
          · exact HO.out i p' (by omega) hp'
        have hq : (p.env == env) = false := by simpa using he
        clear he
        go_wp2_with fail
        exact ⟨⟨k + 1, by omega, by go_num, HB.out _, HE⟩, by simp [intOf]; omega⟩
    · have HE : Hid (idx L env = -1) := idx_none fun i p hp => HO.out i p (by have := (List.getElem?_eq_some_iff.1 hp).1; have := HN.out; omega) hp
      have HB : Hid (Below w.heap.size w wr) := hb
      clear hb
      go_wp2_with fail
      go_ret
      exact ⟨by rw [HE.out]; rfl, HB.out⟩
end Go.Proofs.Ytnknhencobhjdaa.Qt
namespace Go.Proofs.Ytnknhencobhjdaa.Qt
open Go.ChangeShapes Go.WideShapes Go.ChangeAt Go.RowKit Go.Deep
theorem Rb.set {w w1 : World} {base r : Nat} {t : T} {L : List Pr} (h : Rb w base r t L) (hb : Below w.heap.size w w1) {k : Nat} {p : Pr} (hp : L[k]? = some p) {ao : Option Addr} {cap g : Nat} (hbk : w1.heap[r]? = some (.cells #[i64 t.a, i64 t.b, i64 t.c, .slice ao L.length cap] 126)) (hg : ao = some ⟨g, 0, none⟩) (j : Nat) (hj : j < 7) (v : Int) (p' : Pr) (hp' : p.c.set j (i64 v) = p'.c) :
    Rb (w1.setCell ⟨g, k * 7 + j, none⟩ (i64 v)) base r t (L.set k p') ∧ Fr base [126, 128] w (w1.setCell ⟨g, k * 7 + j, none⟩ (i64 v)) := by
  subst hg
  obtain ⟨ao', cap', hbk', hown, _⟩ := (h.below hb).row
  have hs := hbk.symm.trans hbk'
  simp only [Option.some.injEq, Obj.cells.injEq, Array.mk.injEq, List.cons.injEq, Value.slice.injEq, true_and, and_true] at hs
  obtain ⟨rfl, rfl⟩ := hs
  have hlo : base ≤ w.heap.size := by have := h.lt; have := h.lo; omega
  obtain ⟨hst, hgr⟩ := hown.stored (k * 7 + j) (i64 v)
  rw [pcells_set L k j p p' (i64 v) hp hj hp'] at hst
  have hgl := hown.lt g rfl
  have hgg : ∃ C, w1.heap[g]? = some (.cells C 128) := by
    rcases hown.2 with ⟨h', _⟩ | ⟨g', cap', cur, h', _, hg, _⟩
    · simp at h'
    · simp only [Value.slice.injEq, Option.some.injEq, Addr.mk.injEq, and_true, true_and] at h'
      obtain ⟨rfl, rfl⟩ := h'
      exact ⟨cur, hg⟩
  obtain ⟨C, hC⟩ := hgg
  have hne : r ≠ g := fun e => by rw [e, hC] at hbk; simp at hbk
  refine ⟨⟨h.lo, _, ?_, by rw [List.length_set]; exact hst⟩, (Fr.of_below _ hb hlo).trans (Fr.of_touch ((Touch.refl g w1).setCell rfl _) hC (by rfl) hgl.1)⟩
  rw [heap_setCell_other _ _ _ _ hne]
  exact hbk
set_option maxHeartbeats 1000000 in
theorem rtake_in {w : World} {base r : Nat} {t : T} {L : List Pr} (h : Rb w base r t L) (hl : L.length ≤ 3) (env kind n : Int) (k : Nat) (p : Pr) (hp : L[k]? = some p) (hi : idx L env = k) (hle : Le p.h p.q) (h64 : Le p.q ⟨64, 64, 64⟩) (hk : kind = 1 ∨ kind = 2 ∨ kind = 3) (h0 : 0 ≤ n) (h1 : n ≤ p.q.g kind - p.h.g kind) :
    Calls Try.prog 69 #[.pointer (some ⟨r, 0, none⟩), i64 env, .agg #[i64 kind, i64 n], .bool false] w fun e w' => e = .returned (i64 0) ∧ Rb w' base r t (L.set k ⟨p.env, p.q, p.h.put kind (p.h.g kind + n)⟩) ∧ Fr base [126, 128] w w' := by
  have a0 := hle.a0; have a1 := hle.a1; have b0 := hle.b0; have b1 := hle.b1; have c0 := hle.c0; have c1 := hle.c1
  have a2 := h64.a1; have b2 := h64.b1; have c2 := h64.c1
  simp only at a2 b2 c2
  have HR : Hid (Rb w base r t L) := h
  have HP : Hid (L[k]? = some p) := hp
  have HI : Hid (idx L env = k) := hi
  have HB0 : Hid (∀ o, Below w.heap.size w (w.alloc o)) := fun o => (Below.refl _ _).alloc (Nat.le_refl _) o
  have hkl : (k : Int) < 3 := by have := (List.getElem?_eq_some_iff.1 hp).1; omega
  have HLL : Hid (L.length ≤ 3) := hl
  have hkN : (k : Int) < L.length := by have := (List.getElem?_eq_some_iff.1 hp).1; omega
  clear h hp hi hle h64 hl
  rcases hk with rfl | rfl | rfl
  · have h1' : n ≤ p.q.a - p.h.a := by simpa [T.g] using h1
    clear h1
    go_enter Try.func69, Try.ntmps69
    go_wp2_with fail
    refine (rat_ok (HR.out.below (HB0.out _)) HLL.out env).mono ?_
    rintro e w1 ⟨rfl, hb1⟩
    rw [HI.out]
    have hx1 := bkb (hlx w _) hb1
    have x0 : w1.cell? ⟨w.heap.size, 0, none⟩ = some (i64 1) := bkc hx1 0
    have x1 : w1.cell? ⟨w.heap.size, 1, none⟩ = some (i64 n) := bkc hx1 1
    have hb1' : Below w.heap.size w w1 := (HB0.out _).trans (hb1.mono (by simp))
    obtain ⟨ao, cap, hbk, _, hrow⟩ := (HR.out.below hb1').row
    obtain ⟨g, hao, hbg, hgl, hgr, hfz, hc⟩ := hrow k p HP.out
    have HAO : Hid (ao = some ⟨g, 0, none⟩) := hao
    have HBK : Hid (w1.heap[r]? = some (.cells #[i64 t.a, i64 t.b, i64 t.c, .slice ao L.length cap] 126)) := hbk
    have d3 : w1.cell? ⟨r, 3, none⟩ = some (.slice (some ⟨g, 0, none⟩) L.length cap) := by rw [← hao]; exact bkc hbk 3
    have q0 : w1.cell? ⟨g, k * 7 + 1, none⟩ = some (i64 p.q.a) := hc 1 (by omega)
    have q1 : w1.cell? ⟨g, k * 7 + 4, none⟩ = some (i64 p.h.a) := hc 4 (by omega)
    have q2 : w1.cell? ⟨g, k * 7 + 4 + 0, none⟩ = some (i64 p.h.a) := hc 4 (by omega)
    have q3 : w1.cell? ⟨g, k * 7 + 1 + 0, none⟩ = some (i64 p.q.a) := hc 1 (by omega)
    have HB1 : Hid (Below w.heap.size w w1) := hb1'
    clear hb1 hb1' hx1 hrow hc hbk hao
    go_wp2_with fail
    go_ret
    exact ⟨rfl, HR.out.set HB1.out HP.out HBK.out HAO.out 4 (by omega) (p.h.a + n) ⟨p.env, p.q, p.h.put 1 (p.h.g 1 + n)⟩ rfl⟩
  · have h1' : n ≤ p.q.b - p.h.b := by simpa [T.g] using h1
    clear h1
    go_enter Try.func69, Try.ntmps69
    go_wp2_with fail
    refine (rat_ok (HR.out.below (HB0.out _)) HLL.out env).mono ?_
    rintro e w1 ⟨rfl, hb1⟩
    rw [HI.out]
    have hx1 := bkb (hlx w _) hb1
    have x0 : w1.cell? ⟨w.heap.size, 0, none⟩ = some (i64 2) := bkc hx1 0
    have x1 : w1.cell? ⟨w.heap.size, 1, none⟩ = some (i64 n) := bkc hx1 1
    have hb1' : Below w.heap.size w w1 := (HB0.out _).trans (hb1.mono (by simp))
    obtain ⟨ao, cap, hbk, _, hrow⟩ := (HR.out.below hb1').row
    obtain ⟨g, hao, hbg, hgl, hgr, hfz, hc⟩ := hrow k p HP.out
    have HAO : Hid (ao = some ⟨g, 0, none⟩) := hao
    have HBK : Hid (w1.heap[r]? = some (.cells #[i64 t.a, i64 t.b, i64 t.c, .slice ao L.length cap] 126)) := hbk
    have d3 : w1.cell? ⟨r, 3, none⟩ = some (.slice (some ⟨g, 0, none⟩) L.length cap) := by rw [← hao]; exact bkc hbk 3
    have q0 : w1.cell? ⟨g, k * 7 + 2, none⟩ = some (i64 p.q.b) := hc 2 (by omega)
    have q1 : w1.cell? ⟨g, k * 7 + 5, none⟩ = some (i64 p.h.b) := hc 5 (by omega)
    have q2 : w1.cell? ⟨g, k * 7 + 4 + 1, none⟩ = some (i64 p.h.b) := hc 5 (by omega)
    have q3 : w1.cell? ⟨g, k * 7 + 1 + 1, none⟩ = some (i64 p.q.b) := hc 2 (by omega)
    have HB1 : Hid (Below w.heap.size w w1) := hb1'
    clear hb1 hb1' hx1 hrow hc hbk hao
    go_wp2_with fail
    go_ret
    exact ⟨rfl, HR.out.set HB1.out HP.out HBK.out HAO.out 5 (by omega) (p.h.b + n) ⟨p.env, p.q, p.h.put 2 (p.h.g 2 + n)⟩ rfl⟩
  · have h1' : n ≤ p.q.c - p.h.c := by simpa [T.g] using h1
    clear h1
    go_enter Try.func69, Try.ntmps69
    go_wp2_with fail
    refine (rat_ok (HR.out.below (HB0.out _)) HLL.out env).mono ?_
    rintro e w1 ⟨rfl, hb1⟩
    rw [HI.out]
    have hx1 := bkb (hlx w _) hb1
    have x0 : w1.cell? ⟨w.heap.size, 0, none⟩ = some (i64 3) := bkc hx1 0
    have x1 : w1.cell? ⟨w.heap.size, 1, none⟩ = some (i64 n) := bkc hx1 1
    have hb1' : Below w.heap.size w w1 := (HB0.out _).trans (hb1.mono (by simp))
    obtain ⟨ao, cap, hbk, _, hrow⟩ := (HR.out.below hb1').row
    obtain ⟨g, hao, hbg, hgl, hgr, hfz, hc⟩ := hrow k p HP.out
    have HAO : Hid (ao = some ⟨g, 0, none⟩) := hao
    have HBK : Hid (w1.heap[r]? = some (.cells #[i64 t.a, i64 t.b, i64 t.c, .slice ao L.length cap] 126)) := hbk
    have d3 : w1.cell? ⟨r, 3, none⟩ = some (.slice (some ⟨g, 0, none⟩) L.length cap) := by rw [← hao]; exact bkc hbk 3
    have q0 : w1.cell? ⟨g, k * 7 + 3, none⟩ = some (i64 p.q.c) := hc 3 (by omega)
    have q1 : w1.cell? ⟨g, k * 7 + 6, none⟩ = some (i64 p.h.c) := hc 6 (by omega)
    have q2 : w1.cell? ⟨g, k * 7 + 4 + 2, none⟩ = some (i64 p.h.c) := hc 6 (by omega)
    have q3 : w1.cell? ⟨g, k * 7 + 1 + 2, none⟩ = some (i64 p.q.c) := hc 3 (by omega)
    have HB1 : Hid (Below w.heap.size w w1) := hb1'
    clear hb1 hb1' hx1 hrow hc hbk hao
    go_wp2_with fail
    go_ret
    exact ⟨rfl, HR.out.set HB1.out HP.out HBK.out HAO.out 6 (by omega) (p.h.c + n) ⟨p.env, p.q, p.h.put 3 (p.h.g 3 + n)⟩ rfl⟩
set_option maxHeartbeats 1000000 in
theorem rtake_more {w : World} {base r : Nat} {t : T} {L : List Pr} (h : Rb w base r t L) (hl : L.length ≤ 3) (env kind n : Int) (k : Nat) (p : Pr) (hp : L[k]? = some p) (hi : idx L env = k) (hle : Le p.h p.q) (h64 : Le p.q ⟨64, 64, 64⟩) (hk : kind = 1 ∨ kind = 2 ∨ kind = 3) (h0 : 0 ≤ n) (h1 : p.q.g kind - p.h.g kind < n) :
    Calls Try.prog 69 #[.pointer (some ⟨r, 0, none⟩), i64 env, .agg #[i64 kind, i64 n], .bool false] w fun e w' => e = .returned (i64 100) ∧ Below w.heap.size w w' := by
  have a0 := hle.a0; have a1 := hle.a1; have b0 := hle.b0; have b1 := hle.b1; have c0 := hle.c0; have c1 := hle.c1
  have a2 := h64.a1; have b2 := h64.b1; have c2 := h64.c1
  simp only at a2 b2 c2
  have HR : Hid (Rb w base r t L) := h
  have HP : Hid (L[k]? = some p) := hp
  have HI : Hid (idx L env = k) := hi
  have HB0 : Hid (∀ o, Below w.heap.size w (w.alloc o)) := fun o => (Below.refl _ _).alloc (Nat.le_refl _) o
  have hkl : (k : Int) < 3 := by have := (List.getElem?_eq_some_iff.1 hp).1; omega
  have HLL : Hid (L.length ≤ 3) := hl
  have hkN : (k : Int) < L.length := by have := (List.getElem?_eq_some_iff.1 hp).1; omega
  clear h hp hi hle h64 hl
  rcases hk with rfl | rfl | rfl
  · have h1' : p.q.a - p.h.a < n := by simpa [T.g] using h1
    clear h1
    go_enter Try.func69, Try.ntmps69
    go_wp2_with fail
    refine (rat_ok (HR.out.below (HB0.out _)) HLL.out env).mono ?_
    rintro e w1 ⟨rfl, hb1⟩
    rw [HI.out]
    have hx1 := bkb (hlx w _) hb1
    have x0 : w1.cell? ⟨w.heap.size, 0, none⟩ = some (i64 1) := bkc hx1 0
    have x1 : w1.cell? ⟨w.heap.size, 1, none⟩ = some (i64 n) := bkc hx1 1
    have hb1' : Below w.heap.size w w1 := (HB0.out _).trans (hb1.mono (by simp))
    obtain ⟨ao, cap, hbk, _, hrow⟩ := (HR.out.below hb1').row
    obtain ⟨g, hao, hbg, hgl, hgr, hfz, hc⟩ := hrow k p HP.out
    have HAO : Hid (ao = some ⟨g, 0, none⟩) := hao
    have HBK : Hid (w1.heap[r]? = some (.cells #[i64 t.a, i64 t.b, i64 t.c, .slice ao L.length cap] 126)) := hbk
    have d3 : w1.cell? ⟨r, 3, none⟩ = some (.slice (some ⟨g, 0, none⟩) L.length cap) := by rw [← hao]; exact bkc hbk 3
    have q0 : w1.cell? ⟨g, k * 7 + 1, none⟩ = some (i64 p.q.a) := hc 1 (by omega)
    have q1 : w1.cell? ⟨g, k * 7 + 4, none⟩ = some (i64 p.h.a) := hc 4 (by omega)
    have q2 : w1.cell? ⟨g, k * 7 + 4 + 0, none⟩ = some (i64 p.h.a) := hc 4 (by omega)
    have q3 : w1.cell? ⟨g, k * 7 + 1 + 0, none⟩ = some (i64 p.q.a) := hc 1 (by omega)
    have HB1 : Hid (Below w.heap.size w w1) := hb1'
    clear hb1 hb1' hx1 hrow hc hbk hao
    go_wp2_with fail
    go_ret
    exact ⟨rfl, HB1.out⟩
  · have h1' : p.q.b - p.h.b < n := by simpa [T.g] using h1
    clear h1
    go_enter Try.func69, Try.ntmps69
    go_wp2_with fail
    refine (rat_ok (HR.out.below (HB0.out _)) HLL.out env).mono ?_
    rintro e w1 ⟨rfl, hb1⟩
    rw [HI.out]
    have hx1 := bkb (hlx w _) hb1
    have x0 : w1.cell? ⟨w.heap.size, 0, none⟩ = some (i64 2) := bkc hx1 0
    have x1 : w1.cell? ⟨w.heap.size, 1, none⟩ = some (i64 n) := bkc hx1 1
    have hb1' : Below w.heap.size w w1 := (HB0.out _).trans (hb1.mono (by simp))
    obtain ⟨ao, cap, hbk, _, hrow⟩ := (HR.out.below hb1').row
    obtain ⟨g, hao, hbg, hgl, hgr, hfz, hc⟩ := hrow k p HP.out
    have HAO : Hid (ao = some ⟨g, 0, none⟩) := hao
    have HBK : Hid (w1.heap[r]? = some (.cells #[i64 t.a, i64 t.b, i64 t.c, .slice ao L.length cap] 126)) := hbk
    have d3 : w1.cell? ⟨r, 3, none⟩ = some (.slice (some ⟨g, 0, none⟩) L.length cap) := by rw [← hao]; exact bkc hbk 3
    have q0 : w1.cell? ⟨g, k * 7 + 2, none⟩ = some (i64 p.q.b) := hc 2 (by omega)
    have q1 : w1.cell? ⟨g, k * 7 + 5, none⟩ = some (i64 p.h.b) := hc 5 (by omega)
    have q2 : w1.cell? ⟨g, k * 7 + 4 + 1, none⟩ = some (i64 p.h.b) := hc 5 (by omega)
    have q3 : w1.cell? ⟨g, k * 7 + 1 + 1, none⟩ = some (i64 p.q.b) := hc 2 (by omega)
    have HB1 : Hid (Below w.heap.size w w1) := hb1'
    clear hb1 hb1' hx1 hrow hc hbk hao
    go_wp2_with fail
    go_ret
    exact ⟨rfl, HB1.out⟩
  · have h1' : p.q.c - p.h.c < n := by simpa [T.g] using h1
    clear h1
    go_enter Try.func69, Try.ntmps69
    go_wp2_with fail
    refine (rat_ok (HR.out.below (HB0.out _)) HLL.out env).mono ?_
    rintro e w1 ⟨rfl, hb1⟩
    rw [HI.out]
    have hx1 := bkb (hlx w _) hb1
    have x0 : w1.cell? ⟨w.heap.size, 0, none⟩ = some (i64 3) := bkc hx1 0
    have x1 : w1.cell? ⟨w.heap.size, 1, none⟩ = some (i64 n) := bkc hx1 1
    have hb1' : Below w.heap.size w w1 := (HB0.out _).trans (hb1.mono (by simp))
    obtain ⟨ao, cap, hbk, _, hrow⟩ := (HR.out.below hb1').row
    obtain ⟨g, hao, hbg, hgl, hgr, hfz, hc⟩ := hrow k p HP.out
    have HAO : Hid (ao = some ⟨g, 0, none⟩) := hao
    have HBK : Hid (w1.heap[r]? = some (.cells #[i64 t.a, i64 t.b, i64 t.c, .slice ao L.length cap] 126)) := hbk
    have d3 : w1.cell? ⟨r, 3, none⟩ = some (.slice (some ⟨g, 0, none⟩) L.length cap) := by rw [← hao]; exact bkc hbk 3
    have q0 : w1.cell? ⟨g, k * 7 + 3, none⟩ = some (i64 p.q.c) := hc 3 (by omega)
    have q1 : w1.cell? ⟨g, k * 7 + 6, none⟩ = some (i64 p.h.c) := hc 6 (by omega)
    have q2 : w1.cell? ⟨g, k * 7 + 4 + 2, none⟩ = some (i64 p.h.c) := hc 6 (by omega)
    have q3 : w1.cell? ⟨g, k * 7 + 1 + 2, none⟩ = some (i64 p.q.c) := hc 3 (by omega)
    have HB1 : Hid (Below w.heap.size w w1) := hb1'
    clear hb1 hb1' hx1 hrow hc hbk hao
    go_wp2_with fail
    go_ret
    exact ⟨rfl, HB1.out⟩
set_option maxHeartbeats 1000000 in
theorem rgive_in {w : World} {base r : Nat} {t : T} {L : List Pr} (h : Rb w base r t L) (hl : L.length ≤ 3) (env kind n : Int) (k : Nat) (p : Pr) (hp : L[k]? = some p) (hi : idx L env = k) (hle : Le p.h p.q) (h64 : Le p.q ⟨64, 64, 64⟩) (hk : kind = 1 ∨ kind = 2 ∨ kind = 3) (h0 : 0 ≤ n) (h1 : n ≤ p.h.g kind) :
    Calls Try.prog 69 #[.pointer (some ⟨r, 0, none⟩), i64 env, .agg #[i64 kind, i64 n], .bool true] w fun e w' => e = .returned (i64 0) ∧ Rb w' base r t (L.set k ⟨p.env, p.q, p.h.put kind (p.h.g kind - n)⟩) ∧ Fr base [126, 128] w w' := by
  have a0 := hle.a0; have a1 := hle.a1; have b0 := hle.b0; have b1 := hle.b1; have c0 := hle.c0; have c1 := hle.c1
  have a2 := h64.a1; have b2 := h64.b1; have c2 := h64.c1
  simp only at a2 b2 c2
  have HR : Hid (Rb w base r t L) := h
  have HP : Hid (L[k]? = some p) := hp
  have HI : Hid (idx L env = k) := hi
  have HB0 : Hid (∀ o, Below w.heap.size w (w.alloc o)) := fun o => (Below.refl _ _).alloc (Nat.le_refl _) o
  have hkl : (k : Int) < 3 := by have := (List.getElem?_eq_some_iff.1 hp).1; omega
  have HLL : Hid (L.length ≤ 3) := hl
  have hkN : (k : Int) < L.length := by have := (List.getElem?_eq_some_iff.1 hp).1; omega
  clear h hp hi hle h64 hl
  rcases hk with rfl | rfl | rfl
  · have h1' : n ≤ p.h.a := by simpa [T.g] using h1
    clear h1
    go_enter Try.func69, Try.ntmps69
    go_wp2_with fail
    refine (rat_ok (HR.out.below (HB0.out _)) HLL.out env).mono ?_
    rintro e w1 ⟨rfl, hb1⟩
    rw [HI.out]
    have hx1 := bkb (hlx w _) hb1
    have x0 : w1.cell? ⟨w.heap.size, 0, none⟩ = some (i64 1) := bkc hx1 0
    have x1 : w1.cell? ⟨w.heap.size, 1, none⟩ = some (i64 n) := bkc hx1 1
    have hb1' : Below w.heap.size w w1 := (HB0.out _).trans (hb1.mono (by simp))
    obtain ⟨ao, cap, hbk, _, hrow⟩ := (HR.out.below hb1').row
    obtain ⟨g, hao, hbg, hgl, hgr, hfz, hc⟩ := hrow k p HP.out
    have HAO : Hid (ao = some ⟨g, 0, none⟩) := hao
    have HBK : Hid (w1.heap[r]? = some (.cells #[i64 t.a, i64 t.b, i64 t.c, .slice ao L.length cap] 126)) := hbk
    have d3 : w1.cell? ⟨r, 3, none⟩ = some (.slice (some ⟨g, 0, none⟩) L.length cap) := by rw [← hao]; exact bkc hbk 3
    have q0 : w1.cell? ⟨g, k * 7 + 1, none⟩ = some (i64 p.q.a) := hc 1 (by omega)
    have q1 : w1.cell? ⟨g, k * 7 + 4, none⟩ = some (i64 p.h.a) := hc 4 (by omega)
    have q2 : w1.cell? ⟨g, k * 7 + 4 + 0, none⟩ = some (i64 p.h.a) := hc 4 (by omega)
    have q3 : w1.cell? ⟨g, k * 7 + 1 + 0, none⟩ = some (i64 p.q.a) := hc 1 (by omega)
    have HB1 : Hid (Below w.heap.size w w1) := hb1'
    clear hb1 hb1' hx1 hrow hc hbk hao
    go_wp2_with fail
    go_ret
    exact ⟨rfl, HR.out.set HB1.out HP.out HBK.out HAO.out 4 (by omega) (p.h.a - n) ⟨p.env, p.q, p.h.put 1 (p.h.g 1 - n)⟩ rfl⟩
  · have h1' : n ≤ p.h.b := by simpa [T.g] using h1
    clear h1
    go_enter Try.func69, Try.ntmps69
    go_wp2_with fail
    refine (rat_ok (HR.out.below (HB0.out _)) HLL.out env).mono ?_
    rintro e w1 ⟨rfl, hb1⟩
    rw [HI.out]
    have hx1 := bkb (hlx w _) hb1
    have x0 : w1.cell? ⟨w.heap.size, 0, none⟩ = some (i64 2) := bkc hx1 0
    have x1 : w1.cell? ⟨w.heap.size, 1, none⟩ = some (i64 n) := bkc hx1 1
    have hb1' : Below w.heap.size w w1 := (HB0.out _).trans (hb1.mono (by simp))
    obtain ⟨ao, cap, hbk, _, hrow⟩ := (HR.out.below hb1').row
    obtain ⟨g, hao, hbg, hgl, hgr, hfz, hc⟩ := hrow k p HP.out
    have HAO : Hid (ao = some ⟨g, 0, none⟩) := hao
    have HBK : Hid (w1.heap[r]? = some (.cells #[i64 t.a, i64 t.b, i64 t.c, .slice ao L.length cap] 126)) := hbk
    have d3 : w1.cell? ⟨r, 3, none⟩ = some (.slice (some ⟨g, 0, none⟩) L.length cap) := by rw [← hao]; exact bkc hbk 3
    have q0 : w1.cell? ⟨g, k * 7 + 2, none⟩ = some (i64 p.q.b) := hc 2 (by omega)
    have q1 : w1.cell? ⟨g, k * 7 + 5, none⟩ = some (i64 p.h.b) := hc 5 (by omega)
    have q2 : w1.cell? ⟨g, k * 7 + 4 + 1, none⟩ = some (i64 p.h.b) := hc 5 (by omega)
    have q3 : w1.cell? ⟨g, k * 7 + 1 + 1, none⟩ = some (i64 p.q.b) := hc 2 (by omega)
    have HB1 : Hid (Below w.heap.size w w1) := hb1'
    clear hb1 hb1' hx1 hrow hc hbk hao
    go_wp2_with fail
    go_ret
    exact ⟨rfl, HR.out.set HB1.out HP.out HBK.out HAO.out 5 (by omega) (p.h.b - n) ⟨p.env, p.q, p.h.put 2 (p.h.g 2 - n)⟩ rfl⟩
  · have h1' : n ≤ p.h.c := by simpa [T.g] using h1
    clear h1
    go_enter Try.func69, Try.ntmps69
    go_wp2_with fail
    refine (rat_ok (HR.out.below (HB0.out _)) HLL.out env).mono ?_
    rintro e w1 ⟨rfl, hb1⟩
    rw [HI.out]
    have hx1 := bkb (hlx w _) hb1
    have x0 : w1.cell? ⟨w.heap.size, 0, none⟩ = some (i64 3) := bkc hx1 0
    have x1 : w1.cell? ⟨w.heap.size, 1, none⟩ = some (i64 n) := bkc hx1 1
    have hb1' : Below w.heap.size w w1 := (HB0.out _).trans (hb1.mono (by simp))
    obtain ⟨ao, cap, hbk, _, hrow⟩ := (HR.out.below hb1').row
    obtain ⟨g, hao, hbg, hgl, hgr, hfz, hc⟩ := hrow k p HP.out
    have HAO : Hid (ao = some ⟨g, 0, none⟩) := hao
    have HBK : Hid (w1.heap[r]? = some (.cells #[i64 t.a, i64 t.b, i64 t.c, .slice ao L.length cap] 126)) := hbk
    have d3 : w1.cell? ⟨r, 3, none⟩ = some (.slice (some ⟨g, 0, none⟩) L.length cap) := by rw [← hao]; exact bkc hbk 3
    have q0 : w1.cell? ⟨g, k * 7 + 3, none⟩ = some (i64 p.q.c) := hc 3 (by omega)
    have q1 : w1.cell? ⟨g, k * 7 + 6, none⟩ = some (i64 p.h.c) := hc 6 (by omega)
    have q2 : w1.cell? ⟨g, k * 7 + 4 + 2, none⟩ = some (i64 p.h.c) := hc 6 (by omega)
    have q3 : w1.cell? ⟨g, k * 7 + 1 + 2, none⟩ = some (i64 p.q.c) := hc 3 (by omega)
    have HB1 : Hid (Below w.heap.size w w1) := hb1'
    clear hb1 hb1' hx1 hrow hc hbk hao
    go_wp2_with fail
    go_ret
    exact ⟨rfl, HR.out.set HB1.out HP.out HBK.out HAO.out 6 (by omega) (p.h.c - n) ⟨p.env, p.q, p.h.put 3 (p.h.g 3 - n)⟩ rfl⟩
set_option maxHeartbeats 1000000 in
theorem rgive_more {w : World} {base r : Nat} {t : T} {L : List Pr} (h : Rb w base r t L) (hl : L.length ≤ 3) (env kind n : Int) (k : Nat) (p : Pr) (hp : L[k]? = some p) (hi : idx L env = k) (hle : Le p.h p.q) (h64 : Le p.q ⟨64, 64, 64⟩) (hk : kind = 1 ∨ kind = 2 ∨ kind = 3) (h0 : 0 ≤ n) (h1 : p.h.g kind < n) :
    Calls Try.prog 69 #[.pointer (some ⟨r, 0, none⟩), i64 env, .agg #[i64 kind, i64 n], .bool true] w fun e w' => e = .returned (i64 1) ∧ Below w.heap.size w w' := by
  have a0 := hle.a0; have a1 := hle.a1; have b0 := hle.b0; have b1 := hle.b1; have c0 := hle.c0; have c1 := hle.c1
  have a2 := h64.a1; have b2 := h64.b1; have c2 := h64.c1
  simp only at a2 b2 c2
  have HR : Hid (Rb w base r t L) := h
  have HP : Hid (L[k]? = some p) := hp
  have HI : Hid (idx L env = k) := hi
  have HB0 : Hid (∀ o, Below w.heap.size w (w.alloc o)) := fun o => (Below.refl _ _).alloc (Nat.le_refl _) o
  have hkl : (k : Int) < 3 := by have := (List.getElem?_eq_some_iff.1 hp).1; omega
  have HLL : Hid (L.length ≤ 3) := hl
  have hkN : (k : Int) < L.length := by have := (List.getElem?_eq_some_iff.1 hp).1; omega
  clear h hp hi hle h64 hl
  rcases hk with rfl | rfl | rfl
  · have h1' : p.h.a < n := by simpa [T.g] using h1
    clear h1
    go_enter Try.func69, Try.ntmps69
    go_wp2_with fail
    refine (rat_ok (HR.out.below (HB0.out _)) HLL.out env).mono ?_
    rintro e w1 ⟨rfl, hb1⟩
    rw [HI.out]
    have hx1 := bkb (hlx w _) hb1
    have x0 : w1.cell? ⟨w.heap.size, 0, none⟩ = some (i64 1) := bkc hx1 0
    have x1 : w1.cell? ⟨w.heap.size, 1, none⟩ = some (i64 n) := bkc hx1 1
    have hb1' : Below w.heap.size w w1 := (HB0.out _).trans (hb1.mono (by simp))
    obtain ⟨ao, cap, hbk, _, hrow⟩ := (HR.out.below hb1').row
    obtain ⟨g, hao, hbg, hgl, hgr, hfz, hc⟩ := hrow k p HP.out
    have HAO : Hid (ao = some ⟨g, 0, none⟩) := hao
    have HBK : Hid (w1.heap[r]? = some (.cells #[i64 t.a, i64 t.b, i64 t.c, .slice ao L.length cap] 126)) := hbk
    have d3 : w1.cell? ⟨r, 3, none⟩ = some (.slice (some ⟨g, 0, none⟩) L.length cap) := by rw [← hao]; exact bkc hbk 3
    have q0 : w1.cell? ⟨g, k * 7 + 1, none⟩ = some (i64 p.q.a) := hc 1 (by omega)
    have q1 : w1.cell? ⟨g, k * 7 + 4, none⟩ = some (i64 p.h.a) := hc 4 (by omega)
    have q2 : w1.cell? ⟨g, k * 7 + 4 + 0, none⟩ = some (i64 p.h.a) := hc 4 (by omega)
    have q3 : w1.cell? ⟨g, k * 7 + 1 + 0, none⟩ = some (i64 p.q.a) := hc 1 (by omega)
    have HB1 : Hid (Below w.heap.size w w1) := hb1'
    clear hb1 hb1' hx1 hrow hc hbk hao
    go_wp2_with fail
    go_ret
    exact ⟨rfl, HB1.out⟩
  · have h1' : p.h.b < n := by simpa [T.g] using h1
    clear h1
    go_enter Try.func69, Try.ntmps69
    go_wp2_with fail
    refine (rat_ok (HR.out.below (HB0.out _)) HLL.out env).mono ?_
    rintro e w1 ⟨rfl, hb1⟩
    rw [HI.out]
    have hx1 := bkb (hlx w _) hb1
    have x0 : w1.cell? ⟨w.heap.size, 0, none⟩ = some (i64 2) := bkc hx1 0
    have x1 : w1.cell? ⟨w.heap.size, 1, none⟩ = some (i64 n) := bkc hx1 1
    have hb1' : Below w.heap.size w w1 := (HB0.out _).trans (hb1.mono (by simp))
    obtain ⟨ao, cap, hbk, _, hrow⟩ := (HR.out.below hb1').row
    obtain ⟨g, hao, hbg, hgl, hgr, hfz, hc⟩ := hrow k p HP.out
    have HAO : Hid (ao = some ⟨g, 0, none⟩) := hao
    have HBK : Hid (w1.heap[r]? = some (.cells #[i64 t.a, i64 t.b, i64 t.c, .slice ao L.length cap] 126)) := hbk
    have d3 : w1.cell? ⟨r, 3, none⟩ = some (.slice (some ⟨g, 0, none⟩) L.length cap) := by rw [← hao]; exact bkc hbk 3
    have q0 : w1.cell? ⟨g, k * 7 + 2, none⟩ = some (i64 p.q.b) := hc 2 (by omega)
    have q1 : w1.cell? ⟨g, k * 7 + 5, none⟩ = some (i64 p.h.b) := hc 5 (by omega)
    have q2 : w1.cell? ⟨g, k * 7 + 4 + 1, none⟩ = some (i64 p.h.b) := hc 5 (by omega)
    have q3 : w1.cell? ⟨g, k * 7 + 1 + 1, none⟩ = some (i64 p.q.b) := hc 2 (by omega)
    have HB1 : Hid (Below w.heap.size w w1) := hb1'
    clear hb1 hb1' hx1 hrow hc hbk hao
    go_wp2_with fail
    go_ret
    exact ⟨rfl, HB1.out⟩
  · have h1' : p.h.c < n := by simpa [T.g] using h1
    clear h1
    go_enter Try.func69, Try.ntmps69
    go_wp2_with fail
    refine (rat_ok (HR.out.below (HB0.out _)) HLL.out env).mono ?_
    rintro e w1 ⟨rfl, hb1⟩
    rw [HI.out]
    have hx1 := bkb (hlx w _) hb1
    have x0 : w1.cell? ⟨w.heap.size, 0, none⟩ = some (i64 3) := bkc hx1 0
    have x1 : w1.cell? ⟨w.heap.size, 1, none⟩ = some (i64 n) := bkc hx1 1
    have hb1' : Below w.heap.size w w1 := (HB0.out _).trans (hb1.mono (by simp))
    obtain ⟨ao, cap, hbk, _, hrow⟩ := (HR.out.below hb1').row
    obtain ⟨g, hao, hbg, hgl, hgr, hfz, hc⟩ := hrow k p HP.out
    have HAO : Hid (ao = some ⟨g, 0, none⟩) := hao
    have HBK : Hid (w1.heap[r]? = some (.cells #[i64 t.a, i64 t.b, i64 t.c, .slice ao L.length cap] 126)) := hbk
    have d3 : w1.cell? ⟨r, 3, none⟩ = some (.slice (some ⟨g, 0, none⟩) L.length cap) := by rw [← hao]; exact bkc hbk 3
    have q0 : w1.cell? ⟨g, k * 7 + 3, none⟩ = some (i64 p.q.c) := hc 3 (by omega)
    have q1 : w1.cell? ⟨g, k * 7 + 6, none⟩ = some (i64 p.h.c) := hc 6 (by omega)
    have q2 : w1.cell? ⟨g, k * 7 + 4 + 2, none⟩ = some (i64 p.h.c) := hc 6 (by omega)
    have q3 : w1.cell? ⟨g, k * 7 + 1 + 2, none⟩ = some (i64 p.q.c) := hc 3 (by omega)
    have HB1 : Hid (Below w.heap.size w w1) := hb1'
    clear hb1 hb1' hx1 hrow hc hbk hao
    go_wp2_with fail
    go_ret
    exact ⟨rfl, HB1.out⟩
theorem rtake_none {w : World} {base r : Nat} {t : T} {L : List Pr} (h : Rb w base r t L) (hl : L.length ≤ 3) (env kind n : Int) (b : Bool) (hi : idx L env = -1) :
    Calls Try.prog 69 #[.pointer (some ⟨r, 0, none⟩), i64 env, .agg #[i64 kind, i64 n], .bool b] w fun e w' => e = .returned (i64 6) ∧ Below w.heap.size w w' := by
  have HR : Hid (Rb w base r t L) := h
  have HI : Hid (idx L env = -1) := hi
  have HB0 : Hid (∀ o, Below w.heap.size w (w.alloc o)) := fun o => (Below.refl _ _).alloc (Nat.le_refl _) o
  have HLL : Hid (L.length ≤ 3) := hl
  clear h hi hl
  go_enter Try.func69, Try.ntmps69
  go_wp2_with fail
  refine (rat_ok (HR.out.below (HB0.out _)) HLL.out env).mono ?_
  rintro e w1 ⟨rfl, hb1⟩
  rw [HI.out]
  have HB1 : Hid (Below w.heap.size w w1) := (HB0.out _).trans (hb1.mono (by simp))
  clear hb1
  go_wp2_with fail
  go_ret
  exact ⟨rfl, HB1.out⟩
theorem rtake_wrong {w : World} {base r : Nat} {t : T} {L : List Pr} (h : Rb w base r t L) (hl : L.length ≤ 3) (env kind n : Int) (b : Bool) (k : Nat) (hi : idx L env = k) (hw : wrongB kind n = true) :
    Calls Try.prog 69 #[.pointer (some ⟨r, 0, none⟩), i64 env, .agg #[i64 kind, i64 n], .bool b] w fun e w' => e = .returned (i64 1) ∧ Below w.heap.size w w' := by
  have HR : Hid (Rb w base r t L) := h
  have HI : Hid (idx L env = k) := hi
  have HB0 : Hid (∀ o, Below w.heap.size w (w.alloc o)) := fun o => (Below.refl _ _).alloc (Nat.le_refl _) o
  have HLL : Hid (L.length ≤ 3) := hl
  have hw' : kind < 1 ∨ (¬ kind < 1 ∧ 3 < kind) ∨ (¬ kind < 1 ∧ ¬ 3 < kind ∧ n < 0) := by unfold wrongB at hw; simp at hw; omega
  clear h hi hl hw
  rcases hw' with h1 | ⟨h1, h2⟩ | ⟨h1, h2, h3⟩
  all_goals
    go_enter Try.func69, Try.ntmps69
    go_wp2_with fail
    refine (rat_ok (HR.out.below (HB0.out _)) HLL.out env).mono ?_
    rintro e w1 ⟨rfl, hb1⟩
    rw [HI.out]
    have hx1 := bkb (hlx w _) hb1
    have x0 : w1.cell? ⟨w.heap.size, 0, none⟩ = some (i64 kind) := bkc hx1 0
    have x1 : w1.cell? ⟨w.heap.size, 1, none⟩ = some (i64 n) := bkc hx1 1
    have HB1 : Hid (Below w.heap.size w w1) := (HB0.out _).trans (hb1.mono (by simp))
    clear hb1 hx1
    go_wp2_with fail
    go_ret
    exact ⟨rfl, HB1.out⟩
end Go.Proofs.Ytnknhencobhjdaa.Qt
namespace Go.Proofs.Ytnknhencobhjdaa.Qt
open Go.ChangeShapes Go.WideShapes Go.ChangeAt Go.RowKit Go.Deep
attribute [local go_sem ↓] Go.wp_at_zero Go.wp_at_succ
structure Lf (w wr : World) (t : T) : Prop where
  bel : Below w.heap.size w wr
  res : wr.heap[w.heap.size]? = some (triO zT)
  num : wr.heap[w.heap.size + 1]? = some (triO t)
theorem Lf.set {w wr : World} {t t' : T} (h : Lf w wr t) (j : Nat) (v : Int) (he : (#[i64 t.a, i64 t.b, i64 t.c] : Array Value).setIfInBounds j (i64 v) = #[i64 t'.a, i64 t'.b, i64 t'.c]) : Lf w (wr.setCell ⟨w.heap.size + 1, j, none⟩ (i64 v)) t' :=
  ⟨h.bel.setCell (by simp) _, by rw [heap_setCell_other wr _ _ _ (by simp)]; exact h.res, by rw [heap_setCell_same wr _ j _ 22 _ h.num, he]⟩
theorem Lf.drew {w wr : World} {t : T} (h : Lf w wr t) : Lf w wr.drew t := ⟨Below.drew h.bel, h.res, h.num⟩
theorem Lf.alloc {w wr : World} {t : T} (h : Lf w wr t) (o : Obj) : Lf w (wr.alloc o) t :=
  ⟨h.bel.alloc h.bel.size o, bka h.res o, bka h.num o⟩
def mixz (j : Nat) (q h : T) : T := ⟨if 0 < j then q.a - h.a else 0, if 1 < j then q.b - h.b else 0, if 2 < j then q.c - h.c else 0⟩
set_option maxHeartbeats 4000000 in
theorem rleft_ok {w : World} {base r : Nat} {t : T} {L : List Pr} (h : Rb w base r t L) (hl : L.length ≤ 3) (k : Nat) (p : Pr) (hp : L[k]? = some p) (hle : Le p.h p.q) (h64 : Le p.q ⟨64, 64, 64⟩) :
    Calls Try.prog 47 #[.pointer (some ⟨r, 0, none⟩), i64 k] w fun e w' => e = .returned (sub p.q p.h).v ∧ Below w.heap.size w w' := by
  have a0 := hle.a0; have a1 := hle.a1; have b0 := hle.b0; have b1 := hle.b1; have c0 := hle.c0; have c1 := hle.c1
  have a2 := h64.a1; have b2 := h64.b1; have c2 := h64.c1
  simp only at a2 b2 c2
  obtain ⟨ao, cap, hbk, _, hrow⟩ := h.row
  obtain ⟨g, rfl, hbg, hgl, hgr, hfz, hc⟩ := hrow k p hp
  have hrl := h.lt
  have hkl : (k : Int) < 3 := by have := (List.getElem?_eq_some_iff.1 hp).1; omega
  have hkN : (k : Int) < L.length := by have := (List.getElem?_eq_some_iff.1 hp).1; omega
  obtain ⟨N, hN⟩ : ∃ N, N = L.length := ⟨_, rfl⟩
  rw [← hN] at hbk hkN
  have e3 : w.cell? ⟨r, 3, none⟩ = some (.slice (some ⟨g, 0, none⟩) N cap) := bkc hbk 3
  have HC : Hid (∀ U, Below w.heap.size w U → U.cell? ⟨r, 3, none⟩ = some (.slice (some ⟨g, 0, none⟩) N cap) ∧ ∀ j, j < 7 → U.cell? ⟨g, k * 7 + j, none⟩ = p.c[j]?) := fun U hU => ⟨by rw [hU.cell (by exact hrl)]; exact e3, fun j hj => by rw [hU.cell (by exact hgl)]; exact hc j hj⟩
  have HL0 : Hid (Lf w ((w.alloc (triO zT)).alloc (triO zT)) zT) := ⟨((Below.refl _ _).alloc (Nat.le_refl _) _).alloc (by simp) _, bka (hlx w _) _, heap_last2 w _ _⟩
  clear h hbk hrow hp hle h64 hc hN hfz e3
  go_enter Try.func47, Try.ntmps47
  go_wp2_with fail
  go_loopw [6] (fun i wr => ∃ j : Nat, j ≤ 3 ∧ i = i64 j ∧ Lf w wr (mixz j p.q p.h)) (fun i _ => 3 - (intOf i).toNat)
  case atStart => exact ⟨0, by omega, rfl, HL0.out⟩
  case round =>
    obtain ⟨j, hj, rfl, hm⟩ := hrel
    have HM : Hid (Lf w wr (mixz j p.q p.h)) := hm
    obtain ⟨y3, hy⟩ := HC.out wr hm.bel
    have hnum := hm.num
    have hres := hm.res
    have hzl := blk_lt hnum
    have hfz : ∀ o, wr.frozen? ⟨w.heap.size + 1, o, none⟩ = false := bkf hnum
    have hcl : ∀ o, wr.cell? ⟨w.heap.size + 1, o, none⟩ = (#[i64 (mixz j p.q p.h).a, i64 (mixz j p.q p.h).b, i64 (mixz j p.q p.h).c] : Array Value)[o]? := bkc hnum
    have hne : r ≠ w.heap.size + 1 := by omega
    have hng : g ≠ w.heap.size + 1 := by omega
    obtain rfl | rfl | rfl | rfl : j = 0 ∨ j = 1 ∨ j = 2 ∨ j = 3 := by omega
    · have d0 : wr.cell? ⟨w.heap.size + 1, 0, none⟩ = some (i64 0) := hcl 0
      have z1 : wr.cell? ⟨g, k * 7 + 1 + 0, none⟩ = some (i64 p.q.a) := hy 1 (by omega)
      have z2 : wr.cell? ⟨g, k * 7 + 4 + 0, none⟩ = some (i64 p.h.a) := hy 4 (by omega)
      have z3 : wr.cell? ⟨g, k * 7 + 1, none⟩ = some (i64 p.q.a) := hy 1 (by omega)
      have z4 : wr.cell? ⟨g, k * 7 + 4, none⟩ = some (i64 p.h.a) := hy 4 (by omega)
      have HUP : Hid (∀ U : World, Below w.heap.size w U → (U.cell? ⟨r, 3, none⟩ = some (.slice (some ⟨g, 0, none⟩) N cap) ∧ U.cell? ⟨g, k * 7 + 1 + 0, none⟩ = some (i64 p.q.a) ∧ U.cell? ⟨g, k * 7 + 4 + 0, none⟩ = some (i64 p.h.a) ∧ U.cell? ⟨g, k * 7 + 1, none⟩ = some (i64 p.q.a) ∧ U.cell? ⟨g, k * 7 + 4, none⟩ = some (i64 p.h.a))) := fun U hU => ⟨(HC.out U hU).1, (HC.out U hU).2 1 (by omega), (HC.out U hU).2 4 (by omega), (HC.out U hU).2 1 (by omega), (HC.out U hU).2 4 (by omega)⟩
      clear hcl hy hm hnum hres
      go_wp2_with fail
      go_region_held3 (fun U => U.cell? ⟨r, 3, none⟩ = some (.slice (some ⟨g, 0, none⟩) N cap) ∧ U.cell? ⟨g, k * 7 + 1 + 0, none⟩ = some (i64 p.q.a) ∧ U.cell? ⟨g, k * 7 + 4 + 0, none⟩ = some (i64 p.h.a) ∧ U.cell? ⟨g, k * 7 + 1, none⟩ = some (i64 p.q.a) ∧ U.cell? ⟨g, k * 7 + 4, none⟩ = some (i64 p.h.a)) (first | exact HUP.out _ (Below.drew HM.out.bel) | exact HUP.out _ (Below.drew (HM.out.bel.setCell (by simp) _)) | exact HUP.out _ ((Below.drew HM.out.bel).setCell (by simp) _)) (fail)
      all_goals go_wp2_with fail
      exact ⟨⟨1, by omega, by go_num, (HM.out.set 0 (p.q.a - p.h.a) rfl).drew⟩, by simp [intOf]⟩
    · have d0 : wr.cell? ⟨w.heap.size + 1, 1, none⟩ = some (i64 0) := hcl 1
      have z1 : wr.cell? ⟨g, k * 7 + 1 + 1, none⟩ = some (i64 p.q.b) := hy 2 (by omega)
      have z2 : wr.cell? ⟨g, k * 7 + 4 + 1, none⟩ = some (i64 p.h.b) := hy 5 (by omega)
      have z3 : wr.cell? ⟨g, k * 7 + 2, none⟩ = some (i64 p.q.b) := hy 2 (by omega)
      have z4 : wr.cell? ⟨g, k * 7 + 5, none⟩ = some (i64 p.h.b) := hy 5 (by omega)
      have HUP : Hid (∀ U : World, Below w.heap.size w U → (U.cell? ⟨r, 3, none⟩ = some (.slice (some ⟨g, 0, none⟩) N cap) ∧ U.cell? ⟨g, k * 7 + 1 + 1, none⟩ = some (i64 p.q.b) ∧ U.cell? ⟨g, k * 7 + 4 + 1, none⟩ = some (i64 p.h.b) ∧ U.cell? ⟨g, k * 7 + 2, none⟩ = some (i64 p.q.b) ∧ U.cell? ⟨g, k * 7 + 5, none⟩ = some (i64 p.h.b))) := fun U hU => ⟨(HC.out U hU).1, (HC.out U hU).2 2 (by omega), (HC.out U hU).2 5 (by omega), (HC.out U hU).2 2 (by omega), (HC.out U hU).2 5 (by omega)⟩
      clear hcl hy hm hnum hres
      go_wp2_with fail
      go_region_held3 (fun U => U.cell? ⟨r, 3, none⟩ = some (.slice (some ⟨g, 0, none⟩) N cap) ∧ U.cell? ⟨g, k * 7 + 1 + 1, none⟩ = some (i64 p.q.b) ∧ U.cell? ⟨g, k * 7 + 4 + 1, none⟩ = some (i64 p.h.b) ∧ U.cell? ⟨g, k * 7 + 2, none⟩ = some (i64 p.q.b) ∧ U.cell? ⟨g, k * 7 + 5, none⟩ = some (i64 p.h.b)) (first | exact HUP.out _ (Below.drew HM.out.bel) | exact HUP.out _ (Below.drew (HM.out.bel.setCell (by simp) _)) | exact HUP.out _ ((Below.drew HM.out.bel).setCell (by simp) _)) (fail)
      all_goals go_wp2_with fail
      exact ⟨⟨2, by omega, by go_num, (HM.out.set 1 (p.q.b - p.h.b) rfl).drew⟩, by simp [intOf]⟩
    · have d0 : wr.cell? ⟨w.heap.size + 1, 2, none⟩ = some (i64 0) := hcl 2
      have z1 : wr.cell? ⟨g, k * 7 + 1 + 2, none⟩ = some (i64 p.q.c) := hy 3 (by omega)
      have z2 : wr.cell? ⟨g, k * 7 + 4 + 2, none⟩ = some (i64 p.h.c) := hy 6 (by omega)
      have z3 : wr.cell? ⟨g, k * 7 + 3, none⟩ = some (i64 p.q.c) := hy 3 (by omega)
      have z4 : wr.cell? ⟨g, k * 7 + 6, none⟩ = some (i64 p.h.c) := hy 6 (by omega)
      have HUP : Hid (∀ U : World, Below w.heap.size w U → (U.cell? ⟨r, 3, none⟩ = some (.slice (some ⟨g, 0, none⟩) N cap) ∧ U.cell? ⟨g, k * 7 + 1 + 2, none⟩ = some (i64 p.q.c) ∧ U.cell? ⟨g, k * 7 + 4 + 2, none⟩ = some (i64 p.h.c) ∧ U.cell? ⟨g, k * 7 + 3, none⟩ = some (i64 p.q.c) ∧ U.cell? ⟨g, k * 7 + 6, none⟩ = some (i64 p.h.c))) := fun U hU => ⟨(HC.out U hU).1, (HC.out U hU).2 3 (by omega), (HC.out U hU).2 6 (by omega), (HC.out U hU).2 3 (by omega), (HC.out U hU).2 6 (by omega)⟩
      clear hcl hy hm hnum hres
      go_wp2_with fail
      go_region_held3 (fun U => U.cell? ⟨r, 3, none⟩ = some (.slice (some ⟨g, 0, none⟩) N cap) ∧ U.cell? ⟨g, k * 7 + 1 + 2, none⟩ = some (i64 p.q.c) ∧ U.cell? ⟨g, k * 7 + 4 + 2, none⟩ = some (i64 p.h.c) ∧ U.cell? ⟨g, k * 7 + 3, none⟩ = some (i64 p.q.c) ∧ U.cell? ⟨g, k * 7 + 6, none⟩ = some (i64 p.h.c)) (first | exact HUP.out _ (Below.drew HM.out.bel) | exact HUP.out _ (Below.drew (HM.out.bel.setCell (by simp) _)) | exact HUP.out _ ((Below.drew HM.out.bel).setCell (by simp) _)) (fail)
      all_goals go_wp2_with fail
      exact ⟨⟨3, by omega, by go_num, (HM.out.set 2 (p.q.c - p.h.c) rfl).drew⟩, by simp [intOf]⟩
    · have HS : Hid (Lf w wr (sub p.q p.h)) := HM.out
      have d0 : wr.cell? ⟨w.heap.size + 1, 0, none⟩ = some (i64 (sub p.q p.h).a) := hcl 0
      have d1 : wr.cell? ⟨w.heap.size + 1, 1, none⟩ = some (i64 (sub p.q p.h).b) := hcl 1
      have d2 : wr.cell? ⟨w.heap.size + 1, 2, none⟩ = some (i64 (sub p.q p.h).c) := hcl 2
      have e0 : wr.cell? ⟨w.heap.size, 0, none⟩ = some (i64 0) := bkc hres 0
      have e1 : wr.cell? ⟨w.heap.size, 1, none⟩ = some (i64 0) := bkc hres 1
      have e2 : wr.cell? ⟨w.heap.size, 2, none⟩ = some (i64 0) := bkc hres 2
      have rf : ∀ o, wr.frozen? ⟨w.heap.size, o, none⟩ = false := bkf hres
      generalize hSE : sub p.q p.h = S at *
      have HSE : Hid (sub p.q p.h = S) := hSE
      clear hSE
      clear hcl hy hm hnum hres
      go_wp2_with fail
      refine bodyPost_ret (v := S.v) (by simp [results, Try.results47, go_sem, e0, e1, e2]) rfl ⟨by rw [HSE.out], ?_⟩
      exact ((((HS.out.bel).setCell (Nat.le_refl _) _).setCell (Nat.le_refl _) _).setCell (Nat.le_refl _) _)
end Go.Proofs.Ytnknhencobhjdaa.Qt
namespace Go.Proofs.Ytnknhencobhjdaa.Qt
open Go.ChangeShapes Go.WideShapes Go.ChangeAt Go.RowKit Go.Deep
abbrev prO (p : Pr) : Obj := .cells #[i64 p.env, i64 p.q.a, i64 p.q.b, i64 p.q.c, i64 p.h.a, i64 p.h.b, i64 p.h.c] 128
set_option maxHeartbeats 4000000 in
theorem rfree_ok {w : World} {base r : Nat} {t : T} {L : List Pr} (h : Rb w base r t L) (hl : L.length ≤ 3) (ht : Small 64 t) (hs : ∀ u ∈ L.map Pr.h, Small 64 u) :
    Calls Try.prog 41 #[.pointer (some ⟨r, 0, none⟩)] w fun e w' => e = .returned (lessT t (L.map Pr.h)).v ∧ Below w.heap.size w w' := by
  have HT : Hid (∀ k, k ≤ (L.map Pr.h).length → Small (64 + 64 * k) (lessT t ((L.map Pr.h).take k))) := small_take ht hs
  have HU : Hid (∀ u ∈ L.map Pr.h, Small 64 u) := hs
  obtain ⟨ao, cap, hbk, _, _⟩ := h.row
  have hrl := h.lt
  have HR : Hid (Rb w base r t L) := h
  have HK : Hid (w.heap[r]? = some (.cells #[i64 t.a, i64 t.b, i64 t.c, .slice ao L.length cap] 126)) := hbk
  obtain ⟨N, hN⟩ : ∃ N, N = L.length := ⟨_, rfl⟩
  have HN : Hid (N = L.length) := hN
  have b0 : w.cell? ⟨r, 0, none⟩ = some (i64 t.a) := bkc hbk 0
  have b1 : w.cell? ⟨r, 1, none⟩ = some (i64 t.b) := bkc hbk 1
  have b2 : w.cell? ⟨r, 2, none⟩ = some (i64 t.c) := bkc hbk 2
  have b3 : w.cell? ⟨r, 3, none⟩ = some (.slice ao N cap) := by rw [hN]; exact bkc hbk 3
  have HL0 : Hid (Lf w ((w.alloc (triO zT)).alloc (triO t)) t) := ⟨((Below.refl _ _).alloc (Nat.le_refl _) _).alloc (by simp) _, bka (hlx w _) _, heap_last2 w _ _⟩
  rw [← hN] at hl
  clear h ht hs hbk hN
  go_enter Try.func41, Try.ntmps41
  go_wp2_with fail
  go_loopw [16] (fun i wr => ∃ k : Nat, k ≤ N ∧ i = i64 k ∧ Lf w wr (lessT t ((L.map Pr.h).take k))) (fun i _ => N - (intOf i).toNat)
  case atStart => exact ⟨0, by omega, rfl, HL0.out⟩
  case round =>
    obtain ⟨k, hk, rfl, hls⟩ := hrel
    by_cases hlt : k < N
    · have hlt2 : k < L.length := by rw [← HN.out]; exact hlt
      have hlt3 : k < (L.map Pr.h).length := by rw [List.length_map]; exact hlt2
      obtain ⟨p, hp⟩ : ∃ p, L[k]? = some p := ⟨_, List.getElem?_eq_getElem hlt2⟩
      have hpu : (L.map Pr.h)[k] = p.h := by
        rw [List.getElem?_eq_getElem hlt2] at hp
        cases hp
        simp
      obtain ⟨ao', cap', hbk', _, hrow⟩ := (HR.out.below hls.bel).row
      have hs := (bkb HK.out hls.bel).symm.trans hbk'
      simp only [Option.some.injEq, Obj.cells.injEq, Array.mk.injEq, List.cons.injEq, Value.slice.injEq, true_and, and_true] at hs
      obtain ⟨rfl, rfl⟩ := hs
      obtain ⟨g, rfl, hbg, hgl, _, _, hc⟩ := hrow k p hp
      have c0 : wr.cell? ⟨g, k * 7, none⟩ = some (i64 p.env) := hc 0 (by omega)
      have c1 : wr.cell? ⟨g, k * 7 + 1, none⟩ = some (i64 p.q.a) := hc 1 (by omega)
      have c2 : wr.cell? ⟨g, k * 7 + 2, none⟩ = some (i64 p.q.b) := hc 2 (by omega)
      have c3 : wr.cell? ⟨g, k * 7 + 3, none⟩ = some (i64 p.q.c) := hc 3 (by omega)
      have c4 : wr.cell? ⟨g, k * 7 + 4, none⟩ = some (i64 p.h.a) := hc 4 (by omega)
      have c5 : wr.cell? ⟨g, k * 7 + 5, none⟩ = some (i64 p.h.b) := hc 5 (by omega)
      have c6 : wr.cell? ⟨g, k * 7 + 6, none⟩ = some (i64 p.h.c) := hc 6 (by omega)
      have HX := HU.out _ (List.getElem_mem hlt3)
      have HY := HT.out k (by omega)
      have HF : Hid (lessT t ((L.map Pr.h).take (k + 1)) = sub (lessT t ((L.map Pr.h).take k)) p.h) := by
        have := lessT_next t (L.map Pr.h) k hlt3
        rw [hpu] at this
        exact this
      rw [hpu] at HX
      generalize lessT t ((L.map Pr.h).take k) = v at *
      unfold Small at HX HY
      obtain ⟨x1, x2, x3, x4, x5, x6⟩ := HX
      obtain ⟨y1, y2, y3, y4, y5, y6⟩ := HY
      have hk3 : (k : Int) ≤ 3 := by omega
      have HLS : Hid (Lf w wr v) := hls
      have hB : w.heap.size + 1 < wr.heap.size := blk_lt hls.num
      obtain ⟨B, hBB⟩ : ∃ B, B = wr.heap.size := ⟨_, rfl⟩
      have HBB : Hid (B = wr.heap.size) := hBB
      have HB0 : Hid ((wr.alloc (prO p)).heap[B]? = some (prO p)) := by rw [hBB]; exact hlx wr _
      have hB1 : w.heap.size + 1 < B := by rw [hBB]; exact hB
      clear hls hrow hc hp hpu hbk' hBB
      go_wp2_with fail
      rw [show wr.heap.size = B from HBB.out.symm]
      go_loopw [6] (fun i wq => ∃ j : Nat, j ≤ 3 ∧ i = i64 j ∧ Lf w wq (mix j v p.h) ∧ wq.heap[B]? = some (prO p)) (fun i _ => 3 - (intOf i).toNat)
      case atStart => exact ⟨0, by omega, rfl, HLS.out.alloc _, HB0.out⟩
      case round =>
        obtain ⟨j, hj, rfl, hm, hpb⟩ := hrel
        have HM : Hid (Lf w wr (mix j v p.h)) := hm
        have HPB : Hid (wr.heap[B]? = some (prO p)) := hpb
        have hnum := hm.num
        have hfz : ∀ o, wr.frozen? ⟨w.heap.size + 1, o, none⟩ = false := bkf hnum
        have hcl : ∀ o, wr.cell? ⟨w.heap.size + 1, o, none⟩ = (#[i64 (mix j v p.h).a, i64 (mix j v p.h).b, i64 (mix j v p.h).c] : Array Value)[o]? := bkc hnum
        have s4 : wr.cell? ⟨B, 4, none⟩ = some (i64 p.h.a) := bkc hpb 4
        have s5 : wr.cell? ⟨B, 5, none⟩ = some (i64 p.h.b) := bkc hpb 5
        have s6 : wr.cell? ⟨B, 6, none⟩ = some (i64 p.h.c) := bkc hpb 6
        have hBne : B ≠ w.heap.size + 1 := by omega
        clear hm hnum hpb
        obtain rfl | rfl | rfl | rfl : j = 0 ∨ j = 1 ∨ j = 2 ∨ j = 3 := by omega
        · have d0 : wr.cell? ⟨w.heap.size + 1, 0, none⟩ = some (i64 v.a) := hcl 0
          clear hcl
          go_wp2_with fail
          go_region
          all_goals go_wp2_with fail
          all_goals exact ⟨⟨1, by omega, by go_num, (HM.out.set 0 (v.a - p.h.a) rfl).drew, (by show (wr.setCell _ _).heap[B]? = _; rw [heap_setCell_other _ _ _ _ hBne]; exact HPB.out)⟩, by simp [intOf]⟩
        · have d0 : wr.cell? ⟨w.heap.size + 1, 1, none⟩ = some (i64 v.b) := hcl 1
          clear hcl
          go_wp2_with fail
          go_region
          all_goals go_wp2_with fail
          all_goals exact ⟨⟨2, by omega, by go_num, (HM.out.set 1 (v.b - p.h.b) rfl).drew, (by show (wr.setCell _ _).heap[B]? = _; rw [heap_setCell_other _ _ _ _ hBne]; exact HPB.out)⟩, by simp [intOf]⟩
        · have d0 : wr.cell? ⟨w.heap.size + 1, 2, none⟩ = some (i64 v.c) := hcl 2
          clear hcl
          go_wp2_with fail
          go_region
          all_goals go_wp2_with fail
          all_goals exact ⟨⟨3, by omega, by go_num, (HM.out.set 2 (v.c - p.h.c) rfl).drew, (by show (wr.setCell _ _).heap[B]? = _; rw [heap_setCell_other _ _ _ _ hBne]; exact HPB.out)⟩, by simp [intOf]⟩
        · have HS : Hid (Lf w wr (sub v p.h)) := HM.out
          clear hcl
          go_wp2_with fail
          exact ⟨⟨k + 1, by omega, by go_num, by rw [HF.out]; exact HS.out⟩, by simp [intOf]; omega⟩
    · have HE : Hid (Lf w wr (lessT t (L.map Pr.h))) := by
        have := hls
        rw [List.take_of_length_le (by rw [List.length_map]; have := HN.out; omega)] at this
        exact this
      clear hls
      generalize hv : lessT t (L.map Pr.h) = v at *
      have HV : Hid (lessT t (L.map Pr.h) = v) := hv
      clear hv
      have hnum := HE.out.num
      have hres := HE.out.res
      have d0 : wr.cell? ⟨w.heap.size + 1, 0, none⟩ = some (i64 v.a) := bkc hnum 0
      have d1 : wr.cell? ⟨w.heap.size + 1, 1, none⟩ = some (i64 v.b) := bkc hnum 1
      have d2 : wr.cell? ⟨w.heap.size + 1, 2, none⟩ = some (i64 v.c) := bkc hnum 2
      have e0 : wr.cell? ⟨w.heap.size, 0, none⟩ = some (i64 0) := bkc hres 0
      have e1 : wr.cell? ⟨w.heap.size, 1, none⟩ = some (i64 0) := bkc hres 1
      have e2 : wr.cell? ⟨w.heap.size, 2, none⟩ = some (i64 0) := bkc hres 2
      have hfz : ∀ o, wr.frozen? ⟨w.heap.size, o, none⟩ = false := bkf hres
      clear hnum hres
      go_wp2_with fail
      refine bodyPost_ret (v := v.v) (by simp [results, Try.results41, go_sem, e0, e1, e2]) rfl ⟨by rw [HV.out], ?_⟩
      exact ((((HE.out.bel).setCell (Nat.le_refl _) _).setCell (Nat.le_refl _) _).setCell (Nat.le_refl _) _)
end Go.Proofs.Ytnknhencobhjdaa.Qt
namespace Go.Proofs.Ytnknhencobhjdaa.Qt
open Go.ChangeShapes Go.WideShapes Go.ChangeAt Go.RowKit Go.Deep
theorem info42x : (Try.prog.info? 128).map (fun i => (i.zero, i.size, i.bytes)) = some (some (.agg #[i64 0, i64 0, i64 0, i64 0, i64 0, i64 0, i64 0]), 7, 56) := by kernel_rfl
theorem under31 : Try.prog.underlying 124 = some (.slice 128) := by kernel_rfl
theorem wpList_app_run {P : Program} {w : World} {ops : Array Oper} {rest : List Oper} {o : Oper} {a : Act} {Q : Exit → Act → World → Prop} (hgd : o.guard = none) (s x : Operand) (t : TypeId)
    (ho : o.op = .call { callee := .builtin .append, args := #[s, x], argTypes := #[t, t] }) (v1 v2 : Value) (hs : a.eval s = v1) (hx : a.eval x = v2) (ty : TypeId) (hty : o.type = ty) (r : Value) (w' : World)
    (hr : (Builtin.append_ #[t, t] ty #[v1, v2]).run P w = .ok r w') (h : wpList P ops Q rest (a.put o.dst r) w') : wpList P ops Q (o :: rest) a w :=
  wpList_plain hgd fun _ hK => by
    unfold Oper.wp execOp
    simp only [ho, resolve, invoke, builtin, Sem.run_bind, Sem.run_pure, Result.andThen_ok, List.map_toArray, List.map_cons, List.map_nil, hs, hx, hty, hr]
    exact hK _ _ h
theorem rapp {V : World} {base : Nat} {v : Value} {L1 : List Pr} (ho : V.ownsRow base 128 7 v L1.length (pcells L1)) (L2 : List Pr) (ad : Addr) (c : Nat) (hnews : ∀ j u, (pcells L2)[j]? = some u → V.cell? (ad.add j) = some u) (hl : L1.length + L2.length ≤ 4) (hB : base ≤ V.heap.size) :
    ∃ v' w', (Builtin.append_ #[124, 124] 124 #[v, .slice (some ad) L2.length c]).run Try.prog V = .ok v' w' ∧ w'.ownsRow base 128 7 v' (L1 ++ L2).length (pcells (L1 ++ L2)) ∧ Fr base [128] V w' ∧ (v.ownBlock = none → Below V.heap.size V w') := by
  obtain ⟨i, hi, hz, hs, hby⟩ := info_parts info42x
  obtain ⟨v', w', hr, h2, h3, _, _⟩ := run_append_own_at (P := Try.prog) V base 124 124 128 i (.agg #[i64 0, i64 0, i64 0, i64 0, i64 0, i64 0, i64 0]) 7 56 under31 hi hz hs hby rfl (by omega) v L1.length (pcells L1) ho ad L2.length c (pcells L2) (pcells_len L2) hnews (pcells_one L2) (by unfold maxLen; omega) (by omega) hB
  rw [← pcells_app, ← List.length_append] at h2
  refine ⟨v', w', hr, h2, ⟨⟨h3.os, h3.tape, h3.output, h3.size, fun k hk => h3.block k (by omega) (fun e => by have := (ho.lt k e.symm).1; omega)⟩, fun k o hk hko => ?_⟩, fun hn => ⟨h3.os, h3.tape, h3.output, h3.size, fun k hk => h3.block k hk (by rw [hn]; simp)⟩⟩
  rw [h3.block k (blk_lt hk) (fun e => ?_)]
  · exact hk
  · rcases ho.2 with ⟨rfl, _⟩ | ⟨g, cap, cur, rfl, _, hgg, _⟩
    · simp [Value.ownBlock] at e
    · simp [Value.ownBlock] at e
      subst e
      rw [hgg] at hk
      cases hk
      simp [keeps] at hko
theorem pcells_pre (L : List Pr) (k : Nat) : ∀ (j : Nat) u, (pcells (L.take k))[j]? = some u → (pcells L)[j]? = some u := fun j u hu => by
  have : pcells L = pcells (L.take k) ++ pcells (L.drop k) := by rw [← pcells_app, List.take_append_drop]
  rw [this, List.getElem?_append_left (List.getElem?_eq_some_iff.1 hu).1]
  exact hu
theorem pcells_suf (L : List Pr) (k : Nat) (hk : k ≤ L.length) : ∀ (j : Nat) u, (pcells (L.drop k))[j]? = some u → (pcells L)[k * 7 + j]? = some u := fun j u hu => by
  have : pcells L = pcells (L.take k) ++ pcells (L.drop k) := by rw [← pcells_app, List.take_append_drop]
  have hl : (pcells (L.take k)).length = k * 7 := by rw [pcells_len, List.length_take, Nat.min_eq_left hk]
  rw [this, List.getElem?_append_right (by omega), hl, Nat.add_sub_cancel_left]
  exact hu
theorem rclose_none {w : World} {base r : Nat} {t : T} {L : List Pr} (h : Rb w base r t L) (hl : L.length ≤ 3) (env : Int) (hi : idx L env = -1) :
    Calls Try.prog 67 #[.pointer (some ⟨r, 0, none⟩), i64 env] w fun e w' => e = .returned (i64 6) ∧ Below w.heap.size w w' := by
  have HR : Hid (Rb w base r t L) := h
  have HI : Hid (idx L env = -1) := hi
  have HLL : Hid (L.length ≤ 3) := hl
  clear h hi hl
  go_enter Try.func67, Try.ntmps67
  go_wp2_with fail
  refine (rat_ok HR.out HLL.out env).mono ?_
  rintro e w1 ⟨rfl, hb1⟩
  rw [HI.out]
  have HB1 : Hid (Below w.heap.size w w1) := hb1
  clear hb1
  go_wp2_with fail
  go_ret
  exact ⟨rfl, HB1.out⟩
set_option maxHeartbeats 2000000 in
theorem rclose_in {w : World} {base r : Nat} {t : T} {L : List Pr} (h : Rb w base r t L) (hl : L.length ≤ 3) (env : Int) (k : Nat) (p : Pr) (hp : L[k]? = some p) (hi : idx L env = k) :
    Calls Try.prog 67 #[.pointer (some ⟨r, 0, none⟩), i64 env] w fun e w' => e = .returned (i64 0) ∧ Rb w' base r t (L.take k ++ L.drop (k + 1)) ∧ Fr base [126, 128] w w' := by
  have HR : Hid (Rb w base r t L) := h
  have HP : Hid (L[k]? = some p) := hp
  have HI : Hid (idx L env = k) := hi
  have HLL : Hid (L.length ≤ 3) := hl
  have hkL : k < L.length := (List.getElem?_eq_some_iff.1 hp).1
  have hlo : base ≤ w.heap.size := by have := h.lt; have := h.lo; omega
  have hrl := h.lt
  clear h hi hp
  go_enter Try.func67, Try.ntmps67
  go_wp2_with fail
  refine (rat_ok HR.out HLL.out env).mono ?_
  rintro e w1 ⟨rfl, hb1⟩
  rw [HI.out]
  obtain ⟨ao, cap, hbk, hown, hrow⟩ := (HR.out.below hb1).row
  obtain ⟨g, rfl, hbg, hgl, hgr, _, _⟩ := hrow k p HP.out
  have hcap : L.length ≤ cap := by
    rcases hown.2 with ⟨h', _⟩ | ⟨g', cap', cur, h', _, _, hnc, _⟩
    · simp at h'
    · simp only [Value.slice.injEq] at h'
      rw [h'.2.2]; exact hnc
  have hs1 := hb1.size
  have hadd : ∀ o j, (⟨g, o, none⟩ : Addr).add j = ⟨g, o + j, none⟩ := fun o j => Addr.add_mid g o j
  have hcells : ∀ (j : Nat) u, (pcells L)[j]? = some u → w1.cell? ⟨g, j, none⟩ = some u := fun j u hu => by
    have := hown.cells (g := g) rfl j u hu
    rw [hadd, Nat.zero_add] at this
    exact this
  obtain ⟨v2, w2, hrun1, hown2, hfr2, hbel2⟩ := rapp (V := w1) (base := base) (v := .slice none 0 0) (L1 := []) (World.ownsRow_nil w1 base 128 7) (L.take k) ⟨g, 0, none⟩ cap (fun j u hu => by rw [hadd, Nat.zero_add]; exact hcells j u (pcells_pre L k j u hu)) (by simp; omega) (by omega)
  have hb2 := hbel2 rfl
  have hs2 := hb2.size
  have hlt : (L.take k).length = k := by rw [List.length_take]; omega
  have hld : (L.drop (k + 1)).length = L.length - (k + 1) := List.length_drop
  simp only [List.nil_append] at hown2
  obtain ⟨o2, c2, hsl⟩ : ∃ o2 c2, (cap = k + 1 ∧ o2 = 0 ∧ c2 = 0) ∨ (¬ cap = k + 1 ∧ o2 = (k + 1) * 7 ∧ c2 = cap - (k + 1)) := by
    by_cases hc : cap = k + 1
    · exact ⟨0, 0, Or.inl ⟨hc, rfl, rfl⟩⟩
    · exact ⟨_, _, Or.inr ⟨hc, rfl, rfl⟩⟩
  obtain ⟨v3, w3, hrun2, hown3, hfr3, _⟩ := rapp hown2 (L.drop (k + 1)) ⟨g, o2, none⟩ c2 (fun j u hu => by
    rcases hsl with ⟨hc, rfl, _⟩ | ⟨_, rfl, _⟩
    · rw [List.drop_eq_nil_of_le (by omega)] at hu
      simp [pcells] at hu
    · rw [hadd, hb2.cell (by exact hgl)]; exact hcells _ u (pcells_suf L (k + 1) (by omega) j u hu)) (by rw [hlt, hld]; omega) (by omega)
  obtain ⟨ao3, cap3, rfl, _⟩ := own_slice hown3
  rw [hlt] at hrun1
  rw [hld] at hrun2
  obtain ⟨M, hM⟩ : ∃ M, (L.take k ++ L.drop (k + 1)).length = M := ⟨_, rfl⟩
  rw [hM] at hrun2
  have hown4 : w3.ownsRow base 128 7 (.slice ao3 M cap3) (L.take k ++ L.drop (k + 1)).length (pcells (L.take k ++ L.drop (k + 1))) := by rw [← hM]; exact hown3
  have hbk3 : w3.heap[r]? = some (.cells #[i64 t.a, i64 t.b, i64 t.c, .slice (some ⟨g, 0, none⟩) L.length cap] 126) := hfr3.kept _ _ (bkb hbk hb2) (by rfl)
  have b1 : w1.cell? ⟨r, 3, none⟩ = some (.slice (some ⟨g, 0, none⟩) L.length cap) := bkc hbk 3
  have b2 : w2.cell? ⟨r, 3, none⟩ = some (.slice (some ⟨g, 0, none⟩) L.length cap) := bkc (bkb hbk hb2) 3
  have b3 : w3.cell? ⟨r, 3, none⟩ = some (.slice (some ⟨g, 0, none⟩) L.length cap) := bkc hbk3 3
  have f3 : w3.frozen? ⟨r, 3, none⟩ = false := bkf hbk3 3
  have HR1 : Hid ((Builtin.append_ #[124, 124] 124 #[.slice none 0 0, .slice (some ⟨g, 0, none⟩) k cap]).run Try.prog w1 = .ok v2 w2) := hrun1
  have HR2 : Hid ((Builtin.append_ #[124, 124] 124 #[v2, .slice (some ⟨g, o2, none⟩) (L.length - (k + 1)) c2]).run Try.prog w2 = .ok (.slice ao3 M cap3) w3) := hrun2
  have HO3 : Hid (w3.ownsRow base 128 7 (.slice ao3 M cap3) (L.take k ++ L.drop (k + 1)).length (pcells (L.take k ++ L.drop (k + 1)))) := hown4
  have HBK3 : Hid (w3.heap[r]? = some (.cells #[i64 t.a, i64 t.b, i64 t.c, .slice (some ⟨g, 0, none⟩) L.length cap] 126)) := hbk3
  have HF3 : Hid (Fr base [126, 128] w w3) := ((Fr.of_below [126, 128] hb1 hlo).trans (Fr.of_below [126, 128] hb2 (by omega))).trans (hfr3.mono (fun o ho => by
    cases o with
    | cells C t fr => simp [keeps] at ho ⊢; exact ho.2
    | _ => rfl))
  have hcI : ((k : Int) + 1 ≤ cap) := by omega
  have hNI : ((k : Int) + 1 ≤ L.length) := by omega
  have hNc : ((L.length : Int) ≤ cap) := by omega
  have h3I : ((L.length : Int) ≤ 3) := by omega
  clear hb1 hbk hown hrow hcells hrun1 hown2 hfr2 hbel2 hb2 hrun2 hown3 hown4 hM hfr3 hbk3 hadd hlt hld
  generalize L.length = N at *
  rcases hsl with ⟨hc, rfl, rfl⟩ | ⟨hc, rfl, rfl⟩
  all_goals
    go_wp2_with (at_builtin; first | refine wpList_app_run rfl (.tmp 12) (.tmp 18) 124 rfl _ _ rfl rfl 124 rfl _ _ HR1.out ?_ | refine wpList_app_run rfl (.tmp 20) (.tmp 27) 124 rfl _ _ rfl rfl 124 rfl _ _ HR2.out ?_)
    go_ret
    exact ⟨rfl, ⟨HR.out.lo, _, heap_setCell_same w3 r 3 _ 126 _ HBK3.out, own_keep HO3.out (fun k' C hC => by rw [heap_setCell_other _ _ _ _ (fun e => by have hC' := hC; rw [show k' = r from e, HBK3.out] at hC'; simp at hC')]; exact hC)⟩, HF3.out.trans (Fr.of_touch ((Touch.refl r w3).setCell rfl _) HBK3.out (by rfl) HR.out.lo)⟩
end Go.Proofs.Ytnknhencobhjdaa.Qt
