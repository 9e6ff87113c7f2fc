/- imagoref13.Table as it lies in memory; At, Lost: contracts; no statement is proved in this text. -/
import Derived.Test.YtopbgeoledocaaaArgs
namespace Go.Proofs.Ytopbgeoledocaaa
open Go.ChangeShapes Go.WideShapes Go.ChangeAt Go.RowKit Go.Deep
attribute [local go_sem ↓] Go.wp_at_zero Go.wp_at_succ

/-- An environment of the document's. -/
structure Rn where
  n : Int
  ver : Int
  v : Value
  all : List (Int × Int)
  fr : Int
  tk : Int
abbrev Rn.l (r : Rn) : List Value := [i64 r.n, i64 r.ver, r.v, i64 r.fr, i64 r.tk]
def ucn (l : List (Int × Int)) : List Value := l.flatMap fun m => [i64 m.1, i64 m.2]
theorem ucn_app (a b : List (Int × Int)) : ucn (a ++ b) = ucn a ++ ucn b := by simp [ucn]
theorem ucn_len (a : List (Int × Int)) : (ucn a).length = a.length * 2 := by
  induction a with
  | nil => rfl
  | cons x l ih => simp [ucn] at ih ⊢; omega
theorem ucn_get (l : List (Int × Int)) (i : Nat) (m : Int × Int) (h : l[i]? = some m) : (ucn l)[i * 2]? = some (i64 m.1) ∧ (ucn l)[i * 2 + 1]? = some (i64 m.2) := by
  induction l generalizing i with
  | nil => simp at h
  | cons x l ih =>
    cases i with
    | zero => simp at h; subst h; exact ⟨rfl, rfl⟩
    | succ i =>
      have := ih i (by simpa using h)
      rw [show (i + 1) * 2 = i * 2 + 2 by omega]
      exact this
def rcs : List Rn → List Value
  | [] => []
  | p :: r => p.l ++ rcs r
theorem rcs_len : ∀ L : List Rn, (rcs L).length = L.length * 5
  | [] => rfl
  | p :: r => by simp [rcs, rcs_len r]; omega
theorem rcs_app : ∀ a b : List Rn, rcs (a ++ b) = rcs a ++ rcs b
  | [], b => rfl
  | p :: r, b => by simp [rcs, rcs_app r b]
theorem rcs_get : ∀ (L : List Rn) (i j : Nat) (p : Rn), L[i]? = some p → j < 5 → (rcs L)[i * 5 + j]? = p.l[j]?
  | [], i, j, p, h, _ => by simp at h
  | x :: r, 0, j, p, h, hj => by
    simp at h
    subst h
    rw [Nat.zero_mul, Nat.zero_add, rcs, List.getElem?_append_left (by simpa using hj)]
  | x :: r, i + 1, j, p, h, hj => by
    have := rcs_get r i j p (by simpa using h) hj
    rw [rcs, List.getElem?_append_right (by simp; omega), show (i + 1) * 5 + j - x.l.length = i * 5 + j by simp; omega]
    exact this
theorem rcs_set : ∀ (L : List Rn) (i j : Nat) (p p' : Rn) (v : Value), L[i]? = some p → j < 5 → p.l.set j v = p'.l → (rcs L).set (i * 5 + j) v = rcs (L.set i p')
  | [], i, j, p, p', v, h, _, _ => by simp at h
  | x :: r, 0, j, p, p', v, h, hj, hp => by
    simp at h
    subst h
    rw [Nat.zero_mul, Nat.zero_add, rcs, List.set_append_left _ _ (by simpa using hj), hp]
    rfl
  | x :: r, i + 1, j, p, p', v, h, hj, hp => by
    have := rcs_set r i j p p' v (by simpa using h) hj hp
    rw [rcs, List.set_append_right _ _ (by simp; omega), show (i + 1) * 5 + j - x.l.length = i * 5 + j by simp; omega, this]
    rfl
/-- The document's table. -/
structure Rb (w : World) (base r : Nat) (L : List Rn) : Prop where
  lo : base ≤ r
  own : ∃ v, w.heap[r]? = some (.cells #[v] 29) ∧ w.ownsRow base 41 5 v L.length (rcs L)
  all : ∀ (i : Nat) (p : Rn), L[i]? = some p → w.ownsRow base 60 2 p.v p.all.length (ucn p.all)
  dis : ∀ (i j : Nat) (p q : Rn), L[i]? = some p → L[j]? = some q → i ≠ j → ∀ k, p.v.ownBlock = some k → q.v.ownBlock ≠ some k
theorem Rb.same {w w' : World} {base r : Nat} {L : List Rn} (h : Rb w base r L) (hk : ∀ (k : Nat) (C : Array Value) (t : TypeId), w.heap[k]? = some (.cells C t) → (t = 29 ∨ t = 41 ∨ t = 60) → w'.heap[k]? = some (.cells C t)) : Rb w' base r L := by
  obtain ⟨v, h1, h2⟩ := h.own
  exact ⟨h.lo, ⟨v, hk _ _ 29 h1 (.inl rfl), own_keep h2 (fun k C hC => hk k _ 41 hC (.inr (.inl rfl)))⟩, fun i p hp => own_keep (h.all i p hp) (fun k C hC => hk k _ 60 hC (.inr (.inr rfl))), h.dis⟩
theorem Rb.below {w w' : World} {base r : Nat} {L : List Rn} (h : Rb w base r L) (hb : Below w.heap.size w w') : Rb w' base r L :=
  h.same (fun _ _ _ hk _ => blk_below hk hb)
theorem Rb.fr {w w' : World} {base r : Nat} {L : List Rn} {bs : Nat} {ts : List TypeId} (h : Rb w base r L) (hb : Fr bs ts w w') (h1 : ts.contains 29 = false) (h2 : ts.contains 41 = false) (h3 : ts.contains 60 = false) : Rb w' base r L :=
  h.same (fun k C t hk ht => hb.kept k _ hk (by rcases ht with rfl | rfl | rfl <;> simp only [keeps, h1, h2, h3, Bool.not_false]))
theorem Rb.lt {w : World} {base r : Nat} {L : List Rn} (h : Rb w base r L) : r < w.heap.size := by
  obtain ⟨v, h1, _⟩ := h.own
  exact blk_lt h1
theorem Rb.drewN {w : World} {base r : Nat} {L : List Rn} (h : Rb w base r L) (n : Nat) : Rb (w.drewN n) base r L := h.same (fun _ _ _ hk _ => hk)
/-- The value, and the cells of its row. -/
theorem Rb.row {w : World} {base r : Nat} {L : List Rn} (h : Rb w base r L) : ∃ ao cap, w.heap[r]? = some (.cells #[.slice ao L.length cap] 29) ∧ w.ownsRow base 41 5 (.slice ao L.length cap) L.length (rcs L) ∧ L.length ≤ cap ∧ ∀ i p, L[i]? = some p → ∃ g, ao = some ⟨g, 0, none⟩ ∧ base ≤ g ∧ g < w.heap.size ∧ g ≠ r ∧ (∀ o, w.frozen? ⟨g, o, none⟩ = false) ∧ ∀ j, j < 5 → w.cell? ⟨g, i * 5 + j, none⟩ = p.l[j]? := by
  obtain ⟨v, h1, h2⟩ := h.own
  obtain ⟨ao, cap, rfl, _⟩ := own_slice h2
  refine ⟨ao, cap, h1, h2, ?_, fun i p hp => ?_⟩
  · rcases h2.2 with ⟨_, h0⟩ | ⟨g, cap', cur, he, hbg, hgg, hc, _⟩
    · omega
    · simp only [Value.slice.injEq] at he
      obtain ⟨_, _, rfl⟩ := he
      exact hc
  have hi : i < L.length := (List.getElem?_eq_some_iff.1 hp).1
  rcases h2.2 with ⟨_, h0⟩ | ⟨g, cap', cur, he, hbg, hgg, _⟩
  · omega
  · simp only [Value.slice.injEq] at he
    obtain ⟨rfl, _, rfl⟩ := he
    refine ⟨g, rfl, hbg, blk_lt hgg, fun e => ?_, fun o => blk_frozen hgg o, fun j hj => ?_⟩
    · rw [e, h1] at hgg; simp at hgg
    · rw [h2.cellAt _ (by omega), rcs_get L i j p hp hj]
/-- The place of an environment. -/
def atB (n : Int) (r : Rn) : Bool := decide (r.n = n)
def atI (L : List Rn) (n : Int) : Int := match L.findIdx? (atB n) with
  | some i => i
  | none => -1
theorem atI_none {L : List Rn} {n : Int} (h : ∀ (i : Nat) p, L[i]? = some p → atB n p = false) : atI L n = -1 := by
  unfold atI
  have : L.findIdx? (atB n) = none := by
    rw [List.findIdx?_eq_none_iff]
    intro p hp
    obtain ⟨i, hi⟩ := List.getElem?_of_mem hp
    simpa using h i p hi
  rw [this]
theorem atI_some {L : List Rn} {n : Int} {k : Nat} {p : Rn} (hp : L[k]? = some p) (he : atB n p = true) (h : ∀ (i : Nat) p, i < k → L[i]? = some p → atB n p = false) : atI L n = k := by
  unfold atI
  have hk : k < L.length := (List.getElem?_eq_some_iff.1 hp).1
  have : L.findIdx? (atB n) = some k := by
    rw [List.findIdx?_eq_some_iff_getElem]
    refine ⟨hk, ?_, fun j hj => ?_⟩
    · rw [List.getElem?_eq_getElem hk] at hp
      cases hp
      simpa using he
    · simpa using h j L[j] hj (List.getElem?_eq_getElem (by omega))
  rw [this]
theorem atI_cases (L : List Rn) (n : Int) : (atI L n = -1 ∧ ∀ (i : Nat) p, L[i]? = some p → p.n ≠ n) ∨ ∃ (k : Nat) (p : Rn), atI L n = k ∧ L[k]? = some p ∧ p.n = n := by
  unfold atI
  cases h : L.findIdx? (atB n) with
  | none =>
    left
    rw [List.findIdx?_eq_none_iff] at h
    exact ⟨rfl, fun i p hp => by simpa [atB] using h p (List.mem_of_getElem? hp)⟩
  | some k =>
    right
    rw [List.findIdx?_eq_some_iff_getElem] at h
    obtain ⟨hk, h1, _⟩ := h
    exact ⟨k, L[k], rfl, List.getElem?_eq_getElem hk, by simpa [atB] using h1⟩
set_option maxRecDepth 100000 in
set_option maxHeartbeats 2000000 in
theorem rat_ok {w : World} {base r : Nat} {L : List Rn} (h : Rb w base r L) (hl : L.length ≤ 3) (n : Int) :
    Calls Try.prog 14 #[pq r, i64 n] w fun e w' => e = .returned (i64 (atI L n)) ∧ Below w.heap.size w w' := by
  obtain ⟨ao, cap, hbk, hown, hcap, _⟩ := h.row
  have HR : Hid (Rb w base r L) := h
  have b0 : w.cell? ⟨r, 0, none⟩ = some (.slice ao L.length cap) := blk_cell hbk 0
  have HK : Hid (w.heap[r]? = some (.cells #[.slice ao L.length cap] 29)) := hbk
  obtain ⟨N, hN⟩ : ∃ N, N = L.length := ⟨_, rfl⟩
  have HN : Hid (N = L.length) := hN
  rw [← hN] at b0 hl hcap
  have hcI : (N : Int) ≤ cap := by omega
  have hNI : (N : Int) ≤ 3 := by omega
  clear h hbk hown hN
  go_enter Try.func14, Try.ntmps14
  go_wp2_with fail
  go_loopw [12] (fun i wr => ∃ k : Nat, k ≤ N ∧ i = i64 k ∧ Below w.heap.size w wr ∧ Hid (∀ (i : Nat) p, i < k → L[i]? = some p → atB n p = false)) (fun i _ => N - (intOf i).toNat)
  case atStart => exact ⟨0, by omega, rfl, Below.refl _ _, fun i p hi => by omega⟩
  case round =>
    obtain ⟨k, hk, rfl, hb, HO⟩ := hrel
    by_cases hlt : k < N
    · have hlt2 : k < L.length := by rw [← HN.out]; exact hlt
      obtain ⟨p, hp⟩ : ∃ p, L[k]? = some p := ⟨_, List.getElem?_eq_getElem hlt2⟩
      obtain ⟨ao', cap', hbk', hown', hcap', hrow⟩ := (HR.out.below hb).row
      have hs := (blk_below HK.out hb).symm.trans hbk'
      simp only [Option.some.injEq, Obj.cells.injEq, Array.mk.injEq, List.cons.injEq, Value.slice.injEq, true_and, and_true] at hs
      obtain ⟨rfl, rfl⟩ := hs
      obtain ⟨g, rfl, hbg, hgl, _, _, hc⟩ := hrow k p hp
      obtain ⟨ao2, cap2, hv2, _⟩ := own_slice (HR.out.all k p hp)
      have c0 : wr.cell? ⟨g, k * 5, none⟩ = some (i64 p.n) := hc 0 (by omega)
      have c1 : wr.cell? ⟨g, k * 5 + 1, none⟩ = some (i64 p.ver) := hc 1 (by omega)
      have c2 : wr.cell? ⟨g, k * 5 + 2, none⟩ = some p.v := hc 2 (by omega)
      have c3 : wr.cell? ⟨g, k * 5 + 3, none⟩ = some (i64 p.fr) := hc 3 (by omega)
      have c4 : wr.cell? ⟨g, k * 5 + 4, none⟩ = some (i64 p.tk) := hc 4 (by omega)
      rw [hv2] at c2
      have HB : Hid (∀ o, Below w.heap.size w (wr.alloc o)) := fun o => hb.alloc hb.size o
      have HP : Hid (L[k]? = some p) := hp
      clear hb hrow hc hp hbk' hown' hv2
      generalize p.all.length = m at *
      have next : atB n p = false → Hid (∀ (i : Nat) p, i < k + 1 → L[i]? = some p → atB n p = false) := fun he i p' hi hp' => by
        by_cases hik : i = k
        · subst hik
          have := HP.out.symm.trans hp'
          simp at this
          subst this
          exact he
        · exact HO.out i p' (by omega) hp'
      by_cases he : p.n = n
      · have HE : Hid (atI L n = k) := atI_some HP.out (by simp [atB, he]) HO.out
        have hq : (p.n == n) = true := by simpa using he
        clear he next
        go_wp2_with fail
        go_ret
        exact ⟨by rw [HE.out]; rfl, HB.out _⟩
      · have HE := next (by simp [atB, he])
        have hq : (p.n == n) = false := by simpa using he
        clear he next
        go_wp2_with fail
        exact ⟨⟨k + 1, by omega, by go_num, HB.out _, HE⟩, by simp [intOf]; omega⟩
    · have HE : Hid (atI L n = -1) := atI_none fun i p hp => HO.out i p (by have := (List.getElem?_eq_some_iff.1 hp).1; have := HN.out; omega) hp
      have HB : Hid (Below w.heap.size w wr) := hb
      clear hb
      go_wp2_with fail
      go_ret
      exact ⟨by rw [HE.out]; rfl, HB.out⟩
theorem rlost_none {w : World} {base r : Nat} {L : List Rn} (h : Rb w base r L) (hl : L.length ≤ 3) (n : Int) (hi : atI L n = -1) :
    Calls Try.prog 12 #[pq r, i64 n] w fun e w' => e = .returned (i64 0) ∧ Below w.heap.size w w' := by
  have HA := rat_ok h hl n
  rw [hi] at HA
  have HA := hid HA
  clear h hi hl
  go_enter Try.func12, Try.ntmps12
  go_wp2_with fail
  refine HA.out.mono ?_
  rintro e w1 ⟨rfl, hb1⟩
  have HB1 := hid hb1
  clear hb1
  go_wp2_with fail
  go_ret
  exact ⟨rfl, HB1.out⟩
set_option maxRecDepth 100000 in
set_option maxHeartbeats 2000000 in
theorem rlost_in {w : World} {base r : Nat} {L : List Rn} (h : Rb w base r L) (hl : L.length ≤ 3) (n : Int) (k : Nat) (p : Rn) (hp : L[k]? = some p) (hi : atI L n = k) (hf : 0 ≤ p.fr ∧ p.fr ≤ 1000) (ht : 0 ≤ p.tk ∧ p.tk ≤ 1000) :
    Calls Try.prog 12 #[pq r, i64 n] w fun e w' => e = .returned (i64 (p.fr - p.tk)) ∧ Below w.heap.size w w' := by
  have HA := rat_ok h hl n
  rw [hi] at HA
  have HA := hid HA
  have HR := hid h
  have HP := hid hp
  have hkL : k < L.length := (List.getElem?_eq_some_iff.1 hp).1
  obtain ⟨f0, f1⟩ := hf
  obtain ⟨t0, t1⟩ := ht
  clear h hi hp
  go_enter Try.func12, Try.ntmps12
  go_wp2_with fail
  refine HA.out.mono ?_
  rintro e w1 ⟨rfl, hb1⟩
  obtain ⟨ao, cap, hbk, _, hcap, hrow⟩ := (HR.out.below hb1).row
  obtain ⟨g, rfl, hbg, hgl, hgr, _, hc⟩ := hrow k p HP.out
  have b0 : w1.cell? ⟨r, 0, none⟩ = some (.slice (some ⟨g, 0, none⟩) L.length cap) := blk_cell hbk 0
  have c3 : w1.cell? ⟨g, k * 5 + 3, none⟩ = some (i64 p.fr) := hc 3 (by omega)
  have c4 : w1.cell? ⟨g, k * 5 + 4, none⟩ = some (i64 p.tk) := hc 4 (by omega)
  have hkI : (k : Int) < L.length := by omega
  have HB1 := hid hb1
  clear hb1 hrow hc hbk
  generalize L.length = N at *
  go_wp2_with fail
  go_quiet (fail)
  go_wp2_with fail
  go_ret
  exact ⟨rfl, below_drewN HB1.out _⟩
end Go.Proofs.Ytopbgeoledocaaa
