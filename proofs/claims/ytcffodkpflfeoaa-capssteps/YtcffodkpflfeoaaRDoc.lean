/- imagoref09.Table as it lies in memory; at, Live: contracts; no statement is proved in this text. -/
import Derived.Test.YtcffodkpflfeoaaArgs
namespace Go.Proofs.Ytcffodkpflfeoaa
open Go.ChangeShapes Go.WideShapes Go.ChangeAt Go.RowKit Go.Deep

/-- A capability of the document's. -/
structure Rw where
  c : Cp
  sl : Int
  gn : Int
  fr : Int
  lv : Bool
deriving DecidableEq
abbrev Rw.l (r : Rw) : List Value := [i64 r.c.env, i64 r.c.kind, i64 r.c.num, i64 r.c.rts, i64 r.sl, i64 r.gn, i64 r.fr, .bool r.lv]
def rcs : List Rw → List Value
  | [] => []
  | p :: r => p.l ++ rcs r
theorem rcs_len : ∀ L : List Rw, (rcs L).length = L.length * 8
  | [] => rfl
  | p :: r => by simp [rcs, rcs_len r]; omega
theorem rcs_app : ∀ a b : List Rw, rcs (a ++ b) = rcs a ++ rcs b
  | [], b => rfl
  | p :: r, b => by simp [rcs, rcs_app r b]
theorem rcs_get : ∀ (L : List Rw) (i j : Nat) (p : Rw), L[i]? = some p → j < 8 → (rcs L)[i * 8 + j]? = p.l[j]?
  | [], i, j, p, h, _ => by simp at h
  | x :: r, 0, j, p, h, hj => by
    simp at h
    subst h
    rw [Nat.zero_mul, Nat.zero_add, rcs, List.getElem?_append_left (by simpa using hj)]
  | x :: r, i + 1, j, p, h, hj => by
    have := rcs_get r i j p (by simpa using h) hj
    rw [rcs, List.getElem?_append_right (by simp; omega), show (i + 1) * 8 + j - x.l.length = i * 8 + j by simp; omega]
    exact this
theorem rcs_set : ∀ (L : List Rw) (i j : Nat) (p p' : Rw) (v : Value), L[i]? = some p → j < 8 → p.l.set j v = p'.l → (rcs L).set (i * 8 + j) v = rcs (L.set i p')
  | [], i, j, p, p', v, h, _, _ => by simp at h
  | x :: r, 0, j, p, p', v, h, hj, hp => by
    simp at h
    subst h
    rw [Nat.zero_mul, Nat.zero_add, rcs, List.set_append_left _ _ (by simpa using hj), hp]
    rfl
  | x :: r, i + 1, j, p, p', v, h, hj, hp => by
    have := rcs_set r i j p p' v (by simpa using h) hj hp
    rw [rcs, List.set_append_right _ _ (by simp; omega), show (i + 1) * 8 + j - x.l.length = i * 8 + j by simp; omega, this]
    rfl
/-- The document's table. -/
structure Rb (w : World) (base r : Nat) (L : List Rw) : Prop where
  lo : base ≤ r
  own : ∃ v, w.heap[r]? = some (.cells #[v] 30) ∧ w.ownsRow base 66 8 v L.length (rcs L)
theorem Rb.same {w w' : World} {base r : Nat} {L : List Rw} (h : Rb w base r L) (hk : ∀ (k : Nat) (o : Obj), w.heap[k]? = some o → (∃ C, o = .cells C 30 ∨ o = .cells C 66) → w'.heap[k]? = some o) : Rb w' base r L := by
  obtain ⟨v, h1, h2⟩ := h.own
  exact ⟨h.lo, v, hk _ _ h1 ⟨_, Or.inl rfl⟩, own_keep h2 (fun k C hC => hk k _ hC ⟨_, Or.inr rfl⟩)⟩
theorem Rb.below {w w' : World} {base r : Nat} {L : List Rw} (h : Rb w base r L) (hb : Below w.heap.size w w') : Rb w' base r L :=
  h.same (fun _ _ hk _ => blk_below hk hb)
theorem Rb.fr {w w' : World} {base r : Nat} {L : List Rw} {bs : Nat} {ts : List TypeId} (h : Rb w base r L) (hb : Fr bs ts w w') (h1 : ts.contains 30 = false) (h2 : ts.contains 66 = false) : Rb w' base r L :=
  h.same (fun k o hk ho => hb.kept k o hk (by
    obtain ⟨C, rfl | rfl⟩ := ho
    · simp only [keeps, h1]; rfl
    · simp only [keeps, h2]; rfl))
theorem Rb.lt {w : World} {base r : Nat} {L : List Rw} (h : Rb w base r L) : r < w.heap.size := by
  obtain ⟨v, h1, _⟩ := h.own
  exact blk_lt h1
theorem Rb.drewN {w : World} {base r : Nat} {L : List Rw} (h : Rb w base r L) (n : Nat) : Rb (w.drewN n) base r L := h.same (fun _ _ hk _ => hk)
/-- The value, and the cells of its row. -/
theorem Rb.row {w : World} {base r : Nat} {L : List Rw} (h : Rb w base r L) : ∃ ao cap, w.heap[r]? = some (.cells #[.slice ao L.length cap] 30) ∧ w.ownsRow base 66 8 (.slice ao L.length cap) L.length (rcs L) ∧ L.length ≤ cap ∧ ∀ i p, L[i]? = some p → ∃ g, ao = some ⟨g, 0, none⟩ ∧ base ≤ g ∧ g < w.heap.size ∧ g ≠ r ∧ (∀ o, w.frozen? ⟨g, o, none⟩ = false) ∧ ∀ j, j < 8 → w.cell? ⟨g, i * 8 + j, none⟩ = p.l[j]? := by
  obtain ⟨v, h1, h2⟩ := h.own
  obtain ⟨ao, cap, rfl, _⟩ := own_slice h2
  refine ⟨ao, cap, h1, h2, ?_, fun i p hp => ?_⟩
  · rcases h2.2 with ⟨_, h0⟩ | ⟨g, cap', cur, he, hbg, hgg, hc, _⟩
    · omega
    · simp only [Value.slice.injEq] at he
      obtain ⟨_, _, rfl⟩ := he
      exact hc
  have hi : i < L.length := (List.getElem?_eq_some_iff.1 hp).1
  rcases h2.2 with ⟨_, h0⟩ | ⟨g, cap', cur, he, hbg, hgg, _⟩
  · omega
  · simp only [Value.slice.injEq] at he
    obtain ⟨rfl, _, rfl⟩ := he
    refine ⟨g, rfl, hbg, blk_lt hgg, fun e => ?_, fun o => blk_frozen hgg o, fun j hj => ?_⟩
    · rw [e, h1] at hgg; simp at hgg
    · rw [h2.cellAt _ (by omega), rcs_get L i j p hp hj]
/-- The place of what stands in a slot. -/
def atB (sl : Int) (r : Rw) : Bool := r.lv && decide (r.sl = sl)
def atI (L : List Rw) (sl : Int) : Int := match L.findIdx? (atB sl) with
  | some i => i
  | none => -1
theorem atI_none {L : List Rw} {sl : Int} (h : ∀ (i : Nat) p, L[i]? = some p → atB sl p = false) : atI L sl = -1 := by
  unfold atI
  have : L.findIdx? (atB sl) = none := by
    rw [List.findIdx?_eq_none_iff]
    intro p hp
    obtain ⟨i, hi⟩ := List.getElem?_of_mem hp
    simpa using h i p hi
  rw [this]
theorem atI_some {L : List Rw} {sl : Int} {k : Nat} {p : Rw} (hp : L[k]? = some p) (he : atB sl p = true) (h : ∀ (i : Nat) p, i < k → L[i]? = some p → atB sl p = false) : atI L sl = k := by
  unfold atI
  have hk : k < L.length := (List.getElem?_eq_some_iff.1 hp).1
  have : L.findIdx? (atB sl) = some k := by
    rw [List.findIdx?_eq_some_iff_getElem]
    refine ⟨hk, ?_, fun j hj => ?_⟩
    · rw [List.getElem?_eq_getElem hk] at hp
      cases hp
      simpa using he
    · simpa using h j L[j] hj (List.getElem?_eq_getElem (by omega))
  rw [this]
theorem atI_cases (L : List Rw) (sl : Int) : (atI L sl = -1 ∧ ∀ (i : Nat) p, L[i]? = some p → atB sl p = false) ∨ ∃ (k : Nat) (p : Rw), atI L sl = k ∧ L[k]? = some p ∧ p.lv = true ∧ p.sl = sl := by
  unfold atI
  cases h : L.findIdx? (atB sl) with
  | none =>
    left
    rw [List.findIdx?_eq_none_iff] at h
    exact ⟨rfl, fun i p hp => by simpa using h p (List.mem_of_getElem? hp)⟩
  | some k =>
    right
    rw [List.findIdx?_eq_some_iff_getElem] at h
    obtain ⟨hk, h1, _⟩ := h
    refine ⟨k, L[k], rfl, List.getElem?_eq_getElem hk, ?_⟩
    simpa [atB] using h1
set_option maxRecDepth 100000 in
set_option maxHeartbeats 2000000 in
theorem rat_ok {w : World} {base r : Nat} {L : List Rw} (h : Rb w base r L) (hl : L.length ≤ 1000) (sl : Int) :
    Calls Try.prog 35 #[pq r, i64 sl] w fun e w' => e = .returned (i64 (atI L sl)) ∧ Below w.heap.size w w' := by
  obtain ⟨ao, cap, hbk, hown, hcap, _⟩ := h.row
  have HR : Hid (Rb w base r L) := h
  have b0 : w.cell? ⟨r, 0, none⟩ = some (.slice ao L.length cap) := blk_cell hbk 0
  have HK : Hid (w.heap[r]? = some (.cells #[.slice ao L.length cap] 30)) := hbk
  obtain ⟨N, hN⟩ : ∃ N, N = L.length := ⟨_, rfl⟩
  have HN : Hid (N = L.length) := hN
  rw [← hN] at b0 hl hcap
  have hcI : (N : Int) ≤ cap := by omega
  have hNI : (N : Int) ≤ 1000 := by omega
  clear h hbk hown hN
  go_enter Try.func35, Try.ntmps35
  go_wp2_with fail
  go_loopw [12] (fun i wr => ∃ k : Nat, k ≤ N ∧ i = i64 k ∧ Below w.heap.size w wr ∧ Hid (∀ (i : Nat) p, i < k → L[i]? = some p → atB sl p = false)) (fun i _ => N - (intOf i).toNat)
  case atStart => exact ⟨0, by omega, rfl, Below.refl _ _, fun i p hi => by omega⟩
  case round =>
    obtain ⟨k, hk, rfl, hb, HO⟩ := hrel
    by_cases hlt : k < N
    · have hlt2 : k < L.length := by rw [← HN.out]; exact hlt
      obtain ⟨p, hp⟩ : ∃ p, L[k]? = some p := ⟨_, List.getElem?_eq_getElem hlt2⟩
      obtain ⟨ao', cap', hbk', hown', hcap', hrow⟩ := (HR.out.below hb).row
      have hs := (blk_below HK.out hb).symm.trans hbk'
      simp only [Option.some.injEq, Obj.cells.injEq, Array.mk.injEq, List.cons.injEq, Value.slice.injEq, true_and, and_true] at hs
      obtain ⟨rfl, rfl⟩ := hs
      obtain ⟨g, rfl, hbg, hgl, _, _, hc⟩ := hrow k p hp
      have c0 : wr.cell? ⟨g, k * 8, none⟩ = some (i64 p.c.env) := hc 0 (by omega)
      have c1 : wr.cell? ⟨g, k * 8 + 1, none⟩ = some (i64 p.c.kind) := hc 1 (by omega)
      have c2 : wr.cell? ⟨g, k * 8 + 2, none⟩ = some (i64 p.c.num) := hc 2 (by omega)
      have c3 : wr.cell? ⟨g, k * 8 + 3, none⟩ = some (i64 p.c.rts) := hc 3 (by omega)
      have c4 : wr.cell? ⟨g, k * 8 + 4, none⟩ = some (i64 p.sl) := hc 4 (by omega)
      have c5 : wr.cell? ⟨g, k * 8 + 5, none⟩ = some (i64 p.gn) := hc 5 (by omega)
      have c6 : wr.cell? ⟨g, k * 8 + 6, none⟩ = some (i64 p.fr) := hc 6 (by omega)
      have c7 : wr.cell? ⟨g, k * 8 + 7, none⟩ = some (.bool p.lv) := hc 7 (by omega)
      have HB : Hid (∀ o, Below w.heap.size w (wr.alloc o)) := fun o => hb.alloc hb.size o
      have HP : Hid (L[k]? = some p) := hp
      clear hb hrow hc hp hbk' hown'
      have next : atB sl p = false → Hid (∀ (i : Nat) p, i < k + 1 → L[i]? = some p → atB sl p = false) := fun he i p' hi hp' => by
        by_cases hik : i = k
        · subst hik
          have := HP.out.symm.trans hp'
          simp at this
          subst this
          exact he
        · exact HO.out i p' (by omega) hp'
      cases hlv : p.lv with
      | true =>
        rw [hlv] at c7
        by_cases he : p.sl = sl
        · have HE : Hid (atI L sl = k) := atI_some HP.out (by simp [atB, hlv, he]) HO.out
          have hq : (p.sl == sl) = true := by simpa using he
          clear he next hlv
          go_wp2_with fail
          go_ret
          exact ⟨by rw [HE.out]; rfl, HB.out _⟩
        · have HE := next (by simp [atB, hlv, he])
          have hq : (p.sl == sl) = false := by simpa using he
          clear he next hlv
          go_wp2_with fail
          exact ⟨⟨k + 1, by omega, by go_num, HB.out _, HE⟩, by simp [intOf]; omega⟩
      | false =>
        rw [hlv] at c7
        have HE := next (by simp [atB, hlv])
        clear next hlv
        go_wp2_with fail
        exact ⟨⟨k + 1, by omega, by go_num, HB.out _, HE⟩, by simp [intOf]; omega⟩
    · have HE : Hid (atI L sl = -1) := atI_none fun i p hp => HO.out i p (by have := (List.getElem?_eq_some_iff.1 hp).1; have := HN.out; omega) hp
      have HB : Hid (Below w.heap.size w wr) := hb
      clear hb
      go_wp2_with fail
      go_ret
      exact ⟨by rw [HE.out]; rfl, HB.out⟩
def lvR (L : List Rw) : Nat := (L.filter (·.lv)).length
theorem lvR_succ {L : List Rw} {k : Nat} {p : Rw} (hp : L[k]? = some p) : lvR (L.take (k + 1)) = lvR (L.take k) + (if p.lv = true then 1 else 0) := by
  unfold lvR
  rw [List.take_add_one, hp, List.filter_append, List.length_append]
  cases h : p.lv <;> simp [h]
theorem lvR_le (L : List Rw) : lvR L ≤ L.length := List.length_filter_le _ _
set_option maxRecDepth 100000 in
set_option maxHeartbeats 2000000 in
theorem rlive_ok {w : World} {base r : Nat} {L : List Rw} (h : Rb w base r L) (hl : L.length ≤ 1000) :
    Calls Try.prog 12 #[pq r] w fun e w' => e = .returned (i64 (lvR L : Nat)) ∧ Below w.heap.size w w' := by
  obtain ⟨ao, cap, hbk, hown, hcap, _⟩ := h.row
  have HR : Hid (Rb w base r L) := h
  have b0 : w.cell? ⟨r, 0, none⟩ = some (.slice ao L.length cap) := blk_cell hbk 0
  have HK : Hid (w.heap[r]? = some (.cells #[.slice ao L.length cap] 30)) := hbk
  obtain ⟨N, hN⟩ : ∃ N, N = L.length := ⟨_, rfl⟩
  have HN : Hid (N = L.length) := hN
  rw [← hN] at b0 hl hcap
  have hcI : (N : Int) ≤ cap := by omega
  have hNI : (N : Int) ≤ 1000 := by omega
  clear h hbk hown hN
  go_enter Try.func12, Try.ntmps12
  go_wp2_with fail
  go_loopw [3, 11] (fun n i wr => ∃ k : Nat, k ≤ N ∧ i = i64 k ∧ n = i64 (lvR (L.take k) : Nat) ∧ Below w.heap.size w wr) (fun _ i _ => N - (intOf i).toNat)
  case atStart => exact ⟨0, by omega, rfl, rfl, Below.refl _ _⟩
  case round =>
    obtain ⟨k, hk, rfl, rfl, hb⟩ := hrel
    have hle : lvR (L.take k) ≤ 1000 := Nat.le_trans (lvR_le _) (by rw [List.length_take]; omega)
    by_cases hlt : k < N
    · have hlt2 : k < L.length := by rw [← HN.out]; exact hlt
      obtain ⟨p, hp⟩ : ∃ p, L[k]? = some p := ⟨_, List.getElem?_eq_getElem hlt2⟩
      obtain ⟨ao', cap', hbk', hown', hcap', hrow⟩ := (HR.out.below hb).row
      have hs := (blk_below HK.out hb).symm.trans hbk'
      simp only [Option.some.injEq, Obj.cells.injEq, Array.mk.injEq, List.cons.injEq, Value.slice.injEq, true_and, and_true] at hs
      obtain ⟨rfl, rfl⟩ := hs
      obtain ⟨g, rfl, hbg, hgl, _, _, hc⟩ := hrow k p hp
      have c0 : wr.cell? ⟨g, k * 8, none⟩ = some (i64 p.c.env) := hc 0 (by omega)
      have c1 : wr.cell? ⟨g, k * 8 + 1, none⟩ = some (i64 p.c.kind) := hc 1 (by omega)
      have c2 : wr.cell? ⟨g, k * 8 + 2, none⟩ = some (i64 p.c.num) := hc 2 (by omega)
      have c3 : wr.cell? ⟨g, k * 8 + 3, none⟩ = some (i64 p.c.rts) := hc 3 (by omega)
      have c4 : wr.cell? ⟨g, k * 8 + 4, none⟩ = some (i64 p.sl) := hc 4 (by omega)
      have c5 : wr.cell? ⟨g, k * 8 + 5, none⟩ = some (i64 p.gn) := hc 5 (by omega)
      have c6 : wr.cell? ⟨g, k * 8 + 6, none⟩ = some (i64 p.fr) := hc 6 (by omega)
      have c7 : wr.cell? ⟨g, k * 8 + 7, none⟩ = some (.bool p.lv) := hc 7 (by omega)
      have HB : Hid (∀ o, Below w.heap.size w (wr.alloc o)) := fun o => hb.alloc hb.size o
      have HP : Hid (L[k]? = some p) := hp
      have HSu := hid (lvR_succ hp)
      clear hb hrow hc hp hbk' hown'
      generalize lvR (L.take k) = M at *
      cases hlv : p.lv with
      | true =>
        rw [hlv] at c7 HSu
        clear hlv
        go_wp2_with fail
        exact ⟨⟨k + 1, by omega, by go_num, by rw [HSu.out]; go_num, HB.out _⟩, by simp [intOf]; omega⟩
      | false =>
        rw [hlv] at c7 HSu
        clear hlv
        go_wp2_with fail
        exact ⟨⟨k + 1, by omega, by go_num, by rw [HSu.out]; go_num, HB.out _⟩, by simp [intOf]; omega⟩
    · have HE : Hid (L.take k = L) := List.take_of_length_le (by rw [← HN.out]; omega)
      have HB : Hid (Below w.heap.size w wr) := hb
      clear hb
      go_wp2_with fail
      go_ret
      exact ⟨by rw [HE.out]; rfl, HB.out⟩
end Go.Proofs.Ytcffodkpflfeoaa
