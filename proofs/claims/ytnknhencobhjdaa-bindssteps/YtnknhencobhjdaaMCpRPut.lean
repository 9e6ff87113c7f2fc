/- No statement here. -/
import Derived.Test.YtnknhencobhjdaaMCpDrops
set_option maxRecDepth 100000
namespace Go.Proofs.Ytnknhencobhjdaa.Cp
open Go.ChangeShapes Go.WideShapes Go.ChangeAt Go.RowKit Go.Deep
structure Rw where
  c : Cp
  sl : Int
  gn : Int
  fr : Int
  lv : Bool
deriving DecidableEq
abbrev Rw.l (r : Rw) : List Value := [i64 r.c.env, i64 r.c.kind, i64 r.c.num, i64 r.c.rts, i64 r.sl, i64 r.gn, i64 r.fr, .bool r.lv]
def rcs : List Rw → List Value
  | [] => []
  | p :: r => p.l ++ rcs r
theorem rcs_len : ∀ L : List Rw, (rcs L).length = L.length * 8
  | [] => rfl
  | p :: r => by simp [rcs, rcs_len r]; omega
theorem rcs_app : ∀ a b : List Rw, rcs (a ++ b) = rcs a ++ rcs b
  | [], b => rfl
  | p :: r, b => by simp [rcs, rcs_app r b]
theorem rcs_get : ∀ (L : List Rw) (i j : Nat) (p : Rw), L[i]? = some p → j < 8 → (rcs L)[i * 8 + j]? = p.l[j]?
  | [], i, j, p, h, _ => by simp at h
  | x :: r, 0, j, p, h, hj => by
    simp at h
    subst h
    rw [Nat.zero_mul, Nat.zero_add, rcs, List.getElem?_append_left (by simpa using hj)]
  | x :: r, i + 1, j, p, h, hj => by
    have := rcs_get r i j p (by simpa using h) hj
    rw [rcs, List.getElem?_append_right (by simp; omega), show (i + 1) * 8 + j - x.l.length = i * 8 + j by simp; omega]
    exact this
theorem rcs_set : ∀ (L : List Rw) (i j : Nat) (p p' : Rw) (v : Value), L[i]? = some p → j < 8 → p.l.set j v = p'.l → (rcs L).set (i * 8 + j) v = rcs (L.set i p')
  | [], i, j, p, p', v, h, _, _ => by simp at h
  | x :: r, 0, j, p, p', v, h, hj, hp => by
    simp at h
    subst h
    rw [Nat.zero_mul, Nat.zero_add, rcs, List.set_append_left _ _ (by simpa using hj), hp]
    rfl
  | x :: r, i + 1, j, p, p', v, h, hj, hp => by
    have := rcs_set r i j p p' v (by simpa using h) hj hp
    rw [rcs, List.set_append_right _ _ (by simp; omega), show (i + 1) * 8 + j - x.l.length = i * 8 + j by simp; omega, this]
    rfl
structure Rb (w : World) (base r : Nat) (L : List Rw) : Prop where
  lo : base ≤ r
  own : ∃ v, w.heap[r]? = some (.cells #[v] 99) ∧ w.ownsRow base 96 8 v L.length (rcs L)
theorem Rb.same {w w' : World} {base r : Nat} {L : List Rw} (h : Rb w base r L) (hk : ∀ (k : Nat) (o : Obj), w.heap[k]? = some o → (∃ C, o = .cells C 99 ∨ o = .cells C 96) → w'.heap[k]? = some o) : Rb w' base r L := by
  obtain ⟨v, h1, h2⟩ := h.own
  exact ⟨h.lo, v, hk _ _ h1 ⟨_, Or.inl rfl⟩, own_keep h2 (fun k C hC => hk k _ hC ⟨_, Or.inr rfl⟩)⟩
theorem Rb.below {w w' : World} {base r : Nat} {L : List Rw} (h : Rb w base r L) (hb : Below w.heap.size w w') : Rb w' base r L :=
  h.same (fun _ _ hk _ => bkb hk hb)
theorem Rb.fr {w w' : World} {base r : Nat} {L : List Rw} {bs : Nat} {ts : List TypeId} (h : Rb w base r L) (hb : Fr bs ts w w') (h1 : ts.contains 99 = false) (h2 : ts.contains 96 = false) : Rb w' base r L :=
  h.same (fun k o hk ho => hb.kept k o hk (by
    obtain ⟨C, rfl | rfl⟩ := ho
    · simp only [keeps, h1]; rfl
    · simp only [keeps, h2]; rfl))
theorem Rb.lt {w : World} {base r : Nat} {L : List Rw} (h : Rb w base r L) : r < w.heap.size := by
  obtain ⟨v, h1, _⟩ := h.own
  exact blk_lt h1
theorem Rb.drewN {w : World} {base r : Nat} {L : List Rw} (h : Rb w base r L) (n : Nat) : Rb (w.drewN n) base r L := h.same (fun _ _ hk _ => hk)
theorem Rb.row {w : World} {base r : Nat} {L : List Rw} (h : Rb w base r L) : ∃ ao cap, w.heap[r]? = some (.cells #[.slice ao L.length cap] 99) ∧ w.ownsRow base 96 8 (.slice ao L.length cap) L.length (rcs L) ∧ L.length ≤ cap ∧ ∀ i p, L[i]? = some p → ∃ g, ao = some ⟨g, 0, none⟩ ∧ base ≤ g ∧ g < w.heap.size ∧ g ≠ r ∧ (∀ o, w.frozen? ⟨g, o, none⟩ = false) ∧ ∀ j, j < 8 → w.cell? ⟨g, i * 8 + j, none⟩ = p.l[j]? := by
  obtain ⟨v, h1, h2⟩ := h.own
  obtain ⟨ao, cap, rfl, _⟩ := own_slice h2
  refine ⟨ao, cap, h1, h2, ?_, fun i p hp => ?_⟩
  · rcases h2.2 with ⟨_, h0⟩ | ⟨g, cap', cur, he, hbg, hgg, hc, _⟩
    · omega
    · simp only [Value.slice.injEq] at he
      obtain ⟨_, _, rfl⟩ := he
      exact hc
  have hi : i < L.length := (List.getElem?_eq_some_iff.1 hp).1
  rcases h2.2 with ⟨_, h0⟩ | ⟨g, cap', cur, he, hbg, hgg, _⟩
  · omega
  · simp only [Value.slice.injEq] at he
    obtain ⟨rfl, _, rfl⟩ := he
    refine ⟨g, rfl, hbg, blk_lt hgg, fun e => ?_, fun o => bkf hgg o, fun j hj => ?_⟩
    · rw [e, h1] at hgg; simp at hgg
    · rw [h2.cellAt _ (by omega), rcs_get L i j p hp hj]
def atB (sl : Int) (r : Rw) : Bool := r.lv && decide (r.sl = sl)
def atI (L : List Rw) (sl : Int) : Int := match L.findIdx? (atB sl) with
  | some i => i
  | none => -1
theorem atI_none {L : List Rw} {sl : Int} (h : ∀ (i : Nat) p, L[i]? = some p → atB sl p = false) : atI L sl = -1 := by
  unfold atI
  have : L.findIdx? (atB sl) = none := by
    rw [List.findIdx?_eq_none_iff]
    intro p hp
    obtain ⟨i, hi⟩ := List.getElem?_of_mem hp
    simpa using h i p hi
  rw [this]
theorem atI_some {L : List Rw} {sl : Int} {k : Nat} {p : Rw} (hp : L[k]? = some p) (he : atB sl p = true) (h : ∀ (i : Nat) p, i < k → L[i]? = some p → atB sl p = false) : atI L sl = k := by
  unfold atI
  have hk : k < L.length := (List.getElem?_eq_some_iff.1 hp).1
  have : L.findIdx? (atB sl) = some k := by
    rw [List.findIdx?_eq_some_iff_getElem]
    refine ⟨hk, ?_, fun j hj => ?_⟩
    · rw [List.getElem?_eq_getElem hk] at hp
      cases hp
      simpa using he
    · simpa using h j L[j] hj (List.getElem?_eq_getElem (by omega))
  rw [this]
theorem atI_cases (L : List Rw) (sl : Int) : (atI L sl = -1 ∧ ∀ (i : Nat) p, L[i]? = some p → atB sl p = false) ∨ ∃ (k : Nat) (p : Rw), atI L sl = k ∧ L[k]? = some p ∧ p.lv = true ∧ p.sl = sl := by
  unfold atI
  cases h : L.findIdx? (atB sl) with
  | none =>
    left
    rw [List.findIdx?_eq_none_iff] at h
    exact ⟨rfl, fun i p hp => by simpa using h p (List.mem_of_getElem? hp)⟩
  | some k =>
    right
    rw [List.findIdx?_eq_some_iff_getElem] at h
    obtain ⟨hk, h1, _⟩ := h
    refine ⟨k, L[k], rfl, List.getElem?_eq_getElem hk, ?_⟩
    simpa [atB] using h1
set_option maxHeartbeats 2000000 in
theorem rat_ok {w : World} {base r : Nat} {L : List Rw} (h : Rb w base r L) (hl : L.length ≤ 1000) (sl : Int) :
    Calls Try.prog 93 #[pq r, i64 sl] w fun e w' => e = .returned (i64 (atI L sl)) ∧ Below w.heap.size w w' := by
  obtain ⟨ao, cap, hbk, hown, hcap, _⟩ := h.row
  have HR : Hid (Rb w base r L) := h
  have b0 : w.cell? ⟨r, 0, none⟩ = some (.slice ao L.length cap) := bkc hbk 0
  have HK : Hid (w.heap[r]? = some (.cells #[.slice ao L.length cap] 99)) := hbk
  obtain ⟨N, hN⟩ : ∃ N, N = L.length := ⟨_, rfl⟩
  have HN : Hid (N = L.length) := hN
  rw [← hN] at b0 hl hcap
  have hcI : (N : Int) ≤ cap := by omega
  have hNI : (N : Int) ≤ 1000 := by omega
  clear h hbk hown hN
  go_enter Try.func93, Try.ntmps93
  go_wp2_with fail
  go_loopw [12] (fun i wr => ∃ k : Nat, k ≤ N ∧ i = i64 k ∧ Below w.heap.size w wr ∧ Hid (∀ (i : Nat) p, i < k → L[i]? = some p → atB sl p = false)) (fun i _ => N - (intOf i).toNat)
  case atStart => exact ⟨0, by omega, rfl, Below.refl _ _, fun i p hi => by omega⟩
  case round =>
    obtain ⟨k, hk, rfl, hb, HO⟩ := hrel
    by_cases hlt : k < N
    · have hlt2 : k < L.length := by rw [← HN.out]; exact hlt
      obtain ⟨p, hp⟩ : ∃ p, L[k]? = some p := ⟨_, List.getElem?_eq_getElem hlt2⟩
      obtain ⟨ao', cap', hbk', hown', hcap', hrow⟩ := (HR.out.below hb).row
      have hs := (bkb HK.out hb).symm.trans hbk'
      simp only [Option.some.injEq, Obj.cells.injEq, Array.mk.injEq, List.cons.injEq, Value.slice.injEq, true_and, and_true] at hs
      obtain ⟨rfl, rfl⟩ := hs
      obtain ⟨g, rfl, hbg, hgl, _, _, hc⟩ := hrow k p hp
      have c0 : wr.cell? ⟨g, k * 8, none⟩ = some (i64 p.c.env) := hc 0 (by omega)
      have c1 : wr.cell? ⟨g, k * 8 + 1, none⟩ = some (i64 p.c.kind) := hc 1 (by omega)
      have c2 : wr.cell? ⟨g, k * 8 + 2, none⟩ = some (i64 p.c.num) := hc 2 (by omega)
      have c3 : wr.cell? ⟨g, k * 8 + 3, none⟩ = some (i64 p.c.rts) := hc 3 (by omega)
      have c4 : wr.cell? ⟨g, k * 8 + 4, none⟩ = some (i64 p.sl) := hc 4 (by omega)
      have c5 : wr.cell? ⟨g, k * 8 + 5, none⟩ = some (i64 p.gn) := hc 5 (by omega)
      have c6 : wr.cell? ⟨g, k * 8 + 6, none⟩ = some (i64 p.fr) := hc 6 (by omega)
      have c7 : wr.cell? ⟨g, k * 8 + 7, none⟩ = some (.bool p.lv) := hc 7 (by omega)
      have HB : Hid (∀ o, Below w.heap.size w (wr.alloc o)) := fun o => hb.alloc hb.size o
      have HP : Hid (L[k]? = some p) := hp
      clear hb hrow hc hp hbk' hown'
      have next : atB sl p = false → Hid (∀ (i : Nat) p, i < k + 1 → L[i]? = some p → atB sl p = false) := fun he i p' hi hp' => by
        by_cases hik : i = k
        · subst hik
          have := HP.out.symm.trans hp'
          simp at this
          subst this
          exact he
        · exact HO.out i p' (by omega) hp'
      cases hlv : p.lv with
      | true =>
        rw [hlv] at c7
        by_cases he : p.sl = sl
        · have HE : Hid (atI L sl = k) := atI_some HP.out (by simp [atB, hlv, he]) HO.out
          have hq : (p.sl == sl) = true := by simpa using he
          clear he next hlv
          go_wp2_with fail
          go_ret
          exact ⟨by rw [HE.out]; rfl, HB.out _⟩
        · have HE := next (by simp [atB, hlv, he])
          have hq : (p.sl == sl) = false := by simpa using he
          clear he next hlv
          go_wp2_with fail
          exact ⟨⟨k + 1, by omega, by go_num, HB.out _, HE⟩, by simp [intOf]; omega⟩
      | false =>
        rw [hlv] at c7
        have HE := next (by simp [atB, hlv])
        clear next hlv
        go_wp2_with fail
        exact ⟨⟨k + 1, by omega, by go_num, HB.out _, HE⟩, by simp [intOf]; omega⟩
    · have HE : Hid (atI L sl = -1) := atI_none fun i p hp => HO.out i p (by have := (List.getElem?_eq_some_iff.1 hp).1; have := HN.out; omega) hp
      have HB : Hid (Below w.heap.size w wr) := hb
      clear hb
      go_wp2_with fail
      go_ret
      exact ⟨by rw [HE.out]; rfl, HB.out⟩
def lvR (L : List Rw) : Nat := (L.filter (·.lv)).length
theorem lvR_succ {L : List Rw} {k : Nat} {p : Rw} (hp : L[k]? = some p) : lvR (L.take (k + 1)) = lvR (L.take k) + (if p.lv = true then 1 else 0) := by
  unfold lvR
  rw [List.take_add_one, hp, List.filter_append, List.length_append]
  cases h : p.lv <;> simp [h]
theorem lvR_le (L : List Rw) : lvR L ≤ L.length := List.length_filter_le _ _
end Go.Proofs.Ytnknhencobhjdaa.Cp
namespace Go.Proofs.Ytnknhencobhjdaa.Cp
open Go.ChangeShapes Go.WideShapes Go.ChangeAt Go.RowKit Go.Deep
def frR (L : List Rw) (i : Nat) : Int := match L[i]? with
  | some p => p.fr
  | none => -1
def lvA (L : List Rw) (i : Nat) : Bool := match L[i]? with
  | some p => p.lv
  | none => false
def upF (L : List Rw) (top : Int) : Nat → Int → Bool
  | 0, _ => false
  | n + 1, k => if k < 0 then false else if k = top then true else upF L top n (frR L k.toNat)
def Fw (L : List Rw) : Prop := ∀ (i : Nat) p, L[i]? = some p → p.fr = -1 ∨ ∃ j : Nat, p.fr = j ∧ j < i
def blR (L : List Rw) (i : Nat) (top : Int) : Bool := upF L top (i + 2) (frR L i)
def upMs (x : Int) : Nat := if x = -1 then 0 else x.toNat + 1
theorem upF_end (L : List Rw) (top : Int) (n : Nat) : upF L top (n + 1) (-1) = false := by simp [upF]
theorem upF_yes (L : List Rw) (n j : Nat) : upF L (j : Nat) (n + 1) (j : Nat) = true := by
  unfold upF
  rw [if_neg (by omega), if_pos rfl]
theorem upF_no (L : List Rw) (top : Int) (n j : Nat) (p : Rw) (hp : L[j]? = some p) (h : ¬ (j : Int) = top) : upF L top (n + 1) (j : Nat) = upF L top n p.fr := by
  rw [upF, if_neg (by omega), if_neg h, Int.toNat_natCast, frR, hp]
set_option maxHeartbeats 2000000 in
theorem rbelow_ok {w : World} {base r : Nat} {L : List Rw} (h : Rb w base r L) (hl : L.length ≤ 1000) (hfw : Fw L) (i : Nat) (q : Rw) (hq : L[i]? = some q) (top : Int) :
    Calls Try.prog 94 #[pq r, i64 (i : Nat), i64 top] w fun e w' => e = .returned (.bool (blR L i top)) ∧ w' = w := by
  obtain ⟨ao, cap, hbk, hown, hcap, hrow⟩ := h.row
  have b0 : w.cell? ⟨r, 0, none⟩ = some (.slice ao L.length cap) := bkc hbk 0
  obtain ⟨g, rfl, _, _, _, _, hc0⟩ := hrow i q hq
  have hiL : i < L.length := (List.getElem?_eq_some_iff.1 hq).1
  have hrow' : ∀ (j : Nat) p, L[j]? = some p → w.cell? ⟨g, j * 8 + 6, none⟩ = some (i64 p.fr) := fun j p hp => by
    obtain ⟨g', e, _, _, _, _, hc⟩ := hrow j p hp
    simp only [Option.some.injEq, Addr.mk.injEq] at e
    obtain ⟨rfl, _⟩ := e
    exact hc 6 (by omega)
  have HRow := hid hrow'
  have c6 : w.cell? ⟨g, i * 8 + 6, none⟩ = some (i64 q.fr) := hc0 6 (by omega)
  have HFW : Hid (Fw L) := hfw
  have hcI : (L.length : Int) ≤ cap := by omega
  have hNI : (L.length : Int) ≤ 1000 := by omega
  have hiI : (i : Int) < L.length := by omega
  obtain ⟨R, hR⟩ : ∃ R, R = blR L i top := ⟨_, rfl⟩
  rw [← hR]
  have HR0 : Hid (R = upF L top (i + 2) q.fr) := by rw [hR]; unfold blR frR; rw [hq]; exact hid rfl
  have HX0 : Hid (q.fr = -1 ∨ ∃ j : Nat, q.fr = j ∧ j < i) := hfw i q hq
  clear h hbk hown hrow hc0 hfw hR hrow' hq
  go_enter Try.func94, Try.ntmps94
  go_wp2_with fail
  go_loop [7] (fun u => ∃ (x : Int) (n : Nat), u = i64 x ∧ Hid (R = upF L top n x) ∧ Hid ((x = -1 ∧ 1 ≤ n) ∨ ∃ (j : Nat) (p : Rw), x = j ∧ L[j]? = some p ∧ j + 2 ≤ n)) (fun u => upMs (intOf u))
  case atStart =>
    refine ⟨q.fr, i + 2, rfl, HR0, ?_⟩
    rcases HX0.out with h | ⟨j, h1, h2⟩
    · exact Or.inl ⟨h, by omega⟩
    · exact Or.inr ⟨j, _, h1, List.getElem?_eq_getElem (by omega), by omega⟩
  case round =>
    obtain ⟨x, n, rfl, HRn, HX⟩ := hrel
    rcases HX.out with ⟨rfl, h1⟩ | ⟨j, p, rfl, hp, hn⟩
    · obtain ⟨n', rfl⟩ : ∃ n', n = n' + 1 := ⟨n - 1, by omega⟩
      have HF : Hid (R = false) := by rw [HRn.out]; exact upF_end L top n'
      clear HX
      go_wp2_with fail
      go_ret
      exact ⟨by rw [HF.out]; rfl, rfl⟩
    · obtain ⟨n', rfl⟩ : ∃ n', n = n' + 1 := ⟨n - 1, by omega⟩
      have hjL : j < L.length := (List.getElem?_eq_some_iff.1 hp).1
      have hjI : (j : Int) < L.length := by omega
      by_cases ht : (j : Int) = top
      · have HF : Hid (R = true) := by rw [HRn.out, ← ht]; exact upF_yes L n' j
        have hb : ((j : Int) == top) = true := by simpa using ht
        clear HX ht hp
        go_wp2_with fail
        go_ret
        exact ⟨by rw [HF.out]; rfl, rfl⟩
      · have HF : Hid (R = upF L top n' p.fr) := by rw [HRn.out]; exact upF_no L top n' j p hp ht
        have hb : ((j : Int) == top) = false := by simpa using ht
        have t6 := HRow.out j p hp
        have HU := hid (HFW.out j p hp)
        clear HX ht hp
        go_wp2_with fail
        go_round
        case rel =>
          refine ⟨p.fr, n', rfl, HF, ?_⟩
          rcases HU.out with h | ⟨j', h1, h2⟩
          · exact Or.inl ⟨h, by omega⟩
          · exact Or.inr ⟨j', _, h1, List.getElem?_eq_getElem (by omega), by omega⟩
        case measure =>
          show upMs p.fr < upMs (j : Nat)
          unfold upMs
          rcases HU.out with h | ⟨j', h1, h2⟩
          · rw [if_pos h, if_neg (by omega)]; omega
          · rw [h1, if_neg (by omega), if_neg (by omega), Int.toNat_natCast, Int.toNat_natCast]; omega
def offR (p : Rw) : Rw := { p with lv := false }
def offs (S : Nat → Bool) (L : List Rw) : List Rw := L.mapIdx fun i p => if S i = true then offR p else p
theorem offs_len (S : Nat → Bool) (L : List Rw) : (offs S L).length = L.length := by simp [offs]
theorem offs_get (S : Nat → Bool) (L : List Rw) (i : Nat) : (offs S L)[i]? = (L[i]?).map fun p => if S i = true then offR p else p := by simp [offs]
theorem offs_fr (S : Nat → Bool) (L : List Rw) (i : Nat) : frR (offs S L) i = frR L i := by
  unfold frR
  rw [offs_get]
  cases L[i]? with
  | none => rfl
  | some p => by_cases h : S i = true <;> simp [h, offR]
theorem offs_up (S : Nat → Bool) (L : List Rw) (top : Int) : ∀ (n : Nat) (k : Int), upF (offs S L) top n k = upF L top n k
  | 0, _ => rfl
  | n + 1, k => by
    unfold upF
    rw [offs_fr, offs_up S L top n]
theorem offs_bl (S : Nat → Bool) (L : List Rw) (i : Nat) (top : Int) : blR (offs S L) i top = blR L i top := by
  unfold blR
  rw [offs_fr, offs_up]
theorem offs_fw {S : Nat → Bool} {L : List Rw} (h : Fw L) : Fw (offs S L) := fun i p hp => by
  rw [offs_get] at hp
  cases hq : L[i]? with
  | none => rw [hq] at hp; cases hp
  | some q =>
    rw [hq] at hp
    have : p.fr = q.fr := by
      simp only [Option.map_some, Option.some.injEq] at hp
      rw [← hp]
      by_cases h : S i = true <;> simp [h, offR]
    rw [this]
    exact h i q hq
theorem offs_ext {S S' : Nat → Bool} {L : List Rw} (h : ∀ i, i < L.length → S i = S' i) : offs S L = offs S' L := by
  apply List.ext_getElem?
  intro i
  rw [offs_get, offs_get]
  cases hq : L[i]? with
  | none => rfl
  | some q => rw [h i (List.getElem?_eq_some_iff.1 hq).1]
theorem offs_none {S : Nat → Bool} {L : List Rw} (h : ∀ i, i < L.length → S i = false) : offs S L = L := by
  apply List.ext_getElem?
  intro i
  rw [offs_get]
  cases hq : L[i]? with
  | none => rfl
  | some q => rw [h i (List.getElem?_eq_some_iff.1 hq).1]; simp
theorem offs_offs (S S' : Nat → Bool) (L : List Rw) : offs S' (offs S L) = offs (fun i => S i || S' i) L := by
  apply List.ext_getElem?
  intro i
  rw [offs_get, offs_get, offs_get]
  cases L[i]? with
  | none => rfl
  | some q =>
    cases S i <;> cases S' i <;> simp [offR]
def klB (L : List Rw) (top : Nat) (self : Bool) (i : Nat) : Bool := lvA L i && (self && decide (i = top) || blR L i (top : Nat))
def upTo (k : Nat) (S : Nat → Bool) (i : Nat) : Bool := decide (i < k) && S i
def cnt (n : Nat) (S : Nat → Bool) : Nat := ((List.range n).filter S).length
theorem cnt_succ (n : Nat) (S : Nat → Bool) : cnt (n + 1) S = cnt n S + (if S n = true then 1 else 0) := by
  unfold cnt
  rw [List.range_succ, List.filter_append, List.length_append]
  by_cases h : S n = true <;> simp [h]
theorem cnt_le (n : Nat) (S : Nat → Bool) : cnt n S ≤ n := by
  unfold cnt
  exact Nat.le_trans (List.length_filter_le _ _) (by simp)
theorem offs_same {S : Nat → Bool} {L : List Rw} {k : Nat} (h : S k = false) : offs (upTo (k + 1) S) L = offs (upTo k S) L := offs_ext fun i _ => by
  unfold upTo
  by_cases h1 : i = k
  · subst h1; simp [h]
  · rw [show decide (i < k + 1) = decide (i < k) from decide_eq_decide.2 (by omega)]
theorem offs_set {S : Nat → Bool} {L : List Rw} {k : Nat} {p : Rw} (hp : L[k]? = some p) (h : S k = true) : offs (upTo (k + 1) S) L = (offs (upTo k S) L).set k (offR p) := by
  apply List.ext_getElem?
  intro i
  rw [offs_get]
  by_cases h1 : k = i
  · subst h1
    rw [List.getElem?_set_self (by rw [offs_len]; exact (List.getElem?_eq_some_iff.1 hp).1), hp]
    simp [upTo, h]
  · rw [List.getElem?_set_ne h1, offs_get]
    unfold upTo
    rw [show decide (i < k + 1) = decide (i < k) from decide_eq_decide.2 (by omega)]
theorem offs_at {S : Nat → Bool} {L : List Rw} {k : Nat} {p : Rw} (hp : L[k]? = some p) : (offs (upTo k S) L)[k]? = some p := by
  rw [offs_get, hp]
  simp [upTo]
theorem Rb.off {w : World} {base r : Nat} {L : List Rw} {g k n cap : Nat} {p : Rw} (h : Rb w base r L) (hb : w.heap[r]? = some (.cells #[.slice (some ⟨g, 0, none⟩) n cap] 99)) (hp : L[k]? = some p) : Rb (w.setCell ⟨g, k * 8 + 7, none⟩ (.bool false)) base r (L.set k (offR p)) ∧ Fr base [99, 96] w (w.setCell ⟨g, k * 8 + 7, none⟩ (.bool false)) := by
  obtain ⟨v, h1, h2⟩ := h.own
  rw [hb] at h1
  simp only [Option.some.injEq, Obj.cells.injEq, Array.mk.injEq, List.cons.injEq, and_true] at h1
  have hk : k < L.length := (List.getElem?_eq_some_iff.1 hp).1
  subst h1
  obtain ⟨hl, h3⟩ := h2
  rcases h3 with ⟨hn, _⟩ | ⟨g', cap', cur, he, hbg, hgg, hc1, hc2, hc3, htk⟩
  · simp at hn
  · simp only [Value.slice.injEq, Option.some.injEq, Addr.mk.injEq] at he
    obtain ⟨⟨rfl, _⟩, hn, rfl⟩ := he
    have hgr : r ≠ g := fun e => by rw [e, hgg] at hb; simp at hb
    refine ⟨⟨h.lo, .slice (some ⟨g, 0, none⟩) n cap, by rw [Below.heap_setCell _ _ _ _ (by exact hgr)]; exact hb, ?_, ?_⟩, ?_⟩
    · rw [List.length_set, rcs_len, List.length_set]
    · refine .inr ⟨g, cap, _, by rw [List.length_set, hn], hbg, heap_setCell_same w g _ _ 96 _ hgg, by rw [List.length_set]; exact hc1, hc2, by simpa using hc3, ?_⟩
      rw [List.length_set]
      have e1 : (rcs L).set (k * 8 + 7) (.bool false) = rcs (L.set k (offR p)) := rcs_set L k 7 p (offR p) _ hp (by omega) rfl
      rw [← e1, ← htk, Array.toList_setIfInBounds, List.take_set]
    · exact Fr.of_touch ((Touch.refl g w).setCell rfl _) hgg (by rfl) hbg
set_option maxHeartbeats 2000000 in
theorem rkill_ok {w : World} {base r : Nat} {L : List Rw} (h : Rb w base r L) (hl : L.length ≤ 1000) (hfw : Fw L) (top : Nat) (self : Bool) :
    Calls Try.prog 72 #[pq r, i64 (top : Nat), .bool self] w fun e w' => e = .returned (i64 (cnt L.length (klB L top self) : Nat)) ∧ Rb w' base r (offs (klB L top self) L) ∧ Fr base [99, 96] w w' := by
  obtain ⟨ao, cap, hbk, hown, hcap, _⟩ := h.row
  have b0 : w.cell? ⟨r, 0, none⟩ = some (.slice ao L.length cap) := bkc hbk 0
  have hblo : base ≤ w.heap.size := by have := h.lt; have := h.lo; omega
  obtain ⟨N, hN⟩ : ∃ N, N = L.length := ⟨_, rfl⟩
  rw [← hN] at b0 hl hcap hbk ⊢
  have HN : Hid (N = L.length) := hN
  have HFW : Hid (Fw L) := hfw
  have HR0 : Hid (Rb w base r (offs (upTo 0 (klB L top self)) L)) := by rw [offs_none (fun i _ => by simp [upTo])]; exact h
  have HK0 : Hid (w.heap[r]? = some (.cells #[.slice ao N cap] 99)) := hbk
  have HE : Hid (offs (klB L top self) L = offs (upTo N (klB L top self)) L) := offs_ext fun i hi => by rw [← hN] at hi; simp [upTo, hi]
  have hcI : (N : Int) ≤ cap := by omega
  have hNI : (N : Int) ≤ 1000 := by omega
  clear h hbk hown hN hfw
  go_enter Try.func72, Try.ntmps72
  go_wp2_with fail
  go_loopw [7, 14] (fun n i wr => ∃ k : Nat, k ≤ N ∧ i = i64 k ∧ n = i64 (cnt k (klB L top self) : Nat) ∧ Hid (Rb wr base r (offs (upTo k (klB L top self)) L)) ∧ Hid (Fr base [99, 96] w wr) ∧ Hid (wr.heap[r]? = some (.cells #[.slice ao N cap] 99))) (fun _ i _ => N - (intOf i).toNat)
  case atStart => exact ⟨0, by omega, rfl, rfl, HR0, Fr.refl _ _ _, HK0⟩
  case round =>
    obtain ⟨k, hk, rfl, rfl, HR, HF, HK⟩ := hrel
    have hle : cnt k (klB L top self) ≤ 1000 := Nat.le_trans (cnt_le _ _) (by omega)
    by_cases hlt : k < N
    · have hlt2 : k < L.length := by rw [← HN.out]; exact hlt
      obtain ⟨p, hp⟩ : ∃ p, L[k]? = some p := ⟨_, List.getElem?_eq_getElem hlt2⟩
      have hp2 := offs_at (S := klB L top self) hp
      obtain ⟨ao', cap', hbk', hown', hcap', hrow⟩ := HR.out.row
      have hs := HK.out.symm.trans hbk'
      simp only [Option.some.injEq, Obj.cells.injEq, Array.mk.injEq, List.cons.injEq, Value.slice.injEq, and_true] at hs
      obtain ⟨rfl, hsN, rfl⟩ := hs
      clear hsN
      obtain ⟨g, rfl, hbg, hgl, hgr, hfz, hc⟩ := hrow k p hp2
      have c7 : wr.cell? ⟨g, k * 8 + 7, none⟩ = some (.bool p.lv) := hc 7 (by omega)
      have f7 : wr.frozen? ⟨g, k * 8 + 7, none⟩ = false := hfz _
      have b1 : wr.cell? ⟨r, 0, none⟩ = some (.slice (some ⟨g, 0, none⟩) N cap) := bkc HK.out 0
      have HSu := hid (cnt_succ k (klB L top self))
      have hcall := rbelow_ok HR.out (by rw [offs_len, ← HN.out]; exact hl) (offs_fw HFW.out) k p hp2 (top : Nat)
      rw [offs_bl] at hcall
      obtain ⟨ho1, ho2⟩ := HR.out.off HK.out hp2
      have HO1 := hid ho1
      have HO2 : Hid (Fr base [99, 96] w (wr.setCell ⟨g, k * 8 + 7, none⟩ (.bool false))) := HF.out.trans ho2
      have HK2 : Hid ((wr.setCell ⟨g, k * 8 + 7, none⟩ (.bool false)).heap[r]? = some (.cells #[.slice (some ⟨g, 0, none⟩) N cap] 99)) := by rw [Below.heap_setCell _ _ _ _ (by show r ≠ g; omega)]; exact HK.out
      have hkl : klB L top self k = (p.lv && (self && decide (k = top) || blR L k (top : Nat))) := by rw [klB, lvA, hp]
      have HP := hid hp
      have hkN : (k : Int) < N := by omega
      clear hrow hc hp hp2 hbk' hown' ho1 ho2
      generalize cnt k (klB L top self) = M at *
      have fin0 : klB L top self k = false → Hid (i64 (M : Nat) = i64 (cnt (k + 1) (klB L top self) : Nat) ∧ Rb wr base r (offs (upTo (k + 1) (klB L top self)) L)) := fun hf => by
        refine ⟨by rw [HSu.out, hf]; simp, ?_⟩
        rw [offs_same hf]
        exact HR.out
      have fin1 : klB L top self k = true → Hid (i64 ((M : Int) + 1) = i64 (cnt (k + 1) (klB L top self) : Nat) ∧ Rb (wr.setCell ⟨g, k * 8 + 7, none⟩ (.bool false)) base r (offs (upTo (k + 1) (klB L top self)) L)) := fun hf => by
        refine ⟨by rw [HSu.out, hf]; simp, ?_⟩
        rw [offs_set HP.out hf]
        exact HO1.out
      cases hlv : p.lv with
      | false =>
        rw [hlv] at c7 hkl
        have HZ := fin0 (by rw [hkl]; rfl)
        clear fin0 fin1 hkl hcall hlv
        go_wp2_with fail
        exact ⟨⟨k + 1, by omega, by go_num, HZ.out.1, HZ.out.2, HF, HK⟩, by simp [intOf]; omega⟩
      | true =>
        rw [hlv] at c7 hkl
        by_cases hst : self = true ∧ k = top
        · obtain ⟨rfl, rfl⟩ := hst
          have HZ := fin1 (by rw [hkl]; simp)
          clear fin0 fin1 hkl hcall hlv
          go_wp2_with fail
          exact ⟨⟨k + 1, by omega, by go_num, HZ.out.1, HZ.out.2, HO2, HK2⟩, by simp [intOf]; omega⟩
        · have hsf : (self && decide (k = top)) = false := by
            rw [Bool.and_eq_false_iff]
            cases self with
            | false => exact Or.inl rfl
            | true => exact Or.inr (decide_eq_false (fun e => hst ⟨rfl, e⟩))
          rw [hsf] at hkl
          simp only [Bool.false_or, Bool.true_and] at hkl
          cases hbl : blR L k (top : Nat) with
          | true =>
            rw [hbl] at hkl hcall
            have HZ := fin1 hkl
            have HC := hid hcall
            clear fin0 fin1 hkl hcall hlv hbl hsf
            cases self with
            | false =>
              clear hst
              go_wp2_with (go_at_call 94; refine HC.out.mono ?_; rintro e v1 ⟨rfl, hv⟩; replace hv := hv.symm; subst hv)
              exact ⟨⟨k + 1, by omega, by go_num, HZ.out.1, HZ.out.2, HO2, HK2⟩, by simp [intOf]; omega⟩
            | true =>
              have hne : ((k : Int) == (top : Int)) = false := beq_eq_false_iff_ne.2 (fun e => hst ⟨rfl, by omega⟩)
              clear hst
              go_wp2_with (go_at_call 94; refine HC.out.mono ?_; rintro e v1 ⟨rfl, hv⟩; replace hv := hv.symm; subst hv)
              exact ⟨⟨k + 1, by omega, by go_num, HZ.out.1, HZ.out.2, HO2, HK2⟩, by simp [intOf]; omega⟩
          | false =>
            rw [hbl] at hkl hcall
            have HZ := fin0 hkl
            have HC := hid hcall
            clear fin0 fin1 hkl hcall hlv hbl hsf
            cases self with
            | false =>
              clear hst
              go_wp2_with (go_at_call 94; refine HC.out.mono ?_; rintro e v1 ⟨rfl, hv⟩; replace hv := hv.symm; subst hv)
              exact ⟨⟨k + 1, by omega, by go_num, HZ.out.1, HZ.out.2, HF, HK⟩, by simp [intOf]; omega⟩
            | true =>
              have hne : ((k : Int) == (top : Int)) = false := beq_eq_false_iff_ne.2 (fun e => hst ⟨rfl, by omega⟩)
              clear hst
              go_wp2_with (go_at_call 94; refine HC.out.mono ?_; rintro e v1 ⟨rfl, hv⟩; replace hv := hv.symm; subst hv)
              exact ⟨⟨k + 1, by omega, by go_num, HZ.out.1, HZ.out.2, HF, HK⟩, by simp [intOf]; omega⟩
    · obtain rfl : k = N := by omega
      go_wp2_with fail
      go_ret
      exact ⟨rfl, by rw [HE.out]; exact HR.out, HF.out⟩
end Go.Proofs.Ytnknhencobhjdaa.Cp
namespace Go.Proofs.Ytnknhencobhjdaa.Cp
open Go.ChangeShapes Go.WideShapes Go.ChangeAt Go.RowKit Go.Deep
def fdI (L : List Rw) (env sl gn : Int) : Int := if atI L sl < 0 then -1 else match L[(atI L sl).toNat]? with
  | some p => if p.gn = gn ∧ p.c.env = env then atI L sl else -1
  | none => -1
theorem fdI_cases (L : List Rw) (env sl gn : Int) : (fdI L env sl gn = -1 ∧ ∀ (i : Nat) p, L[i]? = some p → atI L sl = i → ¬ (p.gn = gn ∧ p.c.env = env)) ∨ ∃ (k : Nat) (p : Rw), fdI L env sl gn = k ∧ atI L sl = k ∧ L[k]? = some p ∧ p.lv = true ∧ p.sl = sl ∧ p.gn = gn ∧ p.c.env = env := by
  unfold fdI
  rcases atI_cases L sl with ⟨h, _⟩ | ⟨k, p, h1, h2, h3, h4⟩
  · left
    rw [h]
    exact ⟨rfl, fun i p _ he => by omega⟩
  · rw [h1, if_neg (by omega), Int.toNat_natCast, h2]
    simp only
    by_cases hc : p.gn = gn ∧ p.c.env = env
    · right
      rw [if_pos hc]
      exact ⟨k, p, rfl, rfl, h2, h3, h4, hc.1, hc.2⟩
    · left
      rw [if_neg hc]
      refine ⟨rfl, fun i q hq he => ?_⟩
      obtain rfl : i = k := by omega
      rw [h2] at hq
      cases hq
      exact hc
set_option maxHeartbeats 2000000 in
theorem rfind_ok {w : World} {base r : Nat} {L : List Rw} (h : Rb w base r L) (hl : L.length ≤ 1000) (env sl gn : Int) :
    Calls Try.prog 70 #[pq r, i64 env, .agg #[i64 sl, i64 gn]] w fun e w' => e = .returned (i64 (fdI L env sl gn)) ∧ Below w.heap.size w w' := by
  obtain ⟨V, hV⟩ : ∃ V, V = w.alloc (.cells #[i64 sl, i64 gn] 81) := ⟨_, rfl⟩
  have HV : Hid (w.alloc (.cells #[i64 sl, i64 gn] 81) = V) := hV.symm
  have hbV : Below w.heap.size w V := by rw [hV]; exact bl1 w _
  have HQ : Hid (V.heap[w.heap.size]? = some (.cells #[i64 sl, i64 gn] 81)) := by rw [hV]; exact hlx w _
  have q0 : V.cell? ⟨w.heap.size, 0, none⟩ = some (i64 sl) := bkc HQ.out 0
  have hA := rat_ok (h.below hbV) hl sl
  have HRV := hid (h.below hbV)
  have HBV := hid hbV
  rcases atI_cases L sl with ⟨h0, _⟩ | ⟨k, p, h1, h2, h3, h4⟩
  · have e : fdI L env sl gn = -1 := by unfold fdI; rw [h0]; rfl
    rw [e]
    rw [h0] at hA
    have HA := hid hA
    clear hA e h0 h hV hbV
    go_enter Try.func70, Try.ntmps70
    go_upto_region 1 with fail
    rw [HV.out]
    go_wp2_with fail
    refine HA.out.mono ?_
    rintro e w1 ⟨rfl, hb1⟩
    have HB1 : Hid (Below w.heap.size w w1) := HBV.out.trans (hb1.mono HBV.out.size)
    clear hb1
    go_upto_region 2 with fail
    go_quiet (fail)
    go_wp2_with fail
    go_ret
    exact ⟨rfl, below_drewN HB1.out nq⟩
  · rw [h1] at hA
    have HA := hid hA
    have hkL : k < L.length := (List.getElem?_eq_some_iff.1 h2).1
    obtain ⟨ao, cap, hbk, _, hcap, hrow⟩ := HRV.out.row
    obtain ⟨g, rfl, _, hgl, _, _, hc⟩ := hrow k p h2
    have hkI : (k : Int) < L.length := by omega
    have hcI : (L.length : Int) ≤ cap := by omega
    have hNI : (L.length : Int) ≤ 1000 := by omega
    have hk0 : decide ((k : Int) < 0) = false := decide_eq_false (by omega)
    have HC : Hid (∀ W, Below V.heap.size V W → W.cell? ⟨r, 0, none⟩ = some (.slice (some ⟨g, 0, none⟩) L.length cap) ∧ W.cell? ⟨g, k * 8, none⟩ = some (i64 p.c.env) ∧ W.cell? ⟨g, k * 8 + 5, none⟩ = some (i64 p.gn) ∧ W.cell? ⟨w.heap.size, 1, none⟩ = some (i64 gn)) := fun W hW => ⟨bkc (bkb hbk hW) 0, (hW.cell (p := ⟨g, k * 8, none⟩) hgl).trans (hc 0 (by omega)), (hW.cell (p := ⟨g, k * 8 + 5, none⟩) hgl).trans (hc 5 (by omega)), bkc (bkb HQ.out hW) 1⟩
    by_cases hg : p.gn = gn
    · by_cases he : p.c.env = env
      · have e : fdI L env sl gn = k := by
          unfold fdI
          rw [h1, if_neg (by omega), Int.toNat_natCast, h2]
          simp [hg, he]
        rw [e]
        have hq1 : (p.gn != gn) = false := by simp [hg]
        have hq2 : (p.c.env != env) = false := by simp [he]
        clear e h1 h2 h3 h4 hA hbk hrow hc h hV hbV hg he
        go_enter Try.func70, Try.ntmps70
        go_upto_region 1 with fail
        rw [HV.out]
        go_wp2_with fail
        refine HA.out.mono ?_
        rintro e w1 ⟨rfl, hb1⟩
        have HB1 : Hid (Below w.heap.size w w1) := HBV.out.trans (hb1.mono HBV.out.size)
        obtain ⟨a0, a1, a2, a3⟩ := HC.out w1 hb1
        clear hb1
        go_upto_region 2 with fail
        go_quiet (fail)
        go_wp2_with fail
        go_ret
        exact ⟨rfl, below_drewN HB1.out nq⟩
      · have e : fdI L env sl gn = -1 := by
          unfold fdI
          rw [h1, if_neg (by omega), Int.toNat_natCast, h2]
          simp [he]
        rw [e]
        have hq1 : (p.gn != gn) = false := by simp [hg]
        have hq2 : (p.c.env != env) = true := by simpa using he
        clear e h1 h2 h3 h4 hA hbk hrow hc h hV hbV hg he
        go_enter Try.func70, Try.ntmps70
        go_upto_region 1 with fail
        rw [HV.out]
        go_wp2_with fail
        refine HA.out.mono ?_
        rintro e w1 ⟨rfl, hb1⟩
        have HB1 : Hid (Below w.heap.size w w1) := HBV.out.trans (hb1.mono HBV.out.size)
        obtain ⟨a0, a1, a2, a3⟩ := HC.out w1 hb1
        clear hb1
        go_upto_region 2 with fail
        go_quiet (fail)
        go_wp2_with fail
        go_ret
        exact ⟨rfl, below_drewN HB1.out nq⟩
    · have e : fdI L env sl gn = -1 := by
        unfold fdI
        rw [h1, if_neg (by omega), Int.toNat_natCast, h2]
        simp [hg]
      rw [e]
      have hq1 : (p.gn != gn) = true := by simpa using hg
      clear e h1 h2 h3 h4 hA hbk hrow hc h hV hbV hg
      go_enter Try.func70, Try.ntmps70
      go_upto_region 1 with fail
      rw [HV.out]
      go_wp2_with fail
      refine HA.out.mono ?_
      rintro e w1 ⟨rfl, hb1⟩
      have HB1 : Hid (Below w.heap.size w w1) := HBV.out.trans (hb1.mono HBV.out.size)
      obtain ⟨a0, a1, a2, a3⟩ := HC.out w1 hb1
      clear hb1
      go_upto_region 2 with fail
      go_quiet (fail)
      go_wp2_with fail
      go_ret
      exact ⟨rfl, below_drewN HB1.out nq⟩
theorem chE_eq (c : Cp) (r : Int) : chE (some c) r = if r = 1 ∧ c.rts % 2 = 1 ∨ r = 2 ∧ 2 ≤ c.rts then 0 else 91 := rfl
def rcE (L : List Rw) (i right : Int) : Int := if i < 0 then 90 else match L[i.toNat]? with
  | some p => chE (some p.c) right
  | none => 90
set_option maxHeartbeats 2000000 in
theorem rdrop_stale {w : World} {base r : Nat} {L : List Rw} (h : Rb w base r L) (hl : L.length ≤ 1000) (env sl gn : Int) (self : Bool) (hf : fdI L env sl gn = -1) :
    Calls Try.prog 39 #[pq r, i64 env, .agg #[i64 sl, i64 gn], .bool self] w fun e w' => e = .returned (.tuple #[i64 0, i64 90]) ∧ Below w.heap.size w w' := by
  obtain ⟨V, hV⟩ : ∃ V, V = w.alloc (.cells #[i64 sl, i64 gn] 81) := ⟨_, rfl⟩
  have HV : Hid (w.alloc (.cells #[i64 sl, i64 gn] 81) = V) := hV.symm
  have hbV : Below w.heap.size w V := by rw [hV]; exact bl1 w _
  have HQ : Hid (V.heap[w.heap.size]? = some (.cells #[i64 sl, i64 gn] 81)) := by rw [hV]; exact hlx w _
  have q0 : V.cell? ⟨w.heap.size, 0, none⟩ = some (i64 sl) := bkc HQ.out 0
  have q1 : V.cell? ⟨w.heap.size, 1, none⟩ = some (i64 gn) := bkc HQ.out 1
  have hA := rfind_ok (h.below hbV) hl env sl gn
  rw [hf] at hA
  have HA := hid hA
  have HBV := hid hbV
  clear hA hf h hV hbV
  go_enter Try.func39, Try.ntmps39
  go_upto_region 1 with fail
  rw [HV.out]
  go_wp2_with fail
  refine HA.out.mono ?_
  rintro e w1 ⟨rfl, hb1⟩
  have HB1 : Hid (Below w.heap.size w w1) := HBV.out.trans (hb1.mono HBV.out.size)
  clear hb1
  go_wp2_with fail
  go_ret2
  exact ⟨rfl, HB1.out⟩
set_option maxHeartbeats 2000000 in
theorem rdrop_ok {w : World} {base r : Nat} {L : List Rw} (h : Rb w base r L) (hl : L.length ≤ 1000) (hfw : Fw L) (env sl gn : Int) (self : Bool) (k : Nat) (hf : fdI L env sl gn = k) :
    Calls Try.prog 39 #[pq r, i64 env, .agg #[i64 sl, i64 gn], .bool self] w fun e w' => e = .returned (.tuple #[i64 (cnt L.length (klB L k self) : Nat), i64 0]) ∧ Rb w' base r (offs (klB L k self) L) ∧ Fr base [99, 96] w w' := by
  obtain ⟨V, hV⟩ : ∃ V, V = w.alloc (.cells #[i64 sl, i64 gn] 81) := ⟨_, rfl⟩
  have HV : Hid (w.alloc (.cells #[i64 sl, i64 gn] 81) = V) := hV.symm
  have hbV : Below w.heap.size w V := by rw [hV]; exact bl1 w _
  have HQ : Hid (V.heap[w.heap.size]? = some (.cells #[i64 sl, i64 gn] 81)) := by rw [hV]; exact hlx w _
  have q0 : V.cell? ⟨w.heap.size, 0, none⟩ = some (i64 sl) := bkc HQ.out 0
  have q1 : V.cell? ⟨w.heap.size, 1, none⟩ = some (i64 gn) := bkc HQ.out 1
  have hblo : base ≤ w.heap.size := by have := h.lt; have := h.lo; omega
  have hA := rfind_ok (h.below hbV) hl env sl gn
  rw [hf] at hA
  have HA := hid hA
  have HRV := hid (h.below hbV)
  have HBV := hid hbV
  have HKl : Hid (∀ W, Rb W base r L → Calls Try.prog 72 #[pq r, i64 (k : Nat), .bool self] W fun e w' => e = .returned (i64 (cnt L.length (klB L k self) : Nat)) ∧ Rb w' base r (offs (klB L k self) L) ∧ Fr base [99, 96] W w') := fun W hW => rkill_ok hW hl hfw k self
  clear hA hf h hV hbV hfw
  go_enter Try.func39, Try.ntmps39
  go_upto_region 1 with fail
  rw [HV.out]
  go_wp2_with fail
  refine HA.out.mono ?_
  rintro e w1 ⟨rfl, hb1⟩
  have HB1 : Hid (Below w.heap.size w w1) := HBV.out.trans (hb1.mono HBV.out.size)
  have HR1 := hid (HRV.out.below hb1)
  clear hb1
  go_wp2_with fail
  refine (HKl.out w1 HR1.out).mono ?_
  rintro e w2 ⟨rfl, hr2, hf2⟩
  have HR2 := hid hr2
  have HF2 : Hid (Fr base [99, 96] w w2) := (Fr.of_below _ HB1.out hblo).trans hf2
  clear hr2 hf2
  go_wp2_with fail
  go_ret2
  exact ⟨rfl, HR2.out, HF2.out⟩
end Go.Proofs.Ytnknhencobhjdaa.Cp
namespace Go.Proofs.Ytnknhencobhjdaa.Cp
open Go.ChangeShapes Go.WideShapes Go.ChangeAt Go.RowKit Go.Deep
attribute [local go_sem ↓] Go.wp_at_zero Go.wp_at_succ
abbrev rwV (c : Cp) (sl gn fr : Int) (lv : Bool) : Value := .agg #[i64 c.env, i64 c.kind, i64 c.num, i64 c.rts, i64 sl, i64 gn, i64 fr, .bool lv]
set_option maxHeartbeats 3200000 in
theorem rright_ok (w : World) (c : Cp) (sl gn fr : Int) (lv : Bool) : Calls Try.prog 90 #[rwV c sl gn fr lv] w fun e w' => e = .returned (.bool (rightB c)) ∧ Below w.heap.size w w' := by
  obtain ⟨a, k, n, r⟩ := c
  have hr : rightB ⟨a, k, n, r⟩ = decide (0 < a ∧ a < 4 ∧ 0 < k ∧ k < 4 ∧ 0 ≤ n ∧ n < 64 ∧ 0 < r ∧ r < 4) := by
    unfold rightB
    exact decide_eq_decide.2 (by constructor <;> (intro h; simp only at h ⊢; omega))
  rw [hr]
  unfold rwV
  by_cases h0 : 0 < a
  case neg =>
    rw [decide_eq_false (fun h => h0 h.1)]
    go_enter Try.func90, Try.ntmps90
    go_wp2_with fail
    go_ret
    exact ⟨by first | rfl | (simp; done) | (simp; omega), bl1 w _⟩
  by_cases h1 : a < 4
  case neg =>
    rw [decide_eq_false (fun h => h1 h.2.1)]
    go_enter Try.func90, Try.ntmps90
    go_wp2_with fail
    go_ret
    exact ⟨by first | rfl | (simp; done) | (simp; omega), bl1 w _⟩
  by_cases h2 : 0 < k
  case neg =>
    rw [decide_eq_false (fun h => h2 h.2.2.1)]
    go_enter Try.func90, Try.ntmps90
    go_wp2_with fail
    go_ret
    exact ⟨by first | rfl | (simp; done) | (simp; omega), bl1 w _⟩
  by_cases h3 : k < 4
  case neg =>
    rw [decide_eq_false (fun h => h3 h.2.2.2.1)]
    go_enter Try.func90, Try.ntmps90
    go_wp2_with fail
    go_ret
    exact ⟨by first | rfl | (simp; done) | (simp; omega), bl1 w _⟩
  by_cases h4 : 0 ≤ n
  case neg =>
    rw [decide_eq_false (fun h => h4 h.2.2.2.2.1)]
    go_enter Try.func90, Try.ntmps90
    go_wp2_with fail
    go_ret
    exact ⟨by first | rfl | (simp; done) | (simp; omega), bl1 w _⟩
  by_cases h5 : n < 64
  case neg =>
    rw [decide_eq_false (fun h => h5 h.2.2.2.2.2.1)]
    go_enter Try.func90, Try.ntmps90
    go_wp2_with fail
    go_ret
    exact ⟨by first | rfl | (simp; done) | (simp; omega), bl1 w _⟩
  by_cases h6 : 0 < r
  case neg =>
    rw [decide_eq_false (fun h => h6 h.2.2.2.2.2.2.1)]
    go_enter Try.func90, Try.ntmps90
    go_wp2_with fail
    go_ret
    exact ⟨by first | rfl | (simp; done) | (simp; omega), bl1 w _⟩
  by_cases h7 : r < 4
  case neg =>
    rw [decide_eq_false (fun h => h7 h.2.2.2.2.2.2.2)]
    go_enter Try.func90, Try.ntmps90
    go_wp2_with fail
    go_ret
    exact ⟨by first | rfl | (simp; done) | (simp; omega), bl1 w _⟩
  rw [decide_eq_true ⟨h0, h1, h2, h3, h4, h5, h6, h7⟩]
  go_enter Try.func90, Try.ntmps90
  go_wp2_with fail
  go_ret
  exact ⟨by first | rfl | (simp; done) | (simp; omega), bl1 w _⟩
theorem heap_set1 {V : World} {q : Nat} {x : Value} {t : TypeId} (h : V.heap[q]? = some (.cells #[x] t)) (v : Value) : (V.setCell ⟨q, 0, none⟩ v).heap[q]? = some (.cells #[v] t) := by
  have := heap_setCell_same V q 0 _ t v h
  simpa using this
end Go.Proofs.Ytnknhencobhjdaa.Cp
namespace Go.Proofs.Ytnknhencobhjdaa.Cp
open Go.ChangeShapes Go.WideShapes Go.ChangeAt Go.RowKit Go.Deep
attribute [local go_sem ↓] Go.wp_at_zero Go.wp_at_succ
theorem wp_app_run {P : Program} {w : World} {o : Oper} {a : Act} {K : Act → World → Prop} {Q : Exit → Act → World → Prop} (s x : Operand) (t : TypeId)
    (ho : o.op = .call { callee := .builtin .append, args := #[s, x], argTypes := #[t, t] }) (v1 v2 : Value) (hs : a.eval s = v1) (hx : a.eval x = v2) (ty : TypeId) (hty : o.type = ty) (r : Value) (w' : World)
    (hr : (Builtin.append_ #[t, t] ty #[v1, v2]).run P w = .ok r w') (h : K (a.put o.dst r) w') : Oper.wp P o a w K Q := by
  unfold Oper.wp execOp
  simp only [ho, resolve, invoke, builtin, Sem.run_bind, Sem.run_pure, Result.andThen_ok, List.map_toArray, List.map_cons, List.map_nil, hs, hx, hty, hr]
  exact h
theorem app_far {t e te : TypeId} {size bytes : Nat} {z : Value} (hu : Try.prog.underlying t = some (.slice e)) (hin : (Try.prog.info? e).map (fun i => (i.zero, i.size, i.bytes)) = some (some z, size, bytes)) (hzs : z.cells.size = size) (hsz : 0 < size) (hby : bytes ≤ 1000)
    {V : World} {base : Nat} {v : Value} {n : Nat} {xs : List Value} (ho : V.ownsRow base e size v n xs) (C : List Value) (hC : C.length = size) (h1 : ∀ u ∈ C, u.oneCell' = true) (hn : n ≤ 100000) (hB : base ≤ V.heap.size) :
    ∃ ao cap w', (Builtin.append_ #[t, t] t #[v, .slice (some ⟨V.heap.size, 0, none⟩) 1 1]).run Try.prog (V.alloc (.cells C.toArray te)) = .ok (.slice ao (n + 1) cap) w' ∧ w'.ownsRow base e size (.slice ao (n + 1) cap) (n + 1) (xs ++ C) ∧ Fr base [e] V w' ∧ ∀ k, k < V.heap.size → some k ≠ v.ownBlock → w'.heap[k]? = V.heap[k]? := by
  obtain ⟨i, hi, hz, hs, hb⟩ := info_parts hin
  have hb1 : Below V.heap.size V (V.alloc (.cells C.toArray te)) := bl1 V _
  have ho2 : (V.alloc (.cells C.toArray te)).ownsRow base e size v n xs := ho.alloc _
  have hmul : (n + 1) * bytes ≤ 140737488355328 := Nat.le_trans (Nat.mul_le_mul (show n + 1 ≤ 100001 by omega) hby) (by decide)
  obtain ⟨v', w', hr, h2, h3, _, _⟩ := run_append_own_at (P := Try.prog) (V.alloc (.cells C.toArray te)) base t t e i z size bytes hu hi hz hs hb hzs hsz v n xs ho2 ⟨V.heap.size, 0, none⟩ 1 1 C (by rw [hC, Nat.one_mul]) (World.news_of_block (hlx V _)) h1 (by unfold maxLen; omega) hmul (by have := hb1.size; omega)
  obtain ⟨ao, cap, rfl, _⟩ := own_slice h2
  have hgb : ∀ k o, V.heap[k]? = some o → keeps [e] o = true → w'.heap[k]? = some o := fun k o hk hko => by
    rw [h3.block k (by have := blk_lt hk; simp; omega) (fun hE => ?_)]
    · exact bkb hk hb1
    · rcases ho.2 with ⟨rfl, _⟩ | ⟨g, cap, cur, rfl, _, hgg, _⟩
      · simp [Value.ownBlock] at hE
      · simp [Value.ownBlock] at hE
        subst hE
        rw [hgg] at hk
        cases hk
        simp [keeps] at hko
  refine ⟨ao, cap, w', hr, h2, ⟨⟨h3.os, h3.tape, h3.output, Nat.le_trans hb1.size h3.size, fun k hk => ?_⟩, hgb⟩, fun k hk hne => ?_⟩
  · rw [h3.block k (by simp; omega) (fun hE => by have := (ho.lt k hE.symm).1; omega)]
    exact hb1.block k (by omega)
  · rw [h3.block k (by simp; omega) hne]
    exact hb1.block k hk
theorem under28 : Try.prog.underlying 97 = some (.slice 96) := by kernel_rfl
theorem info66x : (Try.prog.info? 96).map (fun i => (i.zero, i.size, i.bytes)) = some (some (.agg #[i64 0, i64 0, i64 0, i64 0, i64 0, i64 0, i64 0, .bool false]), 8, 64) := by kernel_rfl
theorem rwl_one (p : Rw) : ∀ u ∈ p.l, u.oneCell' = true := by
  intro u hu
  simp only [List.mem_cons, List.not_mem_nil, or_false] at hu
  rcases hu with rfl | rfl | rfl | rfl | rfl | rfl | rfl | rfl <;> rfl
def cnS (L : List Rw) (sl : Int) : Nat := (L.filter fun r => decide (r.sl = sl)).length
theorem cnS_succ {L : List Rw} {k : Nat} {p : Rw} {sl : Int} (hp : L[k]? = some p) : cnS (L.take (k + 1)) sl = cnS (L.take k) sl + (if p.sl = sl then 1 else 0) := by
  unfold cnS
  rw [List.take_add_one, hp, List.filter_append, List.length_append]
  by_cases h : p.sl = sl <;> simp [h]
theorem cnS_le (L : List Rw) (sl : Int) : cnS L sl ≤ L.length := List.length_filter_le _ _
abbrev rO (p : Rw) : Obj := .cells #[i64 p.c.env, i64 p.c.kind, i64 p.c.num, i64 p.c.rts, i64 p.sl, i64 p.gn, i64 p.fr, .bool p.lv] 96
structure SqT (r x : Nat) (v : Value) (p : Rw) (W : World) : Prop where
  s0 : W.cell? ⟨r, 0, none⟩ = some v
  x0 : W.cell? ⟨x, 0, none⟩ = some (i64 p.c.env)
  x1 : W.cell? ⟨x, 1, none⟩ = some (i64 p.c.kind)
  x2 : W.cell? ⟨x, 2, none⟩ = some (i64 p.c.num)
  x3 : W.cell? ⟨x, 3, none⟩ = some (i64 p.c.rts)
  x4 : W.cell? ⟨x, 4, none⟩ = some (i64 p.sl)
  x5 : W.cell? ⟨x, 5, none⟩ = some (i64 p.gn)
  x6 : W.cell? ⟨x, 6, none⟩ = some (i64 p.fr)
  x7 : W.cell? ⟨x, 7, none⟩ = some (.bool p.lv)
theorem SqT.of {W : World} {r x : Nat} {v : Value} {p : Rw} (h0 : W.heap[r]? = some (.cells #[v] 99)) (hx : W.heap[x]? = some (rO p)) : SqT r x v p W :=
  ⟨bkc h0 0, bkc hx 0, bkc hx 1, bkc hx 2, bkc hx 3, bkc hx 4, bkc hx 5, bkc hx 6, bkc hx 7⟩
set_option maxHeartbeats 3200000 in
theorem rput_ok {w : World} {base r : Nat} {L : List Rw} (h : Rb w base r L) (hl : L.length ≤ 900) (c : Cp) (sl gn fr : Int) (lv : Bool) (s : Nat) (hs : s < 128) (h0 : atI L (s : Nat) = -1) (hno : ∀ j : Nat, j < s → ∃ k : Nat, atI L (j : Nat) = k) :
    Calls Try.prog 92 #[pq r, rwV c sl gn fr lv] w fun e w' => e = .returned (i64 (L.length : Nat)) ∧ Rb w' base r (L ++ [⟨c, s, (cnS L (s : Nat) : Int) + 1, fr, true⟩]) ∧ Fr base [99, 96] w w' := by
  have hblo : base ≤ w.heap.size := by have := h.lt; have := h.lo; omega
  have hbr := h.lo
  have hrl := h.lt
  obtain ⟨V, hV⟩ : ∃ V, V = w.alloc (rO ⟨c, sl, gn, fr, lv⟩) := ⟨_, rfl⟩
  have HV : Hid (w.alloc (.cells #[i64 c.env, i64 c.kind, i64 c.num, i64 c.rts, i64 sl, i64 gn, i64 fr, .bool lv] 96) = V) := hV.symm
  have hbV : Below w.heap.size w V := by rw [hV]; exact bl1 w _
  have hq3 : V.heap[w.heap.size]? = some (rO ⟨c, sl, gn, fr, lv⟩) := by rw [hV]; exact hlx w _
  have HQ3 := hid hq3
  have HBV := hid hbV
  have HR := hid h
  have HNO := hid hno
  have H0 := hid h0
  have hsI : (s : Int) < 128 := by omega
  obtain ⟨N, hN⟩ : ∃ N, N = L.length := ⟨_, rfl⟩
  rw [← hN] at hl ⊢
  have HN : Hid (N = L.length) := hN
  have hNI : (N : Int) ≤ 900 := by omega
  clear h hV hbV hq3 hno h0 hN
  unfold rwV
  go_enter Try.func92, Try.ntmps92
  go_upto_region 1 with fail
  rw [HV.out]
  go_wp2_with fail
  go_loopw [5] (fun u wr => ∃ k : Nat, k ≤ s ∧ u = i64 k ∧ Hid (Below V.heap.size V wr)) (fun u _ => s - (intOf u).toNat)
  case atStart => exact ⟨0, by omega, rfl, Below.refl _ _⟩
  case round =>
    obtain ⟨k, hk, rfl, HB⟩ := hrel
    have hkI : (k : Int) < 128 := by omega
    have HBw : Hid (Below w.heap.size w wr) := HBV.out.trans (HB.out.mono HBV.out.size)
    have hA := rat_ok (HR.out.below HBw.out) (by rw [← HN.out]; omega) (k : Nat)
    by_cases hlt : k < s
    · obtain ⟨i, hi⟩ := HNO.out k hlt
      rw [hi] at hA
      have HA := hid hA
      clear hA hi
      go_wp2_with fail
      refine HA.out.mono ?_
      rintro e w2 ⟨rfl, hb2⟩
      have HB2 : Hid (Below V.heap.size V w2) := HB.out.trans (hb2.mono HB.out.size)
      clear hb2
      go_wp2_with fail
      exact ⟨⟨k + 1, by omega, by go_num, HB2⟩, by simp [intOf]; omega⟩
    · obtain rfl : k = s := by omega
      rw [H0.out] at hA
      have HA := hid hA
      clear hA
      go_wp2_with fail
      refine HA.out.mono ?_
      rintro e w2 ⟨rfl, hb2⟩
      have hb2V : Below V.heap.size V w2 := HB.out.trans (hb2.mono HB.out.size)
      have HB2 : Hid (Below w.heap.size w w2) := HBw.out.trans (hb2.mono HBw.out.size)
      have hq2 := bkb HQ3.out hb2V
      have y0 : w2.cell? ⟨w.heap.size, 0, none⟩ = some (i64 c.env) := bkc hq2 0
      have y1 : w2.cell? ⟨w.heap.size, 1, none⟩ = some (i64 c.kind) := bkc hq2 1
      have y2 : w2.cell? ⟨w.heap.size, 2, none⟩ = some (i64 c.num) := bkc hq2 2
      have y3 : w2.cell? ⟨w.heap.size, 3, none⟩ = some (i64 c.rts) := bkc hq2 3
      have y4 : w2.cell? ⟨w.heap.size, 4, none⟩ = some (i64 sl) := bkc hq2 4
      have y5 : w2.cell? ⟨w.heap.size, 5, none⟩ = some (i64 gn) := bkc hq2 5
      have y6 : w2.cell? ⟨w.heap.size, 6, none⟩ = some (i64 fr) := bkc hq2 6
      have y7 : w2.cell? ⟨w.heap.size, 7, none⟩ = some (.bool lv) := bkc hq2 7
      have hws : w.heap.size < w2.heap.size := blk_lt hq2
      clear hb2 hb2V hq2
      go_upto_region 9 with fail
      have HX4 : Hid ((w2.alloc (rO ⟨c, (k : Nat), 1, fr, true⟩)).heap[w2.heap.size]? = some (rO ⟨c, (k : Nat), 1, fr, true⟩)) := hlx w2 _
      have HB4 : Hid (Below w.heap.size w (w2.alloc (rO ⟨c, (k : Nat), 1, fr, true⟩))) := HB2.out.alloc HB2.out.size _
      obtain ⟨ao, cap, hbk, hown, hcap, _⟩ := (HR.out.below HB4.out).row
      have b0 : (w2.alloc (rO ⟨c, (k : Nat), 1, fr, true⟩)).cell? ⟨r, 0, none⟩ = some (.slice ao L.length cap) := bkc hbk 0
      have HK4 := hid hbk
      rw [← HN.out] at b0 hcap HK4
      have hcI : (N : Int) ≤ cap := by omega
      clear y0 y1 y2 y3 y4 y5 y6 y7 hbk hown
      unfold rO at HX4 HB4 HK4 b0
      generalize w2.alloc (.cells #[i64 c.env, i64 c.kind, i64 c.num, i64 c.rts, i64 (k : Nat), i64 1, i64 fr, .bool true] 96) = V4 at *
      generalize w2.heap.size = x at *
      go_wp2_with fail
      go_loopw [27] (fun u wq => ∃ m : Nat, m ≤ N ∧ u = i64 m ∧ Hid (wq.heap[x]? = some (rO ⟨c, (k : Nat), (cnS (L.take m) (k : Nat) : Int) + 1, fr, true⟩)) ∧ Hid (Below w.heap.size w wq) ∧ Hid (wq.heap[r]? = some (.cells #[.slice ao N cap] 99))) (fun u _ => N - (intOf u).toNat)
      case atStart => exact ⟨0, by omega, rfl, HX4, HB4, HK4⟩
      case round =>
        obtain ⟨m, hm, rfl, HXm, HBm, HKm⟩ := hrel
        by_cases hltm : m < N
        · have hlt2 : m < L.length := by rw [← HN.out]; exact hltm
          obtain ⟨p, hp⟩ : ∃ p, L[m]? = some p := ⟨_, List.getElem?_eq_getElem hlt2⟩
          obtain ⟨ao', cap', hbk', _, _, hrow⟩ := (HR.out.below HBm.out).row
          have hse := HKm.out.symm.trans hbk'
          simp only [Option.some.injEq, Obj.cells.injEq, Array.mk.injEq, List.cons.injEq, Value.slice.injEq, and_true] at hse
          obtain ⟨rfl, hsN, rfl⟩ := hse
          clear hsN
          obtain ⟨g, rfl, hbg, hgl, _, _, hc⟩ := hrow m p hp
          have c0 : wr.cell? ⟨g, m * 8, none⟩ = some (i64 p.c.env) := hc 0 (by omega)
          have c1 : wr.cell? ⟨g, m * 8 + 1, none⟩ = some (i64 p.c.kind) := hc 1 (by omega)
          have c2 : wr.cell? ⟨g, m * 8 + 2, none⟩ = some (i64 p.c.num) := hc 2 (by omega)
          have c3 : wr.cell? ⟨g, m * 8 + 3, none⟩ = some (i64 p.c.rts) := hc 3 (by omega)
          have c4 : wr.cell? ⟨g, m * 8 + 4, none⟩ = some (i64 p.sl) := hc 4 (by omega)
          have c5 : wr.cell? ⟨g, m * 8 + 5, none⟩ = some (i64 p.gn) := hc 5 (by omega)
          have c6 : wr.cell? ⟨g, m * 8 + 6, none⟩ = some (i64 p.fr) := hc 6 (by omega)
          have c7 : wr.cell? ⟨g, m * 8 + 7, none⟩ = some (.bool p.lv) := hc 7 (by omega)
          have hmI : (m : Int) < N := by omega
          have HSu := hid (cnS_succ (sl := (k : Nat)) hp)
          have hle : cnS (L.take m) (k : Nat) ≤ 1000 := Nat.le_trans (cnS_le _ _) (by rw [List.length_take]; omega)
          have hxl := blk_lt HXm.out
          have HBm2 : Hid (Below w.heap.size w (wr.alloc (rO p))) := HBm.out.alloc HBm.out.size _
          have HKm2 : Hid ((wr.alloc (rO p)).heap[r]? = some (.cells #[.slice (some ⟨g, 0, none⟩) N cap] 99)) := bka HKm.out _
          have HXm2 : Hid ((wr.alloc (rO p)).heap[x]? = some (rO ⟨c, (k : Nat), (cnS (L.take m) (k : Nat) : Int) + 1, fr, true⟩)) := bka HXm.out _
          clear hrow hc hp hbk'
          generalize cnS (L.take m) (k : Nat) = M at *
          go_upto_region 12 with fail
          have d4 : (wr.alloc (rO p)).cell? ⟨wr.heap.size, 4, none⟩ = some (i64 p.sl) := bkc (hlx wr _) 4
          have d5 : (wr.alloc (rO p)).cell? ⟨x, 5, none⟩ = some (i64 ((M : Int) + 1)) := bkc HXm2.out 5
          have df : (wr.alloc (rO p)).frozen? ⟨x, 5, none⟩ = false := bkf HXm2.out 5
          unfold rO at d4 d5 df HBm2 HKm2 HXm2
          generalize wr.alloc (.cells #[i64 p.c.env, i64 p.c.kind, i64 p.c.num, i64 p.c.rts, i64 p.sl, i64 p.gn, i64 p.fr, .bool p.lv] 96) = U at *
          clear c0 c1 c2 c3 c4 c5 c6 c7
          by_cases he : p.sl = (k : Nat)
          · have hb : (p.sl == (k : Int)) = true := by simpa using he
            have HX5 : Hid ((U.setCell ⟨x, 5, none⟩ (i64 ((M : Int) + 1 + 1))).heap[x]? = some (rO ⟨c, (k : Nat), (cnS (L.take (m + 1)) (k : Nat) : Int) + 1, fr, true⟩)) := by
              have := heap_setCell_same U x 5 _ 96 (i64 ((M : Int) + 1 + 1)) HXm2.out
              rw [HSu.out, if_pos he]
              exact hid (by simpa using this)
            have HB5 : Hid (Below w.heap.size w (U.setCell ⟨x, 5, none⟩ (i64 ((M : Int) + 1 + 1)))) := HBm2.out.setCell (by show w.heap.size ≤ x; omega) _
            have HK5 : Hid ((U.setCell ⟨x, 5, none⟩ (i64 ((M : Int) + 1 + 1))).heap[r]? = some (.cells #[.slice (some ⟨g, 0, none⟩) N cap] 99)) := by rw [Below.heap_setCell _ _ _ _ (by show r ≠ x; omega)]; exact HKm2.out
            clear he
            go_wp2_with fail
            exact ⟨⟨m + 1, by omega, by go_num, HX5, HB5, HK5⟩, by simp [intOf]; omega⟩
          · have hb : (p.sl == (k : Int)) = false := by simpa using he
            have HX5 : Hid (U.heap[x]? = some (rO ⟨c, (k : Nat), (cnS (L.take (m + 1)) (k : Nat) : Int) + 1, fr, true⟩)) := by rw [HSu.out, if_neg he]; exact HXm2
            clear he
            go_wp2_with fail
            exact ⟨⟨m + 1, by omega, by go_num, HX5, HBm2, HKm2⟩, by simp [intOf]; omega⟩
        · have hE : L.take m = L := List.take_of_length_le (by rw [← HN.out]; omega)
          rw [hE] at HXm
          obtain ⟨p, hpd⟩ : ∃ p : Rw, p = ⟨c, (k : Nat), (cnS L (k : Nat) : Int) + 1, fr, true⟩ := ⟨_, rfl⟩
          have HPD := hid hpd
          rw [← hpd] at HXm
          have hRm := HR.out.below HBm.out
          obtain ⟨v, hv1, hv2⟩ := hRm.own
          have hse := HKm.out.symm.trans hv1
          simp only [Option.some.injEq, Obj.cells.injEq, Array.mk.injEq, List.cons.injEq, and_true] at hse
          subst hse
          have hsz : base ≤ wr.heap.size := Nat.le_trans hblo HBm.out.size
          obtain ⟨ao2, cap2, w6, hrun, hown6, hfr6, hfar⟩ := app_far (te := 96) under28 info66x rfl (by omega) (by omega) (V := wr.drew) (own_keep hv2 (fun _ _ h => h)) p.l rfl (rwl_one p) (by rw [← HN.out]; omega) hsz
          have hg6 : ∀ q, some q = (Value.slice ao N cap).ownBlock → q < w.heap.size := fun q hq => by
            obtain ⟨v', hw1, hw2⟩ := HR.out.own
            have h1 := (HBm.out.block r hrl).trans hw1
            rw [HKm.out] at h1
            simp only [Option.some.injEq, Obj.cells.injEq, Array.mk.injEq, List.cons.injEq, and_true] at h1
            subst h1
            exact (hw2.lt q hq.symm).2
          have hx6 : w6.heap[x]? = some (rO p) := (hfar x (blk_lt HXm.out) (fun e => by have := hg6 x e; omega)).trans HXm.out
          have hr6 : w6.heap[r]? = some (.cells #[.slice ao N cap] 99) := hfr6.kept _ _ HKm.out (by rfl)
          have HRUN := hid hrun
          rw [← HN.out] at HRUN hown6
          have HOWN := hid hown6
          have HX6 := hid hx6
          have HR6 := hid hr6
          have HF6 : Hid (Fr base [99, 96] w w6) := (Fr.of_below _ HBm.out hblo).trans ((show Fr base [96] wr w6 from ⟨⟨hfr6.below.os, hfr6.below.tape, hfr6.below.output, hfr6.below.size, hfr6.below.block⟩, hfr6.kept⟩).mono (fun o ho => by
            cases o with
            | cells C t fr => simp [keeps] at ho ⊢; exact ho.2
            | _ => rfl))
          have HS : Hid (SqT r x (.slice ao N cap) p wr.drew) := SqT.of HKm.out HXm.out
          clear hv1 hv2 hrun hown6 hx6 hr6 hfr6 hfar hRm hpd hE
          obtain ⟨n, hn⟩ : ∃ n, n = N := ⟨_, rfl⟩
          go_upto_region 15 with fail
          refine wp_region_noPanic ?_
          refine wrl (SqT r x (.slice ao N cap) p) 10 (by kernel_rfl) ?_
          refine wk 0 40 (pq r) rfl HS.out (fun W hW => by obtain ⟨s0, x0, x1, x2, x3, x4, x5, x6, x7⟩ := hW; go_simp) ?_
          refine wk 1 41 (pq r) rfl HS.out (fun W hW => by obtain ⟨s0, x0, x1, x2, x3, x4, x5, x6, x7⟩ := hW; go_simp) ?_
          refine wk 2 42 (pq r) rfl HS.out (fun W hW => by obtain ⟨s0, x0, x1, x2, x3, x4, x5, x6, x7⟩ := hW; go_simp) ?_
          refine wk 3 43 (pq r) rfl HS.out (fun W hW => by obtain ⟨s0, x0, x1, x2, x3, x4, x5, x6, x7⟩ := hW; go_simp) ?_
          refine wk 4 44 (.slice ao N cap) rfl HS.out (fun W hW => by obtain ⟨s0, x0, x1, x2, x3, x4, x5, x6, x7⟩ := hW; go_simp) ?_
          refine wk 5 45 (.agg #[i64 p.c.env, i64 p.c.kind, i64 p.c.num, i64 p.c.rts, i64 p.sl, i64 p.gn, i64 p.fr, .bool p.lv]) rfl HS.out (fun W hW => by obtain ⟨s0, x0, x1, x2, x3, x4, x5, x6, x7⟩ := hW; go_simp) ?_
          simp only [Act.put, sA, sZ, sS]
          refine wo 6 rfl (fun K hK => ?_)
          go_simp
          refine hK.out _ _ (fun _ => SqT.of (bka (w := wr.drew) HKm.out _) (bka (w := wr.drew) HXm.out _)) ?_
          clear hK K
          refine wo 7 rfl (fun K hK => ?_)
          refine wp_app_run (.tmp 44) (.tmp 46) 97 rfl _ _ rfl rfl 97 rfl _ _ HRUN.out ?_
          refine hK.out _ _ (fun _ => SqT.of HR6.out HX6.out) ?_
          clear hK K
          refine wo 8 rfl (fun K hK => ?_)
          go_simp
          refine hK.out _ _ (fun _ => SqT.of HR6.out HX6.out) ?_
          clear hK K
          refine wo 9 rfl (fun K hK => ?_)
          go_simp
          refine hK.out _ _ (fun _ => SqT.of HR6.out HX6.out) ?_
          clear hK K
          refine wo 10 rfl (fun K hK => ?_)
          have r0 : w6.cell? ⟨r, 0, none⟩ = some (.slice ao N cap) := bkc HR6.out 0
          have rf : w6.frozen? ⟨r, 0, none⟩ = false := bkf HR6.out 0
          go_simp
          refine hK.out _ _ (fun h => absurd rfl h) ?_
          clear hK K r0 rf
          refine wdd ?_
          refine NoPanic.normal ?_
          have HR7 : Hid ((w6.setCell ⟨r, 0, none⟩ (.slice ao2 (N + 1) cap2)).heap[r]? = some (.cells #[.slice ao2 (N + 1) cap2] 99)) := heap_set1 HR6.out _
          have HRb : Hid (Rb (w6.setCell ⟨r, 0, none⟩ (.slice ao2 (N + 1) cap2)) base r (L ++ [p])) := ⟨hbr, _, HR7.out, by
            rw [List.length_append, rcs_app, ← HN.out]
            exact own_keep HOWN.out (fun q C hC => by rw [Below.heap_setCell _ _ _ _ (fun e => by have hC' := hC; rw [show q = r from e, HR6.out] at hC'; simp at hC')]; exact hC)⟩
          have HF7 : Hid (Fr base [99, 96] w (w6.setCell ⟨r, 0, none⟩ (.slice ao2 (N + 1) cap2))) := HF6.out.trans (Fr.of_touch ((Touch.refl r w6).setCell rfl _) HR6.out (by rfl) hbr)
          have r1 : (w6.setCell ⟨r, 0, none⟩ (.slice ao2 (N + 1) cap2)).cell? ⟨r, 0, none⟩ = some (.slice ao2 (N + 1) cap2) := bkc HR7.out 0
          generalize w6.setCell ⟨r, 0, none⟩ (.slice ao2 (N + 1) cap2) = U7 at *
          go_wp2_with fail
          go_ret
          exact ⟨rfl, by have := HRb.out; rw [HPD.out] at this; exact this, HF7.out⟩
end Go.Proofs.Ytnknhencobhjdaa.Cp
