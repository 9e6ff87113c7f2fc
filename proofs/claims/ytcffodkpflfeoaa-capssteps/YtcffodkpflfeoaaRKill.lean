/- imagoref09.Table's below, kill: contracts; no statement is proved in this text. -/
import Derived.Test.YtcffodkpflfeoaaRDoc
namespace Go.Proofs.Ytcffodkpflfeoaa
open Go.ChangeShapes Go.WideShapes Go.ChangeAt Go.RowKit Go.Deep

def frR (L : List Rw) (i : Nat) : Int := match L[i]? with
  | some p => p.fr
  | none => -1
def lvA (L : List Rw) (i : Nat) : Bool := match L[i]? with
  | some p => p.lv
  | none => false
def upF (L : List Rw) (top : Int) : Nat → Int → Bool
  | 0, _ => false
  | n + 1, k => if k < 0 then false else if k = top then true else upF L top n (frR L k.toNat)
/-- What each was derived from came ahead of it. -/
def Fw (L : List Rw) : Prop := ∀ (i : Nat) p, L[i]? = some p → p.fr = -1 ∨ ∃ j : Nat, p.fr = j ∧ j < i
def blR (L : List Rw) (i : Nat) (top : Int) : Bool := upF L top (i + 2) (frR L i)
def upMs (x : Int) : Nat := if x = -1 then 0 else x.toNat + 1
theorem upF_end (L : List Rw) (top : Int) (n : Nat) : upF L top (n + 1) (-1) = false := by simp [upF]
theorem upF_yes (L : List Rw) (n j : Nat) : upF L (j : Nat) (n + 1) (j : Nat) = true := by
  unfold upF
  rw [if_neg (by omega), if_pos rfl]
theorem upF_no (L : List Rw) (top : Int) (n j : Nat) (p : Rw) (hp : L[j]? = some p) (h : ¬ (j : Int) = top) : upF L top (n + 1) (j : Nat) = upF L top n p.fr := by
  rw [upF, if_neg (by omega), if_neg h, Int.toNat_natCast, frR, hp]
set_option maxRecDepth 100000 in
set_option maxHeartbeats 2000000 in
theorem rbelow_ok {w : World} {base r : Nat} {L : List Rw} (h : Rb w base r L) (hl : L.length ≤ 1000) (hfw : Fw L) (i : Nat) (q : Rw) (hq : L[i]? = some q) (top : Int) :
    Calls Try.prog 49 #[pq r, i64 (i : Nat), i64 top] w fun e w' => e = .returned (.bool (blR L i top)) ∧ w' = w := by
  obtain ⟨ao, cap, hbk, hown, hcap, hrow⟩ := h.row
  have b0 : w.cell? ⟨r, 0, none⟩ = some (.slice ao L.length cap) := blk_cell hbk 0
  obtain ⟨g, rfl, _, _, _, _, hc0⟩ := hrow i q hq
  have hiL : i < L.length := (List.getElem?_eq_some_iff.1 hq).1
  have hrow' : ∀ (j : Nat) p, L[j]? = some p → w.cell? ⟨g, j * 8 + 6, none⟩ = some (i64 p.fr) := fun j p hp => by
    obtain ⟨g', e, _, _, _, _, hc⟩ := hrow j p hp
    simp only [Option.some.injEq, Addr.mk.injEq] at e
    obtain ⟨rfl, _⟩ := e
    exact hc 6 (by omega)
  have HRow := hid hrow'
  have c6 : w.cell? ⟨g, i * 8 + 6, none⟩ = some (i64 q.fr) := hc0 6 (by omega)
  have HFW : Hid (Fw L) := hfw
  have hcI : (L.length : Int) ≤ cap := by omega
  have hNI : (L.length : Int) ≤ 1000 := by omega
  have hiI : (i : Int) < L.length := by omega
  obtain ⟨R, hR⟩ : ∃ R, R = blR L i top := ⟨_, rfl⟩
  rw [← hR]
  have HR0 : Hid (R = upF L top (i + 2) q.fr) := by rw [hR]; unfold blR frR; rw [hq]; exact hid rfl
  have HX0 : Hid (q.fr = -1 ∨ ∃ j : Nat, q.fr = j ∧ j < i) := hfw i q hq
  clear h hbk hown hrow hc0 hfw hR hrow' hq
  go_enter Try.func49, Try.ntmps49
  go_wp2_with fail
  go_loop [7] (fun u => ∃ (x : Int) (n : Nat), u = i64 x ∧ Hid (R = upF L top n x) ∧ Hid ((x = -1 ∧ 1 ≤ n) ∨ ∃ (j : Nat) (p : Rw), x = j ∧ L[j]? = some p ∧ j + 2 ≤ n)) (fun u => upMs (intOf u))
  case atStart =>
    refine ⟨q.fr, i + 2, rfl, HR0, ?_⟩
    rcases HX0.out with h | ⟨j, h1, h2⟩
    · exact Or.inl ⟨h, by omega⟩
    · exact Or.inr ⟨j, _, h1, List.getElem?_eq_getElem (by omega), by omega⟩
  case round =>
    obtain ⟨x, n, rfl, HRn, HX⟩ := hrel
    rcases HX.out with ⟨rfl, h1⟩ | ⟨j, p, rfl, hp, hn⟩
    · obtain ⟨n', rfl⟩ : ∃ n', n = n' + 1 := ⟨n - 1, by omega⟩
      have HF : Hid (R = false) := by rw [HRn.out]; exact upF_end L top n'
      clear HX
      go_wp2_with fail
      go_ret
      exact ⟨by rw [HF.out]; rfl, rfl⟩
    · obtain ⟨n', rfl⟩ : ∃ n', n = n' + 1 := ⟨n - 1, by omega⟩
      have hjL : j < L.length := (List.getElem?_eq_some_iff.1 hp).1
      have hjI : (j : Int) < L.length := by omega
      by_cases ht : (j : Int) = top
      · have HF : Hid (R = true) := by rw [HRn.out, ← ht]; exact upF_yes L n' j
        have hb : ((j : Int) == top) = true := by simpa using ht
        clear HX ht hp
        go_wp2_with fail
        go_ret
        exact ⟨by rw [HF.out]; rfl, rfl⟩
      · have HF : Hid (R = upF L top n' p.fr) := by rw [HRn.out]; exact upF_no L top n' j p hp ht
        have hb : ((j : Int) == top) = false := by simpa using ht
        have t6 := HRow.out j p hp
        have HU := hid (HFW.out j p hp)
        clear HX ht hp
        go_wp2_with fail
        go_round
        case rel =>
          refine ⟨p.fr, n', rfl, HF, ?_⟩
          rcases HU.out with h | ⟨j', h1, h2⟩
          · exact Or.inl ⟨h, by omega⟩
          · exact Or.inr ⟨j', _, h1, List.getElem?_eq_getElem (by omega), by omega⟩
        case measure =>
          show upMs p.fr < upMs (j : Nat)
          unfold upMs
          rcases HU.out with h | ⟨j', h1, h2⟩
          · rw [if_pos h, if_neg (by omega)]; omega
          · rw [h1, if_neg (by omega), if_neg (by omega), Int.toNat_natCast, Int.toNat_natCast]; omega
def offR (p : Rw) : Rw := { p with lv := false }
def offs (S : Nat → Bool) (L : List Rw) : List Rw := L.mapIdx fun i p => if S i = true then offR p else p
theorem offs_len (S : Nat → Bool) (L : List Rw) : (offs S L).length = L.length := by simp [offs]
theorem offs_get (S : Nat → Bool) (L : List Rw) (i : Nat) : (offs S L)[i]? = (L[i]?).map fun p => if S i = true then offR p else p := by simp [offs]
theorem offs_fr (S : Nat → Bool) (L : List Rw) (i : Nat) : frR (offs S L) i = frR L i := by
  unfold frR
  rw [offs_get]
  cases L[i]? with
  | none => rfl
  | some p => by_cases h : S i = true <;> simp [h, offR]
theorem offs_up (S : Nat → Bool) (L : List Rw) (top : Int) : ∀ (n : Nat) (k : Int), upF (offs S L) top n k = upF L top n k
  | 0, _ => rfl
  | n + 1, k => by
    unfold upF
    rw [offs_fr, offs_up S L top n]
theorem offs_bl (S : Nat → Bool) (L : List Rw) (i : Nat) (top : Int) : blR (offs S L) i top = blR L i top := by
  unfold blR
  rw [offs_fr, offs_up]
theorem offs_fw {S : Nat → Bool} {L : List Rw} (h : Fw L) : Fw (offs S L) := fun i p hp => by
  rw [offs_get] at hp
  cases hq : L[i]? with
  | none => rw [hq] at hp; cases hp
  | some q =>
    rw [hq] at hp
    have : p.fr = q.fr := by
      simp only [Option.map_some, Option.some.injEq] at hp
      rw [← hp]
      by_cases h : S i = true <;> simp [h, offR]
    rw [this]
    exact h i q hq
theorem offs_ext {S S' : Nat → Bool} {L : List Rw} (h : ∀ i, i < L.length → S i = S' i) : offs S L = offs S' L := by
  apply List.ext_getElem?
  intro i
  rw [offs_get, offs_get]
  cases hq : L[i]? with
  | none => rfl
  | some q => rw [h i (List.getElem?_eq_some_iff.1 hq).1]
theorem offs_none {S : Nat → Bool} {L : List Rw} (h : ∀ i, i < L.length → S i = false) : offs S L = L := by
  apply List.ext_getElem?
  intro i
  rw [offs_get]
  cases hq : L[i]? with
  | none => rfl
  | some q => rw [h i (List.getElem?_eq_some_iff.1 hq).1]; simp
theorem offs_offs (S S' : Nat → Bool) (L : List Rw) : offs S' (offs S L) = offs (fun i => S i || S' i) L := by
  apply List.ext_getElem?
  intro i
  rw [offs_get, offs_get, offs_get]
  cases L[i]? with
  | none => rfl
  | some q =>
    cases S i <;> cases S' i <;> simp [offR]
/-- What is gone of a kill. -/
def klB (L : List Rw) (top : Nat) (self : Bool) (i : Nat) : Bool := lvA L i && (self && decide (i = top) || blR L i (top : Nat))
def upTo (k : Nat) (S : Nat → Bool) (i : Nat) : Bool := decide (i < k) && S i
def cnt (n : Nat) (S : Nat → Bool) : Nat := ((List.range n).filter S).length
theorem cnt_succ (n : Nat) (S : Nat → Bool) : cnt (n + 1) S = cnt n S + (if S n = true then 1 else 0) := by
  unfold cnt
  rw [List.range_succ, List.filter_append, List.length_append]
  by_cases h : S n = true <;> simp [h]
theorem cnt_le (n : Nat) (S : Nat → Bool) : cnt n S ≤ n := by
  unfold cnt
  exact Nat.le_trans (List.length_filter_le _ _) (by simp)
theorem lvA_off (k : Nat) (S : Nat → Bool) (L : List Rw) (hS : S k = false) : lvA (offs S L) k = lvA L k := by
  unfold lvA
  rw [offs_get]
  cases L[k]? with
  | none => rfl
  | some p => simp [hS]
theorem offs_same {S : Nat → Bool} {L : List Rw} {k : Nat} (h : S k = false) : offs (upTo (k + 1) S) L = offs (upTo k S) L := offs_ext fun i _ => by
  unfold upTo
  by_cases h1 : i = k
  · subst h1; simp [h]
  · rw [show decide (i < k + 1) = decide (i < k) from decide_eq_decide.2 (by omega)]
theorem offs_set {S : Nat → Bool} {L : List Rw} {k : Nat} {p : Rw} (hp : L[k]? = some p) (h : S k = true) : offs (upTo (k + 1) S) L = (offs (upTo k S) L).set k (offR p) := by
  apply List.ext_getElem?
  intro i
  rw [offs_get]
  by_cases h1 : k = i
  · subst h1
    rw [List.getElem?_set_self (by rw [offs_len]; exact (List.getElem?_eq_some_iff.1 hp).1), hp]
    simp [upTo, h]
  · rw [List.getElem?_set_ne h1, offs_get]
    unfold upTo
    rw [show decide (i < k + 1) = decide (i < k) from decide_eq_decide.2 (by omega)]
theorem offs_at {S : Nat → Bool} {L : List Rw} {k : Nat} {p : Rw} (hp : L[k]? = some p) : (offs (upTo k S) L)[k]? = some p := by
  rw [offs_get, hp]
  simp [upTo]
theorem Rb.off {w : World} {base r : Nat} {L : List Rw} {g k n cap : Nat} {p : Rw} (h : Rb w base r L) (hb : w.heap[r]? = some (.cells #[.slice (some ⟨g, 0, none⟩) n cap] 30)) (hp : L[k]? = some p) : Rb (w.setCell ⟨g, k * 8 + 7, none⟩ (.bool false)) base r (L.set k (offR p)) ∧ Fr base [30, 66] w (w.setCell ⟨g, k * 8 + 7, none⟩ (.bool false)) := by
  obtain ⟨v, h1, h2⟩ := h.own
  rw [hb] at h1
  simp only [Option.some.injEq, Obj.cells.injEq, Array.mk.injEq, List.cons.injEq, and_true] at h1
  have hk : k < L.length := (List.getElem?_eq_some_iff.1 hp).1
  subst h1
  obtain ⟨hl, h3⟩ := h2
  rcases h3 with ⟨hn, _⟩ | ⟨g', cap', cur, he, hbg, hgg, hc1, hc2, hc3, htk⟩
  · simp at hn
  · simp only [Value.slice.injEq, Option.some.injEq, Addr.mk.injEq] at he
    obtain ⟨⟨rfl, _⟩, hn, rfl⟩ := he
    have hgr : r ≠ g := fun e => by rw [e, hgg] at hb; simp at hb
    refine ⟨⟨h.lo, .slice (some ⟨g, 0, none⟩) n cap, by rw [Below.heap_setCell _ _ _ _ (by exact hgr)]; exact hb, ?_, ?_⟩, ?_⟩
    · rw [List.length_set, rcs_len, List.length_set]
    · refine .inr ⟨g, cap, _, by rw [List.length_set, hn], hbg, heap_setCell_same w g _ _ 66 _ hgg, by rw [List.length_set]; exact hc1, hc2, by simpa using hc3, ?_⟩
      rw [List.length_set]
      have e1 : (rcs L).set (k * 8 + 7) (.bool false) = rcs (L.set k (offR p)) := rcs_set L k 7 p (offR p) _ hp (by omega) rfl
      rw [← e1, ← htk, Array.toList_setIfInBounds, List.take_set]
    · exact Fr.of_touch ((Touch.refl g w).setCell rfl _) hgg (by rfl) hbg
set_option maxRecDepth 100000 in
set_option maxHeartbeats 2000000 in
theorem rkill_ok {w : World} {base r : Nat} {L : List Rw} (h : Rb w base r L) (hl : L.length ≤ 1000) (hfw : Fw L) (top : Nat) (self : Bool) :
    Calls Try.prog 47 #[pq r, i64 (top : Nat), .bool self] w fun e w' => e = .returned (i64 (cnt L.length (klB L top self) : Nat)) ∧ Rb w' base r (offs (klB L top self) L) ∧ Fr base [30, 66] w w' := by
  obtain ⟨ao, cap, hbk, hown, hcap, _⟩ := h.row
  have b0 : w.cell? ⟨r, 0, none⟩ = some (.slice ao L.length cap) := blk_cell hbk 0
  have hblo : base ≤ w.heap.size := by have := h.lt; have := h.lo; omega
  obtain ⟨N, hN⟩ : ∃ N, N = L.length := ⟨_, rfl⟩
  rw [← hN] at b0 hl hcap hbk ⊢
  have HN : Hid (N = L.length) := hN
  have HFW : Hid (Fw L) := hfw
  have HR0 : Hid (Rb w base r (offs (upTo 0 (klB L top self)) L)) := by rw [offs_none (fun i _ => by simp [upTo])]; exact h
  have HK0 : Hid (w.heap[r]? = some (.cells #[.slice ao N cap] 30)) := hbk
  have HE : Hid (offs (klB L top self) L = offs (upTo N (klB L top self)) L) := offs_ext fun i hi => by rw [← hN] at hi; simp [upTo, hi]
  have hcI : (N : Int) ≤ cap := by omega
  have hNI : (N : Int) ≤ 1000 := by omega
  clear h hbk hown hN hfw
  go_enter Try.func47, Try.ntmps47
  go_wp2_with fail
  go_loopw [7, 14] (fun n i wr => ∃ k : Nat, k ≤ N ∧ i = i64 k ∧ n = i64 (cnt k (klB L top self) : Nat) ∧ Hid (Rb wr base r (offs (upTo k (klB L top self)) L)) ∧ Hid (Fr base [30, 66] w wr) ∧ Hid (wr.heap[r]? = some (.cells #[.slice ao N cap] 30))) (fun _ i _ => N - (intOf i).toNat)
  case atStart => exact ⟨0, by omega, rfl, rfl, HR0, Fr.refl _ _ _, HK0⟩
  case round =>
    obtain ⟨k, hk, rfl, rfl, HR, HF, HK⟩ := hrel
    have hle : cnt k (klB L top self) ≤ 1000 := Nat.le_trans (cnt_le _ _) (by omega)
    by_cases hlt : k < N
    · have hlt2 : k < L.length := by rw [← HN.out]; exact hlt
      obtain ⟨p, hp⟩ : ∃ p, L[k]? = some p := ⟨_, List.getElem?_eq_getElem hlt2⟩
      have hp2 := offs_at (S := klB L top self) hp
      obtain ⟨ao', cap', hbk', hown', hcap', hrow⟩ := HR.out.row
      have hs := HK.out.symm.trans hbk'
      simp only [Option.some.injEq, Obj.cells.injEq, Array.mk.injEq, List.cons.injEq, Value.slice.injEq, and_true] at hs
      obtain ⟨rfl, hsN, rfl⟩ := hs
      clear hsN
      obtain ⟨g, rfl, hbg, hgl, hgr, hfz, hc⟩ := hrow k p hp2
      have c7 : wr.cell? ⟨g, k * 8 + 7, none⟩ = some (.bool p.lv) := hc 7 (by omega)
      have f7 : wr.frozen? ⟨g, k * 8 + 7, none⟩ = false := hfz _
      have b1 : wr.cell? ⟨r, 0, none⟩ = some (.slice (some ⟨g, 0, none⟩) N cap) := blk_cell HK.out 0
      have HSu := hid (cnt_succ k (klB L top self))
      have hcall := rbelow_ok HR.out (by rw [offs_len, ← HN.out]; exact hl) (offs_fw HFW.out) k p hp2 (top : Nat)
      rw [offs_bl] at hcall
      obtain ⟨ho1, ho2⟩ := HR.out.off HK.out hp2
      have HO1 := hid ho1
      have HO2 : Hid (Fr base [30, 66] w (wr.setCell ⟨g, k * 8 + 7, none⟩ (.bool false))) := HF.out.trans ho2
      have HK2 : Hid ((wr.setCell ⟨g, k * 8 + 7, none⟩ (.bool false)).heap[r]? = some (.cells #[.slice (some ⟨g, 0, none⟩) N cap] 30)) := by rw [Below.heap_setCell _ _ _ _ (by show r ≠ g; omega)]; exact HK.out
      have hkl : klB L top self k = (p.lv && (self && decide (k = top) || blR L k (top : Nat))) := by rw [klB, lvA, hp]
      have HP := hid hp
      have hkN : (k : Int) < N := by omega
      clear hrow hc hp hp2 hbk' hown' ho1 ho2
      generalize cnt k (klB L top self) = M at *
      have fin0 : klB L top self k = false → Hid (i64 (M : Nat) = i64 (cnt (k + 1) (klB L top self) : Nat) ∧ Rb wr base r (offs (upTo (k + 1) (klB L top self)) L)) := fun hf => by
        refine ⟨by rw [HSu.out, hf]; simp, ?_⟩
        rw [offs_same hf]
        exact HR.out
      have fin1 : klB L top self k = true → Hid (i64 ((M : Int) + 1) = i64 (cnt (k + 1) (klB L top self) : Nat) ∧ Rb (wr.setCell ⟨g, k * 8 + 7, none⟩ (.bool false)) base r (offs (upTo (k + 1) (klB L top self)) L)) := fun hf => by
        refine ⟨by rw [HSu.out, hf]; simp, ?_⟩
        rw [offs_set HP.out hf]
        exact HO1.out
      cases hlv : p.lv with
      | false =>
        rw [hlv] at c7 hkl
        have HZ := fin0 (by rw [hkl]; rfl)
        clear fin0 fin1 hkl hcall hlv
        go_wp2_with fail
        exact ⟨⟨k + 1, by omega, by go_num, HZ.out.1, HZ.out.2, HF, HK⟩, by simp [intOf]; omega⟩
      | true =>
        rw [hlv] at c7 hkl
        by_cases hst : self = true ∧ k = top
        · obtain ⟨rfl, rfl⟩ := hst
          have HZ := fin1 (by rw [hkl]; simp)
          clear fin0 fin1 hkl hcall hlv
          go_wp2_with fail
          exact ⟨⟨k + 1, by omega, by go_num, HZ.out.1, HZ.out.2, HO2, HK2⟩, by simp [intOf]; omega⟩
        · have hsf : (self && decide (k = top)) = false := by
            rw [Bool.and_eq_false_iff]
            cases self with
            | false => exact Or.inl rfl
            | true => exact Or.inr (decide_eq_false (fun e => hst ⟨rfl, e⟩))
          rw [hsf] at hkl
          simp only [Bool.false_or, Bool.true_and] at hkl
          cases hbl : blR L k (top : Nat) with
          | true =>
            rw [hbl] at hkl hcall
            have HZ := fin1 hkl
            have HC := hid hcall
            clear fin0 fin1 hkl hcall hlv hbl hsf
            cases self with
            | false =>
              clear hst
              go_wp2_with (go_at_call 49; refine HC.out.mono ?_; rintro e v1 ⟨rfl, hv⟩; replace hv := hv.symm; subst hv)
              exact ⟨⟨k + 1, by omega, by go_num, HZ.out.1, HZ.out.2, HO2, HK2⟩, by simp [intOf]; omega⟩
            | true =>
              have hne : ((k : Int) == (top : Int)) = false := beq_eq_false_iff_ne.2 (fun e => hst ⟨rfl, by omega⟩)
              clear hst
              go_wp2_with (go_at_call 49; refine HC.out.mono ?_; rintro e v1 ⟨rfl, hv⟩; replace hv := hv.symm; subst hv)
              exact ⟨⟨k + 1, by omega, by go_num, HZ.out.1, HZ.out.2, HO2, HK2⟩, by simp [intOf]; omega⟩
          | false =>
            rw [hbl] at hkl hcall
            have HZ := fin0 hkl
            have HC := hid hcall
            clear fin0 fin1 hkl hcall hlv hbl hsf
            cases self with
            | false =>
              clear hst
              go_wp2_with (go_at_call 49; refine HC.out.mono ?_; rintro e v1 ⟨rfl, hv⟩; replace hv := hv.symm; subst hv)
              exact ⟨⟨k + 1, by omega, by go_num, HZ.out.1, HZ.out.2, HF, HK⟩, by simp [intOf]; omega⟩
            | true =>
              have hne : ((k : Int) == (top : Int)) = false := beq_eq_false_iff_ne.2 (fun e => hst ⟨rfl, by omega⟩)
              clear hst
              go_wp2_with (go_at_call 49; refine HC.out.mono ?_; rintro e v1 ⟨rfl, hv⟩; replace hv := hv.symm; subst hv)
              exact ⟨⟨k + 1, by omega, by go_num, HZ.out.1, HZ.out.2, HF, HK⟩, by simp [intOf]; omega⟩
    · obtain rfl : k = N := by omega
      go_wp2_with fail
      go_ret
      exact ⟨rfl, by rw [HE.out]; exact HR.out, HF.out⟩
end Go.Proofs.Ytcffodkpflfeoaa
