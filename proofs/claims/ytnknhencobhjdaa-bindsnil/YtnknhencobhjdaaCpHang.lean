/- caps.hangsOn, and the functions that are handed on to it; no statement is proved in this text. -/
import Derived.Test.YtnknhencobhjdaaCpCheck
import Derived.Laws.EntriesVeiled
namespace Go.Proofs.Ytnknhencobhjdaa.Cp
open Go.ChangeShapes Go.WideShapes Go.ChangeAt Go.RowKit Go.Deep
attribute [local go_sem ↓] Go.wp_at_zero Go.wp_at_succ

abbrev pq (q : Nat) : Value := .pointer (some ⟨q, 0, none⟩)
theorem drewN_drewN (w : World) (m n : Nat) : (w.drewN m).drewN n = w.drewN (m + n) := by
  simp [World.drewN]; first | done | omega
theorem Tb.drewN {w : World} {base b : Nat} {T : List Pl} (h : Tb w base b T) (n : Nat) : Tb (w.drewN n) base b T := ⟨h.lo, h.len, h.row⟩
set_option maxRecDepth 100000 in
set_option maxHeartbeats 1600000 in
theorem cl42_ok (w : World) (q : Nat) (s sl : Int) (hq : w.cell? ⟨q, 0, none⟩ = some (i64 sl)) : Calls Try.prog 81 #[i64 s, pq q] w fun e w' => e = .returned (.bool (decide (s = sl))) ∧ w' = w := by
  by_cases h : s = sl
  · subst h
    rw [decide_eq_true rfl]
    go_enter Try.func81, Try.ntmps81
    go_wp2_with fail
    go_ret
    simp
  · rw [decide_eq_false h]
    have hb : (s == sl) = false := by simpa using h
    clear h
    go_enter Try.func81, Try.ntmps81
    go_wp2_with fail
    go_ret
    simp
set_option maxRecDepth 100000 in
set_option maxHeartbeats 1600000 in
theorem cl43_ok {w : World} {base b : Nat} {T : List Pl} (h : Tb w base b T) (q0 q : Nat) (sl : Int) (s : Nat) (p : Pl) (hp : T[s]? = some p) (h0 : w.cell? ⟨q0, 0, none⟩ = some (pq b)) (hq : w.cell? ⟨q, 0, none⟩ = some (i64 sl)) : Calls Try.prog 89 #[i64 (s : Nat), pq q0, pq q] w fun e w' => e = .returned (.bool (decide (p.fr = sl))) ∧ ∃ n, w' = w.drewN n := by
  have hs : s < 128 := by have := (List.getElem?_eq_some_iff.1 hp).1; have := h.len; omega
  have hsI : (s : Int) < 128 := by omega
  have t4 : w.cell? ⟨b, s * 6 + 4, none⟩ = some (i64 p.fr) := h.cell hp 4 (by omega)
  clear h hp
  by_cases h : p.fr = sl
  · rw [decide_eq_true h]
    have hb : (p.fr == sl) = true := by simpa using h
    clear h
    go_enter Try.func89, Try.ntmps89
    go_wp2_with fail
    go_quiet (fail)
    go_wp2_with fail
    go_ret
    exact ⟨by simp, nq, rfl⟩
  · rw [decide_eq_false h]
    have hb : (p.fr == sl) = false := by simpa using h
    clear h
    go_enter Try.func89, Try.ntmps89
    go_wp2_with fail
    go_quiet (fail)
    go_wp2_with fail
    go_ret
    exact ⟨by simp, nq, rfl⟩
set_option maxRecDepth 100000 in
set_option maxHeartbeats 1600000 in
theorem cl44_ok {w : World} {base b : Nat} {T : List Pl} (h : Tb w base b T) (q0 q : Nat) (sl : Int) (s : Nat) (p : Pl) (hp : T[s]? = some p) (h0 : w.cell? ⟨q0, 0, none⟩ = some (pq b)) (hq : w.cell? ⟨q, 0, none⟩ = some (i64 sl)) : Calls Try.prog 85 #[i64 (s : Nat), pq q0, pq q] w fun e w' => e = .returned (.bool (decide (p.c.env = sl))) ∧ ∃ n, w' = w.drewN n := by
  have hs : s < 128 := by have := (List.getElem?_eq_some_iff.1 hp).1; have := h.len; omega
  have hsI : (s : Int) < 128 := by omega
  have t4 : w.cell? ⟨b, s * 6, none⟩ = some (i64 p.c.env) := h.cell hp 0 (by omega)
  clear h hp
  by_cases h : p.c.env = sl
  · rw [decide_eq_true h]
    have hb : (p.c.env == sl) = true := by simpa using h
    clear h
    go_enter Try.func85, Try.ntmps85
    go_wp2_with fail
    go_quiet (fail)
    go_wp2_with fail
    go_ret
    exact ⟨by simp, nq, rfl⟩
  · rw [decide_eq_false h]
    have hb : (p.c.env == sl) = false := by simpa using h
    clear h
    go_enter Try.func85, Try.ntmps85
    go_wp2_with fail
    go_quiet (fail)
    go_wp2_with fail
    go_ret
    exact ⟨by simp, nq, rfl⟩
/-- What a slot was derived from. -/
def frA (T : List Pl) (s : Nat) : Int := match T[s]? with
  | some p => p.fr
  | none => -1
/-- Whether what is meant is met on the way up. -/
def hgF (T : List Pl) (m : Nat → Bool) : Nat → Int → Bool
  | 0, _ => false
  | n + 1, s => if s = -1 then false else if m s.toNat = true then true else hgF T m n (frA T s.toNat)
theorem hgF_end (T : List Pl) (m : Nat → Bool) (n : Nat) : hgF T m (n + 1) (-1) = false := by simp [hgF]
theorem hgF_yes (T : List Pl) (m : Nat → Bool) (n s : Nat) (h : m s = true) : hgF T m (n + 1) (s : Nat) = true := by
  unfold hgF
  rw [if_neg (by omega), Int.toNat_natCast, if_pos h]
theorem hgF_no (T : List Pl) (m : Nat → Bool) (n s : Nat) (p : Pl) (hp : T[s]? = some p) (h : m s = false) : hgF T m (n + 1) (s : Nat) = hgF T m n p.fr := by
  rw [hgF, if_neg (by omega), Int.toNat_natCast, if_neg (by simp [h]), frA, hp]
/-- The ways up end. -/
structure Rk (T : List Pl) (rk : Nat → Nat) : Prop where
  up : ∀ (s : Nat) p, T[s]? = some p → p.c ≠ zC → p.fr = -1 ∨ ∃ (s' : Nat) (p' : Pl), p.fr = s' ∧ T[s']? = some p' ∧ p'.c ≠ zC ∧ rk s' < rk s
def upM (rk : Nat → Nat) (x : Int) : Nat := if x = -1 then 0 else rk x.toNat + 1
/-- A function that means slots. -/
abbrev Means (w : World) (T : List Pl) (m : Nat → Bool) (F : FuncId) (cs : List Value) : Prop := ∀ n (s : Nat) p, T[s]? = some p → Calls Try.prog F (i64 (s : Nat) :: cs).toArray (w.drewN n) fun e w' => e = .returned (.bool (m s)) ∧ ∃ k, w' = w.drewN k
set_option maxRecDepth 100000 in
set_option maxHeartbeats 1600000 in
theorem hang42 {w : World} {base b : Nat} {T : List Pl} (h : Tb w base b T) (q : Nat) (m : Nat → Bool) (hm : Means w T m 81 [pq q]) (rk : Nat → Nat) (hr : Rk T rk) (N : Nat) (s : Nat) (p : Pl) (hp : T[s]? = some p) (hc : p.c ≠ zC) (hN : rk s + 2 ≤ N) (n0 : Nat) :
    Calls Try.prog 95 #[pq b, i64 (s : Nat), .func (.func 81) #[] #[pq q]] (w.drewN n0) fun e w' => e = .returned (.bool (hgF T m N s)) ∧ ∃ n, w' = w.drewN n := by
  have HM : Hid (Means w T m 81 [pq q]) := hm
  have HR : Hid (Rk T rk) := hr
  have HT := hid h
  have hl := h.len
  clear hm hr
  obtain ⟨R, hR⟩ : ∃ R, R = hgF T m N s := ⟨_, rfl⟩
  rw [← hR]
  have HR0 : Hid (R = hgF T m N s) := hR
  have HP0 : Hid (T[s]? = some p ∧ p.c ≠ zC) := ⟨hp, hc⟩
  clear h hR hp hc
  go_enter Try.func95, Try.ntmps95
  go_wp2_with fail
  go_loopw [1] (fun u wr => ∃ (x : Int) (n : Nat), u = i64 x ∧ (∃ n, wr = w.drewN n) ∧ Hid (R = hgF T m n x) ∧ Hid ((x = -1 ∧ 1 ≤ n) ∨ ∃ (s : Nat) (p : Pl), x = s ∧ T[s]? = some p ∧ p.c ≠ zC ∧ rk s + 2 ≤ n)) (fun u _ => upM rk (intOf u))
  case atStart => exact ⟨s, N, rfl, ⟨n0, rfl⟩, HR0, Or.inr ⟨s, p, rfl, HP0.out.1, HP0.out.2, hN⟩⟩
  case round =>
    obtain ⟨x, n, rfl, ⟨nr, rfl⟩, HRn, HX⟩ := hrel
    rcases HX.out with ⟨rfl, h1⟩ | ⟨s1, p1, rfl, hp1, hc1, hn1⟩
    · obtain ⟨n', rfl⟩ : ∃ n', n = n' + 1 := ⟨n - 1, by omega⟩
      have HF : Hid (R = false) := by rw [HRn.out]; exact hgF_end T m n'
      clear HX
      go_wp2_with fail
      go_ret
      exact ⟨by rw [HF.out]; rfl, nr, rfl⟩
    · obtain ⟨n', rfl⟩ : ∃ n', n = n' + 1 := ⟨n - 1, by omega⟩
      have hs1 : s1 < 128 := by have := (List.getElem?_eq_some_iff.1 hp1).1; omega
      have hs1I : (s1 : Int) < 128 := by omega
      have g1 : ((s1 : Int) == -1) = false := beq_eq_false_iff_ne.2 (by omega)
      have hcall := HM.out nr s1 p1 hp1
      cases hms : m s1 with
      | true =>
        have HF : Hid (R = true) := by rw [HRn.out]; exact hgF_yes T m n' s1 hms
        rw [hms] at hcall
        have HC := hid hcall
        clear hcall hms HX
        go_wp2_with (go_at_call 81; refine HC.out.mono ?_; rintro e v1 ⟨rfl, ⟨nv, rfl⟩⟩)
        go_ret
        exact ⟨by rw [HF.out]; simp, nv, rfl⟩
      | false =>
        rw [hms] at hcall
        have HC := hid hcall
        have HF : Hid (R = hgF T m n' p1.fr) := by rw [HRn.out]; exact hgF_no T m n' s1 p1 hp1 hms
        have HU := hid (HR.out.up s1 p1 hp1 hc1)
        have t4 : ∀ n, (w.drewN n).cell? ⟨b, s1 * 6 + 4, none⟩ = some (i64 p1.fr) := fun n => (HT.out.drewN n).cell hp1 4 (by omega)
        clear hcall hms HX hp1 hc1
        go_wp2_with (go_at_call 81; refine HC.out.mono ?_; rintro e v1 ⟨rfl, ⟨nv, rfl⟩⟩)
        refine ⟨⟨p1.fr, n', rfl, ⟨nv, rfl⟩, HF, ?_⟩, ?_⟩
        · rcases HU.out with h | ⟨s2, p2, h1, h2, h3, h4⟩
          · exact Or.inl ⟨h, by omega⟩
          · exact Or.inr ⟨s2, p2, h1, h2, h3, by omega⟩
        · show upM rk p1.fr < upM rk (s1 : Nat)
          unfold upM
          rcases HU.out with h | ⟨s2, p2, h1, h2, h3, h4⟩
          · rw [if_pos h, if_neg (by omega)]; omega
          · rw [h1, if_neg (by omega), if_neg (by omega), Int.toNat_natCast, Int.toNat_natCast]; omega
set_option maxRecDepth 100000 in
set_option maxHeartbeats 1600000 in
theorem hang43 {w : World} {base b : Nat} {T : List Pl} (h : Tb w base b T) (q0 q : Nat) (m : Nat → Bool) (hm : Means w T m 89 [pq q0, pq q]) (rk : Nat → Nat) (hr : Rk T rk) (N : Nat) (s : Nat) (p : Pl) (hp : T[s]? = some p) (hc : p.c ≠ zC) (hN : rk s + 2 ≤ N) (n0 : Nat) :
    Calls Try.prog 95 #[pq b, i64 (s : Nat), .func (.func 89) #[] #[pq q0, pq q]] (w.drewN n0) fun e w' => e = .returned (.bool (hgF T m N s)) ∧ ∃ n, w' = w.drewN n := by
  have HM : Hid (Means w T m 89 [pq q0, pq q]) := hm
  have HR : Hid (Rk T rk) := hr
  have HT := hid h
  have hl := h.len
  clear hm hr
  obtain ⟨R, hR⟩ : ∃ R, R = hgF T m N s := ⟨_, rfl⟩
  rw [← hR]
  have HR0 : Hid (R = hgF T m N s) := hR
  have HP0 : Hid (T[s]? = some p ∧ p.c ≠ zC) := ⟨hp, hc⟩
  clear h hR hp hc
  go_enter Try.func95, Try.ntmps95
  go_wp2_with fail
  go_loopw [1] (fun u wr => ∃ (x : Int) (n : Nat), u = i64 x ∧ (∃ n, wr = w.drewN n) ∧ Hid (R = hgF T m n x) ∧ Hid ((x = -1 ∧ 1 ≤ n) ∨ ∃ (s : Nat) (p : Pl), x = s ∧ T[s]? = some p ∧ p.c ≠ zC ∧ rk s + 2 ≤ n)) (fun u _ => upM rk (intOf u))
  case atStart => exact ⟨s, N, rfl, ⟨n0, rfl⟩, HR0, Or.inr ⟨s, p, rfl, HP0.out.1, HP0.out.2, hN⟩⟩
  case round =>
    obtain ⟨x, n, rfl, ⟨nr, rfl⟩, HRn, HX⟩ := hrel
    rcases HX.out with ⟨rfl, h1⟩ | ⟨s1, p1, rfl, hp1, hc1, hn1⟩
    · obtain ⟨n', rfl⟩ : ∃ n', n = n' + 1 := ⟨n - 1, by omega⟩
      have HF : Hid (R = false) := by rw [HRn.out]; exact hgF_end T m n'
      clear HX
      go_wp2_with fail
      go_ret
      exact ⟨by rw [HF.out]; rfl, nr, rfl⟩
    · obtain ⟨n', rfl⟩ : ∃ n', n = n' + 1 := ⟨n - 1, by omega⟩
      have hs1 : s1 < 128 := by have := (List.getElem?_eq_some_iff.1 hp1).1; omega
      have hs1I : (s1 : Int) < 128 := by omega
      have g1 : ((s1 : Int) == -1) = false := beq_eq_false_iff_ne.2 (by omega)
      have hcall := HM.out nr s1 p1 hp1
      cases hms : m s1 with
      | true =>
        have HF : Hid (R = true) := by rw [HRn.out]; exact hgF_yes T m n' s1 hms
        rw [hms] at hcall
        have HC := hid hcall
        clear hcall hms HX
        go_wp2_with (go_at_call 89; refine HC.out.mono ?_; rintro e v1 ⟨rfl, ⟨nv, rfl⟩⟩)
        go_ret
        exact ⟨by rw [HF.out]; simp, nv, rfl⟩
      | false =>
        rw [hms] at hcall
        have HC := hid hcall
        have HF : Hid (R = hgF T m n' p1.fr) := by rw [HRn.out]; exact hgF_no T m n' s1 p1 hp1 hms
        have HU := hid (HR.out.up s1 p1 hp1 hc1)
        have t4 : ∀ n, (w.drewN n).cell? ⟨b, s1 * 6 + 4, none⟩ = some (i64 p1.fr) := fun n => (HT.out.drewN n).cell hp1 4 (by omega)
        clear hcall hms HX hp1 hc1
        go_wp2_with (go_at_call 89; refine HC.out.mono ?_; rintro e v1 ⟨rfl, ⟨nv, rfl⟩⟩)
        refine ⟨⟨p1.fr, n', rfl, ⟨nv, rfl⟩, HF, ?_⟩, ?_⟩
        · rcases HU.out with h | ⟨s2, p2, h1, h2, h3, h4⟩
          · exact Or.inl ⟨h, by omega⟩
          · exact Or.inr ⟨s2, p2, h1, h2, h3, by omega⟩
        · show upM rk p1.fr < upM rk (s1 : Nat)
          unfold upM
          rcases HU.out with h | ⟨s2, p2, h1, h2, h3, h4⟩
          · rw [if_pos h, if_neg (by omega)]; omega
          · rw [h1, if_neg (by omega), if_neg (by omega), Int.toNat_natCast, Int.toNat_natCast]; omega
set_option maxRecDepth 100000 in
set_option maxHeartbeats 1600000 in
theorem hang44 {w : World} {base b : Nat} {T : List Pl} (h : Tb w base b T) (q0 q : Nat) (m : Nat → Bool) (hm : Means w T m 85 [pq q0, pq q]) (rk : Nat → Nat) (hr : Rk T rk) (N : Nat) (s : Nat) (p : Pl) (hp : T[s]? = some p) (hc : p.c ≠ zC) (hN : rk s + 2 ≤ N) (n0 : Nat) :
    Calls Try.prog 95 #[pq b, i64 (s : Nat), .func (.func 85) #[] #[pq q0, pq q]] (w.drewN n0) fun e w' => e = .returned (.bool (hgF T m N s)) ∧ ∃ n, w' = w.drewN n := by
  have HM : Hid (Means w T m 85 [pq q0, pq q]) := hm
  have HR : Hid (Rk T rk) := hr
  have HT := hid h
  have hl := h.len
  clear hm hr
  obtain ⟨R, hR⟩ : ∃ R, R = hgF T m N s := ⟨_, rfl⟩
  rw [← hR]
  have HR0 : Hid (R = hgF T m N s) := hR
  have HP0 : Hid (T[s]? = some p ∧ p.c ≠ zC) := ⟨hp, hc⟩
  clear h hR hp hc
  go_enter Try.func95, Try.ntmps95
  go_wp2_with fail
  go_loopw [1] (fun u wr => ∃ (x : Int) (n : Nat), u = i64 x ∧ (∃ n, wr = w.drewN n) ∧ Hid (R = hgF T m n x) ∧ Hid ((x = -1 ∧ 1 ≤ n) ∨ ∃ (s : Nat) (p : Pl), x = s ∧ T[s]? = some p ∧ p.c ≠ zC ∧ rk s + 2 ≤ n)) (fun u _ => upM rk (intOf u))
  case atStart => exact ⟨s, N, rfl, ⟨n0, rfl⟩, HR0, Or.inr ⟨s, p, rfl, HP0.out.1, HP0.out.2, hN⟩⟩
  case round =>
    obtain ⟨x, n, rfl, ⟨nr, rfl⟩, HRn, HX⟩ := hrel
    rcases HX.out with ⟨rfl, h1⟩ | ⟨s1, p1, rfl, hp1, hc1, hn1⟩
    · obtain ⟨n', rfl⟩ : ∃ n', n = n' + 1 := ⟨n - 1, by omega⟩
      have HF : Hid (R = false) := by rw [HRn.out]; exact hgF_end T m n'
      clear HX
      go_wp2_with fail
      go_ret
      exact ⟨by rw [HF.out]; rfl, nr, rfl⟩
    · obtain ⟨n', rfl⟩ : ∃ n', n = n' + 1 := ⟨n - 1, by omega⟩
      have hs1 : s1 < 128 := by have := (List.getElem?_eq_some_iff.1 hp1).1; omega
      have hs1I : (s1 : Int) < 128 := by omega
      have g1 : ((s1 : Int) == -1) = false := beq_eq_false_iff_ne.2 (by omega)
      have hcall := HM.out nr s1 p1 hp1
      cases hms : m s1 with
      | true =>
        have HF : Hid (R = true) := by rw [HRn.out]; exact hgF_yes T m n' s1 hms
        rw [hms] at hcall
        have HC := hid hcall
        clear hcall hms HX
        go_wp2_with (go_at_call 85; refine HC.out.mono ?_; rintro e v1 ⟨rfl, ⟨nv, rfl⟩⟩)
        go_ret
        exact ⟨by rw [HF.out]; simp, nv, rfl⟩
      | false =>
        rw [hms] at hcall
        have HC := hid hcall
        have HF : Hid (R = hgF T m n' p1.fr) := by rw [HRn.out]; exact hgF_no T m n' s1 p1 hp1 hms
        have HU := hid (HR.out.up s1 p1 hp1 hc1)
        have t4 : ∀ n, (w.drewN n).cell? ⟨b, s1 * 6 + 4, none⟩ = some (i64 p1.fr) := fun n => (HT.out.drewN n).cell hp1 4 (by omega)
        clear hcall hms HX hp1 hc1
        go_wp2_with (go_at_call 85; refine HC.out.mono ?_; rintro e v1 ⟨rfl, ⟨nv, rfl⟩⟩)
        refine ⟨⟨p1.fr, n', rfl, ⟨nv, rfl⟩, HF, ?_⟩, ?_⟩
        · rcases HU.out with h | ⟨s2, p2, h1, h2, h3, h4⟩
          · exact Or.inl ⟨h, by omega⟩
          · exact Or.inr ⟨s2, p2, h1, h2, h3, by omega⟩
        · show upM rk p1.fr < upM rk (s1 : Nat)
          unfold upM
          rcases HU.out with h | ⟨s2, p2, h1, h2, h3, h4⟩
          · rw [if_pos h, if_neg (by omega)]; omega
          · rw [h1, if_neg (by omega), if_neg (by omega), Int.toNat_natCast, Int.toNat_natCast]; omega
end Go.Proofs.Ytnknhencobhjdaa.Cp
