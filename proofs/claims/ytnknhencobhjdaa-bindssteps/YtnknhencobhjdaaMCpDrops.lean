/- No statement here. -/
import Derived.Laws.EntriesVeiled
import Derived.Test.YtnknhencobhjdaaMCpCheck
set_option maxRecDepth 100000
namespace Go.Proofs.Ytnknhencobhjdaa.Cp
open Go.ChangeShapes Go.WideShapes Go.ChangeAt Go.RowKit Go.Deep
attribute [local go_sem ↓] Go.wp_at_zero Go.wp_at_succ
abbrev pq (q : Nat) : Value := .pointer (some ⟨q, 0, none⟩)
theorem drewN_drewN (w : World) (m n : Nat) : (w.drewN m).drewN n = w.drewN (m + n) := by
  simp [World.drewN]; first | done | omega
theorem Tb.drewN {w : World} {base b : Nat} {T : List Pl} (h : Tb w base b T) (n : Nat) : Tb (w.drewN n) base b T := ⟨h.lo, h.len, h.row⟩
set_option maxHeartbeats 1600000 in
theorem cl42_ok (w : World) (q : Nat) (s sl : Int) (hq : w.cell? ⟨q, 0, none⟩ = some (i64 sl)) : Calls Try.prog 81 #[i64 s, pq q] w fun e w' => e = .returned (.bool (decide (s = sl))) ∧ w' = w := by
  by_cases h : s = sl
  · subst h
    rw [decide_eq_true rfl]
    go_enter Try.func81, Try.ntmps81
    go_wp2_with fail
    go_ret
    simp
  · rw [decide_eq_false h]
    have hb : (s == sl) = false := by simpa using h
    clear h
    go_enter Try.func81, Try.ntmps81
    go_wp2_with fail
    go_ret
    simp
set_option maxHeartbeats 1600000 in
theorem cl43_ok {w : World} {base b : Nat} {T : List Pl} (h : Tb w base b T) (q0 q : Nat) (sl : Int) (s : Nat) (p : Pl) (hp : T[s]? = some p) (h0 : w.cell? ⟨q0, 0, none⟩ = some (pq b)) (hq : w.cell? ⟨q, 0, none⟩ = some (i64 sl)) : Calls Try.prog 89 #[i64 (s : Nat), pq q0, pq q] w fun e w' => e = .returned (.bool (decide (p.fr = sl))) ∧ ∃ n, w' = w.drewN n := by
  have hs : s < 128 := by have := (List.getElem?_eq_some_iff.1 hp).1; have := h.len; omega
  have hsI : (s : Int) < 128 := by omega
  have t4 : w.cell? ⟨b, s * 6 + 4, none⟩ = some (i64 p.fr) := h.cell hp 4 (by omega)
  clear h hp
  by_cases h : p.fr = sl
  · rw [decide_eq_true h]
    have hb : (p.fr == sl) = true := by simpa using h
    clear h
    go_enter Try.func89, Try.ntmps89
    go_wp2_with fail
    go_quiet (fail)
    go_wp2_with fail
    go_ret
    exact ⟨by simp, nq, rfl⟩
  · rw [decide_eq_false h]
    have hb : (p.fr == sl) = false := by simpa using h
    clear h
    go_enter Try.func89, Try.ntmps89
    go_wp2_with fail
    go_quiet (fail)
    go_wp2_with fail
    go_ret
    exact ⟨by simp, nq, rfl⟩
set_option maxHeartbeats 1600000 in
theorem cl44_ok {w : World} {base b : Nat} {T : List Pl} (h : Tb w base b T) (q0 q : Nat) (sl : Int) (s : Nat) (p : Pl) (hp : T[s]? = some p) (h0 : w.cell? ⟨q0, 0, none⟩ = some (pq b)) (hq : w.cell? ⟨q, 0, none⟩ = some (i64 sl)) : Calls Try.prog 85 #[i64 (s : Nat), pq q0, pq q] w fun e w' => e = .returned (.bool (decide (p.c.env = sl))) ∧ ∃ n, w' = w.drewN n := by
  have hs : s < 128 := by have := (List.getElem?_eq_some_iff.1 hp).1; have := h.len; omega
  have hsI : (s : Int) < 128 := by omega
  have t4 : w.cell? ⟨b, s * 6, none⟩ = some (i64 p.c.env) := h.cell hp 0 (by omega)
  clear h hp
  by_cases h : p.c.env = sl
  · rw [decide_eq_true h]
    have hb : (p.c.env == sl) = true := by simpa using h
    clear h
    go_enter Try.func85, Try.ntmps85
    go_wp2_with fail
    go_quiet (fail)
    go_wp2_with fail
    go_ret
    exact ⟨by simp, nq, rfl⟩
  · rw [decide_eq_false h]
    have hb : (p.c.env == sl) = false := by simpa using h
    clear h
    go_enter Try.func85, Try.ntmps85
    go_wp2_with fail
    go_quiet (fail)
    go_wp2_with fail
    go_ret
    exact ⟨by simp, nq, rfl⟩
def frA (T : List Pl) (s : Nat) : Int := match T[s]? with
  | some p => p.fr
  | none => -1
def hgF (T : List Pl) (m : Nat → Bool) : Nat → Int → Bool
  | 0, _ => false
  | n + 1, s => if s = -1 then false else if m s.toNat = true then true else hgF T m n (frA T s.toNat)
theorem hgF_end (T : List Pl) (m : Nat → Bool) (n : Nat) : hgF T m (n + 1) (-1) = false := by simp [hgF]
theorem hgF_yes (T : List Pl) (m : Nat → Bool) (n s : Nat) (h : m s = true) : hgF T m (n + 1) (s : Nat) = true := by
  unfold hgF
  rw [if_neg (by omega), Int.toNat_natCast, if_pos h]
theorem hgF_no (T : List Pl) (m : Nat → Bool) (n s : Nat) (p : Pl) (hp : T[s]? = some p) (h : m s = false) : hgF T m (n + 1) (s : Nat) = hgF T m n p.fr := by
  rw [hgF, if_neg (by omega), Int.toNat_natCast, if_neg (by simp [h]), frA, hp]
structure Rk (T : List Pl) (rk : Nat → Nat) : Prop where
  up : ∀ (s : Nat) p, T[s]? = some p → p.c ≠ zC → p.fr = -1 ∨ ∃ (s' : Nat) (p' : Pl), p.fr = s' ∧ T[s']? = some p' ∧ p'.c ≠ zC ∧ rk s' < rk s
def upM (rk : Nat → Nat) (x : Int) : Nat := if x = -1 then 0 else rk x.toNat + 1
abbrev Means (w : World) (T : List Pl) (m : Nat → Bool) (F : FuncId) (cs : List Value) : Prop := ∀ n (s : Nat) p, T[s]? = some p → Calls Try.prog F (i64 (s : Nat) :: cs).toArray (w.drewN n) fun e w' => e = .returned (.bool (m s)) ∧ ∃ k, w' = w.drewN k
set_option maxHeartbeats 1600000 in
theorem hang42 {w : World} {base b : Nat} {T : List Pl} (h : Tb w base b T) (q : Nat) (m : Nat → Bool) (hm : Means w T m 81 [pq q]) (rk : Nat → Nat) (hr : Rk T rk) (N : Nat) (s : Nat) (p : Pl) (hp : T[s]? = some p) (hc : p.c ≠ zC) (hN : rk s + 2 ≤ N) (n0 : Nat) :
    Calls Try.prog 95 #[pq b, i64 (s : Nat), .func (.func 81) #[] #[pq q]] (w.drewN n0) fun e w' => e = .returned (.bool (hgF T m N s)) ∧ ∃ n, w' = w.drewN n := by
  have HM : Hid (Means w T m 81 [pq q]) := hm
  have HR : Hid (Rk T rk) := hr
  have HT := hid h
  have hl := h.len
  clear hm hr
  obtain ⟨R, hR⟩ : ∃ R, R = hgF T m N s := ⟨_, rfl⟩
  rw [← hR]
  have HR0 : Hid (R = hgF T m N s) := hR
  have HP0 : Hid (T[s]? = some p ∧ p.c ≠ zC) := ⟨hp, hc⟩
  clear h hR hp hc
  go_enter Try.func95, Try.ntmps95
  go_wp2_with fail
  go_loopw [1] (fun u wr => ∃ (x : Int) (n : Nat), u = i64 x ∧ (∃ n, wr = w.drewN n) ∧ Hid (R = hgF T m n x) ∧ Hid ((x = -1 ∧ 1 ≤ n) ∨ ∃ (s : Nat) (p : Pl), x = s ∧ T[s]? = some p ∧ p.c ≠ zC ∧ rk s + 2 ≤ n)) (fun u _ => upM rk (intOf u))
  case atStart => exact ⟨s, N, rfl, ⟨n0, rfl⟩, HR0, Or.inr ⟨s, p, rfl, HP0.out.1, HP0.out.2, hN⟩⟩
  case round =>
    obtain ⟨x, n, rfl, ⟨nr, rfl⟩, HRn, HX⟩ := hrel
    rcases HX.out with ⟨rfl, h1⟩ | ⟨s1, p1, rfl, hp1, hc1, hn1⟩
    · obtain ⟨n', rfl⟩ : ∃ n', n = n' + 1 := ⟨n - 1, by omega⟩
      have HF : Hid (R = false) := by rw [HRn.out]; exact hgF_end T m n'
      clear HX
      go_wp2_with fail
      go_ret
      exact ⟨by rw [HF.out]; rfl, nr, rfl⟩
    · obtain ⟨n', rfl⟩ : ∃ n', n = n' + 1 := ⟨n - 1, by omega⟩
      have hs1 : s1 < 128 := by have := (List.getElem?_eq_some_iff.1 hp1).1; omega
      have hs1I : (s1 : Int) < 128 := by omega
      have g1 : ((s1 : Int) == -1) = false := beq_eq_false_iff_ne.2 (by omega)
      have hcall := HM.out nr s1 p1 hp1
      cases hms : m s1 with
      | true =>
        have HF : Hid (R = true) := by rw [HRn.out]; exact hgF_yes T m n' s1 hms
        rw [hms] at hcall
        have HC := hid hcall
        clear hcall hms HX
        go_wp2_with (go_at_call 81; refine HC.out.mono ?_; rintro e v1 ⟨rfl, ⟨nv, rfl⟩⟩)
        go_ret
        exact ⟨by rw [HF.out]; simp, nv, rfl⟩
      | false =>
        rw [hms] at hcall
        have HC := hid hcall
        have HF : Hid (R = hgF T m n' p1.fr) := by rw [HRn.out]; exact hgF_no T m n' s1 p1 hp1 hms
        have HU := hid (HR.out.up s1 p1 hp1 hc1)
        have t4 : ∀ n, (w.drewN n).cell? ⟨b, s1 * 6 + 4, none⟩ = some (i64 p1.fr) := fun n => (HT.out.drewN n).cell hp1 4 (by omega)
        clear hcall hms HX hp1 hc1
        go_wp2_with (go_at_call 81; refine HC.out.mono ?_; rintro e v1 ⟨rfl, ⟨nv, rfl⟩⟩)
        refine ⟨⟨p1.fr, n', rfl, ⟨nv, rfl⟩, HF, ?_⟩, ?_⟩
        · rcases HU.out with h | ⟨s2, p2, h1, h2, h3, h4⟩
          · exact Or.inl ⟨h, by omega⟩
          · exact Or.inr ⟨s2, p2, h1, h2, h3, by omega⟩
        · show upM rk p1.fr < upM rk (s1 : Nat)
          unfold upM
          rcases HU.out with h | ⟨s2, p2, h1, h2, h3, h4⟩
          · rw [if_pos h, if_neg (by omega)]; omega
          · rw [h1, if_neg (by omega), if_neg (by omega), Int.toNat_natCast, Int.toNat_natCast]; omega
set_option maxHeartbeats 1600000 in
theorem hang43 {w : World} {base b : Nat} {T : List Pl} (h : Tb w base b T) (q0 q : Nat) (m : Nat → Bool) (hm : Means w T m 89 [pq q0, pq q]) (rk : Nat → Nat) (hr : Rk T rk) (N : Nat) (s : Nat) (p : Pl) (hp : T[s]? = some p) (hc : p.c ≠ zC) (hN : rk s + 2 ≤ N) (n0 : Nat) :
    Calls Try.prog 95 #[pq b, i64 (s : Nat), .func (.func 89) #[] #[pq q0, pq q]] (w.drewN n0) fun e w' => e = .returned (.bool (hgF T m N s)) ∧ ∃ n, w' = w.drewN n := by
  have HM : Hid (Means w T m 89 [pq q0, pq q]) := hm
  have HR : Hid (Rk T rk) := hr
  have HT := hid h
  have hl := h.len
  clear hm hr
  obtain ⟨R, hR⟩ : ∃ R, R = hgF T m N s := ⟨_, rfl⟩
  rw [← hR]
  have HR0 : Hid (R = hgF T m N s) := hR
  have HP0 : Hid (T[s]? = some p ∧ p.c ≠ zC) := ⟨hp, hc⟩
  clear h hR hp hc
  go_enter Try.func95, Try.ntmps95
  go_wp2_with fail
  go_loopw [1] (fun u wr => ∃ (x : Int) (n : Nat), u = i64 x ∧ (∃ n, wr = w.drewN n) ∧ Hid (R = hgF T m n x) ∧ Hid ((x = -1 ∧ 1 ≤ n) ∨ ∃ (s : Nat) (p : Pl), x = s ∧ T[s]? = some p ∧ p.c ≠ zC ∧ rk s + 2 ≤ n)) (fun u _ => upM rk (intOf u))
  case atStart => exact ⟨s, N, rfl, ⟨n0, rfl⟩, HR0, Or.inr ⟨s, p, rfl, HP0.out.1, HP0.out.2, hN⟩⟩
  case round =>
    obtain ⟨x, n, rfl, ⟨nr, rfl⟩, HRn, HX⟩ := hrel
    rcases HX.out with ⟨rfl, h1⟩ | ⟨s1, p1, rfl, hp1, hc1, hn1⟩
    · obtain ⟨n', rfl⟩ : ∃ n', n = n' + 1 := ⟨n - 1, by omega⟩
      have HF : Hid (R = false) := by rw [HRn.out]; exact hgF_end T m n'
      clear HX
      go_wp2_with fail
      go_ret
      exact ⟨by rw [HF.out]; rfl, nr, rfl⟩
    · obtain ⟨n', rfl⟩ : ∃ n', n = n' + 1 := ⟨n - 1, by omega⟩
      have hs1 : s1 < 128 := by have := (List.getElem?_eq_some_iff.1 hp1).1; omega
      have hs1I : (s1 : Int) < 128 := by omega
      have g1 : ((s1 : Int) == -1) = false := beq_eq_false_iff_ne.2 (by omega)
      have hcall := HM.out nr s1 p1 hp1
      cases hms : m s1 with
      | true =>
        have HF : Hid (R = true) := by rw [HRn.out]; exact hgF_yes T m n' s1 hms
        rw [hms] at hcall
        have HC := hid hcall
        clear hcall hms HX
        go_wp2_with (go_at_call 89; refine HC.out.mono ?_; rintro e v1 ⟨rfl, ⟨nv, rfl⟩⟩)
        go_ret
        exact ⟨by rw [HF.out]; simp, nv, rfl⟩
      | false =>
        rw [hms] at hcall
        have HC := hid hcall
        have HF : Hid (R = hgF T m n' p1.fr) := by rw [HRn.out]; exact hgF_no T m n' s1 p1 hp1 hms
        have HU := hid (HR.out.up s1 p1 hp1 hc1)
        have t4 : ∀ n, (w.drewN n).cell? ⟨b, s1 * 6 + 4, none⟩ = some (i64 p1.fr) := fun n => (HT.out.drewN n).cell hp1 4 (by omega)
        clear hcall hms HX hp1 hc1
        go_wp2_with (go_at_call 89; refine HC.out.mono ?_; rintro e v1 ⟨rfl, ⟨nv, rfl⟩⟩)
        refine ⟨⟨p1.fr, n', rfl, ⟨nv, rfl⟩, HF, ?_⟩, ?_⟩
        · rcases HU.out with h | ⟨s2, p2, h1, h2, h3, h4⟩
          · exact Or.inl ⟨h, by omega⟩
          · exact Or.inr ⟨s2, p2, h1, h2, h3, by omega⟩
        · show upM rk p1.fr < upM rk (s1 : Nat)
          unfold upM
          rcases HU.out with h | ⟨s2, p2, h1, h2, h3, h4⟩
          · rw [if_pos h, if_neg (by omega)]; omega
          · rw [h1, if_neg (by omega), if_neg (by omega), Int.toNat_natCast, Int.toNat_natCast]; omega
set_option maxHeartbeats 1600000 in
theorem hang44 {w : World} {base b : Nat} {T : List Pl} (h : Tb w base b T) (q0 q : Nat) (m : Nat → Bool) (hm : Means w T m 85 [pq q0, pq q]) (rk : Nat → Nat) (hr : Rk T rk) (N : Nat) (s : Nat) (p : Pl) (hp : T[s]? = some p) (hc : p.c ≠ zC) (hN : rk s + 2 ≤ N) (n0 : Nat) :
    Calls Try.prog 95 #[pq b, i64 (s : Nat), .func (.func 85) #[] #[pq q0, pq q]] (w.drewN n0) fun e w' => e = .returned (.bool (hgF T m N s)) ∧ ∃ n, w' = w.drewN n := by
  have HM : Hid (Means w T m 85 [pq q0, pq q]) := hm
  have HR : Hid (Rk T rk) := hr
  have HT := hid h
  have hl := h.len
  clear hm hr
  obtain ⟨R, hR⟩ : ∃ R, R = hgF T m N s := ⟨_, rfl⟩
  rw [← hR]
  have HR0 : Hid (R = hgF T m N s) := hR
  have HP0 : Hid (T[s]? = some p ∧ p.c ≠ zC) := ⟨hp, hc⟩
  clear h hR hp hc
  go_enter Try.func95, Try.ntmps95
  go_wp2_with fail
  go_loopw [1] (fun u wr => ∃ (x : Int) (n : Nat), u = i64 x ∧ (∃ n, wr = w.drewN n) ∧ Hid (R = hgF T m n x) ∧ Hid ((x = -1 ∧ 1 ≤ n) ∨ ∃ (s : Nat) (p : Pl), x = s ∧ T[s]? = some p ∧ p.c ≠ zC ∧ rk s + 2 ≤ n)) (fun u _ => upM rk (intOf u))
  case atStart => exact ⟨s, N, rfl, ⟨n0, rfl⟩, HR0, Or.inr ⟨s, p, rfl, HP0.out.1, HP0.out.2, hN⟩⟩
  case round =>
    obtain ⟨x, n, rfl, ⟨nr, rfl⟩, HRn, HX⟩ := hrel
    rcases HX.out with ⟨rfl, h1⟩ | ⟨s1, p1, rfl, hp1, hc1, hn1⟩
    · obtain ⟨n', rfl⟩ : ∃ n', n = n' + 1 := ⟨n - 1, by omega⟩
      have HF : Hid (R = false) := by rw [HRn.out]; exact hgF_end T m n'
      clear HX
      go_wp2_with fail
      go_ret
      exact ⟨by rw [HF.out]; rfl, nr, rfl⟩
    · obtain ⟨n', rfl⟩ : ∃ n', n = n' + 1 := ⟨n - 1, by omega⟩
      have hs1 : s1 < 128 := by have := (List.getElem?_eq_some_iff.1 hp1).1; omega
      have hs1I : (s1 : Int) < 128 := by omega
      have g1 : ((s1 : Int) == -1) = false := beq_eq_false_iff_ne.2 (by omega)
      have hcall := HM.out nr s1 p1 hp1
      cases hms : m s1 with
      | true =>
        have HF : Hid (R = true) := by rw [HRn.out]; exact hgF_yes T m n' s1 hms
        rw [hms] at hcall
        have HC := hid hcall
        clear hcall hms HX
        go_wp2_with (go_at_call 85; refine HC.out.mono ?_; rintro e v1 ⟨rfl, ⟨nv, rfl⟩⟩)
        go_ret
        exact ⟨by rw [HF.out]; simp, nv, rfl⟩
      | false =>
        rw [hms] at hcall
        have HC := hid hcall
        have HF : Hid (R = hgF T m n' p1.fr) := by rw [HRn.out]; exact hgF_no T m n' s1 p1 hp1 hms
        have HU := hid (HR.out.up s1 p1 hp1 hc1)
        have t4 : ∀ n, (w.drewN n).cell? ⟨b, s1 * 6 + 4, none⟩ = some (i64 p1.fr) := fun n => (HT.out.drewN n).cell hp1 4 (by omega)
        clear hcall hms HX hp1 hc1
        go_wp2_with (go_at_call 85; refine HC.out.mono ?_; rintro e v1 ⟨rfl, ⟨nv, rfl⟩⟩)
        refine ⟨⟨p1.fr, n', rfl, ⟨nv, rfl⟩, HF, ?_⟩, ?_⟩
        · rcases HU.out with h | ⟨s2, p2, h1, h2, h3, h4⟩
          · exact Or.inl ⟨h, by omega⟩
          · exact Or.inr ⟨s2, p2, h1, h2, h3, by omega⟩
        · show upM rk p1.fr < upM rk (s1 : Nat)
          unfold upM
          rcases HU.out with h | ⟨s2, p2, h1, h2, h3, h4⟩
          · rw [if_pos h, if_neg (by omega)]; omega
          · rw [h1, if_neg (by omega), if_neg (by omega), Int.toNat_natCast, Int.toNat_natCast]; omega
end Go.Proofs.Ytnknhencobhjdaa.Cp
namespace Go.Proofs.Ytnknhencobhjdaa.Cp
open Go.ChangeShapes Go.WideShapes Go.ChangeAt Go.RowKit Go.Deep
attribute [local go_sem ↓] Go.wp_at_zero Go.wp_at_succ
theorem wpList_app_run {P : Program} {w : World} {ops : Array Oper} {rest : List Oper} {o : Oper} {a : Act} {Q : Exit → Act → World → Prop} (hgd : o.guard = none) (s x : Operand) (t : TypeId)
    (ho : o.op = .call { callee := .builtin .append, args := #[s, x], argTypes := #[t, t] }) (v1 v2 : Value) (hs : a.eval s = v1) (hx : a.eval x = v2) (ty : TypeId) (hty : o.type = ty) (r : Value) (w' : World)
    (hr : (Builtin.append_ #[t, t] ty #[v1, v2]).run P w = .ok r w') (h : wpList P ops Q rest (a.put o.dst r) w') : wpList P ops Q (o :: rest) a w :=
  wpList_plain hgd fun _ hK => by
    unfold Oper.wp execOp
    simp only [ho, resolve, invoke, builtin, Sem.run_bind, Sem.run_pure, Result.andThen_ok, List.map_toArray, List.map_cons, List.map_nil, hs, hx, hty, hr]
    exact hK _ _ h
theorem app_one {t e te : TypeId} {size bytes : Nat} {z : Value} (hu : Try.prog.underlying t = some (.slice e)) (hin : (Try.prog.info? e).map (fun i => (i.zero, i.size, i.bytes)) = some (some z, size, bytes)) (hzs : z.cells.size = size) (hsz : 0 < size) (hby : bytes ≤ 1000)
    {V : World} {base : Nat} {v : Value} {n : Nat} {xs : List Value} (ho : V.ownsRow base e size v n xs) (C : List Value) (hC : C.length = size) (h1 : ∀ u ∈ C, u.oneCell' = true) (hn : n ≤ 100000) (hB : base ≤ V.heap.size) :
    ∃ ao cap w', (Builtin.append_ #[t, t] t #[v, .slice (some ⟨V.heap.size, 0, none⟩) 1 1]).run Try.prog (V.alloc (.cells C.toArray te)) = .ok (.slice ao (n + 1) cap) w' ∧ w'.ownsRow base e size (.slice ao (n + 1) cap) (n + 1) (xs ++ C) ∧ Fr base [e] V w' ∧ w'.heap[V.heap.size]? = some (.cells C.toArray te) := by
  obtain ⟨i, hi, hz, hs, hb⟩ := info_parts hin
  have hb1 : Below V.heap.size V (V.alloc (.cells C.toArray te)) := bl1 V _
  have ho2 : (V.alloc (.cells C.toArray te)).ownsRow base e size v n xs := ho.alloc _
  have hmul : (n + 1) * bytes ≤ 140737488355328 := Nat.le_trans (Nat.mul_le_mul (show n + 1 ≤ 100001 by omega) hby) (by decide)
  obtain ⟨v', w', hr, h2, h3, _, _⟩ := run_append_own_at (P := Try.prog) (V.alloc (.cells C.toArray te)) base t t e i z size bytes hu hi hz hs hb hzs hsz v n xs ho2 ⟨V.heap.size, 0, none⟩ 1 1 C (by rw [hC, Nat.one_mul]) (World.news_of_block (hlx V _)) h1 (by unfold maxLen; omega) hmul (by have := hb1.size; omega)
  obtain ⟨ao, cap, rfl, _⟩ := own_slice h2
  have hgb : ∀ k o, V.heap[k]? = some o → keeps [e] o = true → w'.heap[k]? = some o := fun k o hk hko => by
    rw [h3.block k (by have := blk_lt hk; simp; omega) (fun hE => ?_)]
    · exact bkb hk hb1
    · rcases ho.2 with ⟨rfl, _⟩ | ⟨g, cap, cur, rfl, _, hgg, _⟩
      · simp [Value.ownBlock] at hE
      · simp [Value.ownBlock] at hE
        subst hE
        rw [hgg] at hk
        cases hk
        simp [keeps] at hko
  refine ⟨ao, cap, w', hr, h2, ⟨⟨h3.os, h3.tape, h3.output, Nat.le_trans hb1.size h3.size, fun k hk => ?_⟩, hgb⟩, ?_⟩
  · rw [h3.block k (by simp; omega) (fun hE => by have := (ho.lt k hE.symm).1; omega)]
    exact hb1.block k (by omega)
  · rw [h3.block _ (by simp) (fun hE => ?_)]
    · exact hlx V _
    · have := (ho.lt _ hE.symm).2; omega
theorem own_keep {w w' : World} {base : Nat} {e : TypeId} {size : Nat} {v : Value} {n : Nat} {xs : List Value} (h : w.ownsRow base e size v n xs) (hk : ∀ (k : Nat) (C : Array Value), w.heap[k]? = some (.cells C e) → w'.heap[k]? = some (.cells C e)) : w'.ownsRow base e size v n xs := by
  refine ⟨h.1, ?_⟩
  rcases h.2 with hn | ⟨g, cap, cur, rfl, hbg, hgg, rest⟩
  · exact .inl hn
  · exact .inr ⟨g, cap, cur, rfl, hbg, hk g cur hgg, rest⟩
theorem under32 : Try.prog.underlying 38 = some (.slice 3) := by kernel_rfl
theorem info3x : (Try.prog.info? 3).map (fun i => (i.zero, i.size, i.bytes)) = some (some (.int .i64 0), 1, 8) := by kernel_rfl
theorem drewN_zero (w : World) : w.drewN 0 = w := rfl
def tkB (T : List Pl) (s : Nat) : Bool := match T[s]? with
  | some p => decide (p.c ≠ zC)
  | none => false
def gnB (T : List Pl) (m : Nat → Bool) (N s : Nat) : Bool := tkB T s && hgF T m N s
def gnL (T : List Pl) (m : Nat → Bool) (N k : Nat) : List Nat := (List.range k).filter (gnB T m N)
def clP (p : Pl) : Pl := ⟨zC, 0, p.gen⟩
def clr (T : List Pl) (l : List Nat) : List Pl := T.mapIdx fun i p => if i ∈ l then clP p else p
theorem clr_len (T : List Pl) (l : List Nat) : (clr T l).length = T.length := by simp [clr]
theorem clr_get (T : List Pl) (l : List Nat) (i : Nat) : (clr T l)[i]? = (T[i]?).map fun p => if i ∈ l then clP p else p := by simp [clr]
theorem clr_nil (T : List Pl) : clr T [] = T := by
  apply List.ext_getElem?
  intro i
  rw [clr_get]
  cases T[i]? <;> simp
theorem clr_snoc (T : List Pl) (l : List Nat) (s : Nat) (p : Pl) (hp : T[s]? = some p) : (clr T l).set s (clP p) = clr T (l ++ [s]) := by
  apply List.ext_getElem?
  intro i
  rw [clr_get]
  by_cases h : s = i
  · subst h
    have := (List.getElem?_eq_some_iff.1 hp).1
    rw [List.getElem?_set_self (by rw [clr_len]; exact this), hp]
    simp
  · rw [List.getElem?_set_ne h, clr_get]
    cases T[i]? with
    | none => rfl
    | some q => simp [show ¬ i = s from fun e => h e.symm]
theorem clr_gen (T : List Pl) (l : List Nat) (s : Nat) (p : Pl) (hp : T[s]? = some p) : ∃ q, (clr T l)[s]? = some q ∧ q.gen = p.gen := by
  rw [clr_get, hp]
  by_cases h : s ∈ l
  · exact ⟨clP p, by simp [h], rfl⟩
  · exact ⟨p, by simp [h], rfl⟩
def icn (l : List Nat) : List Value := icells (l.map fun (x : Nat) => (x : Int))
theorem icn_app (a b : List Nat) : icn (a ++ b) = icn a ++ icn b := by simp [icn, icells]
theorem icn_get (l : List Nat) (i x : Nat) (h : l[i]? = some x) : (icn l)[i]? = some (i64 (x : Nat)) := by simp [icn, icells, h]
theorem gnL_succ (T : List Pl) (m : Nat → Bool) (N k : Nat) : gnL T m N (k + 1) = gnL T m N k ++ (if gnB T m N k = true then [k] else []) := by
  unfold gnL
  rw [List.range_succ, List.filter_append]
  by_cases h : gnB T m N k = true <;> simp [h]
theorem gnL_le (T : List Pl) (m : Nat → Bool) (N k : Nat) : (gnL T m N k).length ≤ k := by
  unfold gnL
  exact Nat.le_trans (List.length_filter_le _ _) (by simp)
theorem gnL_lt {T : List Pl} {m : Nat → Bool} {N k s : Nat} (h : s ∈ gnL T m N k) : s < k ∧ gnB T m N s = true := by
  unfold gnL at h
  simpa using h
structure SqD (b s : Nat) (g : Int) (W : World) : Prop where
  s5 : W.cell? ⟨b, s * 6 + 5, none⟩ = some (i64 g)
set_option maxHeartbeats 3200000 in
theorem dropAll42 {w : World} {base b : Nat} {T : List Pl} (h : Tb w base b T) (q : Nat) (m : Nat → Bool) (hm : ∀ W, Below w.heap.size w W → Means W T m 81 [pq q]) (rk : Nat → Nat) (hr : Rk T rk) (N : Nat) (hN : ∀ s, rk s + 2 ≤ N) :
    Calls Try.prog 80 #[pq b, .func (.func 81) #[] #[pq q]] w fun e w' => e = .returned (i64 (gnL T m N 128).length) ∧ Tb w' base b (clr T (gnL T m N 128)) ∧ Touch b w w' := by
  have HM : Hid (∀ W, Below w.heap.size w W → Means W T m 81 [pq q]) := hm
  have HR : Hid (Rk T rk) := hr
  have HT := hid h
  have HNN := hid hN
  have hl := h.len
  have hbl := h.lt
  obtain ⟨G, hG⟩ : ∃ G, G = gnL T m N 128 := ⟨_, rfl⟩
  obtain ⟨n, hn⟩ : ∃ n, n = G.length := ⟨_, rfl⟩
  rw [← hG, ← hn]
  have HGe := hid hG
  have HN2 : Hid (G.length = n) := hn.symm
  clear hm hr hN h hG hn
  go_enter Try.func80, Try.ntmps80
  go_wp2_with fail
  go_loopw [5, 9] (fun v u wr => ∃ (k : Nat), k ≤ 128 ∧ u = i64 k ∧ Below w.heap.size w wr ∧ Hid (wr.ownsRow w.heap.size 3 1 v (gnL T m N k).length (icn (gnL T m N k)))) (fun _ u _ => 128 - (intOf u).toNat)
  case atStart => exact ⟨0, by omega, rfl, Below.refl _ _, World.ownsRow_nil w _ 3 1⟩
  case round =>
    obtain ⟨k, hk, rfl, hb, HO⟩ := hrel
    have HB := hid hb
    have hTr := HT.out.below hb
    have HTr := hid hTr
    have hLk := gnL_le T m N k
    by_cases hlt : k < 128
    · have hkI : (k : Int) < 128 := by omega
      obtain ⟨p, hp⟩ : ∃ p, T[k]? = some p := ⟨_, List.getElem?_eq_getElem (by omega)⟩
      have hfree := free_ok wr b (k * 6) p.c (hTr.cell hp 0 (by omega)) (hTr.cell hp 1 (by omega)) (hTr.cell hp 2 (by omega)) (hTr.cell hp 3 (by omega))
      have HS := hid (gnL_succ T m N k)
      by_cases hc : p.c = zC
      · rw [decide_eq_true hc] at hfree
        have HF := hid hfree
        have hg : gnB T m N k = false := by simp [gnB, tkB, hp, hc]
        have hE1 : gnL T m N (k + 1) = gnL T m N k := by rw [HS.out, hg]; simp
        have HO2 : Hid (wr.ownsRow w.heap.size 3 1 u5 (gnL T m N (k + 1)).length (icn (gnL T m N (k + 1)))) := by rw [hE1]; exact HO
        clear hE1
        clear hfree hb hTr hp hc hg
        go_wp2_with (go_at_call 73; refine HF.out.mono ?_; rintro e v1 ⟨rfl, hv⟩; replace hv := hv.symm; subst hv)
        exact ⟨⟨k + 1, by omega, by go_num, HB.out, HO2⟩, by simp [intOf]; omega⟩
      · rw [decide_eq_false hc] at hfree
        have HF := hid hfree
        have hh := hang42 hTr q m (HM.out wr hb) rk HR.out N k p hp hc (HNN.out k) 0
        rw [drewN_zero] at hh
        cases hg : hgF T m N k with
        | false =>
          rw [hg] at hh
          have HH := hid hh
          have hgb : gnB T m N k = false := by simp [gnB, tkB, hp, hc, hg]
          have hE1 : gnL T m N (k + 1) = gnL T m N k := by rw [HS.out, hgb]; simp
          have HO2 : Hid (∀ n, (wr.drewN n).ownsRow w.heap.size 3 1 u5 (gnL T m N (k + 1)).length (icn (gnL T m N (k + 1)))) := fun n => by rw [hE1]; exact own_keep HO.out (fun _ _ h => h)
          clear hE1
          clear hfree hb hTr hp hc hg hh hgb
          go_wp2_with (first | (go_at_call 73; refine HF.out.mono ?_; rintro e v1 ⟨rfl, hv⟩; replace hv := hv.symm; subst hv) | (go_at_call 95; refine HH.out.mono ?_; rintro e v1 ⟨rfl, ⟨nv, rfl⟩⟩))
          exact ⟨⟨k + 1, by omega, by go_num, below_drewN HB.out nv, HO2.out nv⟩, by simp [intOf]; omega⟩
        | true =>
          rw [hg] at hh
          have HH := hid hh
          have hgb : gnB T m N k = true := by simp [gnB, tkB, hp, hc, hg]
          have HO2 : Hid (∀ n, (wr.drewN n).ownsRow w.heap.size 3 1 u5 (gnL T m N k).length (icn (gnL T m N k))) := fun n => own_keep HO.out (fun _ _ h => h)
          have HE : Hid (gnL T m N (k + 1) = gnL T m N k ++ [k]) := by rw [HS.out, hgb]; rfl
          clear hfree hb hTr hp hc hg hh hgb
          go_upto_region 6 with (first | (go_at_call 73; refine HF.out.mono ?_; rintro e v1 ⟨rfl, hv⟩; replace hv := hv.symm; subst hv) | (go_at_call 95; refine HH.out.mono ?_; rintro e v1 ⟨rfl, ⟨nv, rfl⟩⟩))
          have hbN := below_drewN HB.out nv
          have HBN := hid hbN
          have happ := app_one (te := 3) under32 info3x rfl (by omega) (by omega) (HO2.out nv) [i64 (k : Nat)] rfl (by intro u hu; simp at hu; subst hu; rfl) (by omega) hbN.size
          generalize wr.drewN nv = V at *
          obtain ⟨ao, cap, w3, hrun, hown, hfr, _⟩ := happ
          have HB3 : Hid (Below w.heap.size w w3) := HBN.out.trans hfr.below
          have HO3 : Hid (w3.ownsRow w.heap.size 3 1 (.slice ao ((gnL T m N k).length + 1) cap) (gnL T m N (k + 1)).length (icn (gnL T m N (k + 1)))) := by rw [HE.out, List.length_append, icn_app]; exact hown
          have HRUN := hid hrun
          obtain ⟨ao0, cap0, rfl, _⟩ := own_slice (HO.out)
          clear hbN hrun hown hfr
          generalize (gnL T m N k).length = n at *
          go_wp2_with (at_builtin; refine wpList_app_run rfl (.tmp 25) (.tmp 27) 38 rfl _ _ rfl rfl 38 rfl _ _ HRUN.out ?_)
          exact ⟨⟨k + 1, by omega, by go_num, HB3.out, HO3⟩, by simp [intOf]; omega⟩
    · obtain rfl : k = 128 := by omega
      have HO : Hid (wr.ownsRow w.heap.size 3 1 u5 G.length (icn G)) := by rw [HGe.out]; exact HO
      have hGl : G.length ≤ 128 := by rw [HGe.out]; exact hLk
      have HG : Hid (∀ s ∈ G, s < 128) := fun s hs => by rw [HGe.out] at hs; exact (gnL_lt hs).1
      obtain ⟨ao, cap, rfl, _⟩ := own_slice HO.out
      rw [HN2.out] at hGl HO ⊢
      have hnI : (n : Int) ≤ 128 := by omega
      have HT0 : Hid (Tb wr base b (clr T (G.take 0))) := by rw [List.take_zero, clr_nil]; exact HTr.out
      have HTo0 : Hid (Touch b w wr) := Touch.of_below HB.out
      clear hTr hb hLk
      generalize wr = V0 at *
      go_wp2_with fail
      go_loopw [32] (fun u wr => ∃ (j : Nat), j ≤ n ∧ u = i64 j ∧ Hid (Tb wr base b (clr T (G.take j))) ∧ Hid (Touch b w wr) ∧ Hid (wr.ownsRow w.heap.size 3 1 (.slice ao n cap) n (icn G))) (fun u _ => n - (intOf u).toNat)
      case atStart => exact ⟨0, by omega, rfl, HT0, HTo0, HO⟩
      case round =>
        obtain ⟨j, hj, rfl, HTj, HToj, HOj⟩ := hrel
        by_cases hltj : j < n
        · obtain ⟨s, hs⟩ : ∃ s, G[j]? = some s := ⟨_, List.getElem?_eq_getElem (by rw [HN2.out]; exact hltj)⟩
          have hs128 : s < 128 := HG.out s (List.mem_of_getElem? hs)
          have hsI : (s : Int) < 128 := by omega
          obtain ⟨p, hp⟩ : ∃ p, T[s]? = some p := ⟨_, List.getElem?_eq_getElem (by omega)⟩
          obtain ⟨p1, hp1, hge⟩ := clr_gen T (G.take j) s p hp
          have hst : clr T (G.take (j + 1)) = (clr T (G.take j)).set s (clP p) := by
            rw [clr_snoc T _ s p hp, List.take_add_one, hs]; rfl
          have HST := hid hst
          have hcell : wr.cell? ⟨b, s * 6 + 5, none⟩ = some (i64 p.gen) := by rw [← hge]; exact HTj.out.cell hp1 5 (by omega)
          rcases HOj.out.2 with ⟨hnil, _⟩ | ⟨g, cap', cur, hv, hbg, hgg, _⟩
          · exfalso; simp at hnil; omega
          · simp only [Value.slice.injEq] at hv
            obtain ⟨rfl, _, rfl⟩ := hv
            have hne : b ≠ g := fun e => by have := HTj.out.row; rw [e, hgg] at this; simp at this
            have cG : wr.cell? ⟨g, j, none⟩ = some (i64 (s : Nat)) := by
              rw [HOj.out.cellAt j (by omega)]; exact icn_get G j s hs
            have HS : Hid (SqD b s p.gen wr.drew) := ⟨hcell⟩
            have HTH : Hid (wr.drew.there b (s * 6) 6) := HTj.out.there hs128
            clear hcell hp1 hge hst hp hs
            go_upto_region 11 with fail
            refine wp_region_noPanic ?_
            refine wrl (SqD b s p.gen) 13 (by kernel_rfl) ?_
            refine wkp 0 36 (pq b) [10, 11, 12] rfl HS.out (fun W hW => by obtain ⟨s5⟩ := hW; go_simp) ?_
            refine wkp 1 37 (i64 (s : Nat)) [12] rfl HS.out (fun W hW => by obtain ⟨s5⟩ := hW; go_simp) ?_
            refine wkp 2 38 (pq b) [4, 5, 6, 7, 8, 9] rfl HS.out (fun W hW => by obtain ⟨s5⟩ := hW; go_simp) ?_
            refine wkp 3 39 (i64 (s : Nat)) [6, 7, 8, 9] rfl HS.out (fun W hW => by obtain ⟨s5⟩ := hW; go_simp) ?_
            refine wkp 4 40 (pq b) [5, 6, 7, 8, 9] rfl HS.out (fun W hW => by obtain ⟨s5⟩ := hW; go_simp) ?_
            refine wkp 5 41 (pq b) [6, 7, 8, 9] rfl HS.out (fun W hW => by obtain ⟨s5⟩ := hW; go_simp) ?_
            refine wkp 6 42 (.pointer (some ⟨b, s * 6, none⟩)) [7, 8, 9] rfl HS.out (fun W hW => by obtain ⟨s5⟩ := hW; go_simp) ?_
            refine wkp 7 43 (.pointer (some ⟨b, s * 6 + 5, none⟩)) [8, 9] rfl HS.out (fun W hW => by obtain ⟨s5⟩ := hW; go_simp) ?_
            refine wkp 8 44 (i64 p.gen) [9] rfl HS.out (fun W hW => by obtain ⟨s5⟩ := hW; go_simp) ?_
            refine wk 9 45 (.agg #[i64 0, i64 0, i64 0, i64 0, i64 0, i64 p.gen]) rfl HS.out (fun W hW => by obtain ⟨s5⟩ := hW; go_simp) ?_
            refine wkp 10 46 (pq b) [11, 12] rfl HS.out (fun W hW => by obtain ⟨s5⟩ := hW; go_simp) ?_
            refine wkp 11 47 (pq b) [12] rfl HS.out (fun W hW => by obtain ⟨s5⟩ := hW; go_simp) ?_
            refine wk 12 48 (.pointer (some ⟨b, s * 6, none⟩)) rfl HS.out (fun W hW => by obtain ⟨s5⟩ := hW; go_simp) ?_
            simp only [Act.put, sA, sZ, sS]
            refine wo 13 rfl (fun K hK => ?_)
            refine wp_store_mid 120 (.tmp 48) (.tmp 45) rfl b (s * 6) (plC (clP p)).toArray rfl rfl (by exact HTH.out) (by kernel_rfl) (plC_one _) ?_
            refine hK.out _ _ (fun h => absurd rfl h) ?_
            clear hK K
            refine wdd ?_
            refine NoPanic.normal ?_
            have HT2 : Hid (Tb (wr.drew.setCells b (s * 6) (plC (clP p))) base b (clr T (G.take (j + 1)))) := by rw [HST.out]; exact Tb.set (w := wr.drew) ⟨HTj.out.lo, HTj.out.len, HTj.out.row⟩ hs128 _
            have HTo2 : Hid (Touch b w (wr.drew.setCells b (s * 6) (plC (clP p)))) := Touch.setCells _ _ _ (Touch.drew HToj.out)
            have HO2 : Hid ((wr.drew.setCells b (s * 6) (plC (clP p))).ownsRow w.heap.size 3 1 (.slice (some ⟨g, 0, none⟩) n cap) n (icn G)) := own_keep HOj.out (fun k C hC => by rw [heap_sc_ne _ _ _ (fun e => by subst e; have := HTj.out.row; rw [hC] at this; simp at this)]; exact hC)
            generalize wr.drew.setCells b (s * 6) (plC (clP p)) = U at *
            simp only [Act.put, List.setIfInBounds_toArray]
            go_wp2_with fail
            go_roundw
            case rel => exact ⟨_, _, _, _, _, _, _, _, _, _, _, _, _, _, _, _, _, _, _, ⟨j + 1, by omega, by go_num, HT2, HTo2, HO2⟩, rfl⟩
            case measure => simp [intOf]; omega
        · obtain rfl : j = n := by omega
          have HTE : Hid (Tb wr base b (clr T G)) := by have := HTj.out; rw [List.take_of_length_le (by rw [HN2.out]; omega)] at this; exact this
          go_wp2_with fail
          go_ret
          exact ⟨rfl, HTE.out, HToj.out⟩
set_option maxHeartbeats 3200000 in
theorem dropAll43 {w : World} {base b : Nat} {T : List Pl} (h : Tb w base b T) (q0 q : Nat) (m : Nat → Bool) (hm : ∀ W, Below w.heap.size w W → Means W T m 89 [pq q0, pq q]) (rk : Nat → Nat) (hr : Rk T rk) (N : Nat) (hN : ∀ s, rk s + 2 ≤ N) :
    Calls Try.prog 80 #[pq b, .func (.func 89) #[] #[pq q0, pq q]] w fun e w' => e = .returned (i64 (gnL T m N 128).length) ∧ Tb w' base b (clr T (gnL T m N 128)) ∧ Touch b w w' := by
  have HM : Hid (∀ W, Below w.heap.size w W → Means W T m 89 [pq q0, pq q]) := hm
  have HR : Hid (Rk T rk) := hr
  have HT := hid h
  have HNN := hid hN
  have hl := h.len
  have hbl := h.lt
  obtain ⟨G, hG⟩ : ∃ G, G = gnL T m N 128 := ⟨_, rfl⟩
  obtain ⟨n, hn⟩ : ∃ n, n = G.length := ⟨_, rfl⟩
  rw [← hG, ← hn]
  have HGe := hid hG
  have HN2 : Hid (G.length = n) := hn.symm
  clear hm hr hN h hG hn
  go_enter Try.func80, Try.ntmps80
  go_wp2_with fail
  go_loopw [5, 9] (fun v u wr => ∃ (k : Nat), k ≤ 128 ∧ u = i64 k ∧ Below w.heap.size w wr ∧ Hid (wr.ownsRow w.heap.size 3 1 v (gnL T m N k).length (icn (gnL T m N k)))) (fun _ u _ => 128 - (intOf u).toNat)
  case atStart => exact ⟨0, by omega, rfl, Below.refl _ _, World.ownsRow_nil w _ 3 1⟩
  case round =>
    obtain ⟨k, hk, rfl, hb, HO⟩ := hrel
    have HB := hid hb
    have hTr := HT.out.below hb
    have HTr := hid hTr
    have hLk := gnL_le T m N k
    by_cases hlt : k < 128
    · have hkI : (k : Int) < 128 := by omega
      obtain ⟨p, hp⟩ : ∃ p, T[k]? = some p := ⟨_, List.getElem?_eq_getElem (by omega)⟩
      have hfree := free_ok wr b (k * 6) p.c (hTr.cell hp 0 (by omega)) (hTr.cell hp 1 (by omega)) (hTr.cell hp 2 (by omega)) (hTr.cell hp 3 (by omega))
      have HS := hid (gnL_succ T m N k)
      by_cases hc : p.c = zC
      · rw [decide_eq_true hc] at hfree
        have HF := hid hfree
        have hg : gnB T m N k = false := by simp [gnB, tkB, hp, hc]
        have hE1 : gnL T m N (k + 1) = gnL T m N k := by rw [HS.out, hg]; simp
        have HO2 : Hid (wr.ownsRow w.heap.size 3 1 u5 (gnL T m N (k + 1)).length (icn (gnL T m N (k + 1)))) := by rw [hE1]; exact HO
        clear hE1
        clear hfree hb hTr hp hc hg
        go_wp2_with (go_at_call 73; refine HF.out.mono ?_; rintro e v1 ⟨rfl, hv⟩; replace hv := hv.symm; subst hv)
        exact ⟨⟨k + 1, by omega, by go_num, HB.out, HO2⟩, by simp [intOf]; omega⟩
      · rw [decide_eq_false hc] at hfree
        have HF := hid hfree
        have hh := hang43 hTr q0 q m (HM.out wr hb) rk HR.out N k p hp hc (HNN.out k) 0
        rw [drewN_zero] at hh
        cases hg : hgF T m N k with
        | false =>
          rw [hg] at hh
          have HH := hid hh
          have hgb : gnB T m N k = false := by simp [gnB, tkB, hp, hc, hg]
          have hE1 : gnL T m N (k + 1) = gnL T m N k := by rw [HS.out, hgb]; simp
          have HO2 : Hid (∀ n, (wr.drewN n).ownsRow w.heap.size 3 1 u5 (gnL T m N (k + 1)).length (icn (gnL T m N (k + 1)))) := fun n => by rw [hE1]; exact own_keep HO.out (fun _ _ h => h)
          clear hE1
          clear hfree hb hTr hp hc hg hh hgb
          go_wp2_with (first | (go_at_call 73; refine HF.out.mono ?_; rintro e v1 ⟨rfl, hv⟩; replace hv := hv.symm; subst hv) | (go_at_call 95; refine HH.out.mono ?_; rintro e v1 ⟨rfl, ⟨nv, rfl⟩⟩))
          exact ⟨⟨k + 1, by omega, by go_num, below_drewN HB.out nv, HO2.out nv⟩, by simp [intOf]; omega⟩
        | true =>
          rw [hg] at hh
          have HH := hid hh
          have hgb : gnB T m N k = true := by simp [gnB, tkB, hp, hc, hg]
          have HO2 : Hid (∀ n, (wr.drewN n).ownsRow w.heap.size 3 1 u5 (gnL T m N k).length (icn (gnL T m N k))) := fun n => own_keep HO.out (fun _ _ h => h)
          have HE : Hid (gnL T m N (k + 1) = gnL T m N k ++ [k]) := by rw [HS.out, hgb]; rfl
          clear hfree hb hTr hp hc hg hh hgb
          go_upto_region 6 with (first | (go_at_call 73; refine HF.out.mono ?_; rintro e v1 ⟨rfl, hv⟩; replace hv := hv.symm; subst hv) | (go_at_call 95; refine HH.out.mono ?_; rintro e v1 ⟨rfl, ⟨nv, rfl⟩⟩))
          have hbN := below_drewN HB.out nv
          have HBN := hid hbN
          have happ := app_one (te := 3) under32 info3x rfl (by omega) (by omega) (HO2.out nv) [i64 (k : Nat)] rfl (by intro u hu; simp at hu; subst hu; rfl) (by omega) hbN.size
          generalize wr.drewN nv = V at *
          obtain ⟨ao, cap, w3, hrun, hown, hfr, _⟩ := happ
          have HB3 : Hid (Below w.heap.size w w3) := HBN.out.trans hfr.below
          have HO3 : Hid (w3.ownsRow w.heap.size 3 1 (.slice ao ((gnL T m N k).length + 1) cap) (gnL T m N (k + 1)).length (icn (gnL T m N (k + 1)))) := by rw [HE.out, List.length_append, icn_app]; exact hown
          have HRUN := hid hrun
          obtain ⟨ao0, cap0, rfl, _⟩ := own_slice (HO.out)
          clear hbN hrun hown hfr
          generalize (gnL T m N k).length = n at *
          go_wp2_with (at_builtin; refine wpList_app_run rfl (.tmp 25) (.tmp 27) 38 rfl _ _ rfl rfl 38 rfl _ _ HRUN.out ?_)
          exact ⟨⟨k + 1, by omega, by go_num, HB3.out, HO3⟩, by simp [intOf]; omega⟩
    · obtain rfl : k = 128 := by omega
      have HO : Hid (wr.ownsRow w.heap.size 3 1 u5 G.length (icn G)) := by rw [HGe.out]; exact HO
      have hGl : G.length ≤ 128 := by rw [HGe.out]; exact hLk
      have HG : Hid (∀ s ∈ G, s < 128) := fun s hs => by rw [HGe.out] at hs; exact (gnL_lt hs).1
      obtain ⟨ao, cap, rfl, _⟩ := own_slice HO.out
      rw [HN2.out] at hGl HO ⊢
      have hnI : (n : Int) ≤ 128 := by omega
      have HT0 : Hid (Tb wr base b (clr T (G.take 0))) := by rw [List.take_zero, clr_nil]; exact HTr.out
      have HTo0 : Hid (Touch b w wr) := Touch.of_below HB.out
      clear hTr hb hLk
      generalize wr = V0 at *
      go_wp2_with fail
      go_loopw [32] (fun u wr => ∃ (j : Nat), j ≤ n ∧ u = i64 j ∧ Hid (Tb wr base b (clr T (G.take j))) ∧ Hid (Touch b w wr) ∧ Hid (wr.ownsRow w.heap.size 3 1 (.slice ao n cap) n (icn G))) (fun u _ => n - (intOf u).toNat)
      case atStart => exact ⟨0, by omega, rfl, HT0, HTo0, HO⟩
      case round =>
        obtain ⟨j, hj, rfl, HTj, HToj, HOj⟩ := hrel
        by_cases hltj : j < n
        · obtain ⟨s, hs⟩ : ∃ s, G[j]? = some s := ⟨_, List.getElem?_eq_getElem (by rw [HN2.out]; exact hltj)⟩
          have hs128 : s < 128 := HG.out s (List.mem_of_getElem? hs)
          have hsI : (s : Int) < 128 := by omega
          obtain ⟨p, hp⟩ : ∃ p, T[s]? = some p := ⟨_, List.getElem?_eq_getElem (by omega)⟩
          obtain ⟨p1, hp1, hge⟩ := clr_gen T (G.take j) s p hp
          have hst : clr T (G.take (j + 1)) = (clr T (G.take j)).set s (clP p) := by
            rw [clr_snoc T _ s p hp, List.take_add_one, hs]; rfl
          have HST := hid hst
          have hcell : wr.cell? ⟨b, s * 6 + 5, none⟩ = some (i64 p.gen) := by rw [← hge]; exact HTj.out.cell hp1 5 (by omega)
          rcases HOj.out.2 with ⟨hnil, _⟩ | ⟨g, cap', cur, hv, hbg, hgg, _⟩
          · exfalso; simp at hnil; omega
          · simp only [Value.slice.injEq] at hv
            obtain ⟨rfl, _, rfl⟩ := hv
            have hne : b ≠ g := fun e => by have := HTj.out.row; rw [e, hgg] at this; simp at this
            have cG : wr.cell? ⟨g, j, none⟩ = some (i64 (s : Nat)) := by
              rw [HOj.out.cellAt j (by omega)]; exact icn_get G j s hs
            have HS : Hid (SqD b s p.gen wr.drew) := ⟨hcell⟩
            have HTH : Hid (wr.drew.there b (s * 6) 6) := HTj.out.there hs128
            clear hcell hp1 hge hst hp hs
            go_upto_region 11 with fail
            refine wp_region_noPanic ?_
            refine wrl (SqD b s p.gen) 13 (by kernel_rfl) ?_
            refine wkp 0 36 (pq b) [10, 11, 12] rfl HS.out (fun W hW => by obtain ⟨s5⟩ := hW; go_simp) ?_
            refine wkp 1 37 (i64 (s : Nat)) [12] rfl HS.out (fun W hW => by obtain ⟨s5⟩ := hW; go_simp) ?_
            refine wkp 2 38 (pq b) [4, 5, 6, 7, 8, 9] rfl HS.out (fun W hW => by obtain ⟨s5⟩ := hW; go_simp) ?_
            refine wkp 3 39 (i64 (s : Nat)) [6, 7, 8, 9] rfl HS.out (fun W hW => by obtain ⟨s5⟩ := hW; go_simp) ?_
            refine wkp 4 40 (pq b) [5, 6, 7, 8, 9] rfl HS.out (fun W hW => by obtain ⟨s5⟩ := hW; go_simp) ?_
            refine wkp 5 41 (pq b) [6, 7, 8, 9] rfl HS.out (fun W hW => by obtain ⟨s5⟩ := hW; go_simp) ?_
            refine wkp 6 42 (.pointer (some ⟨b, s * 6, none⟩)) [7, 8, 9] rfl HS.out (fun W hW => by obtain ⟨s5⟩ := hW; go_simp) ?_
            refine wkp 7 43 (.pointer (some ⟨b, s * 6 + 5, none⟩)) [8, 9] rfl HS.out (fun W hW => by obtain ⟨s5⟩ := hW; go_simp) ?_
            refine wkp 8 44 (i64 p.gen) [9] rfl HS.out (fun W hW => by obtain ⟨s5⟩ := hW; go_simp) ?_
            refine wk 9 45 (.agg #[i64 0, i64 0, i64 0, i64 0, i64 0, i64 p.gen]) rfl HS.out (fun W hW => by obtain ⟨s5⟩ := hW; go_simp) ?_
            refine wkp 10 46 (pq b) [11, 12] rfl HS.out (fun W hW => by obtain ⟨s5⟩ := hW; go_simp) ?_
            refine wkp 11 47 (pq b) [12] rfl HS.out (fun W hW => by obtain ⟨s5⟩ := hW; go_simp) ?_
            refine wk 12 48 (.pointer (some ⟨b, s * 6, none⟩)) rfl HS.out (fun W hW => by obtain ⟨s5⟩ := hW; go_simp) ?_
            simp only [Act.put, sA, sZ, sS]
            refine wo 13 rfl (fun K hK => ?_)
            refine wp_store_mid 120 (.tmp 48) (.tmp 45) rfl b (s * 6) (plC (clP p)).toArray rfl rfl (by exact HTH.out) (by kernel_rfl) (plC_one _) ?_
            refine hK.out _ _ (fun h => absurd rfl h) ?_
            clear hK K
            refine wdd ?_
            refine NoPanic.normal ?_
            have HT2 : Hid (Tb (wr.drew.setCells b (s * 6) (plC (clP p))) base b (clr T (G.take (j + 1)))) := by rw [HST.out]; exact Tb.set (w := wr.drew) ⟨HTj.out.lo, HTj.out.len, HTj.out.row⟩ hs128 _
            have HTo2 : Hid (Touch b w (wr.drew.setCells b (s * 6) (plC (clP p)))) := Touch.setCells _ _ _ (Touch.drew HToj.out)
            have HO2 : Hid ((wr.drew.setCells b (s * 6) (plC (clP p))).ownsRow w.heap.size 3 1 (.slice (some ⟨g, 0, none⟩) n cap) n (icn G)) := own_keep HOj.out (fun k C hC => by rw [heap_sc_ne _ _ _ (fun e => by subst e; have := HTj.out.row; rw [hC] at this; simp at this)]; exact hC)
            generalize wr.drew.setCells b (s * 6) (plC (clP p)) = U at *
            simp only [Act.put, List.setIfInBounds_toArray]
            go_wp2_with fail
            go_roundw
            case rel => exact ⟨_, _, _, _, _, _, _, _, _, _, _, _, _, _, _, _, _, _, _, ⟨j + 1, by omega, by go_num, HT2, HTo2, HO2⟩, rfl⟩
            case measure => simp [intOf]; omega
        · obtain rfl : j = n := by omega
          have HTE : Hid (Tb wr base b (clr T G)) := by have := HTj.out; rw [List.take_of_length_le (by rw [HN2.out]; omega)] at this; exact this
          go_wp2_with fail
          go_ret
          exact ⟨rfl, HTE.out, HToj.out⟩
set_option maxHeartbeats 3200000 in
theorem dropAll44 {w : World} {base b : Nat} {T : List Pl} (h : Tb w base b T) (q0 q : Nat) (m : Nat → Bool) (hm : ∀ W, Below w.heap.size w W → Means W T m 85 [pq q0, pq q]) (rk : Nat → Nat) (hr : Rk T rk) (N : Nat) (hN : ∀ s, rk s + 2 ≤ N) :
    Calls Try.prog 80 #[pq b, .func (.func 85) #[] #[pq q0, pq q]] w fun e w' => e = .returned (i64 (gnL T m N 128).length) ∧ Tb w' base b (clr T (gnL T m N 128)) ∧ Touch b w w' := by
  have HM : Hid (∀ W, Below w.heap.size w W → Means W T m 85 [pq q0, pq q]) := hm
  have HR : Hid (Rk T rk) := hr
  have HT := hid h
  have HNN := hid hN
  have hl := h.len
  have hbl := h.lt
  obtain ⟨G, hG⟩ : ∃ G, G = gnL T m N 128 := ⟨_, rfl⟩
  obtain ⟨n, hn⟩ : ∃ n, n = G.length := ⟨_, rfl⟩
  rw [← hG, ← hn]
  have HGe := hid hG
  have HN2 : Hid (G.length = n) := hn.symm
  clear hm hr hN h hG hn
  go_enter Try.func80, Try.ntmps80
  go_wp2_with fail
  go_loopw [5, 9] (fun v u wr => ∃ (k : Nat), k ≤ 128 ∧ u = i64 k ∧ Below w.heap.size w wr ∧ Hid (wr.ownsRow w.heap.size 3 1 v (gnL T m N k).length (icn (gnL T m N k)))) (fun _ u _ => 128 - (intOf u).toNat)
  case atStart => exact ⟨0, by omega, rfl, Below.refl _ _, World.ownsRow_nil w _ 3 1⟩
  case round =>
    obtain ⟨k, hk, rfl, hb, HO⟩ := hrel
    have HB := hid hb
    have hTr := HT.out.below hb
    have HTr := hid hTr
    have hLk := gnL_le T m N k
    by_cases hlt : k < 128
    · have hkI : (k : Int) < 128 := by omega
      obtain ⟨p, hp⟩ : ∃ p, T[k]? = some p := ⟨_, List.getElem?_eq_getElem (by omega)⟩
      have hfree := free_ok wr b (k * 6) p.c (hTr.cell hp 0 (by omega)) (hTr.cell hp 1 (by omega)) (hTr.cell hp 2 (by omega)) (hTr.cell hp 3 (by omega))
      have HS := hid (gnL_succ T m N k)
      by_cases hc : p.c = zC
      · rw [decide_eq_true hc] at hfree
        have HF := hid hfree
        have hg : gnB T m N k = false := by simp [gnB, tkB, hp, hc]
        have hE1 : gnL T m N (k + 1) = gnL T m N k := by rw [HS.out, hg]; simp
        have HO2 : Hid (wr.ownsRow w.heap.size 3 1 u5 (gnL T m N (k + 1)).length (icn (gnL T m N (k + 1)))) := by rw [hE1]; exact HO
        clear hE1
        clear hfree hb hTr hp hc hg
        go_wp2_with (go_at_call 73; refine HF.out.mono ?_; rintro e v1 ⟨rfl, hv⟩; replace hv := hv.symm; subst hv)
        exact ⟨⟨k + 1, by omega, by go_num, HB.out, HO2⟩, by simp [intOf]; omega⟩
      · rw [decide_eq_false hc] at hfree
        have HF := hid hfree
        have hh := hang44 hTr q0 q m (HM.out wr hb) rk HR.out N k p hp hc (HNN.out k) 0
        rw [drewN_zero] at hh
        cases hg : hgF T m N k with
        | false =>
          rw [hg] at hh
          have HH := hid hh
          have hgb : gnB T m N k = false := by simp [gnB, tkB, hp, hc, hg]
          have hE1 : gnL T m N (k + 1) = gnL T m N k := by rw [HS.out, hgb]; simp
          have HO2 : Hid (∀ n, (wr.drewN n).ownsRow w.heap.size 3 1 u5 (gnL T m N (k + 1)).length (icn (gnL T m N (k + 1)))) := fun n => by rw [hE1]; exact own_keep HO.out (fun _ _ h => h)
          clear hE1
          clear hfree hb hTr hp hc hg hh hgb
          go_wp2_with (first | (go_at_call 73; refine HF.out.mono ?_; rintro e v1 ⟨rfl, hv⟩; replace hv := hv.symm; subst hv) | (go_at_call 95; refine HH.out.mono ?_; rintro e v1 ⟨rfl, ⟨nv, rfl⟩⟩))
          exact ⟨⟨k + 1, by omega, by go_num, below_drewN HB.out nv, HO2.out nv⟩, by simp [intOf]; omega⟩
        | true =>
          rw [hg] at hh
          have HH := hid hh
          have hgb : gnB T m N k = true := by simp [gnB, tkB, hp, hc, hg]
          have HO2 : Hid (∀ n, (wr.drewN n).ownsRow w.heap.size 3 1 u5 (gnL T m N k).length (icn (gnL T m N k))) := fun n => own_keep HO.out (fun _ _ h => h)
          have HE : Hid (gnL T m N (k + 1) = gnL T m N k ++ [k]) := by rw [HS.out, hgb]; rfl
          clear hfree hb hTr hp hc hg hh hgb
          go_upto_region 6 with (first | (go_at_call 73; refine HF.out.mono ?_; rintro e v1 ⟨rfl, hv⟩; replace hv := hv.symm; subst hv) | (go_at_call 95; refine HH.out.mono ?_; rintro e v1 ⟨rfl, ⟨nv, rfl⟩⟩))
          have hbN := below_drewN HB.out nv
          have HBN := hid hbN
          have happ := app_one (te := 3) under32 info3x rfl (by omega) (by omega) (HO2.out nv) [i64 (k : Nat)] rfl (by intro u hu; simp at hu; subst hu; rfl) (by omega) hbN.size
          generalize wr.drewN nv = V at *
          obtain ⟨ao, cap, w3, hrun, hown, hfr, _⟩ := happ
          have HB3 : Hid (Below w.heap.size w w3) := HBN.out.trans hfr.below
          have HO3 : Hid (w3.ownsRow w.heap.size 3 1 (.slice ao ((gnL T m N k).length + 1) cap) (gnL T m N (k + 1)).length (icn (gnL T m N (k + 1)))) := by rw [HE.out, List.length_append, icn_app]; exact hown
          have HRUN := hid hrun
          obtain ⟨ao0, cap0, rfl, _⟩ := own_slice (HO.out)
          clear hbN hrun hown hfr
          generalize (gnL T m N k).length = n at *
          go_wp2_with (at_builtin; refine wpList_app_run rfl (.tmp 25) (.tmp 27) 38 rfl _ _ rfl rfl 38 rfl _ _ HRUN.out ?_)
          exact ⟨⟨k + 1, by omega, by go_num, HB3.out, HO3⟩, by simp [intOf]; omega⟩
    · obtain rfl : k = 128 := by omega
      have HO : Hid (wr.ownsRow w.heap.size 3 1 u5 G.length (icn G)) := by rw [HGe.out]; exact HO
      have hGl : G.length ≤ 128 := by rw [HGe.out]; exact hLk
      have HG : Hid (∀ s ∈ G, s < 128) := fun s hs => by rw [HGe.out] at hs; exact (gnL_lt hs).1
      obtain ⟨ao, cap, rfl, _⟩ := own_slice HO.out
      rw [HN2.out] at hGl HO ⊢
      have hnI : (n : Int) ≤ 128 := by omega
      have HT0 : Hid (Tb wr base b (clr T (G.take 0))) := by rw [List.take_zero, clr_nil]; exact HTr.out
      have HTo0 : Hid (Touch b w wr) := Touch.of_below HB.out
      clear hTr hb hLk
      generalize wr = V0 at *
      go_wp2_with fail
      go_loopw [32] (fun u wr => ∃ (j : Nat), j ≤ n ∧ u = i64 j ∧ Hid (Tb wr base b (clr T (G.take j))) ∧ Hid (Touch b w wr) ∧ Hid (wr.ownsRow w.heap.size 3 1 (.slice ao n cap) n (icn G))) (fun u _ => n - (intOf u).toNat)
      case atStart => exact ⟨0, by omega, rfl, HT0, HTo0, HO⟩
      case round =>
        obtain ⟨j, hj, rfl, HTj, HToj, HOj⟩ := hrel
        by_cases hltj : j < n
        · obtain ⟨s, hs⟩ : ∃ s, G[j]? = some s := ⟨_, List.getElem?_eq_getElem (by rw [HN2.out]; exact hltj)⟩
          have hs128 : s < 128 := HG.out s (List.mem_of_getElem? hs)
          have hsI : (s : Int) < 128 := by omega
          obtain ⟨p, hp⟩ : ∃ p, T[s]? = some p := ⟨_, List.getElem?_eq_getElem (by omega)⟩
          obtain ⟨p1, hp1, hge⟩ := clr_gen T (G.take j) s p hp
          have hst : clr T (G.take (j + 1)) = (clr T (G.take j)).set s (clP p) := by
            rw [clr_snoc T _ s p hp, List.take_add_one, hs]; rfl
          have HST := hid hst
          have hcell : wr.cell? ⟨b, s * 6 + 5, none⟩ = some (i64 p.gen) := by rw [← hge]; exact HTj.out.cell hp1 5 (by omega)
          rcases HOj.out.2 with ⟨hnil, _⟩ | ⟨g, cap', cur, hv, hbg, hgg, _⟩
          · exfalso; simp at hnil; omega
          · simp only [Value.slice.injEq] at hv
            obtain ⟨rfl, _, rfl⟩ := hv
            have hne : b ≠ g := fun e => by have := HTj.out.row; rw [e, hgg] at this; simp at this
            have cG : wr.cell? ⟨g, j, none⟩ = some (i64 (s : Nat)) := by
              rw [HOj.out.cellAt j (by omega)]; exact icn_get G j s hs
            have HS : Hid (SqD b s p.gen wr.drew) := ⟨hcell⟩
            have HTH : Hid (wr.drew.there b (s * 6) 6) := HTj.out.there hs128
            clear hcell hp1 hge hst hp hs
            go_upto_region 11 with fail
            refine wp_region_noPanic ?_
            refine wrl (SqD b s p.gen) 13 (by kernel_rfl) ?_
            refine wkp 0 36 (pq b) [10, 11, 12] rfl HS.out (fun W hW => by obtain ⟨s5⟩ := hW; go_simp) ?_
            refine wkp 1 37 (i64 (s : Nat)) [12] rfl HS.out (fun W hW => by obtain ⟨s5⟩ := hW; go_simp) ?_
            refine wkp 2 38 (pq b) [4, 5, 6, 7, 8, 9] rfl HS.out (fun W hW => by obtain ⟨s5⟩ := hW; go_simp) ?_
            refine wkp 3 39 (i64 (s : Nat)) [6, 7, 8, 9] rfl HS.out (fun W hW => by obtain ⟨s5⟩ := hW; go_simp) ?_
            refine wkp 4 40 (pq b) [5, 6, 7, 8, 9] rfl HS.out (fun W hW => by obtain ⟨s5⟩ := hW; go_simp) ?_
            refine wkp 5 41 (pq b) [6, 7, 8, 9] rfl HS.out (fun W hW => by obtain ⟨s5⟩ := hW; go_simp) ?_
            refine wkp 6 42 (.pointer (some ⟨b, s * 6, none⟩)) [7, 8, 9] rfl HS.out (fun W hW => by obtain ⟨s5⟩ := hW; go_simp) ?_
            refine wkp 7 43 (.pointer (some ⟨b, s * 6 + 5, none⟩)) [8, 9] rfl HS.out (fun W hW => by obtain ⟨s5⟩ := hW; go_simp) ?_
            refine wkp 8 44 (i64 p.gen) [9] rfl HS.out (fun W hW => by obtain ⟨s5⟩ := hW; go_simp) ?_
            refine wk 9 45 (.agg #[i64 0, i64 0, i64 0, i64 0, i64 0, i64 p.gen]) rfl HS.out (fun W hW => by obtain ⟨s5⟩ := hW; go_simp) ?_
            refine wkp 10 46 (pq b) [11, 12] rfl HS.out (fun W hW => by obtain ⟨s5⟩ := hW; go_simp) ?_
            refine wkp 11 47 (pq b) [12] rfl HS.out (fun W hW => by obtain ⟨s5⟩ := hW; go_simp) ?_
            refine wk 12 48 (.pointer (some ⟨b, s * 6, none⟩)) rfl HS.out (fun W hW => by obtain ⟨s5⟩ := hW; go_simp) ?_
            simp only [Act.put, sA, sZ, sS]
            refine wo 13 rfl (fun K hK => ?_)
            refine wp_store_mid 120 (.tmp 48) (.tmp 45) rfl b (s * 6) (plC (clP p)).toArray rfl rfl (by exact HTH.out) (by kernel_rfl) (plC_one _) ?_
            refine hK.out _ _ (fun h => absurd rfl h) ?_
            clear hK K
            refine wdd ?_
            refine NoPanic.normal ?_
            have HT2 : Hid (Tb (wr.drew.setCells b (s * 6) (plC (clP p))) base b (clr T (G.take (j + 1)))) := by rw [HST.out]; exact Tb.set (w := wr.drew) ⟨HTj.out.lo, HTj.out.len, HTj.out.row⟩ hs128 _
            have HTo2 : Hid (Touch b w (wr.drew.setCells b (s * 6) (plC (clP p)))) := Touch.setCells _ _ _ (Touch.drew HToj.out)
            have HO2 : Hid ((wr.drew.setCells b (s * 6) (plC (clP p))).ownsRow w.heap.size 3 1 (.slice (some ⟨g, 0, none⟩) n cap) n (icn G)) := own_keep HOj.out (fun k C hC => by rw [heap_sc_ne _ _ _ (fun e => by subst e; have := HTj.out.row; rw [hC] at this; simp at this)]; exact hC)
            generalize wr.drew.setCells b (s * 6) (plC (clP p)) = U at *
            simp only [Act.put, List.setIfInBounds_toArray]
            go_wp2_with fail
            go_roundw
            case rel => exact ⟨_, _, _, _, _, _, _, _, _, _, _, _, _, _, _, _, _, _, _, ⟨j + 1, by omega, by go_num, HT2, HTo2, HO2⟩, rfl⟩
            case measure => simp [intOf]; omega
        · obtain rfl : j = n := by omega
          have HTE : Hid (Tb wr base b (clr T G)) := by have := HTj.out; rw [List.take_of_length_le (by rw [HN2.out]; omega)] at this; exact this
          go_wp2_with fail
          go_ret
          exact ⟨rfl, HTE.out, HToj.out⟩
end Go.Proofs.Ytnknhencobhjdaa.Cp
namespace Go.Proofs.Ytnknhencobhjdaa.Cp
open Go.ChangeShapes Go.WideShapes Go.ChangeAt Go.RowKit Go.Deep
attribute [local go_sem ↓] Go.wp_at_zero Go.wp_at_succ
def mDrop (sl : Int) (s : Nat) : Bool := decide ((s : Int) = sl)
def mRev (T : List Pl) (sl : Int) (s : Nat) : Bool := decide (frA T s = sl)
def enA (T : List Pl) (s : Nat) : Int := match T[s]? with
  | some p => p.c.env
  | none => 0
def mEnv (T : List Pl) (env : Int) (s : Nat) : Bool := decide (enA T s = env)
theorem means42 {W : World} {T : List Pl} {q : Nat} {sl : Int} (hq : W.cell? ⟨q, 0, none⟩ = some (i64 sl)) : Means W T (mDrop sl) 81 [pq q] := fun n s _ _ =>
  (cl42_ok (W.drewN n) q s sl hq).mono fun _ _ ⟨h1, h2⟩ => ⟨h1, n, h2⟩
theorem means43 {W : World} {base b : Nat} {T : List Pl} (h : Tb W base b T) {q0 q : Nat} {sl : Int} (h0 : W.cell? ⟨q0, 0, none⟩ = some (pq b)) (hq : W.cell? ⟨q, 0, none⟩ = some (i64 sl)) : Means W T (mRev T sl) 89 [pq q0, pq q] := fun n s p hp =>
  (cl43_ok (h.drewN n) q0 q sl s p hp h0 hq).mono fun _ _ ⟨h1, k, h2⟩ => ⟨by rw [h1, mRev, frA, hp], n + k, by rw [h2, drewN_drewN]⟩
theorem means44 {W : World} {base b : Nat} {T : List Pl} (h : Tb W base b T) {q0 q : Nat} {env : Int} (h0 : W.cell? ⟨q0, 0, none⟩ = some (pq b)) (hq : W.cell? ⟨q, 0, none⟩ = some (i64 env)) : Means W T (mEnv T env) 85 [pq q0, pq q] := fun n s p hp =>
  (cl44_ok (h.drewN n) q0 q env s p hp h0 hq).mono fun _ _ ⟨h1, k, h2⟩ => ⟨by rw [h1, mEnv, enA, hp], n + k, by rw [h2, drewN_drewN]⟩
set_option maxHeartbeats 3200000 in
theorem revoke_stale (w : World) (ov : Option Addr) (env sl gn : Int) (hl : Looks w (.pointer ov) env sl gn zC 90) : Calls Try.prog 63 #[.pointer ov, i64 env, .agg #[i64 sl, i64 gn]] w fun e w' => e = .returned (.tuple #[i64 0, i64 90]) ∧ Below w.heap.size w w' := by
  have HL : Hid (Looks w (.pointer ov) env sl gn zC 90) := hl
  have HB0 : Hid (Below w.heap.size w ((w.alloc (.cells #[.pointer ov] 66)).alloc (.cells #[i64 sl, i64 gn] 43))) := (bl1 w _).trans ((bl1 _ _).mono (by simp))
  clear hl
  go_enter Try.func63, Try.ntmps63
  go_wp2_with fail
  refine (HL.out _ HB0.out).mono ?_
  rintro e w1 ⟨rfl, hb1⟩
  have HB1 : Hid (∀ o, Below w.heap.size w (w1.alloc o)) := fun o => (HB0.out.trans (hb1.mono HB0.out.size)).alloc (HB0.out.trans (hb1.mono HB0.out.size)).size o
  clear hb1
  unfold Cp.v zC
  go_wp2_with fail
  go_ret2
  exact ⟨rfl, HB1.out _⟩
set_option maxHeartbeats 3200000 in
theorem drop_ok {w : World} {base b : Nat} {T : List Pl} (h : Tb w base b T) (env sl gn : Int) (c : Cp) (hl : Looks w (pq b) env sl gn c 0) (rk : Nat → Nat) (hr : Rk T rk) (N : Nat) (hN : ∀ s, rk s + 2 ≤ N) : Calls Try.prog 54 #[pq b, i64 env, .agg #[i64 sl, i64 gn]] w fun e w' => e = .returned (.tuple #[i64 (gnL T (mDrop sl) N 128).length, i64 0]) ∧ Tb w' base b (clr T (gnL T (mDrop sl) N 128)) ∧ Touch b w w' := by
  have HL : Hid (Looks w (pq b) env sl gn c 0) := hl
  have HB0 : Hid (Below w.heap.size w (w.alloc (.cells #[i64 sl, i64 gn] 43))) := bl1 w _
  have HQ0 : Hid ((w.alloc (.cells #[i64 sl, i64 gn] 43)).heap[w.heap.size]? = some (hO sl gn)) := hlx w _
  have HD : Hid (∀ W, Below w.heap.size w W → W.heap[w.heap.size]? = some (hO sl gn) → Calls Try.prog 80 #[pq b, .func (.func 81) #[] #[pq w.heap.size]] W fun e w' => e = .returned (i64 (gnL T (mDrop sl) N 128).length) ∧ Tb w' base b (clr T (gnL T (mDrop sl) N 128)) ∧ Touch b W w') := fun W hW hq =>
    dropAll42 (h.below hW) w.heap.size (mDrop sl) (fun W' hW' => means42 (by rw [bkc (bkb hq hW')]; rfl)) rk hr N hN
  clear hl h hr hN
  go_enter Try.func54, Try.ntmps54
  go_wp2_with fail
  refine (HL.out _ HB0.out).mono ?_
  rintro e w1 ⟨rfl, hb1⟩
  have HB1 : Hid (∀ o, Below w.heap.size w (w1.alloc o)) := fun o => (HB0.out.trans (hb1.mono HB0.out.size)).alloc (HB0.out.trans (hb1.mono HB0.out.size)).size o
  have HQ1 : Hid (∀ o, (w1.alloc o).heap[w.heap.size]? = some (hO sl gn)) := fun o => bka (bkb HQ0.out hb1) o
  clear hb1
  unfold Cp.v
  go_wp2_with fail
  refine (HD.out _ (HB1.out _) (HQ1.out _)).mono ?_
  rintro e w2 ⟨rfl, ht, hto⟩
  have HT2 := hid ht
  have HTo : Hid (Touch b w w2) := (Touch.of_below (HB1.out _)).trans hto
  clear ht hto
  go_wp2_with fail
  go_ret2
  exact ⟨rfl, HT2.out, HTo.out⟩
set_option maxHeartbeats 3200000 in
theorem revoke_ok {w : World} {base b : Nat} {T : List Pl} (h : Tb w base b T) (env sl gn : Int) (c : Cp) (hl : Looks w (pq b) env sl gn c 0) (rk : Nat → Nat) (hr : Rk T rk) (N : Nat) (hN : ∀ s, rk s + 2 ≤ N) : Calls Try.prog 63 #[pq b, i64 env, .agg #[i64 sl, i64 gn]] w fun e w' => e = .returned (.tuple #[i64 (gnL T (mRev T sl) N 128).length, i64 0]) ∧ Tb w' base b (clr T (gnL T (mRev T sl) N 128)) ∧ Touch b w w' := by
  have HL : Hid (Looks w (pq b) env sl gn c 0) := hl
  have HB0 : Hid (Below w.heap.size w ((w.alloc (.cells #[pq b] 66)).alloc (.cells #[i64 sl, i64 gn] 43))) := (bl1 w _).trans ((bl1 _ _).mono (by simp))
  have HQ0 : Hid (((w.alloc (.cells #[pq b] 66)).alloc (.cells #[i64 sl, i64 gn] 43)).heap[w.heap.size + 1]? = some (hO sl gn)) := by
    have := hlx (w.alloc (.cells #[pq b] 66)) (hO sl gn)
    rwa [show (w.alloc (.cells #[pq b] 66)).heap.size = w.heap.size + 1 by simp] at this
  have HP0 : Hid (((w.alloc (.cells #[pq b] 66)).alloc (.cells #[i64 sl, i64 gn] 43)).heap[w.heap.size]? = some (.cells #[pq b] 66)) := bka (hlx w _) _
  have HD : Hid (∀ W, Below w.heap.size w W → W.heap[w.heap.size + 1]? = some (hO sl gn) → W.heap[w.heap.size]? = some (.cells #[pq b] 66) → Calls Try.prog 80 #[pq b, .func (.func 89) #[] #[pq w.heap.size, pq (w.heap.size + 1)]] W fun e w' => e = .returned (i64 (gnL T (mRev T sl) N 128).length) ∧ Tb w' base b (clr T (gnL T (mRev T sl) N 128)) ∧ Touch b W w') := fun W hW hq hp =>
    dropAll43 (h.below hW) w.heap.size (w.heap.size + 1) (mRev T sl) (fun W' hW' => means43 ((h.below hW).below hW') (by rw [bkc (bkb hp hW')]; rfl) (by rw [bkc (bkb hq hW')]; rfl)) rk hr N hN
  clear hl h hr hN
  go_enter Try.func63, Try.ntmps63
  go_wp2_with fail
  refine (HL.out _ HB0.out).mono ?_
  rintro e w1 ⟨rfl, hb1⟩
  have HB1 : Hid (∀ o, Below w.heap.size w (w1.alloc o)) := fun o => (HB0.out.trans (hb1.mono HB0.out.size)).alloc (HB0.out.trans (hb1.mono HB0.out.size)).size o
  have HQ1 : Hid (∀ o, (w1.alloc o).heap[w.heap.size + 1]? = some (hO sl gn)) := fun o => bka (bkb HQ0.out hb1) o
  have HP1 : Hid (∀ o, (w1.alloc o).heap[w.heap.size]? = some (.cells #[pq b] 66)) := fun o => bka (bkb HP0.out hb1) o
  clear hb1
  unfold Cp.v
  go_upto_region 4 with fail
  have p0 : (w1.alloc (cO c)).cell? ⟨w.heap.size, 0, none⟩ = some (pq b) := bkc (HP1.out _) 0
  unfold cO at p0
  go_wp2_with fail
  refine (HD.out _ (HB1.out _) (HQ1.out _) (HP1.out _)).mono ?_
  rintro e w2 ⟨rfl, ht, hto⟩
  have HT2 := hid ht
  have HTo : Hid (Touch b w w2) := (Touch.of_below (HB1.out _)).trans hto
  clear ht hto p0
  go_wp2_with fail
  go_ret2
  exact ⟨rfl, HT2.out, HTo.out⟩
set_option maxHeartbeats 3200000 in
theorem dropEnv_ok {w : World} {base b : Nat} {T : List Pl} (h : Tb w base b T) (env : Int) (rk : Nat → Nat) (hr : Rk T rk) (N : Nat) (hN : ∀ s, rk s + 2 ≤ N) : Calls Try.prog 60 #[pq b, i64 env] w fun e w' => e = .returned (i64 (gnL T (mEnv T env) N 128).length) ∧ Tb w' base b (clr T (gnL T (mEnv T env) N 128)) ∧ Touch b w w' := by
  have HB0 : Hid (Below w.heap.size w ((w.alloc (.cells #[pq b] 66)).alloc (.cells #[i64 env] 3))) := (bl1 w _).trans ((bl1 _ _).mono (by simp))
  have HQ0 : Hid (((w.alloc (.cells #[pq b] 66)).alloc (.cells #[i64 env] 3)).heap[w.heap.size + 1]? = some (.cells #[i64 env] 3)) := by
    have := hlx (w.alloc (.cells #[pq b] 66)) (.cells #[i64 env] 3)
    rwa [show (w.alloc (.cells #[pq b] 66)).heap.size = w.heap.size + 1 by simp] at this
  have HP0 : Hid (((w.alloc (.cells #[pq b] 66)).alloc (.cells #[i64 env] 3)).heap[w.heap.size]? = some (.cells #[pq b] 66)) := bka (hlx w _) _
  have HD : Hid (∀ W, Below w.heap.size w W → W.heap[w.heap.size + 1]? = some (.cells #[i64 env] 3) → W.heap[w.heap.size]? = some (.cells #[pq b] 66) → Calls Try.prog 80 #[pq b, .func (.func 85) #[] #[pq w.heap.size, pq (w.heap.size + 1)]] W fun e w' => e = .returned (i64 (gnL T (mEnv T env) N 128).length) ∧ Tb w' base b (clr T (gnL T (mEnv T env) N 128)) ∧ Touch b W w') := fun W hW hq hp =>
    dropAll44 (h.below hW) w.heap.size (w.heap.size + 1) (mEnv T env) (fun W' hW' => means44 ((h.below hW).below hW') (by rw [bkc (bkb hp hW')]; rfl) (by rw [bkc (bkb hq hW')]; rfl)) rk hr N hN
  clear h hr hN
  go_enter Try.func60, Try.ntmps60
  go_wp2_with fail
  refine (HD.out _ HB0.out HQ0.out HP0.out).mono ?_
  rintro e w2 ⟨rfl, ht, hto⟩
  have HT2 := hid ht
  have HTo : Hid (Touch b w w2) := (Touch.of_below HB0.out).trans hto
  clear ht hto
  go_wp2_with fail
  go_ret
  exact ⟨rfl, HT2.out, HTo.out⟩
end Go.Proofs.Ytnknhencobhjdaa.Cp
