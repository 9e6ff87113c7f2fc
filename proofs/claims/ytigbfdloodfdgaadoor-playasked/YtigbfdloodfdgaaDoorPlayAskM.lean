/- PlayAsked: runs with other answers as plain lists, the walks that go no further, and lists made one; no statement is proved in this text. -/
import Derived.Test.YtigbfdloodfdgaaDoorPlayMoreP
import Derived.Test.YtigbfdloodfdgaaDoorPlayMoreW
import Derived.Test.YtigbfdloodfdgaaDoorPlayMoreY
import Derived.Deep.DeepCutAuto
namespace Go.Proofs.YtigbfdloodfdgaaDoor
open Go.ChangeShapes Go.WideShapes Go.ChangeAt Go.RowKit


theorem doP_two (C : List Nat) (x : Ac) (s : Rn) : (doP C x s).2.K.length = s.K.length + (if x.k = 2 then 1 else 0) ∧ (doP C x s).2.A = if x.k = 2 then s.A.tail else s.A := by
  unfold doP
  by_cases h0 : x.k = 0
  · simp [h0]
  · by_cases h1 : x.k = 1
    · simp [h1]
    · by_cases h2 : x.k = 2
      · simp [h2]
      · by_cases h3 : x.k = 3
        · simp only [h3]
          simp
          split <;> simp
        · by_cases h4 : x.k = 4
          · simp only [h4]
            simp
            split <;> simp
          · simp [h0, h1, h2, h3, h4]
/-- The first so many answers of both are the same. -/
structure Alike (A B : List Int) (k : Nat) : Prop where
  a : k ≤ A.length
  b : k ≤ B.length
  t : B.take k = A.take k
theorem Alike.less {A B : List Int} {k j : Nat} (h : Alike A B k) (hj : j ≤ k) : Alike A B j := by
  refine ⟨Nat.le_trans hj h.a, Nat.le_trans hj h.b, ?_⟩
  have := congrArg (List.take j) h.t
  rw [List.take_take, List.take_take, Nat.min_eq_left hj] at this
  exact this
theorem Alike.head {A B : List Int} {k : Nat} (h : Alike A B (k + 1)) : (A.drop k).headD 0 = (B.drop k).headD 0 := by
  have ha := h.a
  have hb := h.b
  have := congrArg (fun l : List Int => l[k]?) h.t
  simp only [List.getElem?_take_of_lt (Nat.lt_succ_self k)] at this
  rw [List.headD_eq_head?_getD, List.headD_eq_head?_getD, List.head?_drop, List.head?_drop, this]
theorem asked (l m : List UInt8) (A : List Int) (s0 : List Int → Rn) (hs : ∀ B, s0 B = { s0 A with A := B }) (hA : (s0 A).A = A) (hK : (s0 A).K = []) : ∀ n, (itP l n (s0 A)).2.2.A = A.drop (itP l n (s0 A)).2.2.K.length ∧
    ∀ B, Alike A B (itP l n (s0 A)).2.2.K.length → itP l n (s0 B) = ((itP l n (s0 A)).1, (itP l n (s0 A)).2.1, { (itP l n (s0 A)).2.2 with A := B.drop (itP l n (s0 A)).2.2.K.length })
  | 0 => by
    refine ⟨?_, fun B _ => ?_⟩
    · show (s0 A).A = A.drop (s0 A).K.length
      rw [hK, hA]; rfl
    · show (0, 0, s0 B) = (0, 0, { s0 A with A := B.drop (s0 A).K.length })
      rw [hs B, hK]; rfl
  | n + 1 => by
    obtain ⟨ih1, ih2⟩ := asked l m A s0 hs hA hK n
    generalize hr : itP l n (s0 A) = r at ih1 ih2
    obtain ⟨h, j, s⟩ := r
    simp only at ih1 ih2
    by_cases h0 : h = 0
    · subst h0
      have e1 := itP_next hr
      rw [e1]
      obtain ⟨k1, k2⟩ := doP_two (stC s.C l) (stA s.C l) s
      refine ⟨?_, fun B hB => ?_⟩
      · show (doP (stC s.C l) (stA s.C l) s).2.A = A.drop (doP (stC s.C l) (stA s.C l) s).2.K.length
        rw [k1, k2, ih1]
        split
        · rw [List.tail_drop]
        · rfl
      · have hB' : Alike A B (doP (stC s.C l) (stA s.C l) s).2.K.length := hB
        have e2 := ih2 B (hB'.less (by rw [k1]; omega))
        have e3 := itP_next e2
        rw [e3]
        have e4 := doP_A (stC s.C l) (stA s.C l) s (B.drop s.K.length) (by
          rw [k1]
          by_cases h2 : (stA s.C l).k = 2
          · rw [if_pos h2] at k1
            rw [k1] at hB'
            right
            rw [ih1]
            exact hB'.head
          · left
            rw [if_neg h2]; rfl)
        show ((doP (stC s.C l) (stA s.C l) { s with A := B.drop s.K.length }).1, j + 1, (doP (stC s.C l) (stA s.C l) { s with A := B.drop s.K.length }).2) = ((doP (stC s.C l) (stA s.C l) s).1, j + 1, { (doP (stC s.C l) (stA s.C l) s).2 with A := B.drop (doP (stC s.C l) (stA s.C l) s).2.K.length })
        rw [e4, k1]
        by_cases h2 : (stA s.C l).k = 2
        · simp only [if_pos h2, List.tail_drop]
        · simp only [if_neg h2, Nat.add_zero]
    · have st : ∀ B, (itP l n (s0 B)).1 ≠ 0 → itP l (n + 1) (s0 B) = itP l n (s0 B) := fun B hb => itP_stay l (s0 B) hb 1
      rw [st A (by rw [hr]; exact h0), hr]
      refine ⟨ih1, fun B hB => ?_⟩
      have e2 := ih2 B hB
      rw [st B (by rw [e2]; exact h0), e2]



set_option maxRecDepth 100000 in
set_option maxHeartbeats 800000 in
theorem ask_out (w : World) (ht : Tab w) (l m : List UInt8) (ao bo : Option Addr) (n cap k kap : Nat) (fuel : Int) (lb : Bool) (hlb : decide (600 < l.length ∨ 600 < m.length ∨ 100 < n) = lb) (h : lb = true ∨ fuel < 0 ∨ 300 < fuel ∨ 100 < k) :
    Calls Tryd.prog 6 #[jobV l m ao n cap, i64 fuel, .slice bo k kap] w fun e w' => e = .returned (.bool true) ∧ Below w.heap.size w w' := by
  have HTB := hid ht
  have HL := hid (fun v => long_b v l m ao n cap lb hlb)
  have HB0 := hid (below_one w (jobO l m ao n cap))
  have HC := hid (fun v (hv : Tab v) => call8_ok v hv)
  clear ht hlb
  cases lb with
  | true =>
    go_enter Tryd.func6, Tryd.ntmps6
    go_wp2_with (first
      | (go_at_call 7; refine (HL.out _).mono ?_; rintro e v1 ⟨rfl, h1⟩; have HB1 : Hid (Below w.heap.size w v1) := HB0.out.trans (h1.mono (by rw [World.size_alloc]; omega)); clear h1)
      | (go_at_call 8; refine (HC.out _ (HTB.out.below HB1.out)).mono ?_; rintro e v2 ⟨rfl, h2⟩; have HB2 : Hid (Below w.heap.size w v2) := HB1.out.trans (h2.mono HB1.out.size); clear h2))
    go_ret
    exact ⟨rfl, HB2.out⟩
  | false =>
    have h' : fuel < 0 ∨ 300 < fuel ∨ 100 < k := by simpa using h
    clear h
    by_cases c1 : fuel < 0
    · clear h'
      go_enter Tryd.func6, Tryd.ntmps6
      go_wp2_with (first
        | (go_at_call 7; refine (HL.out _).mono ?_; rintro e v1 ⟨rfl, h1⟩; have HB1 : Hid (Below w.heap.size w v1) := HB0.out.trans (h1.mono (by rw [World.size_alloc]; omega)); clear h1)
        | (go_at_call 8; refine (HC.out _ (HTB.out.below HB1.out)).mono ?_; rintro e v2 ⟨rfl, h2⟩; have HB2 : Hid (Below w.heap.size w v2) := HB1.out.trans (h2.mono HB1.out.size); clear h2))
      go_ret
      exact ⟨rfl, HB2.out⟩
    · have c1' : 0 ≤ fuel := by omega
      by_cases c2 : 300 < fuel
      · clear h' c1
        go_enter Tryd.func6, Tryd.ntmps6
        go_wp2_with (first
          | (go_at_call 7; refine (HL.out _).mono ?_; rintro e v1 ⟨rfl, h1⟩; have HB1 : Hid (Below w.heap.size w v1) := HB0.out.trans (h1.mono (by rw [World.size_alloc]; omega)); clear h1)
          | (go_at_call 8; refine (HC.out _ (HTB.out.below HB1.out)).mono ?_; rintro e v2 ⟨rfl, h2⟩; have HB2 : Hid (Below w.heap.size w v2) := HB1.out.trans (h2.mono HB1.out.size); clear h2))
        go_ret
        exact ⟨rfl, HB2.out⟩
      · have c2' : fuel ≤ 300 := by omega
        have c3 : (100 : Int) < k := by omega
        clear h' c1 c2
        go_enter Tryd.func6, Tryd.ntmps6
        go_wp2_with (first
          | (go_at_call 7; refine (HL.out _).mono ?_; rintro e v1 ⟨rfl, h1⟩; have HB1 : Hid (Below w.heap.size w v1) := HB0.out.trans (h1.mono (by rw [World.size_alloc]; omega)); clear h1)
          | (go_at_call 8; refine (HC.out _ (HTB.out.below HB1.out)).mono ?_; rintro e v2 ⟨rfl, h2⟩; have HB2 : Hid (Below w.heap.size w v2) := HB1.out.trans (h2.mono HB1.out.size); clear h2))
        go_ret
        exact ⟨rfl, HB2.out⟩



set_option maxRecDepth 100000 in
set_option maxHeartbeats 800000 in
theorem ask_long (w : World) (ht : Tab w) (l m : List UInt8) (ao bo : Option Addr) (n cap k kap : Nat) (fuel : Int) (hlb : decide (600 < l.length ∨ 600 < m.length ∨ 100 < n) = false) (f0 : 0 ≤ fuel) (f1 : fuel ≤ 300) (hk : k ≤ 100) (h : 256 < l.length ∨ 256 < m.length) :
    Calls Tryd.prog 6 #[jobV l m ao n cap, i64 fuel, .slice bo k kap] w fun e w' => e = .returned (.bool true) ∧ Below w.heap.size w w' := by
  have HTB := hid ht
  have HL := hid (fun v => long_b v l m ao n cap false hlb)
  have HC := hid (fun v (hv : Tab v) => call8_ok v hv)
  have HR := hid (fun v f => run_long v l m (.slice ao n cap) f h)
  have hkI : (k : Int) ≤ 100 := by omega
  clear ht hlb h
  obtain ⟨b, hb⟩ : ∃ b, w.heap.size = b := ⟨_, rfl⟩
  have HJ := hid (fun v h => job_cells (w := w) (v := v) (l := l) (m := m) (ao := ao) (n := n) (cap := cap) hb.symm h)
  go_enter Tryd.func6, Tryd.ntmps6
  go_upto_region 3 with (first
      | (go_at_call 7; refine (HL.out _).mono ?_; rintro e v1 ⟨rfl, h1⟩; rw [World.size_alloc, hb] at h1; have HBa := hid h1; clear h1))
  obtain ⟨j0, j1, j2⟩ := HJ.out _ HBa.out
  go_upto_region 4 with (go_at_call 9; refine (HR.out _ _).mono ?_; rintro e v2 ⟨rfl, h1⟩; have HB2 := hid h1; clear h1)
  have HB3 := hid (jb hb (jb hb HBa.out HB2.out) (below_one v2 Z33))
  obtain ⟨i0, i1, i2⟩ := HJ.out _ HB3.out
  have HB5 := hid (jw hb HB3.out)
  clear j0 j1 j2 HB2 HBa
  generalize v2.alloc Z33 = v3 at *
  go_wp2_with (go_at_call 8; refine (HC.out _ (HTB.out.below HB5.out)).mono ?_; rintro e v6 ⟨rfl, h2⟩; have HB6 : Hid (Below w.heap.size w v6) := HB5.out.trans (h2.mono HB5.out.size); clear h2)
  go_ret
  exact ⟨rfl, by rw [← hb] at *; exact HB6.out⟩



theorem info3y : (Tryd.prog.info? 3).map (fun i => (i.zero, i.size, i.bytes)) = some (some (i64 0), 1, 8) := by kernel_rfl
theorem wpList_app_run {P : Program} {w : World} {ops : Array Oper} {rest : List Oper} {o : Oper} {a : Act} {Q : Exit → Act → World → Prop} (hgd : o.guard = none) (s x : Operand) (t : TypeId)
    (ho : o.op = .call { callee := .builtin .append, args := #[s, x], argTypes := #[t, t] }) (v1 v2 : Value) (hs : a.eval s = v1) (hx : a.eval x = v2) (ty : TypeId) (hty : o.type = ty) (r : Value) (w' : World)
    (hr : (Builtin.append_ #[t, t] ty #[v1, v2]).run P w = .ok r w') (h : wpList P ops Q rest (a.put o.dst r) w') : wpList P ops Q (o :: rest) a w :=
  wpList_plain hgd fun _ hK => by
    unfold Oper.wp execOp
    simp only [ho, resolve, invoke, builtin, Sem.run_bind, Sem.run_pure, Result.andThen_ok, List.map_toArray, List.map_cons, List.map_nil, hs, hx, hty, hr]
    exact hK _ _ h
def ic (A : List Int) : List Value := A.map i64
theorem ic_len (A : List Int) : (ic A).length = A.length := by simp [ic]
theorem ic_one (A : List Int) : ∀ v ∈ ic A, v.oneCell' = true := fun v hv => by
  obtain ⟨x, _, rfl⟩ := List.mem_map.1 hv
  rfl
theorem ic_app (A B : List Int) : ic (A ++ B) = ic A ++ ic B := by simp [ic]
/-- One list behind another. -/
theorem iapp {V : World} {base n : Nat} {v : Value} {xs : List Value} (ho : V.ownsRow base 3 1 v n xs) {bo : Option Addr} {kap : Nat} {B : List Int} (hB : ASl V V.heap.size V.heap.size (.slice bo B.length kap) B) (hn : bo = none → kap = 0 ∧ B = []) (hl : n + B.length ≤ 1000) (hb : base ≤ V.heap.size) :
    ∃ v' w', (Builtin.append_ #[22, 22] 22 #[v, .slice bo B.length kap]).run Tryd.prog V = .ok v' w' ∧ w'.ownsRow base 3 1 v' (n + B.length) (xs ++ ic B) ∧ V.grownBy w' v.ownBlock := by
  obtain ⟨i, hi, hz, hs, hby⟩ := info_parts info3y
  cases bo with
  | none =>
    obtain ⟨rfl, rfl⟩ := hn rfl
    refine ⟨v, V, run_append_owned_none (P := Tryd.prog) V base 22 22 3 i 1 Tryd.underlying22 hi v n xs ho, ?_, ⟨rfl, rfl, rfl, Nat.le_refl _, fun _ _ _ => rfl⟩⟩
    simpa [ic] using ho
  | some ad =>
    obtain ⟨v', w', hr, h2, h3, _, _⟩ := run_append_own_at (P := Tryd.prog) V base 22 22 3 i (i64 0) 1 8 Tryd.underlying22 hi hz hs hby rfl (by omega) v n xs ho ad B.length kap (ic B) (by rw [ic_len, Nat.mul_one]) (fun j u hu => by
      obtain ⟨ao, cap, e1, _, _, e4⟩ := hB.ex
      simp only [Value.slice.injEq] at e1
      rcases e4 with e4 | ⟨b, off, h1, _, _, h4⟩
      · rw [e4] at hu; simp [ic] at hu
      · rw [h1] at e1
        obtain ⟨e1, _⟩ := e1
        cases e1
        rw [Addr.add_mid]
        simp only [ic, List.getElem?_map, Option.map_eq_some_iff] at hu
        obtain ⟨x, hx, rfl⟩ := hu
        exact h4 j x hx) (ic_one B) (by unfold maxLen; omega) (by omega) hb
    exact ⟨v', w', hr, h2, h3⟩
theorem grown_below {B : Nat} {w w' : World} {row : Option Nat} (h : w.grownBy w' row) (hB : B ≤ w.heap.size) (hr : ∀ g, row = some g → B ≤ g) : Below B w w' :=
  ⟨h.os, h.tape, h.output, h.size, fun k hk => h.block k (by omega) (fun e => by have := hr k e.symm; omega)⟩
theorem ASl.low {w v : World} {va : Value} {A : List Int} (h : ASl w w.heap.size w.heap.size va A) (hb : Below w.heap.size w v) : ASl v v.heap.size v.heap.size va A := by
  obtain ⟨ao, cap, e1, e2, e3, e4⟩ := h.ex
  refine ⟨ao, cap, e1, e2, e3, ?_⟩
  have hs := hb.size
  rcases e4 with e4 | ⟨b, off, h1, h2, h3, h4⟩
  · exact Or.inl e4
  · exact Or.inr ⟨b, off, h1, by omega, by omega, fun j x hx => (hb.cell (p := ⟨b, off + j, none⟩) h2).trans (h4 j x hx)⟩
/-- Both lists, made one. -/
theorem both {V : World} {ao bo : Option Addr} {cap kap : Nat} {A B : List Int} (hA : ASl V V.heap.size V.heap.size (.slice ao A.length cap) A) (hB : ASl V V.heap.size V.heap.size (.slice bo B.length kap) B) (na : ao = none → cap = 0 ∧ A = []) (nb : bo = none → kap = 0 ∧ B = []) (hl : A.length + B.length ≤ 1000) :
    ∃ v4 w4 a5 c5 w5, (Builtin.append_ #[22, 22] 22 #[.slice none 0 0, .slice ao A.length cap]).run Tryd.prog V = .ok v4 w4 ∧ (Builtin.append_ #[22, 22] 22 #[v4, .slice bo B.length kap]).run Tryd.prog w4 = .ok (.slice a5 (A ++ B).length c5) w5 ∧ Below V.heap.size V w5 ∧ ASl w5 w5.heap.size (w5.heap.size + 1) (.slice a5 (A ++ B).length c5) (A ++ B) := by
  obtain ⟨v4, w4, r1, o4, g4⟩ := iapp (World.ownsRow_nil V V.heap.size 3 1) hA na (by omega) (Nat.le_refl _)
  have b4 : Below V.heap.size V w4 := grown_below g4 (Nat.le_refl _) (fun g h => by simp [Value.ownBlock] at h)
  obtain ⟨v5, w5, r2, o5, g5⟩ := iapp o4 (hB.low b4) nb (by omega) b4.size
  have b5 : Below V.heap.size V w5 := b4.trans (grown_below g5 b4.size (fun g h => (o4.lt g h).1))
  rw [Nat.zero_add, List.nil_append, ← ic_app, ← List.length_append] at o5
  have hsl : ∃ a5 c5, v5 = .slice a5 (A ++ B).length c5 ∧ (A ++ B).length ≤ c5 ∧ c5 ≤ maxLen ∧ (A ++ B = [] ∨ ∃ b off, a5 = some ⟨b, off, none⟩ ∧ b < w5.heap.size ∧ b ≠ w5.heap.size + 1 ∧ ∀ (j : Nat) x, (A ++ B)[j]? = some x → w5.cell? ⟨b, off + j, none⟩ = some (i64 x)) := by
    have o6 := o5
    rcases o5.2 with ⟨rfl, h0⟩ | ⟨g, c, cur, rfl, _, hg, hc, hm, _⟩
    · exact ⟨none, 0, by rw [h0], by omega, Nat.zero_le _, Or.inl (List.eq_nil_of_length_eq_zero h0)⟩
    · have hgl := (Array.getElem?_eq_some_iff.1 hg).1
      refine ⟨_, c, rfl, hc, hm, Or.inr ⟨g, 0, rfl, hgl, by omega, fun j x hx => ?_⟩⟩
      have hj := (List.getElem?_eq_some_iff.1 hx).1
      rw [Nat.zero_add, o6.cellAt j (by omega)]
      unfold ic
      rw [List.getElem?_map, hx]
      rfl
  obtain ⟨a5, c5, rfl, h1, h2, h3⟩ := hsl
  exact ⟨v4, w4, a5, c5, w5, r1, r2, b5, ⟨a5, c5, rfl, h1, h2, h3⟩⟩
/-- A beginning of the answers. -/
theorem ASl.cut {w : World} {ao : Option Addr} {cap k : Nat} {A : List Int} (h : ASl w w.heap.size (w.heap.size + 1) (.slice ao A.length cap) A) (hk : k ≤ A.length) : ASl w w.heap.size (w.heap.size + 1) (.slice ao (A.take k).length cap) (A.take k) := by
  obtain ⟨ao', cap', e1, e2, e3, e4⟩ := h.ex
  simp only [Value.slice.injEq, true_and] at e1
  obtain ⟨rfl, rfl⟩ := e1
  have hl : (A.take k).length = k := by rw [List.length_take]; omega
  refine ⟨ao, cap, rfl, by omega, e3, ?_⟩
  rcases e4 with e4 | ⟨b, off, h1, h2, h3, h4⟩
  · left; rw [e4]; simp
  · right
    refine ⟨b, off, h1, h2, h3, fun j x hx => h4 j x ?_⟩
    rw [List.getElem?_take] at hx
    split at hx
    · exact hx
    · cases hx
theorem run_asked (l m : List UInt8) (A B : List Int) (F : Nat) (h : Nat) (j : Nat) (s : Rn) (hr : itP l F (s0P m A) = (h, j, s)) (hB : Alike A B s.K.length) : itP l F (s0P m B) = (h, j, { s with A := B.drop s.K.length }) := by
  have := (asked l m A (s0P m) (fun B => rfl) rfl rfl F).2 B
  rw [hr] at this
  exact this hB
theorem there13 {v : World} {q : Nat} (hq : v.heap[q]? = some Z33) {h j : Nat} {C : List Nat} (hC : Rg C) (M : List UInt8) (vc : Value) : (v.setCells q 0 (resC h j C M vc)).heap[q]? = some (.cells (resC h j C M vc).toArray 33 (0, 0)) ∧ v.there q 0 (resC h j C M vc).toArray.size ∧ (∀ B, B ≤ q → B ≤ v.heap.size → Below B v (v.setCells q 0 (resC h j C M vc))) := by
  have h0 : v.heap[q]? = some (.cells ([] ++ ([i64 0, i64 0, Value.int .u16 0, Value.int .u16 0, Value.int .u16 0, Value.int .u16 0, Value.int .u16 0, Value.int .u16 0, Value.int .u16 0, Value.int .u16 0, Value.int .u16 0, .string ⟨#[]⟩, .slice none 0 0] ++ [])).toArray 33 (0, 0)) := hq
  have h1 := heap_mid [] (resC h j C M vc) _ [] _ (by rw [resC_len hC]; rfl) h0
  refine ⟨by simpa using h1, ?_, fun B hB _ => Below.cellsAt _ _ _ _ hB (Below.refl _ _)⟩
  rw [show (resC h j C M vc).toArray.size = 13 by rw [List.size_toArray, resC_len hC]]
  exact there_of (t := 33) hq
structure SqA (b p : Nat) (l m : List UInt8) (ao : Option Addr) (n cap : Nat) (o1 : Option Addr) (k1 c1 : Nat) (W : World) : Prop where
  s0 : W.cell? ⟨b, 0, none⟩ = some (.string ⟨l.toArray⟩)
  s1 : W.cell? ⟨b, 1, none⟩ = some (.string ⟨m.toArray⟩)
  s2 : W.cell? ⟨b, 2, none⟩ = some (.slice ao n cap)
  s3 : W.cell? ⟨p, 12, none⟩ = some (.slice o1 k1 c1)
theorem SqA.below {b p : Nat} {l m : List UInt8} {ao : Option Addr} {n cap : Nat} {o1 : Option Addr} {k1 c1 : Nat} {W W' : World} (h : SqA b p l m ao n cap o1 k1 c1 W) (hb : Below W.heap.size W W') : SqA b p l m ao n cap o1 k1 c1 W' :=
  ⟨(hb.cell (World.block_lt_of_cell? W _ h.s0)).trans h.s0, (hb.cell (World.block_lt_of_cell? W _ h.s1)).trans h.s1, (hb.cell (World.block_lt_of_cell? W _ h.s2)).trans h.s2, (hb.cell (World.block_lt_of_cell? W _ h.s3)).trans h.s3⟩
end Go.Proofs.YtigbfdloodfdgaaDoor
