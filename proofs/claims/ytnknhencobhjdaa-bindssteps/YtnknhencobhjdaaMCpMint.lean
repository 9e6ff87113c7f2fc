/- No statement here. -/
import Derived.Test.YtnknhencobhjdaaMBase
import Derived.Test.YtnknhencobhjdaaMOrd2
set_option maxRecDepth 100000
namespace Go.Proofs.Ytnknhencobhjdaa.Cp
open Go.ChangeShapes Go.WideShapes Go.ChangeAt Go.RowKit
attribute [local go_sem ↓] Go.wp_at_zero Go.wp_at_succ
structure Cp where
  env : Int
  kind : Int
  num : Int
  rts : Int
deriving DecidableEq
abbrev Cp.v (c : Cp) : Value := .agg #[i64 c.env, i64 c.kind, i64 c.num, i64 c.rts]
def envB (n : Int) : Bool := decide (1 ≤ n ∧ n ≤ 3)
def rightB (c : Cp) : Bool := decide (1 ≤ c.env ∧ c.env ≤ 3 ∧ 1 ≤ c.kind ∧ c.kind ≤ 3 ∧ 0 ≤ c.num ∧ c.num ≤ 63 ∧ 1 ≤ c.rts ∧ c.rts ≤ 3)
theorem hid {p : Prop} (h : p) : Hid p := h
theorem bl1 (w : World) (o : Obj) : Below w.heap.size w (w.alloc o) := (Below.refl _ _).alloc (Nat.le_refl _) _
theorem isEnv_ok (w : World) (n : Int) : Calls Try.prog 86 #[i64 n] w fun e w' => e = .returned (.bool (envB n)) ∧ w' = w := by
  unfold envB
  by_cases h1 : 1 ≤ n
  · by_cases h2 : n ≤ 3
    · rw [decide_eq_true ⟨h1, h2⟩]
      go_enter Try.func86, Try.ntmps86
      go_wp2_with fail
      go_ret
      simp
    · rw [decide_eq_false (fun h => h2 h.2)]
      go_enter Try.func86, Try.ntmps86
      go_wp2_with fail
      go_ret
      simp
  · rw [decide_eq_false (fun h => h1 h.1)]
    go_enter Try.func86, Try.ntmps86
    go_wp2_with fail
    go_ret
    exact ⟨rfl, rfl⟩
theorem areRights_ok (w : World) (n : Int) : Calls Try.prog 87 #[i64 n] w fun e w' => e = .returned (.bool (envB n)) ∧ w' = w := by
  unfold envB
  by_cases h1 : 1 ≤ n
  · by_cases h2 : n ≤ 3
    · rw [decide_eq_true ⟨h1, h2⟩]
      go_enter Try.func87, Try.ntmps87
      go_wp2_with fail
      go_ret
      simp
    · rw [decide_eq_false (fun h => h2 h.2)]
      go_enter Try.func87, Try.ntmps87
      go_wp2_with fail
      go_ret
      simp
  · rw [decide_eq_false (fun h => h1 h.1)]
    go_enter Try.func87, Try.ntmps87
    go_wp2_with fail
    go_ret
    exact ⟨rfl, rfl⟩
set_option maxHeartbeats 1600000 in
theorem right_ok (w : World) (c : Cp) : Calls Try.prog 96 #[c.v] w fun e w' => e = .returned (.bool (rightB c)) ∧ Below w.heap.size w w' := by
  obtain ⟨a, k, n, r⟩ := c
  have HE := hid (isEnv_ok (w.alloc (.cells #[i64 a, i64 k, i64 n, i64 r] 108)) a)
  have HA := hid (areRights_ok (w.alloc (.cells #[i64 a, i64 k, i64 n, i64 r] 108)) r)
  have hr : rightB ⟨a, k, n, r⟩ = (envB a && decide (1 ≤ k) && decide (k ≤ 3) && decide (0 ≤ n) && decide (n ≤ 63) && envB r) := by
    unfold rightB envB
    simp only [← Bool.decide_and, and_assoc]
  rw [hr]
  generalize envB a = A at *
  generalize envB r = B at *
  unfold Cp.v
  cases A
  · simp only [Bool.false_and]
    go_enter Try.func96, Try.ntmps96
    go_wp2_with (first | (go_at_call 86; refine HE.out.mono ?_; rintro e v' ⟨rfl, rfl⟩) | (go_at_call 87; refine HA.out.mono ?_; rintro e v' ⟨rfl, rfl⟩))
    go_ret
    exact ⟨rfl, bl1 w _⟩
  · by_cases h1 : 1 ≤ k
    · by_cases h2 : k ≤ 3
      · by_cases h3 : 0 ≤ n
        · by_cases h4 : n ≤ 63
          · simp only [h1, h2, h3, h4, Bool.true_and, decide_true]
            go_enter Try.func96, Try.ntmps96
            go_wp2_with (first | (go_at_call 86; refine HE.out.mono ?_; rintro e v' ⟨rfl, rfl⟩) | (go_at_call 87; refine HA.out.mono ?_; rintro e v' ⟨rfl, rfl⟩))
            go_ret
            first | exact ⟨rfl, bl1 w _⟩ | exact ⟨by simp, bl1 w _⟩
          · simp only [h1, h2, h3, h4, Bool.true_and, decide_false, decide_true, Bool.false_and, Bool.and_false]
            go_enter Try.func96, Try.ntmps96
            go_wp2_with (first | (go_at_call 86; refine HE.out.mono ?_; rintro e v' ⟨rfl, rfl⟩) | (go_at_call 87; refine HA.out.mono ?_; rintro e v' ⟨rfl, rfl⟩))
            go_ret
            first | exact ⟨rfl, bl1 w _⟩ | exact ⟨by simp, bl1 w _⟩
        · simp only [h1, h2, h3, Bool.true_and, decide_false, decide_true, Bool.false_and, Bool.and_false]
          go_enter Try.func96, Try.ntmps96
          go_wp2_with (first | (go_at_call 86; refine HE.out.mono ?_; rintro e v' ⟨rfl, rfl⟩) | (go_at_call 87; refine HA.out.mono ?_; rintro e v' ⟨rfl, rfl⟩))
          go_ret
          first | exact ⟨rfl, bl1 w _⟩ | exact ⟨by simp, bl1 w _⟩
      · simp only [h1, h2, Bool.true_and, decide_false, decide_true, Bool.false_and, Bool.and_false]
        go_enter Try.func96, Try.ntmps96
        go_wp2_with (first | (go_at_call 86; refine HE.out.mono ?_; rintro e v' ⟨rfl, rfl⟩) | (go_at_call 87; refine HA.out.mono ?_; rintro e v' ⟨rfl, rfl⟩))
        go_ret
        first | exact ⟨rfl, bl1 w _⟩ | exact ⟨by simp, bl1 w _⟩
    · simp only [h1, decide_false, Bool.false_and, Bool.and_false]
      go_enter Try.func96, Try.ntmps96
      go_wp2_with (first | (go_at_call 86; refine HE.out.mono ?_; rintro e v' ⟨rfl, rfl⟩) | (go_at_call 87; refine HA.out.mono ?_; rintro e v' ⟨rfl, rfl⟩))
      go_ret
      first | exact ⟨rfl, bl1 w _⟩ | exact ⟨by simp, bl1 w _⟩
end Go.Proofs.Ytnknhencobhjdaa.Cp
namespace Go.Proofs.Ytnknhencobhjdaa.Cp
open Go.ChangeShapes Go.WideShapes Go.ChangeAt Go.RowKit
attribute [local go_sem ↓] Go.wp_at_zero Go.wp_at_succ
structure Pl where
  c : Cp
  fr : Int
  gen : Int
deriving DecidableEq
def plC (p : Pl) : List Value := [i64 p.c.env, i64 p.c.kind, i64 p.c.num, i64 p.c.rts, i64 p.fr, i64 p.gen]
def tbC (T : List Pl) : List Value := T.flatMap plC
theorem tbC_len (T : List Pl) : (tbC T).length = 6 * T.length := by
  induction T with
  | nil => rfl
  | cons p T ih =>
    show (plC p ++ tbC T).length = _
    rw [List.length_append, ih]
    simp [plC]
    omega
theorem tbC_get : ∀ (T : List Pl) (i : Nat) (p : Pl), T[i]? = some p → ∀ r, r < 6 → (tbC T)[6 * i + r]? = (plC p)[r]?
  | [], i, p, h, r, _ => by simp at h
  | k :: T, 0, p, h, r, hr => by
    simp at h
    subst h
    show (plC k ++ tbC T)[6 * 0 + r]? = _
    rw [Nat.mul_zero, Nat.zero_add, List.getElem?_append_left (by simpa [plC] using hr)]
  | k :: T, i + 1, p, h, r, hr => by
    have ih := tbC_get T i p (by simpa using h) r hr
    show (plC k ++ tbC T)[6 * (i + 1) + r]? = _
    rw [List.getElem?_append_right (by simp [plC]; omega), ← ih]
    congr 1
    simp [plC]
    omega
theorem tbC_set (T : List Pl) (i : Nat) (p : Pl) (hi : i < T.length) : tbC (T.set i p) = ((tbC T).take (6 * i)) ++ plC p ++ (tbC T).drop (6 * i + 6) := by
  induction T generalizing i with
  | nil => simp at hi
  | cons k T ih =>
    cases i with
    | zero => simp [tbC, plC]
    | succ i =>
      have := ih i (by simpa using hi)
      show plC k ++ tbC (T.set i p) = ((plC k ++ tbC T).take (6 * (i + 1))) ++ plC p ++ (plC k ++ tbC T).drop (6 * (i + 1) + 6)
      rw [this, List.take_append, List.drop_append]
      have e1 : (plC k).take (6 * (i + 1)) = plC k := List.take_of_length_le (by simp [plC]; omega)
      have e2 : (plC k).drop (6 * (i + 1) + 6) = [] := List.drop_eq_nil_of_le (by simp [plC])
      have e3 : 6 * (i + 1) - (plC k).length = 6 * i := by simp [plC]; omega
      have e4 : 6 * (i + 1) + 6 - (plC k).length = 6 * i + 6 := by simp [plC]; omega
      rw [e1, e2, e3, e4]
      simp
structure Tb (w : World) (base b : Nat) (T : List Pl) : Prop where
  lo : base ≤ b
  len : T.length = 128
  row : w.heap[b]? = some (.cells (tbC T).toArray 123)
theorem Tb.cell {w : World} {base b : Nat} {T : List Pl} (h : Tb w base b T) {i : Nat} {p : Pl} (hi : T[i]? = some p) (r : Nat) (hr : r < 6) : w.cell? ⟨b, i * 6 + r, none⟩ = (plC p)[r]? := by
  rw [bkc h.row, List.getElem?_toArray, Nat.mul_comm]
  exact tbC_get T i p hi r hr
theorem Tb.below {w w' : World} {base b : Nat} {T : List Pl} (h : Tb w base b T) (hb : Below w.heap.size w w') : Tb w' base b T := ⟨h.lo, h.len, bkb h.row hb⟩
def zC : Cp := ⟨0, 0, 0, 0⟩
theorem eqI (d : Nat) (a b : Int) (w : World) : (Op.equalIn (d + 1) 3 (i64 a) (i64 b)).run Try.prog w = .ok (a == b) w := by
  simp [Op.equalIn, run_underlying Try.underlying3]
theorem eqIn36 (c d : Cp) (w : World) : (Op.equalIn 10000 108 c.v d.v).run Try.prog w = .ok (decide (c = d)) w := by
  obtain ⟨a, k, n, r⟩ := c
  obtain ⟨a', k', n', r'⟩ := d
  rw [run_equalIn_struct w 9999 108 _ _ (by kernel_rfl) (by kernel_rfl)]
  have p0 : ∀ (a k n r : Int) (w : World), (part 3 #[i64 a, i64 k, i64 n, i64 r] 0).run Try.prog w = .ok (i64 a) w := fun _ _ _ _ w => by kernel_rfl
  have p1 : ∀ (a k n r : Int) (w : World), (part 3 #[i64 a, i64 k, i64 n, i64 r] 1).run Try.prog w = .ok (i64 k) w := fun _ _ _ _ w => by kernel_rfl
  have p2 : ∀ (a k n r : Int) (w : World), (part 3 #[i64 a, i64 k, i64 n, i64 r] 2).run Try.prog w = .ok (i64 n) w := fun _ _ _ _ w => by kernel_rfl
  have p3 : ∀ (a k n r : Int) (w : World), (part 3 #[i64 a, i64 k, i64 n, i64 r] 3).run Try.prog w = .ok (i64 r) w := fun _ _ _ _ w => by kernel_rfl
  have hq := eqI 9998
  simp only [Program.fieldsOf, Try.underlying108]
  simp only [Op.eqFields, ne_eq]
  by_cases h1 : a = a'
  · by_cases h2 : k = k'
    · by_cases h3 : n = n'
      · by_cases h4 : r = r'
        · simp_all [Sem.run_bind, Result.andThen]
        · simp_all [Sem.run_bind, Result.andThen]
      · simp_all [Sem.run_bind, Result.andThen]
    · simp_all [Sem.run_bind, Result.andThen]
  · simp_all [Sem.run_bind, Result.andThen]
theorem free_ok (w : World) (b off : Nat) (c : Cp) (h0 : w.cell? ⟨b, off, none⟩ = some (i64 c.env)) (h1 : w.cell? ⟨b, off + 1, none⟩ = some (i64 c.kind)) (h2 : w.cell? ⟨b, off + 2, none⟩ = some (i64 c.num)) (h3 : w.cell? ⟨b, off + 3, none⟩ = some (i64 c.rts)) :
    Calls Try.prog 73 #[.pointer (some ⟨b, off, none⟩)] w fun e w' => e = .returned (.bool (decide (c = zC))) ∧ w' = w := by
  have hq := eqIn36 c zC
  unfold Cp.v zC at hq
  obtain ⟨B, hB⟩ : ∃ B, decide (c = zC) = B := ⟨_, rfl⟩
  unfold zC at hB
  rw [hB] at hq
  show Calls Try.prog 73 _ w fun e w' => e = .returned (.bool (decide (c = ⟨0, 0, 0, 0⟩))) ∧ w' = w
  rw [hB]
  clear hB
  go_enter Try.func73, Try.ntmps73
  go_wp2_with fail
  go_ret
  exact ⟨rfl, rfl⟩
end Go.Proofs.Ytnknhencobhjdaa.Cp
namespace Go.Proofs.Ytnknhencobhjdaa.Cp
open Go.ChangeShapes Go.WideShapes Go.ChangeAt Go.RowKit
attribute [local go_sem ↓] Go.wp_at_zero Go.wp_at_succ
theorem results_look {W : World} {t : Array Value} {a : Addr} {u v : Value} (h6 : t.getD 6 undef = .pointer (some a)) (h7 : t.getD 7 undef = v) (g : (loadVar 108 a).run Try.prog W = .ok u W) :
    (results Try.f50 t).run Try.prog W = .ok (.tuple #[u, v]) W := by
  have hr : Try.f50.results = #[.cell 6 108, .tmp 7] := Try.results50
  simp only [results, hr]
  simp [Result.andThen, asAddr, h6, h7, g, -Array.getD_eq_getD_getElem?]
theorem load36 {W : World} {b : Nat} {c : Cp} (h : W.heap[b]? = some (.cells #[i64 c.env, i64 c.kind, i64 c.num, i64 c.rts] 108 (0, 0))) : (loadVar 108 ⟨b, 0, none⟩).run Try.prog W = .ok c.v W := by
  refine run_loadVar_mid _ _ 0 108 [i64 c.env, i64 c.kind, i64 c.num, i64 c.rts] _ (fun j v hv => ?_) Try.underlying108 rfl (by kernel_rfl)
  rw [Nat.zero_add, cell_of_row _ _ _ _ 108 (0, 0) h]
  simpa using hv
abbrev hO (sl gn : Int) : Obj := .cells #[i64 sl, i64 gn] 43
abbrev cO (c : Cp) : Obj := .cells #[i64 c.env, i64 c.kind, i64 c.num, i64 c.rts] 108
theorem two_heap (w : World) (o : Obj) (c : Cp) : ((w.alloc o).alloc (cO c)).heap[w.heap.size + 1]? = some (cO c) := by
  show ((w.alloc o).heap.push (cO c))[w.heap.size + 1]? = _
  have h : (w.alloc o).heap.size = w.heap.size + 1 := by simp
  rw [← h, Array.getElem?_push_size]
theorem two_load (w : World) (o : Obj) (c : Cp) : (loadVar 108 ⟨w.heap.size + 1, 0, none⟩).run Try.prog ((w.alloc o).alloc (cO c)) = .ok c.v ((w.alloc o).alloc (cO c)) :=
  load36 (by
    show ((w.alloc o).heap.push (cO c))[w.heap.size + 1]? = _
    have h : (w.alloc o).heap.size = w.heap.size + 1 := by simp
    rw [← h, Array.getElem?_push_size])
theorem look_nil (w : World) (env sl gn : Int) : Calls Try.prog 50 #[.pointer none, i64 env, .agg #[i64 sl, i64 gn]] w fun e w' => e = .returned (.tuple #[zC.v, i64 90]) ∧ Below w.heap.size w w' := by
  have HL : Hid ((loadVar 108 ⟨w.heap.size + 1, 0, none⟩).run Try.prog ((w.alloc (hO sl gn)).alloc (cO zC)) = .ok zC.v ((w.alloc (hO sl gn)).alloc (cO zC))) := two_load w _ zC
  go_enter Try.func50, Try.ntmps50
  go_wp2_with fail
  exact bodyPost_ret (results_look rfl rfl HL.out) rfl ⟨rfl, (bl1 w _).trans ((bl1 _ _).mono (by simp))⟩
theorem look_out (w : World) (b : Nat) (env sl gn : Int) (h : sl < 0 ∨ 128 ≤ sl) : Calls Try.prog 50 #[.pointer (some ⟨b, 0, none⟩), i64 env, .agg #[i64 sl, i64 gn]] w fun e w' => e = .returned (.tuple #[zC.v, i64 90]) ∧ Below w.heap.size w w' := by
  have HL : Hid ((loadVar 108 ⟨w.heap.size + 1, 0, none⟩).run Try.prog ((w.alloc (hO sl gn)).alloc (cO zC)) = .ok zC.v ((w.alloc (hO sl gn)).alloc (cO zC))) := two_load w _ zC
  have h' : sl < 0 ∨ (¬ sl < 0 ∧ 128 ≤ sl) := by omega
  clear h
  rcases h' with h | ⟨h, h2⟩
  · go_enter Try.func50, Try.ntmps50
    go_wp2_with fail
    exact bodyPost_ret (results_look rfl rfl HL.out) rfl ⟨rfl, (bl1 w _).trans ((bl1 _ _).mono (by simp))⟩
  · go_enter Try.func50, Try.ntmps50
    go_wp2_with fail
    exact bodyPost_ret (results_look rfl rfl HL.out) rfl ⟨rfl, (bl1 w _).trans ((bl1 _ _).mono (by simp))⟩
theorem set4 {V : World} {b : Nat} {d : Cp} (h : V.heap[b]? = some (cO d)) (c : Cp) : ((((V.setCell ⟨b, 0, none⟩ (i64 c.env)).setCell ⟨b, 1, none⟩ (i64 c.kind)).setCell ⟨b, 2, none⟩ (i64 c.num)).setCell ⟨b, 3, none⟩ (i64 c.rts)).heap[b]? = some (cO c) := by
  have h1 := heap_setCell_same V b 0 _ 108 (i64 c.env) h
  have h2 := heap_setCell_same _ b 1 _ 108 (i64 c.kind) h1
  have h3 := heap_setCell_same _ b 2 _ 108 (i64 c.num) h2
  have h4 := heap_setCell_same _ b 3 _ 108 (i64 c.rts) h3
  simpa using h4
theorem bel4 {w V : World} {B b : Nat} (h : Below B w V) (hb : B ≤ b) (c : Cp) : Below B w ((((V.setCell ⟨b, 0, none⟩ (i64 c.env)).setCell ⟨b, 1, none⟩ (i64 c.kind)).setCell ⟨b, 2, none⟩ (i64 c.num)).setCell ⟨b, 3, none⟩ (i64 c.rts)) :=
  (((h.setCell hb _).setCell hb _).setCell hb _).setCell hb _
set_option maxHeartbeats 1600000 in
theorem look_free {w : World} {base b : Nat} {T : List Pl} (h : Tb w base b T) (env gn : Int) (sl : Nat) (p : Pl) (hp : T[sl]? = some p) (hf : p.c = zC) : Calls Try.prog 50 #[.pointer (some ⟨b, 0, none⟩), i64 env, .agg #[i64 (sl : Nat), i64 gn]] w fun e w' => e = .returned (.tuple #[zC.v, i64 90]) ∧ Below w.heap.size w w' := by
  have hs : sl < 128 := by have := (List.getElem?_eq_some_iff.1 hp).1; have := h.len; omega
  have hsI : (sl : Int) < 128 := by omega
  have hbl := blk_lt h.row
  have HT : Hid (∀ V, Below w.heap.size w V → Tb V base b T) := fun V hV => h.below hV
  have hC : ∀ V, Below w.heap.size w V → Calls Try.prog 73 #[.pointer (some ⟨b, sl * 6, none⟩)] V fun e w' => e = .returned (.bool true) ∧ w' = V := fun V hV => by
    have := free_ok V b (sl * 6) p.c ((HT.out V hV).cell hp 0 (by omega)) ((HT.out V hV).cell hp 1 (by omega)) ((HT.out V hV).cell hp 2 (by omega)) ((HT.out V hV).cell hp 3 (by omega))
    rw [decide_eq_true hf] at this
    exact this
  have HC := hid hC
  have HB2 : Hid (Below w.heap.size w ((w.alloc (hO (sl : Nat) gn)).alloc (cO zC))) := (bl1 w _).trans ((bl1 _ _).mono (by simp))
  clear h hC
  go_enter Try.func50, Try.ntmps50
  go_upto_region 3 with fail
  go_quiet (fail)
  go_upto_region 4 with fail
  have HBV : Hid (Below w.heap.size w (((w.alloc (.cells #[i64 (sl : Nat), i64 gn] 43)).alloc (.cells #[i64 0, i64 0, i64 0, i64 0] 108)).drewN nq)) := below_drewN HB2.out nq
  have HK : Hid ((((w.alloc (.cells #[i64 (sl : Nat), i64 gn] 43)).alloc (.cells #[i64 0, i64 0, i64 0, i64 0] 108)).drewN nq).heap[w.heap.size + 1]? = some (cO zC)) := two_heap w _ zC
  have g1 : (((w.alloc (.cells #[i64 (sl : Nat), i64 gn] 43)).alloc (.cells #[i64 0, i64 0, i64 0, i64 0] 108)).drewN nq).cell? ⟨w.heap.size, 1, none⟩ = some (i64 gn) := by go_simp
  generalize ((w.alloc (.cells #[i64 (sl : Nat), i64 gn] 43)).alloc (.cells #[i64 0, i64 0, i64 0, i64 0] 108)).drewN nq = V at *
  have HFZ : ∀ j, V.frozen? ⟨w.heap.size + 1, j, none⟩ = false := bkf HK.out
  have k0 : V.cell? ⟨w.heap.size + 1, 0, none⟩ = some (i64 0) := bkc HK.out 0
  have k1 : V.cell? ⟨w.heap.size + 1, 1, none⟩ = some (i64 0) := bkc HK.out 1
  have k2 : V.cell? ⟨w.heap.size + 1, 2, none⟩ = some (i64 0) := bkc HK.out 2
  have k3 : V.cell? ⟨w.heap.size + 1, 3, none⟩ = some (i64 0) := bkc HK.out 3
  have t0 : V.cell? ⟨b, sl * 6, none⟩ = some (i64 p.c.env) := (HT.out V HBV.out).cell hp 0 (by omega)
  have t1 : V.cell? ⟨b, sl * 6 + 1, none⟩ = some (i64 p.c.kind) := (HT.out V HBV.out).cell hp 1 (by omega)
  have t2 : V.cell? ⟨b, sl * 6 + 2, none⟩ = some (i64 p.c.num) := (HT.out V HBV.out).cell hp 2 (by omega)
  have t3 : V.cell? ⟨b, sl * 6 + 3, none⟩ = some (i64 p.c.rts) := (HT.out V HBV.out).cell hp 3 (by omega)
  have t5 : V.cell? ⟨b, sl * 6 + 5, none⟩ = some (i64 p.gen) := (HT.out V HBV.out).cell hp 5 (by omega)
  go_quiet ((go_at_call 73; exact Calls.quiet_of_same (HC.out _ (below_drewN HBV.out _))))
  go_wp2_with fail
  exact bodyPost_ret (results_look rfl rfl (load36 (set4 (V := V.drewN nq) HK.out zC))) rfl ⟨rfl, bel4 (V := V.drewN nq) (below_drewN HBV.out nq) (by omega) zC⟩
set_option maxHeartbeats 1600000 in
theorem look_gen {w : World} {base b : Nat} {T : List Pl} (h : Tb w base b T) (env gn : Int) (sl : Nat) (p : Pl) (hp : T[sl]? = some p) (hf : ¬ p.c = zC) (hg : ¬ p.gen = gn) : Calls Try.prog 50 #[.pointer (some ⟨b, 0, none⟩), i64 env, .agg #[i64 (sl : Nat), i64 gn]] w fun e w' => e = .returned (.tuple #[zC.v, i64 90]) ∧ Below w.heap.size w w' := by
  have hs : sl < 128 := by have := (List.getElem?_eq_some_iff.1 hp).1; have := h.len; omega
  have hsI : (sl : Int) < 128 := by omega
  have hbl := blk_lt h.row
  have HT : Hid (∀ V, Below w.heap.size w V → Tb V base b T) := fun V hV => h.below hV
  have hC : ∀ V, Below w.heap.size w V → Calls Try.prog 73 #[.pointer (some ⟨b, sl * 6, none⟩)] V fun e w' => e = .returned (.bool false) ∧ w' = V := fun V hV => by
    have := free_ok V b (sl * 6) p.c ((HT.out V hV).cell hp 0 (by omega)) ((HT.out V hV).cell hp 1 (by omega)) ((HT.out V hV).cell hp 2 (by omega)) ((HT.out V hV).cell hp 3 (by omega))
    rw [decide_eq_false hf] at this
    exact this
  have HC := hid hC
  have HB2 : Hid (Below w.heap.size w ((w.alloc (hO (sl : Nat) gn)).alloc (cO zC))) := (bl1 w _).trans ((bl1 _ _).mono (by simp))
  clear h hC
  go_enter Try.func50, Try.ntmps50
  go_upto_region 3 with fail
  go_quiet (fail)
  go_upto_region 4 with fail
  have HBV : Hid (Below w.heap.size w (((w.alloc (.cells #[i64 (sl : Nat), i64 gn] 43)).alloc (.cells #[i64 0, i64 0, i64 0, i64 0] 108)).drewN nq)) := below_drewN HB2.out nq
  have HK : Hid ((((w.alloc (.cells #[i64 (sl : Nat), i64 gn] 43)).alloc (.cells #[i64 0, i64 0, i64 0, i64 0] 108)).drewN nq).heap[w.heap.size + 1]? = some (cO zC)) := two_heap w _ zC
  have g1 : (((w.alloc (.cells #[i64 (sl : Nat), i64 gn] 43)).alloc (.cells #[i64 0, i64 0, i64 0, i64 0] 108)).drewN nq).cell? ⟨w.heap.size, 1, none⟩ = some (i64 gn) := by go_simp
  generalize ((w.alloc (.cells #[i64 (sl : Nat), i64 gn] 43)).alloc (.cells #[i64 0, i64 0, i64 0, i64 0] 108)).drewN nq = V at *
  have HFZ : ∀ j, V.frozen? ⟨w.heap.size + 1, j, none⟩ = false := bkf HK.out
  have k0 : V.cell? ⟨w.heap.size + 1, 0, none⟩ = some (i64 0) := bkc HK.out 0
  have k1 : V.cell? ⟨w.heap.size + 1, 1, none⟩ = some (i64 0) := bkc HK.out 1
  have k2 : V.cell? ⟨w.heap.size + 1, 2, none⟩ = some (i64 0) := bkc HK.out 2
  have k3 : V.cell? ⟨w.heap.size + 1, 3, none⟩ = some (i64 0) := bkc HK.out 3
  have t0 : V.cell? ⟨b, sl * 6, none⟩ = some (i64 p.c.env) := (HT.out V HBV.out).cell hp 0 (by omega)
  have t1 : V.cell? ⟨b, sl * 6 + 1, none⟩ = some (i64 p.c.kind) := (HT.out V HBV.out).cell hp 1 (by omega)
  have t2 : V.cell? ⟨b, sl * 6 + 2, none⟩ = some (i64 p.c.num) := (HT.out V HBV.out).cell hp 2 (by omega)
  have t3 : V.cell? ⟨b, sl * 6 + 3, none⟩ = some (i64 p.c.rts) := (HT.out V HBV.out).cell hp 3 (by omega)
  have t5 : V.cell? ⟨b, sl * 6 + 5, none⟩ = some (i64 p.gen) := (HT.out V HBV.out).cell hp 5 (by omega)
  go_quiet ((go_at_call 73; exact Calls.quiet_of_same (HC.out _ (below_drewN HBV.out _))))
  go_wp2_with fail
  exact bodyPost_ret (results_look rfl rfl (load36 (set4 (V := V.drewN nq) HK.out zC))) rfl ⟨rfl, bel4 (V := V.drewN nq) (below_drewN HBV.out nq) (by omega) zC⟩
set_option maxHeartbeats 1600000 in
theorem look_env {w : World} {base b : Nat} {T : List Pl} (h : Tb w base b T) (env gn : Int) (sl : Nat) (p : Pl) (hp : T[sl]? = some p) (hf : ¬ p.c = zC) (hg : p.gen = gn) (he : ¬ p.c.env = env) : Calls Try.prog 50 #[.pointer (some ⟨b, 0, none⟩), i64 env, .agg #[i64 (sl : Nat), i64 gn]] w fun e w' => e = .returned (.tuple #[zC.v, i64 90]) ∧ Below w.heap.size w w' := by
  have hs : sl < 128 := by have := (List.getElem?_eq_some_iff.1 hp).1; have := h.len; omega
  have hsI : (sl : Int) < 128 := by omega
  have hbl := blk_lt h.row
  have HT : Hid (∀ V, Below w.heap.size w V → Tb V base b T) := fun V hV => h.below hV
  have hC : ∀ V, Below w.heap.size w V → Calls Try.prog 73 #[.pointer (some ⟨b, sl * 6, none⟩)] V fun e w' => e = .returned (.bool false) ∧ w' = V := fun V hV => by
    have := free_ok V b (sl * 6) p.c ((HT.out V hV).cell hp 0 (by omega)) ((HT.out V hV).cell hp 1 (by omega)) ((HT.out V hV).cell hp 2 (by omega)) ((HT.out V hV).cell hp 3 (by omega))
    rw [decide_eq_false hf] at this
    exact this
  have HC := hid hC
  have HB2 : Hid (Below w.heap.size w ((w.alloc (hO (sl : Nat) gn)).alloc (cO zC))) := (bl1 w _).trans ((bl1 _ _).mono (by simp))
  clear h hC
  go_enter Try.func50, Try.ntmps50
  go_upto_region 3 with fail
  go_quiet (fail)
  go_upto_region 4 with fail
  have HBV : Hid (Below w.heap.size w (((w.alloc (.cells #[i64 (sl : Nat), i64 gn] 43)).alloc (.cells #[i64 0, i64 0, i64 0, i64 0] 108)).drewN nq)) := below_drewN HB2.out nq
  have HK : Hid ((((w.alloc (.cells #[i64 (sl : Nat), i64 gn] 43)).alloc (.cells #[i64 0, i64 0, i64 0, i64 0] 108)).drewN nq).heap[w.heap.size + 1]? = some (cO zC)) := two_heap w _ zC
  have g1 : (((w.alloc (.cells #[i64 (sl : Nat), i64 gn] 43)).alloc (.cells #[i64 0, i64 0, i64 0, i64 0] 108)).drewN nq).cell? ⟨w.heap.size, 1, none⟩ = some (i64 gn) := by go_simp
  generalize ((w.alloc (.cells #[i64 (sl : Nat), i64 gn] 43)).alloc (.cells #[i64 0, i64 0, i64 0, i64 0] 108)).drewN nq = V at *
  have HFZ : ∀ j, V.frozen? ⟨w.heap.size + 1, j, none⟩ = false := bkf HK.out
  have k0 : V.cell? ⟨w.heap.size + 1, 0, none⟩ = some (i64 0) := bkc HK.out 0
  have k1 : V.cell? ⟨w.heap.size + 1, 1, none⟩ = some (i64 0) := bkc HK.out 1
  have k2 : V.cell? ⟨w.heap.size + 1, 2, none⟩ = some (i64 0) := bkc HK.out 2
  have k3 : V.cell? ⟨w.heap.size + 1, 3, none⟩ = some (i64 0) := bkc HK.out 3
  have t0 : V.cell? ⟨b, sl * 6, none⟩ = some (i64 p.c.env) := (HT.out V HBV.out).cell hp 0 (by omega)
  have t1 : V.cell? ⟨b, sl * 6 + 1, none⟩ = some (i64 p.c.kind) := (HT.out V HBV.out).cell hp 1 (by omega)
  have t2 : V.cell? ⟨b, sl * 6 + 2, none⟩ = some (i64 p.c.num) := (HT.out V HBV.out).cell hp 2 (by omega)
  have t3 : V.cell? ⟨b, sl * 6 + 3, none⟩ = some (i64 p.c.rts) := (HT.out V HBV.out).cell hp 3 (by omega)
  have t5 : V.cell? ⟨b, sl * 6 + 5, none⟩ = some (i64 p.gen) := (HT.out V HBV.out).cell hp 5 (by omega)
  go_quiet ((go_at_call 73; exact Calls.quiet_of_same (HC.out _ (below_drewN HBV.out _))))
  go_wp2_with fail
  exact bodyPost_ret (results_look rfl rfl (load36 (set4 (V := V.drewN nq) HK.out zC))) rfl ⟨rfl, bel4 (V := V.drewN nq) (below_drewN HBV.out nq) (by omega) zC⟩
set_option maxHeartbeats 1600000 in
theorem look_ok {w : World} {base b : Nat} {T : List Pl} (h : Tb w base b T) (env gn : Int) (sl : Nat) (p : Pl) (hp : T[sl]? = some p) (hf : ¬ p.c = zC) (hg : p.gen = gn) (he : p.c.env = env) : Calls Try.prog 50 #[.pointer (some ⟨b, 0, none⟩), i64 env, .agg #[i64 (sl : Nat), i64 gn]] w fun e w' => e = .returned (.tuple #[p.c.v, i64 0]) ∧ Below w.heap.size w w' := by
  subst he
  have hs : sl < 128 := by have := (List.getElem?_eq_some_iff.1 hp).1; have := h.len; omega
  have hsI : (sl : Int) < 128 := by omega
  have hbl := blk_lt h.row
  have HT : Hid (∀ V, Below w.heap.size w V → Tb V base b T) := fun V hV => h.below hV
  have hC : ∀ V, Below w.heap.size w V → Calls Try.prog 73 #[.pointer (some ⟨b, sl * 6, none⟩)] V fun e w' => e = .returned (.bool false) ∧ w' = V := fun V hV => by
    have := free_ok V b (sl * 6) p.c ((HT.out V hV).cell hp 0 (by omega)) ((HT.out V hV).cell hp 1 (by omega)) ((HT.out V hV).cell hp 2 (by omega)) ((HT.out V hV).cell hp 3 (by omega))
    rw [decide_eq_false hf] at this
    exact this
  have HC := hid hC
  have HB2 : Hid (Below w.heap.size w ((w.alloc (hO (sl : Nat) gn)).alloc (cO zC))) := (bl1 w _).trans ((bl1 _ _).mono (by simp))
  clear h hC
  go_enter Try.func50, Try.ntmps50
  go_upto_region 3 with fail
  go_quiet (fail)
  go_upto_region 4 with fail
  have HBV : Hid (Below w.heap.size w (((w.alloc (.cells #[i64 (sl : Nat), i64 gn] 43)).alloc (.cells #[i64 0, i64 0, i64 0, i64 0] 108)).drewN nq)) := below_drewN HB2.out nq
  have HK : Hid ((((w.alloc (.cells #[i64 (sl : Nat), i64 gn] 43)).alloc (.cells #[i64 0, i64 0, i64 0, i64 0] 108)).drewN nq).heap[w.heap.size + 1]? = some (cO zC)) := two_heap w _ zC
  have g1 : (((w.alloc (.cells #[i64 (sl : Nat), i64 gn] 43)).alloc (.cells #[i64 0, i64 0, i64 0, i64 0] 108)).drewN nq).cell? ⟨w.heap.size, 1, none⟩ = some (i64 gn) := by go_simp
  generalize ((w.alloc (.cells #[i64 (sl : Nat), i64 gn] 43)).alloc (.cells #[i64 0, i64 0, i64 0, i64 0] 108)).drewN nq = V at *
  have HFZ : ∀ j, V.frozen? ⟨w.heap.size + 1, j, none⟩ = false := bkf HK.out
  have k0 : V.cell? ⟨w.heap.size + 1, 0, none⟩ = some (i64 0) := bkc HK.out 0
  have k1 : V.cell? ⟨w.heap.size + 1, 1, none⟩ = some (i64 0) := bkc HK.out 1
  have k2 : V.cell? ⟨w.heap.size + 1, 2, none⟩ = some (i64 0) := bkc HK.out 2
  have k3 : V.cell? ⟨w.heap.size + 1, 3, none⟩ = some (i64 0) := bkc HK.out 3
  have t0 : V.cell? ⟨b, sl * 6, none⟩ = some (i64 p.c.env) := (HT.out V HBV.out).cell hp 0 (by omega)
  have t1 : V.cell? ⟨b, sl * 6 + 1, none⟩ = some (i64 p.c.kind) := (HT.out V HBV.out).cell hp 1 (by omega)
  have t2 : V.cell? ⟨b, sl * 6 + 2, none⟩ = some (i64 p.c.num) := (HT.out V HBV.out).cell hp 2 (by omega)
  have t3 : V.cell? ⟨b, sl * 6 + 3, none⟩ = some (i64 p.c.rts) := (HT.out V HBV.out).cell hp 3 (by omega)
  have t5 : V.cell? ⟨b, sl * 6 + 5, none⟩ = some (i64 p.gen) := (HT.out V HBV.out).cell hp 5 (by omega)
  go_quiet ((go_at_call 73; exact Calls.quiet_of_same (HC.out _ (below_drewN HBV.out _))))
  go_wp2_with fail
  exact bodyPost_ret (results_look rfl rfl (load36 (set4 (V := V.drewN nq) HK.out p.c))) rfl ⟨rfl, bel4 (V := V.drewN nq) (below_drewN HBV.out nq) (by omega) p.c⟩
end Go.Proofs.Ytnknhencobhjdaa.Cp
namespace Go.Proofs.Ytnknhencobhjdaa.Cp
open Go.ChangeShapes Go.WideShapes Go.ChangeAt Go.RowKit Go.Deep
attribute [local go_sem ↓] Go.wp_at_zero Go.wp_at_succ
def z128 : List Pl := List.replicate 128 ⟨zC, 0, 0⟩
theorem zero72 (w : World) : (zeroValue 123).run Try.prog w = .ok (.agg (tbC z128).toArray) w := by kernel_rfl
set_option maxHeartbeats 1600000 in
theorem new_ok (w : World) : Calls Try.prog 29 #[] w fun e w' => e = .returned (.pointer (some ⟨w.heap.size, 0, none⟩)) ∧ w' = w.alloc (.cells (tbC z128).toArray 123) := by
  have hz := zero72 w
  have hs : (tbC z128).toArray.size = 768 := by rw [List.size_toArray, tbC_len, z128, List.length_replicate]
  generalize (tbC z128).toArray = Z0 at *
  go_enter Try.func29, Try.ntmps29
  go_wp2_with fail
  go_ret
  exact ⟨rfl, rfl⟩
theorem Tb.new (w : World) : Tb (w.alloc (.cells (tbC z128).toArray 123)) w.heap.size w.heap.size z128 := ⟨Nat.le_refl _, by simp [z128], hlx w _⟩
theorem heap_mid {t : TypeId} {b : Nat} (post : List Value) : ∀ (vs mid pre : List Value) (w : World), mid.length = vs.length → w.heap[b]? = some (.cells (pre ++ (mid ++ post)).toArray t (0, 0)) → (w.setCells b pre.length vs).heap[b]? = some (.cells (pre ++ (vs ++ post)).toArray t (0, 0))
  | [], mid, pre, w, hl, h => by
    obtain rfl : mid = [] := List.eq_nil_of_length_eq_zero hl
    exact h
  | v :: vs, [], _, _, hl, _ => by simp at hl
  | v :: vs, m :: mid, pre, w, hl, h => by
    rw [World.setCells]
    have h2 : (w.setCell ⟨b, pre.length, none⟩ v).heap[b]? = some (.cells ((pre ++ [v]) ++ (mid ++ post)).toArray t (0, 0)) := by
      simp only [World.setCell, Array.getElem?_modify, h, if_true, Option.map_some]
      congr 2
      simp
    have := heap_mid post vs mid (pre ++ [v]) (w.setCell ⟨b, pre.length, none⟩ v) (by simpa using hl) h2
    rw [List.length_append, List.length_singleton] at this
    rw [this]
    simp
theorem Tb.set {w : World} {base b : Nat} {T : List Pl} (h : Tb w base b T) {i : Nat} (hi : i < 128) (p : Pl) : Tb (w.setCells b (i * 6) (plC p)) base b (T.set i p) := by
  refine ⟨h.lo, by rw [List.length_set]; exact h.len, ?_⟩
  have hl := h.len
  have e : tbC T = (tbC T).take (6 * i) ++ (((tbC T).drop (6 * i)).take 6 ++ (tbC T).drop (6 * i + 6)) := by
    rw [show (tbC T).drop (6 * i + 6) = ((tbC T).drop (6 * i)).drop 6 by rw [List.drop_drop], List.take_append_drop, List.take_append_drop]
  have h2 := h.row
  rw [e] at h2
  have hlen : ((tbC T).take (6 * i)).length = i * 6 := by rw [List.length_take, tbC_len]; omega
  have := heap_mid ((tbC T).drop (6 * i + 6)) (plC p) (((tbC T).drop (6 * i)).take 6) ((tbC T).take (6 * i)) w (by rw [List.length_take, List.length_drop, tbC_len]; simp [plC]; omega) h2
  rw [hlen] at this
  rw [this, tbC_set T i p (by omega), List.append_assoc]
theorem Tb.there {w : World} {base b : Nat} {T : List Pl} (h : Tb w base b T) {i : Nat} (hi : i < 128) : w.there b (i * 6) 6 := fun j hj => by
  have hl := h.len
  obtain ⟨p, hp⟩ : ∃ p, T[i]? = some p := ⟨_, List.getElem?_eq_getElem (by omega)⟩
  refine ⟨?_, bkf h.row _⟩
  rw [h.cell hp j hj, List.getElem?_eq_getElem (by simpa [plC] using hj)]
  rfl
theorem Tb.fr {w w' : World} {base b : Nat} {T : List Pl} {bs : Nat} {ts : List TypeId} (h : Tb w base b T) (hb : Fr bs ts w w') (h1 : ts.contains 123 = false) : Tb w' base b T :=
  ⟨h.lo, h.len, hb.kept _ _ h.row (by simp only [keeps, h1]; rfl)⟩
theorem Tb.lt {w : World} {base b : Nat} {T : List Pl} (h : Tb w base b T) : b < w.heap.size := blk_lt h.row
end Go.Proofs.Ytnknhencobhjdaa.Cp
namespace Go.Proofs.Ytnknhencobhjdaa.Cp
open Go.ChangeShapes Go.WideShapes Go.ChangeAt Go.RowKit Go.Deep
attribute [local go_sem ↓] Go.wp_at_zero Go.wp_at_succ
theorem wrap_id {x : Int} (h0 : -9223372036854775808 ≤ x) (h1 : x ≤ 9223372036854775807) : IntKind.i64.wrap x = x := by
  simp [IntKind.wrap, IntKind.bits, IntKind.signed]
  omega
theorem plC_one (p : Pl) : (plC p).toArray.all (fun x => x.oneCell') = true := all_oneCell_toArray (by intro v hv; simp only [plC, List.mem_cons, List.not_mem_nil, or_false] at hv; rcases hv with rfl | rfl | rfl | rfl | rfl | rfl <;> rfl)
theorem results_cell {W : World} {t : Array Value} {a : Addr} {u v : Value} {F : Func} {n m : Nat} {ty : TypeId} (hr : F.results = #[.cell n ty, .tmp m]) (h6 : t.getD n undef = .pointer (some a)) (h7 : t.getD m undef = v) (g : (loadVar ty a).run Try.prog W = .ok u W) :
    (results F t).run Try.prog W = .ok (.tuple #[u, v]) W := by
  simp only [results, hr]
  simp [Result.andThen, asAddr, h6, h7, g, -Array.getD_eq_getD_getElem?]
theorem load42 {W : World} {b : Nat} {s g : Int} (h : W.heap[b]? = some (.cells #[i64 s, i64 g] 43 (0, 0))) : (loadVar 43 ⟨b, 0, none⟩).run Try.prog W = .ok (.agg #[i64 s, i64 g]) W := by
  refine run_loadVar_mid _ _ 0 43 [i64 s, i64 g] _ (fun j v hv => ?_) Try.underlying43 rfl (by kernel_rfl)
  rw [Nat.zero_add, cell_of_row _ _ _ _ 43 (0, 0) h]
  simpa using hv
theorem set2 {V : World} {b : Nat} {x y : Value} {t : TypeId} (h : V.heap[b]? = some (.cells #[x, y] t)) (s g : Value) : ((V.setCell ⟨b, 0, none⟩ s).setCell ⟨b, 1, none⟩ g).heap[b]? = some (.cells #[s, g] t) := by
  have h1 := heap_setCell_same V b 0 _ t s h
  have h2 := heap_setCell_same _ b 1 _ t g h1
  simpa using h2
structure SqP (q b i : Nat) (c : Cp) (g : Int) (W : World) : Prop where
  s0 : W.cell? ⟨q, 0, none⟩ = some (i64 c.env)
  s1 : W.cell? ⟨q, 1, none⟩ = some (i64 c.kind)
  s2 : W.cell? ⟨q, 2, none⟩ = some (i64 c.num)
  s3 : W.cell? ⟨q, 3, none⟩ = some (i64 c.rts)
  s5 : W.cell? ⟨b, i * 6 + 5, none⟩ = some (i64 g)
theorem heap_sc_ne {q x : Nat} : ∀ (vs : List Value) (w : World) (o : Nat), q ≠ x → (w.setCells q o vs).heap[x]? = w.heap[x]?
  | [], _, _, _ => rfl
  | v :: r, w, o, h => by
    rw [World.setCells, heap_sc_ne r _ (o + 1) h, Below.heap_setCell _ _ _ _ (by show x ≠ q; omega)]
set_option maxHeartbeats 3200000 in
theorem put_ok {w : World} {base b : Nat} {T : List Pl} (h : Tb w base b T) (c : Cp) (fr : Int) (i : Nat) (p : Pl) (hp : T[i]? = some p) (hf : p.c = zC) (hno : ∀ j q, j < i → T[j]? = some q → q.c ≠ zC) (hg0 : 0 ≤ p.gen) (hg1 : p.gen ≤ 1000000000) :
    Calls Try.prog 88 #[.pointer (some ⟨b, 0, none⟩), c.v, i64 fr] w fun e w' => e = .returned (.tuple #[.agg #[i64 i, i64 (p.gen + 1)], i64 0]) ∧ Tb w' base b (T.set i ⟨c, fr, p.gen + 1⟩) ∧ Touch b w w' := by
  have hi : i < 128 := by have := (List.getElem?_eq_some_iff.1 hp).1; have := h.len; omega
  have hiI : (i : Int) < 128 := by omega
  have hbl := h.lt
  obtain ⟨V, hV⟩ : ∃ V, V = (w.alloc (cO c)).alloc (hO 0 0) := ⟨_, rfl⟩
  have HVe : Hid ((w.alloc (.cells #[i64 c.env, i64 c.kind, i64 c.num, i64 c.rts] 108)).alloc (.cells #[i64 0, i64 0] 43) = V) := hV.symm
  have hBV : Below w.heap.size w V := by rw [hV]; exact (bl1 w _).trans ((bl1 _ _).mono (by simp))
  have HK1 : Hid (V.heap[w.heap.size]? = some (cO c)) := by rw [hV]; exact bka (hlx w _) _
  have HK2 : Hid (V.heap[w.heap.size + 1]? = some (hO 0 0)) := by
    rw [hV]
    have := hlx (w.alloc (cO c)) (hO 0 0)
    rwa [show (w.alloc (cO c)).heap.size = w.heap.size + 1 by simp] at this
  have hTV := h.below hBV
  have HT : Hid (Tb V base b T) := hTV
  have HB : Hid (Below w.heap.size w V) := hBV
  have hC : ∀ (k : Nat) q, T[k]? = some q → Calls Try.prog 73 #[.pointer (some ⟨b, k * 6, none⟩)] V fun e w' => e = .returned (.bool (decide (q.c = zC))) ∧ w' = V := fun k q hq =>
    free_ok V b (k * 6) q.c (hTV.cell hq 0 (by omega)) (hTV.cell hq 1 (by omega)) (hTV.cell hq 2 (by omega)) (hTV.cell hq 3 (by omega))
  have HC := hid hC
  have HNO := hid hno
  have HL := hid h.len
  have HP := hid hp
  have HF := hid hf
  clear hV hBV hTV hC h hno hp hf
  unfold Cp.v
  go_enter Try.func88, Try.ntmps88
  go_wp2_with fail
  rw [HVe.out]
  go_loopw [10] (fun u wr => ∃ k : Nat, k ≤ i ∧ u = i64 k ∧ wr = V) (fun u _ => i - (intOf u).toNat)
  case atStart => exact ⟨0, by omega, rfl, rfl⟩
  case round =>
    obtain ⟨k, hk, rfl, rfl⟩ := hrel
    have hkI : (k : Int) < 128 := by omega
    by_cases hlt : k < i
    · obtain ⟨q, hq⟩ : ∃ q, T[k]? = some q := ⟨_, List.getElem?_eq_getElem (by have := HL.out; omega)⟩
      have hcc := HC.out k q hq
      rw [decide_eq_false (HNO.out k q hlt hq)] at hcc
      have HCC := hid hcc
      clear hcc hq
      go_wp2_with (go_at_call 73; refine HCC.out.mono ?_; rintro e v' ⟨rfl, rfl⟩)
      exact ⟨⟨k + 1, by omega, by go_num, by first | trivial | rfl⟩, by simp [intOf]; omega⟩
    · obtain rfl : k = i := by omega
      have hcc := HC.out k p HP.out
      rw [decide_eq_true HF.out] at hcc
      have HCC := hid hcc
      clear hcc
      go_upto_region 6 with (go_at_call 73; refine HCC.out.mono ?_; rintro e v1 ⟨rfl, rfl⟩)
      have HS : Hid (SqP w.heap.size b k c p.gen v1.drew) := ⟨bkc HK1.out 0, bkc HK1.out 1, bkc HK1.out 2, bkc HK1.out 3, HT.out.cell HP.out 5 (by omega)⟩
      have HTH : Hid (v1.drew.there b (k * 6) 6) := HT.out.there hi
      refine wp_region_noPanic ?_
      refine wrl (SqP w.heap.size b k c p.gen) 10 (by kernel_rfl) ?_
      refine wkp 0 20 (.pointer (some ⟨b, k * 6, none⟩)) [9] rfl HS.out (fun W hW => by obtain ⟨s0, s1, s2, s3, s5⟩ := hW; go_simp) ?_
      refine wkp 1 21 (.agg #[i64 c.env, i64 c.kind, i64 c.num, i64 c.rts]) [8] rfl HS.out (fun W hW => by obtain ⟨s0, s1, s2, s3, s5⟩ := hW; go_simp) ?_
      refine wkp 2 22 (i64 fr) [8] rfl HS.out (fun W hW => by obtain ⟨s0, s1, s2, s3, s5⟩ := hW; go_simp) ?_
      refine wkp 3 23 (.pointer (some ⟨b, k * 6, none⟩)) [4, 5, 6, 7, 8] rfl HS.out (fun W hW => by obtain ⟨s0, s1, s2, s3, s5⟩ := hW; go_simp) ?_
      refine wkp 4 24 (.pointer (some ⟨b, k * 6, none⟩)) [5, 6, 7, 8] rfl HS.out (fun W hW => by obtain ⟨s0, s1, s2, s3, s5⟩ := hW; go_simp) ?_
      refine wkp 5 25 (.pointer (some ⟨b, k * 6 + 5, none⟩)) [6, 7, 8] rfl HS.out (fun W hW => by obtain ⟨s0, s1, s2, s3, s5⟩ := hW; go_simp) ?_
      refine wkp 6 26 (i64 p.gen) [7, 8] rfl HS.out (fun W hW => by obtain ⟨s0, s1, s2, s3, s5⟩ := hW; go_simp) ?_
      refine wkp 7 27 (i64 (p.gen + 1)) [8] rfl HS.out (fun W hW => by obtain ⟨s0, s1, s2, s3, s5⟩ := hW; go_simp; exact wrap_id (by omega) (by omega)) ?_
      refine wk 8 28 (.agg #[i64 c.env, i64 c.kind, i64 c.num, i64 c.rts, i64 fr, i64 (p.gen + 1)]) rfl HS.out (fun W hW => by obtain ⟨s0, s1, s2, s3, s5⟩ := hW; go_simp) ?_
      refine wk 9 29 (.pointer (some ⟨b, k * 6, none⟩)) rfl HS.out (fun W hW => by obtain ⟨s0, s1, s2, s3, s5⟩ := hW; go_simp) ?_
      simp only [Act.put, sA, sZ, sS]
      refine wo 10 rfl (fun K hK => ?_)
      refine wp_store_mid 120 (.tmp 29) (.tmp 28) rfl b (k * 6) (plC ⟨c, fr, p.gen + 1⟩).toArray rfl rfl (by exact HTH.out) (by kernel_rfl) (plC_one _) ?_
      refine hK.out _ _ (fun h => absurd rfl h) ?_
      clear hK K
      refine wdd ?_
      refine NoPanic.normal ?_
      have hT2 : Tb (v1.drew.setCells b (k * 6) (plC ⟨c, fr, p.gen + 1⟩)) base b (T.set k ⟨c, fr, p.gen + 1⟩) := Tb.set (w := v1.drew) ⟨HT.out.lo, HT.out.len, HT.out.row⟩ hi _
      have HTo : Hid (Touch b w (v1.drew.setCells b (k * 6) (plC ⟨c, fr, p.gen + 1⟩))) := Touch.setCells _ _ _ (Touch.drew ⟨HB.out.os, HB.out.tape, HB.out.output, HB.out.size, fun x hx _ => HB.out.block x hx⟩)
      have HK3 : Hid ((v1.drew.setCells b (k * 6) (plC ⟨c, fr, p.gen + 1⟩)).heap[w.heap.size + 1]? = some (hO 0 0)) := by rw [heap_sc_ne _ _ _ (by omega)]; exact HK2.out
      have c5 : (v1.drew.setCells b (k * 6) (plC ⟨c, fr, p.gen + 1⟩)).cell? ⟨b, k * 6 + 5, none⟩ = some (i64 (p.gen + 1)) := hT2.cell (i := k) (p := ⟨c, fr, p.gen + 1⟩) (by rw [List.getElem?_set_self (by have := HL.out; omega)]) 5 (by omega)
      have k0 : (v1.drew.setCells b (k * 6) (plC ⟨c, fr, p.gen + 1⟩)).cell? ⟨w.heap.size + 1, 0, none⟩ = some (i64 0) := bkc HK3.out 0
      have k1 : (v1.drew.setCells b (k * 6) (plC ⟨c, fr, p.gen + 1⟩)).cell? ⟨w.heap.size + 1, 1, none⟩ = some (i64 0) := bkc HK3.out 1
      have kf : ∀ j, (v1.drew.setCells b (k * 6) (plC ⟨c, fr, p.gen + 1⟩)).frozen? ⟨w.heap.size + 1, j, none⟩ = false := bkf HK3.out
      have HT2 := hid hT2
      clear hT2
      generalize v1.drew.setCells b (k * 6) (plC ⟨c, fr, p.gen + 1⟩) = U at *
      simp only [Act.put, List.setIfInBounds_toArray]
      go_wp2_with fail
      exact bodyPost_ret (results_cell Try.results88 rfl rfl (load42 (set2 HK3.out _ _))) rfl ⟨rfl, ⟨HT2.out.lo, HT2.out.len, by rw [Below.heap_setCell _ _ _ _ (by show b ≠ w.heap.size + 1; omega), Below.heap_setCell _ _ _ _ (by show b ≠ w.heap.size + 1; omega)]; exact HT2.out.row⟩, (HTo.out.setNew (by show w.heap.size ≤ w.heap.size + 1; omega) _).setNew (by show w.heap.size ≤ w.heap.size + 1; omega) _⟩
end Go.Proofs.Ytnknhencobhjdaa.Cp
namespace Go.Proofs.Ytnknhencobhjdaa.Cp
open Go.ChangeShapes Go.WideShapes Go.ChangeAt Go.RowKit Go.Deep
attribute [local go_sem ↓] Go.wp_at_zero Go.wp_at_succ
def lookF (T : List Pl) (env sl gn : Int) : Option Cp :=
  if 0 ≤ sl then
    match T[sl.toNat]? with
    | some p => if p.c = zC ∨ p.gen ≠ gn ∨ p.c.env ≠ env then none else some p.c
    | none => none
  else none
def rC : Option Cp → Cp
  | some c => c
  | none => zC
def rE : Option Cp → Int
  | some _ => 0
  | none => 90
theorem lookF_some {T : List Pl} {env sl gn : Int} {c : Cp} (h : lookF T env sl gn = some c) : ∃ (s : Nat) (p : Pl), sl = s ∧ T[s]? = some p ∧ p.c ≠ zC ∧ p.gen = gn ∧ p.c.env = env ∧ p.c = c := by
  unfold lookF at h
  by_cases h0 : 0 ≤ sl
  · rw [if_pos h0] at h
    cases hp : T[sl.toNat]? with
    | none => rw [hp] at h; cases h
    | some p =>
      rw [hp] at h
      simp only at h
      by_cases hc : p.c = zC ∨ p.gen ≠ gn ∨ p.c.env ≠ env
      · rw [if_pos hc] at h; cases h
      · rw [if_neg hc] at h
        simp only [Option.some.injEq] at h
        have h1 : ¬ p.c = zC := fun e => hc (Or.inl e)
        have h2 : p.gen = gn := Classical.byContradiction fun e => hc (Or.inr (Or.inl e))
        have h3 : p.c.env = env := Classical.byContradiction fun e => hc (Or.inr (Or.inr e))
        exact ⟨sl.toNat, p, by omega, hp, h1, h2, h3, h⟩
  · rw [if_neg h0] at h; cases h
theorem lookF_at {T : List Pl} {env gn : Int} {s : Nat} {p : Pl} (hp : T[s]? = some p) (h1 : p.c ≠ zC) (h2 : p.gen = gn) (h3 : p.c.env = env) : lookF T env s gn = some p.c := by
  unfold lookF
  rw [if_pos (by omega), Int.toNat_natCast, hp]
  simp [h1, h2, h3]
theorem look_any {w : World} {base b : Nat} {T : List Pl} (h : Tb w base b T) (env sl gn : Int) : Calls Try.prog 50 #[.pointer (some ⟨b, 0, none⟩), i64 env, .agg #[i64 sl, i64 gn]] w fun e w' => e = .returned (.tuple #[(rC (lookF T env sl gn)).v, i64 (rE (lookF T env sl gn))]) ∧ Below w.heap.size w w' := by
  have hl := h.len
  by_cases h0 : sl < 0 ∨ 128 ≤ sl
  · have e : lookF T env sl gn = none := by
      unfold lookF
      by_cases h1 : 0 ≤ sl
      · rw [if_pos h1, List.getElem?_eq_none (by omega)]
      · rw [if_neg h1]
    rw [e]
    exact look_out w b env sl gn h0
  · obtain ⟨s, rfl⟩ : ∃ s : Nat, sl = s := ⟨sl.toNat, by omega⟩
    obtain ⟨p, hp⟩ : ∃ p, T[s]? = some p := ⟨_, List.getElem?_eq_getElem (by omega)⟩
    unfold lookF
    rw [if_pos (by omega), Int.toNat_natCast, hp]
    simp only
    by_cases h1 : p.c = zC
    · rw [if_pos (Or.inl h1)]; exact look_free h env gn s p hp h1
    · by_cases h2 : p.gen = gn
      · by_cases h3 : p.c.env = env
        · rw [if_neg (by simp [h1, h2, h3])]; exact look_ok h env gn s p hp h1 h2 h3
        · rw [if_pos (Or.inr (Or.inr h3))]; exact look_env h env gn s p hp h1 h2 h3
      · rw [if_pos (Or.inr (Or.inl h2))]; exact look_gen h env gn s p hp h1 h2
theorem two_boxes (w : World) (c : Cp) : Below w.heap.size w ((w.alloc (cO c)).alloc (hO 0 0)) ∧ ((w.alloc (cO c)).alloc (hO 0 0)).heap[w.heap.size]? = some (cO c) ∧ ((w.alloc (cO c)).alloc (hO 0 0)).heap[w.heap.size + 1]? = some (hO 0 0) := by
  refine ⟨(bl1 w _).trans ((bl1 _ _).mono (by simp)), bka (hlx w _) _, ?_⟩
  have := hlx (w.alloc (cO c)) (hO 0 0)
  rwa [show (w.alloc (cO c)).heap.size = w.heap.size + 1 by simp] at this
theorem bel2 {w V : World} {B b : Nat} (h : Below B w V) (hb : B ≤ b) (s g : Value) : Below B w ((V.setCell ⟨b, 0, none⟩ s).setCell ⟨b, 1, none⟩ g) := (h.setCell hb _).setCell hb _
theorem Touch.of_below {q : Nat} {w w' : World} (h : Below w.heap.size w w') : Touch q w w' := ⟨h.os, h.tape, h.output, h.size, fun x hx _ => h.block x hx⟩
theorem Tb.set_new {w : World} {base b : Nat} {T : List Pl} (h : Tb w base b T) {q : Nat} (hq : b ≠ q) (s g : Value) : Tb ((w.setCell ⟨q, 0, none⟩ s).setCell ⟨q, 1, none⟩ g) base b T :=
  ⟨h.lo, h.len, by rw [Below.heap_setCell _ _ _ _ (by exact hq), Below.heap_setCell _ _ _ _ (by exact hq)]; exact h.row⟩
set_option maxHeartbeats 1600000 in
theorem mint_ok {w : World} {base b : Nat} {T : List Pl} (h : Tb w base b T) (c : Cp) (hc : rightB c = true) (i : Nat) (p : Pl) (hp : T[i]? = some p) (hf : p.c = zC) (hno : ∀ j q, j < i → T[j]? = some q → q.c ≠ zC) (hg0 : 0 ≤ p.gen) (hg1 : p.gen ≤ 1000000000) :
    Calls Try.prog 84 #[.pointer (some ⟨b, 0, none⟩), c.v] w fun e w' => e = .returned (.tuple #[.agg #[i64 i, i64 (p.gen + 1)], i64 0]) ∧ Tb w' base b (T.set i ⟨c, -1, p.gen + 1⟩) ∧ Touch b w w' := by
  obtain ⟨hBV, hK1, hK2⟩ := two_boxes w c
  obtain ⟨V, hV⟩ : ∃ V, V = (w.alloc (cO c)).alloc (hO 0 0) := ⟨_, rfl⟩
  have HVe : Hid ((w.alloc (.cells #[i64 c.env, i64 c.kind, i64 c.num, i64 c.rts] 108)).alloc (.cells #[i64 0, i64 0] 43) = V) := hV.symm
  rw [← hV] at hBV hK1 hK2
  have HB := hid hBV
  have HK1 := hid hK1
  have HK2 := hid hK2
  have HC := hid hc
  have HT := hid h
  have hbl := h.lt
  have HPut : Hid (∀ W, Tb W base b T → Calls Try.prog 88 #[.pointer (some ⟨b, 0, none⟩), c.v, i64 (-1)] W fun e w' => e = .returned (.tuple #[.agg #[i64 i, i64 (p.gen + 1)], i64 0]) ∧ Tb w' base b (T.set i ⟨c, -1, p.gen + 1⟩) ∧ Touch b W w') := fun W hW => put_ok hW c (-1) i p hp hf hno hg0 hg1
  clear hV hBV hK1 hK2 hc h hp hf hno
  unfold Cp.v
  go_enter Try.func84, Try.ntmps84
  go_wp2_with fail
  rw [HVe.out]
  refine (right_ok _ c).mono ?_
  rintro e w1 ⟨rfl, hb1⟩
  rw [HC.out]
  have HK3 : Hid (w1.heap[w.heap.size + 1]? = some (hO 0 0)) := bkb HK2.out hb1
  have HB1 : Hid (Below w.heap.size w w1) := HB.out.trans (hb1.mono HB.out.size)
  have hq1 := bkb HK1.out hb1
  have c0 : w1.cell? ⟨w.heap.size, 0, none⟩ = some (i64 c.env) := bkc hq1 0
  have c1 : w1.cell? ⟨w.heap.size, 1, none⟩ = some (i64 c.kind) := bkc hq1 1
  have c2 : w1.cell? ⟨w.heap.size, 2, none⟩ = some (i64 c.num) := bkc hq1 2
  have c3 : w1.cell? ⟨w.heap.size, 3, none⟩ = some (i64 c.rts) := bkc hq1 3
  clear hb1 hq1
  go_wp2_with fail
  refine (HPut.out w1 (HT.out.below HB1.out)).mono ?_
  rintro e w2 ⟨rfl, ht2, hto2⟩
  have HT2 := hid ht2
  have hlt3 := blk_lt HK3.out
  have HK4 : Hid (w2.heap[w.heap.size + 1]? = some (hO 0 0)) := (hto2.block _ hlt3 (by omega)).trans HK3.out
  have HTo : Hid (Touch b w w2) := (Touch.of_below HB1.out).trans hto2
  have k0 : w2.cell? ⟨w.heap.size + 1, 0, none⟩ = some (i64 0) := bkc HK4.out 0
  have k1 : w2.cell? ⟨w.heap.size + 1, 1, none⟩ = some (i64 0) := bkc HK4.out 1
  have kf : ∀ j, w2.frozen? ⟨w.heap.size + 1, j, none⟩ = false := bkf HK4.out
  clear ht2 hto2 c0 c1 c2 c3
  go_wp2_with fail
  exact bodyPost_ret (results_cell Try.results84 rfl rfl (load42 (set2 HK4.out _ _))) rfl ⟨rfl, HT2.out.set_new (by omega) _ _, (HTo.out.setNew (by show w.heap.size ≤ w.heap.size + 1; omega) _).setNew (by show w.heap.size ≤ w.heap.size + 1; omega) _⟩
end Go.Proofs.Ytnknhencobhjdaa.Cp
