/- caps.Look: its contract; no statement is proved in this text. -/
import Derived.Test.YtnknhencobhjdaaCpPlace
namespace Go.Proofs.Ytnknhencobhjdaa.Cp
open Go.ChangeShapes Go.WideShapes Go.ChangeAt Go.RowKit
attribute [local go_sem ↓] Go.wp_at_zero Go.wp_at_succ

theorem results_look {W : World} {t : Array Value} {a : Addr} {u v : Value} (h6 : t.getD 6 undef = .pointer (some a)) (h7 : t.getD 7 undef = v) (g : (loadVar 108 a).run Try.prog W = .ok u W) :
    (results Try.f50 t).run Try.prog W = .ok (.tuple #[u, v]) W := by
  have hr : Try.f50.results = #[.cell 6 108, .tmp 7] := Try.results50
  simp only [results, hr]
  simp [Result.andThen, asAddr, h6, h7, g, -Array.getD_eq_getD_getElem?]
theorem load36 {W : World} {b : Nat} {c : Cp} (h : W.heap[b]? = some (.cells #[i64 c.env, i64 c.kind, i64 c.num, i64 c.rts] 108 (0, 0))) : (loadVar 108 ⟨b, 0, none⟩).run Try.prog W = .ok c.v W := by
  refine run_loadVar_mid _ _ 0 108 [i64 c.env, i64 c.kind, i64 c.num, i64 c.rts] _ (fun j v hv => ?_) Try.underlying108 rfl (by kernel_rfl)
  rw [Nat.zero_add, cell_of_row _ _ _ _ 108 (0, 0) h]
  simpa using hv
abbrev hO (sl gn : Int) : Obj := .cells #[i64 sl, i64 gn] 43
abbrev cO (c : Cp) : Obj := .cells #[i64 c.env, i64 c.kind, i64 c.num, i64 c.rts] 108
theorem two_heap (w : World) (o : Obj) (c : Cp) : ((w.alloc o).alloc (cO c)).heap[w.heap.size + 1]? = some (cO c) := by
  show ((w.alloc o).heap.push (cO c))[w.heap.size + 1]? = _
  have h : (w.alloc o).heap.size = w.heap.size + 1 := by simp
  rw [← h, Array.getElem?_push_size]
theorem two_load (w : World) (o : Obj) (c : Cp) : (loadVar 108 ⟨w.heap.size + 1, 0, none⟩).run Try.prog ((w.alloc o).alloc (cO c)) = .ok c.v ((w.alloc o).alloc (cO c)) :=
  load36 (by
    show ((w.alloc o).heap.push (cO c))[w.heap.size + 1]? = _
    have h : (w.alloc o).heap.size = w.heap.size + 1 := by simp
    rw [← h, Array.getElem?_push_size])
set_option maxRecDepth 100000 in
theorem look_nil (w : World) (env sl gn : Int) : Calls Try.prog 50 #[.pointer none, i64 env, .agg #[i64 sl, i64 gn]] w fun e w' => e = .returned (.tuple #[zC.v, i64 90]) ∧ Below w.heap.size w w' := by
  have HL : Hid ((loadVar 108 ⟨w.heap.size + 1, 0, none⟩).run Try.prog ((w.alloc (hO sl gn)).alloc (cO zC)) = .ok zC.v ((w.alloc (hO sl gn)).alloc (cO zC))) := two_load w _ zC
  go_enter Try.func50, Try.ntmps50
  go_wp2_with fail
  exact bodyPost_ret (results_look rfl rfl HL.out) rfl ⟨rfl, (below_one w _).trans ((below_one _ _).mono (by simp))⟩
set_option maxRecDepth 100000 in
theorem look_out (w : World) (b : Nat) (env sl gn : Int) (h : sl < 0 ∨ 128 ≤ sl) : Calls Try.prog 50 #[.pointer (some ⟨b, 0, none⟩), i64 env, .agg #[i64 sl, i64 gn]] w fun e w' => e = .returned (.tuple #[zC.v, i64 90]) ∧ Below w.heap.size w w' := by
  have HL : Hid ((loadVar 108 ⟨w.heap.size + 1, 0, none⟩).run Try.prog ((w.alloc (hO sl gn)).alloc (cO zC)) = .ok zC.v ((w.alloc (hO sl gn)).alloc (cO zC))) := two_load w _ zC
  have h' : sl < 0 ∨ (¬ sl < 0 ∧ 128 ≤ sl) := by omega
  clear h
  rcases h' with h | ⟨h, h2⟩
  · go_enter Try.func50, Try.ntmps50
    go_wp2_with fail
    exact bodyPost_ret (results_look rfl rfl HL.out) rfl ⟨rfl, (below_one w _).trans ((below_one _ _).mono (by simp))⟩
  · go_enter Try.func50, Try.ntmps50
    go_wp2_with fail
    exact bodyPost_ret (results_look rfl rfl HL.out) rfl ⟨rfl, (below_one w _).trans ((below_one _ _).mono (by simp))⟩
theorem set4 {V : World} {b : Nat} {d : Cp} (h : V.heap[b]? = some (cO d)) (c : Cp) : ((((V.setCell ⟨b, 0, none⟩ (i64 c.env)).setCell ⟨b, 1, none⟩ (i64 c.kind)).setCell ⟨b, 2, none⟩ (i64 c.num)).setCell ⟨b, 3, none⟩ (i64 c.rts)).heap[b]? = some (cO c) := by
  have h1 := heap_setCell_same V b 0 _ 108 (i64 c.env) h
  have h2 := heap_setCell_same _ b 1 _ 108 (i64 c.kind) h1
  have h3 := heap_setCell_same _ b 2 _ 108 (i64 c.num) h2
  have h4 := heap_setCell_same _ b 3 _ 108 (i64 c.rts) h3
  simpa using h4
theorem bel4 {w V : World} {B b : Nat} (h : Below B w V) (hb : B ≤ b) (c : Cp) : Below B w ((((V.setCell ⟨b, 0, none⟩ (i64 c.env)).setCell ⟨b, 1, none⟩ (i64 c.kind)).setCell ⟨b, 2, none⟩ (i64 c.num)).setCell ⟨b, 3, none⟩ (i64 c.rts)) :=
  (((h.setCell hb _).setCell hb _).setCell hb _).setCell hb _
set_option maxRecDepth 100000 in
set_option maxHeartbeats 1600000 in
theorem look_free {w : World} {base b : Nat} {T : List Pl} (h : Tb w base b T) (env gn : Int) (sl : Nat) (p : Pl) (hp : T[sl]? = some p) (hf : p.c = zC) : Calls Try.prog 50 #[.pointer (some ⟨b, 0, none⟩), i64 env, .agg #[i64 (sl : Nat), i64 gn]] w fun e w' => e = .returned (.tuple #[zC.v, i64 90]) ∧ Below w.heap.size w w' := by
  have hs : sl < 128 := by have := (List.getElem?_eq_some_iff.1 hp).1; have := h.len; omega
  have hsI : (sl : Int) < 128 := by omega
  have hbl := blk_lt h.row
  have HT : Hid (∀ V, Below w.heap.size w V → Tb V base b T) := fun V hV => h.below hV
  have hC : ∀ V, Below w.heap.size w V → Calls Try.prog 73 #[.pointer (some ⟨b, sl * 6, none⟩)] V fun e w' => e = .returned (.bool true) ∧ w' = V := fun V hV => by
    have := free_ok V b (sl * 6) p.c ((HT.out V hV).cell hp 0 (by omega)) ((HT.out V hV).cell hp 1 (by omega)) ((HT.out V hV).cell hp 2 (by omega)) ((HT.out V hV).cell hp 3 (by omega))
    rw [decide_eq_true hf] at this
    exact this
  have HC := hid hC
  have HB2 : Hid (Below w.heap.size w ((w.alloc (hO (sl : Nat) gn)).alloc (cO zC))) := (below_one w _).trans ((below_one _ _).mono (by simp))
  clear h hC
  go_enter Try.func50, Try.ntmps50
  go_upto_region 3 with fail
  go_quiet (fail)
  go_upto_region 4 with fail
  have HBV : Hid (Below w.heap.size w (((w.alloc (.cells #[i64 (sl : Nat), i64 gn] 43)).alloc (.cells #[i64 0, i64 0, i64 0, i64 0] 108)).drewN nq)) := below_drewN HB2.out nq
  have HK : Hid ((((w.alloc (.cells #[i64 (sl : Nat), i64 gn] 43)).alloc (.cells #[i64 0, i64 0, i64 0, i64 0] 108)).drewN nq).heap[w.heap.size + 1]? = some (cO zC)) := two_heap w _ zC
  have g1 : (((w.alloc (.cells #[i64 (sl : Nat), i64 gn] 43)).alloc (.cells #[i64 0, i64 0, i64 0, i64 0] 108)).drewN nq).cell? ⟨w.heap.size, 1, none⟩ = some (i64 gn) := by go_simp
  generalize ((w.alloc (.cells #[i64 (sl : Nat), i64 gn] 43)).alloc (.cells #[i64 0, i64 0, i64 0, i64 0] 108)).drewN nq = V at *
  have HFZ : ∀ j, V.frozen? ⟨w.heap.size + 1, j, none⟩ = false := blk_frozen HK.out
  have k0 : V.cell? ⟨w.heap.size + 1, 0, none⟩ = some (i64 0) := blk_cell HK.out 0
  have k1 : V.cell? ⟨w.heap.size + 1, 1, none⟩ = some (i64 0) := blk_cell HK.out 1
  have k2 : V.cell? ⟨w.heap.size + 1, 2, none⟩ = some (i64 0) := blk_cell HK.out 2
  have k3 : V.cell? ⟨w.heap.size + 1, 3, none⟩ = some (i64 0) := blk_cell HK.out 3
  have t0 : V.cell? ⟨b, sl * 6, none⟩ = some (i64 p.c.env) := (HT.out V HBV.out).cell hp 0 (by omega)
  have t1 : V.cell? ⟨b, sl * 6 + 1, none⟩ = some (i64 p.c.kind) := (HT.out V HBV.out).cell hp 1 (by omega)
  have t2 : V.cell? ⟨b, sl * 6 + 2, none⟩ = some (i64 p.c.num) := (HT.out V HBV.out).cell hp 2 (by omega)
  have t3 : V.cell? ⟨b, sl * 6 + 3, none⟩ = some (i64 p.c.rts) := (HT.out V HBV.out).cell hp 3 (by omega)
  have t5 : V.cell? ⟨b, sl * 6 + 5, none⟩ = some (i64 p.gen) := (HT.out V HBV.out).cell hp 5 (by omega)
  go_quiet ((go_at_call 73; exact Calls.quiet_of_same (HC.out _ (below_drewN HBV.out _))))
  go_wp2_with fail
  exact bodyPost_ret (results_look rfl rfl (load36 (set4 (V := V.drewN nq) HK.out zC))) rfl ⟨rfl, bel4 (V := V.drewN nq) (below_drewN HBV.out nq) (by omega) zC⟩
set_option maxRecDepth 100000 in
set_option maxHeartbeats 1600000 in
theorem look_gen {w : World} {base b : Nat} {T : List Pl} (h : Tb w base b T) (env gn : Int) (sl : Nat) (p : Pl) (hp : T[sl]? = some p) (hf : ¬ p.c = zC) (hg : ¬ p.gen = gn) : Calls Try.prog 50 #[.pointer (some ⟨b, 0, none⟩), i64 env, .agg #[i64 (sl : Nat), i64 gn]] w fun e w' => e = .returned (.tuple #[zC.v, i64 90]) ∧ Below w.heap.size w w' := by
  have hs : sl < 128 := by have := (List.getElem?_eq_some_iff.1 hp).1; have := h.len; omega
  have hsI : (sl : Int) < 128 := by omega
  have hbl := blk_lt h.row
  have HT : Hid (∀ V, Below w.heap.size w V → Tb V base b T) := fun V hV => h.below hV
  have hC : ∀ V, Below w.heap.size w V → Calls Try.prog 73 #[.pointer (some ⟨b, sl * 6, none⟩)] V fun e w' => e = .returned (.bool false) ∧ w' = V := fun V hV => by
    have := free_ok V b (sl * 6) p.c ((HT.out V hV).cell hp 0 (by omega)) ((HT.out V hV).cell hp 1 (by omega)) ((HT.out V hV).cell hp 2 (by omega)) ((HT.out V hV).cell hp 3 (by omega))
    rw [decide_eq_false hf] at this
    exact this
  have HC := hid hC
  have HB2 : Hid (Below w.heap.size w ((w.alloc (hO (sl : Nat) gn)).alloc (cO zC))) := (below_one w _).trans ((below_one _ _).mono (by simp))
  clear h hC
  go_enter Try.func50, Try.ntmps50
  go_upto_region 3 with fail
  go_quiet (fail)
  go_upto_region 4 with fail
  have HBV : Hid (Below w.heap.size w (((w.alloc (.cells #[i64 (sl : Nat), i64 gn] 43)).alloc (.cells #[i64 0, i64 0, i64 0, i64 0] 108)).drewN nq)) := below_drewN HB2.out nq
  have HK : Hid ((((w.alloc (.cells #[i64 (sl : Nat), i64 gn] 43)).alloc (.cells #[i64 0, i64 0, i64 0, i64 0] 108)).drewN nq).heap[w.heap.size + 1]? = some (cO zC)) := two_heap w _ zC
  have g1 : (((w.alloc (.cells #[i64 (sl : Nat), i64 gn] 43)).alloc (.cells #[i64 0, i64 0, i64 0, i64 0] 108)).drewN nq).cell? ⟨w.heap.size, 1, none⟩ = some (i64 gn) := by go_simp
  generalize ((w.alloc (.cells #[i64 (sl : Nat), i64 gn] 43)).alloc (.cells #[i64 0, i64 0, i64 0, i64 0] 108)).drewN nq = V at *
  have HFZ : ∀ j, V.frozen? ⟨w.heap.size + 1, j, none⟩ = false := blk_frozen HK.out
  have k0 : V.cell? ⟨w.heap.size + 1, 0, none⟩ = some (i64 0) := blk_cell HK.out 0
  have k1 : V.cell? ⟨w.heap.size + 1, 1, none⟩ = some (i64 0) := blk_cell HK.out 1
  have k2 : V.cell? ⟨w.heap.size + 1, 2, none⟩ = some (i64 0) := blk_cell HK.out 2
  have k3 : V.cell? ⟨w.heap.size + 1, 3, none⟩ = some (i64 0) := blk_cell HK.out 3
  have t0 : V.cell? ⟨b, sl * 6, none⟩ = some (i64 p.c.env) := (HT.out V HBV.out).cell hp 0 (by omega)
  have t1 : V.cell? ⟨b, sl * 6 + 1, none⟩ = some (i64 p.c.kind) := (HT.out V HBV.out).cell hp 1 (by omega)
  have t2 : V.cell? ⟨b, sl * 6 + 2, none⟩ = some (i64 p.c.num) := (HT.out V HBV.out).cell hp 2 (by omega)
  have t3 : V.cell? ⟨b, sl * 6 + 3, none⟩ = some (i64 p.c.rts) := (HT.out V HBV.out).cell hp 3 (by omega)
  have t5 : V.cell? ⟨b, sl * 6 + 5, none⟩ = some (i64 p.gen) := (HT.out V HBV.out).cell hp 5 (by omega)
  go_quiet ((go_at_call 73; exact Calls.quiet_of_same (HC.out _ (below_drewN HBV.out _))))
  go_wp2_with fail
  exact bodyPost_ret (results_look rfl rfl (load36 (set4 (V := V.drewN nq) HK.out zC))) rfl ⟨rfl, bel4 (V := V.drewN nq) (below_drewN HBV.out nq) (by omega) zC⟩
set_option maxRecDepth 100000 in
set_option maxHeartbeats 1600000 in
theorem look_env {w : World} {base b : Nat} {T : List Pl} (h : Tb w base b T) (env gn : Int) (sl : Nat) (p : Pl) (hp : T[sl]? = some p) (hf : ¬ p.c = zC) (hg : p.gen = gn) (he : ¬ p.c.env = env) : Calls Try.prog 50 #[.pointer (some ⟨b, 0, none⟩), i64 env, .agg #[i64 (sl : Nat), i64 gn]] w fun e w' => e = .returned (.tuple #[zC.v, i64 90]) ∧ Below w.heap.size w w' := by
  have hs : sl < 128 := by have := (List.getElem?_eq_some_iff.1 hp).1; have := h.len; omega
  have hsI : (sl : Int) < 128 := by omega
  have hbl := blk_lt h.row
  have HT : Hid (∀ V, Below w.heap.size w V → Tb V base b T) := fun V hV => h.below hV
  have hC : ∀ V, Below w.heap.size w V → Calls Try.prog 73 #[.pointer (some ⟨b, sl * 6, none⟩)] V fun e w' => e = .returned (.bool false) ∧ w' = V := fun V hV => by
    have := free_ok V b (sl * 6) p.c ((HT.out V hV).cell hp 0 (by omega)) ((HT.out V hV).cell hp 1 (by omega)) ((HT.out V hV).cell hp 2 (by omega)) ((HT.out V hV).cell hp 3 (by omega))
    rw [decide_eq_false hf] at this
    exact this
  have HC := hid hC
  have HB2 : Hid (Below w.heap.size w ((w.alloc (hO (sl : Nat) gn)).alloc (cO zC))) := (below_one w _).trans ((below_one _ _).mono (by simp))
  clear h hC
  go_enter Try.func50, Try.ntmps50
  go_upto_region 3 with fail
  go_quiet (fail)
  go_upto_region 4 with fail
  have HBV : Hid (Below w.heap.size w (((w.alloc (.cells #[i64 (sl : Nat), i64 gn] 43)).alloc (.cells #[i64 0, i64 0, i64 0, i64 0] 108)).drewN nq)) := below_drewN HB2.out nq
  have HK : Hid ((((w.alloc (.cells #[i64 (sl : Nat), i64 gn] 43)).alloc (.cells #[i64 0, i64 0, i64 0, i64 0] 108)).drewN nq).heap[w.heap.size + 1]? = some (cO zC)) := two_heap w _ zC
  have g1 : (((w.alloc (.cells #[i64 (sl : Nat), i64 gn] 43)).alloc (.cells #[i64 0, i64 0, i64 0, i64 0] 108)).drewN nq).cell? ⟨w.heap.size, 1, none⟩ = some (i64 gn) := by go_simp
  generalize ((w.alloc (.cells #[i64 (sl : Nat), i64 gn] 43)).alloc (.cells #[i64 0, i64 0, i64 0, i64 0] 108)).drewN nq = V at *
  have HFZ : ∀ j, V.frozen? ⟨w.heap.size + 1, j, none⟩ = false := blk_frozen HK.out
  have k0 : V.cell? ⟨w.heap.size + 1, 0, none⟩ = some (i64 0) := blk_cell HK.out 0
  have k1 : V.cell? ⟨w.heap.size + 1, 1, none⟩ = some (i64 0) := blk_cell HK.out 1
  have k2 : V.cell? ⟨w.heap.size + 1, 2, none⟩ = some (i64 0) := blk_cell HK.out 2
  have k3 : V.cell? ⟨w.heap.size + 1, 3, none⟩ = some (i64 0) := blk_cell HK.out 3
  have t0 : V.cell? ⟨b, sl * 6, none⟩ = some (i64 p.c.env) := (HT.out V HBV.out).cell hp 0 (by omega)
  have t1 : V.cell? ⟨b, sl * 6 + 1, none⟩ = some (i64 p.c.kind) := (HT.out V HBV.out).cell hp 1 (by omega)
  have t2 : V.cell? ⟨b, sl * 6 + 2, none⟩ = some (i64 p.c.num) := (HT.out V HBV.out).cell hp 2 (by omega)
  have t3 : V.cell? ⟨b, sl * 6 + 3, none⟩ = some (i64 p.c.rts) := (HT.out V HBV.out).cell hp 3 (by omega)
  have t5 : V.cell? ⟨b, sl * 6 + 5, none⟩ = some (i64 p.gen) := (HT.out V HBV.out).cell hp 5 (by omega)
  go_quiet ((go_at_call 73; exact Calls.quiet_of_same (HC.out _ (below_drewN HBV.out _))))
  go_wp2_with fail
  exact bodyPost_ret (results_look rfl rfl (load36 (set4 (V := V.drewN nq) HK.out zC))) rfl ⟨rfl, bel4 (V := V.drewN nq) (below_drewN HBV.out nq) (by omega) zC⟩
set_option maxRecDepth 100000 in
set_option maxHeartbeats 1600000 in
theorem look_ok {w : World} {base b : Nat} {T : List Pl} (h : Tb w base b T) (env gn : Int) (sl : Nat) (p : Pl) (hp : T[sl]? = some p) (hf : ¬ p.c = zC) (hg : p.gen = gn) (he : p.c.env = env) : Calls Try.prog 50 #[.pointer (some ⟨b, 0, none⟩), i64 env, .agg #[i64 (sl : Nat), i64 gn]] w fun e w' => e = .returned (.tuple #[p.c.v, i64 0]) ∧ Below w.heap.size w w' := by
  subst he
  have hs : sl < 128 := by have := (List.getElem?_eq_some_iff.1 hp).1; have := h.len; omega
  have hsI : (sl : Int) < 128 := by omega
  have hbl := blk_lt h.row
  have HT : Hid (∀ V, Below w.heap.size w V → Tb V base b T) := fun V hV => h.below hV
  have hC : ∀ V, Below w.heap.size w V → Calls Try.prog 73 #[.pointer (some ⟨b, sl * 6, none⟩)] V fun e w' => e = .returned (.bool false) ∧ w' = V := fun V hV => by
    have := free_ok V b (sl * 6) p.c ((HT.out V hV).cell hp 0 (by omega)) ((HT.out V hV).cell hp 1 (by omega)) ((HT.out V hV).cell hp 2 (by omega)) ((HT.out V hV).cell hp 3 (by omega))
    rw [decide_eq_false hf] at this
    exact this
  have HC := hid hC
  have HB2 : Hid (Below w.heap.size w ((w.alloc (hO (sl : Nat) gn)).alloc (cO zC))) := (below_one w _).trans ((below_one _ _).mono (by simp))
  clear h hC
  go_enter Try.func50, Try.ntmps50
  go_upto_region 3 with fail
  go_quiet (fail)
  go_upto_region 4 with fail
  have HBV : Hid (Below w.heap.size w (((w.alloc (.cells #[i64 (sl : Nat), i64 gn] 43)).alloc (.cells #[i64 0, i64 0, i64 0, i64 0] 108)).drewN nq)) := below_drewN HB2.out nq
  have HK : Hid ((((w.alloc (.cells #[i64 (sl : Nat), i64 gn] 43)).alloc (.cells #[i64 0, i64 0, i64 0, i64 0] 108)).drewN nq).heap[w.heap.size + 1]? = some (cO zC)) := two_heap w _ zC
  have g1 : (((w.alloc (.cells #[i64 (sl : Nat), i64 gn] 43)).alloc (.cells #[i64 0, i64 0, i64 0, i64 0] 108)).drewN nq).cell? ⟨w.heap.size, 1, none⟩ = some (i64 gn) := by go_simp
  generalize ((w.alloc (.cells #[i64 (sl : Nat), i64 gn] 43)).alloc (.cells #[i64 0, i64 0, i64 0, i64 0] 108)).drewN nq = V at *
  have HFZ : ∀ j, V.frozen? ⟨w.heap.size + 1, j, none⟩ = false := blk_frozen HK.out
  have k0 : V.cell? ⟨w.heap.size + 1, 0, none⟩ = some (i64 0) := blk_cell HK.out 0
  have k1 : V.cell? ⟨w.heap.size + 1, 1, none⟩ = some (i64 0) := blk_cell HK.out 1
  have k2 : V.cell? ⟨w.heap.size + 1, 2, none⟩ = some (i64 0) := blk_cell HK.out 2
  have k3 : V.cell? ⟨w.heap.size + 1, 3, none⟩ = some (i64 0) := blk_cell HK.out 3
  have t0 : V.cell? ⟨b, sl * 6, none⟩ = some (i64 p.c.env) := (HT.out V HBV.out).cell hp 0 (by omega)
  have t1 : V.cell? ⟨b, sl * 6 + 1, none⟩ = some (i64 p.c.kind) := (HT.out V HBV.out).cell hp 1 (by omega)
  have t2 : V.cell? ⟨b, sl * 6 + 2, none⟩ = some (i64 p.c.num) := (HT.out V HBV.out).cell hp 2 (by omega)
  have t3 : V.cell? ⟨b, sl * 6 + 3, none⟩ = some (i64 p.c.rts) := (HT.out V HBV.out).cell hp 3 (by omega)
  have t5 : V.cell? ⟨b, sl * 6 + 5, none⟩ = some (i64 p.gen) := (HT.out V HBV.out).cell hp 5 (by omega)
  go_quiet ((go_at_call 73; exact Calls.quiet_of_same (HC.out _ (below_drewN HBV.out _))))
  go_wp2_with fail
  exact bodyPost_ret (results_look rfl rfl (load36 (set4 (V := V.drewN nq) HK.out p.c))) rfl ⟨rfl, bel4 (V := V.drewN nq) (below_drewN HBV.out nq) (by omega) p.c⟩
end Go.Proofs.Ytnknhencobhjdaa.Cp
