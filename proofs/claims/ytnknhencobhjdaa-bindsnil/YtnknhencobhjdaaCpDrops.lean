/- caps.Drop, Revoke, DropEnv: contracts; no statement is proved in this text. -/
import Derived.Test.YtnknhencobhjdaaCpDrop
namespace Go.Proofs.Ytnknhencobhjdaa.Cp
open Go.ChangeShapes Go.WideShapes Go.ChangeAt Go.RowKit Go.Deep
attribute [local go_sem ↓] Go.wp_at_zero Go.wp_at_succ

def mDrop (sl : Int) (s : Nat) : Bool := decide ((s : Int) = sl)
def mRev (T : List Pl) (sl : Int) (s : Nat) : Bool := decide (frA T s = sl)
def enA (T : List Pl) (s : Nat) : Int := match T[s]? with
  | some p => p.c.env
  | none => 0
def mEnv (T : List Pl) (env : Int) (s : Nat) : Bool := decide (enA T s = env)
theorem means42 {W : World} {T : List Pl} {q : Nat} {sl : Int} (hq : W.cell? ⟨q, 0, none⟩ = some (i64 sl)) : Means W T (mDrop sl) 81 [pq q] := fun n s _ _ =>
  (cl42_ok (W.drewN n) q s sl hq).mono fun _ _ ⟨h1, h2⟩ => ⟨h1, n, h2⟩
theorem means43 {W : World} {base b : Nat} {T : List Pl} (h : Tb W base b T) {q0 q : Nat} {sl : Int} (h0 : W.cell? ⟨q0, 0, none⟩ = some (pq b)) (hq : W.cell? ⟨q, 0, none⟩ = some (i64 sl)) : Means W T (mRev T sl) 89 [pq q0, pq q] := fun n s p hp =>
  (cl43_ok (h.drewN n) q0 q sl s p hp h0 hq).mono fun _ _ ⟨h1, k, h2⟩ => ⟨by rw [h1, mRev, frA, hp], n + k, by rw [h2, drewN_drewN]⟩
theorem means44 {W : World} {base b : Nat} {T : List Pl} (h : Tb W base b T) {q0 q : Nat} {env : Int} (h0 : W.cell? ⟨q0, 0, none⟩ = some (pq b)) (hq : W.cell? ⟨q, 0, none⟩ = some (i64 env)) : Means W T (mEnv T env) 85 [pq q0, pq q] := fun n s p hp =>
  (cl44_ok (h.drewN n) q0 q env s p hp h0 hq).mono fun _ _ ⟨h1, k, h2⟩ => ⟨by rw [h1, mEnv, enA, hp], n + k, by rw [h2, drewN_drewN]⟩
set_option maxRecDepth 100000 in
set_option maxHeartbeats 3200000 in
theorem drop_stale (w : World) (v0 : Value) (env sl gn : Int) (hl : Looks w v0 env sl gn zC 90) : Calls Try.prog 54 #[v0, i64 env, .agg #[i64 sl, i64 gn]] w fun e w' => e = .returned (.tuple #[i64 0, i64 90]) ∧ Below w.heap.size w w' := by
  have HL : Hid (Looks w v0 env sl gn zC 90) := hl
  have HB0 : Hid (Below w.heap.size w (w.alloc (.cells #[i64 sl, i64 gn] 43))) := below_one w _
  clear hl
  go_enter Try.func54, Try.ntmps54
  go_wp2_with fail
  refine (HL.out _ HB0.out).mono ?_
  rintro e w1 ⟨rfl, hb1⟩
  have HB1 : Hid (∀ o, Below w.heap.size w (w1.alloc o)) := fun o => (HB0.out.trans (hb1.mono HB0.out.size)).alloc (HB0.out.trans (hb1.mono HB0.out.size)).size o
  clear hb1
  unfold Cp.v zC
  go_wp2_with fail
  go_ret2
  exact ⟨rfl, HB1.out _⟩
set_option maxRecDepth 100000 in
set_option maxHeartbeats 3200000 in
theorem revoke_stale (w : World) (ov : Option Addr) (env sl gn : Int) (hl : Looks w (.pointer ov) env sl gn zC 90) : Calls Try.prog 63 #[.pointer ov, i64 env, .agg #[i64 sl, i64 gn]] w fun e w' => e = .returned (.tuple #[i64 0, i64 90]) ∧ Below w.heap.size w w' := by
  have HL : Hid (Looks w (.pointer ov) env sl gn zC 90) := hl
  have HB0 : Hid (Below w.heap.size w ((w.alloc (.cells #[.pointer ov] 66)).alloc (.cells #[i64 sl, i64 gn] 43))) := (below_one w _).trans ((below_one _ _).mono (by simp))
  clear hl
  go_enter Try.func63, Try.ntmps63
  go_wp2_with fail
  refine (HL.out _ HB0.out).mono ?_
  rintro e w1 ⟨rfl, hb1⟩
  have HB1 : Hid (∀ o, Below w.heap.size w (w1.alloc o)) := fun o => (HB0.out.trans (hb1.mono HB0.out.size)).alloc (HB0.out.trans (hb1.mono HB0.out.size)).size o
  clear hb1
  unfold Cp.v zC
  go_wp2_with fail
  go_ret2
  exact ⟨rfl, HB1.out _⟩
set_option maxRecDepth 100000 in
set_option maxHeartbeats 3200000 in
theorem dropEnv_nil (w : World) (env : Int) : Calls Try.prog 60 #[.pointer none, i64 env] w fun e w' => e = .returned (i64 0) ∧ Below w.heap.size w w' := by
  have HB0 : Hid (Below w.heap.size w ((w.alloc (.cells #[.pointer none] 66)).alloc (.cells #[i64 env] 3))) := (below_one w _).trans ((below_one _ _).mono (by simp))
  go_enter Try.func60, Try.ntmps60
  go_wp2_with fail
  go_ret
  exact ⟨rfl, HB0.out⟩
set_option maxRecDepth 100000 in
set_option maxHeartbeats 3200000 in
theorem drop_ok {w : World} {base b : Nat} {T : List Pl} (h : Tb w base b T) (env sl gn : Int) (c : Cp) (hl : Looks w (pq b) env sl gn c 0) (rk : Nat → Nat) (hr : Rk T rk) (N : Nat) (hN : ∀ s, rk s + 2 ≤ N) : Calls Try.prog 54 #[pq b, i64 env, .agg #[i64 sl, i64 gn]] w fun e w' => e = .returned (.tuple #[i64 (gnL T (mDrop sl) N 128).length, i64 0]) ∧ Tb w' base b (clr T (gnL T (mDrop sl) N 128)) ∧ Touch b w w' := by
  have HL : Hid (Looks w (pq b) env sl gn c 0) := hl
  have HB0 : Hid (Below w.heap.size w (w.alloc (.cells #[i64 sl, i64 gn] 43))) := below_one w _
  have HQ0 : Hid ((w.alloc (.cells #[i64 sl, i64 gn] 43)).heap[w.heap.size]? = some (hO sl gn)) := heap_last w _
  have HD : Hid (∀ W, Below w.heap.size w W → W.heap[w.heap.size]? = some (hO sl gn) → Calls Try.prog 80 #[pq b, .func (.func 81) #[] #[pq w.heap.size]] W fun e w' => e = .returned (i64 (gnL T (mDrop sl) N 128).length) ∧ Tb w' base b (clr T (gnL T (mDrop sl) N 128)) ∧ Touch b W w') := fun W hW hq =>
    dropAll42 (h.below hW) w.heap.size (mDrop sl) (fun W' hW' => means42 (by rw [blk_cell (blk_below hq hW')]; rfl)) rk hr N hN
  clear hl h hr hN
  go_enter Try.func54, Try.ntmps54
  go_wp2_with fail
  refine (HL.out _ HB0.out).mono ?_
  rintro e w1 ⟨rfl, hb1⟩
  have HB1 : Hid (∀ o, Below w.heap.size w (w1.alloc o)) := fun o => (HB0.out.trans (hb1.mono HB0.out.size)).alloc (HB0.out.trans (hb1.mono HB0.out.size)).size o
  have HQ1 : Hid (∀ o, (w1.alloc o).heap[w.heap.size]? = some (hO sl gn)) := fun o => blk_alloc (blk_below HQ0.out hb1) o
  clear hb1
  unfold Cp.v
  go_wp2_with fail
  refine (HD.out _ (HB1.out _) (HQ1.out _)).mono ?_
  rintro e w2 ⟨rfl, ht, hto⟩
  have HT2 := hid ht
  have HTo : Hid (Touch b w w2) := (Touch.of_below (HB1.out _)).trans hto
  clear ht hto
  go_wp2_with fail
  go_ret2
  exact ⟨rfl, HT2.out, HTo.out⟩
set_option maxRecDepth 100000 in
set_option maxHeartbeats 3200000 in
theorem revoke_ok {w : World} {base b : Nat} {T : List Pl} (h : Tb w base b T) (env sl gn : Int) (c : Cp) (hl : Looks w (pq b) env sl gn c 0) (rk : Nat → Nat) (hr : Rk T rk) (N : Nat) (hN : ∀ s, rk s + 2 ≤ N) : Calls Try.prog 63 #[pq b, i64 env, .agg #[i64 sl, i64 gn]] w fun e w' => e = .returned (.tuple #[i64 (gnL T (mRev T sl) N 128).length, i64 0]) ∧ Tb w' base b (clr T (gnL T (mRev T sl) N 128)) ∧ Touch b w w' := by
  have HL : Hid (Looks w (pq b) env sl gn c 0) := hl
  have HB0 : Hid (Below w.heap.size w ((w.alloc (.cells #[pq b] 66)).alloc (.cells #[i64 sl, i64 gn] 43))) := (below_one w _).trans ((below_one _ _).mono (by simp))
  have HQ0 : Hid (((w.alloc (.cells #[pq b] 66)).alloc (.cells #[i64 sl, i64 gn] 43)).heap[w.heap.size + 1]? = some (hO sl gn)) := by
    have := heap_last (w.alloc (.cells #[pq b] 66)) (hO sl gn)
    rwa [show (w.alloc (.cells #[pq b] 66)).heap.size = w.heap.size + 1 by simp] at this
  have HP0 : Hid (((w.alloc (.cells #[pq b] 66)).alloc (.cells #[i64 sl, i64 gn] 43)).heap[w.heap.size]? = some (.cells #[pq b] 66)) := blk_alloc (heap_last w _) _
  have HD : Hid (∀ W, Below w.heap.size w W → W.heap[w.heap.size + 1]? = some (hO sl gn) → W.heap[w.heap.size]? = some (.cells #[pq b] 66) → Calls Try.prog 80 #[pq b, .func (.func 89) #[] #[pq w.heap.size, pq (w.heap.size + 1)]] W fun e w' => e = .returned (i64 (gnL T (mRev T sl) N 128).length) ∧ Tb w' base b (clr T (gnL T (mRev T sl) N 128)) ∧ Touch b W w') := fun W hW hq hp =>
    dropAll43 (h.below hW) w.heap.size (w.heap.size + 1) (mRev T sl) (fun W' hW' => means43 ((h.below hW).below hW') (by rw [blk_cell (blk_below hp hW')]; rfl) (by rw [blk_cell (blk_below hq hW')]; rfl)) rk hr N hN
  clear hl h hr hN
  go_enter Try.func63, Try.ntmps63
  go_wp2_with fail
  refine (HL.out _ HB0.out).mono ?_
  rintro e w1 ⟨rfl, hb1⟩
  have HB1 : Hid (∀ o, Below w.heap.size w (w1.alloc o)) := fun o => (HB0.out.trans (hb1.mono HB0.out.size)).alloc (HB0.out.trans (hb1.mono HB0.out.size)).size o
  have HQ1 : Hid (∀ o, (w1.alloc o).heap[w.heap.size + 1]? = some (hO sl gn)) := fun o => blk_alloc (blk_below HQ0.out hb1) o
  have HP1 : Hid (∀ o, (w1.alloc o).heap[w.heap.size]? = some (.cells #[pq b] 66)) := fun o => blk_alloc (blk_below HP0.out hb1) o
  clear hb1
  unfold Cp.v
  go_upto_region 4 with fail
  have p0 : (w1.alloc (cO c)).cell? ⟨w.heap.size, 0, none⟩ = some (pq b) := blk_cell (HP1.out _) 0
  unfold cO at p0
  go_wp2_with fail
  refine (HD.out _ (HB1.out _) (HQ1.out _) (HP1.out _)).mono ?_
  rintro e w2 ⟨rfl, ht, hto⟩
  have HT2 := hid ht
  have HTo : Hid (Touch b w w2) := (Touch.of_below (HB1.out _)).trans hto
  clear ht hto p0
  go_wp2_with fail
  go_ret2
  exact ⟨rfl, HT2.out, HTo.out⟩
set_option maxRecDepth 100000 in
set_option maxHeartbeats 3200000 in
theorem dropEnv_ok {w : World} {base b : Nat} {T : List Pl} (h : Tb w base b T) (env : Int) (rk : Nat → Nat) (hr : Rk T rk) (N : Nat) (hN : ∀ s, rk s + 2 ≤ N) : Calls Try.prog 60 #[pq b, i64 env] w fun e w' => e = .returned (i64 (gnL T (mEnv T env) N 128).length) ∧ Tb w' base b (clr T (gnL T (mEnv T env) N 128)) ∧ Touch b w w' := by
  have HB0 : Hid (Below w.heap.size w ((w.alloc (.cells #[pq b] 66)).alloc (.cells #[i64 env] 3))) := (below_one w _).trans ((below_one _ _).mono (by simp))
  have HQ0 : Hid (((w.alloc (.cells #[pq b] 66)).alloc (.cells #[i64 env] 3)).heap[w.heap.size + 1]? = some (.cells #[i64 env] 3)) := by
    have := heap_last (w.alloc (.cells #[pq b] 66)) (.cells #[i64 env] 3)
    rwa [show (w.alloc (.cells #[pq b] 66)).heap.size = w.heap.size + 1 by simp] at this
  have HP0 : Hid (((w.alloc (.cells #[pq b] 66)).alloc (.cells #[i64 env] 3)).heap[w.heap.size]? = some (.cells #[pq b] 66)) := blk_alloc (heap_last w _) _
  have HD : Hid (∀ W, Below w.heap.size w W → W.heap[w.heap.size + 1]? = some (.cells #[i64 env] 3) → W.heap[w.heap.size]? = some (.cells #[pq b] 66) → Calls Try.prog 80 #[pq b, .func (.func 85) #[] #[pq w.heap.size, pq (w.heap.size + 1)]] W fun e w' => e = .returned (i64 (gnL T (mEnv T env) N 128).length) ∧ Tb w' base b (clr T (gnL T (mEnv T env) N 128)) ∧ Touch b W w') := fun W hW hq hp =>
    dropAll44 (h.below hW) w.heap.size (w.heap.size + 1) (mEnv T env) (fun W' hW' => means44 ((h.below hW).below hW') (by rw [blk_cell (blk_below hp hW')]; rfl) (by rw [blk_cell (blk_below hq hW')]; rfl)) rk hr N hN
  clear h hr hN
  go_enter Try.func60, Try.ntmps60
  go_wp2_with fail
  refine (HD.out _ HB0.out HQ0.out HP0.out).mono ?_
  rintro e w2 ⟨rfl, ht, hto⟩
  have HT2 := hid ht
  have HTo : Hid (Touch b w w2) := (Touch.of_below HB0.out).trans hto
  clear ht hto
  go_wp2_with fail
  go_ret
  exact ⟨rfl, HT2.out, HTo.out⟩
end Go.Proofs.Ytnknhencobhjdaa.Cp
