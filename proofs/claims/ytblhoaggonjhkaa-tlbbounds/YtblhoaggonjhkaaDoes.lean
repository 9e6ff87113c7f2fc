/- imagolaw04's 'ref' and 'does': both buffers do a step alike: its contract; no statement is proved in this text. -/
import Derived.Test.YtblhoaggonjhkaaRef3
import Derived.Test.YtblhoaggonjhkaaNil
namespace Go.Proofs.Ytblhoaggonjhkaa
open Go.ChangeShapes Go.WideShapes Go.ChangeAt Go.RowKit Go.Deep

set_option maxRecDepth 100000 in
set_option maxHeartbeats 1000000 in
theorem ref_ok (w : World) (k : K3) (e : En) : Calls Try.prog 14 #[keyV k, entV e] w fun e' w' => e' = .returned (oneV (k, e)) ∧ Below w.heap.size w w' := by
  have hb : Below w.heap.size w (((w.alloc (.cells #[i64 k.env, i64 k.proc, i64 k.page] 31)).alloc (.cells #[i64 e.frame, .bool e.wr] 33)).alloc (.cells (oneA (k, e)) 42)) := (((Below.refl _ _).alloc (Nat.le_refl _) _).alloc (by simp) _).alloc (by simp; omega) _
  have HB : Hid (Below w.heap.size w (((w.alloc (.cells #[i64 k.env, i64 k.proc, i64 k.page] 31)).alloc (.cells #[i64 e.frame, .bool e.wr] 33)).alloc (.cells (oneA (k, e)) 42))) := hb
  clear hb
  go_enter Try.func14, Try.ntmps14
  go_wp2_with fail
  exact bodyPost_ret (v := oneV (k, e)) (by simp [results, Try.results14, go_sem]) rfl ⟨rfl, HB.out⟩

/-- Both buffers, alike. -/
structure Two (w : World) (base p p2 : Nat) (L : Ls) (h m : Nat) : Prop where
  b : Buf w base p L (keysOf L) h m
  r : RBuf w base p2 L h m
  l8 : L.length ≤ 8
  bw : base ≤ w.heap.size
theorem Two.nd {w : World} {base p p2 : Nat} {L : Ls} {h m : Nat} (t : Two w base p p2 L h m) : ND L := t.b.nd
theorem Two.below {w w' : World} {base p p2 : Nat} {L : Ls} {h m : Nat} (t : Two w base p p2 L h m) (hb : Below w.heap.size w w') : Two w' base p p2 L h m :=
  ⟨t.b.below hb, t.r.below hb, t.l8, Nat.le_trans t.bw hb.size⟩
theorem keeps_a (o : Obj) (h : keeps [31, 56] true o = true) : keeps [56] false o = true := by
  cases o with
  | cells C t f => simp [keeps] at h ⊢; exact h.2
  | map es c => simp [keeps] at h
  | _ => rfl
theorem keeps_b (o : Obj) (h : keeps [31, 56] true o = true) : keeps [56] true o = true := by
  cases o with
  | cells C t f => simp [keeps] at h ⊢; exact h.2
  | map es c => simp [keeps] at h
  | _ => rfl
/-- What may have turned of both. -/
abbrev FD (base : Nat) (w w' : World) : Prop := Fr base [31, 56, 29, 42] true w w'
theorem fd_t {base : Nat} {w w' : World} (h : Fr base [31, 56] true w w') : FD base w w' := h.mono (fun o ho => by
  cases o with
  | cells C t f => simp [keeps] at ho ⊢; exact ⟨ho.1, ho.2.1⟩
  | map es c => simp [keeps] at ho
  | _ => rfl)
theorem fd_g {base : Nat} {w w' : World} (h : Fr base [56] false w w') : FD base w w' := fd_t (h.mono keeps_a)
theorem fd_d {base : Nat} {w w' : World} (h : Fr base [56] true w w') : FD base w w' := fd_t (h.mono keeps_b)
theorem fd_r {base : Nat} {w w' : World} (h : Fr base [29, 42] false w w') : FD base w w' := h.mono (fun o ho => by
  cases o with
  | cells C t f => simp [keeps] at ho ⊢; exact ⟨ho.2.2.1, ho.2.2.2⟩
  | map es c => simp [keeps] at ho
  | _ => rfl)
theorem fd_r1 {base : Nat} {w w' : World} (h : Fr base [29] false w w') : FD base w w' := fd_r (h.mono keeps_sub)
theorem fd_below {base : Nat} {w w' : World} (h : Below w.heap.size w w') (hb : base ≤ w.heap.size) : FD base w w' := Fr.of_below _ _ h hb

/-- A step in a box, and its entry. -/
structure Boxd (w : World) (B C : Nat) (s : St) : Prop where
  s : w.heap[B]? = some (.cells s.cells.toArray 35 (0, 0))
theorem keep35 (ts : List TypeId) (mp : Bool) (C : Array Value) (h : ts.contains 35 = false) : keeps ts mp (.cells C 35 (0, 0)) = true := by
  have h' : (!ts.contains 35) = true := by rw [h]; rfl
  exact h'

/-- What a step makes of the list. -/
def nextL (s : St) (L : Ls) : Ls :=
  if s.what = 0 ∨ s.what = 1 ∨ s.what = 2 then putL L s.k s.e else if s.what = 5 then dropF (isKey s.k) L else if s.what = 6 then dropF (isProc s.k.env s.k.proc) L else if s.what = 7 then dropF (isEnv s.k.env) L else if s.what = 8 then dropF (isFrame s.e.frame) L else L
def nextH (s : St) (L : Ls) (h : Nat) : Nat := if (s.what = 3 ∨ s.what = 4) ∧ (look L s.k).isSome = true then h + 1 else h
def nextM (s : St) (L : Ls) (m : Nat) : Nat := if (s.what = 3 ∨ s.what = 4) ∧ (look L s.k).isSome = false then m + 1 else m
abbrev DoesTo (w : World) (base p p2 : Nat) (s : St) (L : Ls) (h m : Nat) : Prop :=
  Calls Try.prog 9 #[.pointer (some ⟨p, 0, none⟩), .pointer (some ⟨p2, 0, none⟩), .agg s.cells.toArray] w fun e w' => e = .returned (.bool true) ∧ FD base w w' ∧ Two w' base p p2 (nextL s L) (nextH s L h) (nextM s L m)


set_option maxRecDepth 100000 in
set_option maxHeartbeats 2000000 in
theorem does_put0 {w : World} {base p p2 : Nat} {L : Ls} {h m : Nat} (t : Two w base p p2 L h m) (k : K3) (e : En) : DoesTo w base p p2 ⟨0, k, e⟩ L h m := by
  have hb0 : Below w.heap.size w (w.alloc (.cells #[i64 0, i64 k.env, i64 k.proc, i64 k.page, i64 e.frame, .bool e.wr] 35)) := (Below.refl _ _).alloc (Nat.le_refl _) _
  have HT0 : Hid (Two w base p p2 L h m) := t
  have HB0 : Hid (Below w.heap.size w (w.alloc (.cells #[i64 0, i64 k.env, i64 k.proc, i64 k.page, i64 e.frame, .bool e.wr] 35))) := hb0
  have HS0 : Hid ((w.alloc (.cells #[i64 0, i64 k.env, i64 k.proc, i64 k.page, i64 e.frame, .bool e.wr] 35)).heap[w.heap.size]? = some (.cells (St.cells ⟨0, k, e⟩).toArray 35 (0, 0))) := heap_last w _
  have hsz : (w.alloc (.cells #[i64 0, i64 k.env, i64 k.proc, i64 k.page, i64 e.frame, .bool e.wr] 35)).heap.size = w.heap.size + 1 := by simp
  have hL8 := t.l8
  clear hb0 t
  unfold DoesTo
  unfold St.cells
  go_enter Try.func9, Try.ntmps9
  go_wp2_with fail
  refine (ref_ok _ k e).mono ?_
  rintro e' w2 ⟨rfl, hb2⟩
  rw [hsz] at hb2
  have hs2 : w.heap.size + 1 ≤ w2.heap.size := by have := hb2.size; rw [hsz] at this; exact this
  have hbX : Below w2.heap.size w2 (w2.alloc (.cells (oneA (k, e)) 42)) := (Below.refl _ _).alloc (Nat.le_refl _) _
  have hbW : Below w.heap.size w (w2.alloc (.cells (oneA (k, e)) 42)) := (HB0.out.trans (hb2.mono (by omega))).trans (hbX.mono (by omega))
  have HT : Hid (Two (w2.alloc (.cells (oneA (k, e)) 42)) base p p2 L h m) := HT0.out.below hbW
  have HF : Hid (FD base w (w2.alloc (.cells (oneA (k, e)) 42))) := fd_below hbW HT0.out.bw
  have hS1 : (w2.alloc (.cells (oneA (k, e)) 42)).heap[w.heap.size]? = some (.cells (St.cells ⟨0, k, e⟩).toArray 35 (0, 0)) := (Below.heap_alloc _ _ _ (by omega)).trans ((hb2.block _ (by omega)).trans HS0.out)
  have HS1 : Hid ((w2.alloc (.cells (oneA (k, e)) 42)).heap[w.heap.size]? = some (.cells (St.cells ⟨0, k, e⟩).toArray 35 (0, 0))) := hS1
  have HX1 : Hid ((w2.alloc (.cells (oneA (k, e)) 42)).heap[w2.heap.size]? = some (.cells (oneA (k, e)) 42 (0, 0))) := heap_last w2 _
  obtain ⟨a0, a1, a2, a3, a4, a5⟩ := six_cells hS1
  obtain ⟨x0, x1, x2, x3, x4⟩ := one_new HX1.out
  simp only [Nat.zero_add] at x1 x2 x3 x4
  clear hb2 hbX hbW hS1
  go_wp2_with fail
  refine (put_ok HT.out.b HT.out.l8 HT.out.bw k e).mono ?_
  rintro e' w3 ⟨rfl, hf3, hb3⟩
  have hr3 := HT.out.r.kept hf3.kept
  obtain ⟨z0, z1, z2, z3, z4⟩ := one_new (hf3.kept _ _ HX1.out (by simp [keeps]))
  simp only [Nat.zero_add] at z1 z2 z3 z4
  have HF3 : Hid (FD base w w3) := HF.out.trans (fd_t hf3)
  have HB3 : Hid (Buf w3 base p (putL L k e) (keysOf (putL L k e)) h m) := hb3
  have HR3 : Hid (RBuf w3 base p2 L h m) := hr3
  have hbw3 : base ≤ w3.heap.size := Nat.le_trans HT.out.bw hf3.size
  clear hf3 hb3 hr3 x0 x1 x2 x3 x4 a0 a1 a2 a3 a4 a5
  go_wp2_with fail
  refine (rput_ok HR3.out hL8 hbw3 HT.out.nd (k, e)).mono ?_
  rintro e' w4 ⟨rfl, hf4, hr4⟩
  have HF4 : Hid (FD base w w4) := HF3.out.trans (fd_r hf4)
  have HTW : Hid (Two w4 base p p2 (putL L k e) h m) := ⟨HB3.out.kept hf4.kept, hr4, putL_len L k e hL8, Nat.le_trans hbw3 hf4.size⟩
  clear hf4 hr4
  go_wp2_with fail
  go_ret
  exact ⟨rfl, HF4.out, by simpa [nextL, nextH, nextM] using HTW.out⟩

set_option maxRecDepth 100000 in
set_option maxHeartbeats 2000000 in
theorem does_put1 {w : World} {base p p2 : Nat} {L : Ls} {h m : Nat} (t : Two w base p p2 L h m) (k : K3) (e : En) : DoesTo w base p p2 ⟨1, k, e⟩ L h m := by
  have hb0 : Below w.heap.size w (w.alloc (.cells #[i64 1, i64 k.env, i64 k.proc, i64 k.page, i64 e.frame, .bool e.wr] 35)) := (Below.refl _ _).alloc (Nat.le_refl _) _
  have HT0 : Hid (Two w base p p2 L h m) := t
  have HB0 : Hid (Below w.heap.size w (w.alloc (.cells #[i64 1, i64 k.env, i64 k.proc, i64 k.page, i64 e.frame, .bool e.wr] 35))) := hb0
  have HS0 : Hid ((w.alloc (.cells #[i64 1, i64 k.env, i64 k.proc, i64 k.page, i64 e.frame, .bool e.wr] 35)).heap[w.heap.size]? = some (.cells (St.cells ⟨1, k, e⟩).toArray 35 (0, 0))) := heap_last w _
  have hsz : (w.alloc (.cells #[i64 1, i64 k.env, i64 k.proc, i64 k.page, i64 e.frame, .bool e.wr] 35)).heap.size = w.heap.size + 1 := by simp
  have hL8 := t.l8
  clear hb0 t
  unfold DoesTo
  unfold St.cells
  go_enter Try.func9, Try.ntmps9
  go_wp2_with fail
  refine (ref_ok _ k e).mono ?_
  rintro e' w2 ⟨rfl, hb2⟩
  rw [hsz] at hb2
  have hs2 : w.heap.size + 1 ≤ w2.heap.size := by have := hb2.size; rw [hsz] at this; exact this
  have hbX : Below w2.heap.size w2 (w2.alloc (.cells (oneA (k, e)) 42)) := (Below.refl _ _).alloc (Nat.le_refl _) _
  have hbW : Below w.heap.size w (w2.alloc (.cells (oneA (k, e)) 42)) := (HB0.out.trans (hb2.mono (by omega))).trans (hbX.mono (by omega))
  have HT : Hid (Two (w2.alloc (.cells (oneA (k, e)) 42)) base p p2 L h m) := HT0.out.below hbW
  have HF : Hid (FD base w (w2.alloc (.cells (oneA (k, e)) 42))) := fd_below hbW HT0.out.bw
  have hS1 : (w2.alloc (.cells (oneA (k, e)) 42)).heap[w.heap.size]? = some (.cells (St.cells ⟨1, k, e⟩).toArray 35 (0, 0)) := (Below.heap_alloc _ _ _ (by omega)).trans ((hb2.block _ (by omega)).trans HS0.out)
  have HS1 : Hid ((w2.alloc (.cells (oneA (k, e)) 42)).heap[w.heap.size]? = some (.cells (St.cells ⟨1, k, e⟩).toArray 35 (0, 0))) := hS1
  have HX1 : Hid ((w2.alloc (.cells (oneA (k, e)) 42)).heap[w2.heap.size]? = some (.cells (oneA (k, e)) 42 (0, 0))) := heap_last w2 _
  obtain ⟨a0, a1, a2, a3, a4, a5⟩ := six_cells hS1
  obtain ⟨x0, x1, x2, x3, x4⟩ := one_new HX1.out
  simp only [Nat.zero_add] at x1 x2 x3 x4
  clear hb2 hbX hbW hS1
  go_wp2_with fail
  refine (put_ok HT.out.b HT.out.l8 HT.out.bw k e).mono ?_
  rintro e' w3 ⟨rfl, hf3, hb3⟩
  have hr3 := HT.out.r.kept hf3.kept
  obtain ⟨z0, z1, z2, z3, z4⟩ := one_new (hf3.kept _ _ HX1.out (by simp [keeps]))
  simp only [Nat.zero_add] at z1 z2 z3 z4
  have HF3 : Hid (FD base w w3) := HF.out.trans (fd_t hf3)
  have HB3 : Hid (Buf w3 base p (putL L k e) (keysOf (putL L k e)) h m) := hb3
  have HR3 : Hid (RBuf w3 base p2 L h m) := hr3
  have hbw3 : base ≤ w3.heap.size := Nat.le_trans HT.out.bw hf3.size
  clear hf3 hb3 hr3 x0 x1 x2 x3 x4 a0 a1 a2 a3 a4 a5
  go_wp2_with fail
  refine (rput_ok HR3.out hL8 hbw3 HT.out.nd (k, e)).mono ?_
  rintro e' w4 ⟨rfl, hf4, hr4⟩
  have HF4 : Hid (FD base w w4) := HF3.out.trans (fd_r hf4)
  have HTW : Hid (Two w4 base p p2 (putL L k e) h m) := ⟨HB3.out.kept hf4.kept, hr4, putL_len L k e hL8, Nat.le_trans hbw3 hf4.size⟩
  clear hf4 hr4
  go_wp2_with fail
  go_ret
  exact ⟨rfl, HF4.out, by simpa [nextL, nextH, nextM] using HTW.out⟩

set_option maxRecDepth 100000 in
set_option maxHeartbeats 2000000 in
theorem does_put2 {w : World} {base p p2 : Nat} {L : Ls} {h m : Nat} (t : Two w base p p2 L h m) (k : K3) (e : En) : DoesTo w base p p2 ⟨2, k, e⟩ L h m := by
  have hb0 : Below w.heap.size w (w.alloc (.cells #[i64 2, i64 k.env, i64 k.proc, i64 k.page, i64 e.frame, .bool e.wr] 35)) := (Below.refl _ _).alloc (Nat.le_refl _) _
  have HT0 : Hid (Two w base p p2 L h m) := t
  have HB0 : Hid (Below w.heap.size w (w.alloc (.cells #[i64 2, i64 k.env, i64 k.proc, i64 k.page, i64 e.frame, .bool e.wr] 35))) := hb0
  have HS0 : Hid ((w.alloc (.cells #[i64 2, i64 k.env, i64 k.proc, i64 k.page, i64 e.frame, .bool e.wr] 35)).heap[w.heap.size]? = some (.cells (St.cells ⟨2, k, e⟩).toArray 35 (0, 0))) := heap_last w _
  have hsz : (w.alloc (.cells #[i64 2, i64 k.env, i64 k.proc, i64 k.page, i64 e.frame, .bool e.wr] 35)).heap.size = w.heap.size + 1 := by simp
  have hL8 := t.l8
  clear hb0 t
  unfold DoesTo
  unfold St.cells
  go_enter Try.func9, Try.ntmps9
  go_wp2_with fail
  refine (ref_ok _ k e).mono ?_
  rintro e' w2 ⟨rfl, hb2⟩
  rw [hsz] at hb2
  have hs2 : w.heap.size + 1 ≤ w2.heap.size := by have := hb2.size; rw [hsz] at this; exact this
  have hbX : Below w2.heap.size w2 (w2.alloc (.cells (oneA (k, e)) 42)) := (Below.refl _ _).alloc (Nat.le_refl _) _
  have hbW : Below w.heap.size w (w2.alloc (.cells (oneA (k, e)) 42)) := (HB0.out.trans (hb2.mono (by omega))).trans (hbX.mono (by omega))
  have HT : Hid (Two (w2.alloc (.cells (oneA (k, e)) 42)) base p p2 L h m) := HT0.out.below hbW
  have HF : Hid (FD base w (w2.alloc (.cells (oneA (k, e)) 42))) := fd_below hbW HT0.out.bw
  have hS1 : (w2.alloc (.cells (oneA (k, e)) 42)).heap[w.heap.size]? = some (.cells (St.cells ⟨2, k, e⟩).toArray 35 (0, 0)) := (Below.heap_alloc _ _ _ (by omega)).trans ((hb2.block _ (by omega)).trans HS0.out)
  have HS1 : Hid ((w2.alloc (.cells (oneA (k, e)) 42)).heap[w.heap.size]? = some (.cells (St.cells ⟨2, k, e⟩).toArray 35 (0, 0))) := hS1
  have HX1 : Hid ((w2.alloc (.cells (oneA (k, e)) 42)).heap[w2.heap.size]? = some (.cells (oneA (k, e)) 42 (0, 0))) := heap_last w2 _
  obtain ⟨a0, a1, a2, a3, a4, a5⟩ := six_cells hS1
  obtain ⟨x0, x1, x2, x3, x4⟩ := one_new HX1.out
  simp only [Nat.zero_add] at x1 x2 x3 x4
  clear hb2 hbX hbW hS1
  go_wp2_with fail
  refine (put_ok HT.out.b HT.out.l8 HT.out.bw k e).mono ?_
  rintro e' w3 ⟨rfl, hf3, hb3⟩
  have hr3 := HT.out.r.kept hf3.kept
  obtain ⟨z0, z1, z2, z3, z4⟩ := one_new (hf3.kept _ _ HX1.out (by simp [keeps]))
  simp only [Nat.zero_add] at z1 z2 z3 z4
  have HF3 : Hid (FD base w w3) := HF.out.trans (fd_t hf3)
  have HB3 : Hid (Buf w3 base p (putL L k e) (keysOf (putL L k e)) h m) := hb3
  have HR3 : Hid (RBuf w3 base p2 L h m) := hr3
  have hbw3 : base ≤ w3.heap.size := Nat.le_trans HT.out.bw hf3.size
  clear hf3 hb3 hr3 x0 x1 x2 x3 x4 a0 a1 a2 a3 a4 a5
  go_wp2_with fail
  refine (rput_ok HR3.out hL8 hbw3 HT.out.nd (k, e)).mono ?_
  rintro e' w4 ⟨rfl, hf4, hr4⟩
  have HF4 : Hid (FD base w w4) := HF3.out.trans (fd_r hf4)
  have HTW : Hid (Two w4 base p p2 (putL L k e) h m) := ⟨HB3.out.kept hf4.kept, hr4, putL_len L k e hL8, Nat.le_trans hbw3 hf4.size⟩
  clear hf4 hr4
  go_wp2_with fail
  go_ret
  exact ⟨rfl, HF4.out, by simpa [nextL, nextH, nextM] using HTW.out⟩

set_option maxRecDepth 100000 in
set_option maxHeartbeats 2000000 in
theorem does_drop5 {w : World} {base p p2 : Nat} {L : Ls} {h m : Nat} (t : Two w base p p2 L h m) (k : K3) (e : En) : DoesTo w base p p2 ⟨5, k, e⟩ L h m := by
  have hb0 : Below w.heap.size w (w.alloc (.cells #[i64 5, i64 k.env, i64 k.proc, i64 k.page, i64 e.frame, .bool e.wr] 35)) := (Below.refl _ _).alloc (Nat.le_refl _) _
  have HT0 : Hid (Two w base p p2 L h m) := t
  have HB0 : Hid (Below w.heap.size w (w.alloc (.cells #[i64 5, i64 k.env, i64 k.proc, i64 k.page, i64 e.frame, .bool e.wr] 35))) := hb0
  have HS0 : Hid ((w.alloc (.cells #[i64 5, i64 k.env, i64 k.proc, i64 k.page, i64 e.frame, .bool e.wr] 35)).heap[w.heap.size]? = some (.cells (St.cells ⟨5, k, e⟩).toArray 35 (0, 0))) := heap_last w _
  have hsz : (w.alloc (.cells #[i64 5, i64 k.env, i64 k.proc, i64 k.page, i64 e.frame, .bool e.wr] 35)).heap.size = w.heap.size + 1 := by simp
  have hL8 := t.l8
  clear hb0 t
  unfold DoesTo
  unfold St.cells
  go_enter Try.func9, Try.ntmps9
  go_wp2_with fail
  refine (ref_ok _ k e).mono ?_
  rintro e' w2 ⟨rfl, hb2⟩
  rw [hsz] at hb2
  have hs2 : w.heap.size + 1 ≤ w2.heap.size := by have := hb2.size; rw [hsz] at this; exact this
  have hbX : Below w2.heap.size w2 (w2.alloc (.cells (oneA (k, e)) 42)) := (Below.refl _ _).alloc (Nat.le_refl _) _
  have hbW : Below w.heap.size w (w2.alloc (.cells (oneA (k, e)) 42)) := (HB0.out.trans (hb2.mono (by omega))).trans (hbX.mono (by omega))
  have HT : Hid (Two (w2.alloc (.cells (oneA (k, e)) 42)) base p p2 L h m) := HT0.out.below hbW
  have HF : Hid (FD base w (w2.alloc (.cells (oneA (k, e)) 42))) := fd_below hbW HT0.out.bw
  have hS1 : (w2.alloc (.cells (oneA (k, e)) 42)).heap[w.heap.size]? = some (.cells (St.cells ⟨5, k, e⟩).toArray 35 (0, 0)) := (Below.heap_alloc _ _ _ (by omega)).trans ((hb2.block _ (by omega)).trans HS0.out)
  have HS1 : Hid ((w2.alloc (.cells (oneA (k, e)) 42)).heap[w.heap.size]? = some (.cells (St.cells ⟨5, k, e⟩).toArray 35 (0, 0))) := hS1
  have HX1 : Hid ((w2.alloc (.cells (oneA (k, e)) 42)).heap[w2.heap.size]? = some (.cells (oneA (k, e)) 42 (0, 0))) := heap_last w2 _
  obtain ⟨a0, a1, a2, a3, a4, a5⟩ := six_cells hS1
  obtain ⟨x0, x1, x2, x3, x4⟩ := one_new HX1.out
  simp only [Nat.zero_add] at x1 x2 x3 x4
  clear hb2 hbX hbW hS1
  have hall : ∀ V : World, V.heap[w.heap.size]? = some (.cells (St.cells ⟨5, k, e⟩).toArray 35 (0, 0)) → V.heap[w2.heap.size]? = some (.cells (oneA (k, e)) 42 (0, 0)) → (V.cell? ⟨w.heap.size, 1, none⟩ = some (i64 k.env) ∧ V.cell? ⟨w.heap.size, 2, none⟩ = some (i64 k.proc) ∧ V.cell? ⟨w.heap.size, 3, none⟩ = some (i64 k.page) ∧ V.cell? ⟨w.heap.size, 4, none⟩ = some (i64 e.frame) ∧ V.cell? ⟨w2.heap.size, 0, none⟩ = some (i64 k.env) ∧ V.cell? ⟨w2.heap.size, 1, none⟩ = some (i64 k.proc) ∧ V.cell? ⟨w2.heap.size, 2, none⟩ = some (i64 k.page) ∧ V.cell? ⟨w2.heap.size, 3, none⟩ = some (i64 e.frame) ∧ V.cell? ⟨w2.heap.size, 4, none⟩ = some (.bool e.wr)) := fun V h1 h2 => by
    obtain ⟨b0, b1, b2, b3, b4, b5⟩ := six_cells h1
    obtain ⟨y0, y1, y2, y3, y4⟩ := one_new h2
    simp only [Nat.zero_add] at y1 y2 y3 y4
    exact ⟨b1, b2, b3, b4, y0, y1, y2, y3, y4⟩
  have HALL : Hid (∀ V : World, V.heap[w.heap.size]? = some (.cells (St.cells ⟨5, k, e⟩).toArray 35 (0, 0)) → V.heap[w2.heap.size]? = some (.cells (oneA (k, e)) 42 (0, 0)) → (V.cell? ⟨w.heap.size, 1, none⟩ = some (i64 k.env) ∧ V.cell? ⟨w.heap.size, 2, none⟩ = some (i64 k.proc) ∧ V.cell? ⟨w.heap.size, 3, none⟩ = some (i64 k.page) ∧ V.cell? ⟨w.heap.size, 4, none⟩ = some (i64 e.frame) ∧ V.cell? ⟨w2.heap.size, 0, none⟩ = some (i64 k.env) ∧ V.cell? ⟨w2.heap.size, 1, none⟩ = some (i64 k.proc) ∧ V.cell? ⟨w2.heap.size, 2, none⟩ = some (i64 k.page) ∧ V.cell? ⟨w2.heap.size, 3, none⟩ = some (i64 e.frame) ∧ V.cell? ⟨w2.heap.size, 4, none⟩ = some (.bool e.wr))) := hall
  have HSD0 : Hid ((w2.alloc (.cells (oneA (k, e)) 42)).drew.cell? ⟨w.heap.size, 1, none⟩ = some (i64 k.env) ∧ (w2.alloc (.cells (oneA (k, e)) 42)).drew.cell? ⟨w.heap.size, 2, none⟩ = some (i64 k.proc) ∧ (w2.alloc (.cells (oneA (k, e)) 42)).drew.cell? ⟨w.heap.size, 3, none⟩ = some (i64 k.page) ∧ (w2.alloc (.cells (oneA (k, e)) 42)).drew.cell? ⟨w.heap.size, 4, none⟩ = some (i64 e.frame) ∧ (w2.alloc (.cells (oneA (k, e)) 42)).drew.cell? ⟨w2.heap.size, 0, none⟩ = some (i64 k.env) ∧ (w2.alloc (.cells (oneA (k, e)) 42)).drew.cell? ⟨w2.heap.size, 1, none⟩ = some (i64 k.proc) ∧ (w2.alloc (.cells (oneA (k, e)) 42)).drew.cell? ⟨w2.heap.size, 2, none⟩ = some (i64 k.page) ∧ (w2.alloc (.cells (oneA (k, e)) 42)).drew.cell? ⟨w2.heap.size, 3, none⟩ = some (i64 e.frame) ∧ (w2.alloc (.cells (oneA (k, e)) 42)).drew.cell? ⟨w2.heap.size, 4, none⟩ = some (.bool e.wr)) := hall (w2.alloc (.cells (oneA (k, e)) 42)).drew HS1.out HX1.out
  have hT1 : Two (w2.alloc (.cells (oneA (k, e)) 42)).drew base p p2 L h m := ⟨HT.out.b.below ⟨rfl, rfl, rfl, Nat.le_refl _, fun _ _ => rfl⟩, HT.out.r.below ⟨rfl, rfl, rfl, Nat.le_refl _, fun _ _ => rfl⟩, hL8, HT.out.bw⟩
  have HT1 : Hid (Two (w2.alloc (.cells (oneA (k, e)) 42)).drew base p p2 L h m) := hT1
  have hD : ∃ D, (L.length : Int) - (dropF (isKey k) L).length = D := ⟨_, rfl⟩
  obtain ⟨D, hD⟩ := hD
  have HCA : Hid (Calls Try.prog 16 #[.pointer (some ⟨p, 0, none⟩), keyV k] (w2.alloc (.cells (oneA (k, e)) 42)).drew fun e' w' => e' = .returned (.bool (decide (0 < D))) ∧ Fr base [56] true (w2.alloc (.cells (oneA (k, e)) 42)).drew w' ∧ BufN (w2.alloc (.cells (oneA (k, e)) 42)).drew.heap.size w' base p (dropF (isKey k) L) h m) := (by rw [← hD]; exact drop_ok hT1.b hL8 hT1.bw k : Calls Try.prog 16 #[.pointer (some ⟨p, 0, none⟩), keyV k] (w2.alloc (.cells (oneA (k, e)) 42)).drew fun e' w' => e' = .returned (.bool (decide (0 < D))) ∧ Fr base [56] true (w2.alloc (.cells (oneA (k, e)) 42)).drew w' ∧ BufN (w2.alloc (.cells (oneA (k, e)) 42)).drew.heap.size w' base p (dropF (isKey k) L) h m)
  have hw : wantF 0 (k, e) = isKey k := rfl
  have HCB : Hid (∀ V, RBuf V base p2 L h m → base ≤ V.heap.size → Calls Try.prog 21 #[.pointer (some ⟨p2, 0, none⟩), .agg #[i64 0, i64 k.env, i64 k.proc, i64 k.page, i64 e.frame, .bool e.wr]] V fun e' w' => e' = .returned (i64 D) ∧ Fr base [29] false V w' ∧ RBuf w' base p2 (dropF (isKey k) L) h m) := fun V hV hb => by
    have := rdrop_ok hV (by omega) hb 0 (k, e) (by simp)
    rw [hw, hD] at this
    exact this
  clear hall hT1 hw
  go_wp2_with fail
  go_region_held (fun w' => (w'.cell? ⟨w.heap.size, 1, none⟩ = some (i64 k.env) ∧ w'.cell? ⟨w.heap.size, 2, none⟩ = some (i64 k.proc) ∧ w'.cell? ⟨w.heap.size, 3, none⟩ = some (i64 k.page) ∧ w'.cell? ⟨w.heap.size, 4, none⟩ = some (i64 e.frame) ∧ w'.cell? ⟨w2.heap.size, 0, none⟩ = some (i64 k.env) ∧ w'.cell? ⟨w2.heap.size, 1, none⟩ = some (i64 k.proc) ∧ w'.cell? ⟨w2.heap.size, 2, none⟩ = some (i64 k.page) ∧ w'.cell? ⟨w2.heap.size, 3, none⟩ = some (i64 e.frame) ∧ w'.cell? ⟨w2.heap.size, 4, none⟩ = some (.bool e.wr))) (first | exact HSD0.out | exact HSD3.out | exact HSD4.out)
    (first
      | (go_at_call 16; refine HCA.out.mono ?_; rintro e' w3 ⟨rfl, hf3, hb3⟩; have HSD3 : Hid (w3.cell? ⟨w.heap.size, 1, none⟩ = some (i64 k.env) ∧ w3.cell? ⟨w.heap.size, 2, none⟩ = some (i64 k.proc) ∧ w3.cell? ⟨w.heap.size, 3, none⟩ = some (i64 k.page) ∧ w3.cell? ⟨w.heap.size, 4, none⟩ = some (i64 e.frame) ∧ w3.cell? ⟨w2.heap.size, 0, none⟩ = some (i64 k.env) ∧ w3.cell? ⟨w2.heap.size, 1, none⟩ = some (i64 k.proc) ∧ w3.cell? ⟨w2.heap.size, 2, none⟩ = some (i64 k.page) ∧ w3.cell? ⟨w2.heap.size, 3, none⟩ = some (i64 e.frame) ∧ w3.cell? ⟨w2.heap.size, 4, none⟩ = some (.bool e.wr)) := HALL.out w3 (hf3.kept _ _ HS1.out (by simp [keeps])) (hf3.kept _ _ HX1.out (by simp [keeps])); have HS3 : Hid (w3.heap[w.heap.size]? = some (.cells (St.cells ⟨5, k, e⟩).toArray 35 (0, 0))) := hf3.kept _ _ HS1.out (by simp [keeps]); have HX3 : Hid (w3.heap[w2.heap.size]? = some (.cells (oneA (k, e)) 42 (0, 0))) := hf3.kept _ _ HX1.out (by simp [keeps]); have HB3 : Hid (Buf w3 base p (dropF (isKey k) L) (keysOf (dropF (isKey k) L)) h m) := hb3.1; have HR3 : Hid (RBuf w3 base p2 L h m) := HT1.out.r.kept (fun i o hi ho => hf3.kept i o hi (keeps_b o ho)); have HF3 : Hid (FD base w w3) := (HF.out.drewN 1).trans (fd_d hf3); have hbw3 : base ≤ w3.heap.size := Nat.le_trans HT1.out.bw hf3.size; clear hf3 hb3)
      | (go_at_call 21; refine (HCB.out _ HR3.out hbw3).mono ?_; rintro e' w4 ⟨rfl, hf4, hr4⟩; have HSD4 : Hid (w4.cell? ⟨w.heap.size, 1, none⟩ = some (i64 k.env) ∧ w4.cell? ⟨w.heap.size, 2, none⟩ = some (i64 k.proc) ∧ w4.cell? ⟨w.heap.size, 3, none⟩ = some (i64 k.page) ∧ w4.cell? ⟨w.heap.size, 4, none⟩ = some (i64 e.frame) ∧ w4.cell? ⟨w2.heap.size, 0, none⟩ = some (i64 k.env) ∧ w4.cell? ⟨w2.heap.size, 1, none⟩ = some (i64 k.proc) ∧ w4.cell? ⟨w2.heap.size, 2, none⟩ = some (i64 k.page) ∧ w4.cell? ⟨w2.heap.size, 3, none⟩ = some (i64 e.frame) ∧ w4.cell? ⟨w2.heap.size, 4, none⟩ = some (.bool e.wr)) := HALL.out w4 (hf4.kept _ _ HS3.out (by simp [keeps])) (hf4.kept _ _ HX3.out (by simp [keeps])); have HF4 : Hid (FD base w w4) := HF3.out.trans (fd_r1 hf4); have HTW : Hid (Two w4 base p p2 (dropF (isKey k) L) h m) := ⟨HB3.out.kept (fun i o hi ho => hf4.kept i o hi (keeps_sub o ho)), hr4, Nat.le_trans (dropF_le _ L) hL8, Nat.le_trans hbw3 hf4.size⟩; clear hf4 hr4))
  go_wp2_with fail
  go_ret
  exact ⟨by simp, HF4.out, by simpa [nextL, nextH, nextM] using HTW.out⟩

set_option maxRecDepth 100000 in
set_option maxHeartbeats 2000000 in
theorem does_drop6 {w : World} {base p p2 : Nat} {L : Ls} {h m : Nat} (t : Two w base p p2 L h m) (k : K3) (e : En) : DoesTo w base p p2 ⟨6, k, e⟩ L h m := by
  have hb0 : Below w.heap.size w (w.alloc (.cells #[i64 6, i64 k.env, i64 k.proc, i64 k.page, i64 e.frame, .bool e.wr] 35)) := (Below.refl _ _).alloc (Nat.le_refl _) _
  have HT0 : Hid (Two w base p p2 L h m) := t
  have HB0 : Hid (Below w.heap.size w (w.alloc (.cells #[i64 6, i64 k.env, i64 k.proc, i64 k.page, i64 e.frame, .bool e.wr] 35))) := hb0
  have HS0 : Hid ((w.alloc (.cells #[i64 6, i64 k.env, i64 k.proc, i64 k.page, i64 e.frame, .bool e.wr] 35)).heap[w.heap.size]? = some (.cells (St.cells ⟨6, k, e⟩).toArray 35 (0, 0))) := heap_last w _
  have hsz : (w.alloc (.cells #[i64 6, i64 k.env, i64 k.proc, i64 k.page, i64 e.frame, .bool e.wr] 35)).heap.size = w.heap.size + 1 := by simp
  have hL8 := t.l8
  clear hb0 t
  unfold DoesTo
  unfold St.cells
  go_enter Try.func9, Try.ntmps9
  go_wp2_with fail
  refine (ref_ok _ k e).mono ?_
  rintro e' w2 ⟨rfl, hb2⟩
  rw [hsz] at hb2
  have hs2 : w.heap.size + 1 ≤ w2.heap.size := by have := hb2.size; rw [hsz] at this; exact this
  have hbX : Below w2.heap.size w2 (w2.alloc (.cells (oneA (k, e)) 42)) := (Below.refl _ _).alloc (Nat.le_refl _) _
  have hbW : Below w.heap.size w (w2.alloc (.cells (oneA (k, e)) 42)) := (HB0.out.trans (hb2.mono (by omega))).trans (hbX.mono (by omega))
  have HT : Hid (Two (w2.alloc (.cells (oneA (k, e)) 42)) base p p2 L h m) := HT0.out.below hbW
  have HF : Hid (FD base w (w2.alloc (.cells (oneA (k, e)) 42))) := fd_below hbW HT0.out.bw
  have hS1 : (w2.alloc (.cells (oneA (k, e)) 42)).heap[w.heap.size]? = some (.cells (St.cells ⟨6, k, e⟩).toArray 35 (0, 0)) := (Below.heap_alloc _ _ _ (by omega)).trans ((hb2.block _ (by omega)).trans HS0.out)
  have HS1 : Hid ((w2.alloc (.cells (oneA (k, e)) 42)).heap[w.heap.size]? = some (.cells (St.cells ⟨6, k, e⟩).toArray 35 (0, 0))) := hS1
  have HX1 : Hid ((w2.alloc (.cells (oneA (k, e)) 42)).heap[w2.heap.size]? = some (.cells (oneA (k, e)) 42 (0, 0))) := heap_last w2 _
  obtain ⟨a0, a1, a2, a3, a4, a5⟩ := six_cells hS1
  obtain ⟨x0, x1, x2, x3, x4⟩ := one_new HX1.out
  simp only [Nat.zero_add] at x1 x2 x3 x4
  clear hb2 hbX hbW hS1
  have hall : ∀ V : World, V.heap[w.heap.size]? = some (.cells (St.cells ⟨6, k, e⟩).toArray 35 (0, 0)) → V.heap[w2.heap.size]? = some (.cells (oneA (k, e)) 42 (0, 0)) → (V.cell? ⟨w.heap.size, 1, none⟩ = some (i64 k.env) ∧ V.cell? ⟨w.heap.size, 2, none⟩ = some (i64 k.proc) ∧ V.cell? ⟨w.heap.size, 3, none⟩ = some (i64 k.page) ∧ V.cell? ⟨w.heap.size, 4, none⟩ = some (i64 e.frame) ∧ V.cell? ⟨w2.heap.size, 0, none⟩ = some (i64 k.env) ∧ V.cell? ⟨w2.heap.size, 1, none⟩ = some (i64 k.proc) ∧ V.cell? ⟨w2.heap.size, 2, none⟩ = some (i64 k.page) ∧ V.cell? ⟨w2.heap.size, 3, none⟩ = some (i64 e.frame) ∧ V.cell? ⟨w2.heap.size, 4, none⟩ = some (.bool e.wr)) := fun V h1 h2 => by
    obtain ⟨b0, b1, b2, b3, b4, b5⟩ := six_cells h1
    obtain ⟨y0, y1, y2, y3, y4⟩ := one_new h2
    simp only [Nat.zero_add] at y1 y2 y3 y4
    exact ⟨b1, b2, b3, b4, y0, y1, y2, y3, y4⟩
  have HALL : Hid (∀ V : World, V.heap[w.heap.size]? = some (.cells (St.cells ⟨6, k, e⟩).toArray 35 (0, 0)) → V.heap[w2.heap.size]? = some (.cells (oneA (k, e)) 42 (0, 0)) → (V.cell? ⟨w.heap.size, 1, none⟩ = some (i64 k.env) ∧ V.cell? ⟨w.heap.size, 2, none⟩ = some (i64 k.proc) ∧ V.cell? ⟨w.heap.size, 3, none⟩ = some (i64 k.page) ∧ V.cell? ⟨w.heap.size, 4, none⟩ = some (i64 e.frame) ∧ V.cell? ⟨w2.heap.size, 0, none⟩ = some (i64 k.env) ∧ V.cell? ⟨w2.heap.size, 1, none⟩ = some (i64 k.proc) ∧ V.cell? ⟨w2.heap.size, 2, none⟩ = some (i64 k.page) ∧ V.cell? ⟨w2.heap.size, 3, none⟩ = some (i64 e.frame) ∧ V.cell? ⟨w2.heap.size, 4, none⟩ = some (.bool e.wr))) := hall
  have HSD0 : Hid ((w2.alloc (.cells (oneA (k, e)) 42)).drew.cell? ⟨w.heap.size, 1, none⟩ = some (i64 k.env) ∧ (w2.alloc (.cells (oneA (k, e)) 42)).drew.cell? ⟨w.heap.size, 2, none⟩ = some (i64 k.proc) ∧ (w2.alloc (.cells (oneA (k, e)) 42)).drew.cell? ⟨w.heap.size, 3, none⟩ = some (i64 k.page) ∧ (w2.alloc (.cells (oneA (k, e)) 42)).drew.cell? ⟨w.heap.size, 4, none⟩ = some (i64 e.frame) ∧ (w2.alloc (.cells (oneA (k, e)) 42)).drew.cell? ⟨w2.heap.size, 0, none⟩ = some (i64 k.env) ∧ (w2.alloc (.cells (oneA (k, e)) 42)).drew.cell? ⟨w2.heap.size, 1, none⟩ = some (i64 k.proc) ∧ (w2.alloc (.cells (oneA (k, e)) 42)).drew.cell? ⟨w2.heap.size, 2, none⟩ = some (i64 k.page) ∧ (w2.alloc (.cells (oneA (k, e)) 42)).drew.cell? ⟨w2.heap.size, 3, none⟩ = some (i64 e.frame) ∧ (w2.alloc (.cells (oneA (k, e)) 42)).drew.cell? ⟨w2.heap.size, 4, none⟩ = some (.bool e.wr)) := hall (w2.alloc (.cells (oneA (k, e)) 42)).drew HS1.out HX1.out
  have hT1 : Two (w2.alloc (.cells (oneA (k, e)) 42)).drew base p p2 L h m := ⟨HT.out.b.below ⟨rfl, rfl, rfl, Nat.le_refl _, fun _ _ => rfl⟩, HT.out.r.below ⟨rfl, rfl, rfl, Nat.le_refl _, fun _ _ => rfl⟩, hL8, HT.out.bw⟩
  have HT1 : Hid (Two (w2.alloc (.cells (oneA (k, e)) 42)).drew base p p2 L h m) := hT1
  have hD : ∃ D, (L.length : Int) - (dropF (isProc k.env k.proc) L).length = D := ⟨_, rfl⟩
  obtain ⟨D, hD⟩ := hD
  have HCA : Hid (Calls Try.prog 17 #[.pointer (some ⟨p, 0, none⟩), i64 k.env, i64 k.proc] (w2.alloc (.cells (oneA (k, e)) 42)).drew fun e' w' => e' = .returned (i64 D) ∧ Fr base [56] true (w2.alloc (.cells (oneA (k, e)) 42)).drew w' ∧ BufN (w2.alloc (.cells (oneA (k, e)) 42)).drew.heap.size w' base p (dropF (isProc k.env k.proc) L) h m) := (by rw [← hD]; exact dropProc_ok hT1.b hL8 hT1.bw k.env k.proc : Calls Try.prog 17 #[.pointer (some ⟨p, 0, none⟩), i64 k.env, i64 k.proc] (w2.alloc (.cells (oneA (k, e)) 42)).drew fun e' w' => e' = .returned (i64 D) ∧ Fr base [56] true (w2.alloc (.cells (oneA (k, e)) 42)).drew w' ∧ BufN (w2.alloc (.cells (oneA (k, e)) 42)).drew.heap.size w' base p (dropF (isProc k.env k.proc) L) h m)
  have hw : wantF 1 (k, e) = isProc k.env k.proc := rfl
  have HCB : Hid (∀ V, RBuf V base p2 L h m → base ≤ V.heap.size → Calls Try.prog 21 #[.pointer (some ⟨p2, 0, none⟩), .agg #[i64 1, i64 k.env, i64 k.proc, i64 k.page, i64 e.frame, .bool e.wr]] V fun e' w' => e' = .returned (i64 D) ∧ Fr base [29] false V w' ∧ RBuf w' base p2 (dropF (isProc k.env k.proc) L) h m) := fun V hV hb => by
    have := rdrop_ok hV (by omega) hb 1 (k, e) (by simp)
    rw [hw, hD] at this
    exact this
  clear hall hT1 hw
  go_wp2_with fail
  go_region_held (fun w' => (w'.cell? ⟨w.heap.size, 1, none⟩ = some (i64 k.env) ∧ w'.cell? ⟨w.heap.size, 2, none⟩ = some (i64 k.proc) ∧ w'.cell? ⟨w.heap.size, 3, none⟩ = some (i64 k.page) ∧ w'.cell? ⟨w.heap.size, 4, none⟩ = some (i64 e.frame) ∧ w'.cell? ⟨w2.heap.size, 0, none⟩ = some (i64 k.env) ∧ w'.cell? ⟨w2.heap.size, 1, none⟩ = some (i64 k.proc) ∧ w'.cell? ⟨w2.heap.size, 2, none⟩ = some (i64 k.page) ∧ w'.cell? ⟨w2.heap.size, 3, none⟩ = some (i64 e.frame) ∧ w'.cell? ⟨w2.heap.size, 4, none⟩ = some (.bool e.wr))) (first | exact HSD0.out | exact HSD3.out | exact HSD4.out)
    (first
      | (go_at_call 17; refine HCA.out.mono ?_; rintro e' w3 ⟨rfl, hf3, hb3⟩; have HSD3 : Hid (w3.cell? ⟨w.heap.size, 1, none⟩ = some (i64 k.env) ∧ w3.cell? ⟨w.heap.size, 2, none⟩ = some (i64 k.proc) ∧ w3.cell? ⟨w.heap.size, 3, none⟩ = some (i64 k.page) ∧ w3.cell? ⟨w.heap.size, 4, none⟩ = some (i64 e.frame) ∧ w3.cell? ⟨w2.heap.size, 0, none⟩ = some (i64 k.env) ∧ w3.cell? ⟨w2.heap.size, 1, none⟩ = some (i64 k.proc) ∧ w3.cell? ⟨w2.heap.size, 2, none⟩ = some (i64 k.page) ∧ w3.cell? ⟨w2.heap.size, 3, none⟩ = some (i64 e.frame) ∧ w3.cell? ⟨w2.heap.size, 4, none⟩ = some (.bool e.wr)) := HALL.out w3 (hf3.kept _ _ HS1.out (by simp [keeps])) (hf3.kept _ _ HX1.out (by simp [keeps])); have HS3 : Hid (w3.heap[w.heap.size]? = some (.cells (St.cells ⟨6, k, e⟩).toArray 35 (0, 0))) := hf3.kept _ _ HS1.out (by simp [keeps]); have HX3 : Hid (w3.heap[w2.heap.size]? = some (.cells (oneA (k, e)) 42 (0, 0))) := hf3.kept _ _ HX1.out (by simp [keeps]); have HB3 : Hid (Buf w3 base p (dropF (isProc k.env k.proc) L) (keysOf (dropF (isProc k.env k.proc) L)) h m) := hb3.1; have HR3 : Hid (RBuf w3 base p2 L h m) := HT1.out.r.kept (fun i o hi ho => hf3.kept i o hi (keeps_b o ho)); have HF3 : Hid (FD base w w3) := (HF.out.drewN 1).trans (fd_d hf3); have hbw3 : base ≤ w3.heap.size := Nat.le_trans HT1.out.bw hf3.size; clear hf3 hb3)
      | (go_at_call 21; refine (HCB.out _ HR3.out hbw3).mono ?_; rintro e' w4 ⟨rfl, hf4, hr4⟩; have HSD4 : Hid (w4.cell? ⟨w.heap.size, 1, none⟩ = some (i64 k.env) ∧ w4.cell? ⟨w.heap.size, 2, none⟩ = some (i64 k.proc) ∧ w4.cell? ⟨w.heap.size, 3, none⟩ = some (i64 k.page) ∧ w4.cell? ⟨w.heap.size, 4, none⟩ = some (i64 e.frame) ∧ w4.cell? ⟨w2.heap.size, 0, none⟩ = some (i64 k.env) ∧ w4.cell? ⟨w2.heap.size, 1, none⟩ = some (i64 k.proc) ∧ w4.cell? ⟨w2.heap.size, 2, none⟩ = some (i64 k.page) ∧ w4.cell? ⟨w2.heap.size, 3, none⟩ = some (i64 e.frame) ∧ w4.cell? ⟨w2.heap.size, 4, none⟩ = some (.bool e.wr)) := HALL.out w4 (hf4.kept _ _ HS3.out (by simp [keeps])) (hf4.kept _ _ HX3.out (by simp [keeps])); have HF4 : Hid (FD base w w4) := HF3.out.trans (fd_r1 hf4); have HTW : Hid (Two w4 base p p2 (dropF (isProc k.env k.proc) L) h m) := ⟨HB3.out.kept (fun i o hi ho => hf4.kept i o hi (keeps_sub o ho)), hr4, Nat.le_trans (dropF_le _ L) hL8, Nat.le_trans hbw3 hf4.size⟩; clear hf4 hr4))
  go_wp2_with fail
  go_ret
  exact ⟨by simp, HF4.out, by simpa [nextL, nextH, nextM] using HTW.out⟩

set_option maxRecDepth 100000 in
set_option maxHeartbeats 2000000 in
theorem does_drop7 {w : World} {base p p2 : Nat} {L : Ls} {h m : Nat} (t : Two w base p p2 L h m) (k : K3) (e : En) : DoesTo w base p p2 ⟨7, k, e⟩ L h m := by
  have hb0 : Below w.heap.size w (w.alloc (.cells #[i64 7, i64 k.env, i64 k.proc, i64 k.page, i64 e.frame, .bool e.wr] 35)) := (Below.refl _ _).alloc (Nat.le_refl _) _
  have HT0 : Hid (Two w base p p2 L h m) := t
  have HB0 : Hid (Below w.heap.size w (w.alloc (.cells #[i64 7, i64 k.env, i64 k.proc, i64 k.page, i64 e.frame, .bool e.wr] 35))) := hb0
  have HS0 : Hid ((w.alloc (.cells #[i64 7, i64 k.env, i64 k.proc, i64 k.page, i64 e.frame, .bool e.wr] 35)).heap[w.heap.size]? = some (.cells (St.cells ⟨7, k, e⟩).toArray 35 (0, 0))) := heap_last w _
  have hsz : (w.alloc (.cells #[i64 7, i64 k.env, i64 k.proc, i64 k.page, i64 e.frame, .bool e.wr] 35)).heap.size = w.heap.size + 1 := by simp
  have hL8 := t.l8
  clear hb0 t
  unfold DoesTo
  unfold St.cells
  go_enter Try.func9, Try.ntmps9
  go_wp2_with fail
  refine (ref_ok _ k e).mono ?_
  rintro e' w2 ⟨rfl, hb2⟩
  rw [hsz] at hb2
  have hs2 : w.heap.size + 1 ≤ w2.heap.size := by have := hb2.size; rw [hsz] at this; exact this
  have hbX : Below w2.heap.size w2 (w2.alloc (.cells (oneA (k, e)) 42)) := (Below.refl _ _).alloc (Nat.le_refl _) _
  have hbW : Below w.heap.size w (w2.alloc (.cells (oneA (k, e)) 42)) := (HB0.out.trans (hb2.mono (by omega))).trans (hbX.mono (by omega))
  have HT : Hid (Two (w2.alloc (.cells (oneA (k, e)) 42)) base p p2 L h m) := HT0.out.below hbW
  have HF : Hid (FD base w (w2.alloc (.cells (oneA (k, e)) 42))) := fd_below hbW HT0.out.bw
  have hS1 : (w2.alloc (.cells (oneA (k, e)) 42)).heap[w.heap.size]? = some (.cells (St.cells ⟨7, k, e⟩).toArray 35 (0, 0)) := (Below.heap_alloc _ _ _ (by omega)).trans ((hb2.block _ (by omega)).trans HS0.out)
  have HS1 : Hid ((w2.alloc (.cells (oneA (k, e)) 42)).heap[w.heap.size]? = some (.cells (St.cells ⟨7, k, e⟩).toArray 35 (0, 0))) := hS1
  have HX1 : Hid ((w2.alloc (.cells (oneA (k, e)) 42)).heap[w2.heap.size]? = some (.cells (oneA (k, e)) 42 (0, 0))) := heap_last w2 _
  obtain ⟨a0, a1, a2, a3, a4, a5⟩ := six_cells hS1
  obtain ⟨x0, x1, x2, x3, x4⟩ := one_new HX1.out
  simp only [Nat.zero_add] at x1 x2 x3 x4
  clear hb2 hbX hbW hS1
  have hall : ∀ V : World, V.heap[w.heap.size]? = some (.cells (St.cells ⟨7, k, e⟩).toArray 35 (0, 0)) → V.heap[w2.heap.size]? = some (.cells (oneA (k, e)) 42 (0, 0)) → (V.cell? ⟨w.heap.size, 1, none⟩ = some (i64 k.env) ∧ V.cell? ⟨w.heap.size, 2, none⟩ = some (i64 k.proc) ∧ V.cell? ⟨w.heap.size, 3, none⟩ = some (i64 k.page) ∧ V.cell? ⟨w.heap.size, 4, none⟩ = some (i64 e.frame) ∧ V.cell? ⟨w2.heap.size, 0, none⟩ = some (i64 k.env) ∧ V.cell? ⟨w2.heap.size, 1, none⟩ = some (i64 k.proc) ∧ V.cell? ⟨w2.heap.size, 2, none⟩ = some (i64 k.page) ∧ V.cell? ⟨w2.heap.size, 3, none⟩ = some (i64 e.frame) ∧ V.cell? ⟨w2.heap.size, 4, none⟩ = some (.bool e.wr)) := fun V h1 h2 => by
    obtain ⟨b0, b1, b2, b3, b4, b5⟩ := six_cells h1
    obtain ⟨y0, y1, y2, y3, y4⟩ := one_new h2
    simp only [Nat.zero_add] at y1 y2 y3 y4
    exact ⟨b1, b2, b3, b4, y0, y1, y2, y3, y4⟩
  have HALL : Hid (∀ V : World, V.heap[w.heap.size]? = some (.cells (St.cells ⟨7, k, e⟩).toArray 35 (0, 0)) → V.heap[w2.heap.size]? = some (.cells (oneA (k, e)) 42 (0, 0)) → (V.cell? ⟨w.heap.size, 1, none⟩ = some (i64 k.env) ∧ V.cell? ⟨w.heap.size, 2, none⟩ = some (i64 k.proc) ∧ V.cell? ⟨w.heap.size, 3, none⟩ = some (i64 k.page) ∧ V.cell? ⟨w.heap.size, 4, none⟩ = some (i64 e.frame) ∧ V.cell? ⟨w2.heap.size, 0, none⟩ = some (i64 k.env) ∧ V.cell? ⟨w2.heap.size, 1, none⟩ = some (i64 k.proc) ∧ V.cell? ⟨w2.heap.size, 2, none⟩ = some (i64 k.page) ∧ V.cell? ⟨w2.heap.size, 3, none⟩ = some (i64 e.frame) ∧ V.cell? ⟨w2.heap.size, 4, none⟩ = some (.bool e.wr))) := hall
  have HSD0 : Hid ((w2.alloc (.cells (oneA (k, e)) 42)).drew.cell? ⟨w.heap.size, 1, none⟩ = some (i64 k.env) ∧ (w2.alloc (.cells (oneA (k, e)) 42)).drew.cell? ⟨w.heap.size, 2, none⟩ = some (i64 k.proc) ∧ (w2.alloc (.cells (oneA (k, e)) 42)).drew.cell? ⟨w.heap.size, 3, none⟩ = some (i64 k.page) ∧ (w2.alloc (.cells (oneA (k, e)) 42)).drew.cell? ⟨w.heap.size, 4, none⟩ = some (i64 e.frame) ∧ (w2.alloc (.cells (oneA (k, e)) 42)).drew.cell? ⟨w2.heap.size, 0, none⟩ = some (i64 k.env) ∧ (w2.alloc (.cells (oneA (k, e)) 42)).drew.cell? ⟨w2.heap.size, 1, none⟩ = some (i64 k.proc) ∧ (w2.alloc (.cells (oneA (k, e)) 42)).drew.cell? ⟨w2.heap.size, 2, none⟩ = some (i64 k.page) ∧ (w2.alloc (.cells (oneA (k, e)) 42)).drew.cell? ⟨w2.heap.size, 3, none⟩ = some (i64 e.frame) ∧ (w2.alloc (.cells (oneA (k, e)) 42)).drew.cell? ⟨w2.heap.size, 4, none⟩ = some (.bool e.wr)) := hall (w2.alloc (.cells (oneA (k, e)) 42)).drew HS1.out HX1.out
  have hT1 : Two (w2.alloc (.cells (oneA (k, e)) 42)).drew base p p2 L h m := ⟨HT.out.b.below ⟨rfl, rfl, rfl, Nat.le_refl _, fun _ _ => rfl⟩, HT.out.r.below ⟨rfl, rfl, rfl, Nat.le_refl _, fun _ _ => rfl⟩, hL8, HT.out.bw⟩
  have HT1 : Hid (Two (w2.alloc (.cells (oneA (k, e)) 42)).drew base p p2 L h m) := hT1
  have hD : ∃ D, (L.length : Int) - (dropF (isEnv k.env) L).length = D := ⟨_, rfl⟩
  obtain ⟨D, hD⟩ := hD
  have HCA : Hid (Calls Try.prog 18 #[.pointer (some ⟨p, 0, none⟩), i64 k.env] (w2.alloc (.cells (oneA (k, e)) 42)).drew fun e' w' => e' = .returned (i64 D) ∧ Fr base [56] true (w2.alloc (.cells (oneA (k, e)) 42)).drew w' ∧ BufN (w2.alloc (.cells (oneA (k, e)) 42)).drew.heap.size w' base p (dropF (isEnv k.env) L) h m) := (by rw [← hD]; exact dropEnv_ok hT1.b hL8 hT1.bw k.env : Calls Try.prog 18 #[.pointer (some ⟨p, 0, none⟩), i64 k.env] (w2.alloc (.cells (oneA (k, e)) 42)).drew fun e' w' => e' = .returned (i64 D) ∧ Fr base [56] true (w2.alloc (.cells (oneA (k, e)) 42)).drew w' ∧ BufN (w2.alloc (.cells (oneA (k, e)) 42)).drew.heap.size w' base p (dropF (isEnv k.env) L) h m)
  have hw : wantF 2 (k, e) = isEnv k.env := rfl
  have HCB : Hid (∀ V, RBuf V base p2 L h m → base ≤ V.heap.size → Calls Try.prog 21 #[.pointer (some ⟨p2, 0, none⟩), .agg #[i64 2, i64 k.env, i64 k.proc, i64 k.page, i64 e.frame, .bool e.wr]] V fun e' w' => e' = .returned (i64 D) ∧ Fr base [29] false V w' ∧ RBuf w' base p2 (dropF (isEnv k.env) L) h m) := fun V hV hb => by
    have := rdrop_ok hV (by omega) hb 2 (k, e) (by simp)
    rw [hw, hD] at this
    exact this
  clear hall hT1 hw
  go_wp2_with fail
  go_region_held (fun w' => (w'.cell? ⟨w.heap.size, 1, none⟩ = some (i64 k.env) ∧ w'.cell? ⟨w.heap.size, 2, none⟩ = some (i64 k.proc) ∧ w'.cell? ⟨w.heap.size, 3, none⟩ = some (i64 k.page) ∧ w'.cell? ⟨w.heap.size, 4, none⟩ = some (i64 e.frame) ∧ w'.cell? ⟨w2.heap.size, 0, none⟩ = some (i64 k.env) ∧ w'.cell? ⟨w2.heap.size, 1, none⟩ = some (i64 k.proc) ∧ w'.cell? ⟨w2.heap.size, 2, none⟩ = some (i64 k.page) ∧ w'.cell? ⟨w2.heap.size, 3, none⟩ = some (i64 e.frame) ∧ w'.cell? ⟨w2.heap.size, 4, none⟩ = some (.bool e.wr))) (first | exact HSD0.out | exact HSD3.out | exact HSD4.out)
    (first
      | (go_at_call 18; refine HCA.out.mono ?_; rintro e' w3 ⟨rfl, hf3, hb3⟩; have HSD3 : Hid (w3.cell? ⟨w.heap.size, 1, none⟩ = some (i64 k.env) ∧ w3.cell? ⟨w.heap.size, 2, none⟩ = some (i64 k.proc) ∧ w3.cell? ⟨w.heap.size, 3, none⟩ = some (i64 k.page) ∧ w3.cell? ⟨w.heap.size, 4, none⟩ = some (i64 e.frame) ∧ w3.cell? ⟨w2.heap.size, 0, none⟩ = some (i64 k.env) ∧ w3.cell? ⟨w2.heap.size, 1, none⟩ = some (i64 k.proc) ∧ w3.cell? ⟨w2.heap.size, 2, none⟩ = some (i64 k.page) ∧ w3.cell? ⟨w2.heap.size, 3, none⟩ = some (i64 e.frame) ∧ w3.cell? ⟨w2.heap.size, 4, none⟩ = some (.bool e.wr)) := HALL.out w3 (hf3.kept _ _ HS1.out (by simp [keeps])) (hf3.kept _ _ HX1.out (by simp [keeps])); have HS3 : Hid (w3.heap[w.heap.size]? = some (.cells (St.cells ⟨7, k, e⟩).toArray 35 (0, 0))) := hf3.kept _ _ HS1.out (by simp [keeps]); have HX3 : Hid (w3.heap[w2.heap.size]? = some (.cells (oneA (k, e)) 42 (0, 0))) := hf3.kept _ _ HX1.out (by simp [keeps]); have HB3 : Hid (Buf w3 base p (dropF (isEnv k.env) L) (keysOf (dropF (isEnv k.env) L)) h m) := hb3.1; have HR3 : Hid (RBuf w3 base p2 L h m) := HT1.out.r.kept (fun i o hi ho => hf3.kept i o hi (keeps_b o ho)); have HF3 : Hid (FD base w w3) := (HF.out.drewN 1).trans (fd_d hf3); have hbw3 : base ≤ w3.heap.size := Nat.le_trans HT1.out.bw hf3.size; clear hf3 hb3)
      | (go_at_call 21; refine (HCB.out _ HR3.out hbw3).mono ?_; rintro e' w4 ⟨rfl, hf4, hr4⟩; have HSD4 : Hid (w4.cell? ⟨w.heap.size, 1, none⟩ = some (i64 k.env) ∧ w4.cell? ⟨w.heap.size, 2, none⟩ = some (i64 k.proc) ∧ w4.cell? ⟨w.heap.size, 3, none⟩ = some (i64 k.page) ∧ w4.cell? ⟨w.heap.size, 4, none⟩ = some (i64 e.frame) ∧ w4.cell? ⟨w2.heap.size, 0, none⟩ = some (i64 k.env) ∧ w4.cell? ⟨w2.heap.size, 1, none⟩ = some (i64 k.proc) ∧ w4.cell? ⟨w2.heap.size, 2, none⟩ = some (i64 k.page) ∧ w4.cell? ⟨w2.heap.size, 3, none⟩ = some (i64 e.frame) ∧ w4.cell? ⟨w2.heap.size, 4, none⟩ = some (.bool e.wr)) := HALL.out w4 (hf4.kept _ _ HS3.out (by simp [keeps])) (hf4.kept _ _ HX3.out (by simp [keeps])); have HF4 : Hid (FD base w w4) := HF3.out.trans (fd_r1 hf4); have HTW : Hid (Two w4 base p p2 (dropF (isEnv k.env) L) h m) := ⟨HB3.out.kept (fun i o hi ho => hf4.kept i o hi (keeps_sub o ho)), hr4, Nat.le_trans (dropF_le _ L) hL8, Nat.le_trans hbw3 hf4.size⟩; clear hf4 hr4))
  go_wp2_with fail
  go_ret
  exact ⟨by simp, HF4.out, by simpa [nextL, nextH, nextM] using HTW.out⟩

set_option maxRecDepth 100000 in
set_option maxHeartbeats 2000000 in
theorem does_drop8 {w : World} {base p p2 : Nat} {L : Ls} {h m : Nat} (t : Two w base p p2 L h m) (k : K3) (e : En) : DoesTo w base p p2 ⟨8, k, e⟩ L h m := by
  have hb0 : Below w.heap.size w (w.alloc (.cells #[i64 8, i64 k.env, i64 k.proc, i64 k.page, i64 e.frame, .bool e.wr] 35)) := (Below.refl _ _).alloc (Nat.le_refl _) _
  have HT0 : Hid (Two w base p p2 L h m) := t
  have HB0 : Hid (Below w.heap.size w (w.alloc (.cells #[i64 8, i64 k.env, i64 k.proc, i64 k.page, i64 e.frame, .bool e.wr] 35))) := hb0
  have HS0 : Hid ((w.alloc (.cells #[i64 8, i64 k.env, i64 k.proc, i64 k.page, i64 e.frame, .bool e.wr] 35)).heap[w.heap.size]? = some (.cells (St.cells ⟨8, k, e⟩).toArray 35 (0, 0))) := heap_last w _
  have hsz : (w.alloc (.cells #[i64 8, i64 k.env, i64 k.proc, i64 k.page, i64 e.frame, .bool e.wr] 35)).heap.size = w.heap.size + 1 := by simp
  have hL8 := t.l8
  clear hb0 t
  unfold DoesTo
  unfold St.cells
  go_enter Try.func9, Try.ntmps9
  go_wp2_with fail
  refine (ref_ok _ k e).mono ?_
  rintro e' w2 ⟨rfl, hb2⟩
  rw [hsz] at hb2
  have hs2 : w.heap.size + 1 ≤ w2.heap.size := by have := hb2.size; rw [hsz] at this; exact this
  have hbX : Below w2.heap.size w2 (w2.alloc (.cells (oneA (k, e)) 42)) := (Below.refl _ _).alloc (Nat.le_refl _) _
  have hbW : Below w.heap.size w (w2.alloc (.cells (oneA (k, e)) 42)) := (HB0.out.trans (hb2.mono (by omega))).trans (hbX.mono (by omega))
  have HT : Hid (Two (w2.alloc (.cells (oneA (k, e)) 42)) base p p2 L h m) := HT0.out.below hbW
  have HF : Hid (FD base w (w2.alloc (.cells (oneA (k, e)) 42))) := fd_below hbW HT0.out.bw
  have hS1 : (w2.alloc (.cells (oneA (k, e)) 42)).heap[w.heap.size]? = some (.cells (St.cells ⟨8, k, e⟩).toArray 35 (0, 0)) := (Below.heap_alloc _ _ _ (by omega)).trans ((hb2.block _ (by omega)).trans HS0.out)
  have HS1 : Hid ((w2.alloc (.cells (oneA (k, e)) 42)).heap[w.heap.size]? = some (.cells (St.cells ⟨8, k, e⟩).toArray 35 (0, 0))) := hS1
  have HX1 : Hid ((w2.alloc (.cells (oneA (k, e)) 42)).heap[w2.heap.size]? = some (.cells (oneA (k, e)) 42 (0, 0))) := heap_last w2 _
  obtain ⟨a0, a1, a2, a3, a4, a5⟩ := six_cells hS1
  obtain ⟨x0, x1, x2, x3, x4⟩ := one_new HX1.out
  simp only [Nat.zero_add] at x1 x2 x3 x4
  clear hb2 hbX hbW hS1
  have hall : ∀ V : World, V.heap[w.heap.size]? = some (.cells (St.cells ⟨8, k, e⟩).toArray 35 (0, 0)) → V.heap[w2.heap.size]? = some (.cells (oneA (k, e)) 42 (0, 0)) → (V.cell? ⟨w.heap.size, 1, none⟩ = some (i64 k.env) ∧ V.cell? ⟨w.heap.size, 2, none⟩ = some (i64 k.proc) ∧ V.cell? ⟨w.heap.size, 3, none⟩ = some (i64 k.page) ∧ V.cell? ⟨w.heap.size, 4, none⟩ = some (i64 e.frame) ∧ V.cell? ⟨w2.heap.size, 0, none⟩ = some (i64 k.env) ∧ V.cell? ⟨w2.heap.size, 1, none⟩ = some (i64 k.proc) ∧ V.cell? ⟨w2.heap.size, 2, none⟩ = some (i64 k.page) ∧ V.cell? ⟨w2.heap.size, 3, none⟩ = some (i64 e.frame) ∧ V.cell? ⟨w2.heap.size, 4, none⟩ = some (.bool e.wr)) := fun V h1 h2 => by
    obtain ⟨b0, b1, b2, b3, b4, b5⟩ := six_cells h1
    obtain ⟨y0, y1, y2, y3, y4⟩ := one_new h2
    simp only [Nat.zero_add] at y1 y2 y3 y4
    exact ⟨b1, b2, b3, b4, y0, y1, y2, y3, y4⟩
  have HALL : Hid (∀ V : World, V.heap[w.heap.size]? = some (.cells (St.cells ⟨8, k, e⟩).toArray 35 (0, 0)) → V.heap[w2.heap.size]? = some (.cells (oneA (k, e)) 42 (0, 0)) → (V.cell? ⟨w.heap.size, 1, none⟩ = some (i64 k.env) ∧ V.cell? ⟨w.heap.size, 2, none⟩ = some (i64 k.proc) ∧ V.cell? ⟨w.heap.size, 3, none⟩ = some (i64 k.page) ∧ V.cell? ⟨w.heap.size, 4, none⟩ = some (i64 e.frame) ∧ V.cell? ⟨w2.heap.size, 0, none⟩ = some (i64 k.env) ∧ V.cell? ⟨w2.heap.size, 1, none⟩ = some (i64 k.proc) ∧ V.cell? ⟨w2.heap.size, 2, none⟩ = some (i64 k.page) ∧ V.cell? ⟨w2.heap.size, 3, none⟩ = some (i64 e.frame) ∧ V.cell? ⟨w2.heap.size, 4, none⟩ = some (.bool e.wr))) := hall
  have HSD0 : Hid ((w2.alloc (.cells (oneA (k, e)) 42)).drew.cell? ⟨w.heap.size, 1, none⟩ = some (i64 k.env) ∧ (w2.alloc (.cells (oneA (k, e)) 42)).drew.cell? ⟨w.heap.size, 2, none⟩ = some (i64 k.proc) ∧ (w2.alloc (.cells (oneA (k, e)) 42)).drew.cell? ⟨w.heap.size, 3, none⟩ = some (i64 k.page) ∧ (w2.alloc (.cells (oneA (k, e)) 42)).drew.cell? ⟨w.heap.size, 4, none⟩ = some (i64 e.frame) ∧ (w2.alloc (.cells (oneA (k, e)) 42)).drew.cell? ⟨w2.heap.size, 0, none⟩ = some (i64 k.env) ∧ (w2.alloc (.cells (oneA (k, e)) 42)).drew.cell? ⟨w2.heap.size, 1, none⟩ = some (i64 k.proc) ∧ (w2.alloc (.cells (oneA (k, e)) 42)).drew.cell? ⟨w2.heap.size, 2, none⟩ = some (i64 k.page) ∧ (w2.alloc (.cells (oneA (k, e)) 42)).drew.cell? ⟨w2.heap.size, 3, none⟩ = some (i64 e.frame) ∧ (w2.alloc (.cells (oneA (k, e)) 42)).drew.cell? ⟨w2.heap.size, 4, none⟩ = some (.bool e.wr)) := hall (w2.alloc (.cells (oneA (k, e)) 42)).drew HS1.out HX1.out
  have hT1 : Two (w2.alloc (.cells (oneA (k, e)) 42)).drew base p p2 L h m := ⟨HT.out.b.below ⟨rfl, rfl, rfl, Nat.le_refl _, fun _ _ => rfl⟩, HT.out.r.below ⟨rfl, rfl, rfl, Nat.le_refl _, fun _ _ => rfl⟩, hL8, HT.out.bw⟩
  have HT1 : Hid (Two (w2.alloc (.cells (oneA (k, e)) 42)).drew base p p2 L h m) := hT1
  have hD : ∃ D, (L.length : Int) - (dropF (isFrame e.frame) L).length = D := ⟨_, rfl⟩
  obtain ⟨D, hD⟩ := hD
  have HCA : Hid (Calls Try.prog 19 #[.pointer (some ⟨p, 0, none⟩), i64 e.frame] (w2.alloc (.cells (oneA (k, e)) 42)).drew fun e' w' => e' = .returned (i64 D) ∧ Fr base [56] true (w2.alloc (.cells (oneA (k, e)) 42)).drew w' ∧ BufN (w2.alloc (.cells (oneA (k, e)) 42)).drew.heap.size w' base p (dropF (isFrame e.frame) L) h m) := (by rw [← hD]; exact dropFrame_ok hT1.b hL8 hT1.bw e.frame : Calls Try.prog 19 #[.pointer (some ⟨p, 0, none⟩), i64 e.frame] (w2.alloc (.cells (oneA (k, e)) 42)).drew fun e' w' => e' = .returned (i64 D) ∧ Fr base [56] true (w2.alloc (.cells (oneA (k, e)) 42)).drew w' ∧ BufN (w2.alloc (.cells (oneA (k, e)) 42)).drew.heap.size w' base p (dropF (isFrame e.frame) L) h m)
  have hw : wantF 3 (k, e) = isFrame e.frame := rfl
  have HCB : Hid (∀ V, RBuf V base p2 L h m → base ≤ V.heap.size → Calls Try.prog 21 #[.pointer (some ⟨p2, 0, none⟩), .agg #[i64 3, i64 k.env, i64 k.proc, i64 k.page, i64 e.frame, .bool e.wr]] V fun e' w' => e' = .returned (i64 D) ∧ Fr base [29] false V w' ∧ RBuf w' base p2 (dropF (isFrame e.frame) L) h m) := fun V hV hb => by
    have := rdrop_ok hV (by omega) hb 3 (k, e) (by simp)
    rw [hw, hD] at this
    exact this
  clear hall hT1 hw
  go_wp2_with fail
  go_region_held (fun w' => (w'.cell? ⟨w.heap.size, 1, none⟩ = some (i64 k.env) ∧ w'.cell? ⟨w.heap.size, 2, none⟩ = some (i64 k.proc) ∧ w'.cell? ⟨w.heap.size, 3, none⟩ = some (i64 k.page) ∧ w'.cell? ⟨w.heap.size, 4, none⟩ = some (i64 e.frame) ∧ w'.cell? ⟨w2.heap.size, 0, none⟩ = some (i64 k.env) ∧ w'.cell? ⟨w2.heap.size, 1, none⟩ = some (i64 k.proc) ∧ w'.cell? ⟨w2.heap.size, 2, none⟩ = some (i64 k.page) ∧ w'.cell? ⟨w2.heap.size, 3, none⟩ = some (i64 e.frame) ∧ w'.cell? ⟨w2.heap.size, 4, none⟩ = some (.bool e.wr))) (first | exact HSD0.out | exact HSD3.out | exact HSD4.out)
    (first
      | (go_at_call 19; refine HCA.out.mono ?_; rintro e' w3 ⟨rfl, hf3, hb3⟩; have HSD3 : Hid (w3.cell? ⟨w.heap.size, 1, none⟩ = some (i64 k.env) ∧ w3.cell? ⟨w.heap.size, 2, none⟩ = some (i64 k.proc) ∧ w3.cell? ⟨w.heap.size, 3, none⟩ = some (i64 k.page) ∧ w3.cell? ⟨w.heap.size, 4, none⟩ = some (i64 e.frame) ∧ w3.cell? ⟨w2.heap.size, 0, none⟩ = some (i64 k.env) ∧ w3.cell? ⟨w2.heap.size, 1, none⟩ = some (i64 k.proc) ∧ w3.cell? ⟨w2.heap.size, 2, none⟩ = some (i64 k.page) ∧ w3.cell? ⟨w2.heap.size, 3, none⟩ = some (i64 e.frame) ∧ w3.cell? ⟨w2.heap.size, 4, none⟩ = some (.bool e.wr)) := HALL.out w3 (hf3.kept _ _ HS1.out (by simp [keeps])) (hf3.kept _ _ HX1.out (by simp [keeps])); have HS3 : Hid (w3.heap[w.heap.size]? = some (.cells (St.cells ⟨8, k, e⟩).toArray 35 (0, 0))) := hf3.kept _ _ HS1.out (by simp [keeps]); have HX3 : Hid (w3.heap[w2.heap.size]? = some (.cells (oneA (k, e)) 42 (0, 0))) := hf3.kept _ _ HX1.out (by simp [keeps]); have HB3 : Hid (Buf w3 base p (dropF (isFrame e.frame) L) (keysOf (dropF (isFrame e.frame) L)) h m) := hb3.1; have HR3 : Hid (RBuf w3 base p2 L h m) := HT1.out.r.kept (fun i o hi ho => hf3.kept i o hi (keeps_b o ho)); have HF3 : Hid (FD base w w3) := (HF.out.drewN 1).trans (fd_d hf3); have hbw3 : base ≤ w3.heap.size := Nat.le_trans HT1.out.bw hf3.size; clear hf3 hb3)
      | (go_at_call 21; refine (HCB.out _ HR3.out hbw3).mono ?_; rintro e' w4 ⟨rfl, hf4, hr4⟩; have HSD4 : Hid (w4.cell? ⟨w.heap.size, 1, none⟩ = some (i64 k.env) ∧ w4.cell? ⟨w.heap.size, 2, none⟩ = some (i64 k.proc) ∧ w4.cell? ⟨w.heap.size, 3, none⟩ = some (i64 k.page) ∧ w4.cell? ⟨w.heap.size, 4, none⟩ = some (i64 e.frame) ∧ w4.cell? ⟨w2.heap.size, 0, none⟩ = some (i64 k.env) ∧ w4.cell? ⟨w2.heap.size, 1, none⟩ = some (i64 k.proc) ∧ w4.cell? ⟨w2.heap.size, 2, none⟩ = some (i64 k.page) ∧ w4.cell? ⟨w2.heap.size, 3, none⟩ = some (i64 e.frame) ∧ w4.cell? ⟨w2.heap.size, 4, none⟩ = some (.bool e.wr)) := HALL.out w4 (hf4.kept _ _ HS3.out (by simp [keeps])) (hf4.kept _ _ HX3.out (by simp [keeps])); have HF4 : Hid (FD base w w4) := HF3.out.trans (fd_r1 hf4); have HTW : Hid (Two w4 base p p2 (dropF (isFrame e.frame) L) h m) := ⟨HB3.out.kept (fun i o hi ho => hf4.kept i o hi (keeps_sub o ho)), hr4, Nat.le_trans (dropF_le _ L) hL8, Nat.le_trans hbw3 hf4.size⟩; clear hf4 hr4))
  go_wp2_with fail
  go_ret
  exact ⟨by simp, HF4.out, by simpa [nextL, nextH, nextM] using HTW.out⟩

theorem eql33 (e : En) (w : World) : (binOp .eql 33 (entV e) (entV e)).run Try.prog w = .ok (.bool true) w := by
  rw [run_eql_struct, run_equalIn_struct w 9999 33 _ _ (by kernel_rfl) (by kernel_rfl)]
  have p0 : ∀ (x : Int) (y : Bool) (w : World), (part 3 #[i64 x, .bool y] 0).run Try.prog w = .ok (i64 x) w := fun x y w => by kernel_rfl
  have p1 : ∀ (x : Int) (y : Bool) (w : World), (part 4 #[i64 x, .bool y] 1).run Try.prog w = .ok (.bool y) w := fun x y w => by kernel_rfl
  have hq := eqInt 9998
  have hb : ∀ (x y : Bool) (w : World), (Op.equalIn 9999 4 (.bool x) (.bool y)).run Try.prog w = .ok (x == y) w := fun x y w => run_equalIn_bool' w 9998 4 x y Try.underlying4
  simp only [Program.fieldsOf, Try.underlying33]
  simp [Op.eqFields, p0, p1, hq, hb, Result.andThen]
theorem eql42 (q : K3 × En) (w : World) : (binOp .eql 42 (oneV q) (oneV q)).run Try.prog w = .ok (.bool true) w := by
  rw [run_eql_struct, run_equalIn_struct w 9999 42 _ _ (by kernel_rfl) (by kernel_rfl)]
  have p0 : ∀ (a b c d : Int) (y : Bool) (w : World), (part 3 #[i64 a, i64 b, i64 c, i64 d, .bool y] 0).run Try.prog w = .ok (i64 a) w := fun a b c d y w => by kernel_rfl
  have p1 : ∀ (a b c d : Int) (y : Bool) (w : World), (part 3 #[i64 a, i64 b, i64 c, i64 d, .bool y] 1).run Try.prog w = .ok (i64 b) w := fun a b c d y w => by kernel_rfl
  have p2 : ∀ (a b c d : Int) (y : Bool) (w : World), (part 3 #[i64 a, i64 b, i64 c, i64 d, .bool y] 2).run Try.prog w = .ok (i64 c) w := fun a b c d y w => by kernel_rfl
  have p3 : ∀ (a b c d : Int) (y : Bool) (w : World), (part 3 #[i64 a, i64 b, i64 c, i64 d, .bool y] 3).run Try.prog w = .ok (i64 d) w := fun a b c d y w => by kernel_rfl
  have p4 : ∀ (a b c d : Int) (y : Bool) (w : World), (part 4 #[i64 a, i64 b, i64 c, i64 d, .bool y] 4).run Try.prog w = .ok (.bool y) w := fun a b c d y w => by kernel_rfl
  have hq := eqInt 9998
  have hb : ∀ (x y : Bool) (w : World), (Op.equalIn 9999 4 (.bool x) (.bool y)).run Try.prog w = .ok (x == y) w := fun x y w => run_equalIn_bool' w 9998 4 x y Try.underlying4
  simp only [Program.fieldsOf, Try.underlying42]
  simp [Op.eqFields, p0, p1, p2, p3, p4, hq, hb, Result.andThen]

set_option maxRecDepth 100000 in
set_option maxHeartbeats 2000000 in
theorem does_other {w : World} {base p p2 : Nat} {L : Ls} {h m : Nat} (t : Two w base p p2 L h m) (what : Int) (k : K3) (e : En) (h0 : what ≠ 0) (h1 : what ≠ 1) (h2 : what ≠ 2) (h3 : what ≠ 3) (h4 : what ≠ 4) (h5 : what ≠ 5) (h6 : what ≠ 6) (h7 : what ≠ 7) (h8 : what ≠ 8) : DoesTo w base p p2 ⟨what, k, e⟩ L h m := by
  have hb0 : Below w.heap.size w (w.alloc (.cells #[i64 what, i64 k.env, i64 k.proc, i64 k.page, i64 e.frame, .bool e.wr] 35)) := (Below.refl _ _).alloc (Nat.le_refl _) _
  have HT0 : Hid (Two w base p p2 L h m) := t
  have HB0 : Hid (Below w.heap.size w (w.alloc (.cells #[i64 what, i64 k.env, i64 k.proc, i64 k.page, i64 e.frame, .bool e.wr] 35))) := hb0
  have HS0 : Hid ((w.alloc (.cells #[i64 what, i64 k.env, i64 k.proc, i64 k.page, i64 e.frame, .bool e.wr] 35)).heap[w.heap.size]? = some (.cells (St.cells ⟨what, k, e⟩).toArray 35 (0, 0))) := heap_last w _
  have hsz : (w.alloc (.cells #[i64 what, i64 k.env, i64 k.proc, i64 k.page, i64 e.frame, .bool e.wr] 35)).heap.size = w.heap.size + 1 := by simp
  have hL8 := t.l8
  clear hb0 t
  unfold DoesTo
  unfold St.cells
  go_enter Try.func9, Try.ntmps9
  go_wp2_with fail
  refine (ref_ok _ k e).mono ?_
  rintro e' w2 ⟨rfl, hb2⟩
  rw [hsz] at hb2
  have hs2 : w.heap.size + 1 ≤ w2.heap.size := by have := hb2.size; rw [hsz] at this; exact this
  have hbX : Below w2.heap.size w2 (w2.alloc (.cells (oneA (k, e)) 42)) := (Below.refl _ _).alloc (Nat.le_refl _) _
  have hbW : Below w.heap.size w (w2.alloc (.cells (oneA (k, e)) 42)) := (HB0.out.trans (hb2.mono (by omega))).trans (hbX.mono (by omega))
  have HT : Hid (Two (w2.alloc (.cells (oneA (k, e)) 42)) base p p2 L h m) := HT0.out.below hbW
  have HF : Hid (FD base w (w2.alloc (.cells (oneA (k, e)) 42))) := fd_below hbW HT0.out.bw
  have hS1 : (w2.alloc (.cells (oneA (k, e)) 42)).heap[w.heap.size]? = some (.cells (St.cells ⟨what, k, e⟩).toArray 35 (0, 0)) := (Below.heap_alloc _ _ _ (by omega)).trans ((hb2.block _ (by omega)).trans HS0.out)
  have HS1 : Hid ((w2.alloc (.cells (oneA (k, e)) 42)).heap[w.heap.size]? = some (.cells (St.cells ⟨what, k, e⟩).toArray 35 (0, 0))) := hS1
  have HX1 : Hid ((w2.alloc (.cells (oneA (k, e)) 42)).heap[w2.heap.size]? = some (.cells (oneA (k, e)) 42 (0, 0))) := heap_last w2 _
  obtain ⟨a0, a1, a2, a3, a4, a5⟩ := six_cells hS1
  obtain ⟨x0, x1, x2, x3, x4⟩ := one_new HX1.out
  simp only [Nat.zero_add] at x1 x2 x3 x4
  clear hb2 hbX hbW hS1
  have g0 : (what == 0) = false := by simpa using h0
  have g1 : (what == 1) = false := by simpa using h1
  have g2 : (what == 2) = false := by simpa using h2
  have g3 : (what == 3) = false := by simpa using h3
  have g4 : (what == 4) = false := by simpa using h4
  have g5 : (what == 5) = false := by simpa using h5
  have g6 : (what == 6) = false := by simpa using h6
  have g7 : (what == 7) = false := by simpa using h7
  have g8 : (what == 8) = false := by simpa using h8
  have HTW : Hid (Two (w2.alloc (.cells (oneA (k, e)) 42)) base p p2 (nextL ⟨what, k, e⟩ L) (nextH ⟨what, k, e⟩ L h) (nextM ⟨what, k, e⟩ L m)) := (by simpa [nextL, nextH, nextM, h0, h1, h2, h3, h4, h5, h6, h7, h8] using HT.out : Two (w2.alloc (.cells (oneA (k, e)) 42)) base p p2 (nextL ⟨what, k, e⟩ L) (nextH ⟨what, k, e⟩ L h) (nextM ⟨what, k, e⟩ L m))
  clear h0 h1 h2 h3 h4 h5 h6 h7 h8
  go_wp2_with fail
  go_ret
  exact ⟨rfl, HF.out, HTW.out⟩
end Go.Proofs.Ytblhoaggonjhkaa
