/- No statement here. -/
import Derived.Test.YtnknhencobhjdaaMIn
set_option maxRecDepth 100000
namespace Go.Proofs.Ytnknhencobhjdaa
open Go.ChangeShapes Go.WideShapes Go.ChangeAt Go.RowKit Go.Deep
open Go.Proofs.Ytnknhencobhjdaa.Cp (pq hid bl1 hO)
attribute [local go_sem ↓] Go.wp_at_zero Go.wp_at_succ
theorem eq81 (a c : Int) (w : World) : (Op.equalIn 10000 81 (.agg #[i64 a, i64 c]) (.agg #[i64 a, i64 c])).run Try.prog w = .ok true w := by
  have p0 : ∀ (x y : Int) (w : World), (part 3 #[i64 x, i64 y] 0).run Try.prog w = .ok (i64 x) w := fun x y w => by kernel_rfl
  have p1 : ∀ (x y : Int) (w : World), (part 3 #[i64 x, i64 y] 1).run Try.prog w = .ok (i64 y) w := fun x y w => by kernel_rfl
  have hq := eqInt 9998
  rw [run_equalIn_struct w 9999 81 _ _ (by kernel_rfl) (by kernel_rfl)]
  simp only [Program.fieldsOf, Try.underlying81]
  simp [Op.eqFields, p0, p1, hq, Result.andThen]
structure AgG (X p b d kb kc : Nat) (x : Sb) (W : World) : Prop where
  x : W.heap[X]? = some (sbO x)
  p0 : W.cell? ⟨p, 0, none⟩ = some (pq b)
  p1 : W.cell? ⟨p, 1, none⟩ = some (pq d)
  d0 : W.cell? ⟨d, 0, none⟩ = some (pq kc)
  d1 : W.cell? ⟨d, 1, none⟩ = some (pq kb)
structure AgI (X p b d kb kc Y6 : Nat) (x : Sb) (r0 r1 : Int) (W : World) : Prop where
  g : AgG X p b d kb kc x W
  h6 : W.heap[Y6]? = some (.cells #[i64 r0, i64 r1] 81)
structure AgJ (X p b d kb kc Y6 Y9 : Nat) (x : Sb) (r0 r1 : Int) (lq : Qt.T) (W : World) : Prop where
  i : AgI X p b d kb kc Y6 x r0 r1 W
  h9 : W.heap[Y9]? = some (.cells #[i64 lq.a, i64 lq.b, i64 lq.c] 22)
section
variable {X p b d kb kc Y6 Y9 : Nat} {x : Sb} {r0 r1 : Int} {lq : Qt.T} {W W' : World}
theorem AgG.below (h : AgG X p b d kb kc x W) (hb : Below W.heap.size W W') : AgG X p b d kb kc x W' := by
  have k : ∀ {a v}, W.cell? a = some v → W'.cell? a = some v := fun ha => by
    rw [World.cell?_of_block (w := W) (hb.block _ (World.block_lt_of_cell? W _ ha))]
    exact ha
  exact ⟨bkb h.x hb, k h.p0, k h.p1, k h.d0, k h.d1⟩
theorem AgI.below (h : AgI X p b d kb kc Y6 x r0 r1 W) (hb : Below W.heap.size W W') : AgI X p b d kb kc Y6 x r0 r1 W' := ⟨h.g.below hb, bkb h.h6 hb⟩
theorem AgJ.below (h : AgJ X p b d kb kc Y6 Y9 x r0 r1 lq W) (hb : Below W.heap.size W W') : AgJ X p b d kb kc Y6 Y9 x r0 r1 lq W' := ⟨h.i.below hb, bkb h.h9 hb⟩
theorem AgG.drew (h : AgG X p b d kb kc x W) : AgG X p b d kb kc x W.drew := ⟨h.x, h.p0, h.p1, h.d0, h.d1⟩
theorem AgI.drew (h : AgI X p b d kb kc Y6 x r0 r1 W) : AgI X p b d kb kc Y6 x r0 r1 W.drew := ⟨h.g.drew, h.h6⟩
theorem AgJ.drew (h : AgJ X p b d kb kc Y6 Y9 x r0 r1 lq W) : AgJ X p b d kb kc Y6 Y9 x r0 r1 lq W.drew := ⟨h.i.drew, h.h9⟩
theorem AgI.set1 (h : AgI X p b d kb kc Y6 x r0 r1 W) {a : Addr} (h1 : Y6 ≠ a.block) (h2 : X ≠ a.block) (h3 : p ≠ a.block) (h4 : d ≠ a.block) (v : Value) : AgI X p b d kb kc Y6 x r0 r1 (W.setCell a v) := by
  have hp : ∀ {k : Nat}, k ≠ a.block → (W.setCell a v).heap[k]? = W.heap[k]? := fun hk => Below.heap_setCell _ _ _ _ hk
  have k : ∀ {q o : Nat} {u : Value}, q ≠ a.block → W.cell? ⟨q, o, none⟩ = some u → (W.setCell a v).cell? ⟨q, o, none⟩ = some u := fun hq hu => by
    rw [World.cell?_of_block (w := W) (hp hq)]
    exact hu
  exact ⟨⟨by rw [hp h2]; exact h.g.x, k h3 h.g.p0, k h3 h.g.p1, k h4 h.g.d0, k h4 h.g.d1⟩, by rw [hp h1]; exact h.h6⟩
theorem AgI.set3 (h : AgI X p b d kb kc Y6 x r0 r1 W) (h1 : Y6 ≠ Y9) (h2 : X ≠ Y9) (h3 : p ≠ Y9) (h4 : d ≠ Y9) (u v y : Value) : AgI X p b d kb kc Y6 x r0 r1 (((W.setCell ⟨Y9, 0, none⟩ u).setCell ⟨Y9, 1, none⟩ v).setCell ⟨Y9, 2, none⟩ y) :=
  ((h.set1 (a := ⟨Y9, 0, none⟩) h1 h2 h3 h4 u).set1 (a := ⟨Y9, 1, none⟩) h1 h2 h3 h4 v).set1 (a := ⟨Y9, 2, none⟩) h1 h2 h3 h4 y
end
def Ans (w : World) (f : Nat) (args : Array Value) (v : Value) : Prop := ∀ W, Below w.heap.size w W → Calls Try.prog f args W fun e w' => e = .returned v ∧ Below W.heap.size W w'
structure AgC (w : World) (b d kb c : Nat) (x : Sb) (F lq : Qt.T) (xs : List Int) (fi own r0 r1 le ki : Int) : Prop where
  c17 : Ans w 17 #[pq b] (.agg #[i64 F.a, i64 F.b, i64 F.c])
  c41 : Ans w 41 #[pq kb] (.agg #[i64 F.a, i64 F.b, i64 F.c])
  c27 : Ans w 27 #[pq b, i64 x.env] (i64 (c : Nat))
  c42 : Ans w 42 #[pq d, i64 x.env] (i64 (c : Nat))
  c23 : ∀ W, Below w.heap.size w W → Calls Try.prog 23 #[pq b, i64 x.env, i64 x.kind] W fun e w' => ∃ v, e = .returned v ∧ w'.ownsRow W.heap.size 3 1 v xs.length (icells xs) ∧ Below W.heap.size W w'
  c44 : ∀ W, Below w.heap.size w W → Calls Try.prog 44 #[pq d, i64 x.env, i64 x.kind] W fun e w' => ∃ v, e = .returned v ∧ w'.ownsRow W.heap.size 3 1 v xs.length (icells xs) ∧ Below W.heap.size W w'
  lx : xs.length ≤ 1000
  c45 : Ans w 45 #[pq d, i64 x.kind, i64 x.n] (i64 fi)
  c26 : Ans w 26 #[pq b, i64 x.env] (.tuple #[.agg #[i64 lq.a, i64 lq.b, i64 lq.c], i64 le])
  c46 : Ans w 46 #[pq kb, i64 x.env] (i64 ki)
  c47 : ki = -1 ∧ le = 6 ∧ lq = ⟨0, 0, 0⟩ ∨ (∃ k : Nat, ki = (k : Nat)) ∧ le = 0 ∧ Ans w 47 #[pq kb, i64 ki] (.agg #[i64 lq.a, i64 lq.b, i64 lq.c])
  c14 : Ans w 14 #[pq b, i64 x.kind, i64 x.n] (i64 own)
  c15 : Ans w 15 #[pq b, i64 x.kind, i64 x.n] (.agg #[i64 r0, i64 r1])
set_option maxHeartbeats 12800000 in
theorem agrees_none (w : World) (p b d kb kc c : Nat) (x : Sb) (F lq : Qt.T) (xs : List Int) (le ki : Int) (hC : AgC w b d kb c x F lq xs (-1) 0 0 0 le ki) (p0 : w.cell? ⟨p, 0, none⟩ = some (pq b)) (p1 : w.cell? ⟨p, 1, none⟩ = some (pq d)) (d0 : w.cell? ⟨d, 0, none⟩ = some (pq kc)) (d1 : w.cell? ⟨d, 1, none⟩ = some (pq kb)) : Calls Try.prog 13 #[pq p, x.v] w fun e w' => e = .returned (.bool true) ∧ Below w.heap.size w w' := by
  have HC := hid hC
  obtain ⟨V, hV⟩ : ∃ V, V = w.alloc (sbO x) := ⟨_, rfl⟩
  have HV : Hid (w.alloc (.cells #[i64 x.what, i64 x.env, i64 x.kind, i64 x.n, i64 x.tt, i64 x.rts, .bool x.by_, i64 x.q.a, i64 x.q.b, i64 x.q.c] 33) = V) := hV.symm
  have hbV : Below w.heap.size w V := by rw [hV]; exact bl1 w _
  obtain ⟨X, hX⟩ : ∃ X, X = w.heap.size := ⟨_, rfl⟩
  have hx : V.heap[X]? = some (sbO x) := by rw [hV, hX]; exact hlx w _
  have k : ∀ {a v}, w.cell? a = some v → V.cell? a = some v := fun ha => by
    rw [World.cell?_of_block (w := w) (hbV.block _ (World.block_lt_of_cell? w _ ha))]
    exact ha
  have HS0 : Hid (AgG X p b d kb kc x V) := ⟨hx, k p0, k p1, k d0, k d1⟩
  have HB0 := hid hbV
  have HXE := hid hX
  clear hC hV hbV hx p0 p1 d0 d1 k hX
  go_enter Try.func13, Try.ntmps13
  go_upto_region 1 with fail
  rw [HV.out, ← HXE.out]
  have HSV : Hid (AgG X p b d kb kc x V.drew) := HS0.out.drew
  have HBV : Hid (Below w.heap.size w V.drew) := HB0.out.drew
  refine wp_region_noPanic ?_
  refine wrl (AgG X p b d kb kc x) 52 (by kernel_rfl) ?_
  refine wkp 0 12 (.pointer (some ⟨p, 0, none⟩)) [1, 2, 3, 4, 12, 14, 28, 31] rfl HSV.out (fun W hW => by go_simp) ?_
  simp only [Act.put, sA, sZ, sS]
  refine wkp 1 13 (.pointer (some ⟨p, 0, none⟩)) [2, 3, 4, 12, 14, 28, 31] rfl HSV.out (fun W hW => by go_simp) ?_
  simp only [Act.put, sA, sZ, sS]
  refine wkp 2 14 (.pointer (some ⟨p, 0, none⟩)) [3, 4, 12, 14, 28, 31] rfl HSV.out (fun W hW => by go_simp) ?_
  simp only [Act.put, sA, sZ, sS]
  refine wkp 3 15 (.pointer (some ⟨b, 0, none⟩)) [4, 12, 14, 28, 31] rfl HSV.out (fun W hW => by have p0 := hW.p0; go_simp) ?_
  simp only [Act.put, sA, sZ, sS]
  refine wkp 5 17 (.pointer (some ⟨p, 0, none⟩)) [6, 7, 8, 9, 10, 11, 12, 14, 28, 31] rfl HSV.out (fun W hW => by go_simp) ?_
  simp only [Act.put, sA, sZ, sS]
  refine wkp 6 18 (.pointer (some ⟨p, 0, none⟩)) [7, 8, 9, 10, 11, 12, 14, 28, 31] rfl HSV.out (fun W hW => by go_simp) ?_
  simp only [Act.put, sA, sZ, sS]
  refine wkp 7 19 (.pointer (some ⟨p, 1, none⟩)) [8, 9, 10, 11, 12, 14, 28, 31] rfl HSV.out (fun W hW => by go_simp) ?_
  simp only [Act.put, sA, sZ, sS]
  refine wkp 8 20 (.pointer (some ⟨d, 0, none⟩)) [9, 10, 11, 12, 14, 28, 31] rfl HSV.out (fun W hW => by have p1 := hW.p1; go_simp) ?_
  simp only [Act.put, sA, sZ, sS]
  refine wkp 9 21 (.pointer (some ⟨d, 0, none⟩)) [10, 11, 12, 14, 28, 31] rfl HSV.out (fun W hW => by go_simp) ?_
  simp only [Act.put, sA, sZ, sS]
  refine wkp 10 22 (.pointer (some ⟨d, 1, none⟩)) [11, 12, 14, 28, 31] rfl HSV.out (fun W hW => by go_simp) ?_
  simp only [Act.put, sA, sZ, sS]
  refine wkp 11 23 (.pointer (some ⟨kb, 0, none⟩)) [12, 14, 28, 31] rfl HSV.out (fun W hW => by have d1 := hW.d1; go_simp) ?_
  simp only [Act.put, sA, sZ, sS]
  refine wo 4 rfl (fun K hK => ?_)
  go_simp
  refine (HC.out.c17 V.drew HBV.out).mono ?_
  rintro e w2 ⟨rfl, hb⟩
  have HSw2 : Hid (AgG X p b d kb kc x w2) := HSV.out.below hb
  have HBw2 : Hid (Below w.heap.size w w2) := HBV.out.trans (hb.mono HBV.out.size)
  clear hb
  go_simp
  refine hK.out _ _ (fun _ => HSw2.out) ?_
  clear hK K
  refine wo 12 rfl (fun K hK => ?_)
  go_simp
  refine (HC.out.c41 w2 HBw2.out).mono ?_
  rintro e w3 ⟨rfl, hb⟩
  have HSw3 : Hid (AgG X p b d kb kc x w3) := HSw2.out.below hb
  have HBw3 : Hid (Below w.heap.size w w3) := HBw2.out.trans (hb.mono HBw2.out.size)
  clear hb
  go_simp
  refine hK.out _ _ (fun _ => HSw3.out) ?_
  clear hK K
  refine wkp 13 25 (.bool false) [14, 28, 31] rfl HSw3.out (fun W hW => by have q := Qt.eqIn22 9998 F F W; simp only [decide_true, Nat.reduceAdd] at q; unfold Qt.T.v at q; go_simp; try rfl) ?_
  simp only [Act.put, sA, sZ, sS]
  refine wkp 14 26 (.bool false) [28, 31] rfl HSw3.out (fun W hW => by go_simp) ?_
  simp only [Act.put, sA, sZ, sS]
  refine wkp 15 27 (.pointer (some ⟨p, 0, none⟩)) [16, 17, 18, 21, 28, 31] rfl HSw3.out (fun W hW => by go_simp) ?_
  simp only [Act.put, sA, sZ, sS]
  refine wkp 16 28 (.pointer (some ⟨p, 0, none⟩)) [17, 18, 21, 28, 31] rfl HSw3.out (fun W hW => by go_simp) ?_
  simp only [Act.put, sA, sZ, sS]
  refine wkp 17 29 (.pointer (some ⟨p, 0, none⟩)) [18, 21, 28, 31] rfl HSw3.out (fun W hW => by go_simp) ?_
  simp only [Act.put, sA, sZ, sS]
  refine wkp 18 30 (.pointer (some ⟨b, 0, none⟩)) [21, 28, 31] rfl HSw3.out (fun W hW => by have p0 := hW.p0; go_simp) ?_
  simp only [Act.put, sA, sZ, sS]
  refine wkp 19 31 (.pointer (some ⟨X, 1, none⟩)) [20, 21, 28, 31] rfl HSw3.out (fun W hW => by go_simp) ?_
  simp only [Act.put, sA, sZ, sS]
  refine wkp 20 32 (i64 x.env) [21, 28, 31] rfl HSw3.out (fun W hW => by have x1 := bkc hW.x 1; go_simp) ?_
  simp only [Act.put, sA, sZ, sS]
  refine wkp 22 34 (.pointer (some ⟨p, 0, none⟩)) [23, 24, 25, 28, 31] rfl HSw3.out (fun W hW => by go_simp) ?_
  simp only [Act.put, sA, sZ, sS]
  refine wkp 23 35 (.pointer (some ⟨p, 0, none⟩)) [24, 25, 28, 31] rfl HSw3.out (fun W hW => by go_simp) ?_
  simp only [Act.put, sA, sZ, sS]
  refine wkp 24 36 (.pointer (some ⟨p, 1, none⟩)) [25, 28, 31] rfl HSw3.out (fun W hW => by go_simp) ?_
  simp only [Act.put, sA, sZ, sS]
  refine wkp 25 37 (.pointer (some ⟨d, 0, none⟩)) [28, 31] rfl HSw3.out (fun W hW => by have p1 := hW.p1; go_simp) ?_
  simp only [Act.put, sA, sZ, sS]
  refine wkp 26 38 (.pointer (some ⟨X, 1, none⟩)) [27, 28, 31] rfl HSw3.out (fun W hW => by go_simp) ?_
  simp only [Act.put, sA, sZ, sS]
  refine wkp 27 39 (i64 x.env) [28, 31] rfl HSw3.out (fun W hW => by have x1 := bkc hW.x 1; go_simp) ?_
  simp only [Act.put, sA, sZ, sS]
  refine wo 21 rfl (fun K hK => ?_)
  go_simp
  refine (HC.out.c27 w3 HBw3.out).mono ?_
  rintro e w4 ⟨rfl, hb⟩
  have HSw4 : Hid (AgG X p b d kb kc x w4) := HSw3.out.below hb
  have HBw4 : Hid (Below w.heap.size w w4) := HBw3.out.trans (hb.mono HBw3.out.size)
  clear hb
  go_simp
  refine hK.out _ _ (fun _ => HSw4.out) ?_
  clear hK K
  refine wo 28 rfl (fun K hK => ?_)
  go_simp
  refine (HC.out.c42 w4 HBw4.out).mono ?_
  rintro e w5 ⟨rfl, hb⟩
  have HSw5 : Hid (AgG X p b d kb kc x w5) := HSw4.out.below hb
  have HBw5 : Hid (Below w.heap.size w w5) := HBw4.out.trans (hb.mono HBw4.out.size)
  clear hb
  go_simp
  refine hK.out _ _ (fun _ => HSw5.out) ?_
  clear hK K
  refine wkp 29 41 (.bool false) [30, 31] rfl HSw5.out (fun W hW => by go_simp; try simp) ?_
  simp only [Act.put, sA, sZ, sS]
  refine wkp 30 42 (.bool false) [31] rfl HSw5.out (fun W hW => by go_simp) ?_
  simp only [Act.put, sA, sZ, sS]
  refine wk 31 43 (.bool false) rfl HSw5.out (fun W hW => by go_simp) ?_
  simp only [Act.put, sA, sZ, sS]
  refine wkp 32 44 (.pointer (some ⟨p, 0, none⟩)) [33, 34, 35, 40, 50, 51] rfl HSw5.out (fun W hW => by go_simp) ?_
  simp only [Act.put, sA, sZ, sS]
  refine wkp 33 45 (.pointer (some ⟨p, 0, none⟩)) [34, 35, 40, 50, 51] rfl HSw5.out (fun W hW => by go_simp) ?_
  simp only [Act.put, sA, sZ, sS]
  refine wkp 34 46 (.pointer (some ⟨p, 0, none⟩)) [35, 40, 50, 51] rfl HSw5.out (fun W hW => by go_simp) ?_
  simp only [Act.put, sA, sZ, sS]
  refine wkp 35 47 (.pointer (some ⟨b, 0, none⟩)) [40, 50, 51] rfl HSw5.out (fun W hW => by have p0 := hW.p0; go_simp) ?_
  simp only [Act.put, sA, sZ, sS]
  refine wkp 36 48 (.pointer (some ⟨X, 1, none⟩)) [37, 40, 50, 51] rfl HSw5.out (fun W hW => by go_simp) ?_
  simp only [Act.put, sA, sZ, sS]
  refine wkp 37 49 (i64 x.env) [40, 50, 51] rfl HSw5.out (fun W hW => by have x1 := bkc hW.x 1; go_simp) ?_
  simp only [Act.put, sA, sZ, sS]
  refine wkp 38 50 (.pointer (some ⟨X, 2, none⟩)) [39, 40, 50, 51] rfl HSw5.out (fun W hW => by go_simp) ?_
  simp only [Act.put, sA, sZ, sS]
  refine wkp 39 51 (i64 x.kind) [40, 50, 51] rfl HSw5.out (fun W hW => by have x2 := bkc hW.x 2; go_simp) ?_
  simp only [Act.put, sA, sZ, sS]
  refine wkp 41 53 (.pointer (some ⟨p, 0, none⟩)) [42, 43, 44, 49, 50, 51] rfl HSw5.out (fun W hW => by go_simp) ?_
  simp only [Act.put, sA, sZ, sS]
  refine wkp 42 54 (.pointer (some ⟨p, 0, none⟩)) [43, 44, 49, 50, 51] rfl HSw5.out (fun W hW => by go_simp) ?_
  simp only [Act.put, sA, sZ, sS]
  refine wkp 43 55 (.pointer (some ⟨p, 1, none⟩)) [44, 49, 50, 51] rfl HSw5.out (fun W hW => by go_simp) ?_
  simp only [Act.put, sA, sZ, sS]
  refine wkp 44 56 (.pointer (some ⟨d, 0, none⟩)) [49, 50, 51] rfl HSw5.out (fun W hW => by have p1 := hW.p1; go_simp) ?_
  simp only [Act.put, sA, sZ, sS]
  refine wkp 45 57 (.pointer (some ⟨X, 1, none⟩)) [46, 49, 50, 51] rfl HSw5.out (fun W hW => by go_simp) ?_
  simp only [Act.put, sA, sZ, sS]
  refine wkp 46 58 (i64 x.env) [49, 50, 51] rfl HSw5.out (fun W hW => by have x1 := bkc hW.x 1; go_simp) ?_
  simp only [Act.put, sA, sZ, sS]
  refine wkp 47 59 (.pointer (some ⟨X, 2, none⟩)) [48, 49, 50, 51] rfl HSw5.out (fun W hW => by go_simp) ?_
  simp only [Act.put, sA, sZ, sS]
  refine wkp 48 60 (i64 x.kind) [49, 50, 51] rfl HSw5.out (fun W hW => by have x2 := bkc hW.x 2; go_simp) ?_
  simp only [Act.put, sA, sZ, sS]
  refine wo 40 rfl (fun K hK => ?_)
  go_simp
  refine (HC.out.c23 w5 HBw5.out).mono ?_
  rintro e w6 ⟨va, rfl, ho, hb⟩
  have HSw6 : Hid (AgG X p b d kb kc x w6) := HSw5.out.below hb
  have HBw6 : Hid (Below w.heap.size w w6) := HBw5.out.trans (hb.mono HBw5.out.size)
  have HOa := hid ho
  have HZ : Hid (w5.heap.size ≤ w6.heap.size) := hb.size
  clear ho
  clear hb
  go_simp
  refine hK.out _ _ (fun _ => HSw6.out) ?_
  clear hK K
  refine wo 49 rfl (fun K hK => ?_)
  go_simp
  refine (HC.out.c44 w6 HBw6.out).mono ?_
  have HS56 : Hid (w5.heap.size ≤ w6.heap.size) := HZ.out
  rintro e w7 ⟨vc, rfl, ho, hb⟩
  have HSw7 : Hid (AgG X p b d kb kc x w7) := HSw6.out.below hb
  have HBw7 : Hid (Below w.heap.size w w7) := HBw6.out.trans (hb.mono HBw6.out.size)
  have HOc : Hid (w7.ownsRow w5.heap.size 3 1 vc xs.length (icells xs)) := own_lower ho HS56.out
  have HOd := hid (Qt.own_below HOa.out hb)
  clear ho
  clear hb
  go_simp
  refine hK.out _ _ (fun _ => HSw7.out) ?_
  clear hK K
  refine wo 50 rfl (fun K hK => ?_)
  go_simp
  refine (ints_ok HC.out.lx HOd.out HOc.out).mono ?_
  rintro e w8 ⟨rfl, hb⟩
  have HSw8 : Hid (AgG X p b d kb kc x w8) := HSw7.out.below hb
  have HBw8 : Hid (Below w.heap.size w w8) := HBw7.out.trans (hb.mono HBw7.out.size)
  clear hb
  go_simp
  refine hK.out _ _ (fun _ => HSw8.out) ?_
  clear hK K
  refine wk 51 63 (.bool false) rfl HSw8.out (fun W hW => by go_simp) ?_
  simp only [Act.put, sA, sZ, sS]
  refine wo 52 rfl (fun K hK => ?_)
  go_simp
  refine hK.out _ _ (fun h => absurd rfl h) ?_
  clear hK K
  refine wdd ?_
  refine NoPanic.normal ?_
  have HSU : Hid (AgI X p b d kb kc w8.heap.size x 0 0 (w8.alloc (.cells #[i64 0, i64 0] 81))) := ⟨HSw8.out.below (bl1 w8 _), hlx w8 _⟩
  have HBU : Hid (Below w.heap.size w (w8.alloc (.cells #[i64 0, i64 0] 81))) := HBw8.out.alloc HBw8.out.size _
  clear HSV HBV HSw2 HBw2 HSw3 HBw3 HSw4 HBw4 HSw5 HBw5 HSw6 HBw6 HSw7 HBw7 HOa HOc HOd HZ HS56 HSw8 HBw8
  go_upto_region 5 with fail
  generalize w8.alloc (.cells #[i64 0, i64 0] 81) = U at *
  generalize w8.heap.size = Y6 at *
  have HSUd : Hid (AgI X p b d kb kc Y6 x 0 0 U.drew) := HSU.out.drew
  have HBUd : Hid (Below w.heap.size w U.drew) := HBU.out.drew
  refine wp_region_noPanic ?_
  refine wrl (AgI X p b d kb kc Y6 x 0 0) 9 (by kernel_rfl) ?_
  refine wk 0 66 (.pointer (some ⟨p, 0, none⟩)) rfl HSUd.out (fun W hW => by go_simp) ?_
  simp only [Act.put, sA, sZ, sS]
  refine wk 1 67 (.pointer (some ⟨p, 0, none⟩)) rfl HSUd.out (fun W hW => by go_simp) ?_
  simp only [Act.put, sA, sZ, sS]
  refine wk 2 68 (.pointer (some ⟨p, 1, none⟩)) rfl HSUd.out (fun W hW => by go_simp) ?_
  simp only [Act.put, sA, sZ, sS]
  refine wk 3 69 (.pointer (some ⟨d, 0, none⟩)) rfl HSUd.out (fun W hW => by have p1 := hW.g.p1; go_simp) ?_
  simp only [Act.put, sA, sZ, sS]
  refine wk 4 70 (.pointer (some ⟨X, 2, none⟩)) rfl HSUd.out (fun W hW => by go_simp) ?_
  simp only [Act.put, sA, sZ, sS]
  refine wk 5 71 (i64 x.kind) rfl HSUd.out (fun W hW => by have x2 := bkc hW.g.x 2; go_simp) ?_
  simp only [Act.put, sA, sZ, sS]
  refine wk 6 72 (.pointer (some ⟨X, 3, none⟩)) rfl HSUd.out (fun W hW => by go_simp) ?_
  simp only [Act.put, sA, sZ, sS]
  refine wk 7 73 (i64 x.n) rfl HSUd.out (fun W hW => by have x3 := bkc hW.g.x 3; go_simp) ?_
  simp only [Act.put, sA, sZ, sS]
  refine wo 8 rfl (fun K hK => ?_)
  go_simp
  refine (HC.out.c45 U.drew HBUd.out).mono ?_
  rintro e w9 ⟨rfl, hb⟩
  have HSw9 : Hid (AgI X p b d kb kc Y6 x 0 0 w9) := HSUd.out.below hb
  have HBw9 : Hid (Below w.heap.size w w9) := HBUd.out.trans (hb.mono HBUd.out.size)
  clear hb
  go_simp
  refine hK.out _ _ (fun _ => HSw9.out) ?_
  clear hK K
  refine wo 9 rfl (fun K hK => ?_)
  go_simp
  refine hK.out _ _ (fun h => absurd rfl h) ?_
  clear hK K
  refine wdd ?_
  refine NoPanic.normal ?_
  clear HSU HBU HSUd HBUd
  go_upto_region 10 with fail
  have HSd : Hid (AgI X p b d kb kc Y6 x 0 0 w9.drew) := HSw9.out.drew
  have HBd : Hid (Below w.heap.size w w9.drew) := HBw9.out.drew
  refine wp_region_noPanic ?_
  refine wrl (AgI X p b d kb kc Y6 x 0 0) 12 (by kernel_rfl) ?_
  refine wk 0 117 (.pointer (some ⟨p, 0, none⟩)) rfl HSd.out (fun W hW => by go_simp) ?_
  simp only [Act.put, sA, sZ, sS]
  refine wk 1 118 (.pointer (some ⟨p, 0, none⟩)) rfl HSd.out (fun W hW => by go_simp) ?_
  simp only [Act.put, sA, sZ, sS]
  refine wk 2 119 (.pointer (some ⟨p, 0, none⟩)) rfl HSd.out (fun W hW => by go_simp) ?_
  simp only [Act.put, sA, sZ, sS]
  refine wk 3 120 (.pointer (some ⟨b, 0, none⟩)) rfl HSd.out (fun W hW => by have p0 := hW.g.p0; go_simp) ?_
  simp only [Act.put, sA, sZ, sS]
  refine wk 4 121 (.pointer (some ⟨X, 1, none⟩)) rfl HSd.out (fun W hW => by go_simp) ?_
  simp only [Act.put, sA, sZ, sS]
  refine wk 5 122 (i64 x.env) rfl HSd.out (fun W hW => by have x1 := bkc hW.g.x 1; go_simp) ?_
  simp only [Act.put, sA, sZ, sS]
  refine wpL_two 6 10 rfl rfl (by kernel_rfl) (by rfl) (by rfl) (fun K hK => ?_) (fun K hK => ?_)
  go_simp
  refine (HC.out.c26 w9.drew HBd.out).mono ?_
  rintro e w10 ⟨rfl, hb⟩
  have HS10 : Hid (AgI X p b d kb kc Y6 x 0 0 w10) := HSd.out.below hb
  have HB10 : Hid (Below w.heap.size w w10) := HBd.out.trans (hb.mono HBd.out.size)
  clear hb
  go_simp
  refine hK.out _ _ (fun _ => HS10.out) ?_
  clear hK K
  refine wk 7 116 (.tuple #[.agg #[i64 lq.a, i64 lq.b, i64 lq.c], i64 le]) rfl HS10.out (fun W hW => by go_simp) ?_
  simp only [Act.put, sA, sZ, sS]
  refine wk 8 124 (.agg #[i64 lq.a, i64 lq.b, i64 lq.c]) rfl HS10.out (fun W hW => by go_simp) ?_
  simp only [Act.put, sA, sZ, sS]
  refine wk 9 125 (i64 le) rfl HS10.out (fun W hW => by go_simp) ?_
  simp only [Act.put, sA, sZ, sS]
  refine wo 10 rfl (fun K hK => ?_)
  go_simp
  refine hK.out _ _ (fun _ => HS10.out.below (bl1 w10 _)) ?_
  clear hK K
  refine wo 11 rfl (fun K hK => ?_)
  go_simp
  refine hK.out _ _ (fun _ => HS10.out.below (bl1 w10 _)) ?_
  clear hK K
  refine wo 12 rfl (fun K hK => ?_)
  go_simp
  refine hK.out _ _ (fun h => absurd rfl h) ?_
  clear hK K
  refine wdd ?_
  refine NoPanic.normal ?_
  have HSu : Hid (AgJ X p b d kb kc Y6 w10.heap.size x 0 0 lq (w10.alloc (.cells #[i64 lq.a, i64 lq.b, i64 lq.c] 22))) := ⟨HS10.out.below (bl1 w10 _), hlx w10 _⟩
  have HBu : Hid (Below w.heap.size w (w10.alloc (.cells #[i64 lq.a, i64 lq.b, i64 lq.c] 22))) := HB10.out.alloc HB10.out.size _
  clear HS10 HB10 HSd HBd HSw9 HBw9
  generalize w10.alloc (.cells #[i64 lq.a, i64 lq.b, i64 lq.c] 22) = U2 at *
  generalize w10.heap.size = Y9 at *
  rotate_left
  go_simp
  refine hK.out _ _ (fun _ => HSd.out.below (bl1 w9.drew _)) ?_
  clear hK K
  have HSA : Hid (AgI X p b d kb kc Y6 x 0 0 (w9.alloc (.cells #[i64 0, i64 0, i64 0] 22)).drew) := HSd.out.below (bl1 w9.drew _)
  have HYA : Hid ((w9.alloc (.cells #[i64 0, i64 0, i64 0] 22)).drew.heap[w9.heap.size]? = some (.cells #[i64 0, i64 0, i64 0] 22)) := hlx w9 _
  have HBA : Hid (Below w.heap.size w (w9.alloc (.cells #[i64 0, i64 0, i64 0] 22)).drew) := (HBw9.out.alloc HBw9.out.size _).drew
  have hYw : w.heap.size ≤ w9.heap.size := HBw9.out.size
  generalize (w9.alloc (.cells #[i64 0, i64 0, i64 0] 22)).drew = V4 at *
  obtain ⟨Y9, hY⟩ : ∃ Y9, w9.heap.size = Y9 := ⟨_, rfl⟩
  have h69 : Y6 ≠ Y9 := by
    have h6 := blk_lt HSw9.out.h6
    omega
  have hX9 : X ≠ Y9 ∧ p ≠ Y9 ∧ d ≠ Y9 := by
    have h1 := blk_lt HSw9.out.g.x
    have h2 := World.block_lt_of_cell? w9 _ HSw9.out.g.p0
    have h3 := World.block_lt_of_cell? w9 _ HSw9.out.g.d0
    simp only at h2 h3
    omega
  rw [hY] at HYA hYw ⊢
  have HNE := hid (And.intro h69 hX9)
  clear hY h69 hX9 HSw9 HBw9 HSd HBd
  refine wo 6 rfl (fun K hK => ?_)
  go_simp
  refine (HC.out.c26 V4 HBA.out).mono ?_
  rintro e w10 ⟨rfl, hb⟩
  have HS10 : Hid (AgI X p b d kb kc Y6 x 0 0 w10) := HSA.out.below hb
  have HY10 := hid (bkb HYA.out hb)
  have HB10 : Hid (Below w.heap.size w w10) := HBA.out.trans (hb.mono HBA.out.size)
  clear hb HSA HYA HBA
  go_simp
  refine hK.out _ _ (fun _ => HS10.out) ?_
  clear hK K
  refine wk 7 116 (.tuple #[.agg #[i64 lq.a, i64 lq.b, i64 lq.c], i64 le]) rfl HS10.out (fun W hW => by go_simp) ?_
  simp only [Act.put, sA, sZ, sS]
  refine wk 8 124 (.agg #[i64 lq.a, i64 lq.b, i64 lq.c]) rfl HS10.out (fun W hW => by go_simp) ?_
  simp only [Act.put, sA, sZ, sS]
  refine wk 9 125 (i64 le) rfl HS10.out (fun W hW => by go_simp) ?_
  simp only [Act.put, sA, sZ, sS]
  have z0 : w10.cell? ⟨Y9, 0, none⟩ = some (i64 0) := bkc HY10.out 0
  have z1 : w10.cell? ⟨Y9, 1, none⟩ = some (i64 0) := bkc HY10.out 1
  have z2 : w10.cell? ⟨Y9, 2, none⟩ = some (i64 0) := bkc HY10.out 2
  have zf : ∀ j, w10.frozen? ⟨Y9, j, none⟩ = false := bkf HY10.out
  have HSs : Hid (AgI X p b d kb kc Y6 x 0 0 (((w10.setCell ⟨Y9, 0, none⟩ (i64 lq.a)).setCell ⟨Y9, 1, none⟩ (i64 lq.b)).setCell ⟨Y9, 2, none⟩ (i64 lq.c))) := HS10.out.set3 HNE.out.1 HNE.out.2.1 HNE.out.2.2.1 HNE.out.2.2.2 _ _ _
  refine wo 11 rfl (fun K hK => ?_)
  go_simp
  refine hK.out _ _ (fun _ => HSs.out) ?_
  clear hK K
  refine wo 12 rfl (fun K hK => ?_)
  go_simp
  refine hK.out _ _ (fun h => absurd rfl h) ?_
  clear hK K
  refine wdd ?_
  refine NoPanic.normal ?_
  have HSu : Hid (AgJ X p b d kb kc Y6 Y9 x 0 0 lq (((w10.setCell ⟨Y9, 0, none⟩ (i64 lq.a)).setCell ⟨Y9, 1, none⟩ (i64 lq.b)).setCell ⟨Y9, 2, none⟩ (i64 lq.c))) := ⟨HSs.out, Cp.set3 HY10.out _ _ _⟩
  have HBu : Hid (Below w.heap.size w (((w10.setCell ⟨Y9, 0, none⟩ (i64 lq.a)).setCell ⟨Y9, 1, none⟩ (i64 lq.b)).setCell ⟨Y9, 2, none⟩ (i64 lq.c))) := ((HB10.out.setCell (by exact hYw) _).setCell (by exact hYw) _).setCell (by exact hYw) _
  clear HS10 HB10 HY10 z0 z1 z2 zf HSs hYw HNE V4
  generalize (((w10.setCell ⟨Y9, 0, none⟩ (i64 lq.a)).setCell ⟨Y9, 1, none⟩ (i64 lq.b)).setCell ⟨Y9, 2, none⟩ (i64 lq.c)) = U2 at *
  rotate_left
  all_goals
    go_upto_region 11 with fail
    have HSd : Hid (AgJ X p b d kb kc Y6 Y9 x 0 0 lq U2.drew) := HSu.out.drew
    have HBd : Hid (Below w.heap.size w U2.drew) := HBu.out.drew
    refine wp_region_noPanic ?_
    refine wrl (AgJ X p b d kb kc Y6 Y9 x 0 0 lq) 10 (by kernel_rfl) ?_
    refine wk 0 126 (.pointer (some ⟨p, 0, none⟩)) rfl HSd.out (fun W hW => by go_simp) ?_
    simp only [Act.put, sA, sZ, sS]
    refine wk 1 127 (.pointer (some ⟨p, 0, none⟩)) rfl HSd.out (fun W hW => by go_simp) ?_
    simp only [Act.put, sA, sZ, sS]
    refine wk 2 128 (.pointer (some ⟨p, 1, none⟩)) rfl HSd.out (fun W hW => by go_simp) ?_
    simp only [Act.put, sA, sZ, sS]
    refine wk 3 129 (.pointer (some ⟨d, 0, none⟩)) rfl HSd.out (fun W hW => by have p1 := hW.i.g.p1; go_simp) ?_
    simp only [Act.put, sA, sZ, sS]
    refine wk 4 130 (.pointer (some ⟨d, 0, none⟩)) rfl HSd.out (fun W hW => by go_simp) ?_
    simp only [Act.put, sA, sZ, sS]
    refine wk 5 131 (.pointer (some ⟨d, 1, none⟩)) rfl HSd.out (fun W hW => by go_simp) ?_
    simp only [Act.put, sA, sZ, sS]
    refine wk 6 132 (.pointer (some ⟨kb, 0, none⟩)) rfl HSd.out (fun W hW => by have d1 := hW.i.g.d1; go_simp) ?_
    simp only [Act.put, sA, sZ, sS]
    refine wk 7 133 (.pointer (some ⟨X, 1, none⟩)) rfl HSd.out (fun W hW => by go_simp) ?_
    simp only [Act.put, sA, sZ, sS]
    refine wk 8 134 (i64 x.env) rfl HSd.out (fun W hW => by have x1 := bkc hW.i.g.x 1; go_simp) ?_
    simp only [Act.put, sA, sZ, sS]
    refine wo 9 rfl (fun K hK => ?_)
    go_simp
    refine (HC.out.c46 U2.drew HBd.out).mono ?_
    rintro e w11 ⟨rfl, hb⟩
    have HSw11 : Hid (AgJ X p b d kb kc Y6 Y9 x 0 0 lq w11) := HSd.out.below hb
    have HBw11 : Hid (Below w.heap.size w w11) := HBd.out.trans (hb.mono HBd.out.size)
    clear hb
    go_simp
    refine hK.out _ _ (fun _ => HSw11.out) ?_
    clear hK K
    refine wo 10 rfl (fun K hK => ?_)
    go_simp
    refine hK.out _ _ (fun h => absurd rfl h) ?_
    clear hK K
    refine wdd ?_
    refine NoPanic.normal ?_
    clear HSu HBu HSd HBd
    go_upto_region 12 with fail
    rcases HC.out.c47 with ⟨rfl, rfl, rfl⟩ | ⟨⟨k, rfl⟩, rfl, h47⟩
    · have HSd : Hid (AgJ X p b d kb kc Y6 Y9 x 0 0 ⟨0, 0, 0⟩ w11.drew) := HSw11.out.drew
      have HBd : Hid (Below w.heap.size w w11.drew) := HBw11.out.drew
      refine wp_region_noPanic ?_
      refine wrl (AgJ X p b d kb kc Y6 Y9 x 0 0 ⟨0, 0, 0⟩) 31 (by kernel_rfl) ?_
      refine wkp 0 136 (i64 (-1)) [1, 2, 5, 11] rfl HSd.out (fun W hW => by go_simp) ?_
      simp only [Act.put, sA, sZ, sS]
      refine wkp 1 137 (.bool true) [2, 5, 11] rfl HSd.out (fun W hW => by go_simp; try simp) ?_
      simp only [Act.put, sA, sZ, sS]
      refine wkp 2 138 (.bool true) [5, 11] rfl HSd.out (fun W hW => by go_simp) ?_
      simp only [Act.put, sA, sZ, sS]
      refine wkp 3 139 (i64 6) [4, 5, 11] rfl HSd.out (fun W hW => by go_simp) ?_
      simp only [Act.put, sA, sZ, sS]
      refine wkp 4 140 (.bool false) [5, 11] rfl HSd.out (fun W hW => by go_simp; try simp) ?_
      simp only [Act.put, sA, sZ, sS]
      refine wkp 5 141 (.bool false) [11] rfl HSd.out (fun W hW => by go_simp) ?_
      simp only [Act.put, sA, sZ, sS]
      refine wkp 6 142 (.agg #[i64 0, i64 0, i64 0]) [8, 9, 10, 11] rfl HSd.out (fun W hW => by have v0 := bkc hW.h9 0; have v1 := bkc hW.h9 1; have v2 := bkc hW.h9 2; go_simp) ?_
      simp only [Act.put, sA, sZ, sS]
      refine wkp 7 143 (.agg #[i64 0, i64 0, i64 0]) [8, 9, 10, 11] rfl HSd.out (fun W hW => by go_simp) ?_
      simp only [Act.put, sA, sZ, sS]
      refine wkp 8 144 (.bool false) [9, 10, 11] rfl HSd.out (fun W hW => by have q := Qt.eqIn22 9998 (⟨0, 0, 0⟩ : Qt.T) (⟨0, 0, 0⟩ : Qt.T) W; simp only [decide_true, Nat.reduceAdd] at q; unfold Qt.T.v at q; go_simp; try rfl) ?_
      simp only [Act.put, sA, sZ, sS]
      refine wkp 9 145 (.bool false) [10, 11] rfl HSd.out (fun W hW => by go_simp) ?_
      simp only [Act.put, sA, sZ, sS]
      refine wkp 10 146 (.bool false) [11] rfl HSd.out (fun W hW => by go_simp) ?_
      simp only [Act.put, sA, sZ, sS]
      refine wk 11 147 (.bool false) rfl HSd.out (fun W hW => by go_simp) ?_
      simp only [Act.put, sA, sZ, sS]
      refine wkp 12 148 (i64 (-1)) [13, 14, 30] rfl HSd.out (fun W hW => by go_simp) ?_
      simp only [Act.put, sA, sZ, sS]
      refine wkp 13 149 (.bool false) [14, 30] rfl HSd.out (fun W hW => by go_simp; try simp) ?_
      simp only [Act.put, sA, sZ, sS]
      refine wkp 14 150 (.bool false) [30] rfl HSd.out (fun W hW => by go_simp) ?_
      simp only [Act.put, sA, sZ, sS]
      refine wpL_skip 15 151 [16, 17, 29, 30] rfl rfl (by kernel_rfl) (by decide) (by kernel_rfl) (by kernel_rfl) (by kernel_rfl) (fun _ _ _ h => h) HSd.out (by rfl) ?_
      simp only [Act.put, sA, sZ, sS]
      refine wpL_skip 16 152 [17, 29, 30] rfl rfl (by kernel_rfl) (by decide) (by kernel_rfl) (by kernel_rfl) (by kernel_rfl) (fun _ _ _ h => h) HSd.out (by rfl) ?_
      simp only [Act.put, sA, sZ, sS]
      refine wpL_skip 17 153 [29, 30] rfl rfl (by kernel_rfl) (by decide) (by kernel_rfl) (by kernel_rfl) (by kernel_rfl) (fun _ _ _ h => h) HSd.out (by rfl) ?_
      simp only [Act.put, sA, sZ, sS]
      refine wpL_skip 18 154 [28, 29, 30] rfl rfl (by kernel_rfl) (by decide) (by kernel_rfl) (by kernel_rfl) (by kernel_rfl) (fun _ _ _ h => h) HSd.out (by rfl) ?_
      simp only [Act.put, sA, sZ, sS]
      refine wpL_skip 19 155 [20, 21, 22, 23, 24, 25, 27, 28, 29, 30] rfl rfl (by kernel_rfl) (by decide) (by kernel_rfl) (by kernel_rfl) (by kernel_rfl) (fun _ _ _ h => h) HSd.out (by rfl) ?_
      simp only [Act.put, sA, sZ, sS]
      refine wpL_skip 20 156 [21, 22, 23, 24, 25, 27, 28, 29, 30] rfl rfl (by kernel_rfl) (by decide) (by kernel_rfl) (by kernel_rfl) (by kernel_rfl) (fun _ _ _ h => h) HSd.out (by rfl) ?_
      simp only [Act.put, sA, sZ, sS]
      refine wpL_skip 21 157 [22, 23, 24, 25, 27, 28, 29, 30] rfl rfl (by kernel_rfl) (by decide) (by kernel_rfl) (by kernel_rfl) (by kernel_rfl) (fun _ _ _ h => h) HSd.out (by rfl) ?_
      simp only [Act.put, sA, sZ, sS]
      refine wpL_skip 22 158 [23, 24, 25, 27, 28, 29, 30] rfl rfl (by kernel_rfl) (by decide) (by kernel_rfl) (by kernel_rfl) (by kernel_rfl) (fun _ _ _ h => h) HSd.out (by rfl) ?_
      simp only [Act.put, sA, sZ, sS]
      refine wpL_skip 23 159 [24, 25, 27, 28, 29, 30] rfl rfl (by kernel_rfl) (by decide) (by kernel_rfl) (by kernel_rfl) (by kernel_rfl) (fun _ _ _ h => h) HSd.out (by rfl) ?_
      simp only [Act.put, sA, sZ, sS]
      refine wpL_skip 24 160 [25, 27, 28, 29, 30] rfl rfl (by kernel_rfl) (by decide) (by kernel_rfl) (by kernel_rfl) (by kernel_rfl) (fun _ _ _ h => h) HSd.out (by rfl) ?_
      simp only [Act.put, sA, sZ, sS]
      refine wpL_skip 25 161 [27, 28, 29, 30] rfl rfl (by kernel_rfl) (by decide) (by kernel_rfl) (by kernel_rfl) (by kernel_rfl) (fun _ _ _ h => h) HSd.out (by rfl) ?_
      simp only [Act.put, sA, sZ, sS]
      refine wpL_skip 26 162 [27, 28, 29, 30] rfl rfl (by kernel_rfl) (by decide) (by kernel_rfl) (by kernel_rfl) (by kernel_rfl) (fun _ _ _ h => h) HSd.out (by rfl) ?_
      simp only [Act.put, sA, sZ, sS]
      refine wpL_skip 27 163 [28, 29, 30] rfl rfl (by kernel_rfl) (by decide) (by kernel_rfl) (by kernel_rfl) (by kernel_rfl) (fun _ _ _ h => h) HSd.out (by rfl) ?_
      simp only [Act.put, sA, sZ, sS]
      refine wpL_skip 28 164 [29, 30] rfl rfl (by kernel_rfl) (by decide) (by kernel_rfl) (by kernel_rfl) (by kernel_rfl) (fun _ _ _ h => h) HSd.out (by rfl) ?_
      simp only [Act.put, sA, sZ, sS]
      refine wpL_skip 29 165 [30] rfl rfl (by kernel_rfl) (by decide) (by kernel_rfl) (by kernel_rfl) (by kernel_rfl) (fun _ _ _ h => h) HSd.out (by rfl) ?_
      simp only [Act.put, sA, sZ, sS]
      refine wk 30 166 (.bool false) rfl HSd.out (fun W hW => by go_simp) ?_
      simp only [Act.put, sA, sZ, sS]
      refine wo 31 rfl (fun K hK => ?_)
      go_simp
      refine hK.out _ _ (fun h => absurd rfl h) ?_
      clear hK K
      refine wdd ?_
      refine NoPanic.normal ?_
      have HSe := HSd
      have HBe := HBd
      go_upto_region 14 with fail
      have HS14 : Hid (AgJ X p b d kb kc Y6 Y9 x 0 0 ⟨0, 0, 0⟩ w11.drew.drew) := HSe.out.drew
      have HB14 : Hid (Below w.heap.size w w11.drew.drew) := HBe.out.drew
      refine wp_region_noPanic ?_
      refine wrl (AgJ X p b d kb kc Y6 Y9 x 0 0 ⟨0, 0, 0⟩) 25 (by kernel_rfl) ?_
      refine wk 0 168 (.pointer (some ⟨p, 0, none⟩)) rfl HS14.out (fun W hW => by go_simp) ?_
      simp only [Act.put, sA, sZ, sS]
      refine wk 1 169 (.pointer (some ⟨p, 0, none⟩)) rfl HS14.out (fun W hW => by go_simp) ?_
      simp only [Act.put, sA, sZ, sS]
      refine wk 2 170 (.pointer (some ⟨p, 0, none⟩)) rfl HS14.out (fun W hW => by go_simp) ?_
      simp only [Act.put, sA, sZ, sS]
      refine wk 3 171 (.pointer (some ⟨b, 0, none⟩)) rfl HS14.out (fun W hW => by have p0 := hW.i.g.p0; go_simp) ?_
      simp only [Act.put, sA, sZ, sS]
      refine wk 4 172 (.pointer (some ⟨X, 2, none⟩)) rfl HS14.out (fun W hW => by go_simp) ?_
      simp only [Act.put, sA, sZ, sS]
      refine wk 5 173 (i64 x.kind) rfl HS14.out (fun W hW => by have x2 := bkc hW.i.g.x 2; go_simp) ?_
      simp only [Act.put, sA, sZ, sS]
      refine wk 6 174 (.pointer (some ⟨X, 3, none⟩)) rfl HS14.out (fun W hW => by go_simp) ?_
      simp only [Act.put, sA, sZ, sS]
      refine wk 7 175 (i64 x.n) rfl HS14.out (fun W hW => by have x3 := bkc hW.i.g.x 3; go_simp) ?_
      simp only [Act.put, sA, sZ, sS]
      refine wk 9 177 (i64 0) rfl HS14.out (fun W hW => by go_simp) ?_
      simp only [Act.put, sA, sZ, sS]
      refine wo 8 rfl (fun K hK => ?_)
      go_simp
      refine (HC.out.c14 w11.drew.drew HB14.out).mono ?_
      rintro e w13 ⟨rfl, hb⟩
      have HSw13 : Hid (AgJ X p b d kb kc Y6 Y9 x 0 0 ⟨0, 0, 0⟩ w13) := HS14.out.below hb
      have HBw13 : Hid (Below w.heap.size w w13) := HB14.out.trans (hb.mono HB14.out.size)
      clear hb
      go_simp
      refine hK.out _ _ (fun _ => HSw13.out) ?_
      clear hK K
      refine wk 10 178 (.bool true) rfl HSw13.out (fun W hW => by go_simp; try simp) ?_
      simp only [Act.put, sA, sZ, sS]
      refine wk 11 179 (.bool true) rfl HSw13.out (fun W hW => by go_simp) ?_
      simp only [Act.put, sA, sZ, sS]
      refine wk 12 180 (.pointer (some ⟨p, 0, none⟩)) rfl HSw13.out (fun W hW => by go_simp) ?_
      simp only [Act.put, sA, sZ, sS]
      refine wk 13 181 (.pointer (some ⟨p, 0, none⟩)) rfl HSw13.out (fun W hW => by go_simp) ?_
      simp only [Act.put, sA, sZ, sS]
      refine wk 14 182 (.pointer (some ⟨p, 0, none⟩)) rfl HSw13.out (fun W hW => by go_simp) ?_
      simp only [Act.put, sA, sZ, sS]
      refine wk 15 183 (.pointer (some ⟨b, 0, none⟩)) rfl HSw13.out (fun W hW => by have p0 := hW.i.g.p0; go_simp) ?_
      simp only [Act.put, sA, sZ, sS]
      refine wk 16 184 (.pointer (some ⟨X, 2, none⟩)) rfl HSw13.out (fun W hW => by go_simp) ?_
      simp only [Act.put, sA, sZ, sS]
      refine wk 17 185 (i64 x.kind) rfl HSw13.out (fun W hW => by have x2 := bkc hW.i.g.x 2; go_simp) ?_
      simp only [Act.put, sA, sZ, sS]
      refine wk 18 186 (.pointer (some ⟨X, 3, none⟩)) rfl HSw13.out (fun W hW => by go_simp) ?_
      simp only [Act.put, sA, sZ, sS]
      refine wk 19 187 (i64 x.n) rfl HSw13.out (fun W hW => by have x3 := bkc hW.i.g.x 3; go_simp) ?_
      simp only [Act.put, sA, sZ, sS]
      refine wk 22 190 (.agg #[i64 0, i64 0]) rfl HSw13.out (fun W hW => by have y0 := bkc hW.i.h6 0; have y1 := bkc hW.i.h6 1; go_simp) ?_
      simp only [Act.put, sA, sZ, sS]
      refine wo 20 rfl (fun K hK => ?_)
      go_simp
      refine (HC.out.c15 w13 HBw13.out).mono ?_
      rintro e w14 ⟨rfl, hb⟩
      have HSw14 : Hid (AgJ X p b d kb kc Y6 Y9 x 0 0 ⟨0, 0, 0⟩ w14) := HSw13.out.below hb
      have HBw14 : Hid (Below w.heap.size w w14) := HBw13.out.trans (hb.mono HBw13.out.size)
      clear hb
      go_simp
      refine hK.out _ _ (fun _ => HSw14.out) ?_
      clear hK K
      refine wo 21 rfl (fun K hK => ?_)
      go_simp
      refine (ref_ok w14 0 0).mono ?_
      rintro e w15 ⟨rfl, hb⟩
      have HSw15 : Hid (AgJ X p b d kb kc Y6 Y9 x 0 0 ⟨0, 0, 0⟩ w15) := HSw14.out.below hb
      have HBw15 : Hid (Below w.heap.size w w15) := HBw14.out.trans (hb.mono HBw14.out.size)
      clear hb
      go_simp
      refine hK.out _ _ (fun _ => HSw15.out) ?_
      clear hK K
      refine wk 23 191 (.bool true) rfl HSw15.out (fun W hW => by have q := eq81 0 0 W; go_simp; try rfl) ?_
      simp only [Act.put, sA, sZ, sS]
      refine wk 24 192 (.bool true) rfl HSw15.out (fun W hW => by go_simp) ?_
      simp only [Act.put, sA, sZ, sS]
      refine wo 25 rfl (fun K hK => ?_)
      go_simp
      refine hK.out _ _ (fun h => absurd rfl h) ?_
      clear hK K
      refine wdd ?_
      refine NoPanic.normal ?_
      go_wp2_with fail
      go_ret
      exact ⟨rfl, HBw15.out⟩
    · have HC47 := hid h47
      clear h47
      have HSd : Hid (AgJ X p b d kb kc Y6 Y9 x 0 0 lq w11.drew) := HSw11.out.drew
      have HBd : Hid (Below w.heap.size w w11.drew) := HBw11.out.drew
      refine wp_region_noPanic ?_
      refine wrl (AgJ X p b d kb kc Y6 Y9 x 0 0 lq) 31 (by kernel_rfl) ?_
      refine wkp 0 136 (i64 (k : Nat)) [1, 2, 5, 11] rfl HSd.out (fun W hW => by go_simp) ?_
      simp only [Act.put, sA, sZ, sS]
      refine wkp 1 137 (.bool false) [2, 5, 11] rfl HSd.out (fun W hW => by have hk0 : decide ((k : Int) < 0) = false := decide_eq_false (by omega); have hk1 : decide ((0 : Int) ≤ (k : Int)) = true := decide_eq_true (by omega); go_simp; try simp) ?_
      simp only [Act.put, sA, sZ, sS]
      refine wkp 2 138 (.bool false) [5, 11] rfl HSd.out (fun W hW => by go_simp) ?_
      simp only [Act.put, sA, sZ, sS]
      refine wpL_skip 3 139 [4, 5, 11] rfl rfl (by kernel_rfl) (by decide) (by kernel_rfl) (by kernel_rfl) (by kernel_rfl) (fun _ _ _ h => h) HSd.out (by rfl) ?_
      simp only [Act.put, sA, sZ, sS]
      refine wpL_skip 4 140 [5, 11] rfl rfl (by kernel_rfl) (by decide) (by kernel_rfl) (by kernel_rfl) (by kernel_rfl) (fun _ _ _ h => h) HSd.out (by rfl) ?_
      simp only [Act.put, sA, sZ, sS]
      refine wpL_skip 5 141 [11] rfl rfl (by kernel_rfl) (by decide) (by kernel_rfl) (by kernel_rfl) (by kernel_rfl) (fun _ _ _ h => h) HSd.out (by rfl) ?_
      simp only [Act.put, sA, sZ, sS]
      refine wpL_skip 6 142 [8, 9, 10, 11] rfl rfl (by kernel_rfl) (by decide) (by kernel_rfl) (by kernel_rfl) (by kernel_rfl) (fun _ _ _ h => h) HSd.out (by rfl) ?_
      simp only [Act.put, sA, sZ, sS]
      refine wpL_skip 7 143 [8, 9, 10, 11] rfl rfl (by kernel_rfl) (by decide) (by kernel_rfl) (by kernel_rfl) (by kernel_rfl) (fun _ _ _ h => h) HSd.out (by rfl) ?_
      simp only [Act.put, sA, sZ, sS]
      refine wpL_skip 8 144 [9, 10, 11] rfl rfl (by kernel_rfl) (by decide) (by kernel_rfl) (by kernel_rfl) (by kernel_rfl) (fun _ _ _ h => h) HSd.out (by rfl) ?_
      simp only [Act.put, sA, sZ, sS]
      refine wpL_skip 9 145 [10, 11] rfl rfl (by kernel_rfl) (by decide) (by kernel_rfl) (by kernel_rfl) (by kernel_rfl) (fun _ _ _ h => h) HSd.out (by rfl) ?_
      simp only [Act.put, sA, sZ, sS]
      refine wkp 10 146 (.bool false) [11] rfl HSd.out (fun W hW => by go_simp) ?_
      simp only [Act.put, sA, sZ, sS]
      refine wk 11 147 (.bool false) rfl HSd.out (fun W hW => by go_simp) ?_
      simp only [Act.put, sA, sZ, sS]
      refine wkp 12 148 (i64 (k : Nat)) [13, 14, 30] rfl HSd.out (fun W hW => by go_simp) ?_
      simp only [Act.put, sA, sZ, sS]
      refine wkp 13 149 (.bool true) [14, 30] rfl HSd.out (fun W hW => by have hk0 : decide ((k : Int) < 0) = false := decide_eq_false (by omega); have hk1 : decide ((0 : Int) ≤ (k : Int)) = true := decide_eq_true (by omega); go_simp; try simp) ?_
      simp only [Act.put, sA, sZ, sS]
      refine wkp 14 150 (.bool true) [30] rfl HSd.out (fun W hW => by go_simp) ?_
      simp only [Act.put, sA, sZ, sS]
      refine wkp 15 151 (i64 0) [16, 17, 29, 30] rfl HSd.out (fun W hW => by go_simp) ?_
      simp only [Act.put, sA, sZ, sS]
      refine wkp 16 152 (.bool false) [17, 29, 30] rfl HSd.out (fun W hW => by go_simp; try simp) ?_
      simp only [Act.put, sA, sZ, sS]
      refine wkp 17 153 (.bool false) [29, 30] rfl HSd.out (fun W hW => by go_simp) ?_
      simp only [Act.put, sA, sZ, sS]
      refine wkp 18 154 (.agg #[i64 lq.a, i64 lq.b, i64 lq.c]) [28, 29, 30] rfl HSd.out (fun W hW => by have v0 := bkc hW.h9 0; have v1 := bkc hW.h9 1; have v2 := bkc hW.h9 2; go_simp) ?_
      simp only [Act.put, sA, sZ, sS]
      refine wkp 19 155 (.pointer (some ⟨p, 0, none⟩)) [20, 21, 22, 23, 24, 25, 27, 28, 29, 30] rfl HSd.out (fun W hW => by go_simp) ?_
      simp only [Act.put, sA, sZ, sS]
      refine wkp 20 156 (.pointer (some ⟨p, 0, none⟩)) [21, 22, 23, 24, 25, 27, 28, 29, 30] rfl HSd.out (fun W hW => by go_simp) ?_
      simp only [Act.put, sA, sZ, sS]
      refine wkp 21 157 (.pointer (some ⟨p, 1, none⟩)) [22, 23, 24, 25, 27, 28, 29, 30] rfl HSd.out (fun W hW => by go_simp) ?_
      simp only [Act.put, sA, sZ, sS]
      refine wkp 22 158 (.pointer (some ⟨d, 0, none⟩)) [23, 24, 25, 27, 28, 29, 30] rfl HSd.out (fun W hW => by have p1 := hW.i.g.p1; go_simp) ?_
      simp only [Act.put, sA, sZ, sS]
      refine wkp 23 159 (.pointer (some ⟨d, 0, none⟩)) [24, 25, 27, 28, 29, 30] rfl HSd.out (fun W hW => by go_simp) ?_
      simp only [Act.put, sA, sZ, sS]
      refine wkp 24 160 (.pointer (some ⟨d, 1, none⟩)) [25, 27, 28, 29, 30] rfl HSd.out (fun W hW => by go_simp) ?_
      simp only [Act.put, sA, sZ, sS]
      refine wkp 25 161 (.pointer (some ⟨kb, 0, none⟩)) [27, 28, 29, 30] rfl HSd.out (fun W hW => by have d1 := hW.i.g.d1; go_simp) ?_
      simp only [Act.put, sA, sZ, sS]
      refine wkp 26 162 (i64 (k : Nat)) [27, 28, 29, 30] rfl HSd.out (fun W hW => by go_simp) ?_
      simp only [Act.put, sA, sZ, sS]
      refine wo 27 rfl (fun K hK => ?_)
      go_simp
      refine (HC47.out w11.drew HBd.out).mono ?_
      rintro e w12 ⟨rfl, hb⟩
      have HSw12 : Hid (AgJ X p b d kb kc Y6 Y9 x 0 0 lq w12) := HSd.out.below hb
      have HBw12 : Hid (Below w.heap.size w w12) := HBd.out.trans (hb.mono HBd.out.size)
      clear hb
      go_simp
      refine hK.out _ _ (fun _ => HSw12.out) ?_
      clear hK K
      refine wkp 28 164 (.bool false) [29, 30] rfl HSw12.out (fun W hW => by have q := Qt.eqIn22 9998 lq lq W; simp only [decide_true, Nat.reduceAdd] at q; unfold Qt.T.v at q; go_simp; try rfl) ?_
      simp only [Act.put, sA, sZ, sS]
      refine wkp 29 165 (.bool false) [30] rfl HSw12.out (fun W hW => by go_simp) ?_
      simp only [Act.put, sA, sZ, sS]
      refine wk 30 166 (.bool false) rfl HSw12.out (fun W hW => by go_simp) ?_
      simp only [Act.put, sA, sZ, sS]
      refine wo 31 rfl (fun K hK => ?_)
      go_simp
      refine hK.out _ _ (fun h => absurd rfl h) ?_
      clear hK K
      refine wdd ?_
      refine NoPanic.normal ?_
      have HSe := HSw12
      have HBe := HBw12
      go_upto_region 14 with fail
      have HS14 : Hid (AgJ X p b d kb kc Y6 Y9 x 0 0 lq w12.drew) := HSe.out.drew
      have HB14 : Hid (Below w.heap.size w w12.drew) := HBe.out.drew
      refine wp_region_noPanic ?_
      refine wrl (AgJ X p b d kb kc Y6 Y9 x 0 0 lq) 25 (by kernel_rfl) ?_
      refine wk 0 168 (.pointer (some ⟨p, 0, none⟩)) rfl HS14.out (fun W hW => by go_simp) ?_
      simp only [Act.put, sA, sZ, sS]
      refine wk 1 169 (.pointer (some ⟨p, 0, none⟩)) rfl HS14.out (fun W hW => by go_simp) ?_
      simp only [Act.put, sA, sZ, sS]
      refine wk 2 170 (.pointer (some ⟨p, 0, none⟩)) rfl HS14.out (fun W hW => by go_simp) ?_
      simp only [Act.put, sA, sZ, sS]
      refine wk 3 171 (.pointer (some ⟨b, 0, none⟩)) rfl HS14.out (fun W hW => by have p0 := hW.i.g.p0; go_simp) ?_
      simp only [Act.put, sA, sZ, sS]
      refine wk 4 172 (.pointer (some ⟨X, 2, none⟩)) rfl HS14.out (fun W hW => by go_simp) ?_
      simp only [Act.put, sA, sZ, sS]
      refine wk 5 173 (i64 x.kind) rfl HS14.out (fun W hW => by have x2 := bkc hW.i.g.x 2; go_simp) ?_
      simp only [Act.put, sA, sZ, sS]
      refine wk 6 174 (.pointer (some ⟨X, 3, none⟩)) rfl HS14.out (fun W hW => by go_simp) ?_
      simp only [Act.put, sA, sZ, sS]
      refine wk 7 175 (i64 x.n) rfl HS14.out (fun W hW => by have x3 := bkc hW.i.g.x 3; go_simp) ?_
      simp only [Act.put, sA, sZ, sS]
      refine wk 9 177 (i64 0) rfl HS14.out (fun W hW => by go_simp) ?_
      simp only [Act.put, sA, sZ, sS]
      refine wo 8 rfl (fun K hK => ?_)
      go_simp
      refine (HC.out.c14 w12.drew HB14.out).mono ?_
      rintro e w13 ⟨rfl, hb⟩
      have HSw13 : Hid (AgJ X p b d kb kc Y6 Y9 x 0 0 lq w13) := HS14.out.below hb
      have HBw13 : Hid (Below w.heap.size w w13) := HB14.out.trans (hb.mono HB14.out.size)
      clear hb
      go_simp
      refine hK.out _ _ (fun _ => HSw13.out) ?_
      clear hK K
      refine wk 10 178 (.bool true) rfl HSw13.out (fun W hW => by go_simp; try simp) ?_
      simp only [Act.put, sA, sZ, sS]
      refine wk 11 179 (.bool true) rfl HSw13.out (fun W hW => by go_simp) ?_
      simp only [Act.put, sA, sZ, sS]
      refine wk 12 180 (.pointer (some ⟨p, 0, none⟩)) rfl HSw13.out (fun W hW => by go_simp) ?_
      simp only [Act.put, sA, sZ, sS]
      refine wk 13 181 (.pointer (some ⟨p, 0, none⟩)) rfl HSw13.out (fun W hW => by go_simp) ?_
      simp only [Act.put, sA, sZ, sS]
      refine wk 14 182 (.pointer (some ⟨p, 0, none⟩)) rfl HSw13.out (fun W hW => by go_simp) ?_
      simp only [Act.put, sA, sZ, sS]
      refine wk 15 183 (.pointer (some ⟨b, 0, none⟩)) rfl HSw13.out (fun W hW => by have p0 := hW.i.g.p0; go_simp) ?_
      simp only [Act.put, sA, sZ, sS]
      refine wk 16 184 (.pointer (some ⟨X, 2, none⟩)) rfl HSw13.out (fun W hW => by go_simp) ?_
      simp only [Act.put, sA, sZ, sS]
      refine wk 17 185 (i64 x.kind) rfl HSw13.out (fun W hW => by have x2 := bkc hW.i.g.x 2; go_simp) ?_
      simp only [Act.put, sA, sZ, sS]
      refine wk 18 186 (.pointer (some ⟨X, 3, none⟩)) rfl HSw13.out (fun W hW => by go_simp) ?_
      simp only [Act.put, sA, sZ, sS]
      refine wk 19 187 (i64 x.n) rfl HSw13.out (fun W hW => by have x3 := bkc hW.i.g.x 3; go_simp) ?_
      simp only [Act.put, sA, sZ, sS]
      refine wk 22 190 (.agg #[i64 0, i64 0]) rfl HSw13.out (fun W hW => by have y0 := bkc hW.i.h6 0; have y1 := bkc hW.i.h6 1; go_simp) ?_
      simp only [Act.put, sA, sZ, sS]
      refine wo 20 rfl (fun K hK => ?_)
      go_simp
      refine (HC.out.c15 w13 HBw13.out).mono ?_
      rintro e w14 ⟨rfl, hb⟩
      have HSw14 : Hid (AgJ X p b d kb kc Y6 Y9 x 0 0 lq w14) := HSw13.out.below hb
      have HBw14 : Hid (Below w.heap.size w w14) := HBw13.out.trans (hb.mono HBw13.out.size)
      clear hb
      go_simp
      refine hK.out _ _ (fun _ => HSw14.out) ?_
      clear hK K
      refine wo 21 rfl (fun K hK => ?_)
      go_simp
      refine (ref_ok w14 0 0).mono ?_
      rintro e w15 ⟨rfl, hb⟩
      have HSw15 : Hid (AgJ X p b d kb kc Y6 Y9 x 0 0 lq w15) := HSw14.out.below hb
      have HBw15 : Hid (Below w.heap.size w w15) := HBw14.out.trans (hb.mono HBw14.out.size)
      clear hb
      go_simp
      refine hK.out _ _ (fun _ => HSw15.out) ?_
      clear hK K
      refine wk 23 191 (.bool true) rfl HSw15.out (fun W hW => by have q := eq81 0 0 W; go_simp; try rfl) ?_
      simp only [Act.put, sA, sZ, sS]
      refine wk 24 192 (.bool true) rfl HSw15.out (fun W hW => by go_simp) ?_
      simp only [Act.put, sA, sZ, sS]
      refine wo 25 rfl (fun K hK => ?_)
      go_simp
      refine hK.out _ _ (fun h => absurd rfl h) ?_
      clear hK K
      refine wdd ?_
      refine NoPanic.normal ?_
      go_wp2_with fail
      go_ret
      exact ⟨rfl, HBw15.out⟩
end Go.Proofs.Ytnknhencobhjdaa
