/- No statement here. -/
import Derived.Test.YtnknhencobhjdaaAg
set_option maxRecDepth 100000
namespace Go.Proofs.Ytnknhencobhjdaa
open Go.ChangeShapes Go.WideShapes Go.ChangeAt Go.RowKit Go.Deep
open Go.Proofs.Ytnknhencobhjdaa.Cp (pq hid bl1 hO)
attribute [local go_sem ↓] Go.wp_at_zero Go.wp_at_succ
section
variable {X p b d kb kc Y6 Y9 : Nat} {x : Sb} {r0 r1 : Int} {lq : Qt.T} {W W' : World}
theorem AgI.set6 (h : AgI X p b d kb kc Y6 x r0 r1 W) (h2 : X ≠ Y6) (h3 : p ≠ Y6) (h4 : d ≠ Y6) (s g : Int) : AgI X p b d kb kc Y6 x s g ((W.setCell ⟨Y6, 0, none⟩ (i64 s)).setCell ⟨Y6, 1, none⟩ (i64 g)) := by
  have hp : ∀ {k : Nat}, k ≠ Y6 → ((W.setCell ⟨Y6, 0, none⟩ (i64 s)).setCell ⟨Y6, 1, none⟩ (i64 g)).heap[k]? = W.heap[k]? := fun hk => by rw [Below.heap_setCell _ _ _ _ hk, Below.heap_setCell _ _ _ _ hk]
  have k : ∀ {q o : Nat} {u : Value}, q ≠ Y6 → W.cell? ⟨q, o, none⟩ = some u → ((W.setCell ⟨Y6, 0, none⟩ (i64 s)).setCell ⟨Y6, 1, none⟩ (i64 g)).cell? ⟨q, o, none⟩ = some u := fun hq hu => by
    rw [World.cell?_of_block (w := W) (hp hq)]
    exact hu
  exact ⟨⟨by rw [hp h2]; exact h.g.x, k h3 h.g.p0, k h3 h.g.p1, k h4 h.g.d0, k h4 h.g.d1⟩, Cp.set2 h.h6 _ _⟩
end
structure AgR (p d kc gR gC kk j nR capR nC capC : Nat) (own : Int) (q : Cp.Rw) (W : World) : Prop where
  p1 : W.cell? ⟨p, 1, none⟩ = some (pq d)
  d0 : W.cell? ⟨d, 0, none⟩ = some (pq kc)
  d2 : W.cell? ⟨d, 2, none⟩ = some (.slice (some ⟨gR, 0, none⟩) nR capR)
  e0 : W.cell? ⟨kc, 0, none⟩ = some (.slice (some ⟨gC, 0, none⟩) nC capC)
  r2 : W.cell? ⟨gR, kk * 4 + 2, none⟩ = some (i64 own)
  r3 : W.cell? ⟨gR, kk * 4 + 3, none⟩ = some (i64 (j : Nat))
  c : ∀ o, o < 8 → W.cell? ⟨gC, j * 8 + o, none⟩ = q.l[o]?
theorem AgR.below {p d kc gR gC kk j nR capR nC capC : Nat} {own : Int} {q : Cp.Rw} {W W' : World} {B : Nat} (h : AgR p d kc gR gC kk j nR capR nC capC own q W) (hb : Below B W W') (hB : B = W.heap.size := by rfl) : AgR p d kc gR gC kk j nR capR nC capC own q W' := by
  subst hB
  have k : ∀ {a v}, W.cell? a = some v → W'.cell? a = some v := fun ha => by
    rw [World.cell?_of_block (w := W) (hb.block _ (World.block_lt_of_cell? W _ ha))]
    exact ha
  exact ⟨k h.p1, k h.d0, k h.d2, k h.e0, k h.r2, k h.r3, fun o ho => by
    have h1 := h.c o ho
    have h2 : ∃ v, q.l[o]? = some v := ⟨_, List.getElem?_eq_getElem (by simpa using ho)⟩
    obtain ⟨v, hv⟩ := h2
    rw [hv] at h1 ⊢
    exact k h1⟩
theorem AgR.drew {p d kc gR gC kk j nR capR nC capC : Nat} {own : Int} {q : Cp.Rw} {W : World} (h : AgR p d kc gR gC kk j nR capR nC capC own q W) : AgR p d kc gR gC kk j nR capR nC capC own q W.drew := ⟨h.p1, h.d0, h.d2, h.e0, h.r2, h.r3, h.c⟩
set_option maxHeartbeats 12800000 in
theorem agrees_some (w : World) (p b d kb kc c gR gC kk j nR capR nC capC : Nat) (own : Int) (q : Cp.Rw) (x : Sb) (F lq : Qt.T) (xs : List Int) (le ki : Int) (hC : AgC w b d kb c x F lq xs (kk : Nat) own q.sl q.gn le ki) (hR : AgR p d kc gR gC kk j nR capR nC capC own q w) (hkI : (kk : Int) < (nR : Int)) (hjI : (j : Int) < (nC : Int)) (p0 : w.cell? ⟨p, 0, none⟩ = some (pq b)) (p1 : w.cell? ⟨p, 1, none⟩ = some (pq d)) (d0 : w.cell? ⟨d, 0, none⟩ = some (pq kc)) (d1 : w.cell? ⟨d, 1, none⟩ = some (pq kb)) : Calls Try.prog 13 #[pq p, x.v] w fun e w' => e = .returned (.bool true) ∧ Below w.heap.size w w' := by
  have HR := hid hR
  have HKI := hid hkI
  have HJI := hid hjI
  clear hR hkI hjI
  have HC := hid hC
  obtain ⟨V, hV⟩ : ∃ V, V = w.alloc (sbO x) := ⟨_, rfl⟩
  have HV : Hid (w.alloc (.cells #[i64 x.what, i64 x.env, i64 x.kind, i64 x.n, i64 x.tt, i64 x.rts, .bool x.by_, i64 x.q.a, i64 x.q.b, i64 x.q.c] 33) = V) := hV.symm
  have hbV : Below w.heap.size w V := by rw [hV]; exact bl1 w _
  obtain ⟨X, hX⟩ : ∃ X, X = w.heap.size := ⟨_, rfl⟩
  have hx : V.heap[X]? = some (sbO x) := by rw [hV, hX]; exact hlx w _
  have k : ∀ {a v}, w.cell? a = some v → V.cell? a = some v := fun ha => by
    rw [World.cell?_of_block (w := w) (hbV.block _ (World.block_lt_of_cell? w _ ha))]
    exact ha
  have HS0 : Hid (AgG X p b d kb kc x V) := ⟨hx, k p0, k p1, k d0, k d1⟩
  have HB0 := hid hbV
  have HXE := hid hX
  clear hC hV hbV hx p0 p1 d0 d1 k hX
  go_enter Try.func13, Try.ntmps13
  go_upto_region 1 with fail
  rw [HV.out, ← HXE.out]
  have HSV : Hid (AgG X p b d kb kc x V.drew) := HS0.out.drew
  have HBV : Hid (Below w.heap.size w V.drew) := HB0.out.drew
  refine wp_region_noPanic ?_
  refine wrl (AgG X p b d kb kc x) 52 (by kernel_rfl) ?_
  refine wkp 0 12 (.pointer (some ⟨p, 0, none⟩)) [1, 2, 3, 4, 12, 14, 28, 31] rfl HSV.out (fun W hW => by go_simp) ?_
  simp only [Act.put, sA, sZ, sS]
  refine wkp 1 13 (.pointer (some ⟨p, 0, none⟩)) [2, 3, 4, 12, 14, 28, 31] rfl HSV.out (fun W hW => by go_simp) ?_
  simp only [Act.put, sA, sZ, sS]
  refine wkp 2 14 (.pointer (some ⟨p, 0, none⟩)) [3, 4, 12, 14, 28, 31] rfl HSV.out (fun W hW => by go_simp) ?_
  simp only [Act.put, sA, sZ, sS]
  refine wkp 3 15 (.pointer (some ⟨b, 0, none⟩)) [4, 12, 14, 28, 31] rfl HSV.out (fun W hW => by have p0 := hW.p0; go_simp) ?_
  simp only [Act.put, sA, sZ, sS]
  refine wkp 5 17 (.pointer (some ⟨p, 0, none⟩)) [6, 7, 8, 9, 10, 11, 12, 14, 28, 31] rfl HSV.out (fun W hW => by go_simp) ?_
  simp only [Act.put, sA, sZ, sS]
  refine wkp 6 18 (.pointer (some ⟨p, 0, none⟩)) [7, 8, 9, 10, 11, 12, 14, 28, 31] rfl HSV.out (fun W hW => by go_simp) ?_
  simp only [Act.put, sA, sZ, sS]
  refine wkp 7 19 (.pointer (some ⟨p, 1, none⟩)) [8, 9, 10, 11, 12, 14, 28, 31] rfl HSV.out (fun W hW => by go_simp) ?_
  simp only [Act.put, sA, sZ, sS]
  refine wkp 8 20 (.pointer (some ⟨d, 0, none⟩)) [9, 10, 11, 12, 14, 28, 31] rfl HSV.out (fun W hW => by have p1 := hW.p1; go_simp) ?_
  simp only [Act.put, sA, sZ, sS]
  refine wkp 9 21 (.pointer (some ⟨d, 0, none⟩)) [10, 11, 12, 14, 28, 31] rfl HSV.out (fun W hW => by go_simp) ?_
  simp only [Act.put, sA, sZ, sS]
  refine wkp 10 22 (.pointer (some ⟨d, 1, none⟩)) [11, 12, 14, 28, 31] rfl HSV.out (fun W hW => by go_simp) ?_
  simp only [Act.put, sA, sZ, sS]
  refine wkp 11 23 (.pointer (some ⟨kb, 0, none⟩)) [12, 14, 28, 31] rfl HSV.out (fun W hW => by have d1 := hW.d1; go_simp) ?_
  simp only [Act.put, sA, sZ, sS]
  refine wo 4 rfl (fun K hK => ?_)
  go_simp
  refine (HC.out.c17 V.drew HBV.out).mono ?_
  rintro e w2 ⟨rfl, hb⟩
  have HSw2 : Hid (AgG X p b d kb kc x w2) := HSV.out.below hb
  have HBw2 : Hid (Below w.heap.size w w2) := HBV.out.trans (hb.mono HBV.out.size)
  clear hb
  go_simp
  refine hK.out _ _ (fun _ => HSw2.out) ?_
  clear hK K
  refine wo 12 rfl (fun K hK => ?_)
  go_simp
  refine (HC.out.c41 w2 HBw2.out).mono ?_
  rintro e w3 ⟨rfl, hb⟩
  have HSw3 : Hid (AgG X p b d kb kc x w3) := HSw2.out.below hb
  have HBw3 : Hid (Below w.heap.size w w3) := HBw2.out.trans (hb.mono HBw2.out.size)
  clear hb
  go_simp
  refine hK.out _ _ (fun _ => HSw3.out) ?_
  clear hK K
  refine wkp 13 25 (.bool false) [14, 28, 31] rfl HSw3.out (fun W hW => by have q := Qt.eqIn22 9998 F F W; simp only [decide_true, Nat.reduceAdd] at q; unfold Qt.T.v at q; go_simp; try rfl) ?_
  simp only [Act.put, sA, sZ, sS]
  refine wkp 14 26 (.bool false) [28, 31] rfl HSw3.out (fun W hW => by go_simp) ?_
  simp only [Act.put, sA, sZ, sS]
  refine wkp 15 27 (.pointer (some ⟨p, 0, none⟩)) [16, 17, 18, 21, 28, 31] rfl HSw3.out (fun W hW => by go_simp) ?_
  simp only [Act.put, sA, sZ, sS]
  refine wkp 16 28 (.pointer (some ⟨p, 0, none⟩)) [17, 18, 21, 28, 31] rfl HSw3.out (fun W hW => by go_simp) ?_
  simp only [Act.put, sA, sZ, sS]
  refine wkp 17 29 (.pointer (some ⟨p, 0, none⟩)) [18, 21, 28, 31] rfl HSw3.out (fun W hW => by go_simp) ?_
  simp only [Act.put, sA, sZ, sS]
  refine wkp 18 30 (.pointer (some ⟨b, 0, none⟩)) [21, 28, 31] rfl HSw3.out (fun W hW => by have p0 := hW.p0; go_simp) ?_
  simp only [Act.put, sA, sZ, sS]
  refine wkp 19 31 (.pointer (some ⟨X, 1, none⟩)) [20, 21, 28, 31] rfl HSw3.out (fun W hW => by go_simp) ?_
  simp only [Act.put, sA, sZ, sS]
  refine wkp 20 32 (i64 x.env) [21, 28, 31] rfl HSw3.out (fun W hW => by have x1 := bkc hW.x 1; go_simp) ?_
  simp only [Act.put, sA, sZ, sS]
  refine wkp 22 34 (.pointer (some ⟨p, 0, none⟩)) [23, 24, 25, 28, 31] rfl HSw3.out (fun W hW => by go_simp) ?_
  simp only [Act.put, sA, sZ, sS]
  refine wkp 23 35 (.pointer (some ⟨p, 0, none⟩)) [24, 25, 28, 31] rfl HSw3.out (fun W hW => by go_simp) ?_
  simp only [Act.put, sA, sZ, sS]
  refine wkp 24 36 (.pointer (some ⟨p, 1, none⟩)) [25, 28, 31] rfl HSw3.out (fun W hW => by go_simp) ?_
  simp only [Act.put, sA, sZ, sS]
  refine wkp 25 37 (.pointer (some ⟨d, 0, none⟩)) [28, 31] rfl HSw3.out (fun W hW => by have p1 := hW.p1; go_simp) ?_
  simp only [Act.put, sA, sZ, sS]
  refine wkp 26 38 (.pointer (some ⟨X, 1, none⟩)) [27, 28, 31] rfl HSw3.out (fun W hW => by go_simp) ?_
  simp only [Act.put, sA, sZ, sS]
  refine wkp 27 39 (i64 x.env) [28, 31] rfl HSw3.out (fun W hW => by have x1 := bkc hW.x 1; go_simp) ?_
  simp only [Act.put, sA, sZ, sS]
  refine wo 21 rfl (fun K hK => ?_)
  go_simp
  refine (HC.out.c27 w3 HBw3.out).mono ?_
  rintro e w4 ⟨rfl, hb⟩
  have HSw4 : Hid (AgG X p b d kb kc x w4) := HSw3.out.below hb
  have HBw4 : Hid (Below w.heap.size w w4) := HBw3.out.trans (hb.mono HBw3.out.size)
  clear hb
  go_simp
  refine hK.out _ _ (fun _ => HSw4.out) ?_
  clear hK K
  refine wo 28 rfl (fun K hK => ?_)
  go_simp
  refine (HC.out.c42 w4 HBw4.out).mono ?_
  rintro e w5 ⟨rfl, hb⟩
  have HSw5 : Hid (AgG X p b d kb kc x w5) := HSw4.out.below hb
  have HBw5 : Hid (Below w.heap.size w w5) := HBw4.out.trans (hb.mono HBw4.out.size)
  clear hb
  go_simp
  refine hK.out _ _ (fun _ => HSw5.out) ?_
  clear hK K
  refine wkp 29 41 (.bool false) [30, 31] rfl HSw5.out (fun W hW => by go_simp; try simp) ?_
  simp only [Act.put, sA, sZ, sS]
  refine wkp 30 42 (.bool false) [31] rfl HSw5.out (fun W hW => by go_simp) ?_
  simp only [Act.put, sA, sZ, sS]
  refine wk 31 43 (.bool false) rfl HSw5.out (fun W hW => by go_simp) ?_
  simp only [Act.put, sA, sZ, sS]
  refine wkp 32 44 (.pointer (some ⟨p, 0, none⟩)) [33, 34, 35, 40, 50, 51] rfl HSw5.out (fun W hW => by go_simp) ?_
  simp only [Act.put, sA, sZ, sS]
  refine wkp 33 45 (.pointer (some ⟨p, 0, none⟩)) [34, 35, 40, 50, 51] rfl HSw5.out (fun W hW => by go_simp) ?_
  simp only [Act.put, sA, sZ, sS]
  refine wkp 34 46 (.pointer (some ⟨p, 0, none⟩)) [35, 40, 50, 51] rfl HSw5.out (fun W hW => by go_simp) ?_
  simp only [Act.put, sA, sZ, sS]
  refine wkp 35 47 (.pointer (some ⟨b, 0, none⟩)) [40, 50, 51] rfl HSw5.out (fun W hW => by have p0 := hW.p0; go_simp) ?_
  simp only [Act.put, sA, sZ, sS]
  refine wkp 36 48 (.pointer (some ⟨X, 1, none⟩)) [37, 40, 50, 51] rfl HSw5.out (fun W hW => by go_simp) ?_
  simp only [Act.put, sA, sZ, sS]
  refine wkp 37 49 (i64 x.env) [40, 50, 51] rfl HSw5.out (fun W hW => by have x1 := bkc hW.x 1; go_simp) ?_
  simp only [Act.put, sA, sZ, sS]
  refine wkp 38 50 (.pointer (some ⟨X, 2, none⟩)) [39, 40, 50, 51] rfl HSw5.out (fun W hW => by go_simp) ?_
  simp only [Act.put, sA, sZ, sS]
  refine wkp 39 51 (i64 x.kind) [40, 50, 51] rfl HSw5.out (fun W hW => by have x2 := bkc hW.x 2; go_simp) ?_
  simp only [Act.put, sA, sZ, sS]
  refine wkp 41 53 (.pointer (some ⟨p, 0, none⟩)) [42, 43, 44, 49, 50, 51] rfl HSw5.out (fun W hW => by go_simp) ?_
  simp only [Act.put, sA, sZ, sS]
  refine wkp 42 54 (.pointer (some ⟨p, 0, none⟩)) [43, 44, 49, 50, 51] rfl HSw5.out (fun W hW => by go_simp) ?_
  simp only [Act.put, sA, sZ, sS]
  refine wkp 43 55 (.pointer (some ⟨p, 1, none⟩)) [44, 49, 50, 51] rfl HSw5.out (fun W hW => by go_simp) ?_
  simp only [Act.put, sA, sZ, sS]
  refine wkp 44 56 (.pointer (some ⟨d, 0, none⟩)) [49, 50, 51] rfl HSw5.out (fun W hW => by have p1 := hW.p1; go_simp) ?_
  simp only [Act.put, sA, sZ, sS]
  refine wkp 45 57 (.pointer (some ⟨X, 1, none⟩)) [46, 49, 50, 51] rfl HSw5.out (fun W hW => by go_simp) ?_
  simp only [Act.put, sA, sZ, sS]
  refine wkp 46 58 (i64 x.env) [49, 50, 51] rfl HSw5.out (fun W hW => by have x1 := bkc hW.x 1; go_simp) ?_
  simp only [Act.put, sA, sZ, sS]
  refine wkp 47 59 (.pointer (some ⟨X, 2, none⟩)) [48, 49, 50, 51] rfl HSw5.out (fun W hW => by go_simp) ?_
  simp only [Act.put, sA, sZ, sS]
  refine wkp 48 60 (i64 x.kind) [49, 50, 51] rfl HSw5.out (fun W hW => by have x2 := bkc hW.x 2; go_simp) ?_
  simp only [Act.put, sA, sZ, sS]
  refine wo 40 rfl (fun K hK => ?_)
  go_simp
  refine (HC.out.c23 w5 HBw5.out).mono ?_
  rintro e w6 ⟨va, rfl, ho, hb⟩
  have HSw6 : Hid (AgG X p b d kb kc x w6) := HSw5.out.below hb
  have HBw6 : Hid (Below w.heap.size w w6) := HBw5.out.trans (hb.mono HBw5.out.size)
  have HOa := hid ho
  have HZ : Hid (w5.heap.size ≤ w6.heap.size) := hb.size
  clear ho
  clear hb
  go_simp
  refine hK.out _ _ (fun _ => HSw6.out) ?_
  clear hK K
  refine wo 49 rfl (fun K hK => ?_)
  go_simp
  refine (HC.out.c44 w6 HBw6.out).mono ?_
  have HS56 : Hid (w5.heap.size ≤ w6.heap.size) := HZ.out
  rintro e w7 ⟨vc, rfl, ho, hb⟩
  have HSw7 : Hid (AgG X p b d kb kc x w7) := HSw6.out.below hb
  have HBw7 : Hid (Below w.heap.size w w7) := HBw6.out.trans (hb.mono HBw6.out.size)
  have HOc : Hid (w7.ownsRow w5.heap.size 3 1 vc xs.length (icells xs)) := own_lower ho HS56.out
  have HOd := hid (Qt.own_below HOa.out hb)
  clear ho
  clear hb
  go_simp
  refine hK.out _ _ (fun _ => HSw7.out) ?_
  clear hK K
  refine wo 50 rfl (fun K hK => ?_)
  go_simp
  refine (ints_ok HC.out.lx HOd.out HOc.out).mono ?_
  rintro e w8 ⟨rfl, hb⟩
  have HSw8 : Hid (AgG X p b d kb kc x w8) := HSw7.out.below hb
  have HBw8 : Hid (Below w.heap.size w w8) := HBw7.out.trans (hb.mono HBw7.out.size)
  clear hb
  go_simp
  refine hK.out _ _ (fun _ => HSw8.out) ?_
  clear hK K
  refine wk 51 63 (.bool false) rfl HSw8.out (fun W hW => by go_simp) ?_
  simp only [Act.put, sA, sZ, sS]
  refine wo 52 rfl (fun K hK => ?_)
  go_simp
  refine hK.out _ _ (fun h => absurd rfl h) ?_
  clear hK K
  refine wdd ?_
  refine NoPanic.normal ?_
  have HSU : Hid (AgI X p b d kb kc w8.heap.size x 0 0 (w8.alloc (.cells #[i64 0, i64 0] 81))) := ⟨HSw8.out.below (bl1 w8 _), hlx w8 _⟩
  have HBU : Hid (Below w.heap.size w (w8.alloc (.cells #[i64 0, i64 0] 81))) := HBw8.out.alloc HBw8.out.size _
  have HY6 : Hid (w.heap.size ≤ w8.heap.size) := HBw8.out.size
  have HNX : Hid (X ≠ w8.heap.size ∧ p ≠ w8.heap.size ∧ d ≠ w8.heap.size) := by
    have h1 := blk_lt HSw8.out.x
    have h2 := World.block_lt_of_cell? w8 _ HSw8.out.p0
    have h3 := World.block_lt_of_cell? w8 _ HSw8.out.d0
    simp only at h2 h3
    exact hid (by omega)
  clear HSV HBV HSw2 HBw2 HSw3 HBw3 HSw4 HBw4 HSw5 HBw5 HSw6 HBw6 HSw7 HBw7 HOa HOc HOd HZ HS56 HSw8 HBw8
  go_upto_region 5 with fail
  generalize w8.alloc (.cells #[i64 0, i64 0] 81) = U at *
  generalize w8.heap.size = Y6 at *
  have HSUd : Hid (AgI X p b d kb kc Y6 x 0 0 U.drew) := HSU.out.drew
  have HBUd : Hid (Below w.heap.size w U.drew) := HBU.out.drew
  refine wp_region_noPanic ?_
  refine wrl (AgI X p b d kb kc Y6 x 0 0) 9 (by kernel_rfl) ?_
  refine wk 0 66 (.pointer (some ⟨p, 0, none⟩)) rfl HSUd.out (fun W hW => by go_simp) ?_
  simp only [Act.put, sA, sZ, sS]
  refine wk 1 67 (.pointer (some ⟨p, 0, none⟩)) rfl HSUd.out (fun W hW => by go_simp) ?_
  simp only [Act.put, sA, sZ, sS]
  refine wk 2 68 (.pointer (some ⟨p, 1, none⟩)) rfl HSUd.out (fun W hW => by go_simp) ?_
  simp only [Act.put, sA, sZ, sS]
  refine wk 3 69 (.pointer (some ⟨d, 0, none⟩)) rfl HSUd.out (fun W hW => by have p1 := hW.g.p1; go_simp) ?_
  simp only [Act.put, sA, sZ, sS]
  refine wk 4 70 (.pointer (some ⟨X, 2, none⟩)) rfl HSUd.out (fun W hW => by go_simp) ?_
  simp only [Act.put, sA, sZ, sS]
  refine wk 5 71 (i64 x.kind) rfl HSUd.out (fun W hW => by have x2 := bkc hW.g.x 2; go_simp) ?_
  simp only [Act.put, sA, sZ, sS]
  refine wk 6 72 (.pointer (some ⟨X, 3, none⟩)) rfl HSUd.out (fun W hW => by go_simp) ?_
  simp only [Act.put, sA, sZ, sS]
  refine wk 7 73 (i64 x.n) rfl HSUd.out (fun W hW => by have x3 := bkc hW.g.x 3; go_simp) ?_
  simp only [Act.put, sA, sZ, sS]
  refine wo 8 rfl (fun K hK => ?_)
  go_simp
  refine (HC.out.c45 U.drew HBUd.out).mono ?_
  rintro e w9 ⟨rfl, hb⟩
  have HSw9 : Hid (AgI X p b d kb kc Y6 x 0 0 w9) := HSUd.out.below hb
  have HBw9 : Hid (Below w.heap.size w w9) := HBUd.out.trans (hb.mono HBUd.out.size)
  clear hb
  go_simp
  refine hK.out _ _ (fun _ => HSw9.out) ?_
  clear hK K
  refine wo 9 rfl (fun K hK => ?_)
  go_simp
  refine hK.out _ _ (fun h => absurd rfl h) ?_
  clear hK K
  refine wdd ?_
  refine NoPanic.normal ?_
  clear HSU HBU HSUd HBUd
  have hkp : decide ((0 : Int) ≤ (kk : Int)) = true := decide_eq_true (by omega)
  go_upto_region 7 with fail
  clear hkp
  have HR9 : Hid (AgR p d kc gR gC kk j nR capR nC capC own q w9.drew) := (HR.out.below HBw9.out).drew
  refine wp_region_noPanic ?_
  refine wrl (AgR p d kc gR gC kk j nR capR nC capC own q) 24 (by kernel_rfl) ?_
  refine wk 0 77 (.pointer (some ⟨p, 0, none⟩)) rfl HR9.out (fun W hW => by go_simp) ?_
  simp only [Act.put, sA, sZ, sS]
  refine wk 1 78 (.pointer (some ⟨p, 0, none⟩)) rfl HR9.out (fun W hW => by go_simp) ?_
  simp only [Act.put, sA, sZ, sS]
  refine wk 2 79 (.pointer (some ⟨p, 1, none⟩)) rfl HR9.out (fun W hW => by go_simp) ?_
  simp only [Act.put, sA, sZ, sS]
  refine wk 3 80 (.pointer (some ⟨d, 0, none⟩)) rfl HR9.out (fun W hW => by have p1 := hW.p1; go_simp) ?_
  simp only [Act.put, sA, sZ, sS]
  refine wk 4 81 (.pointer (some ⟨d, 0, none⟩)) rfl HR9.out (fun W hW => by go_simp) ?_
  simp only [Act.put, sA, sZ, sS]
  refine wk 5 82 (.pointer (some ⟨d, 0, none⟩)) rfl HR9.out (fun W hW => by go_simp) ?_
  simp only [Act.put, sA, sZ, sS]
  refine wk 6 83 (.pointer (some ⟨kc, 0, none⟩)) rfl HR9.out (fun W hW => by have d0 := hW.d0; go_simp) ?_
  simp only [Act.put, sA, sZ, sS]
  refine wk 7 84 (.pointer (some ⟨kc, 0, none⟩)) rfl HR9.out (fun W hW => by go_simp) ?_
  simp only [Act.put, sA, sZ, sS]
  refine wk 8 85 (.pointer (some ⟨kc, 0, none⟩)) rfl HR9.out (fun W hW => by go_simp) ?_
  simp only [Act.put, sA, sZ, sS]
  refine wk 9 86 (.slice (some ⟨gC, 0, none⟩) nC capC) rfl HR9.out (fun W hW => by have e0 := hW.e0; go_simp) ?_
  simp only [Act.put, sA, sZ, sS]
  refine wk 10 87 (.pointer (some ⟨p, 0, none⟩)) rfl HR9.out (fun W hW => by go_simp) ?_
  simp only [Act.put, sA, sZ, sS]
  refine wk 11 88 (.pointer (some ⟨p, 0, none⟩)) rfl HR9.out (fun W hW => by go_simp) ?_
  simp only [Act.put, sA, sZ, sS]
  refine wk 12 89 (.pointer (some ⟨p, 1, none⟩)) rfl HR9.out (fun W hW => by go_simp) ?_
  simp only [Act.put, sA, sZ, sS]
  refine wk 13 90 (.pointer (some ⟨d, 0, none⟩)) rfl HR9.out (fun W hW => by have p1 := hW.p1; go_simp) ?_
  simp only [Act.put, sA, sZ, sS]
  refine wk 14 91 (.pointer (some ⟨d, 0, none⟩)) rfl HR9.out (fun W hW => by go_simp) ?_
  simp only [Act.put, sA, sZ, sS]
  refine wk 15 92 (.pointer (some ⟨d, 2, none⟩)) rfl HR9.out (fun W hW => by go_simp) ?_
  simp only [Act.put, sA, sZ, sS]
  refine wk 16 93 (.slice (some ⟨gR, 0, none⟩) nR capR) rfl HR9.out (fun W hW => by have d2 := hW.d2; go_simp) ?_
  simp only [Act.put, sA, sZ, sS]
  refine wk 17 94 (i64 (kk : Nat)) rfl HR9.out (fun W hW => by go_simp) ?_
  simp only [Act.put, sA, sZ, sS]
  refine wk 18 95 (.pointer (some ⟨gR, kk * 4, none⟩)) rfl HR9.out (fun W hW => by have hkI := HKI.out; go_simp) ?_
  simp only [Act.put, sA, sZ, sS]
  refine wk 19 96 (.pointer (some ⟨gR, kk * 4 + 3, none⟩)) rfl HR9.out (fun W hW => by go_simp) ?_
  simp only [Act.put, sA, sZ, sS]
  refine wk 20 97 (i64 (j : Nat)) rfl HR9.out (fun W hW => by have r3 := hW.r3; go_simp) ?_
  simp only [Act.put, sA, sZ, sS]
  refine wk 21 98 (.pointer (some ⟨gC, j * 8, none⟩)) rfl HR9.out (fun W hW => by have hjI := HJI.out; go_simp) ?_
  simp only [Act.put, sA, sZ, sS]
  refine wk 22 99 (.agg #[i64 q.c.env, i64 q.c.kind, i64 q.c.num, i64 q.c.rts, i64 q.sl, i64 q.gn, i64 q.fr, .bool q.lv]) rfl HR9.out (fun W hW => by have c0 : W.cell? ⟨gC, j * 8, none⟩ = some (i64 q.c.env) := hW.c 0 (by omega); have c1 : W.cell? ⟨gC, j * 8 + 1, none⟩ = some (i64 q.c.kind) := hW.c 1 (by omega); have c2 : W.cell? ⟨gC, j * 8 + 2, none⟩ = some (i64 q.c.num) := hW.c 2 (by omega); have c3 : W.cell? ⟨gC, j * 8 + 3, none⟩ = some (i64 q.c.rts) := hW.c 3 (by omega); have c4 : W.cell? ⟨gC, j * 8 + 4, none⟩ = some (i64 q.sl) := hW.c 4 (by omega); have c5 : W.cell? ⟨gC, j * 8 + 5, none⟩ = some (i64 q.gn) := hW.c 5 (by omega); have c6 : W.cell? ⟨gC, j * 8 + 6, none⟩ = some (i64 q.fr) := hW.c 6 (by omega); have c7 : W.cell? ⟨gC, j * 8 + 7, none⟩ = some (.bool q.lv) := hW.c 7 (by omega); go_simp) ?_
  simp only [Act.put, sA, sZ, sS]
  refine wo 23 rfl (fun K hK => ?_)
  go_simp
  refine hK.out _ _ (fun _ => HR9.out.below (bl1 w9.drew _)) ?_
  clear hK K
  refine wo 24 rfl (fun K hK => ?_)
  go_simp
  refine hK.out _ _ (fun h => absurd rfl h) ?_
  clear hK K
  refine wdd ?_
  refine NoPanic.normal ?_
  have HS8 : Hid (AgI X p b d kb kc Y6 x 0 0 (w9.alloc (.cells #[i64 q.c.env, i64 q.c.kind, i64 q.c.num, i64 q.c.rts, i64 q.sl, i64 q.gn, i64 q.fr, .bool q.lv] 96)).drew) := (HSw9.out.below (bl1 w9 _)).drew
  have HB8 : Hid (Below w.heap.size w (w9.alloc (.cells #[i64 q.c.env, i64 q.c.kind, i64 q.c.num, i64 q.c.rts, i64 q.sl, i64 q.gn, i64 q.fr, .bool q.lv] 96)).drew) := (HBw9.out.alloc HBw9.out.size _).drew
  have HY8 : Hid ((w9.alloc (.cells #[i64 q.c.env, i64 q.c.kind, i64 q.c.num, i64 q.c.rts, i64 q.sl, i64 q.gn, i64 q.fr, .bool q.lv] 96)).drew.heap[w9.heap.size]? = some (.cells #[i64 q.c.env, i64 q.c.kind, i64 q.c.num, i64 q.c.rts, i64 q.sl, i64 q.gn, i64 q.fr, .bool q.lv] 96)) := hlx w9 _
  have HR8 := hid (HR.out.below HB8.out)
  have h6w : w.heap.size ≤ Y6 := HY6.out
  generalize (w9.alloc (.cells #[i64 q.c.env, i64 q.c.kind, i64 q.c.num, i64 q.c.rts, i64 q.sl, i64 q.gn, i64 q.fr, .bool q.lv] 96)).drew = W8 at *
  generalize w9.heap.size = Y8 at *
  have p1 : W8.cell? ⟨p, 1, none⟩ = some (pq d) := HR8.out.p1
  have d2 : W8.cell? ⟨d, 2, none⟩ = some (.slice (some ⟨gR, 0, none⟩) nR capR) := HR8.out.d2
  have r2 : W8.cell? ⟨gR, kk * 4 + 2, none⟩ = some (i64 own) := HR8.out.r2
  have y4 : W8.cell? ⟨Y8, 4, none⟩ = some (i64 q.sl) := bkc HY8.out 4
  have y5 : W8.cell? ⟨Y8, 5, none⟩ = some (i64 q.gn) := bkc HY8.out 5
  have z0 : W8.cell? ⟨Y6, 0, none⟩ = some (i64 0) := bkc HS8.out.h6 0
  have z1 : W8.cell? ⟨Y6, 1, none⟩ = some (i64 0) := bkc HS8.out.h6 1
  have zf : ∀ j, W8.frozen? ⟨Y6, j, none⟩ = false := bkf HS8.out.h6
  have hkI := HKI.out
  clear HR9 HSw9 HBw9
  go_upto_region 10 with fail
  have HSwz : Hid (AgI X p b d kb kc Y6 x q.sl q.gn ((W8.setCell ⟨Y6, 0, none⟩ (i64 q.sl)).setCell ⟨Y6, 1, none⟩ (i64 q.gn))) := HS8.out.set6 HNX.out.1 HNX.out.2.1 HNX.out.2.2 _ _
  have HBwz : Hid (Below w.heap.size w ((W8.setCell ⟨Y6, 0, none⟩ (i64 q.sl)).setCell ⟨Y6, 1, none⟩ (i64 q.gn))) := (HB8.out.setCell (by exact h6w) _).setCell (by exact h6w) _
  clear p1 d2 r2 y4 y5 z0 z1 zf hkI HS8 HB8 HY8 HR8 h6w
  generalize (W8.setCell ⟨Y6, 0, none⟩ (i64 q.sl)).setCell ⟨Y6, 1, none⟩ (i64 q.gn) = wz at *
  have HSd : Hid (AgI X p b d kb kc Y6 x q.sl q.gn wz.drew) := HSwz.out.drew
  have HBd : Hid (Below w.heap.size w wz.drew) := HBwz.out.drew
  refine wp_region_noPanic ?_
  refine wrl (AgI X p b d kb kc Y6 x q.sl q.gn) 12 (by kernel_rfl) ?_
  refine wk 0 117 (.pointer (some ⟨p, 0, none⟩)) rfl HSd.out (fun W hW => by go_simp) ?_
  simp only [Act.put, sA, sZ, sS]
  refine wk 1 118 (.pointer (some ⟨p, 0, none⟩)) rfl HSd.out (fun W hW => by go_simp) ?_
  simp only [Act.put, sA, sZ, sS]
  refine wk 2 119 (.pointer (some ⟨p, 0, none⟩)) rfl HSd.out (fun W hW => by go_simp) ?_
  simp only [Act.put, sA, sZ, sS]
  refine wk 3 120 (.pointer (some ⟨b, 0, none⟩)) rfl HSd.out (fun W hW => by have p0 := hW.g.p0; go_simp) ?_
  simp only [Act.put, sA, sZ, sS]
  refine wk 4 121 (.pointer (some ⟨X, 1, none⟩)) rfl HSd.out (fun W hW => by go_simp) ?_
  simp only [Act.put, sA, sZ, sS]
  refine wk 5 122 (i64 x.env) rfl HSd.out (fun W hW => by have x1 := bkc hW.g.x 1; go_simp) ?_
  simp only [Act.put, sA, sZ, sS]
  refine wpL_two 6 10 rfl rfl (by kernel_rfl) (by rfl) (by rfl) (fun K hK => ?_) (fun K hK => ?_)
  go_simp
  refine (HC.out.c26 wz.drew HBd.out).mono ?_
  rintro e w10 ⟨rfl, hb⟩
  have HS10 : Hid (AgI X p b d kb kc Y6 x q.sl q.gn w10) := HSd.out.below hb
  have HB10 : Hid (Below w.heap.size w w10) := HBd.out.trans (hb.mono HBd.out.size)
  clear hb
  go_simp
  refine hK.out _ _ (fun _ => HS10.out) ?_
  clear hK K
  refine wk 7 116 (.tuple #[.agg #[i64 lq.a, i64 lq.b, i64 lq.c], i64 le]) rfl HS10.out (fun W hW => by go_simp) ?_
  simp only [Act.put, sA, sZ, sS]
  refine wk 8 124 (.agg #[i64 lq.a, i64 lq.b, i64 lq.c]) rfl HS10.out (fun W hW => by go_simp) ?_
  simp only [Act.put, sA, sZ, sS]
  refine wk 9 125 (i64 le) rfl HS10.out (fun W hW => by go_simp) ?_
  simp only [Act.put, sA, sZ, sS]
  refine wo 10 rfl (fun K hK => ?_)
  go_simp
  refine hK.out _ _ (fun _ => HS10.out.below (bl1 w10 _)) ?_
  clear hK K
  refine wo 11 rfl (fun K hK => ?_)
  go_simp
  refine hK.out _ _ (fun _ => HS10.out.below (bl1 w10 _)) ?_
  clear hK K
  refine wo 12 rfl (fun K hK => ?_)
  go_simp
  refine hK.out _ _ (fun h => absurd rfl h) ?_
  clear hK K
  refine wdd ?_
  refine NoPanic.normal ?_
  have HSu : Hid (AgJ X p b d kb kc Y6 w10.heap.size x q.sl q.gn lq (w10.alloc (.cells #[i64 lq.a, i64 lq.b, i64 lq.c] 22))) := ⟨HS10.out.below (bl1 w10 _), hlx w10 _⟩
  have HBu : Hid (Below w.heap.size w (w10.alloc (.cells #[i64 lq.a, i64 lq.b, i64 lq.c] 22))) := HB10.out.alloc HB10.out.size _
  clear HS10 HB10 HSd HBd HSwz HBwz
  generalize w10.alloc (.cells #[i64 lq.a, i64 lq.b, i64 lq.c] 22) = U2 at *
  generalize w10.heap.size = Y9 at *
  rotate_left
  go_simp
  refine hK.out _ _ (fun _ => HSd.out.below (bl1 wz.drew _)) ?_
  clear hK K
  have HSA : Hid (AgI X p b d kb kc Y6 x q.sl q.gn (wz.alloc (.cells #[i64 0, i64 0, i64 0] 22)).drew) := HSd.out.below (bl1 wz.drew _)
  have HYA : Hid ((wz.alloc (.cells #[i64 0, i64 0, i64 0] 22)).drew.heap[wz.heap.size]? = some (.cells #[i64 0, i64 0, i64 0] 22)) := hlx wz _
  have HBA : Hid (Below w.heap.size w (wz.alloc (.cells #[i64 0, i64 0, i64 0] 22)).drew) := (HBwz.out.alloc HBwz.out.size _).drew
  have hYw : w.heap.size ≤ wz.heap.size := HBwz.out.size
  generalize (wz.alloc (.cells #[i64 0, i64 0, i64 0] 22)).drew = V4 at *
  obtain ⟨Y9, hY⟩ : ∃ Y9, wz.heap.size = Y9 := ⟨_, rfl⟩
  have h69 : Y6 ≠ Y9 := by
    have h6 := blk_lt HSwz.out.h6
    omega
  have hX9 : X ≠ Y9 ∧ p ≠ Y9 ∧ d ≠ Y9 := by
    have h1 := blk_lt HSwz.out.g.x
    have h2 := World.block_lt_of_cell? wz _ HSwz.out.g.p0
    have h3 := World.block_lt_of_cell? wz _ HSwz.out.g.d0
    simp only at h2 h3
    omega
  rw [hY] at HYA hYw ⊢
  have HNE := hid (And.intro h69 hX9)
  clear hY h69 hX9 HSwz HBwz HSd HBd
  refine wo 6 rfl (fun K hK => ?_)
  go_simp
  refine (HC.out.c26 V4 HBA.out).mono ?_
  rintro e w10 ⟨rfl, hb⟩
  have HS10 : Hid (AgI X p b d kb kc Y6 x q.sl q.gn w10) := HSA.out.below hb
  have HY10 := hid (bkb HYA.out hb)
  have HB10 : Hid (Below w.heap.size w w10) := HBA.out.trans (hb.mono HBA.out.size)
  clear hb HSA HYA HBA
  go_simp
  refine hK.out _ _ (fun _ => HS10.out) ?_
  clear hK K
  refine wk 7 116 (.tuple #[.agg #[i64 lq.a, i64 lq.b, i64 lq.c], i64 le]) rfl HS10.out (fun W hW => by go_simp) ?_
  simp only [Act.put, sA, sZ, sS]
  refine wk 8 124 (.agg #[i64 lq.a, i64 lq.b, i64 lq.c]) rfl HS10.out (fun W hW => by go_simp) ?_
  simp only [Act.put, sA, sZ, sS]
  refine wk 9 125 (i64 le) rfl HS10.out (fun W hW => by go_simp) ?_
  simp only [Act.put, sA, sZ, sS]
  have z0 : w10.cell? ⟨Y9, 0, none⟩ = some (i64 0) := bkc HY10.out 0
  have z1 : w10.cell? ⟨Y9, 1, none⟩ = some (i64 0) := bkc HY10.out 1
  have z2 : w10.cell? ⟨Y9, 2, none⟩ = some (i64 0) := bkc HY10.out 2
  have zf : ∀ j, w10.frozen? ⟨Y9, j, none⟩ = false := bkf HY10.out
  have HSs : Hid (AgI X p b d kb kc Y6 x q.sl q.gn (((w10.setCell ⟨Y9, 0, none⟩ (i64 lq.a)).setCell ⟨Y9, 1, none⟩ (i64 lq.b)).setCell ⟨Y9, 2, none⟩ (i64 lq.c))) := HS10.out.set3 HNE.out.1 HNE.out.2.1 HNE.out.2.2.1 HNE.out.2.2.2 _ _ _
  refine wo 11 rfl (fun K hK => ?_)
  go_simp
  refine hK.out _ _ (fun _ => HSs.out) ?_
  clear hK K
  refine wo 12 rfl (fun K hK => ?_)
  go_simp
  refine hK.out _ _ (fun h => absurd rfl h) ?_
  clear hK K
  refine wdd ?_
  refine NoPanic.normal ?_
  have HSu : Hid (AgJ X p b d kb kc Y6 Y9 x q.sl q.gn lq (((w10.setCell ⟨Y9, 0, none⟩ (i64 lq.a)).setCell ⟨Y9, 1, none⟩ (i64 lq.b)).setCell ⟨Y9, 2, none⟩ (i64 lq.c))) := ⟨HSs.out, Cp.set3 HY10.out _ _ _⟩
  have HBu : Hid (Below w.heap.size w (((w10.setCell ⟨Y9, 0, none⟩ (i64 lq.a)).setCell ⟨Y9, 1, none⟩ (i64 lq.b)).setCell ⟨Y9, 2, none⟩ (i64 lq.c))) := ((HB10.out.setCell (by exact hYw) _).setCell (by exact hYw) _).setCell (by exact hYw) _
  clear HS10 HB10 HY10 z0 z1 z2 zf HSs hYw HNE V4
  generalize (((w10.setCell ⟨Y9, 0, none⟩ (i64 lq.a)).setCell ⟨Y9, 1, none⟩ (i64 lq.b)).setCell ⟨Y9, 2, none⟩ (i64 lq.c)) = U2 at *
  rotate_left
  all_goals
    go_upto_region 11 with fail
    have HSd : Hid (AgJ X p b d kb kc Y6 Y9 x q.sl q.gn lq U2.drew) := HSu.out.drew
    have HBd : Hid (Below w.heap.size w U2.drew) := HBu.out.drew
    refine wp_region_noPanic ?_
    refine wrl (AgJ X p b d kb kc Y6 Y9 x q.sl q.gn lq) 10 (by kernel_rfl) ?_
    refine wk 0 126 (.pointer (some ⟨p, 0, none⟩)) rfl HSd.out (fun W hW => by go_simp) ?_
    simp only [Act.put, sA, sZ, sS]
    refine wk 1 127 (.pointer (some ⟨p, 0, none⟩)) rfl HSd.out (fun W hW => by go_simp) ?_
    simp only [Act.put, sA, sZ, sS]
    refine wk 2 128 (.pointer (some ⟨p, 1, none⟩)) rfl HSd.out (fun W hW => by go_simp) ?_
    simp only [Act.put, sA, sZ, sS]
    refine wk 3 129 (.pointer (some ⟨d, 0, none⟩)) rfl HSd.out (fun W hW => by have p1 := hW.i.g.p1; go_simp) ?_
    simp only [Act.put, sA, sZ, sS]
    refine wk 4 130 (.pointer (some ⟨d, 0, none⟩)) rfl HSd.out (fun W hW => by go_simp) ?_
    simp only [Act.put, sA, sZ, sS]
    refine wk 5 131 (.pointer (some ⟨d, 1, none⟩)) rfl HSd.out (fun W hW => by go_simp) ?_
    simp only [Act.put, sA, sZ, sS]
    refine wk 6 132 (.pointer (some ⟨kb, 0, none⟩)) rfl HSd.out (fun W hW => by have d1 := hW.i.g.d1; go_simp) ?_
    simp only [Act.put, sA, sZ, sS]
    refine wk 7 133 (.pointer (some ⟨X, 1, none⟩)) rfl HSd.out (fun W hW => by go_simp) ?_
    simp only [Act.put, sA, sZ, sS]
    refine wk 8 134 (i64 x.env) rfl HSd.out (fun W hW => by have x1 := bkc hW.i.g.x 1; go_simp) ?_
    simp only [Act.put, sA, sZ, sS]
    refine wo 9 rfl (fun K hK => ?_)
    go_simp
    refine (HC.out.c46 U2.drew HBd.out).mono ?_
    rintro e w11 ⟨rfl, hb⟩
    have HSw11 : Hid (AgJ X p b d kb kc Y6 Y9 x q.sl q.gn lq w11) := HSd.out.below hb
    have HBw11 : Hid (Below w.heap.size w w11) := HBd.out.trans (hb.mono HBd.out.size)
    clear hb
    go_simp
    refine hK.out _ _ (fun _ => HSw11.out) ?_
    clear hK K
    refine wo 10 rfl (fun K hK => ?_)
    go_simp
    refine hK.out _ _ (fun h => absurd rfl h) ?_
    clear hK K
    refine wdd ?_
    refine NoPanic.normal ?_
    clear HSu HBu HSd HBd
    go_upto_region 12 with fail
    rcases HC.out.c47 with ⟨rfl, rfl, rfl⟩ | ⟨⟨k, rfl⟩, rfl, h47⟩
    · have HSd : Hid (AgJ X p b d kb kc Y6 Y9 x q.sl q.gn ⟨0, 0, 0⟩ w11.drew) := HSw11.out.drew
      have HBd : Hid (Below w.heap.size w w11.drew) := HBw11.out.drew
      refine wp_region_noPanic ?_
      refine wrl (AgJ X p b d kb kc Y6 Y9 x q.sl q.gn ⟨0, 0, 0⟩) 31 (by kernel_rfl) ?_
      refine wkp 0 136 (i64 (-1)) [1, 2, 5, 11] rfl HSd.out (fun W hW => by go_simp) ?_
      simp only [Act.put, sA, sZ, sS]
      refine wkp 1 137 (.bool true) [2, 5, 11] rfl HSd.out (fun W hW => by go_simp; try simp) ?_
      simp only [Act.put, sA, sZ, sS]
      refine wkp 2 138 (.bool true) [5, 11] rfl HSd.out (fun W hW => by go_simp) ?_
      simp only [Act.put, sA, sZ, sS]
      refine wkp 3 139 (i64 6) [4, 5, 11] rfl HSd.out (fun W hW => by go_simp) ?_
      simp only [Act.put, sA, sZ, sS]
      refine wkp 4 140 (.bool false) [5, 11] rfl HSd.out (fun W hW => by go_simp; try simp) ?_
      simp only [Act.put, sA, sZ, sS]
      refine wkp 5 141 (.bool false) [11] rfl HSd.out (fun W hW => by go_simp) ?_
      simp only [Act.put, sA, sZ, sS]
      refine wkp 6 142 (.agg #[i64 0, i64 0, i64 0]) [8, 9, 10, 11] rfl HSd.out (fun W hW => by have v0 := bkc hW.h9 0; have v1 := bkc hW.h9 1; have v2 := bkc hW.h9 2; go_simp) ?_
      simp only [Act.put, sA, sZ, sS]
      refine wkp 7 143 (.agg #[i64 0, i64 0, i64 0]) [8, 9, 10, 11] rfl HSd.out (fun W hW => by go_simp) ?_
      simp only [Act.put, sA, sZ, sS]
      refine wkp 8 144 (.bool false) [9, 10, 11] rfl HSd.out (fun W hW => by have q := Qt.eqIn22 9998 (⟨0, 0, 0⟩ : Qt.T) (⟨0, 0, 0⟩ : Qt.T) W; simp only [decide_true, Nat.reduceAdd] at q; unfold Qt.T.v at q; go_simp; try rfl) ?_
      simp only [Act.put, sA, sZ, sS]
      refine wkp 9 145 (.bool false) [10, 11] rfl HSd.out (fun W hW => by go_simp) ?_
      simp only [Act.put, sA, sZ, sS]
      refine wkp 10 146 (.bool false) [11] rfl HSd.out (fun W hW => by go_simp) ?_
      simp only [Act.put, sA, sZ, sS]
      refine wk 11 147 (.bool false) rfl HSd.out (fun W hW => by go_simp) ?_
      simp only [Act.put, sA, sZ, sS]
      refine wkp 12 148 (i64 (-1)) [13, 14, 30] rfl HSd.out (fun W hW => by go_simp) ?_
      simp only [Act.put, sA, sZ, sS]
      refine wkp 13 149 (.bool false) [14, 30] rfl HSd.out (fun W hW => by go_simp; try simp) ?_
      simp only [Act.put, sA, sZ, sS]
      refine wkp 14 150 (.bool false) [30] rfl HSd.out (fun W hW => by go_simp) ?_
      simp only [Act.put, sA, sZ, sS]
      refine wpL_skip 15 151 [16, 17, 29, 30] rfl rfl (by kernel_rfl) (by decide) (by kernel_rfl) (by kernel_rfl) (by kernel_rfl) (fun _ _ _ h => h) HSd.out (by rfl) ?_
      simp only [Act.put, sA, sZ, sS]
      refine wpL_skip 16 152 [17, 29, 30] rfl rfl (by kernel_rfl) (by decide) (by kernel_rfl) (by kernel_rfl) (by kernel_rfl) (fun _ _ _ h => h) HSd.out (by rfl) ?_
      simp only [Act.put, sA, sZ, sS]
      refine wpL_skip 17 153 [29, 30] rfl rfl (by kernel_rfl) (by decide) (by kernel_rfl) (by kernel_rfl) (by kernel_rfl) (fun _ _ _ h => h) HSd.out (by rfl) ?_
      simp only [Act.put, sA, sZ, sS]
      refine wpL_skip 18 154 [28, 29, 30] rfl rfl (by kernel_rfl) (by decide) (by kernel_rfl) (by kernel_rfl) (by kernel_rfl) (fun _ _ _ h => h) HSd.out (by rfl) ?_
      simp only [Act.put, sA, sZ, sS]
      refine wpL_skip 19 155 [20, 21, 22, 23, 24, 25, 27, 28, 29, 30] rfl rfl (by kernel_rfl) (by decide) (by kernel_rfl) (by kernel_rfl) (by kernel_rfl) (fun _ _ _ h => h) HSd.out (by rfl) ?_
      simp only [Act.put, sA, sZ, sS]
      refine wpL_skip 20 156 [21, 22, 23, 24, 25, 27, 28, 29, 30] rfl rfl (by kernel_rfl) (by decide) (by kernel_rfl) (by kernel_rfl) (by kernel_rfl) (fun _ _ _ h => h) HSd.out (by rfl) ?_
      simp only [Act.put, sA, sZ, sS]
      refine wpL_skip 21 157 [22, 23, 24, 25, 27, 28, 29, 30] rfl rfl (by kernel_rfl) (by decide) (by kernel_rfl) (by kernel_rfl) (by kernel_rfl) (fun _ _ _ h => h) HSd.out (by rfl) ?_
      simp only [Act.put, sA, sZ, sS]
      refine wpL_skip 22 158 [23, 24, 25, 27, 28, 29, 30] rfl rfl (by kernel_rfl) (by decide) (by kernel_rfl) (by kernel_rfl) (by kernel_rfl) (fun _ _ _ h => h) HSd.out (by rfl) ?_
      simp only [Act.put, sA, sZ, sS]
      refine wpL_skip 23 159 [24, 25, 27, 28, 29, 30] rfl rfl (by kernel_rfl) (by decide) (by kernel_rfl) (by kernel_rfl) (by kernel_rfl) (fun _ _ _ h => h) HSd.out (by rfl) ?_
      simp only [Act.put, sA, sZ, sS]
      refine wpL_skip 24 160 [25, 27, 28, 29, 30] rfl rfl (by kernel_rfl) (by decide) (by kernel_rfl) (by kernel_rfl) (by kernel_rfl) (fun _ _ _ h => h) HSd.out (by rfl) ?_
      simp only [Act.put, sA, sZ, sS]
      refine wpL_skip 25 161 [27, 28, 29, 30] rfl rfl (by kernel_rfl) (by decide) (by kernel_rfl) (by kernel_rfl) (by kernel_rfl) (fun _ _ _ h => h) HSd.out (by rfl) ?_
      simp only [Act.put, sA, sZ, sS]
      refine wpL_skip 26 162 [27, 28, 29, 30] rfl rfl (by kernel_rfl) (by decide) (by kernel_rfl) (by kernel_rfl) (by kernel_rfl) (fun _ _ _ h => h) HSd.out (by rfl) ?_
      simp only [Act.put, sA, sZ, sS]
      refine wpL_skip 27 163 [28, 29, 30] rfl rfl (by kernel_rfl) (by decide) (by kernel_rfl) (by kernel_rfl) (by kernel_rfl) (fun _ _ _ h => h) HSd.out (by rfl) ?_
      simp only [Act.put, sA, sZ, sS]
      refine wpL_skip 28 164 [29, 30] rfl rfl (by kernel_rfl) (by decide) (by kernel_rfl) (by kernel_rfl) (by kernel_rfl) (fun _ _ _ h => h) HSd.out (by rfl) ?_
      simp only [Act.put, sA, sZ, sS]
      refine wpL_skip 29 165 [30] rfl rfl (by kernel_rfl) (by decide) (by kernel_rfl) (by kernel_rfl) (by kernel_rfl) (fun _ _ _ h => h) HSd.out (by rfl) ?_
      simp only [Act.put, sA, sZ, sS]
      refine wk 30 166 (.bool false) rfl HSd.out (fun W hW => by go_simp) ?_
      simp only [Act.put, sA, sZ, sS]
      refine wo 31 rfl (fun K hK => ?_)
      go_simp
      refine hK.out _ _ (fun h => absurd rfl h) ?_
      clear hK K
      refine wdd ?_
      refine NoPanic.normal ?_
      have HSe := HSd
      have HBe := HBd
      go_upto_region 14 with fail
      have HS14 : Hid (AgJ X p b d kb kc Y6 Y9 x q.sl q.gn ⟨0, 0, 0⟩ w11.drew.drew) := HSe.out.drew
      have HB14 : Hid (Below w.heap.size w w11.drew.drew) := HBe.out.drew
      refine wp_region_noPanic ?_
      refine wrl (AgJ X p b d kb kc Y6 Y9 x q.sl q.gn ⟨0, 0, 0⟩) 25 (by kernel_rfl) ?_
      refine wk 0 168 (.pointer (some ⟨p, 0, none⟩)) rfl HS14.out (fun W hW => by go_simp) ?_
      simp only [Act.put, sA, sZ, sS]
      refine wk 1 169 (.pointer (some ⟨p, 0, none⟩)) rfl HS14.out (fun W hW => by go_simp) ?_
      simp only [Act.put, sA, sZ, sS]
      refine wk 2 170 (.pointer (some ⟨p, 0, none⟩)) rfl HS14.out (fun W hW => by go_simp) ?_
      simp only [Act.put, sA, sZ, sS]
      refine wk 3 171 (.pointer (some ⟨b, 0, none⟩)) rfl HS14.out (fun W hW => by have p0 := hW.i.g.p0; go_simp) ?_
      simp only [Act.put, sA, sZ, sS]
      refine wk 4 172 (.pointer (some ⟨X, 2, none⟩)) rfl HS14.out (fun W hW => by go_simp) ?_
      simp only [Act.put, sA, sZ, sS]
      refine wk 5 173 (i64 x.kind) rfl HS14.out (fun W hW => by have x2 := bkc hW.i.g.x 2; go_simp) ?_
      simp only [Act.put, sA, sZ, sS]
      refine wk 6 174 (.pointer (some ⟨X, 3, none⟩)) rfl HS14.out (fun W hW => by go_simp) ?_
      simp only [Act.put, sA, sZ, sS]
      refine wk 7 175 (i64 x.n) rfl HS14.out (fun W hW => by have x3 := bkc hW.i.g.x 3; go_simp) ?_
      simp only [Act.put, sA, sZ, sS]
      refine wk 9 177 (i64 own) rfl HS14.out (fun W hW => by go_simp) ?_
      simp only [Act.put, sA, sZ, sS]
      refine wo 8 rfl (fun K hK => ?_)
      go_simp
      refine (HC.out.c14 w11.drew.drew HB14.out).mono ?_
      rintro e w13 ⟨rfl, hb⟩
      have HSw13 : Hid (AgJ X p b d kb kc Y6 Y9 x q.sl q.gn ⟨0, 0, 0⟩ w13) := HS14.out.below hb
      have HBw13 : Hid (Below w.heap.size w w13) := HB14.out.trans (hb.mono HB14.out.size)
      clear hb
      go_simp
      refine hK.out _ _ (fun _ => HSw13.out) ?_
      clear hK K
      refine wk 10 178 (.bool true) rfl HSw13.out (fun W hW => by go_simp; try simp) ?_
      simp only [Act.put, sA, sZ, sS]
      refine wk 11 179 (.bool true) rfl HSw13.out (fun W hW => by go_simp) ?_
      simp only [Act.put, sA, sZ, sS]
      refine wk 12 180 (.pointer (some ⟨p, 0, none⟩)) rfl HSw13.out (fun W hW => by go_simp) ?_
      simp only [Act.put, sA, sZ, sS]
      refine wk 13 181 (.pointer (some ⟨p, 0, none⟩)) rfl HSw13.out (fun W hW => by go_simp) ?_
      simp only [Act.put, sA, sZ, sS]
      refine wk 14 182 (.pointer (some ⟨p, 0, none⟩)) rfl HSw13.out (fun W hW => by go_simp) ?_
      simp only [Act.put, sA, sZ, sS]
      refine wk 15 183 (.pointer (some ⟨b, 0, none⟩)) rfl HSw13.out (fun W hW => by have p0 := hW.i.g.p0; go_simp) ?_
      simp only [Act.put, sA, sZ, sS]
      refine wk 16 184 (.pointer (some ⟨X, 2, none⟩)) rfl HSw13.out (fun W hW => by go_simp) ?_
      simp only [Act.put, sA, sZ, sS]
      refine wk 17 185 (i64 x.kind) rfl HSw13.out (fun W hW => by have x2 := bkc hW.i.g.x 2; go_simp) ?_
      simp only [Act.put, sA, sZ, sS]
      refine wk 18 186 (.pointer (some ⟨X, 3, none⟩)) rfl HSw13.out (fun W hW => by go_simp) ?_
      simp only [Act.put, sA, sZ, sS]
      refine wk 19 187 (i64 x.n) rfl HSw13.out (fun W hW => by have x3 := bkc hW.i.g.x 3; go_simp) ?_
      simp only [Act.put, sA, sZ, sS]
      refine wk 22 190 (.agg #[i64 q.sl, i64 q.gn]) rfl HSw13.out (fun W hW => by have y0 := bkc hW.i.h6 0; have y1 := bkc hW.i.h6 1; go_simp) ?_
      simp only [Act.put, sA, sZ, sS]
      refine wo 20 rfl (fun K hK => ?_)
      go_simp
      refine (HC.out.c15 w13 HBw13.out).mono ?_
      rintro e w14 ⟨rfl, hb⟩
      have HSw14 : Hid (AgJ X p b d kb kc Y6 Y9 x q.sl q.gn ⟨0, 0, 0⟩ w14) := HSw13.out.below hb
      have HBw14 : Hid (Below w.heap.size w w14) := HBw13.out.trans (hb.mono HBw13.out.size)
      clear hb
      go_simp
      refine hK.out _ _ (fun _ => HSw14.out) ?_
      clear hK K
      refine wo 21 rfl (fun K hK => ?_)
      go_simp
      refine (ref_ok w14 q.sl q.gn).mono ?_
      rintro e w15 ⟨rfl, hb⟩
      have HSw15 : Hid (AgJ X p b d kb kc Y6 Y9 x q.sl q.gn ⟨0, 0, 0⟩ w15) := HSw14.out.below hb
      have HBw15 : Hid (Below w.heap.size w w15) := HBw14.out.trans (hb.mono HBw14.out.size)
      clear hb
      go_simp
      refine hK.out _ _ (fun _ => HSw15.out) ?_
      clear hK K
      refine wk 23 191 (.bool true) rfl HSw15.out (fun W hW => by have q := eq81 q.sl q.gn W; go_simp; try rfl) ?_
      simp only [Act.put, sA, sZ, sS]
      refine wk 24 192 (.bool true) rfl HSw15.out (fun W hW => by go_simp) ?_
      simp only [Act.put, sA, sZ, sS]
      refine wo 25 rfl (fun K hK => ?_)
      go_simp
      refine hK.out _ _ (fun h => absurd rfl h) ?_
      clear hK K
      refine wdd ?_
      refine NoPanic.normal ?_
      go_wp2_with fail
      go_ret
      exact ⟨rfl, HBw15.out⟩
    · have HC47 := hid h47
      clear h47
      have HSd : Hid (AgJ X p b d kb kc Y6 Y9 x q.sl q.gn lq w11.drew) := HSw11.out.drew
      have HBd : Hid (Below w.heap.size w w11.drew) := HBw11.out.drew
      refine wp_region_noPanic ?_
      refine wrl (AgJ X p b d kb kc Y6 Y9 x q.sl q.gn lq) 31 (by kernel_rfl) ?_
      refine wkp 0 136 (i64 (k : Nat)) [1, 2, 5, 11] rfl HSd.out (fun W hW => by go_simp) ?_
      simp only [Act.put, sA, sZ, sS]
      refine wkp 1 137 (.bool false) [2, 5, 11] rfl HSd.out (fun W hW => by have hk0 : decide ((k : Int) < 0) = false := decide_eq_false (by omega); have hk1 : decide ((0 : Int) ≤ (k : Int)) = true := decide_eq_true (by omega); go_simp; try simp) ?_
      simp only [Act.put, sA, sZ, sS]
      refine wkp 2 138 (.bool false) [5, 11] rfl HSd.out (fun W hW => by go_simp) ?_
      simp only [Act.put, sA, sZ, sS]
      refine wpL_skip 3 139 [4, 5, 11] rfl rfl (by kernel_rfl) (by decide) (by kernel_rfl) (by kernel_rfl) (by kernel_rfl) (fun _ _ _ h => h) HSd.out (by rfl) ?_
      simp only [Act.put, sA, sZ, sS]
      refine wpL_skip 4 140 [5, 11] rfl rfl (by kernel_rfl) (by decide) (by kernel_rfl) (by kernel_rfl) (by kernel_rfl) (fun _ _ _ h => h) HSd.out (by rfl) ?_
      simp only [Act.put, sA, sZ, sS]
      refine wpL_skip 5 141 [11] rfl rfl (by kernel_rfl) (by decide) (by kernel_rfl) (by kernel_rfl) (by kernel_rfl) (fun _ _ _ h => h) HSd.out (by rfl) ?_
      simp only [Act.put, sA, sZ, sS]
      refine wpL_skip 6 142 [8, 9, 10, 11] rfl rfl (by kernel_rfl) (by decide) (by kernel_rfl) (by kernel_rfl) (by kernel_rfl) (fun _ _ _ h => h) HSd.out (by rfl) ?_
      simp only [Act.put, sA, sZ, sS]
      refine wpL_skip 7 143 [8, 9, 10, 11] rfl rfl (by kernel_rfl) (by decide) (by kernel_rfl) (by kernel_rfl) (by kernel_rfl) (fun _ _ _ h => h) HSd.out (by rfl) ?_
      simp only [Act.put, sA, sZ, sS]
      refine wpL_skip 8 144 [9, 10, 11] rfl rfl (by kernel_rfl) (by decide) (by kernel_rfl) (by kernel_rfl) (by kernel_rfl) (fun _ _ _ h => h) HSd.out (by rfl) ?_
      simp only [Act.put, sA, sZ, sS]
      refine wpL_skip 9 145 [10, 11] rfl rfl (by kernel_rfl) (by decide) (by kernel_rfl) (by kernel_rfl) (by kernel_rfl) (fun _ _ _ h => h) HSd.out (by rfl) ?_
      simp only [Act.put, sA, sZ, sS]
      refine wkp 10 146 (.bool false) [11] rfl HSd.out (fun W hW => by go_simp) ?_
      simp only [Act.put, sA, sZ, sS]
      refine wk 11 147 (.bool false) rfl HSd.out (fun W hW => by go_simp) ?_
      simp only [Act.put, sA, sZ, sS]
      refine wkp 12 148 (i64 (k : Nat)) [13, 14, 30] rfl HSd.out (fun W hW => by go_simp) ?_
      simp only [Act.put, sA, sZ, sS]
      refine wkp 13 149 (.bool true) [14, 30] rfl HSd.out (fun W hW => by have hk0 : decide ((k : Int) < 0) = false := decide_eq_false (by omega); have hk1 : decide ((0 : Int) ≤ (k : Int)) = true := decide_eq_true (by omega); go_simp; try simp) ?_
      simp only [Act.put, sA, sZ, sS]
      refine wkp 14 150 (.bool true) [30] rfl HSd.out (fun W hW => by go_simp) ?_
      simp only [Act.put, sA, sZ, sS]
      refine wkp 15 151 (i64 0) [16, 17, 29, 30] rfl HSd.out (fun W hW => by go_simp) ?_
      simp only [Act.put, sA, sZ, sS]
      refine wkp 16 152 (.bool false) [17, 29, 30] rfl HSd.out (fun W hW => by go_simp; try simp) ?_
      simp only [Act.put, sA, sZ, sS]
      refine wkp 17 153 (.bool false) [29, 30] rfl HSd.out (fun W hW => by go_simp) ?_
      simp only [Act.put, sA, sZ, sS]
      refine wkp 18 154 (.agg #[i64 lq.a, i64 lq.b, i64 lq.c]) [28, 29, 30] rfl HSd.out (fun W hW => by have v0 := bkc hW.h9 0; have v1 := bkc hW.h9 1; have v2 := bkc hW.h9 2; go_simp) ?_
      simp only [Act.put, sA, sZ, sS]
      refine wkp 19 155 (.pointer (some ⟨p, 0, none⟩)) [20, 21, 22, 23, 24, 25, 27, 28, 29, 30] rfl HSd.out (fun W hW => by go_simp) ?_
      simp only [Act.put, sA, sZ, sS]
      refine wkp 20 156 (.pointer (some ⟨p, 0, none⟩)) [21, 22, 23, 24, 25, 27, 28, 29, 30] rfl HSd.out (fun W hW => by go_simp) ?_
      simp only [Act.put, sA, sZ, sS]
      refine wkp 21 157 (.pointer (some ⟨p, 1, none⟩)) [22, 23, 24, 25, 27, 28, 29, 30] rfl HSd.out (fun W hW => by go_simp) ?_
      simp only [Act.put, sA, sZ, sS]
      refine wkp 22 158 (.pointer (some ⟨d, 0, none⟩)) [23, 24, 25, 27, 28, 29, 30] rfl HSd.out (fun W hW => by have p1 := hW.i.g.p1; go_simp) ?_
      simp only [Act.put, sA, sZ, sS]
      refine wkp 23 159 (.pointer (some ⟨d, 0, none⟩)) [24, 25, 27, 28, 29, 30] rfl HSd.out (fun W hW => by go_simp) ?_
      simp only [Act.put, sA, sZ, sS]
      refine wkp 24 160 (.pointer (some ⟨d, 1, none⟩)) [25, 27, 28, 29, 30] rfl HSd.out (fun W hW => by go_simp) ?_
      simp only [Act.put, sA, sZ, sS]
      refine wkp 25 161 (.pointer (some ⟨kb, 0, none⟩)) [27, 28, 29, 30] rfl HSd.out (fun W hW => by have d1 := hW.i.g.d1; go_simp) ?_
      simp only [Act.put, sA, sZ, sS]
      refine wkp 26 162 (i64 (k : Nat)) [27, 28, 29, 30] rfl HSd.out (fun W hW => by go_simp) ?_
      simp only [Act.put, sA, sZ, sS]
      refine wo 27 rfl (fun K hK => ?_)
      go_simp
      refine (HC47.out w11.drew HBd.out).mono ?_
      rintro e w12 ⟨rfl, hb⟩
      have HSw12 : Hid (AgJ X p b d kb kc Y6 Y9 x q.sl q.gn lq w12) := HSd.out.below hb
      have HBw12 : Hid (Below w.heap.size w w12) := HBd.out.trans (hb.mono HBd.out.size)
      clear hb
      go_simp
      refine hK.out _ _ (fun _ => HSw12.out) ?_
      clear hK K
      refine wkp 28 164 (.bool false) [29, 30] rfl HSw12.out (fun W hW => by have q := Qt.eqIn22 9998 lq lq W; simp only [decide_true, Nat.reduceAdd] at q; unfold Qt.T.v at q; go_simp; try rfl) ?_
      simp only [Act.put, sA, sZ, sS]
      refine wkp 29 165 (.bool false) [30] rfl HSw12.out (fun W hW => by go_simp) ?_
      simp only [Act.put, sA, sZ, sS]
      refine wk 30 166 (.bool false) rfl HSw12.out (fun W hW => by go_simp) ?_
      simp only [Act.put, sA, sZ, sS]
      refine wo 31 rfl (fun K hK => ?_)
      go_simp
      refine hK.out _ _ (fun h => absurd rfl h) ?_
      clear hK K
      refine wdd ?_
      refine NoPanic.normal ?_
      have HSe := HSw12
      have HBe := HBw12
      go_upto_region 14 with fail
      have HS14 : Hid (AgJ X p b d kb kc Y6 Y9 x q.sl q.gn lq w12.drew) := HSe.out.drew
      have HB14 : Hid (Below w.heap.size w w12.drew) := HBe.out.drew
      refine wp_region_noPanic ?_
      refine wrl (AgJ X p b d kb kc Y6 Y9 x q.sl q.gn lq) 25 (by kernel_rfl) ?_
      refine wk 0 168 (.pointer (some ⟨p, 0, none⟩)) rfl HS14.out (fun W hW => by go_simp) ?_
      simp only [Act.put, sA, sZ, sS]
      refine wk 1 169 (.pointer (some ⟨p, 0, none⟩)) rfl HS14.out (fun W hW => by go_simp) ?_
      simp only [Act.put, sA, sZ, sS]
      refine wk 2 170 (.pointer (some ⟨p, 0, none⟩)) rfl HS14.out (fun W hW => by go_simp) ?_
      simp only [Act.put, sA, sZ, sS]
      refine wk 3 171 (.pointer (some ⟨b, 0, none⟩)) rfl HS14.out (fun W hW => by have p0 := hW.i.g.p0; go_simp) ?_
      simp only [Act.put, sA, sZ, sS]
      refine wk 4 172 (.pointer (some ⟨X, 2, none⟩)) rfl HS14.out (fun W hW => by go_simp) ?_
      simp only [Act.put, sA, sZ, sS]
      refine wk 5 173 (i64 x.kind) rfl HS14.out (fun W hW => by have x2 := bkc hW.i.g.x 2; go_simp) ?_
      simp only [Act.put, sA, sZ, sS]
      refine wk 6 174 (.pointer (some ⟨X, 3, none⟩)) rfl HS14.out (fun W hW => by go_simp) ?_
      simp only [Act.put, sA, sZ, sS]
      refine wk 7 175 (i64 x.n) rfl HS14.out (fun W hW => by have x3 := bkc hW.i.g.x 3; go_simp) ?_
      simp only [Act.put, sA, sZ, sS]
      refine wk 9 177 (i64 own) rfl HS14.out (fun W hW => by go_simp) ?_
      simp only [Act.put, sA, sZ, sS]
      refine wo 8 rfl (fun K hK => ?_)
      go_simp
      refine (HC.out.c14 w12.drew HB14.out).mono ?_
      rintro e w13 ⟨rfl, hb⟩
      have HSw13 : Hid (AgJ X p b d kb kc Y6 Y9 x q.sl q.gn lq w13) := HS14.out.below hb
      have HBw13 : Hid (Below w.heap.size w w13) := HB14.out.trans (hb.mono HB14.out.size)
      clear hb
      go_simp
      refine hK.out _ _ (fun _ => HSw13.out) ?_
      clear hK K
      refine wk 10 178 (.bool true) rfl HSw13.out (fun W hW => by go_simp; try simp) ?_
      simp only [Act.put, sA, sZ, sS]
      refine wk 11 179 (.bool true) rfl HSw13.out (fun W hW => by go_simp) ?_
      simp only [Act.put, sA, sZ, sS]
      refine wk 12 180 (.pointer (some ⟨p, 0, none⟩)) rfl HSw13.out (fun W hW => by go_simp) ?_
      simp only [Act.put, sA, sZ, sS]
      refine wk 13 181 (.pointer (some ⟨p, 0, none⟩)) rfl HSw13.out (fun W hW => by go_simp) ?_
      simp only [Act.put, sA, sZ, sS]
      refine wk 14 182 (.pointer (some ⟨p, 0, none⟩)) rfl HSw13.out (fun W hW => by go_simp) ?_
      simp only [Act.put, sA, sZ, sS]
      refine wk 15 183 (.pointer (some ⟨b, 0, none⟩)) rfl HSw13.out (fun W hW => by have p0 := hW.i.g.p0; go_simp) ?_
      simp only [Act.put, sA, sZ, sS]
      refine wk 16 184 (.pointer (some ⟨X, 2, none⟩)) rfl HSw13.out (fun W hW => by go_simp) ?_
      simp only [Act.put, sA, sZ, sS]
      refine wk 17 185 (i64 x.kind) rfl HSw13.out (fun W hW => by have x2 := bkc hW.i.g.x 2; go_simp) ?_
      simp only [Act.put, sA, sZ, sS]
      refine wk 18 186 (.pointer (some ⟨X, 3, none⟩)) rfl HSw13.out (fun W hW => by go_simp) ?_
      simp only [Act.put, sA, sZ, sS]
      refine wk 19 187 (i64 x.n) rfl HSw13.out (fun W hW => by have x3 := bkc hW.i.g.x 3; go_simp) ?_
      simp only [Act.put, sA, sZ, sS]
      refine wk 22 190 (.agg #[i64 q.sl, i64 q.gn]) rfl HSw13.out (fun W hW => by have y0 := bkc hW.i.h6 0; have y1 := bkc hW.i.h6 1; go_simp) ?_
      simp only [Act.put, sA, sZ, sS]
      refine wo 20 rfl (fun K hK => ?_)
      go_simp
      refine (HC.out.c15 w13 HBw13.out).mono ?_
      rintro e w14 ⟨rfl, hb⟩
      have HSw14 : Hid (AgJ X p b d kb kc Y6 Y9 x q.sl q.gn lq w14) := HSw13.out.below hb
      have HBw14 : Hid (Below w.heap.size w w14) := HBw13.out.trans (hb.mono HBw13.out.size)
      clear hb
      go_simp
      refine hK.out _ _ (fun _ => HSw14.out) ?_
      clear hK K
      refine wo 21 rfl (fun K hK => ?_)
      go_simp
      refine (ref_ok w14 q.sl q.gn).mono ?_
      rintro e w15 ⟨rfl, hb⟩
      have HSw15 : Hid (AgJ X p b d kb kc Y6 Y9 x q.sl q.gn lq w15) := HSw14.out.below hb
      have HBw15 : Hid (Below w.heap.size w w15) := HBw14.out.trans (hb.mono HBw14.out.size)
      clear hb
      go_simp
      refine hK.out _ _ (fun _ => HSw15.out) ?_
      clear hK K
      refine wk 23 191 (.bool true) rfl HSw15.out (fun W hW => by have q := eq81 q.sl q.gn W; go_simp; try rfl) ?_
      simp only [Act.put, sA, sZ, sS]
      refine wk 24 192 (.bool true) rfl HSw15.out (fun W hW => by go_simp) ?_
      simp only [Act.put, sA, sZ, sS]
      refine wo 25 rfl (fun K hK => ?_)
      go_simp
      refine hK.out _ _ (fun h => absurd rfl h) ?_
      clear hK K
      refine wdd ?_
      refine NoPanic.normal ?_
      go_wp2_with fail
      go_ret
      exact ⟨rfl, HBw15.out⟩
end Go.Proofs.Ytnknhencobhjdaa
