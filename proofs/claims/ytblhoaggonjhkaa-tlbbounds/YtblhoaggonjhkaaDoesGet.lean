/- imagolaw04's 'does' where it gets, and any step: its contract; no statement is proved in this text. -/
import Derived.Test.YtblhoaggonjhkaaDoes
namespace Go.Proofs.Ytblhoaggonjhkaa
open Go.ChangeShapes Go.WideShapes Go.ChangeAt Go.RowKit Go.Deep

set_option maxRecDepth 100000 in
set_option maxHeartbeats 4000000 in
theorem does_get3 {w : World} {base p p2 : Nat} {L : Ls} {h m : Nat} (t : Two w base p p2 L h m) (k : K3) (e : En) (hh : h ≤ 100000) (hm : m ≤ 100000) : DoesTo w base p p2 ⟨3, k, e⟩ L h m := by
  have hb0 : Below w.heap.size w (w.alloc (.cells #[i64 3, i64 k.env, i64 k.proc, i64 k.page, i64 e.frame, .bool e.wr] 35)) := (Below.refl _ _).alloc (Nat.le_refl _) _
  have HT0 : Hid (Two w base p p2 L h m) := t
  have HB0 : Hid (Below w.heap.size w (w.alloc (.cells #[i64 3, i64 k.env, i64 k.proc, i64 k.page, i64 e.frame, .bool e.wr] 35))) := hb0
  have HS0 : Hid ((w.alloc (.cells #[i64 3, i64 k.env, i64 k.proc, i64 k.page, i64 e.frame, .bool e.wr] 35)).heap[w.heap.size]? = some (.cells (St.cells ⟨3, k, e⟩).toArray 35 (0, 0))) := heap_last w _
  have hsz : (w.alloc (.cells #[i64 3, i64 k.env, i64 k.proc, i64 k.page, i64 e.frame, .bool e.wr] 35)).heap.size = w.heap.size + 1 := by simp
  have hL8 := t.l8
  clear hb0 t
  unfold DoesTo
  unfold St.cells
  go_enter Try.func9, Try.ntmps9
  go_wp2_with fail
  refine (ref_ok _ k e).mono ?_
  rintro e' w2 ⟨rfl, hb2⟩
  rw [hsz] at hb2
  have hs2 : w.heap.size + 1 ≤ w2.heap.size := by have := hb2.size; rw [hsz] at this; exact this
  have hbX : Below w2.heap.size w2 (w2.alloc (.cells (oneA (k, e)) 42)) := (Below.refl _ _).alloc (Nat.le_refl _) _
  have hbW : Below w.heap.size w (w2.alloc (.cells (oneA (k, e)) 42)) := (HB0.out.trans (hb2.mono (by omega))).trans (hbX.mono (by omega))
  have HT : Hid (Two (w2.alloc (.cells (oneA (k, e)) 42)) base p p2 L h m) := HT0.out.below hbW
  have HF : Hid (FD base w (w2.alloc (.cells (oneA (k, e)) 42))) := fd_below hbW HT0.out.bw
  have hS1 : (w2.alloc (.cells (oneA (k, e)) 42)).heap[w.heap.size]? = some (.cells (St.cells ⟨3, k, e⟩).toArray 35 (0, 0)) := (Below.heap_alloc _ _ _ (by omega)).trans ((hb2.block _ (by omega)).trans HS0.out)
  have HS1 : Hid ((w2.alloc (.cells (oneA (k, e)) 42)).heap[w.heap.size]? = some (.cells (St.cells ⟨3, k, e⟩).toArray 35 (0, 0))) := hS1
  have HX1 : Hid ((w2.alloc (.cells (oneA (k, e)) 42)).heap[w2.heap.size]? = some (.cells (oneA (k, e)) 42 (0, 0))) := heap_last w2 _
  obtain ⟨a0, a1, a2, a3, a4, a5⟩ := six_cells hS1
  obtain ⟨x0, x1, x2, x3, x4⟩ := one_new HX1.out
  simp only [Nat.zero_add] at x1 x2 x3 x4
  clear hb2 hbX hbW hS1
  have q33 := eql33 zeroE
  go_wp2_with fail
  refine (get_ok HT.out.b k hh hm).mono ?_
  rintro e' w3 ⟨rfl, hf3, hb3⟩
  obtain ⟨E, hE⟩ : ∃ E, E = (look L k).getD zeroE := ⟨_, rfl⟩
  obtain ⟨T, hT⟩ : ∃ T, T = (look L k).isSome := ⟨_, rfl⟩
  rw [← hE, ← hT]
  have HE : Hid (E = (look L k).getD zeroE) := hE
  have HTT : Hid (T = (look L k).isSome) := hT
  have hbY : Below w3.heap.size w3 (w3.alloc (.cells #[i64 E.frame, .bool E.wr] 33)) := (Below.refl _ _).alloc (Nat.le_refl _) _
  have hlt3 : w.heap.size < w3.heap.size := (Array.getElem?_eq_some_iff.1 (hf3.kept _ _ HS1.out (by simp [keeps]))).1
  have HX4 : Hid ((w3.alloc (.cells #[i64 E.frame, .bool E.wr] 33)).heap[w2.heap.size]? = some (.cells (oneA (k, e)) 42 (0, 0))) := (hbY.block _ (Array.getElem?_eq_some_iff.1 (hf3.kept _ _ HX1.out (by simp [keeps]))).1).trans (hf3.kept _ _ HX1.out (by simp [keeps]))
  have HS4 : Hid ((w3.alloc (.cells #[i64 E.frame, .bool E.wr] 33)).heap[w.heap.size]? = some (.cells (St.cells ⟨3, k, e⟩).toArray 35 (0, 0))) := (hbY.block _ hlt3).trans (hf3.kept _ _ HS1.out (by simp [keeps]))
  have HY4 : Hid ((w3.alloc (.cells #[i64 E.frame, .bool E.wr] 33)).heap[w3.heap.size]? = some (.cells #[i64 E.frame, .bool E.wr] 33 (0, 0))) := heap_last w3 _
  have HB4 : Hid (Buf (w3.alloc (.cells #[i64 E.frame, .bool E.wr] 33)) base p L (keysOf L) (if (look L k).isSome = true then h + 1 else h) (if (look L k).isSome = true then m else m + 1)) := hb3.below hbY
  have HR4 : Hid (RBuf (w3.alloc (.cells #[i64 E.frame, .bool E.wr] 33)) base p2 L h m) := (HT.out.r.kept (fun i o hi ho => hf3.kept i o hi (keeps_a o ho))).below hbY
  have hbw4 : base ≤ (w3.alloc (.cells #[i64 E.frame, .bool E.wr] 33)).heap.size := Nat.le_trans (Nat.le_trans HT.out.bw hf3.size) hbY.size
  have HF4 : Hid (FD base w (w3.alloc (.cells #[i64 E.frame, .bool E.wr] 33))) := (HF.out.trans (fd_g hf3)).trans (fd_below hbY (Nat.le_trans HT.out.bw hf3.size))
  obtain ⟨z0, z1, z2, z3, z4⟩ := one_new HX4.out
  simp only [Nat.zero_add] at z1 z2 z3 z4
  clear hf3 hb3 hE hT hbY x0 x1 x2 x3 x4 a0 a1 a2 a3 a4 a5
  go_wp2_with fail
  refine (rget_ok HR4.out (by omega) HT.out.nd (k, e) hh hm).mono ?_
  rintro e' w5 ⟨hf5, hr5, r, rfl, hat⟩
  have HY5 : Hid (w5.heap[w3.heap.size]? = some (.cells #[i64 E.frame, .bool E.wr] 33 (0, 0))) := hf5.kept _ _ HY4.out (by simp [keeps])
  have HS5 : Hid (w5.heap[w.heap.size]? = some (.cells (St.cells ⟨3, k, e⟩).toArray 35 (0, 0))) := hf5.kept _ _ HS4.out (by simp [keeps])
  have HTW0 : Hid (Two w5 base p p2 L (if (look L k).isSome = true then h + 1 else h) (if (look L k).isSome = true then m else m + 1)) := ⟨HB4.out.kept (fun i o hi ho => hf5.kept i o hi (keeps_sub o ho)), hr5, hL8, Nat.le_trans hbw4 hf5.size⟩
  have HTW : Hid (Two w5 base p p2 (nextL ⟨3, k, e⟩ L) (nextH ⟨3, k, e⟩ L h) (nextM ⟨3, k, e⟩ L m)) := (by
    have := HTW0.out
    cases hc : (look L k).isSome <;> rw [hc] at this <;> simpa [nextL, nextH, nextM, hc] using this : Two w5 base p p2 (nextL ⟨3, k, e⟩ L) (nextH ⟨3, k, e⟩ L h) (nextM ⟨3, k, e⟩ L m))
  have HF5 : Hid (FD base w w5) := HF4.out.trans (fd_r1 hf5)
  have HR5 : Hid (RBuf w5 base p2 L (if (look L k).isSome = true then h + 1 else h) (if (look L k).isSome = true then m else m + 1)) := hr5
  have hyy : w5.cell? ⟨w3.heap.size, 0, none⟩ = some (i64 E.frame) ∧ w5.cell? ⟨w3.heap.size, 1, none⟩ = some (.bool E.wr) := by
    rw [cell_of_row w5 _ 0 _ 33 (0, 0) HY5.out, cell_of_row w5 _ 1 _ 33 (0, 0) HY5.out]
    exact ⟨rfl, rfl⟩
  obtain ⟨u0, u1⟩ := hyy
  clear hf5 hr5 z0 z1 z2 z3 z4
  rcases hat with ⟨hn, rfl⟩ | ⟨j, hj, rfl, hjk⟩
  · have hn' : look L k = none := hn
    have hEz : E = zeroE := by rw [HE.out, hn']; rfl
    have hTz : T = false := by rw [HTT.out, hn']; rfl
    subst hEz hTz
    clear hn hn'
    go_wp2_with fail
    go_ret
    exact ⟨by simp, HF5.out, HTW.out⟩
  · have hjk' : L[j].1 = k := hjk
    have hsm : look L k = some L[j].2 := by rw [← hjk']; exact look_some HT.out.nd (List.getElem_mem hj)
    have hTt : T = true := by rw [HTT.out, hsm]; rfl
    have hEj : L[j] = (k, E) := by
      rw [HE.out, hsm, ← hjk']
      rfl
    subst hTt
    obtain ⟨lv, g1, g2⟩ := HR5.out.ex
    obtain ⟨ao, cap, rfl, _⟩ := own_slice g2
    obtain ⟨g, rfl⟩ : ∃ g, ao = some ⟨g, 0, none⟩ := by
      rcases g2.2 with ⟨_, h0⟩ | ⟨g, cp, cur, hv, _⟩
      · omega
      · cases hv; exact ⟨g, rfl⟩
    obtain ⟨o0, o1, o2, o3, o4⟩ := own_one g2 hj
    rw [hEj] at o0 o1 o2 o3 o4
    have hp20 := (three_cells g1).1.1
    obtain ⟨b0, b1, b2, b3, b4, b5⟩ := six_cells HS5.out
    have hN : ∃ n, L.length = n := ⟨_, rfl⟩
    obtain ⟨n, hN⟩ := hN
    rw [hN] at hp20 hj
    have HSG0 : Hid (w5.cell? ⟨w.heap.size, 1, none⟩ = some (i64 k.env) ∧ w5.cell? ⟨w.heap.size, 2, none⟩ = some (i64 k.proc) ∧ w5.cell? ⟨w.heap.size, 3, none⟩ = some (i64 k.page) ∧ w5.cell? ⟨w3.heap.size, 0, none⟩ = some (i64 E.frame) ∧ w5.cell? ⟨w3.heap.size, 1, none⟩ = some (.bool E.wr) ∧ w5.cell? ⟨p2, 0, none⟩ = some (.slice (some ⟨g, 0, none⟩) n cap) ∧ w5.cell? ⟨g, j * 5, none⟩ = some (i64 k.env) ∧ w5.cell? ⟨g, j * 5 + 1, none⟩ = some (i64 k.proc) ∧ w5.cell? ⟨g, j * 5 + 2, none⟩ = some (i64 k.page) ∧ w5.cell? ⟨g, j * 5 + 3, none⟩ = some (i64 E.frame) ∧ w5.cell? ⟨g, j * 5 + 4, none⟩ = some (.bool E.wr)) := ⟨b1, b2, b3, u0, u1, hp20, o0, o1, o2, o3, o4⟩
    have HSG1 : Hid (w5.drew.cell? ⟨w.heap.size, 1, none⟩ = some (i64 k.env) ∧ w5.drew.cell? ⟨w.heap.size, 2, none⟩ = some (i64 k.proc) ∧ w5.drew.cell? ⟨w.heap.size, 3, none⟩ = some (i64 k.page) ∧ w5.drew.cell? ⟨w3.heap.size, 0, none⟩ = some (i64 E.frame) ∧ w5.drew.cell? ⟨w3.heap.size, 1, none⟩ = some (.bool E.wr) ∧ w5.drew.cell? ⟨p2, 0, none⟩ = some (.slice (some ⟨g, 0, none⟩) n cap) ∧ w5.drew.cell? ⟨g, j * 5, none⟩ = some (i64 k.env) ∧ w5.drew.cell? ⟨g, j * 5 + 1, none⟩ = some (i64 k.proc) ∧ w5.drew.cell? ⟨g, j * 5 + 2, none⟩ = some (i64 k.page) ∧ w5.drew.cell? ⟨g, j * 5 + 3, none⟩ = some (i64 E.frame) ∧ w5.drew.cell? ⟨g, j * 5 + 4, none⟩ = some (.bool E.wr)) := ⟨by simpa using b1, by simpa using b2, by simpa using b3, by simpa using u0, by simpa using u1, by simpa using hp20, by simpa using o0, by simpa using o1, by simpa using o2, by simpa using o3, by simpa using o4⟩
    have hgl := (g2.lt g rfl).2
    have hplt2 := (Array.getElem?_eq_some_iff.1 g1).1
    have hsl := (Array.getElem?_eq_some_iff.1 HS5.out).1
    have hyl := (Array.getElem?_eq_some_iff.1 HY5.out).1
    have HUP : Hid (∀ V, Below w5.heap.size w5.drew V → (V.cell? ⟨w.heap.size, 1, none⟩ = some (i64 k.env) ∧ V.cell? ⟨w.heap.size, 2, none⟩ = some (i64 k.proc) ∧ V.cell? ⟨w.heap.size, 3, none⟩ = some (i64 k.page) ∧ V.cell? ⟨w3.heap.size, 0, none⟩ = some (i64 E.frame) ∧ V.cell? ⟨w3.heap.size, 1, none⟩ = some (.bool E.wr) ∧ V.cell? ⟨p2, 0, none⟩ = some (.slice (some ⟨g, 0, none⟩) n cap) ∧ V.cell? ⟨g, j * 5, none⟩ = some (i64 k.env) ∧ V.cell? ⟨g, j * 5 + 1, none⟩ = some (i64 k.proc) ∧ V.cell? ⟨g, j * 5 + 2, none⟩ = some (i64 k.page) ∧ V.cell? ⟨g, j * 5 + 3, none⟩ = some (i64 E.frame) ∧ V.cell? ⟨g, j * 5 + 4, none⟩ = some (.bool E.wr))) := fun V hV => by
      have hc : ∀ (B o : Nat), B < w5.heap.size → V.cell? ⟨B, o, none⟩ = w5.drew.cell? ⟨B, o, none⟩ := fun B o hB => hV.cell (by exact hB)
      rw [hc _ _ hsl, hc _ _ hsl, hc _ _ hsl, hc _ _ hyl, hc _ _ hyl, hc _ _ hplt2, hc _ _ hgl, hc _ _ hgl, hc _ _ hgl, hc _ _ hgl, hc _ _ hgl]
      exact HSG1.out
    have q42 := eql42 (k, E)
    have hjI : (j : Int) < (n : Int) := by omega
    have HBW5 : Hid (base ≤ w5.heap.size) := HTW0.out.bw
    clear g1 g2 hp20 b0 b4 b5 hsm hjk hjk' hEj hN
    go_wp2_with fail
    go_region_held (fun w' => (w'.cell? ⟨w.heap.size, 1, none⟩ = some (i64 k.env) ∧ w'.cell? ⟨w.heap.size, 2, none⟩ = some (i64 k.proc) ∧ w'.cell? ⟨w.heap.size, 3, none⟩ = some (i64 k.page) ∧ w'.cell? ⟨w3.heap.size, 0, none⟩ = some (i64 E.frame) ∧ w'.cell? ⟨w3.heap.size, 1, none⟩ = some (.bool E.wr) ∧ w'.cell? ⟨p2, 0, none⟩ = some (.slice (some ⟨g, 0, none⟩) n cap) ∧ w'.cell? ⟨g, j * 5, none⟩ = some (i64 k.env) ∧ w'.cell? ⟨g, j * 5 + 1, none⟩ = some (i64 k.proc) ∧ w'.cell? ⟨g, j * 5 + 2, none⟩ = some (i64 k.page) ∧ w'.cell? ⟨g, j * 5 + 3, none⟩ = some (i64 E.frame) ∧ w'.cell? ⟨g, j * 5 + 4, none⟩ = some (.bool E.wr))) (first | exact HSG1.out | exact HSG0.out | exact HSG6.out)
      ((go_at_call 14; refine (ref_ok _ k E).mono ?_; rintro e' w6 ⟨rfl, hb6⟩; have HSG6 : Hid (w6.cell? ⟨w.heap.size, 1, none⟩ = some (i64 k.env) ∧ w6.cell? ⟨w.heap.size, 2, none⟩ = some (i64 k.proc) ∧ w6.cell? ⟨w.heap.size, 3, none⟩ = some (i64 k.page) ∧ w6.cell? ⟨w3.heap.size, 0, none⟩ = some (i64 E.frame) ∧ w6.cell? ⟨w3.heap.size, 1, none⟩ = some (.bool E.wr) ∧ w6.cell? ⟨p2, 0, none⟩ = some (.slice (some ⟨g, 0, none⟩) n cap) ∧ w6.cell? ⟨g, j * 5, none⟩ = some (i64 k.env) ∧ w6.cell? ⟨g, j * 5 + 1, none⟩ = some (i64 k.proc) ∧ w6.cell? ⟨g, j * 5 + 2, none⟩ = some (i64 k.page) ∧ w6.cell? ⟨g, j * 5 + 3, none⟩ = some (i64 E.frame) ∧ w6.cell? ⟨g, j * 5 + 4, none⟩ = some (.bool E.wr)) := HUP.out w6 hb6; have HF6 : Hid (FD base w w6) := (HF5.out.drewN 1).trans (fd_below hb6 HBW5.out); have HTW6 : Hid (Two w6 base p p2 (nextL ⟨3, k, e⟩ L) (nextH ⟨3, k, e⟩ L h) (nextM ⟨3, k, e⟩ L m)) := (HTW.out.below (w' := w5.drew) ⟨rfl, rfl, rfl, Nat.le_refl _, fun _ _ => rfl⟩).below hb6; clear hb6))
    go_wp2_with fail
    go_ret
    exact ⟨by simp, HF6.out, HTW6.out⟩

set_option maxRecDepth 100000 in
set_option maxHeartbeats 4000000 in
theorem does_get4 {w : World} {base p p2 : Nat} {L : Ls} {h m : Nat} (t : Two w base p p2 L h m) (k : K3) (e : En) (hh : h ≤ 100000) (hm : m ≤ 100000) : DoesTo w base p p2 ⟨4, k, e⟩ L h m := by
  have hb0 : Below w.heap.size w (w.alloc (.cells #[i64 4, i64 k.env, i64 k.proc, i64 k.page, i64 e.frame, .bool e.wr] 35)) := (Below.refl _ _).alloc (Nat.le_refl _) _
  have HT0 : Hid (Two w base p p2 L h m) := t
  have HB0 : Hid (Below w.heap.size w (w.alloc (.cells #[i64 4, i64 k.env, i64 k.proc, i64 k.page, i64 e.frame, .bool e.wr] 35))) := hb0
  have HS0 : Hid ((w.alloc (.cells #[i64 4, i64 k.env, i64 k.proc, i64 k.page, i64 e.frame, .bool e.wr] 35)).heap[w.heap.size]? = some (.cells (St.cells ⟨4, k, e⟩).toArray 35 (0, 0))) := heap_last w _
  have hsz : (w.alloc (.cells #[i64 4, i64 k.env, i64 k.proc, i64 k.page, i64 e.frame, .bool e.wr] 35)).heap.size = w.heap.size + 1 := by simp
  have hL8 := t.l8
  clear hb0 t
  unfold DoesTo
  unfold St.cells
  go_enter Try.func9, Try.ntmps9
  go_wp2_with fail
  refine (ref_ok _ k e).mono ?_
  rintro e' w2 ⟨rfl, hb2⟩
  rw [hsz] at hb2
  have hs2 : w.heap.size + 1 ≤ w2.heap.size := by have := hb2.size; rw [hsz] at this; exact this
  have hbX : Below w2.heap.size w2 (w2.alloc (.cells (oneA (k, e)) 42)) := (Below.refl _ _).alloc (Nat.le_refl _) _
  have hbW : Below w.heap.size w (w2.alloc (.cells (oneA (k, e)) 42)) := (HB0.out.trans (hb2.mono (by omega))).trans (hbX.mono (by omega))
  have HT : Hid (Two (w2.alloc (.cells (oneA (k, e)) 42)) base p p2 L h m) := HT0.out.below hbW
  have HF : Hid (FD base w (w2.alloc (.cells (oneA (k, e)) 42))) := fd_below hbW HT0.out.bw
  have hS1 : (w2.alloc (.cells (oneA (k, e)) 42)).heap[w.heap.size]? = some (.cells (St.cells ⟨4, k, e⟩).toArray 35 (0, 0)) := (Below.heap_alloc _ _ _ (by omega)).trans ((hb2.block _ (by omega)).trans HS0.out)
  have HS1 : Hid ((w2.alloc (.cells (oneA (k, e)) 42)).heap[w.heap.size]? = some (.cells (St.cells ⟨4, k, e⟩).toArray 35 (0, 0))) := hS1
  have HX1 : Hid ((w2.alloc (.cells (oneA (k, e)) 42)).heap[w2.heap.size]? = some (.cells (oneA (k, e)) 42 (0, 0))) := heap_last w2 _
  obtain ⟨a0, a1, a2, a3, a4, a5⟩ := six_cells hS1
  obtain ⟨x0, x1, x2, x3, x4⟩ := one_new HX1.out
  simp only [Nat.zero_add] at x1 x2 x3 x4
  clear hb2 hbX hbW hS1
  have q33 := eql33 zeroE
  go_wp2_with fail
  refine (get_ok HT.out.b k hh hm).mono ?_
  rintro e' w3 ⟨rfl, hf3, hb3⟩
  obtain ⟨E, hE⟩ : ∃ E, E = (look L k).getD zeroE := ⟨_, rfl⟩
  obtain ⟨T, hT⟩ : ∃ T, T = (look L k).isSome := ⟨_, rfl⟩
  rw [← hE, ← hT]
  have HE : Hid (E = (look L k).getD zeroE) := hE
  have HTT : Hid (T = (look L k).isSome) := hT
  have hbY : Below w3.heap.size w3 (w3.alloc (.cells #[i64 E.frame, .bool E.wr] 33)) := (Below.refl _ _).alloc (Nat.le_refl _) _
  have hlt3 : w.heap.size < w3.heap.size := (Array.getElem?_eq_some_iff.1 (hf3.kept _ _ HS1.out (by simp [keeps]))).1
  have HX4 : Hid ((w3.alloc (.cells #[i64 E.frame, .bool E.wr] 33)).heap[w2.heap.size]? = some (.cells (oneA (k, e)) 42 (0, 0))) := (hbY.block _ (Array.getElem?_eq_some_iff.1 (hf3.kept _ _ HX1.out (by simp [keeps]))).1).trans (hf3.kept _ _ HX1.out (by simp [keeps]))
  have HS4 : Hid ((w3.alloc (.cells #[i64 E.frame, .bool E.wr] 33)).heap[w.heap.size]? = some (.cells (St.cells ⟨4, k, e⟩).toArray 35 (0, 0))) := (hbY.block _ hlt3).trans (hf3.kept _ _ HS1.out (by simp [keeps]))
  have HY4 : Hid ((w3.alloc (.cells #[i64 E.frame, .bool E.wr] 33)).heap[w3.heap.size]? = some (.cells #[i64 E.frame, .bool E.wr] 33 (0, 0))) := heap_last w3 _
  have HB4 : Hid (Buf (w3.alloc (.cells #[i64 E.frame, .bool E.wr] 33)) base p L (keysOf L) (if (look L k).isSome = true then h + 1 else h) (if (look L k).isSome = true then m else m + 1)) := hb3.below hbY
  have HR4 : Hid (RBuf (w3.alloc (.cells #[i64 E.frame, .bool E.wr] 33)) base p2 L h m) := (HT.out.r.kept (fun i o hi ho => hf3.kept i o hi (keeps_a o ho))).below hbY
  have hbw4 : base ≤ (w3.alloc (.cells #[i64 E.frame, .bool E.wr] 33)).heap.size := Nat.le_trans (Nat.le_trans HT.out.bw hf3.size) hbY.size
  have HF4 : Hid (FD base w (w3.alloc (.cells #[i64 E.frame, .bool E.wr] 33))) := (HF.out.trans (fd_g hf3)).trans (fd_below hbY (Nat.le_trans HT.out.bw hf3.size))
  obtain ⟨z0, z1, z2, z3, z4⟩ := one_new HX4.out
  simp only [Nat.zero_add] at z1 z2 z3 z4
  clear hf3 hb3 hE hT hbY x0 x1 x2 x3 x4 a0 a1 a2 a3 a4 a5
  go_wp2_with fail
  refine (rget_ok HR4.out (by omega) HT.out.nd (k, e) hh hm).mono ?_
  rintro e' w5 ⟨hf5, hr5, r, rfl, hat⟩
  have HY5 : Hid (w5.heap[w3.heap.size]? = some (.cells #[i64 E.frame, .bool E.wr] 33 (0, 0))) := hf5.kept _ _ HY4.out (by simp [keeps])
  have HS5 : Hid (w5.heap[w.heap.size]? = some (.cells (St.cells ⟨4, k, e⟩).toArray 35 (0, 0))) := hf5.kept _ _ HS4.out (by simp [keeps])
  have HTW0 : Hid (Two w5 base p p2 L (if (look L k).isSome = true then h + 1 else h) (if (look L k).isSome = true then m else m + 1)) := ⟨HB4.out.kept (fun i o hi ho => hf5.kept i o hi (keeps_sub o ho)), hr5, hL8, Nat.le_trans hbw4 hf5.size⟩
  have HTW : Hid (Two w5 base p p2 (nextL ⟨4, k, e⟩ L) (nextH ⟨4, k, e⟩ L h) (nextM ⟨4, k, e⟩ L m)) := (by
    have := HTW0.out
    cases hc : (look L k).isSome <;> rw [hc] at this <;> simpa [nextL, nextH, nextM, hc] using this : Two w5 base p p2 (nextL ⟨4, k, e⟩ L) (nextH ⟨4, k, e⟩ L h) (nextM ⟨4, k, e⟩ L m))
  have HF5 : Hid (FD base w w5) := HF4.out.trans (fd_r1 hf5)
  have HR5 : Hid (RBuf w5 base p2 L (if (look L k).isSome = true then h + 1 else h) (if (look L k).isSome = true then m else m + 1)) := hr5
  have hyy : w5.cell? ⟨w3.heap.size, 0, none⟩ = some (i64 E.frame) ∧ w5.cell? ⟨w3.heap.size, 1, none⟩ = some (.bool E.wr) := by
    rw [cell_of_row w5 _ 0 _ 33 (0, 0) HY5.out, cell_of_row w5 _ 1 _ 33 (0, 0) HY5.out]
    exact ⟨rfl, rfl⟩
  obtain ⟨u0, u1⟩ := hyy
  clear hf5 hr5 z0 z1 z2 z3 z4
  rcases hat with ⟨hn, rfl⟩ | ⟨j, hj, rfl, hjk⟩
  · have hn' : look L k = none := hn
    have hEz : E = zeroE := by rw [HE.out, hn']; rfl
    have hTz : T = false := by rw [HTT.out, hn']; rfl
    subst hEz hTz
    clear hn hn'
    go_wp2_with fail
    go_ret
    exact ⟨by simp, HF5.out, HTW.out⟩
  · have hjk' : L[j].1 = k := hjk
    have hsm : look L k = some L[j].2 := by rw [← hjk']; exact look_some HT.out.nd (List.getElem_mem hj)
    have hTt : T = true := by rw [HTT.out, hsm]; rfl
    have hEj : L[j] = (k, E) := by
      rw [HE.out, hsm, ← hjk']
      rfl
    subst hTt
    obtain ⟨lv, g1, g2⟩ := HR5.out.ex
    obtain ⟨ao, cap, rfl, _⟩ := own_slice g2
    obtain ⟨g, rfl⟩ : ∃ g, ao = some ⟨g, 0, none⟩ := by
      rcases g2.2 with ⟨_, h0⟩ | ⟨g, cp, cur, hv, _⟩
      · omega
      · cases hv; exact ⟨g, rfl⟩
    obtain ⟨o0, o1, o2, o3, o4⟩ := own_one g2 hj
    rw [hEj] at o0 o1 o2 o3 o4
    have hp20 := (three_cells g1).1.1
    obtain ⟨b0, b1, b2, b3, b4, b5⟩ := six_cells HS5.out
    have hN : ∃ n, L.length = n := ⟨_, rfl⟩
    obtain ⟨n, hN⟩ := hN
    rw [hN] at hp20 hj
    have HSG0 : Hid (w5.cell? ⟨w.heap.size, 1, none⟩ = some (i64 k.env) ∧ w5.cell? ⟨w.heap.size, 2, none⟩ = some (i64 k.proc) ∧ w5.cell? ⟨w.heap.size, 3, none⟩ = some (i64 k.page) ∧ w5.cell? ⟨w3.heap.size, 0, none⟩ = some (i64 E.frame) ∧ w5.cell? ⟨w3.heap.size, 1, none⟩ = some (.bool E.wr) ∧ w5.cell? ⟨p2, 0, none⟩ = some (.slice (some ⟨g, 0, none⟩) n cap) ∧ w5.cell? ⟨g, j * 5, none⟩ = some (i64 k.env) ∧ w5.cell? ⟨g, j * 5 + 1, none⟩ = some (i64 k.proc) ∧ w5.cell? ⟨g, j * 5 + 2, none⟩ = some (i64 k.page) ∧ w5.cell? ⟨g, j * 5 + 3, none⟩ = some (i64 E.frame) ∧ w5.cell? ⟨g, j * 5 + 4, none⟩ = some (.bool E.wr)) := ⟨b1, b2, b3, u0, u1, hp20, o0, o1, o2, o3, o4⟩
    have HSG1 : Hid (w5.drew.cell? ⟨w.heap.size, 1, none⟩ = some (i64 k.env) ∧ w5.drew.cell? ⟨w.heap.size, 2, none⟩ = some (i64 k.proc) ∧ w5.drew.cell? ⟨w.heap.size, 3, none⟩ = some (i64 k.page) ∧ w5.drew.cell? ⟨w3.heap.size, 0, none⟩ = some (i64 E.frame) ∧ w5.drew.cell? ⟨w3.heap.size, 1, none⟩ = some (.bool E.wr) ∧ w5.drew.cell? ⟨p2, 0, none⟩ = some (.slice (some ⟨g, 0, none⟩) n cap) ∧ w5.drew.cell? ⟨g, j * 5, none⟩ = some (i64 k.env) ∧ w5.drew.cell? ⟨g, j * 5 + 1, none⟩ = some (i64 k.proc) ∧ w5.drew.cell? ⟨g, j * 5 + 2, none⟩ = some (i64 k.page) ∧ w5.drew.cell? ⟨g, j * 5 + 3, none⟩ = some (i64 E.frame) ∧ w5.drew.cell? ⟨g, j * 5 + 4, none⟩ = some (.bool E.wr)) := ⟨by simpa using b1, by simpa using b2, by simpa using b3, by simpa using u0, by simpa using u1, by simpa using hp20, by simpa using o0, by simpa using o1, by simpa using o2, by simpa using o3, by simpa using o4⟩
    have hgl := (g2.lt g rfl).2
    have hplt2 := (Array.getElem?_eq_some_iff.1 g1).1
    have hsl := (Array.getElem?_eq_some_iff.1 HS5.out).1
    have hyl := (Array.getElem?_eq_some_iff.1 HY5.out).1
    have HUP : Hid (∀ V, Below w5.heap.size w5.drew V → (V.cell? ⟨w.heap.size, 1, none⟩ = some (i64 k.env) ∧ V.cell? ⟨w.heap.size, 2, none⟩ = some (i64 k.proc) ∧ V.cell? ⟨w.heap.size, 3, none⟩ = some (i64 k.page) ∧ V.cell? ⟨w3.heap.size, 0, none⟩ = some (i64 E.frame) ∧ V.cell? ⟨w3.heap.size, 1, none⟩ = some (.bool E.wr) ∧ V.cell? ⟨p2, 0, none⟩ = some (.slice (some ⟨g, 0, none⟩) n cap) ∧ V.cell? ⟨g, j * 5, none⟩ = some (i64 k.env) ∧ V.cell? ⟨g, j * 5 + 1, none⟩ = some (i64 k.proc) ∧ V.cell? ⟨g, j * 5 + 2, none⟩ = some (i64 k.page) ∧ V.cell? ⟨g, j * 5 + 3, none⟩ = some (i64 E.frame) ∧ V.cell? ⟨g, j * 5 + 4, none⟩ = some (.bool E.wr))) := fun V hV => by
      have hc : ∀ (B o : Nat), B < w5.heap.size → V.cell? ⟨B, o, none⟩ = w5.drew.cell? ⟨B, o, none⟩ := fun B o hB => hV.cell (by exact hB)
      rw [hc _ _ hsl, hc _ _ hsl, hc _ _ hsl, hc _ _ hyl, hc _ _ hyl, hc _ _ hplt2, hc _ _ hgl, hc _ _ hgl, hc _ _ hgl, hc _ _ hgl, hc _ _ hgl]
      exact HSG1.out
    have q42 := eql42 (k, E)
    have hjI : (j : Int) < (n : Int) := by omega
    have HBW5 : Hid (base ≤ w5.heap.size) := HTW0.out.bw
    clear g1 g2 hp20 b0 b4 b5 hsm hjk hjk' hEj hN
    go_wp2_with fail
    go_region_held (fun w' => (w'.cell? ⟨w.heap.size, 1, none⟩ = some (i64 k.env) ∧ w'.cell? ⟨w.heap.size, 2, none⟩ = some (i64 k.proc) ∧ w'.cell? ⟨w.heap.size, 3, none⟩ = some (i64 k.page) ∧ w'.cell? ⟨w3.heap.size, 0, none⟩ = some (i64 E.frame) ∧ w'.cell? ⟨w3.heap.size, 1, none⟩ = some (.bool E.wr) ∧ w'.cell? ⟨p2, 0, none⟩ = some (.slice (some ⟨g, 0, none⟩) n cap) ∧ w'.cell? ⟨g, j * 5, none⟩ = some (i64 k.env) ∧ w'.cell? ⟨g, j * 5 + 1, none⟩ = some (i64 k.proc) ∧ w'.cell? ⟨g, j * 5 + 2, none⟩ = some (i64 k.page) ∧ w'.cell? ⟨g, j * 5 + 3, none⟩ = some (i64 E.frame) ∧ w'.cell? ⟨g, j * 5 + 4, none⟩ = some (.bool E.wr))) (first | exact HSG1.out | exact HSG0.out | exact HSG6.out)
      ((go_at_call 14; refine (ref_ok _ k E).mono ?_; rintro e' w6 ⟨rfl, hb6⟩; have HSG6 : Hid (w6.cell? ⟨w.heap.size, 1, none⟩ = some (i64 k.env) ∧ w6.cell? ⟨w.heap.size, 2, none⟩ = some (i64 k.proc) ∧ w6.cell? ⟨w.heap.size, 3, none⟩ = some (i64 k.page) ∧ w6.cell? ⟨w3.heap.size, 0, none⟩ = some (i64 E.frame) ∧ w6.cell? ⟨w3.heap.size, 1, none⟩ = some (.bool E.wr) ∧ w6.cell? ⟨p2, 0, none⟩ = some (.slice (some ⟨g, 0, none⟩) n cap) ∧ w6.cell? ⟨g, j * 5, none⟩ = some (i64 k.env) ∧ w6.cell? ⟨g, j * 5 + 1, none⟩ = some (i64 k.proc) ∧ w6.cell? ⟨g, j * 5 + 2, none⟩ = some (i64 k.page) ∧ w6.cell? ⟨g, j * 5 + 3, none⟩ = some (i64 E.frame) ∧ w6.cell? ⟨g, j * 5 + 4, none⟩ = some (.bool E.wr)) := HUP.out w6 hb6; have HF6 : Hid (FD base w w6) := (HF5.out.drewN 1).trans (fd_below hb6 HBW5.out); have HTW6 : Hid (Two w6 base p p2 (nextL ⟨4, k, e⟩ L) (nextH ⟨4, k, e⟩ L h) (nextM ⟨4, k, e⟩ L m)) := (HTW.out.below (w' := w5.drew) ⟨rfl, rfl, rfl, Nat.le_refl _, fun _ _ => rfl⟩).below hb6; clear hb6))
    go_wp2_with fail
    go_ret
    exact ⟨by simp, HF6.out, HTW6.out⟩

theorem does_any {w : World} {base p p2 : Nat} {L : Ls} {h m : Nat} (t : Two w base p p2 L h m) (s : St) (hh : h ≤ 100000) (hm : m ≤ 100000) : DoesTo w base p p2 s L h m := by
  obtain ⟨what, k, e⟩ := s
  by_cases h0 : what = 0
  · subst h0; exact does_put0 t k e
  by_cases h1 : what = 1
  · subst h1; exact does_put1 t k e
  by_cases h2 : what = 2
  · subst h2; exact does_put2 t k e
  by_cases h3 : what = 3
  · subst h3; exact does_get3 t k e hh hm
  by_cases h4 : what = 4
  · subst h4; exact does_get4 t k e hh hm
  by_cases h5 : what = 5
  · subst h5; exact does_drop5 t k e
  by_cases h6 : what = 6
  · subst h6; exact does_drop6 t k e
  by_cases h7 : what = 7
  · subst h7; exact does_drop7 t k e
  by_cases h8 : what = 8
  · subst h8; exact does_drop8 t k e
  exact does_other t what k e h0 h1 h2 h3 h4 h5 h6 h7 h8
end Go.Proofs.Ytblhoaggonjhkaa
