/- The document's Step, New and Of; no statement is proved in this text. -/
import Derived.Test.YtigbfdloodfdgaaDoorPlayQA
namespace Go.Proofs.YtigbfdloodfdgaaDoor
open Go.ChangeShapes Go.WideShapes Go.ChangeAt Go.RowKit
attribute [local go_sem ↓] Go.wp_at_zero Go.wp_at_succ
theorem own_slice {w : World} {base : Nat} {e : TypeId} {size : Nat} {v : Value} {n : Nat} {xs : List Value} (h : w.ownsRow base e size v n xs) : ∃ ao cap, v = .slice ao n cap ∧ ∀ g, ao = some g → base ≤ g.block := by
  rcases h.2 with ⟨rfl, rfl⟩ | ⟨g, cap, cur, rfl, hb, _⟩
  · exact ⟨none, 0, rfl, fun g h => by cases h⟩
  · exact ⟨_, cap, rfl, fun g h => by cases h; exact hb⟩
/-- At a step of a region that draws: an append whose run is known. -/
theorem step_app_run {P : Program} {w : World} {ops : Array Oper} {o : Oper} {a : Act} {K : Act → World → Prop} {Q : Exit → Act → World → Prop} {E : Prop} (hgd : o.guard = none) (s x : Operand) (t : TypeId)
    (ho : o.op = .call { callee := .builtin .append, args := #[s, x], argTypes := #[t, t] }) (v1 v2 : Value) (hs : a.eval s = v1) (hx : a.eval x = v2) (ty : TypeId) (hty : o.type = ty) (r : Value) (w' : World)
    (hr : (Builtin.append_ #[t, t] ty #[v1, v2]).run P w = .ok r w') (h : K (a.put o.dst r) w') : if Region.wanted o (yielded ops a.tmps) = true then Oper.wp P o a w K Q else E := by
  have hw : Region.wanted o (yielded ops a.tmps) = true := by simp [Region.wanted, hgd]
  rw [if_pos hw]
  unfold Oper.wp execOp
  simp only [ho, resolve, invoke, builtin, Sem.run_bind, Sem.run_pure, Result.andThen_ok, List.map_toArray, List.map_cons, List.map_nil, hs, hx, hty, hr]
  exact h
theorem clC_len (K : List Cl) : (clC K).length = K.length * 4 := by
  induction K with
  | nil => rfl
  | cons a b ih => simp [clC] at ih ⊢; omega
theorem info69 : (Tryd.prog.info? 69).map (fun i => (i.zero, i.size, i.bytes)) = some (some (.agg #[i64 0, i64 0, i64 0, i64 0]), 4, 32) := by kernel_rfl
def clO (c : Cl) : Obj := .cells #[i64 c.n, i64 c.a, i64 c.b, i64 c.c] 69
theorem kapp {V : World} {base : Nat} {v : Value} {K : List Cl} (ho : V.ownsRow base 69 4 v K.length (clC K)) (c : Cl) (ad : Addr) (hnews : ∀ j u, (clC [c])[j]? = some u → V.cell? (ad.add j) = some u) (hl : K.length ≤ 5000) (hB : base ≤ V.heap.size) :
    ∃ v' w', (Builtin.append_ #[42, 42] 42 #[v, .slice (some ad) 1 1]).run Tryd.prog V = .ok v' w' ∧ w'.ownsRow base 69 4 v' (K ++ [c]).length (clC (K ++ [c])) ∧ Below base V w' ∧ (∀ (k : Nat) (o : Obj), V.heap[k]? = some o → (∀ X, o ≠ .cells X 69 (0, 0)) → w'.heap[k]? = some o) := by
  obtain ⟨i, hi, hz, hs, hby⟩ := info_parts info69
  obtain ⟨v', w', hr, h2, h3, _, _⟩ := run_append_own_at (P := Tryd.prog) V base 42 42 69 i (.agg #[i64 0, i64 0, i64 0, i64 0]) 4 32 Tryd.underlying42 hi hz hs hby rfl (by omega) v K.length (clC K) ho ad 1 1 (clC [c]) rfl hnews (fun u hu => by simp [clC] at hu; rcases hu with rfl | rfl | rfl | rfl <;> rfl) (by unfold maxLen; omega) (by omega) hB
  refine ⟨v', w', hr, ?_, ⟨h3.os, h3.tape, h3.output, h3.size, fun k hk => h3.block k (by omega) (fun e => by have := (ho.lt k e.symm).1; omega)⟩, fun k o hk hno => ?_⟩
  · have e : clC (K ++ [c]) = clC K ++ clC [c] := by simp [clC]
    rw [e, List.length_append]
    exact h2
  · rw [h3.block k (blt hk) (fun e => ?_)]
    · exact hk
    · rcases ho.2 with ⟨rfl, _⟩ | ⟨g, cap, cur, rfl, _, hgg, _⟩
      · simp [Value.ownBlock] at e
      · simp [Value.ownBlock] at e
        subst e
        rw [hgg] at hk
        cases hk
        exact hno _ rfl
theorem Rr.reg {w : World} {base R h j : Nat} {C : List Nat} {M : List UInt8} {K : List Cl} {gm cm : Nat} {vk : Value} (r : Rr w base R h j C M K gm cm vk) (i : Nat) (hi : i < 9) : w.cell? ⟨R, 2 + i, none⟩ = some (u16 (C.getD i 0 : Nat)) := by
  have := r.cells.rg i hi
  exact this
set_option maxRecDepth 100000 in
set_option maxHeartbeats 1600000 in
theorem rst2 (w : World) (base R h j : Nat) (C : List Nat) (M : List UInt8) (K : List Cl) (gm cm : Nat) (vk : Value) (r : Rr w base R h j C M K gm cm vk) (l : List UInt8) (hl : l.length ≤ 256) (hj : j ≤ 5000) (ao : Option Addr) (cap : Nat) (A : List Int) (hA : ∀ V, Below base w V → ASl V base base (.slice ao A.length cap) A) (hk : (stA C l).k = 2) (hK : K.length ≤ 5000) :
    Calls Tryd.prog 18 #[.pointer (some ⟨R, 0, none⟩), .string ⟨l.toArray⟩, .slice ao A.length cap] w fun e w' => e = .returned (.tuple #[]) ∧ (∃ vk', Rr w' base R h (j + 1) ((stC C l).set 0 (wd (ansN A K.length))) M (K ++ [⟨(stA C l).n, C.getD 1 0, C.getD 2 0, C.getD 3 0⟩]) gm cm vk') ∧ Below base w w' := by
  have HR := hid r
  have HAN := hid hA
  obtain ⟨c0, c1, c11, c12, cp, rg, fz⟩ := r.cells
  have HCP := hid cp
  have hRl := blt r.row
  have hlo := r.lo
  have hC := r.rg
  have HRG := hid hC
  have HSTEP := hid (fun v => rstep_ok v C hC l (by unfold maxLen; omega))
  have HD := hid (hC.step l)
  generalize hDD : stC C l = D at *
  generalize hxx : stA C l = x at *
  have HDD := hid hDD
  have HXX := hid hxx
  obtain ⟨xk, xn, xr, xa, xs, xv⟩ := x
  simp only at hk
  subst hk
  clear r hA cp rg c11 c12 c0 hC hDD hxx
  have hjI : (j : Int) ≤ 5000 := by omega
  go_enter Tryd.func18, Tryd.ntmps18
  go_upto_region 1 with fail
  have HR1 := hid HR.out.step
  have HBa : Hid (Below base w (w.setCell ⟨R, 1, none⟩ (i64 ((j : Int) + 1)))) := (Below.refl _ _).setCell hlo _
  have hR1l := blt HR1.out.row
  have HCP1 := hid HR1.out.cells.cp
  clear c1 fz
  generalize w.setCell ⟨R, 1, none⟩ (Value.int IntKind.i64 ((j : Int) + 1)) = W1 at *
  go_upto_region 2 with (first
    | (refine wpList_load_mid rfl 30 (.tmp 19) rfl R 2 rfl (cpC C) _ (by exact HCP1.out) Tryd.underlying30 rfl (cpC_info HRG.out) ?_)
    | (go_at_call 36; refine (HSTEP.out _).mono ?_; rintro e v2 ⟨rfl, h2⟩; have HB2 := hid h2; have HND := hid (dn_stored v2 HD.out (⟨2, xn, xr, xa, xs, xv⟩ : Ac)); clear h2)
    | (refine wpList_store_mid rfl 88 (.tmp 6) (.tmp 22) rfl v2.heap.size 0 (dnC D (⟨2, xn, xr, xa, xs, xv⟩ : Ac)).toArray rfl rfl (by exact HND.out.2.2.1) (by rw [List.size_toArray, dnC_len HD.out]; exact infoD88) (by exact dnC_one _ _) ?_))
  have HR2 := hid ((HR1.out.below HB2.out).below HND.out.2.1)
  have HD2 := hid HND.out.1
  have HBb := hid ((HBa.out.trans (HB2.out.mono (by omega))).trans (HND.out.2.1.mono (by have := HB2.out.size; omega)))
  have hd1 := HND.out.2.2.2
  have hb2 : base ≤ v2.heap.size := by have := HB2.out.size; omega
  have hRd : R < v2.heap.size := by have := HB2.out.size; omega
  clear HND HB2 HCP1 HR1 HBa
  generalize (v2.alloc Z15).setCells v2.heap.size 0 (dnC D (⟨2, xn, xr, xa, xs, xv⟩ : Ac)) = V2 at *
  generalize v2.heap.size = d at *
  obtain ⟨d9, d10, d11, d12, d13, d14⟩ := dn_act (x := (⟨2, xn, xr, xa, xs, xv⟩ : Ac)) HD2.out HD.out
  go_upto_region 3 with fail
  have HQ : Hid ((V2.alloc (.cells #[i64 2, i64 xn, i64 xr, i64 xa, i64 xs, i64 xv] 86)).heap[V2.heap.size]? = some (.cells #[i64 2, i64 xn, i64 xr, i64 xa, i64 xs, i64 xv] 86 (0, 0))) := heap_at rfl _
  have HR3 := hid (HR2.out.below (below_one V2 (.cells #[i64 2, i64 xn, i64 xr, i64 xa, i64 xs, i64 xv] 86)))
  have HD3 := hid (((below_one V2 (.cells #[i64 2, i64 xn, i64 xr, i64 xa, i64 xs, i64 xv] 86)).block _ (blt HD2.out)).trans HD2.out)
  have HB3 := hid (HBb.out.trans ((below_one V2 (.cells #[i64 2, i64 xn, i64 xr, i64 xa, i64 xs, i64 xv] 86)).mono (by omega)))
  have hdq : d < V2.heap.size := blt HD2.out
  have hRq : R < V2.heap.size := blt HR2.out.row
  clear d9 d10 d11 d12 d13 d14 HR2 HD2 HBb
  generalize hV3 : V2.alloc (.cells #[i64 2, i64 xn, i64 xr, i64 xa, i64 xs, i64 xv] 86) = V at *
  have hVs : V.heap.size = V2.heap.size + 1 := by rw [← hV3]; simp
  generalize V2.heap.size = q at *
  clear hV3
  obtain ⟨q0, q1, q2, q3, q4, q5⟩ := ac_cells (x := (⟨2, xn, xr, xa, xs, xv⟩ : Ac)) HQ.out
  obtain ⟨c0, c1, c11, c12, cp, rg, fz⟩ := HR3.out.cells
  have HCP3 := hid cp
  have HRG3 := hid rg
  have hqv : q < V.heap.size := by omega
  have hdv : d < V.heap.size := by omega
  have hRv : R < V.heap.size := by omega
  clear cp rg hVs
  obtain ⟨ko, kc, rfl, _⟩ := own_slice HR3.out.ko
  have r1 := HR3.out.reg 1 (by omega)
  have r2 := HR3.out.reg 2 (by omega)
  have r3 := HR3.out.reg 3 (by omega)
  have l1 := HRG.out.get 1
  have l2 := HRG.out.get 2
  have l3 := HRG.out.get 3
  obtain ⟨A1, hA1⟩ : ∃ x, C.getD 1 0 = x := ⟨_, rfl⟩
  obtain ⟨A2, hA2⟩ : ∃ x, C.getD 2 0 = x := ⟨_, rfl⟩
  obtain ⟨A3, hA3⟩ : ∃ x, C.getD 3 0 = x := ⟨_, rfl⟩
  have HE := hid (And.intro hA1 (And.intro hA2 hA3))
  rw [hA1] at r1 l1
  rw [hA2] at r2 l2
  rw [hA3] at r3 l3
  clear hA1 hA2 hA3
  have w1 : IntKind.i64.wrap (A1 : Int) = A1 := by rw [IntKind.wrap_i64]; omega
  have w2 : IntKind.i64.wrap (A2 : Int) = A2 := by rw [IntKind.wrap_i64]; omega
  have w3 : IntKind.i64.wrap (A3 : Int) = A3 := by rw [IntKind.wrap_i64]; omega
  clear l1 l2 l3
  have HUP : Hid (∀ U : World, Below V.heap.size V U → U.cell? ⟨q, 1, none⟩ = some (i64 xn) ∧ U.cell? ⟨R, 3, none⟩ = some (u16 (A1 : Nat)) ∧ U.cell? ⟨R, 4, none⟩ = some (u16 (A2 : Nat)) ∧ U.cell? ⟨R, 5, none⟩ = some (u16 (A3 : Nat))) := fun U hU => ⟨(World.cell?_of_block (w := V) (a := ⟨q, 1, none⟩) (hU.block _ hqv)).trans q1, (World.cell?_of_block (w := V) (a := ⟨R, 3, none⟩) (hU.block _ hRv)).trans r1, (World.cell?_of_block (w := V) (a := ⟨R, 4, none⟩) (hU.block _ hRv)).trans r2, (World.cell?_of_block (w := V) (a := ⟨R, 5, none⟩) (hU.block _ hRv)).trans r3⟩
  go_upto_region 9 with fail
  go_region_held3 (fun U => U.cell? ⟨q, 1, none⟩ = some (i64 xn) ∧ U.cell? ⟨R, 3, none⟩ = some (u16 (A1 : Nat)) ∧ U.cell? ⟨R, 4, none⟩ = some (u16 (A2 : Nat)) ∧ U.cell? ⟨R, 5, none⟩ = some (u16 (A3 : Nat))) (first | exact HUP.out _ (Below.drew (Below.refl _ _)) | exact HUP.out _ (Below.drew ((Below.refl _ _).alloc (Nat.le_refl _) _)) | exact HUP.out _ ((Below.drew (Below.refl _ _)).alloc (Nat.le_refl _) _) | exact HUP.out _ (Below.cellsAt _ _ _ _ (Nat.le_refl _) ((Below.drew (Below.refl _ _)).alloc (Nat.le_refl _) _)) | exact HUP.out _ (Below.drew (Below.cellsAt _ _ _ _ (Nat.le_refl _) ((Below.refl _ _).alloc (Nat.le_refl _) _)))) (fail)
  have hBV : Below V.heap.size V (V.alloc (.cells #[i64 xn, i64 (A1 : Nat), i64 (A2 : Nat), i64 (A3 : Nat)] 69)).drew := Below.drew ((Below.refl _ _).alloc (Nat.le_refl _) _)
  have HR4 := hid (HR3.out.below hBV)
  have HD4 := hid ((hBV.block d hdv).trans HD3.out)
  have HB4 := hid (HB3.out.trans (hBV.mono (by omega)))
  have HX4 : Hid ((V.alloc (.cells #[i64 xn, i64 (A1 : Nat), i64 (A2 : Nat), i64 (A3 : Nat)] 69)).drew.heap[V.heap.size]? = some (clO ⟨xn, A1, A2, A3⟩)) := heap_at (w := V) rfl _
  have hKI : (K.length : Int) ≤ 5000 := by omega
  clear hBV r1 r2 r3 HUP c0 c1 c11 c12 q0 q1 q2 q3 q4 q5 fz w1 w2 w3 HR3 HD3 HB3 HCP3 HRG3 HQ
  rename_i hheld
  clear hheld
  generalize (V.alloc (.cells #[i64 xn, i64 (A1 : Nat), i64 (A2 : Nat), i64 (A3 : Nat)] 69)).drew = V4 at *
  generalize V.heap.size = sx at *
  have hc12 := HR4.out.cells.c12
  have hdz := dn_fz HD4.out
  have hdc := dn_cell HD4.out HD.out 0 (by omega)
  have HCA := hid (ranswer_ok V4 ao cap A base base (HAN.out _ HB4.out) K.length)
  obtain ⟨an, han⟩ : ∃ x, ansN A K.length = x := ⟨_, rfl⟩
  rw [han] at HCA
  have HEA := hid han
  clear han
  have HCW := hid (rword_ok V4 an)
  go_upto_region 11 with (first | (go_at_call 38; refine HCA.out.mono ?_; rintro e v' ⟨rfl, rfl⟩) | (go_at_call 37; refine HCW.out.mono ?_; rintro e v' ⟨rfl, rfl⟩))
  have hne : ∀ k, k ≠ d → (v'.setCell ⟨d, 0, none⟩ (u16 (wd an : Nat))).heap[k]? = v'.heap[k]? := fun k hk => heap_setCell_other _ _ _ _ hk
  have HR5 := hid (HR4.out.apart v' (v'.setCell ⟨d, 0, none⟩ (u16 (wd an : Nat))) hne HD4.out)
  have HD5 := hid (dn_set HD4.out HD.out 0 (wd an) (by omega))
  have HX5 := hid ((hne sx (by omega)).trans HX4.out)
  have HB5 : Hid (Below base w (v'.setCell ⟨d, 0, none⟩ (u16 (wd an : Nat)))) := HB4.out.setCell (by show base ≤ d; exact hb2) (u16 (wd an : Nat))
  have HDr := hid (HD.out.set 0 (wd an) (wd_lt an))
  clear hne hdz hdc hc12 HR4 HD4 HB4 HX4 HCA HCW HR
  generalize v'.setCell ⟨d, 0, none⟩ (Value.int IntKind.u16 (wd an : Nat)) = V5 at *
  have hb5 : base ≤ V5.heap.size := by have := blt HR5.out.row; omega
  obtain ⟨v6, w6, hrun, hown, hB6, hkp⟩ := kapp (V := (V5.alloc (clO ⟨xn, A1, A2, A3⟩)).drew) (show (V5.alloc (clO ⟨xn, A1, A2, A3⟩)).drew.ownsRow base 69 4 (.slice ko K.length kc) K.length (clC K) from HR5.out.ko.alloc _) ⟨xn, A1, A2, A3⟩ ⟨V5.heap.size, 0, none⟩ (fun j u hu => by rw [World.cell?_drew]; exact World.news_of_block (heap_at (w := V5) rfl (clO ⟨xn, A1, A2, A3⟩)) j u hu) (by omega) (by simp; omega)
  obtain ⟨ao6, kc6, rfl, _⟩ := own_slice hown
  have hal : ∀ (k : Nat) (o : Obj), V5.heap[k]? = some o → (V5.alloc (clO ⟨xn, A1, A2, A3⟩)).drew.heap[k]? = some o := fun k o hk => (((Below.refl V5.heap.size V5).alloc (Nat.le_refl _) (clO ⟨xn, A1, A2, A3⟩)).block k (blt hk)).trans hk
  have hrow6 : w6.heap[R]? = _ := hkp R _ (hal R _ HR5.out.row) (fun X e => by simp at e)
  have hd6 : w6.heap[d]? = _ := hkp d _ (hal d _ HD5.out) (fun X e => by simp at e)
  have hlen : (K ++ [(⟨xn, A1, A2, A3⟩ : Cl)]).length = K.length + 1 := by simp
  rw [hlen] at hrun hown
  have HR6 : Hid (Rr (w6.setCell ⟨R, 12, none⟩ (.slice ao6 (K.length + 1) kc6)) base R h (j + 1) C M (K ++ [⟨xn, A1, A2, A3⟩]) gm cm (.slice ao6 (K.length + 1) kc6)) := by
    refine ⟨HR5.out.lo, HR5.out.rg, HR5.out.mem, ?_, ?_, ?_⟩
    · rw [sc_row hrow6 12 _, rr_set12 HR5.out.rg]
    · exact own_keep HR5.out.mo (fun k X hk => by rw [heap_setCell_other _ _ _ _ (fun e => by have h5 := HR5.out.row; rw [← show k = R from e, hk] at h5; simp at h5)]; exact hkp k _ (hal k _ hk) (fun X e => by simp at e))
    · rw [hlen]
      exact own_keep hown (fun k X hk => by rw [heap_setCell_other _ _ _ _ (fun e => by rw [show k = R from e, hrow6] at hk; simp at hk)]; exact hk)
  have HD6 : Hid ((w6.setCell ⟨R, 12, none⟩ (.slice ao6 (K.length + 1) kc6)).heap[d]? = some (.cells (dnC (D.set 0 (wd an)) (⟨2, xn, xr, xa, xs, xv⟩ : Ac)).toArray 88 (0, 0))) := (heap_setCell_other _ _ _ _ (by show d ≠ R; omega)).trans hd6
  have HB6 : Hid (Below base w (w6.setCell ⟨R, 12, none⟩ (.slice ao6 (K.length + 1) kc6))) := (HB5.out.trans ((Below.drew ((Below.refl V5.heap.size V5).alloc (Nat.le_refl _) (clO ⟨xn, A1, A2, A3⟩))).mono hb5 |>.trans hB6)).setCell hlo _
  have HRUN : Hid ((Builtin.append_ #[42, 42] 42 #[.slice ko K.length kc, .slice (some ⟨V5.heap.size, 0, none⟩) 1 1]).run Tryd.prog (V5.alloc (.cells #[i64 xn, i64 (A1 : Nat), i64 (A2 : Nat), i64 (A3 : Nat)] 69)).drew = .ok (.slice ao6 (K.length + 1) kc6) w6) := hrun
  have hc12 := HR5.out.cells.c12
  have hR5 := blt HR5.out.row
  have hs5 := blt HX5.out
  have y3 : w6.cell? ⟨R, 12, none⟩ = some (.slice ko K.length kc) := by rw [World.cell?_of_block (w := V5) (w' := w6) (a := ⟨R, 12, none⟩) (hrow6.trans HR5.out.row.symm)]; exact hc12
  have yf : w6.frozen? ⟨R, 12, none⟩ = false := by
    unfold World.frozen?
    rw [show w6.heap[(⟨R, 12, none⟩ : Addr).block]? = _ from hrow6]
    simp
  have s0 : V5.cell? ⟨sx, 0, none⟩ = some (i64 xn) := cell_of_row _ _ _ _ 69 (0, 0) HX5.out
  have s1 : V5.cell? ⟨sx, 1, none⟩ = some (i64 (A1 : Nat)) := cell_of_row _ _ _ _ 69 (0, 0) HX5.out
  have s2 : V5.cell? ⟨sx, 2, none⟩ = some (i64 (A2 : Nat)) := cell_of_row _ _ _ _ 69 (0, 0) HX5.out
  have s3 : V5.cell? ⟨sx, 3, none⟩ = some (i64 (A3 : Nat)) := cell_of_row _ _ _ _ 69 (0, 0) HX5.out
  clear hrun hown hB6 hkp hal hrow6 hd6 hlen
  go_region_law
    ((refine step_app_run ?_ (.tmp 79) (.tmp 81) 42 ?_ _ _ ?_ ?_ 42 ?_ _ _ HRUN.out ?_; rfl; rfl; rfl; rfl; rfl))
  all_goals have HTH := hid (there_mid HR6.out HDr.out)
  all_goals clear hc12 y3 yf s0 s1 s2 s3 HRUN HR5 HD5 HX5 HB5
  all_goals generalize w6.setCell ⟨R, 12, none⟩ (.slice ao6 (K.length + 1) kc6) = V6 at *
  all_goals go_wp2_with (first
      | (refine wpList_load_mid rfl 30 (.tmp 177) rfl d 0 rfl (cpC (D.set 0 (wd an))) _ (by exact dn_cp HD6.out) Tryd.underlying30 rfl (cpC_info HDr.out) ?_)
      | (refine wpList_store_mid rfl 30 (.tmp 180) (.tmp 178) rfl R 2 (cpC (D.set 0 (wd an))).toArray rfl rfl (by exact HTH.out) (cpC_infoA HDr.out) (cpC_one _) ?_))
  all_goals go_end0
  all_goals obtain ⟨rfl, rfl, rfl⟩ := HE.out
  all_goals obtain rfl := HEA.out
  all_goals exact ⟨rfl, ⟨_, HR6.out.cpu HDr.out⟩, Below.cellsAt _ _ _ _ hlo HB6.out⟩
set_option maxRecDepth 100000 in
set_option maxHeartbeats 1600000 in
theorem rst4s1 (w : World) (base R h j : Nat) (C : List Nat) (M : List UInt8) (K : List Cl) (gm cm : Nat) (vk : Value) (r : Rr w base R h j C M K gm cm vk) (l : List UInt8) (hl : l.length ≤ 256) (hj : j ≤ 5000) (ao : Option Addr) (cap : Nat) (A : List Int) (hA : ∀ V, Below base w V → ASl V base base (.slice ao A.length cap) A) (hk : (stA C l).k = 4) (ad v : Nat) (had : (stA C l).ad = (ad : Nat)) (hsz : (stA C l).s = 1) (hvv : (stA C l).v = (v : Nat)) (hv : v < 65536) (hin : ad + 1 ≤ 256) :
    Calls Tryd.prog 18 #[.pointer (some ⟨R, 0, none⟩), .string ⟨l.toArray⟩, .slice ao A.length cap] w fun e w' => e = .returned (.tuple #[]) ∧ (∃ vk', Rr w' base R h (j + 1) (stC C l) (memP M ad 1 v) K gm cm vk') ∧ Below base w w' := by
  have HR := hid r
  have HAN := hid hA
  obtain ⟨c0, c1, c11, c12, cp, rg, fz⟩ := r.cells
  have HCP := hid cp
  have hRl := blt r.row
  have hlo := r.lo
  have hC := r.rg
  have HRG := hid hC
  have HSTEP := hid (fun v => rstep_ok v C hC l (by unfold maxLen; omega))
  have HD := hid (hC.step l)
  generalize hDD : stC C l = D at *
  generalize hxx : stA C l = x at *
  have HDD := hid hDD
  have HXX := hid hxx
  obtain ⟨xk, xn, xr, xa, xs, xv⟩ := x
  simp only at hk had hsz hvv
  subst hk had hsz hvv
  clear r hA cp rg c11 c12 c0 hC hDD hxx
  have hjI : (j : Int) ≤ 5000 := by omega
  go_enter Tryd.func18, Tryd.ntmps18
  go_upto_region 1 with fail
  have HR1 := hid HR.out.step
  have HBa : Hid (Below base w (w.setCell ⟨R, 1, none⟩ (i64 ((j : Int) + 1)))) := (Below.refl _ _).setCell hlo _
  have hR1l := blt HR1.out.row
  have HCP1 := hid HR1.out.cells.cp
  clear c1 fz
  generalize w.setCell ⟨R, 1, none⟩ (Value.int IntKind.i64 ((j : Int) + 1)) = W1 at *
  go_upto_region 2 with (first
    | (refine wpList_load_mid rfl 30 (.tmp 19) rfl R 2 rfl (cpC C) _ (by exact HCP1.out) Tryd.underlying30 rfl (cpC_info HRG.out) ?_)
    | (go_at_call 36; refine (HSTEP.out _).mono ?_; rintro e v2 ⟨rfl, h2⟩; have HB2 := hid h2; have HND := hid (dn_stored v2 HD.out (⟨4, xn, xr, (ad : Nat), 1, (v : Nat)⟩ : Ac)); clear h2)
    | (refine wpList_store_mid rfl 88 (.tmp 6) (.tmp 22) rfl v2.heap.size 0 (dnC D (⟨4, xn, xr, (ad : Nat), 1, (v : Nat)⟩ : Ac)).toArray rfl rfl (by exact HND.out.2.2.1) (by rw [List.size_toArray, dnC_len HD.out]; exact infoD88) (by exact dnC_one _ _) ?_))
  have HR2 := hid ((HR1.out.below HB2.out).below HND.out.2.1)
  have HD2 := hid HND.out.1
  have HBb := hid ((HBa.out.trans (HB2.out.mono (by omega))).trans (HND.out.2.1.mono (by have := HB2.out.size; omega)))
  have hd1 := HND.out.2.2.2
  have hb2 : base ≤ v2.heap.size := by have := HB2.out.size; omega
  have hRd : R < v2.heap.size := by have := HB2.out.size; omega
  clear HND HB2 HCP1 HR1 HBa
  generalize (v2.alloc Z15).setCells v2.heap.size 0 (dnC D (⟨4, xn, xr, (ad : Nat), 1, (v : Nat)⟩ : Ac)) = V2 at *
  generalize v2.heap.size = d at *
  obtain ⟨d9, d10, d11, d12, d13, d14⟩ := dn_act (x := (⟨4, xn, xr, (ad : Nat), 1, (v : Nat)⟩ : Ac)) HD2.out HD.out
  go_upto_region 3 with fail
  have HQ : Hid ((V2.alloc (.cells #[i64 4, i64 xn, i64 xr, i64 (ad : Nat), i64 1, i64 (v : Nat)] 86)).heap[V2.heap.size]? = some (.cells #[i64 4, i64 xn, i64 xr, i64 (ad : Nat), i64 1, i64 (v : Nat)] 86 (0, 0))) := heap_at rfl _
  have HR3 := hid (HR2.out.below (below_one V2 (.cells #[i64 4, i64 xn, i64 xr, i64 (ad : Nat), i64 1, i64 (v : Nat)] 86)))
  have HD3 := hid (((below_one V2 (.cells #[i64 4, i64 xn, i64 xr, i64 (ad : Nat), i64 1, i64 (v : Nat)] 86)).block _ (blt HD2.out)).trans HD2.out)
  have HB3 := hid (HBb.out.trans ((below_one V2 (.cells #[i64 4, i64 xn, i64 xr, i64 (ad : Nat), i64 1, i64 (v : Nat)] 86)).mono (by omega)))
  have hdq : d < V2.heap.size := blt HD2.out
  have hRq : R < V2.heap.size := blt HR2.out.row
  clear d9 d10 d11 d12 d13 d14 HR2 HD2 HBb
  generalize hV3 : V2.alloc (.cells #[i64 4, i64 xn, i64 xr, i64 (ad : Nat), i64 1, i64 (v : Nat)] 86) = V at *
  have hVs : V.heap.size = V2.heap.size + 1 := by rw [← hV3]; simp
  generalize V2.heap.size = q at *
  clear hV3
  obtain ⟨q0, q1, q2, q3, q4, q5⟩ := ac_cells (x := (⟨4, xn, xr, (ad : Nat), 1, (v : Nat)⟩ : Ac)) HQ.out
  obtain ⟨c0, c1, c11, c12, cp, rg, fz⟩ := HR3.out.cells
  have HCP3 := hid cp
  have HRG3 := hid rg
  have hqv : q < V.heap.size := by omega
  have hdv : d < V.heap.size := by omega
  have hRv : R < V.heap.size := by omega
  clear cp rg hVs
  have hoI : (ad : Int) + 1 ≤ 256 := by omega
  obtain ⟨X5, hX5⟩ := HR3.out.gtag
  have hgq : gm ≠ q := fun e => by have := HQ.out; rw [← e, hX5] at this; simp at this
  have hgd : gm ≠ d := fun e => by have := HD3.out; rw [← e, hX5] at this; simp at this
  have HRV := HR3
  have HDV := HD3
  have HQV := HQ
  have HBV := HB3
  clear hX5 c0 c1 c11 c12 q1 q2 q3 q4 q5 HR3 HD3 HQ HB3
  obtain ⟨m0, f0, hgl, hgR, hgb⟩ := HRV.out.byte ad (by omega)
  generalize Value.int .u8 (((List.getD M ad 0).toNat : Nat) : Int) = vb0 at m0
  have HUP : Hid (∀ U : World, (∀ k, k ≠ gm → U.heap[k]? = V.heap[k]?) → U.cell? ⟨R, 11, none⟩ = some (.slice (some ⟨gm, 0, none⟩) 256 cm) ∧ U.cell? ⟨q, 3, none⟩ = some (i64 (ad : Nat)) ∧ U.cell? ⟨q, 5, none⟩ = some (i64 (v : Nat))) := fun U hU => ⟨(World.cell?_of_block (w := V) (a := ⟨R, 11, none⟩) (hU R (Ne.symm hgR))).trans HRV.out.cells.c11, (World.cell?_of_block (w := V) (a := ⟨q, 3, none⟩) (hU q (Ne.symm hgq))).trans (ac_cells (x := (⟨4, xn, xr, (ad : Nat), 1, (v : Nat)⟩ : Ac)) HQV.out).2.2.2.1, (World.cell?_of_block (w := V) (a := ⟨q, 5, none⟩) (hU q (Ne.symm hgq))).trans (ac_cells (x := (⟨4, xn, xr, (ad : Nat), 1, (v : Nat)⟩ : Ac)) HQV.out).2.2.2.2.2⟩
  have hc11 := HRV.out.cells.c11
  have hq3 : V.cell? ⟨q, 3, none⟩ = some (i64 (ad : Nat)) := (ac_cells (x := (⟨4, xn, xr, (ad : Nat), 1, (v : Nat)⟩ : Ac)) HQV.out).2.2.2.1
  have hq4 : V.cell? ⟨q, 4, none⟩ = some (i64 1) := (ac_cells (x := (⟨4, xn, xr, (ad : Nat), 1, (v : Nat)⟩ : Ac)) HQV.out).2.2.2.2.1
  have hq5 : V.cell? ⟨q, 5, none⟩ = some (i64 (v : Nat)) := (ac_cells (x := (⟨4, xn, xr, (ad : Nat), 1, (v : Nat)⟩ : Ac)) HQV.out).2.2.2.2.2
  go_upto_region 22 with fail
  have hvI : (v : Int) < 65536 := by omega
  have hv0 : (0 : Int) ≤ (v : Int) := by omega
  have ha0 : (0 : Int) ≤ (ad : Int) := by omega
  have ha1 : (ad : Int) < 256 := by omega
  
  
  go_region_held3 (fun U => U.cell? ⟨R, 11, none⟩ = some (.slice (some ⟨gm, 0, none⟩) 256 cm) ∧ U.cell? ⟨q, 3, none⟩ = some (i64 (ad : Nat)) ∧ U.cell? ⟨q, 5, none⟩ = some (i64 (v : Nat))) (first | exact HUP.out _ (fun _ _ => rfl) | exact HUP.out _ (fun k hk => heap_setCell_other _ _ _ _ hk)) (fail)
  rw [show (IntKind.u8.wrap ((v : Int).tmod 256) : Int) = (((UInt8.ofNat v).toNat : Nat) : Int) from wrap_lo v]
  have hU : (Below base V (V.setCell ⟨gm, ad, none⟩ (.int .u8 (((UInt8.ofNat v).toNat : Nat) : Int))).drew) := Below.drew ((Below.refl _ _).setCell (by show base ≤ gm; exact hgb) _)
  have HRU1 : Hid (Rr (V.setCell ⟨gm, ad, none⟩ (.int .u8 (((UInt8.ofNat v).toNat : Nat) : Int))).drew base R h (j + 1) C (M.set ad (UInt8.ofNat v)) K gm cm vk) := (HRV.out.put ad (UInt8.ofNat v)).below (w' := (V.setCell ⟨gm, ad, none⟩ (.int .u8 (((UInt8.ofNat v).toNat : Nat) : Int))).drew) ⟨rfl, rfl, rfl, Nat.le_refl _, fun _ _ => rfl⟩
  have HDU1 : Hid ((V.setCell ⟨gm, ad, none⟩ (.int .u8 (((UInt8.ofNat v).toNat : Nat) : Int))).drew.heap[d]? = some (.cells (dnC D (⟨4, xn, xr, (ad : Nat), 1, (v : Nat)⟩ : Ac)).toArray 88 (0, 0))) := (heap_setCell_other V _ d _ (Ne.symm hgd)).trans HDV.out
  have HQU1 : Hid ((V.setCell ⟨gm, ad, none⟩ (.int .u8 (((UInt8.ofNat v).toNat : Nat) : Int))).drew.heap[q]? = some (.cells #[i64 4, i64 xn, i64 xr, i64 (ad : Nat), i64 1, i64 (v : Nat)] 86 (0, 0))) := (heap_setCell_other V _ q _ (Ne.symm hgq)).trans HQV.out
  have HBU1 := hid (HBV.out.trans hU)
  clear hU hc11 hq3 hq4 hq5 HUP m0 f0 hgl hgR hgb hvI hv0 ha0 ha1 
  generalize (V.setCell ⟨gm, ad, none⟩ (.int .u8 (((UInt8.ofNat v).toNat : Nat) : Int))).drew = U1 at *
  have HMP : Hid (memP M ad 1 v = M.set ad (UInt8.ofNat v)) := by show _ = _; unfold memP; rw [if_neg (by decide)]
  have HTH := hid (there_mid HRU1.out HD.out)
  have hq4 : U1.cell? ⟨q, 4, none⟩ = some (i64 1) := (ac_cells (x := (⟨4, xn, xr, (ad : Nat), 1, (v : Nat)⟩ : Ac)) HQU1.out).2.2.2.2.1
  go_wp2_with (first
      | (refine wpList_load_mid rfl 30 (.tmp 177) rfl d 0 rfl (cpC D) _ (by exact dn_cp HDU1.out) Tryd.underlying30 rfl (cpC_info HD.out) ?_)
      | (refine wpList_store_mid rfl 30 (.tmp 180) (.tmp 178) rfl R 2 (cpC D).toArray rfl rfl (by exact HTH.out) (cpC_infoA HD.out) (cpC_one _) ?_))
  go_end0
  exact ⟨rfl, ⟨_, by rw [HMP.out]; exact HRU1.out.cpu HD.out⟩, Below.cellsAt _ _ _ _ hlo HBU1.out⟩
set_option maxRecDepth 100000 in
set_option maxHeartbeats 1600000 in
theorem rst4s2 (w : World) (base R h j : Nat) (C : List Nat) (M : List UInt8) (K : List Cl) (gm cm : Nat) (vk : Value) (r : Rr w base R h j C M K gm cm vk) (l : List UInt8) (hl : l.length ≤ 256) (hj : j ≤ 5000) (ao : Option Addr) (cap : Nat) (A : List Int) (hA : ∀ V, Below base w V → ASl V base base (.slice ao A.length cap) A) (hk : (stA C l).k = 4) (ad v : Nat) (had : (stA C l).ad = (ad : Nat)) (hsz : (stA C l).s = 2) (hvv : (stA C l).v = (v : Nat)) (hv : v < 65536) (hin : ad + 2 ≤ 256) :
    Calls Tryd.prog 18 #[.pointer (some ⟨R, 0, none⟩), .string ⟨l.toArray⟩, .slice ao A.length cap] w fun e w' => e = .returned (.tuple #[]) ∧ (∃ vk', Rr w' base R h (j + 1) (stC C l) (memP M ad 2 v) K gm cm vk') ∧ Below base w w' := by
  have HR := hid r
  have HAN := hid hA
  obtain ⟨c0, c1, c11, c12, cp, rg, fz⟩ := r.cells
  have HCP := hid cp
  have hRl := blt r.row
  have hlo := r.lo
  have hC := r.rg
  have HRG := hid hC
  have HSTEP := hid (fun v => rstep_ok v C hC l (by unfold maxLen; omega))
  have HD := hid (hC.step l)
  generalize hDD : stC C l = D at *
  generalize hxx : stA C l = x at *
  have HDD := hid hDD
  have HXX := hid hxx
  obtain ⟨xk, xn, xr, xa, xs, xv⟩ := x
  simp only at hk had hsz hvv
  subst hk had hsz hvv
  clear r hA cp rg c11 c12 c0 hC hDD hxx
  have hjI : (j : Int) ≤ 5000 := by omega
  go_enter Tryd.func18, Tryd.ntmps18
  go_upto_region 1 with fail
  have HR1 := hid HR.out.step
  have HBa : Hid (Below base w (w.setCell ⟨R, 1, none⟩ (i64 ((j : Int) + 1)))) := (Below.refl _ _).setCell hlo _
  have hR1l := blt HR1.out.row
  have HCP1 := hid HR1.out.cells.cp
  clear c1 fz
  generalize w.setCell ⟨R, 1, none⟩ (Value.int IntKind.i64 ((j : Int) + 1)) = W1 at *
  go_upto_region 2 with (first
    | (refine wpList_load_mid rfl 30 (.tmp 19) rfl R 2 rfl (cpC C) _ (by exact HCP1.out) Tryd.underlying30 rfl (cpC_info HRG.out) ?_)
    | (go_at_call 36; refine (HSTEP.out _).mono ?_; rintro e v2 ⟨rfl, h2⟩; have HB2 := hid h2; have HND := hid (dn_stored v2 HD.out (⟨4, xn, xr, (ad : Nat), 2, (v : Nat)⟩ : Ac)); clear h2)
    | (refine wpList_store_mid rfl 88 (.tmp 6) (.tmp 22) rfl v2.heap.size 0 (dnC D (⟨4, xn, xr, (ad : Nat), 2, (v : Nat)⟩ : Ac)).toArray rfl rfl (by exact HND.out.2.2.1) (by rw [List.size_toArray, dnC_len HD.out]; exact infoD88) (by exact dnC_one _ _) ?_))
  have HR2 := hid ((HR1.out.below HB2.out).below HND.out.2.1)
  have HD2 := hid HND.out.1
  have HBb := hid ((HBa.out.trans (HB2.out.mono (by omega))).trans (HND.out.2.1.mono (by have := HB2.out.size; omega)))
  have hd1 := HND.out.2.2.2
  have hb2 : base ≤ v2.heap.size := by have := HB2.out.size; omega
  have hRd : R < v2.heap.size := by have := HB2.out.size; omega
  clear HND HB2 HCP1 HR1 HBa
  generalize (v2.alloc Z15).setCells v2.heap.size 0 (dnC D (⟨4, xn, xr, (ad : Nat), 2, (v : Nat)⟩ : Ac)) = V2 at *
  generalize v2.heap.size = d at *
  obtain ⟨d9, d10, d11, d12, d13, d14⟩ := dn_act (x := (⟨4, xn, xr, (ad : Nat), 2, (v : Nat)⟩ : Ac)) HD2.out HD.out
  go_upto_region 3 with fail
  have HQ : Hid ((V2.alloc (.cells #[i64 4, i64 xn, i64 xr, i64 (ad : Nat), i64 2, i64 (v : Nat)] 86)).heap[V2.heap.size]? = some (.cells #[i64 4, i64 xn, i64 xr, i64 (ad : Nat), i64 2, i64 (v : Nat)] 86 (0, 0))) := heap_at rfl _
  have HR3 := hid (HR2.out.below (below_one V2 (.cells #[i64 4, i64 xn, i64 xr, i64 (ad : Nat), i64 2, i64 (v : Nat)] 86)))
  have HD3 := hid (((below_one V2 (.cells #[i64 4, i64 xn, i64 xr, i64 (ad : Nat), i64 2, i64 (v : Nat)] 86)).block _ (blt HD2.out)).trans HD2.out)
  have HB3 := hid (HBb.out.trans ((below_one V2 (.cells #[i64 4, i64 xn, i64 xr, i64 (ad : Nat), i64 2, i64 (v : Nat)] 86)).mono (by omega)))
  have hdq : d < V2.heap.size := blt HD2.out
  have hRq : R < V2.heap.size := blt HR2.out.row
  clear d9 d10 d11 d12 d13 d14 HR2 HD2 HBb
  generalize hV3 : V2.alloc (.cells #[i64 4, i64 xn, i64 xr, i64 (ad : Nat), i64 2, i64 (v : Nat)] 86) = V at *
  have hVs : V.heap.size = V2.heap.size + 1 := by rw [← hV3]; simp
  generalize V2.heap.size = q at *
  clear hV3
  obtain ⟨q0, q1, q2, q3, q4, q5⟩ := ac_cells (x := (⟨4, xn, xr, (ad : Nat), 2, (v : Nat)⟩ : Ac)) HQ.out
  obtain ⟨c0, c1, c11, c12, cp, rg, fz⟩ := HR3.out.cells
  have HCP3 := hid cp
  have HRG3 := hid rg
  have hqv : q < V.heap.size := by omega
  have hdv : d < V.heap.size := by omega
  have hRv : R < V.heap.size := by omega
  clear cp rg hVs
  have hoI : (ad : Int) + 2 ≤ 256 := by omega
  obtain ⟨X5, hX5⟩ := HR3.out.gtag
  have hgq : gm ≠ q := fun e => by have := HQ.out; rw [← e, hX5] at this; simp at this
  have hgd : gm ≠ d := fun e => by have := HD3.out; rw [← e, hX5] at this; simp at this
  have HRV := HR3
  have HDV := HD3
  have HQV := HQ
  have HBV := HB3
  clear hX5 c0 c1 c11 c12 q1 q2 q3 q4 q5 HR3 HD3 HQ HB3
  obtain ⟨m0, f0, hgl, hgR, hgb⟩ := HRV.out.byte ad (by omega)
  generalize Value.int .u8 (((List.getD M ad 0).toNat : Nat) : Int) = vb0 at m0
  have HUP : Hid (∀ U : World, (∀ k, k ≠ gm → U.heap[k]? = V.heap[k]?) → U.cell? ⟨R, 11, none⟩ = some (.slice (some ⟨gm, 0, none⟩) 256 cm) ∧ U.cell? ⟨q, 3, none⟩ = some (i64 (ad : Nat)) ∧ U.cell? ⟨q, 5, none⟩ = some (i64 (v : Nat))) := fun U hU => ⟨(World.cell?_of_block (w := V) (a := ⟨R, 11, none⟩) (hU R (Ne.symm hgR))).trans HRV.out.cells.c11, (World.cell?_of_block (w := V) (a := ⟨q, 3, none⟩) (hU q (Ne.symm hgq))).trans (ac_cells (x := (⟨4, xn, xr, (ad : Nat), 2, (v : Nat)⟩ : Ac)) HQV.out).2.2.2.1, (World.cell?_of_block (w := V) (a := ⟨q, 5, none⟩) (hU q (Ne.symm hgq))).trans (ac_cells (x := (⟨4, xn, xr, (ad : Nat), 2, (v : Nat)⟩ : Ac)) HQV.out).2.2.2.2.2⟩
  have hc11 := HRV.out.cells.c11
  have hq3 : V.cell? ⟨q, 3, none⟩ = some (i64 (ad : Nat)) := (ac_cells (x := (⟨4, xn, xr, (ad : Nat), 2, (v : Nat)⟩ : Ac)) HQV.out).2.2.2.1
  have hq4 : V.cell? ⟨q, 4, none⟩ = some (i64 2) := (ac_cells (x := (⟨4, xn, xr, (ad : Nat), 2, (v : Nat)⟩ : Ac)) HQV.out).2.2.2.2.1
  have hq5 : V.cell? ⟨q, 5, none⟩ = some (i64 (v : Nat)) := (ac_cells (x := (⟨4, xn, xr, (ad : Nat), 2, (v : Nat)⟩ : Ac)) HQV.out).2.2.2.2.2
  go_upto_region 22 with fail
  have hvI : (v : Int) < 65536 := by omega
  have hv0 : (0 : Int) ≤ (v : Int) := by omega
  have ha0 : (0 : Int) ≤ (ad : Int) := by omega
  have ha1 : (ad : Int) < 256 := by omega
  
  
  go_region_held3 (fun U => U.cell? ⟨R, 11, none⟩ = some (.slice (some ⟨gm, 0, none⟩) 256 cm) ∧ U.cell? ⟨q, 3, none⟩ = some (i64 (ad : Nat)) ∧ U.cell? ⟨q, 5, none⟩ = some (i64 (v : Nat))) (first | exact HUP.out _ (fun _ _ => rfl) | exact HUP.out _ (fun k hk => heap_setCell_other _ _ _ _ hk)) (fail)
  rw [show (IntKind.u8.wrap ((v : Int).tmod 256) : Int) = (((UInt8.ofNat v).toNat : Nat) : Int) from wrap_lo v]
  have hU : (Below base V (V.setCell ⟨gm, ad, none⟩ (.int .u8 (((UInt8.ofNat v).toNat : Nat) : Int))).drew) := Below.drew ((Below.refl _ _).setCell (by show base ≤ gm; exact hgb) _)
  have HRU1 : Hid (Rr (V.setCell ⟨gm, ad, none⟩ (.int .u8 (((UInt8.ofNat v).toNat : Nat) : Int))).drew base R h (j + 1) C (M.set ad (UInt8.ofNat v)) K gm cm vk) := (HRV.out.put ad (UInt8.ofNat v)).below (w' := (V.setCell ⟨gm, ad, none⟩ (.int .u8 (((UInt8.ofNat v).toNat : Nat) : Int))).drew) ⟨rfl, rfl, rfl, Nat.le_refl _, fun _ _ => rfl⟩
  have HDU1 : Hid ((V.setCell ⟨gm, ad, none⟩ (.int .u8 (((UInt8.ofNat v).toNat : Nat) : Int))).drew.heap[d]? = some (.cells (dnC D (⟨4, xn, xr, (ad : Nat), 2, (v : Nat)⟩ : Ac)).toArray 88 (0, 0))) := (heap_setCell_other V _ d _ (Ne.symm hgd)).trans HDV.out
  have HQU1 : Hid ((V.setCell ⟨gm, ad, none⟩ (.int .u8 (((UInt8.ofNat v).toNat : Nat) : Int))).drew.heap[q]? = some (.cells #[i64 4, i64 xn, i64 xr, i64 (ad : Nat), i64 2, i64 (v : Nat)] 86 (0, 0))) := (heap_setCell_other V _ q _ (Ne.symm hgq)).trans HQV.out
  have HBU1 := hid (HBV.out.trans hU)
  clear hU hc11 hq3 hq4 hq5 HUP m0 f0 hgl hgR hgb hvI hv0 ha0 ha1 
  generalize (V.setCell ⟨gm, ad, none⟩ (.int .u8 (((UInt8.ofNat v).toNat : Nat) : Int))).drew = U1 at *
  obtain ⟨m0, f0, hgl, hgR, hgb⟩ := HRU1.out.byte ad (by omega)
  generalize Value.int .u8 (((List.getD (M.set ad (UInt8.ofNat v)) ad 0).toNat : Nat) : Int) = vb0 at m0
  have HUP : Hid (∀ U : World, (∀ k, k ≠ gm → U.heap[k]? = U1.heap[k]?) → U.cell? ⟨R, 11, none⟩ = some (.slice (some ⟨gm, 0, none⟩) 256 cm) ∧ U.cell? ⟨q, 3, none⟩ = some (i64 (ad : Nat)) ∧ U.cell? ⟨q, 5, none⟩ = some (i64 (v : Nat))) := fun U hU => ⟨(World.cell?_of_block (w := U1) (a := ⟨R, 11, none⟩) (hU R (Ne.symm hgR))).trans HRU1.out.cells.c11, (World.cell?_of_block (w := U1) (a := ⟨q, 3, none⟩) (hU q (Ne.symm hgq))).trans (ac_cells (x := (⟨4, xn, xr, (ad : Nat), 2, (v : Nat)⟩ : Ac)) HQU1.out).2.2.2.1, (World.cell?_of_block (w := U1) (a := ⟨q, 5, none⟩) (hU q (Ne.symm hgq))).trans (ac_cells (x := (⟨4, xn, xr, (ad : Nat), 2, (v : Nat)⟩ : Ac)) HQU1.out).2.2.2.2.2⟩
  have hc11 := HRU1.out.cells.c11
  have hq3 : U1.cell? ⟨q, 3, none⟩ = some (i64 (ad : Nat)) := (ac_cells (x := (⟨4, xn, xr, (ad : Nat), 2, (v : Nat)⟩ : Ac)) HQU1.out).2.2.2.1
  have hq4 : U1.cell? ⟨q, 4, none⟩ = some (i64 2) := (ac_cells (x := (⟨4, xn, xr, (ad : Nat), 2, (v : Nat)⟩ : Ac)) HQU1.out).2.2.2.2.1
  have hq5 : U1.cell? ⟨q, 5, none⟩ = some (i64 (v : Nat)) := (ac_cells (x := (⟨4, xn, xr, (ad : Nat), 2, (v : Nat)⟩ : Ac)) HQU1.out).2.2.2.2.2
  go_upto_region 24 with fail
  have hvI : (v : Int) < 65536 := by omega
  have hv0 : (0 : Int) ≤ (v : Int) := by omega
  have ha0 : (0 : Int) ≤ (ad : Int) := by omega
  have ha1 : (ad : Int) < 256 := by omega
  
  
  go_region_held3 (fun U => U.cell? ⟨R, 11, none⟩ = some (.slice (some ⟨gm, 0, none⟩) 256 cm) ∧ U.cell? ⟨q, 3, none⟩ = some (i64 (ad : Nat)) ∧ U.cell? ⟨q, 5, none⟩ = some (i64 (v : Nat))) (first | exact HUP.out _ (fun _ _ => rfl) | exact HUP.out _ (fun k hk => heap_setCell_other _ _ _ _ hk)) (fail)
  rw [show (IntKind.u8.wrap (IntKind.i64.wrap ((v : Int) / 256)) : Int) = (((UInt8.ofNat (v / 256)).toNat : Nat) : Int) from wrap_hi v hv]
  have hU : (Below base U1 (U1.setCell ⟨gm, ad, none⟩ (.int .u8 (((UInt8.ofNat (v / 256)).toNat : Nat) : Int))).drew) := Below.drew ((Below.refl _ _).setCell (by show base ≤ gm; exact hgb) _)
  have HRU2 : Hid (Rr (U1.setCell ⟨gm, ad, none⟩ (.int .u8 (((UInt8.ofNat (v / 256)).toNat : Nat) : Int))).drew base R h (j + 1) C ((M.set ad (UInt8.ofNat v)).set ad (UInt8.ofNat (v / 256))) K gm cm vk) := (HRU1.out.put ad (UInt8.ofNat (v / 256))).below (w' := (U1.setCell ⟨gm, ad, none⟩ (.int .u8 (((UInt8.ofNat (v / 256)).toNat : Nat) : Int))).drew) ⟨rfl, rfl, rfl, Nat.le_refl _, fun _ _ => rfl⟩
  have HDU2 : Hid ((U1.setCell ⟨gm, ad, none⟩ (.int .u8 (((UInt8.ofNat (v / 256)).toNat : Nat) : Int))).drew.heap[d]? = some (.cells (dnC D (⟨4, xn, xr, (ad : Nat), 2, (v : Nat)⟩ : Ac)).toArray 88 (0, 0))) := (heap_setCell_other U1 _ d _ (Ne.symm hgd)).trans HDU1.out
  have HQU2 : Hid ((U1.setCell ⟨gm, ad, none⟩ (.int .u8 (((UInt8.ofNat (v / 256)).toNat : Nat) : Int))).drew.heap[q]? = some (.cells #[i64 4, i64 xn, i64 xr, i64 (ad : Nat), i64 2, i64 (v : Nat)] 86 (0, 0))) := (heap_setCell_other U1 _ q _ (Ne.symm hgq)).trans HQU1.out
  have HBU2 := hid (HBU1.out.trans hU)
  clear hU hc11 hq3 hq4 hq5 HUP m0 f0 hgl hgR hgb hvI hv0 ha0 ha1 
  generalize (U1.setCell ⟨gm, ad, none⟩ (.int .u8 (((UInt8.ofNat (v / 256)).toNat : Nat) : Int))).drew = U2 at *
  obtain ⟨a1, ha1e⟩ : ∃ a1, a1 = ad + 1 := ⟨_, rfl⟩
  have HA1 := hid ha1e
  clear ha1e
  obtain ⟨m0, f0, hgl, hgR, hgb⟩ := HRU2.out.byte a1 (by have := HA1.out; omega)
  generalize Value.int .u8 (((List.getD ((M.set ad (UInt8.ofNat v)).set ad (UInt8.ofNat (v / 256))) a1 0).toNat : Nat) : Int) = vb0 at m0
  have HUP : Hid (∀ U : World, (∀ k, k ≠ gm → U.heap[k]? = U2.heap[k]?) → U.cell? ⟨R, 11, none⟩ = some (.slice (some ⟨gm, 0, none⟩) 256 cm) ∧ U.cell? ⟨q, 3, none⟩ = some (i64 (ad : Nat)) ∧ U.cell? ⟨q, 5, none⟩ = some (i64 (v : Nat))) := fun U hU => ⟨(World.cell?_of_block (w := U2) (a := ⟨R, 11, none⟩) (hU R (Ne.symm hgR))).trans HRU2.out.cells.c11, (World.cell?_of_block (w := U2) (a := ⟨q, 3, none⟩) (hU q (Ne.symm hgq))).trans (ac_cells (x := (⟨4, xn, xr, (ad : Nat), 2, (v : Nat)⟩ : Ac)) HQU2.out).2.2.2.1, (World.cell?_of_block (w := U2) (a := ⟨q, 5, none⟩) (hU q (Ne.symm hgq))).trans (ac_cells (x := (⟨4, xn, xr, (ad : Nat), 2, (v : Nat)⟩ : Ac)) HQU2.out).2.2.2.2.2⟩
  have hc11 := HRU2.out.cells.c11
  have hq3 : U2.cell? ⟨q, 3, none⟩ = some (i64 (ad : Nat)) := (ac_cells (x := (⟨4, xn, xr, (ad : Nat), 2, (v : Nat)⟩ : Ac)) HQU2.out).2.2.2.1
  have hq4 : U2.cell? ⟨q, 4, none⟩ = some (i64 2) := (ac_cells (x := (⟨4, xn, xr, (ad : Nat), 2, (v : Nat)⟩ : Ac)) HQU2.out).2.2.2.2.1
  have hq5 : U2.cell? ⟨q, 5, none⟩ = some (i64 (v : Nat)) := (ac_cells (x := (⟨4, xn, xr, (ad : Nat), 2, (v : Nat)⟩ : Ac)) HQU2.out).2.2.2.2.2
  go_upto_region 25 with fail
  have hvI : (v : Int) < 65536 := by omega
  have hv0 : (0 : Int) ≤ (v : Int) := by omega
  have ha0 : (0 : Int) ≤ (ad : Int) := by omega
  have ha1 : IntKind.i64.wrap ((ad : Int) + 1) = (a1 : Int) := by have := HA1.out; rw [IntKind.wrap_i64]; omega
  have ha2 : (a1 : Int) < 256 := by have := HA1.out; omega
  have ha3 : (0 : Int) ≤ (a1 : Int) := by omega
  go_region_held3 (fun U => U.cell? ⟨R, 11, none⟩ = some (.slice (some ⟨gm, 0, none⟩) 256 cm) ∧ U.cell? ⟨q, 3, none⟩ = some (i64 (ad : Nat)) ∧ U.cell? ⟨q, 5, none⟩ = some (i64 (v : Nat))) (first | exact HUP.out _ (fun _ _ => rfl) | exact HUP.out _ (fun k hk => heap_setCell_other _ _ _ _ hk)) (fail)
  rw [show (IntKind.u8.wrap ((v : Int).tmod 256) : Int) = (((UInt8.ofNat v).toNat : Nat) : Int) from wrap_lo v]
  have hU : (Below base U2 (U2.setCell ⟨gm, a1, none⟩ (.int .u8 (((UInt8.ofNat v).toNat : Nat) : Int))).drew) := Below.drew ((Below.refl _ _).setCell (by show base ≤ gm; exact hgb) _)
  have HRU3 : Hid (Rr (U2.setCell ⟨gm, a1, none⟩ (.int .u8 (((UInt8.ofNat v).toNat : Nat) : Int))).drew base R h (j + 1) C (((M.set ad (UInt8.ofNat v)).set ad (UInt8.ofNat (v / 256))).set a1 (UInt8.ofNat v)) K gm cm vk) := (HRU2.out.put a1 (UInt8.ofNat v)).below (w' := (U2.setCell ⟨gm, a1, none⟩ (.int .u8 (((UInt8.ofNat v).toNat : Nat) : Int))).drew) ⟨rfl, rfl, rfl, Nat.le_refl _, fun _ _ => rfl⟩
  have HDU3 : Hid ((U2.setCell ⟨gm, a1, none⟩ (.int .u8 (((UInt8.ofNat v).toNat : Nat) : Int))).drew.heap[d]? = some (.cells (dnC D (⟨4, xn, xr, (ad : Nat), 2, (v : Nat)⟩ : Ac)).toArray 88 (0, 0))) := (heap_setCell_other U2 _ d _ (Ne.symm hgd)).trans HDU2.out
  have HQU3 : Hid ((U2.setCell ⟨gm, a1, none⟩ (.int .u8 (((UInt8.ofNat v).toNat : Nat) : Int))).drew.heap[q]? = some (.cells #[i64 4, i64 xn, i64 xr, i64 (ad : Nat), i64 2, i64 (v : Nat)] 86 (0, 0))) := (heap_setCell_other U2 _ q _ (Ne.symm hgq)).trans HQU2.out
  have HBU3 := hid (HBU2.out.trans hU)
  clear hU hc11 hq3 hq4 hq5 HUP m0 f0 hgl hgR hgb hvI hv0 ha0 ha1 ha2 ha3
  generalize (U2.setCell ⟨gm, a1, none⟩ (.int .u8 (((UInt8.ofNat v).toNat : Nat) : Int))).drew = U3 at *
  have HMP : Hid (memP M ad 2 v = ((M.set ad (UInt8.ofNat v)).set ad (UInt8.ofNat (v / 256))).set a1 (UInt8.ofNat v)) := by show _ = _; unfold memP; rw [if_pos rfl, List.set_set, HA1.out, List.set_comm _ _ (by omega)]
  have HTH := hid (there_mid HRU3.out HD.out)
  have hq4 : U3.cell? ⟨q, 4, none⟩ = some (i64 2) := (ac_cells (x := (⟨4, xn, xr, (ad : Nat), 2, (v : Nat)⟩ : Ac)) HQU3.out).2.2.2.2.1
  go_wp2_with (first
      | (refine wpList_load_mid rfl 30 (.tmp 177) rfl d 0 rfl (cpC D) _ (by exact dn_cp HDU3.out) Tryd.underlying30 rfl (cpC_info HD.out) ?_)
      | (refine wpList_store_mid rfl 30 (.tmp 180) (.tmp 178) rfl R 2 (cpC D).toArray rfl rfl (by exact HTH.out) (cpC_infoA HD.out) (cpC_one _) ?_))
  go_end0
  exact ⟨rfl, ⟨_, by rw [HMP.out]; exact HRU3.out.cpu HD.out⟩, Below.cellsAt _ _ _ _ hlo HBU3.out⟩

theorem st_zero {C : List Nat} {l : List UInt8} (h : (stA C l).k = 0) : stC C l = C := by
  unfold stA at h
  unfold stC
  split at h
  · exfalso
    unfold actF at h
    split at h
    · simp at h
    · repeat' split at h
      all_goals simp at h
  · rename_i hn
    rw [if_neg hn]
theorem st_call {C : List Nat} {l : List UInt8} (h : (stA C l).k = 2) (j : Nat) (hj : j < 8) : (stC C l).getD j 0 = C.getD j 0 := by
  unfold stA at h
  unfold stC
  split at h
  · rename_i hn
    rw [if_pos hn]
    have hop : (atI l (C.getD 8 0 : Nat)).op = 20 := by
      unfold actF at h
      split at h
      · simp at h
      · split at h
        · assumption
        · repeat' split at h
          all_goals simp at h
    unfold doC
    rw [hop]
    rw [if_neg (by unfold gone; simp), if_neg (by omega)]
    rw [List.getD_eq_getElem?_getD, List.getElem?_set_ne (by omega), ← List.getD_eq_getElem?_getD]
  · simp [zA] at h
theorem rst_ok (w : World) (base R j : Nat) (s : Rn) (gm cm : Nat) (vk : Value) (r : Rr w base R 0 j s.C s.M s.K gm cm vk) (l : List UInt8) (hl : l.length ≤ 256) (hj : j ≤ 5000) (hK : s.K.length ≤ 5000) (ao : Option Addr) (cap : Nat) (A : List Int) (hA : ∀ V, Below base w V → ASl V base base (.slice ao A.length cap) A) (hs : s.A = A.drop s.K.length) :
    Calls Tryd.prog 18 #[.pointer (some ⟨R, 0, none⟩), .string ⟨l.toArray⟩, .slice ao A.length cap] w fun e w' => e = .returned (.tuple #[]) ∧ ((∃ vk', Rr w' base R (stepP l s).1 (j + 1) (stepP l s).2.C (stepP l s).2.M (stepP l s).2.K gm cm vk') ∧ Below base w w') := by
  have hf := fit_step r.rg l
  unfold stepP doP
  by_cases k0 : (stA s.C l).k = 0
  · rw [if_pos k0, st_zero k0]
    exact rst0 w base R 0 j _ _ _ gm cm vk r l hl hj ao cap A hA k0
  rw [if_neg k0]
  by_cases k1 : (stA s.C l).k = 1
  · rw [if_pos k1]
    exact rst1 w base R 0 j _ _ _ gm cm vk r l hl hj ao cap A hA k1
  rw [if_neg k1]
  by_cases k2 : (stA s.C l).k = 2
  · rw [if_pos k2, hs, st_call k2 1 (by omega), st_call k2 2 (by omega), st_call k2 3 (by omega)]
    exact rst2 w base R 0 j _ _ _ gm cm vk r l hl hj ao cap A hA k2 hK
  rw [if_neg k2]
  by_cases k3 : (stA s.C l).k = 3
  · rw [if_pos k3]
    obtain ⟨⟨a0, a1⟩, a2⟩ := hf.ac (Or.inl k3)
    obtain ⟨r0, r7⟩ := hf.rd k3
    have ea : (stA s.C l).ad = ((stA s.C l).ad.toNat : Nat) := by omega
    have er : (stA s.C l).r = ((stA s.C l).r.toNat : Nat) := by omega
    by_cases ho : outB (stA s.C l) = true
    · rw [if_pos ho]
      unfold outB at ho
      have ho := of_decide_eq_true ho
      exact rst3o w base R 0 j _ _ _ gm cm vk r l hl hj ao cap A hA k3 (stA s.C l).ad.toNat (stA s.C l).s.toNat ea (by omega) (by omega) (by omega) (by omega)
    · rw [if_neg ho]
      unfold outB at ho
      have ho : ¬ (256 - (stA s.C l).s < (stA s.C l).ad) := by simpa using ho
      rcases a2 with a2 | a2
      · rw [a2]
        exact rst3s1 w base R 0 j _ _ _ gm cm vk r l hl hj ao cap A hA k3 (stA s.C l).ad.toNat (stA s.C l).r.toNat ea a2 er (by omega) (by omega)
      · rw [a2]
        exact rst3s2 w base R 0 j _ _ _ gm cm vk r l hl hj ao cap A hA k3 (stA s.C l).ad.toNat (stA s.C l).r.toNat ea a2 er (by omega) (by omega)
  rw [if_neg k3]
  by_cases k4 : (stA s.C l).k = 4
  · rw [if_pos k4]
    obtain ⟨⟨a0, a1⟩, a2⟩ := hf.ac (Or.inr k4)
    obtain ⟨v0, v1, _⟩ := hf.vl k4
    have ea : (stA s.C l).ad = ((stA s.C l).ad.toNat : Nat) := by omega
    have ev : (stA s.C l).v = ((stA s.C l).v.toNat : Nat) := by omega
    by_cases ho : outB (stA s.C l) = true
    · rw [if_pos ho]
      unfold outB at ho
      have ho := of_decide_eq_true ho
      exact rst4o w base R 0 j _ _ _ gm cm vk r l hl hj ao cap A hA k4 (stA s.C l).ad.toNat (stA s.C l).s.toNat ea (by omega) (by omega) (by omega) (by omega)
    · rw [if_neg ho]
      unfold outB at ho
      have ho : ¬ (256 - (stA s.C l).s < (stA s.C l).ad) := by simpa using ho
      rcases a2 with a2 | a2
      · rw [a2]
        exact rst4s1 w base R 0 j _ _ _ gm cm vk r l hl hj ao cap A hA k4 (stA s.C l).ad.toNat (stA s.C l).v.toNat ea a2 ev (by omega) (by omega)
      · rw [a2]
        exact rst4s2 w base R 0 j _ _ _ gm cm vk r l hl hj ao cap A hA k4 (stA s.C l).ad.toNat (stA s.C l).v.toNat ea a2 ev (by omega) (by omega)
  rw [if_neg k4]
  exact rst5 w base R 0 j _ _ _ gm cm vk r l hl hj ao cap A hA (by have := hf.k0; have := hf.k5; omega)
theorem step_ans {l : List UInt8} {s : Rn} {A : List Int} (hs : s.A = A.drop s.K.length) : (stepP l s).2.A = A.drop (stepP l s).2.K.length ∧ (stepP l s).2.K.length ≤ s.K.length + 1 := by
  unfold stepP doP
  repeat' split
  all_goals first
    | exact ⟨hs, Nat.le_succ _⟩
    | exact ⟨by simp [hs], by simp⟩

theorem wpList_run_app {P : Program} {w : World} {ops : Array Oper} {rest : List Oper} {o : Oper} {a : Act} {Q : Exit → Act → World → Prop} (hgd : o.guard = none) (s x : Operand) (t : TypeId)
    (ho : o.op = .call { callee := .builtin .append, args := #[s, x], argTypes := #[t, t] }) (v1 v2 : Value) (hs : a.eval s = v1) (hx : a.eval x = v2) (ty : TypeId) (hty : o.type = ty) (r : Value) (w' : World)
    (hr : (Builtin.append_ #[t, t] ty #[v1, v2]).run P w = .ok r w') (h : wpList P ops Q rest (a.put o.dst r) w') : wpList P ops Q (o :: rest) a w :=
  wpList_plain hgd fun _ hK => by
    unfold Oper.wp execOp
    simp only [ho, resolve, invoke, builtin, Sem.run_bind, Sem.run_pure, Result.andThen_ok, List.map_toArray, List.map_cons, List.map_nil, hs, hx, hty, hr]
    exact hK _ _ h
def NewI (w wr : World) (F : List UInt8) (k : Nat) (vm : Value) : Prop :=
  wr.heap[w.heap.size]? = some (.cells (rrC 0 0 z9 vm (.slice none 0 0)).toArray 44 (0, 0)) ∧ wr.ownsRow w.heap.size 5 1 vm k (cells (F.take k)) ∧ Below w.heap.size w wr
theorem new_next {w wr : World} {F : List UInt8} {k : Nat} {vm : Value} (h : NewI w wr F k vm) (hk : k < F.length) (hF : F.length = 256) (x : UInt8) (hx : F[k] = x) :
    ∃ ao cap w6, (Builtin.append_ #[41, 41] 41 #[vm, .slice (some ⟨wr.heap.size, 0, none⟩) 1 1]).run Tryd.prog (wr.alloc (.cells #[.int .u8 (x.toNat : Nat)] 5)) = .ok (.slice ao (k + 1) cap) w6 ∧ w6.cell? ⟨w.heap.size, 11, none⟩ = some vm ∧ w6.frozen? ⟨w.heap.size, 11, none⟩ = false ∧ NewI w (w6.setCell ⟨w.heap.size, 11, none⟩ (.slice ao (k + 1) cap)) F (k + 1) (.slice ao (k + 1) cap) := by
  obtain ⟨h1, h2, h3⟩ := h
  obtain ⟨i, hi, hz, hs, hby⟩ := info_parts info5x
  have hB : w.heap.size ≤ (wr.alloc (.cells #[.int .u8 (x.toNat : Nat)] 5)).heap.size := by have := h3.size; simp; omega
  obtain ⟨v', w6, hr, g2, g3, _, _⟩ := run_append_own_at (P := Tryd.prog) (wr.alloc (.cells #[.int .u8 (x.toNat : Nat)] 5)) w.heap.size 41 41 5 i (.int .u8 0) 1 1 Tryd.underlying41 hi hz hs hby rfl (by omega) vm k (cells (F.take k)) (h2.alloc _) ⟨wr.heap.size, 0, none⟩ 1 1 (cells [x]) rfl (fun j u hu => World.news_of_block (heap_at (w := wr) rfl (.cells #[.int .u8 (x.toNat : Nat)] 5)) j u hu) (fun u hu => by simp [cells] at hu; subst hu; rfl) (by unfold maxLen; omega) (by omega) hB
  obtain ⟨ao, cap, rfl, _⟩ := own_slice g2
  have hR : w.heap.size < wr.heap.size := blt h1
  have hno : ∀ (k' : Nat) (o : Obj), wr.heap[k']? = some o → (∀ X, o ≠ .cells X 5 (0, 0)) → w6.heap[k']? = some o := fun k' o hk' hne => by
    have hk2 : (wr.alloc (.cells #[.int .u8 (x.toNat : Nat)] 5)).heap[k']? = some o := ((below_one wr _).block k' (blt hk')).trans hk'
    rw [g3.block k' (blt hk2) (fun e => ?_)]
    · exact hk2
    · rcases h2.2 with ⟨rfl, _⟩ | ⟨g, cap, cur, rfl, _, hgg, _⟩
      · simp [Value.ownBlock] at e
      · simp [Value.ownBlock] at e
        subst e
        rw [hgg] at hk'
        cases hk'
        exact hne _ rfl
  have hrow := hno _ _ h1 (fun X e => by simp at e)
  refine ⟨ao, cap, w6, hr, ?_, ?_, ?_, ?_, ?_⟩
  · rw [cell_of_row _ _ _ _ 44 (0, 0) hrow]; rfl
  · unfold World.frozen?
    rw [show w6.heap[(⟨w.heap.size, 11, none⟩ : Addr).block]? = _ from hrow]
    simp
  · rw [sc_row hrow 11 _]; rfl
  · have e : cells (F.take (k + 1)) = cells (F.take k) ++ cells [x] := by
      rw [List.take_succ_eq_append_getElem hk, hx]
      simp [cells]
    rw [e]
    exact own_keep g2 (fun k' X hk' => by rw [heap_setCell_other _ _ _ _ (fun e => by rw [show k' = w.heap.size from e, hrow] at hk'; simp at hk')]; exact hk')
  · have hb : Below w.heap.size w w6 := (h3.trans ((below_one wr _).mono h3.size)).trans ⟨g3.os, g3.tape, g3.output, g3.size, fun k' hk' => g3.block k' (by omega) (fun e => by have := (h2.lt k' e.symm).1; omega)⟩
    exact hb.setCell (by show w.heap.size ≤ w.heap.size; exact Nat.le_refl _) _
def padM (m : List UInt8) : List UInt8 := m ++ List.replicate (256 - m.length) 0
theorem padM_len {m : List UInt8} (hm : m.length ≤ 256) : (padM m).length = 256 := by unfold padM; simp; omega
theorem padM_in {m : List UInt8} {k : Nat} (hk : k < m.length) (hp : k < (padM m).length) : (padM m)[k] = m[k] := by
  simp only [padM]; rw [List.getElem_append_left hk]
theorem padM_out {m : List UInt8} {k : Nat} (hk : ¬ k < m.length) (hp : k < (padM m).length) : (padM m)[k] = 0 := by
  simp only [padM]; rw [List.getElem_append_right (by omega)]; simp
set_option maxRecDepth 100000 in
set_option maxHeartbeats 2000000 in
theorem rnew_ok (w : World) (m : List UInt8) (hm : m.length ≤ 256) :
    Calls Tryd.prog 17 #[.string ⟨m.toArray⟩] w fun e w' => e = .returned (.pointer (some ⟨w.heap.size, 0, none⟩)) ∧ (∃ gm cm, Rr w' w.heap.size w.heap.size 0 0 z9 (padM m) [] gm cm (.slice none 0 0)) ∧ Below w.heap.size w w' := by
  have hmI : (m.length : Int) ≤ 256 := by omega
  have HN0 : Hid (NewI w (w.alloc (.cells #[i64 0, i64 0, u16 0, u16 0, u16 0, u16 0, u16 0, u16 0, u16 0, u16 0, u16 0, .slice none 0 0, .slice none 0 0] 44)) (padM m) 0 (.slice none 0 0)) := ⟨heap_at rfl _, World.ownsRow_nil _ _ _ _, below_one w _⟩
  have HPL := hid (padM_len hm)
  go_enter Tryd.func17, Tryd.ntmps17
  go_wp2_with fail
  go_loopw [4, 5] (fun i u wr => ∃ (k : Nat) (vm : Value), k ≤ 256 ∧ i = i64 k ∧ NewI w wr (padM m) k vm) (fun i _ _ => 256 - (intOf i).toNat)
  case atStart => exact ⟨0, _, by omega, rfl, HN0.out⟩
  case round =>
    obtain ⟨k, vm, hk, rfl, hn⟩ := hrel
    have HN := hid hn
    by_cases hlt : k < 256
    · have hkI : (k : Int) < 256 := by omega
      have hkp : k < (padM m).length := by rw [HPL.out]; exact hlt
      obtain ⟨ko, kc, rfl, _⟩ := own_slice hn.2.1
      have hc : wr.cell? ⟨w.heap.size, 11, none⟩ = some (.slice ko k kc) := by rw [cell_of_row _ _ _ _ 44 (0, 0) hn.1]; rfl
      have hR : w.heap.size < wr.heap.size := blt hn.1
      by_cases hin : k < m.length
      · have hinI : (k : Int) < m.length := by omega
        obtain ⟨ao, cap, w6, hr, h1, h2, h3⟩ := new_next hn hkp HPL.out _ (padM_in hin hkp)
        have HR := hid hr
        have HN6 := hid h3
        clear hn hr h3
        go_wp2_with (at_builtin; refine wpList_run_app rfl (.tmp 23) (.tmp 25) 41 rfl _ _ rfl rfl 41 rfl _ _ HR.out ?_)
        exact ⟨⟨k + 1, _, by omega, by go_num, HN6.out⟩, by simp [intOf]; omega⟩
      · have hinI : ¬ (k : Int) < m.length := by omega
        obtain ⟨ao, cap, w6, hr, h1, h2, h3⟩ := new_next hn hkp HPL.out _ (padM_out hin hkp)
        have HR := hid hr
        have HN6 := hid h3
        clear hn hr h3
        go_wp2_with (at_builtin; refine wpList_run_app rfl (.tmp 23) (.tmp 25) 41 rfl _ _ rfl rfl 41 rfl _ _ HR.out ?_)
        exact ⟨⟨k + 1, _, by omega, by go_num, HN6.out⟩, by simp [intOf]; omega⟩
    · obtain rfl : k = 256 := by omega
      have hfull : (padM m).take 256 = padM m := List.take_of_length_le (by rw [HPL.out]; omega)
      obtain ⟨h1, h2, h3⟩ := hn
      rw [hfull] at h2
      obtain ⟨gm, cm, hvm⟩ : ∃ gm cm, vm = .slice (some ⟨gm, 0, none⟩) 256 cm := by
        rcases h2.2 with ⟨_, h0⟩ | ⟨g, cap, cur, rfl, _⟩
        · omega
        · exact ⟨g, cap, rfl⟩
      subst hvm
      have HRR : Hid (Rr wr w.heap.size w.heap.size 0 0 z9 (padM m) [] gm cm (.slice none 0 0)) := ⟨Nat.le_refl _, Rg.zero, HPL.out, h1, h2, World.ownsRow_nil _ _ _ _⟩
      have HB := hid h3
      clear h1 h2 h3 HN
      go_wp2_with fail
      go_ret
      exact ⟨rfl, ⟨_, _, HRR.out⟩, HB.out⟩
theorem own_mono {w : World} {base base' : Nat} {e : TypeId} {size : Nat} {v : Value} {n : Nat} {xs : List Value} (h : w.ownsRow base e size v n xs) (hb : base' ≤ base) : w.ownsRow base' e size v n xs := by
  refine ⟨h.1, ?_⟩
  rcases h.2 with h0 | ⟨g, cap, cur, h1, h2, rest⟩
  · exact Or.inl h0
  · exact Or.inr ⟨g, cap, cur, h1, by omega, rest⟩
theorem asl_at {w V : World} {va : Value} {A : List Int} (h : ASl w w.heap.size w.heap.size va A) (hb : Below w.heap.size w V) {B : Nat} (hB : w.heap.size ≤ B) : ASl V B B va A := by
  obtain ⟨ao, cap, e1, e2, e3, e4⟩ := h.ex
  refine ⟨ao, cap, e1, e2, e3, ?_⟩
  rcases e4 with e4 | ⟨b, off, h1, h2, h3, h4⟩
  · exact Or.inl e4
  · exact Or.inr ⟨b, off, h1, by omega, by omega, fun j x hx => (hb.cell (p := ⟨b, off + j, none⟩) h2).trans (h4 j x hx)⟩
theorem results_ref {W : World} {t : Array Value} {a : Addr} {u : Value} (h2 : t.getD 2 undef = .pointer (some a)) (g : (loadVar 39 a).run Tryd.prog W = .ok u W) : (results Tryd.f11 t).run Tryd.prog W = .ok u W := by
  have hr : Tryd.f11.results = #[.cell 2 39] := Tryd.results11
  simp only [results, hr]
  simp [asAddr, h2, g, -Array.getD_eq_getD_getElem?]
set_option maxRecDepth 100000 in
theorem ref_ok (w : World) (l m : List UInt8) (ao : Option Addr) (n cap : Nat) : Calls Tryd.prog 11 #[jobV l m ao n cap] w fun e w' => e = .returned (jobV l m ao n cap) ∧ Below w.heap.size w w' := by
  unfold jobV
  go_enter Tryd.func11, Tryd.ntmps11
  have HL : Hid ((loadVar 39 ⟨w.heap.size + 1, 0, none⟩).run Tryd.prog ((w.alloc (.cells #[.string ⟨l.toArray⟩, .string ⟨m.toArray⟩, .slice ao n cap] 24)).alloc (.cells #[.string ⟨l.toArray⟩, .string ⟨m.toArray⟩, .slice ao n cap] 39)) = .ok (.agg #[.string ⟨l.toArray⟩, .string ⟨m.toArray⟩, .slice ao n cap]) ((w.alloc (.cells #[.string ⟨l.toArray⟩, .string ⟨m.toArray⟩, .slice ao n cap] 24)).alloc (.cells #[.string ⟨l.toArray⟩, .string ⟨m.toArray⟩, .slice ao n cap] 39))) := by
    refine run_loadVar_mid _ _ 0 39 [.string ⟨l.toArray⟩, .string ⟨m.toArray⟩, .slice ao n cap] _ (fun j v hv => ?_) Tryd.underlying39 rfl (by kernel_rfl)
    rw [Nat.zero_add, cell_of_row _ _ _ _ 39 (0, 0) (heap_at (by simp) _)]
    simpa using hv
  go_wp2_with fail
  exact bodyPost_ret (results_ref rfl HL.out) rfl ⟨rfl, (below_one w _).trans ((below_one _ _).mono (by simp))⟩
structure OfI (w wr : World) (R : Nat) (l m : List UInt8) (A : List Int) (fuel hN j : Nat) (s : Rn) : Prop where
  le : j ≤ fuel
  it : itP l j (s0P m A) = (hN, j, s)
  kl : s.K.length ≤ j
  an : s.A = A.drop s.K.length
  rr : ∃ gm cm vk, Rr wr R R hN j s.C s.M s.K gm cm vk
  be : Below R w wr
set_option maxRecDepth 100000 in
set_option maxHeartbeats 2000000 in
theorem rof_ok (w : World) (l m : List UInt8) (ao : Option Addr) (cap : Nat) (A : List Int) (fuel : Nat) (hl : l.length ≤ 256) (hm : m.length ≤ 256) (hf : fuel ≤ 5000) (ha : ASl w w.heap.size w.heap.size (.slice ao A.length cap) A) :
    Calls Tryd.prog 10 #[jobV l m ao A.length cap, i64 fuel] w fun e w' => e = .returned (.pointer (some ⟨w.heap.size + 1, 0, none⟩)) ∧ (∃ gm cm vk, Rr w' w.heap.size (w.heap.size + 1) (hwP (itP l fuel (s0P m A)).1) (itP l fuel (s0P m A)).2.1 (itP l fuel (s0P m A)).2.2.C (itP l fuel (s0P m A)).2.2.M (itP l fuel (s0P m A)).2.2.K gm cm vk) ∧ Below w.heap.size w w' := by
  have HA := hid ha
  have hlI : (l.length : Int) ≤ 256 := by omega
  have hfI : (fuel : Int) ≤ 5000 := by omega
  unfold jobV
  clear ha
  go_enter Tryd.func10, Tryd.ntmps10
  go_upto_region 2 with (go_at_call 17; refine (rnew_ok _ m hm).mono ?_; rintro e w2 ⟨rfl, ⟨gm, cm, h1⟩, h2⟩; have HR0 := hid h1; have HB0 := hid h2; clear h1 h2)
  have hw1 : (w.alloc (.cells #[.string ⟨l.toArray⟩, .string ⟨m.toArray⟩, .slice ao A.length cap] 39)).heap.size = w.heap.size + 1 := by simp
  have HJ : Hid ((w.alloc (.cells #[.string ⟨l.toArray⟩, .string ⟨m.toArray⟩, .slice ao A.length cap] 39)).heap[w.heap.size]? = some (.cells #[.string ⟨l.toArray⟩, .string ⟨m.toArray⟩, .slice ao A.length cap] 39 (0, 0))) := heap_at rfl _
  have HW1 := hid (below_one w (.cells #[.string ⟨l.toArray⟩, .string ⟨m.toArray⟩, .slice ao A.length cap] 39))
  rw [hw1] at HR0 HB0
  generalize w.alloc (.cells #[.string ⟨l.toArray⟩, .string ⟨m.toArray⟩, .slice ao A.length cap] 39) = w1 at *
  generalize hb0 : w.heap.size = b0 at *
  have HI0 : Hid (OfI w1 w2 (b0 + 1) l m A fuel 0 0 (s0P m A)) := ⟨by omega, rfl, by simp [s0P], rfl, ⟨_, _, _, HR0.out⟩, HB0.out⟩
  clear HR0 HB0
  go_loopw [] (fun wr => ∃ (hN j : Nat) (s : Rn), OfI w1 wr (b0 + 1) l m A fuel hN j s) (fun wr => fuel - (intOf ((wr.cell? ⟨b0 + 1, 1, none⟩).getD undef)).toNat)
  case atStart => exact ⟨0, 0, _, HI0.out⟩
  case round =>
    obtain ⟨hN, j, s, hI⟩ := hrel
    obtain ⟨gm, cm, vk, hr⟩ := hI.rr
    have HI := hid hI
    have HR := hid hr
    have hjb : wr.heap[b0]? = _ := (hI.be.block b0 (by omega)).trans HJ.out
    have j0 : wr.cell? ⟨b0, 0, none⟩ = some (.string ⟨l.toArray⟩) := cell_of_row _ _ _ _ 39 (0, 0) hjb
    have j2 : wr.cell? ⟨b0, 2, none⟩ = some (.slice ao A.length cap) := cell_of_row _ _ _ _ 39 (0, 0) hjb
    have c0 := hr.cells.c0
    have c1 := hr.cells.c1
    have fz := hr.cells.fz
    have hjf := hI.le
    have HAV : Hid (∀ V, Below (b0 + 1) wr V → ASl V (b0 + 1) (b0 + 1) (.slice ao A.length cap) A) := fun V hV => asl_at (w := w) (by rw [hb0]; exact HA.out) (by rw [hb0]; exact (HW1.out.trans (HI.out.be.mono (by omega))).trans (hV.mono (by omega))) (by omega)
    clear hr hjb
    by_cases hgo : hN = 0 ∧ j < fuel
    · obtain ⟨rfl, hjlt⟩ := hgo
      have hjI : (j : Int) < fuel := by omega
      have HC := hid (rst_ok wr (b0 + 1) (b0 + 1) j s gm cm vk HR.out l hl (by omega) (by have := hI.kl; omega) ao cap A HAV.out hI.an)
      clear hI fz
      go_wp2_with (go_at_call 18; refine HC.out.mono ?_; rintro e w3 ⟨rfl, ⟨vk', h1⟩, h2⟩; have HR3 := hid h1; have HB3 := hid h2; clear h1 h2)
      have hm3 : w3.cell? ⟨b0 + 1, 1, none⟩ = some (i64 ((j + 1 : Nat) : Int)) := HR3.out.cells.c1
      exact ⟨⟨_, j + 1, _, by omega, itP_next HI.out.it, Nat.le_trans (stepP_K l s) (Nat.succ_le_succ HI.out.kl), (step_ans HI.out.an).1, ⟨_, _, _, HR3.out⟩, HI.out.be.trans HB3.out⟩, by rw [hm3, c1]; simp [intOf]; omega⟩
    · have hfin : itP l fuel (s0P m A) = (hN, j, s) := by
        by_cases h0 : hN = 0
        · have : j = fuel := by omega
          rw [← this]; exact hI.it
        · have := itP_stay l (s0P m A) (n := j) (by rw [hI.it]; exact h0) (fuel - j)
          rw [show j + (fuel - j) = fuel by omega] at this
          rw [this]; exact hI.it
      have HFI := hid hfin
      have HBE : Hid (Below b0 w wr) := HW1.out.trans (hI.be.mono (by omega))
      have HLO : Hid (Rr wr b0 (b0 + 1) hN j s.C s.M s.K gm cm vk) := ⟨by omega, HR.out.rg, HR.out.mem, HR.out.row, own_mono HR.out.mo (by omega), own_mono HR.out.ko (by omega)⟩
      clear hI hfin
      by_cases h0 : hN = 0
      · subst h0
        have hjj : j = fuel := by omega
        subst hjj
        go_wp2_with fail
        go_ret
        rw [HFI.out]
        exact ⟨rfl, ⟨_, _, _, HLO.out.how 4⟩, HBE.out.setCell (by show b0 ≤ b0 + 1; omega) _⟩
      · have h0I : ¬ (hN : Int) = 0 := by omega
        have hhw : hwP hN = hN := by unfold hwP; rw [if_neg h0]
        go_wp2_with fail
        go_ret
        rw [HFI.out, hb0]
        exact ⟨rfl, ⟨_, _, _, by show Rr _ _ _ (hwP hN) _ _ _ _ _ _ _; rw [hhw]; exact HLO.out⟩, HBE.out⟩
end Go.Proofs.YtigbfdloodfdgaaDoor
