/- No statement here. -/
import Derived.Test.YtnknhencobhjdaaMPr
set_option maxRecDepth 100000
namespace Go.Proofs.Ytnknhencobhjdaa
open Go.ChangeShapes Go.WideShapes Go.ChangeAt Go.RowKit Go.Deep
open Go.Proofs.Ytnknhencobhjdaa.Cp (pq hid bl1 hO)
open Go.Proofs.Ytnknhencobhjdaa.Qt (wpList_app_run)
attribute [local go_sem ↓] Go.wp_at_zero Go.wp_at_succ
theorem under37 : Try.prog.underlying 37 = some (.slice 43) := by kernel_rfl
theorem hC_app (a b : List Hn) : hC (a ++ b) = hC a ++ hC b := by unfold hC; rw [List.flatMap_append]
structure Gf (base p : Nat) (hb eb : Option Nat) (w w' : World) : Prop where
  below : Below base w w'
  kept : ∀ (k : Nat) (o : Obj), w.heap[k]? = some o → k ≠ p → some k ≠ hb → some k ≠ eb → w'.heap[k]? = some o
structure SqG1 (X p : Nat) (a c : Int) (v : Value) (W : World) : Prop where
  x : W.heap[X]? = some (hO a c)
  p2 : W.cell? ⟨p, 2, none⟩ = some v
theorem pk_set2 {V : World} {d : Nat} {a b c e : Value} (h : V.heap[d]? = some (.cells #[a, b, c, e] 40)) (u : Value) : (V.setCell ⟨d, 2, none⟩ u).heap[d]? = some (.cells #[a, b, u, e] 40) := by
  have := heap_setCell_same V d 2 _ 40 u h
  simpa using this
theorem pk_set3 {V : World} {d : Nat} {a b c e : Value} (h : V.heap[d]? = some (.cells #[a, b, c, e] 40)) (u : Value) : (V.setCell ⟨d, 3, none⟩ u).heap[d]? = some (.cells #[a, b, c, u] 40) := by
  have := heap_setCell_same V d 3 _ 40 u h
  simpa using this
set_option maxHeartbeats 3200000 in
theorem given_ok {w : World} {base p b d : Nat} {hb eb : Option Nat} {H : List Hn} {E : List Int} (h : Pk w base p b d hb eb H E) (hl : H.length ≤ 1000) (hel : E.length = H.length) (a c env : Int) :
    Calls Try.prog 35 #[pq p, .agg #[i64 a, i64 c], i64 env] w fun e w' => e = .returned (.tuple #[]) ∧ ∃ hb' eb', PbOk w hb hb' ∧ PbOk w eb eb' ∧ Pk w' base p b d hb' eb' (H ++ [(a, c)]) (E ++ [env]) ∧ Gf base p hb eb w w' := by
  have hlo := h.lo'
  have hplo := h.lo
  have hpl := h.lt
  obtain ⟨V, hV⟩ : ∃ V, V = w.alloc (hO a c) := ⟨_, rfl⟩
  have HV : Hid (w.alloc (.cells #[i64 a, i64 c] 43) = V) := hV.symm
  have hbV : Below w.heap.size w V := by rw [hV]; exact bl1 w _
  have HX : Hid (V.drew.heap[w.heap.size]? = some (hO a c)) := by rw [hV]; exact hid (hlx w _)
  obtain ⟨cH, cE, hP, hH, hE⟩ := (h.below hbV).blk
  have hsV : w.heap.size < V.heap.size := blk_lt HX.out
  obtain ⟨hb2, cap2, w2, hrun, hown2, hfr2, hfar2, hbb2⟩ := app_at (te := 43) under37 info43x rfl (by omega) (by omega) (V := V.drew) (Qt.own_keep hH (fun _ _ h => h)) [i64 a, i64 c] rfl (Cp.two_one a c) (by omega) (Nat.le_trans hlo hbV.size)
  rw [own_sla_b] at hfar2 hbb2
  have hhw : ∀ g, hb = some g → g < w.heap.size := fun g hg => by
    obtain ⟨cH', cE', _, hH', _⟩ := h.blk
    have := (hH'.lt g (by rw [own_sla_b]; exact hg)).2
    exact this
  have hew : ∀ g, eb = some g → g < w.heap.size := fun g hg => by
    obtain ⟨cH', cE', _, _, hE'⟩ := h.blk
    have := (hE'.lt g (by rw [own_sla_b]; exact hg)).2
    exact this
  have HP : Hid (V.drew.heap[p]? = some (.cells #[pq b, pq d, .slice (sla hb) H.length cH, .slice (sla eb) E.length cE] 40)) := hP
  have HX2 : Hid (w2.heap[w.heap.size]? = some (hO a c)) := (hfar2 _ hsV (fun e => by have := hhw _ e.symm; omega)).trans HX.out
  have HP2 : Hid (w2.heap[p]? = some (.cells #[pq b, pq d, .slice (sla hb) H.length cH, .slice (sla eb) E.length cE] 40)) := hfr2.kept _ _ HP.out rfl
  have HE2 : Hid (w2.ownsRow base 3 1 (.slice (sla eb) E.length cE) E.length (icells E)) := Qt.own_keep hE (fun k A hA => hfr2.kept k _ hA rfl)
  have HO2 : Hid (w2.ownsRow base 43 2 (.slice (sla hb2) (H.length + 1) cap2) (H.length + 1) (hC (H ++ [(a, c)]))) := by rw [hC_app]; exact hown2
  have HRUN := hid hrun
  have HBE2 : Hid (Below base w w2) := (hbV.mono hlo).trans ⟨hfr2.below.os, hfr2.below.tape, hfr2.below.output, hfr2.below.size, hfr2.below.block⟩
  have HFAR2 : Hid (∀ (k : Nat) (o : Obj), w.heap[k]? = some o → some k ≠ hb → w2.heap[k]? = some o) := fun k o hk hne => (hfar2 k (by have := blk_lt hk; have := hbV.size; show k < V.heap.size; omega) hne).trans (bkb hk hbV.drew)
  have HPB2 : Hid (PbOk w hb hb2) := by
    rcases hbb2 with h | h
    · exact Or.inl h
    · exact Or.inr ⟨_, h, by show w.heap.size ≤ V.heap.size + 1; omega⟩
  have HEL := hid hel
  have hEl : E.length ≤ 1000 := by omega
  obtain ⟨n, hn⟩ : ∃ n, n = H.length := ⟨_, rfl⟩
  obtain ⟨ne, hne⟩ : ∃ ne, ne = E.length := ⟨_, rfl⟩
  obtain ⟨ah, hah⟩ : ∃ ah, ah = sla hb := ⟨_, rfl⟩
  obtain ⟨ah2, hah2⟩ : ∃ ah2, ah2 = sla hb2 := ⟨_, rfl⟩
  have HN := hid hn
  have HAH2 := hid hah2
  rw [← hn, ← hah, ← hne] at HP HP2
  rw [← hn, ← hah, ← hah2] at HRUN
  have HS : Hid (SqG1 w.heap.size p a c (.slice ah n cH) V.drew) := ⟨HX.out, bkc HP.out 2⟩
  clear hV hbV hP hH hE hrun hown2 hfr2 hfar2 hbb2 h hn hah hah2 hhw hel hl
  go_enter Try.func35, Try.ntmps35
  go_upto_region 1 with fail
  rw [HV.out]
  refine wp_region_noPanic ?_
  refine wrl (SqG1 w.heap.size p a c (.slice ah n cH)) 10 (by kernel_rfl) ?_
  refine wk 0 6 (.pointer (some ⟨p, 0, none⟩)) rfl HS.out (fun W hW => by have x0 := bkc hW.x 0; have x1 := bkc hW.x 1; have p2 := hW.p2; go_simp) ?_
  refine wk 1 7 (.pointer (some ⟨p, 0, none⟩)) rfl HS.out (fun W hW => by have x0 := bkc hW.x 0; have x1 := bkc hW.x 1; have p2 := hW.p2; go_simp) ?_
  refine wk 2 8 (.pointer (some ⟨p, 0, none⟩)) rfl HS.out (fun W hW => by have x0 := bkc hW.x 0; have x1 := bkc hW.x 1; have p2 := hW.p2; go_simp) ?_
  refine wk 3 9 (.pointer (some ⟨p, 2, none⟩)) rfl HS.out (fun W hW => by have x0 := bkc hW.x 0; have x1 := bkc hW.x 1; have p2 := hW.p2; go_simp) ?_
  refine wk 4 10 (.slice ah n cH) rfl HS.out (fun W hW => by have x0 := bkc hW.x 0; have x1 := bkc hW.x 1; have p2 := hW.p2; go_simp) ?_
  refine wk 5 11 (.agg #[i64 a, i64 c]) rfl HS.out (fun W hW => by have x0 := bkc hW.x 0; have x1 := bkc hW.x 1; have p2 := hW.p2; go_simp) ?_
  simp only [Act.put, sA, sZ, sS]
  refine wo 6 rfl (fun K hK => ?_)
  go_simp
  refine hK.out _ _ (fun _ => ⟨bka (w := V.drew) HX.out _, bkc (bka (w := V.drew) HP.out _) 2⟩) ?_
  clear hK K
  refine wo 7 rfl (fun K hK => ?_)
  refine Cp.wp_app_run (.tmp 10) (.tmp 12) 37 rfl _ _ rfl rfl 37 rfl _ _ HRUN.out ?_
  refine hK.out _ _ (fun _ => ⟨HX2.out, bkc HP2.out 2⟩) ?_
  clear hK K
  refine wo 8 rfl (fun K hK => ?_)
  go_simp
  refine hK.out _ _ (fun _ => ⟨HX2.out, bkc HP2.out 2⟩) ?_
  clear hK K
  refine wo 9 rfl (fun K hK => ?_)
  go_simp
  refine hK.out _ _ (fun _ => ⟨HX2.out, bkc HP2.out 2⟩) ?_
  clear hK K
  refine wo 10 rfl (fun K hK => ?_)
  have r2 : w2.cell? ⟨p, 2, none⟩ = some (.slice ah n cH) := bkc HP2.out 2
  have rf : w2.frozen? ⟨p, 2, none⟩ = false := bkf HP2.out 2
  go_simp
  refine hK.out _ _ (fun h => absurd rfl h) ?_
  clear hK K r2 rf
  refine wdd ?_
  refine NoPanic.normal ?_
  have HP3 : Hid ((w2.setCell ⟨p, 2, none⟩ (.slice ah2 (n + 1) cap2)).heap[p]? = some (.cells #[pq b, pq d, .slice ah2 (n + 1) cap2, .slice (sla eb) ne cE] 40)) := pk_set2 HP2.out _
  have HKp3 : Hid (∀ (i : Nat) (A : Array Value) (ty : TypeId), w2.heap[i]? = some (.cells A ty) → ty ≠ 40 → (w2.setCell ⟨p, 2, none⟩ (.slice ah2 (n + 1) cap2)).heap[i]? = some (.cells A ty)) := fun i A ty hA hne => by
    rw [Below.heap_setCell _ _ _ _ (fun e => by have e' : i = p := e; rw [e', HP2.out] at hA; simp at hA; exact hne hA.2.symm)]
    exact hA
  have HE3 : Hid ((w2.setCell ⟨p, 2, none⟩ (.slice ah2 (n + 1) cap2)).ownsRow base 3 1 (.slice (sla eb) E.length cE) E.length (icells E)) := Qt.own_keep HE2.out (fun i A hA => HKp3.out i A _ hA (by decide))
  have HO3 : Hid ((w2.setCell ⟨p, 2, none⟩ (.slice ah2 (n + 1) cap2)).ownsRow base 43 2 (.slice (sla hb2) (H.length + 1) cap2) (H.length + 1) (hC (H ++ [(a, c)]))) := Qt.own_keep HO2.out (fun i A hA => HKp3.out i A _ hA (by decide))
  have HB3 : Hid (Below base w (w2.setCell ⟨p, 2, none⟩ (.slice ah2 (n + 1) cap2))) := HBE2.out.setCell hplo _
  have HF3 : Hid (∀ (k : Nat) (o : Obj), w.heap[k]? = some o → k ≠ p → some k ≠ hb → (w2.setCell ⟨p, 2, none⟩ (.slice ah2 (n + 1) cap2)).heap[k]? = some o) := fun k o hk hkp hkh => by
    rw [Below.heap_setCell _ _ _ _ hkp]
    exact HFAR2.out k o hk hkh
  clear HKp3 HE2 HO2 HBE2 HFAR2 HX2 HP2 HS HRUN HX HP
  generalize w2.setCell ⟨p, 2, none⟩ (.slice ah2 (n + 1) cap2) = U at *
  have hlo3 : base ≤ U.heap.size := Nat.le_trans hlo HB3.out.size
  obtain ⟨eb2, cap8, w8, hrun8, hown8, hfr8, hfar8, hpb8⟩ := app_at (te := 3) under38 info3 rfl (by omega) (by omega) HE3.out [i64 env] rfl (by intro u hu; simp at hu; subst hu; rfl) (by omega) hlo3
  rw [own_sla_b] at hfar8 hpb8
  have HRUN8 := hid hrun8
  have HO8 := hid hown8
  have HFAR8 := hid hfar8
  have hUw := HB3.out.size
  have HPB8 : Hid (PbOk w eb eb2) := by
    rcases hpb8 with h | h
    · exact Or.inl h
    · exact Or.inr ⟨_, h, by omega⟩
  have HP8 := hid (hfr8.kept _ _ HP3.out rfl)
  have HO38 : Hid (w8.ownsRow base 43 2 (.slice (sla hb2) (H.length + 1) cap2) (H.length + 1) (hC (H ++ [(a, c)]))) := Qt.own_keep HO3.out (fun k A hA => hfr8.kept k _ hA rfl)
  have HB8 : Hid (Below base w w8) := HB3.out.trans hfr8.below
  have p3 : U.cell? ⟨p, 3, none⟩ = some (.slice (sla eb) ne cE) := bkc HP3.out 3
  have k83 : w8.cell? ⟨p, 3, none⟩ = some (.slice (sla eb) ne cE) := bkc HP8.out 3
  have k8f : w8.frozen? ⟨p, 3, none⟩ = false := bkf HP8.out 3
  obtain ⟨vp, hvp⟩ : ∃ vp, vp = Value.slice (sla eb) ne cE := ⟨_, rfl⟩
  obtain ⟨pa8, hpa8⟩ : ∃ pa8, pa8 = sla eb2 := ⟨_, rfl⟩
  have HPA8 := hid hpa8
  have HNE := hid hne
  rw [← hvp] at p3 k83
  rw [← hne, ← hvp, ← hpa8] at HRUN8
  clear hrun8 hown8 hfr8 hfar8 hpb8 hvp hpa8 hne
  go_wp2_with (at_builtin; refine wpList_app_run rfl (.tmp 20) (.tmp 22) 38 rfl _ _ rfl rfl 38 rfl _ _ HRUN8.out ?_)
  go_end0
  have HP9 := pk_set3 HP8.out (.slice pa8 (ne + 1) cap8)
  have hkp9 : ∀ (i : Nat) (A : Array Value) (ty : TypeId), w8.heap[i]? = some (.cells A ty) → ty ≠ 40 → (w8.setCell ⟨p, 3, none⟩ (.slice pa8 (ne + 1) cap8)).heap[i]? = some (.cells A ty) := fun i A ty hA hne => by
    rw [Below.heap_setCell _ _ _ _ (fun e => by have e' : i = p := e; rw [e', HP8.out] at hA; simp at hA; exact hne hA.2.symm)]
    exact hA
  have e1 : (E ++ [env]).length = E.length + 1 := by simp
  have e2 : (H ++ [(a, c)]).length = H.length + 1 := by simp
  refine ⟨rfl, hb2, eb2, HPB2.out, HPB8.out, ⟨hplo, cap2, cap8, ?_, ?_, ?_⟩, ⟨HB8.out.setCell hplo _, fun k o hk hkp hkh hke => ?_⟩⟩
  · rw [e1, e2, ← HN.out, ← HAH2.out, ← HPA8.out, ← HNE.out]; exact HP9
  · rw [e2]; exact Qt.own_keep HO38.out (fun i A hA => hkp9 i A _ hA (by decide))
  · rw [e1, icells_app]; exact Qt.own_keep HO8.out (fun i A hA => hkp9 i A _ hA (by decide))
  · rw [Below.heap_setCell _ _ _ _ hkp]
    have h3 := HF3.out k o hk hkp hkh
    rw [HFAR8.out k (blk_lt h3) hke]
    exact h3
structure Px where
  b : Nat
  x : Bx
  d : Nat
  y : Dx
  hb : Option Nat
  eb : Option Nat
structure Pp (w : World) (base p : Nat) (z : Px) (t : Qt.T) (s : Qt.St) (T : List Cp.Pl) (L : Ls) (R : Nat → List Hn) (C : List Cp.Rw) (Rs : List Rt) (P : List Int) (H : List Hn) (E : List Int) : Prop where
  bd : Bd w base z.b z.x t s T L R
  dd : Dd w base z.d z.y t s C Rs P
  iv : Inv t s T L R C Rs P
  pk : Pk w base p z.b z.d z.hb z.eb H E
  he : E.length = H.length
  ah : ∀ k, k < 3 → z.hb ≠ some (z.x.g k)
  ae : ∀ g, z.eb = some g → z.y.pb ≠ some g
structure Pf (base : Nat) (w w' : World) : Prop where
  below : Below base w w'
  kept : ∀ (k : Nat) (A : Array Value) (ty : TypeId), (ty = 33 ∨ ty = 22) → w.heap[k]? = some (.cells A ty) → w'.heap[k]? = some (.cells A ty)
section
variable {w w' w'' : World} {base p : Nat} {z : Px} {t : Qt.T} {s s' : Qt.St} {T T' : List Cp.Pl} {L L' : Ls} {R R' : Nat → List Hn} {C C' : List Cp.Rw} {Rs Rs' : List Rt} {P P' : List Int} {H : List Hn} {E : List Int}
theorem Pf.refl (base : Nat) (w : World) : Pf base w w := ⟨Below.refl _ _, fun _ _ _ _ h => h⟩
theorem Pf.trans (h : Pf base w w') (k : Pf base w' w'') : Pf base w w'' := ⟨h.below.trans k.below, fun i A ty ht hA => k.kept i A ty ht (h.kept i A ty ht hA)⟩
theorem Pf.of_below (hb : Below w.heap.size w w') (h : base ≤ w.heap.size) : Pf base w w' := ⟨hb.mono h, fun _ _ _ _ hA => bkb hA hb⟩
theorem Bd.kt {b : Nat} {x : Bx} (h : Bd w base b x t s T L R) (hf : Bf base x w w') {k : Nat} {A : Array Value} {ty : TypeId} (hA : w.heap[k]? = some (.cells A ty)) (h1 : ty ≠ 118) (h2 : ty ≠ 141) (h3 : ty ≠ 123) (h4 : ty ≠ 43 ∨ ∀ i, i < 3 → k ≠ x.g i) : w'.heap[k]? = some (.cells A ty) := by
  have hne : ∀ i, i < 3 → k ≠ x.g i := fun i hi e => by
    rcases h4 with h4 | h4
    · rw [e, (h.rt i hi).1] at hA
      simp at hA
      exact h4 hA.2.symm
    · exact h4 i hi e
  refine hf.kept k _ hA ?_
  simp only [ownB]
  have a0 := hne 0 (by omega); have a1 := hne 1 (by omega); have a2 := hne 2 (by omega)
  simp [h1, h2, h3, a0, a1, a2]
theorem Dd.kt {d : Nat} {y : Dx} (h : Dd w base d y t s C Rs P) (hf : Df base y.pb w w') {k : Nat} {A : Array Value} {ty : TypeId} (hA : w.heap[k]? = some (.cells A ty)) (h1 : ty ≠ 99) (h2 : ty ≠ 96) (h3 : ty ≠ 126) (h4 : ty ≠ 128) (h5 : ty ≠ 101) (h6 : ty ≠ 79) (h7 : ty ≠ 3 ∨ y.pb ≠ some k) : w'.heap[k]? = some (.cells A ty) := by
  have hne : y.pb ≠ some k := by
    rcases h7 with h7 | h7
    · intro e
      obtain ⟨ao, cap, pc, _, _, hp, _⟩ := h.row
      obtain ⟨b3, _, he, _, hbb, hb⟩ := own_sla hp
      rw [own_sla_b] at hbb
      obtain ⟨_, _, A', hA'⟩ := hb k (by rw [← hbb]; exact e)
      rw [hA] at hA'
      simp at hA'
      exact h7 hA'.2
    · exact h7
  refine hf.kept k _ hA ?_
  simp only [ownD]
  simp [h1, h2, h3, h4, h5, h6, hne]
theorem Dd.bf {b d : Nat} {x : Bx} {y : Dx} {s1 : Qt.St} (hd : Dd w base d y t s1 C Rs P) (h : Bd w base b x t s T L R) (hf : Bf base x w w') : Dd w' base d y t s1 C Rs P := hd.same fun k o hk ho => by
  cases o with
  | cells A ty fr =>
    have hfr : fr = (0, 0) ∨ True := Or.inr trivial
    simp only [isD, Bool.or_eq_true, beq_iff_eq] at ho
    refine hf.kept k _ hk ?_
    have hne : ∀ i, i < 3 → k ≠ x.g i := fun i hi e => by
      rw [e, (h.rt i hi).1] at hk
      simp at hk
      obtain ⟨_, h2, _⟩ := hk
      subst h2
      simp at ho
    have a0 := hne 0 (by omega); have a1 := hne 1 (by omega); have a2 := hne 2 (by omega)
    simp only [ownB]
    have b1 : ty ≠ 118 := by rintro rfl; simp at ho
    have b2 : ty ≠ 141 := by rintro rfl; simp at ho
    have b3 : ty ≠ 123 := by rintro rfl; simp at ho
    simp [b1, b2, b3, a0, a1, a2]
  | _ => simp [isD] at ho
theorem Bd.df {b d : Nat} {x : Bx} {y : Dx} {s1 : Qt.St} (h : Bd w base b x t s T L R) (hd : Dd w base d y t s1 C Rs P) (hf : Df base y.pb w w') : Bd w' base b x t s T L R := by
  have kt : ∀ {k : Nat} {A : Array Value} {ty : TypeId}, w.heap[k]? = some (.cells A ty) → (ty = 71 ∨ ty = 118 ∨ ty = 141 ∨ ty = 123 ∨ ty = 43) → w'.heap[k]? = some (.cells A ty) := fun hA hty => hd.kt hf hA (by rcases hty with rfl | rfl | rfl | rfl | rfl <;> decide) (by rcases hty with rfl | rfl | rfl | rfl | rfl <;> decide) (by rcases hty with rfl | rfl | rfl | rfl | rfl <;> decide) (by rcases hty with rfl | rfl | rfl | rfl | rfl <;> decide) (by rcases hty with rfl | rfl | rfl | rfl | rfl <;> decide) (by rcases hty with rfl | rfl | rfl | rfl | rfl <;> decide) (Or.inl (by rcases hty with rfl | rfl | rfl | rfl | rfl <;> decide))
  refine ⟨kt h.row (by simp), h.lo, h.bk.same (fun k o hk ho => ?_), ⟨h.tb.lo, h.tb.len, kt h.tb.row (by simp)⟩, ?_, h.mlo, fun k hk => ⟨kt (h.rt k hk).1 (by simp), (h.rt k hk).2⟩, h.ap, h.len⟩
  · obtain ⟨A, rfl | rfl⟩ := ho
    · exact kt hk (by simp)
    · exact kt hk (by simp)
  · obtain ⟨es, clock, hb, g⟩ := h.mp
    exact ⟨es, clock, hf.kept _ _ hb rfl, g⟩
theorem Bd.pf {b : Nat} {x : Bx} (h : Bd w base b x t s T L R) (hf : Bf base x w w') : Pf base w w' := ⟨hf.below, fun k A ty hty hA => h.kt hf hA (by rcases hty with rfl | rfl <;> decide) (by rcases hty with rfl | rfl <;> decide) (by rcases hty with rfl | rfl <;> decide) (Or.inl (by rcases hty with rfl | rfl <;> decide))⟩
theorem Dd.pf {d : Nat} {y : Dx} (h : Dd w base d y t s C Rs P) (hf : Df base y.pb w w') : Pf base w w' := ⟨hf.below, fun k A ty hty hA => h.kt hf hA (by rcases hty with rfl | rfl <;> decide) (by rcases hty with rfl | rfl <;> decide) (by rcases hty with rfl | rfl <;> decide) (by rcases hty with rfl | rfl <;> decide) (by rcases hty with rfl | rfl <;> decide) (by rcases hty with rfl | rfl <;> decide) (Or.inl (by rcases hty with rfl | rfl <;> decide))⟩
theorem Pk.bf {b d p : Nat} {x : Bx} {hb eb : Option Nat} (hp : Pk w base p b d hb eb H E) (h : Bd w base b x t s T L R) (ah : ∀ k, k < 3 → hb ≠ some (x.g k)) (hf : Bf base x w w') : Pk w' base p b d hb eb H E :=
  hp.same (fun A hA => h.kt hf hA (by decide) (by decide) (by decide) (Or.inl (by decide))) (fun g A hg hA => h.kt hf hA (by decide) (by decide) (by decide) (Or.inr fun i hi e => ah i hi (by rw [hg, e]))) (fun g A _ hA => h.kt hf hA (by decide) (by decide) (by decide) (Or.inl (by decide)))
theorem Pk.df {b d p : Nat} {y : Dx} {hb eb : Option Nat} (hp : Pk w base p b d hb eb H E) (h : Dd w base d y t s C Rs P) (ae : ∀ g, eb = some g → y.pb ≠ some g) (hf : Df base y.pb w w') : Pk w' base p b d hb eb H E :=
  hp.same (fun A hA => h.kt hf hA (by decide) (by decide) (by decide) (by decide) (by decide) (by decide) (Or.inl (by decide))) (fun g A _ hA => h.kt hf hA (by decide) (by decide) (by decide) (by decide) (by decide) (by decide) (Or.inl (by decide))) (fun g A hg hA => h.kt hf hA (by decide) (by decide) (by decide) (by decide) (by decide) (by decide) (Or.inr (ae g hg)))
theorem Pp.below (h : Pp w base p z t s T L R C Rs P H E) (hb : Below w.heap.size w w') : Pp w' base p z t s T L R C Rs P H E := ⟨h.bd.below hb, h.dd.below hb, h.iv, h.pk.below hb, h.he, h.ah, h.ae⟩
theorem Pp.drew (h : Pp w base p z t s T L R C Rs P H E) : Pp w.drew base p z t s T L R C Rs P H E := ⟨h.bd.drew, h.dd.drew, h.iv, h.pk.same (fun _ h => h) (fun _ _ _ h => h) (fun _ _ _ h => h), h.he, h.ah, h.ae⟩
theorem Pp.lo (h : Pp w base p z t s T L R C Rs P H E) : base ≤ w.heap.size := h.pk.lo'
theorem Pp.eb_lt (h : Pp w base p z t s T L R C Rs P H E) {g : Nat} (hg : z.eb = some g) : g < w.heap.size := by
  obtain ⟨cH', cE', _, _, hE'⟩ := h.pk.blk
  exact (hE'.lt g (by rw [own_sla_b]; exact hg)).2
theorem Pp.hb_lt (h : Pp w base p z t s T L R C Rs P H E) {g : Nat} (hg : z.hb = some g) : g < w.heap.size := by
  obtain ⟨cH', cE', _, hH', _⟩ := h.pk.blk
  exact (hH'.lt g (by rw [own_sla_b]; exact hg)).2
end
end Go.Proofs.Ytnknhencobhjdaa
