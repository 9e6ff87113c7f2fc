/- imagolaw15.ref: its contract; no statement is proved in this text. -/
import Derived.Test.YtihbbgcpdgnhoaaGreatDoorGrow
import Derived.Test.YtihbbgcpdgnhoaaGreatDoorCnt
namespace Go.Proofs.YtihbbgcpdgnhoaaGreatDoor
open Go.ChangeShapes Go.WideShapes Go.ChangeAt Go.RowKit Go.Deep
attribute [local go_sem ↓] Go.wp_at_zero Go.wp_at_succ

theorem heap_at3 (w : World) (o : Obj) (k : Nat) (hk : k = w.heap.size) : (w.alloc o).heap[k]? = some o := by subst hk; exact heap_last w o
theorem load37 {W : World} {b : Nat} {k n : Int} {nv kv : Value} (h : W.heap[b]? = some (.cells #[i64 k, i64 n, nv, kv] 35)) : (loadVar 35 ⟨b, 0, none⟩).run Tryz.prog W = .ok (tyV k n nv kv) W := by
  refine run_loadVar_mid _ _ 0 35 [i64 k, i64 n, nv, kv] _ (fun j v hv => ?_) Tryz.underlying35 rfl (by kernel_rfl)
  rw [Nat.zero_add, cell_of_row _ _ _ _ 35 (0, 0) h]
  simpa using hv
theorem results_one {W : World} {t : Array Value} {a : Addr} {u : Value} {F : Func} {n : Nat} {ty : TypeId} (hr : F.results = #[.cell n ty]) (h6 : t.getD n undef = .pointer (some a)) (g : (loadVar ty a).run Tryz.prog W = .ok u W) :
    (results F t).run Tryz.prog W = .ok u W := by
  simp only [results, hr]
  simp [asAddr, h6, g, -Array.getD_eq_getD_getElem?]
/-- Where what ref makes may stand. -/
def Avf (lo hi R O b : Nat) : Prop := (b < lo ∨ hi ≤ b) ∧ b ≠ R ∧ b ≠ O
structure RfI (w wr : World) (lo R O : Nat) (k n : Int) (nv kv : Value) (Ks : List Kd) : Prop where
  r : wr.heap[R]? = some (.cells #[i64 0, i64 0, .slice none 0 0, .slice none 0 0] 35)
  o : wr.heap[O]? = some (.cells #[i64 k, i64 n, nv, kv] 35)
  ok : KidsR wr w.heap.size 35 (Avf lo w.heap.size R O) kv Ks
  s1 : kv.ownBlock ≠ some R
  s2 : kv.ownBlock ≠ some O
  b : Below w.heap.size w wr
theorem RfI.below {w wr wr' : World} {lo R O : Nat} {k n : Int} {nv kv : Value} {Ks : List Kd} (h : RfI w wr lo R O k n nv kv Ks) (hb : Below wr.heap.size wr wr') : RfI w wr' lo R O k n nv kv Ks :=
  ⟨blk_below h.r hb, blk_below h.o hb, h.ok.move hb.size (fun k hk => hb.block k (h.ok.own.lt k hk).2) (fun b hb' hlt _ => ⟨hb', hb.block b hlt⟩), h.s1, h.s2, h.b.trans (hb.mono h.b.size)⟩
/-- A kid more. -/
theorem rf_push {w X : World} {lo R O : Nat} {k n : Int} {nv kv : Value} {Ks : List Kd} (h : RfI w X lo R O k n nv kv Ks) (hO : w.heap.size ≤ O) (hRO : R ≠ O) (T : Ty) (a1 : Option Addr) (n1 c1 : Nat) (a2 : Option Addr) (n2 c2 : Nat) (hK : Rd X (fun b => Avf lo w.heap.size R O b ∧ some b ≠ kv.ownBlock) T (.slice a1 n1 c1) (.slice a2 n2 c2)) (hl : Ks.length ≤ 1000) (Kb : Nat) (kO : Array Value) (hKb : X.heap[Kb]? = some (.cells kO 25)) :
    ∃ ao cap Y, (Builtin.append_ #[33, 33] 33 #[kv, .slice (some ⟨X.heap.size, 0, none⟩) 1 1]).run Tryz.prog (X.alloc (.cells #[i64 T.kind, i64 T.num, .slice a1 n1 c1, .slice a2 n2 c2] 35)) = .ok (.slice ao (Ks.length + 1) cap) Y ∧ Y.heap[O]? = some (.cells #[i64 k, i64 n, nv, kv] 35) ∧ Y.heap[Kb]? = some (.cells kO 25) ∧
      RfI w (Y.setCell ⟨O, 3, none⟩ (.slice ao (Ks.length + 1) cap)) lo R O k n nv (.slice ao (Ks.length + 1) cap) (Ks ++ [(T, .slice a1 n1 c1, .slice a2 n2 c2)]) := by
  obtain ⟨ao, cap, Y, g1, g2, g3, g4, g5⟩ := push_kid under35 info37 h.ok T a1 n1 c1 a2 n2 c2 hK hl h.b.size
  have eO : Y.heap[O]? = some (.cells #[i64 k, i64 n, nv, kv] 35) := by rw [g4 O (blk_lt h.o) (fun e => h.s2 e.symm)]; exact h.o
  have eR : Y.heap[R]? = some (.cells #[i64 0, i64 0, .slice none 0 0, .slice none 0 0] 35) := by rw [g4 R (blk_lt h.r) (fun e => h.s1 e.symm)]; exact h.r
  have eK : Y.heap[Kb]? = some (.cells kO 25) := g3.kept _ _ hKb (by rfl)
  have n1' : (Value.slice ao (Ks.length + 1) cap).ownBlock ≠ some R := by
    rcases g5 with g5 | g5
    · rw [g5]; exact h.s1
    · rw [g5]; intro e; cases e; have := blk_lt h.r; omega
  have n2' : (Value.slice ao (Ks.length + 1) cap).ownBlock ≠ some O := by
    rcases g5 with g5 | g5
    · rw [g5]; exact h.s2
    · rw [g5]; intro e; cases e; have := blk_lt h.o; omega
  refine ⟨ao, cap, Y, g1, eO, eK, ⟨?_, ?_, ?_, n1', n2', ?_⟩⟩
  · rw [Below.heap_setCell _ _ _ _ (show R ≠ O from hRO)]; exact eR
  · have := heap_setCell_same Y O 3 _ 35 (.slice ao (Ks.length + 1) cap) eO
    simpa using this
  · exact g2.move (by simp [World.setCell]) (fun k hk => Below.heap_setCell _ _ _ _ (fun e => n2' (by rw [hk]; exact congrArg some e))) (fun b hb _ _ => ⟨hb, Below.heap_setCell _ _ _ _ (show b ≠ O from hb.2.2)⟩)
  · exact (h.b.trans g3.below).setCell (p := ⟨O, 3, none⟩) hO _
structure So (O Kb : Nat) (oO oK : Obj) (W : World) : Prop where
  o : W.heap[O]? = some oO
  k : W.heap[Kb]? = some oK
set_option maxRecDepth 100000 in
set_option maxHeartbeats 6400000 in
theorem ref_in (k n : Int) (names : List Bs) (kids : List Ty) (w : World) (lo : Nat) (nv kv : Value) (hlo : lo ≤ w.heap.size) (hR : Rd w (fun b => b < lo) (.mk k n names kids) nv kv) (hcnt : kids.length ≤ 1000)
    (hih : ∀ T ∈ kids, ∀ (w : World) (nv kv : Value), lo ≤ w.heap.size → Rd w (fun b => b < lo) T nv kv → Calls Tryz.prog 18 #[tyV T.kind T.num nv kv] w fun e w' => ∃ a n c, e = .returned (tyV T.kind T.num nv (.slice a n c)) ∧ Below w.heap.size w w' ∧ Rd w' (fun b => b < lo ∨ w.heap.size ≤ b) T nv (.slice a n c)) :
    Calls Tryz.prog 18 #[tyV k n nv kv] w fun e w' => ∃ a m c, e = .returned (tyV k n nv (.slice a m c)) ∧ Below w.heap.size w w' ∧ Rd w' (fun b => b < lo ∨ w.heap.size ≤ b) (.mk k n names kids) nv (.slice a m c) := by
  have HIH := hid hih
  have HRd := hid hR
  obtain ⟨⟨an, cn, rfl, hnl, hz1, hz2⟩, hkl, ak, ck, rfl, hz3⟩ := hR.kid
  clear hz1 hz2 hz3
  unfold maxLen at hnl hkl
  have HX0 : Hid ((w.alloc (.cells #[i64 k, i64 n, .slice an names.length cn, .slice ak kids.length ck] 25)).heap[w.heap.size]? = some (.cells #[i64 k, i64 n, .slice an names.length cn, .slice ak kids.length ck] 25)) := heap_last w _
  have HR0 : Hid (((w.alloc (.cells #[i64 k, i64 n, .slice an names.length cn, .slice ak kids.length ck] 25)).alloc (.cells #[i64 0, i64 0, .slice none 0 0, .slice none 0 0] 35)).heap[w.heap.size + 1]? = some (.cells #[i64 0, i64 0, .slice none 0 0, .slice none 0 0] 35)) := heap_at3 _ _ _ (by simp)
  have HB0 : Hid (Below w.heap.size w ((w.alloc (.cells #[i64 k, i64 n, .slice an names.length cn, .slice ak kids.length ck] 25)).alloc (.cells #[i64 0, i64 0, .slice none 0 0, .slice none 0 0] 35))) := (below_one w _).trans ((below_one _ _).mono (by simp))
  have HX1 : Hid (((w.alloc (.cells #[i64 k, i64 n, .slice an names.length cn, .slice ak kids.length ck] 25)).alloc (.cells #[i64 0, i64 0, .slice none 0 0, .slice none 0 0] 35)).heap[w.heap.size]? = some (.cells #[i64 k, i64 n, .slice an names.length cn, .slice ak kids.length ck] 25)) := blk_alloc HX0.out _
  clear hR hih
  go_enter Tryz.func18, Tryz.ntmps18
  go_upto_region 1 with fail
  obtain ⟨Z, hZ⟩ : ∃ Z, Z = w.heap.size := ⟨_, rfl⟩
  obtain ⟨R, hRe⟩ : ∃ R, R = w.heap.size + 1 := ⟨_, rfl⟩
  rw [← hRe] at HR0
  rw [← hZ] at HX1
  rw [← hRe, ← hZ]
  have HRlo : Hid (w.heap.size ≤ R) := by show _ ≤ _; omega
  clear hZ hRe HX0
  generalize (w.alloc (.cells #[i64 k, i64 n, .slice an names.length cn, .slice ak kids.length ck] 25)).alloc (.cells #[i64 0, i64 0, .slice none 0 0, .slice none 0 0] 35) = V at *
  have yc0 : V.cell? ⟨Z, 0, none⟩ = some (i64 k) := blk_cell HX1.out 0
  have yc1 : V.cell? ⟨Z, 1, none⟩ = some (i64 n) := blk_cell HX1.out 1
  have yc2 : V.cell? ⟨Z, 2, none⟩ = some (.slice an names.length cn) := blk_cell HX1.out 2
  have yc3 : V.cell? ⟨Z, 3, none⟩ = some (.slice ak kids.length ck) := blk_cell HX1.out 3
  have HO0 : Hid ((V.alloc (.cells #[i64 k, i64 n, .slice an names.length cn, .slice none 0 0] 35)).heap[V.heap.size]? = some (.cells #[i64 k, i64 n, .slice an names.length cn, .slice none 0 0] 35)) := heap_last V _
  have HB1 : Hid (Below V.heap.size V (V.alloc (.cells #[i64 k, i64 n, .slice an names.length cn, .slice none 0 0] 35))) := below_one V _
  have HRV := hid (blk_lt HR0.out)
  go_upto_region 2 with fail
  obtain ⟨O, hO⟩ : ∃ O, O = V.heap.size := ⟨_, rfl⟩
  rw [← hO] at HO0 HRV ⊢
  have HOlo : Hid (w.heap.size ≤ O) := by show _ ≤ _; have := HB0.out.size; omega
  have HRO : Hid (R ≠ O) := by show R ≠ O; have := HRV.out; omega
  clear hO
  have HI0 : Hid (RfI w (V.alloc (.cells #[i64 k, i64 n, .slice an names.length cn, .slice none 0 0] 35)) lo R O k n (.slice an names.length cn) (.slice none 0 0) []) := ⟨blk_below HR0.out HB1.out, HO0.out, KidsR.nil _ _ _ _, by simp [Value.ownBlock], by simp [Value.ownBlock], HB0.out.trans (HB1.out.mono HB0.out.size)⟩
  have HX2 := hid (blk_below HX1.out HB1.out)
  clear yc0 yc1 yc2 yc3 HO0 HB1 HR0 HB0 HX1
  generalize V.alloc (.cells #[i64 k, i64 n, .slice an names.length cn, .slice none 0 0] 35) = U at *
  have y3 : U.cell? ⟨Z, 3, none⟩ = some (.slice ak kids.length ck) := blk_cell HX2.out 3
  go_wp2_with fail
  go_loopw [16] (fun u wr => ∃ (i : Nat) (Ks : List Kd) (kv : Value), i ≤ kids.length ∧ u = i64 i ∧ Hid (RfI w wr lo R O k n (.slice an names.length cn) kv Ks) ∧ Hid (Ks.map (·.1) = kids.take i)) (fun u _ => kids.length - (intOf u).toNat)
  case atStart => exact ⟨0, [], _, by omega, rfl, HI0, by show _ = _; simp⟩
  case round =>
    obtain ⟨i, Ks, kvo, hi, rfl, HI, HM⟩ := hrel
    have hKsl : Ks.length = i := by have := congrArg List.length HM.out; rw [List.length_map, List.length_take] at this; omega
    obtain ⟨ka, kc, rfl, _⟩ := own_slice HI.out.ok.own
    rw [hKsl] at HI
    by_cases hlt : i < kids.length
    · clear y3
      obtain ⟨_, _, ak1, ck1, he, hkid⟩ := (HRd.out.under HI.out.b).kid
      cases he
      obtain ⟨b, off, nv2, kv2, rfl, hbS, hblt, hr, hrd⟩ := hkid i hlt
      obtain ⟨T, hT⟩ : ∃ T, T = kids[i] := ⟨_, rfl⟩
      rw [← hT] at hr hrd
      have HTm : Hid (T ∈ kids) := by show _; rw [hT]; exact List.getElem_mem hlt
      have HTe : Hid (T = kids[i]) := hT
      have c0 : wr.cell? ⟨b, off + i * 4, none⟩ = some (i64 T.kind) := hr 0 _ rfl
      have c1 : wr.cell? ⟨b, off + i * 4 + 1, none⟩ = some (i64 T.num) := hr 1 _ rfl
      have c2 : wr.cell? ⟨b, off + i * 4 + 2, none⟩ = some nv2 := hr 2 _ rfl
      have c3 : wr.cell? ⟨b, off + i * 4 + 3, none⟩ = some kv2 := hr 3 _ rfl
      obtain ⟨an2, cn2, rfl, ak2, ck2, rfl⟩ := hrd.form
      have HX2 : Hid ((wr.alloc (.cells #[i64 T.kind, i64 T.num, .slice an2 T.names.length cn2, .slice ak2 T.kids.length ck2] 25)).heap[wr.heap.size]? = some (.cells #[i64 T.kind, i64 T.num, .slice an2 T.names.length cn2, .slice ak2 T.kids.length ck2] 25)) := heap_last wr _
      have HBX : Hid (Below wr.heap.size wr (wr.alloc (.cells #[i64 T.kind, i64 T.num, .slice an2 T.names.length cn2, .slice ak2 T.kids.length ck2] 25))) := below_one wr _
      have HRT : Hid (Rd (wr.alloc (.cells #[i64 T.kind, i64 T.num, .slice an2 T.names.length cn2, .slice ak2 T.kids.length ck2] 25)) _ T (.slice an2 T.names.length cn2) (.slice ak2 T.kids.length ck2)) := hrd.under HBX.out
      clear hT hr hrd hkid hbS
      go_upto_region 5 with fail
      obtain ⟨Y, hY⟩ : ∃ Y, Y = wr.heap.size := ⟨_, rfl⟩
      rw [← hY] at HX2 ⊢
      generalize wr.alloc (.cells #[i64 T.kind, i64 T.num, .slice an2 T.names.length cn2, .slice ak2 T.kids.length ck2] 25) = X at *
      have z0 : X.cell? ⟨Y, 0, none⟩ = some (i64 T.kind) := blk_cell HX2.out 0
      have z1 : X.cell? ⟨Y, 1, none⟩ = some (i64 T.num) := blk_cell HX2.out 1
      have z2 : X.cell? ⟨Y, 2, none⟩ = some (.slice an2 T.names.length cn2) := blk_cell HX2.out 2
      have z3 : X.cell? ⟨Y, 3, none⟩ = some (.slice ak2 T.kids.length ck2) := blk_cell HX2.out 3
      have hYX : Y < X.heap.size := blk_lt HX2.out
      have HY := hid hY
      clear c0 c1 c2 c3 hY
      have HIX := hid (HI.out.below HBX.out)
      have HLX : Hid (lo ≤ X.heap.size) := by show _ ≤ _; have := HIX.out.b.size; omega
      have HSX : Hid (So O Y (.cells #[i64 k, i64 n, .slice an names.length cn, .slice ka i kc] 35) (.cells #[i64 T.kind, i64 T.num, .slice an2 T.names.length cn2, .slice ak2 T.kids.length ck2] 25) X.drew) := ⟨HIX.out.o, HX2.out⟩
      have HID : Hid (RfI w X.drew lo R O k n (.slice an names.length cn) (.slice ka i kc) Ks) := HIX.out.below ⟨rfl, rfl, rfl, Nat.le_refl _, fun _ _ => rfl⟩
      have HCA := hid (HIH.out T HTm.out X.drew _ _ HLX.out (HRT.out.under ⟨rfl, rfl, rfl, Nat.le_refl _, fun _ _ => rfl⟩))
      have HTT : Hid (kids.take (i + 1) = kids.take i ++ [T]) := by show _ = _; rw [List.take_succ_eq_append_getElem hlt, ← HTe.out]
      have HKl := hid hKsl
      clear hKsl HI HIX
      refine wp_region_noPanic ?_
      refine wp_region_last (So O Y (.cells #[i64 k, i64 n, .slice an names.length cn, .slice ka i kc] 35) (.cells #[i64 T.kind, i64 T.num, .slice an2 T.names.length cn2, .slice ak2 T.kids.length ck2] 25)) 7 (by kernel_rfl) ?_
      refine wpL_take 0 20 (.pointer (some ⟨O, 3, none⟩)) [] rfl rfl (by kernel_rfl) (by decide) (by kernel_rfl) (by kernel_rfl) (by kernel_rfl) (fun _ _ _ h => h) HSX.out (by rfl) (fun W hW => by go_simp) ?_
      simp only [Act.put, List.setIfInBounds_toArray, List.set_cons_zero, List.set_cons_succ]
      refine wpL_take 1 21 (.slice ka i kc) [] rfl rfl (by kernel_rfl) (by decide) (by kernel_rfl) (by kernel_rfl) (by kernel_rfl) (fun _ _ _ h => h) HSX.out (by rfl) (fun W hW => by have d0 : W.cell? ⟨O, 3, none⟩ = some (.slice ka i kc) := blk_cell hW.o 3; go_simp) ?_
      simp only [Act.put, List.setIfInBounds_toArray, List.set_cons_zero, List.set_cons_succ]
      refine wpL_take 2 22 (.agg #[i64 T.kind, i64 T.num, .slice an2 T.names.length cn2, .slice ak2 T.kids.length ck2]) [] rfl rfl (by kernel_rfl) (by decide) (by kernel_rfl) (by kernel_rfl) (by kernel_rfl) (fun _ _ _ h => h) HSX.out (by rfl) (fun W hW => by have d0 : W.cell? ⟨Y, 0, none⟩ = some (i64 T.kind) := blk_cell hW.k 0; have d1 : W.cell? ⟨Y, 1, none⟩ = some (i64 T.num) := blk_cell hW.k 1; have d2 : W.cell? ⟨Y, 2, none⟩ = some (.slice an2 T.names.length cn2) := blk_cell hW.k 2; have d3 : W.cell? ⟨Y, 3, none⟩ = some (.slice ak2 T.kids.length ck2) := blk_cell hW.k 3; go_simp) ?_
      simp only [Act.put, List.setIfInBounds_toArray, List.set_cons_zero, List.set_cons_succ]
      refine wpL_one 3 rfl (by kernel_rfl) (by rfl) (fun K hK => ?_)
      go_simp
      refine HCA.out.mono ?_
      rintro e w4 ⟨a9, n9, c9, rfl, hb4, hr4⟩
      have HI4 : Hid (RfI w w4 lo R O k n (.slice an names.length cn) (.slice ka i kc) Ks) := HID.out.below hb4
      have HS4 : Hid (So O Y (.cells #[i64 k, i64 n, .slice an names.length cn, .slice ka i kc] 35) (.cells #[i64 T.kind, i64 T.num, .slice an2 T.names.length cn2, .slice ak2 T.kids.length ck2] 25) w4) := ⟨HI4.out.o, blk_below HSX.out.k hb4⟩
      have HR4 : Hid (Rd w4 (fun b => Avf lo w.heap.size R O b ∧ some b ≠ (Value.slice ka i kc).ownBlock) T (.slice an2 T.names.length cn2) (.slice a9 n9 c9)) := by
        show Rd _ _ _ _ _
        refine hr4.mono (fun b hb _ => ?_)
        have t1 := blk_lt HID.out.r
        have t2 := blk_lt HID.out.o
        have t3 := HRlo.out
        have t4 := HOlo.out
        have t5 := HID.out.b.size
        have t6 : ∀ k, (Value.slice ka i kc).ownBlock = some k → w.heap.size ≤ k ∧ k < X.drew.heap.size := fun k hk => HID.out.ok.own.lt k hk
        rcases hb with hb | hb
        · exact ⟨⟨Or.inl hb, by omega, by omega⟩, fun e => by have := (t6 b e.symm).1; omega⟩
        · exact ⟨⟨Or.inr (by omega), by omega, by omega⟩, fun e => by have := (t6 b e.symm).2; omega⟩
      clear hb4 hr4
      go_simp
      refine hK.out _ _ (fun _ => HS4.out) ?_
      clear hK K
      obtain ⟨ao9, cap9, Y9, hrun, hO9, hK9, hI9⟩ := rf_push HI4.out HOlo.out HRO.out T _ _ _ _ _ _ HR4.out (by rw [HKl.out]; omega) Y _ HS4.out.k
      rw [HKl.out] at hrun hI9
      have HRUN := hid hrun
      have HI9 := hid hI9
      have HSA : Hid (So O Y (.cells #[i64 k, i64 n, .slice an names.length cn, .slice ka i kc] 35) (.cells #[i64 T.kind, i64 T.num, .slice an2 T.names.length cn2, .slice ak2 T.kids.length ck2] 25) (w4.alloc (.cells #[i64 T.kind, i64 T.num, .slice an2 T.names.length cn2, .slice a9 n9 c9] 35))) := ⟨blk_alloc HS4.out.o _, blk_alloc HS4.out.k _⟩
      have HS9 : Hid (So O Y (.cells #[i64 k, i64 n, .slice an names.length cn, .slice ka i kc] 35) (.cells #[i64 T.kind, i64 T.num, .slice an2 T.names.length cn2, .slice ak2 T.kids.length ck2] 25) Y9) := ⟨hO9, hK9⟩
      have oc3 : Y9.cell? ⟨O, 3, none⟩ = some (.slice ka i kc) := blk_cell hO9 3
      have of3 : Y9.frozen? ⟨O, 3, none⟩ = false := blk_frozen hO9 3
      clear hrun hI9 hO9 hK9
      refine wpL_one 4 rfl (by kernel_rfl) (by rfl) (fun K hK => ?_)
      go_simp
      refine hK.out _ _ (fun _ => HSA.out) ?_
      clear hK K
      refine wpL_one 5 rfl (by kernel_rfl) (by rfl) (fun K hK => ?_)
      refine wp_app_run (.tmp 21) (.tmp 24) 33 rfl _ _ (by rfl) (by rfl) _ rfl _ _ HRUN.out ?_
      refine hK.out _ _ (fun _ => HS9.out) ?_
      clear hK K
      simp only [Act.put, List.setIfInBounds_toArray]
      refine wpL_take 6 26 (.pointer (some ⟨O, 3, none⟩)) [] rfl rfl (by kernel_rfl) (by decide) (by kernel_rfl) (by kernel_rfl) (by kernel_rfl) (fun _ _ _ h => h) HS9.out (by rfl) (fun W hW => by go_simp) ?_
      simp only [Act.put]
      refine wpL_one 7 rfl (by kernel_rfl) (by rfl) (fun K hK => ?_)
      go_simp
      refine hK.out _ _ (fun h => absurd rfl h) ?_
      clear hK K
      refine wpL_done (by kernel_rfl) ?_
      refine NoPanic.normal ?_
      have HM2 : Hid ((Ks ++ [((T, Value.slice an2 T.names.length cn2, Value.slice a9 n9 c9) : Kd)]).map (·.1) = kids.take (i + 1)) := by show _ = _; rw [List.map_append, HM.out, HTT.out]; rfl
      go_wp2_with fail
      exact ⟨⟨i + 1, _, _, by omega, by go_num, HI9, HM2⟩, by simp [intOf]; omega⟩
    · have he : i = kids.length := by omega
      have HKs : Hid (Ks.map (·.1) = kids) := by
        show _ = _
        have := HM.out
        rw [he, List.take_of_length_le (Nat.le_refl _)] at this
        exact this
      have HRw := hid HI.out.r
      have HOw := hid HI.out.o
      clear y3 he
      have rc0 : wr.cell? ⟨R, 0, none⟩ = some (i64 0) := blk_cell HRw.out 0
      have rf0 : wr.frozen? ⟨R, 0, none⟩ = false := blk_frozen HRw.out 0
      have rc1 : wr.cell? ⟨R, 1, none⟩ = some (i64 0) := blk_cell HRw.out 1
      have rf1 : wr.frozen? ⟨R, 1, none⟩ = false := blk_frozen HRw.out 1
      have rc2 : wr.cell? ⟨R, 2, none⟩ = some (.slice none 0 0) := blk_cell HRw.out 2
      have rf2 : wr.frozen? ⟨R, 2, none⟩ = false := blk_frozen HRw.out 2
      have rc3 : wr.cell? ⟨R, 3, none⟩ = some (.slice none 0 0) := blk_cell HRw.out 3
      have rf3 : wr.frozen? ⟨R, 3, none⟩ = false := blk_frozen HRw.out 3
      have oc0 : wr.cell? ⟨O, 0, none⟩ = some (i64 k) := blk_cell HOw.out 0
      have oc1 : wr.cell? ⟨O, 1, none⟩ = some (i64 n) := blk_cell HOw.out 1
      have oc2 : wr.cell? ⟨O, 2, none⟩ = some (.slice an names.length cn) := blk_cell HOw.out 2
      have oc3 : wr.cell? ⟨O, 3, none⟩ = some (.slice ka i kc) := blk_cell HOw.out 3
      go_wp2_with fail
      refine bodyPost_ret (v := tyV k n (.slice an names.length cn) (.slice ka i kc)) (results_one Tryz.results18 rfl (load37 (set4 HRw.out _ _ _ _))) rfl ?_
      refine ⟨ka, i, kc, rfl, (((HI.out.b.setCell (p := ⟨R, 0, none⟩) HRlo.out _).setCell (p := ⟨R, 1, none⟩) HRlo.out _).setCell (p := ⟨R, 2, none⟩) HRlo.out _).setCell (p := ⟨R, 3, none⟩) HRlo.out _, ?_⟩
      have hst : Strs wr (fun b => (b < lo ∨ w.heap.size ≤ b) ∧ b ≠ R) (.slice an names.length cn) names := (HRd.out.under HI.out.b).kid.1.mono (fun b hb _ => ⟨Or.inl hb, by have := HRlo.out; omega⟩)
      have hrd : Rd wr (fun b => (b < lo ∨ w.heap.size ≤ b) ∧ b ≠ R) (.mk k n names (Ks.map (·.1))) (.slice an names.length cn) (.slice ka i kc) := HI.out.ok.rd hst (fun b hb _ => ⟨hb.1, hb.2.1⟩) (fun b hb => ⟨Or.inr (HI.out.ok.own.lt b hb).1, fun e => HI.out.s1 (by rw [hb, e])⟩)
      rw [HKs.out] at hrd
      refine hrd.move (by simp [World.setCell]) (fun b hb _ => ⟨hb.1, ?_⟩)
      rw [Below.heap_setCell _ _ _ _ (show b ≠ R from hb.2), Below.heap_setCell _ _ _ _ (show b ≠ R from hb.2), Below.heap_setCell _ _ _ _ (show b ≠ R from hb.2), Below.heap_setCell _ _ _ _ (show b ≠ R from hb.2)]
theorem ref_ok : ∀ (M : Nat) (T : Ty), T.count ≤ M → T.count ≤ 1000 → ∀ (lo : Nat) (w : World) (nv kv : Value), lo ≤ w.heap.size → Rd w (fun b => b < lo) T nv kv → Calls Tryz.prog 18 #[tyV T.kind T.num nv kv] w fun e w' => ∃ a n c, e = .returned (tyV T.kind T.num nv (.slice a n c)) ∧ Below w.heap.size w w' ∧ Rd w' (fun b => b < lo ∨ w.heap.size ≤ b) T nv (.slice a n c)
  | 0, T, hM, _, _, _, _, _, _, _ => by have := count_pos T; omega
  | M + 1, .mk k n names kids, hM, hC, lo, w, nv, kv, hlo, hR => by
    simp only [Ty.count] at hM hC
    have hkl : ∀ l : List Ty, l.length ≤ countL l := fun l => by
      induction l with
      | nil => simp
      | cons t r ih => have := count_pos t; simp only [List.length_cons, countL]; omega
    exact ref_in k n names kids w lo nv kv hlo hR (by have := hkl kids; omega) (fun T hT w nv kv hlo hR => ref_ok M T (by have := countL_mem hT; omega) (by have := countL_mem hT; omega) lo w nv kv hlo hR)
end Go.Proofs.YtihbbgcpdgnhoaaGreatDoor
