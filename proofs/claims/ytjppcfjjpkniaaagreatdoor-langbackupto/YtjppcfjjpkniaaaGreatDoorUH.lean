/- Texts Rf Nd Nr Tk0 RecJ Tk Tk2 Tk3 Tk4 in one; no statement is proved in this text. -/
import Derived.Test.YtjppcfjjpkniaaaGreatDoorUD
import Derived.Test.YtjppcfjjpkniaaaGreatDoorUA
import Derived.Test.YtjppcfjjpkniaaaGreatDoorUC
import Derived.Test.YtjppcfjjpkniaaaGreatDoorUE
namespace Go.Proofs.YtjppcfjjpkniaaaGreatDoor
open Go.ChangeShapes Go.WideShapes Go.ChangeAt Go.RowKit Go.Deep
attribute [local go_sem ↓] Go.wp_at_zero Go.wp_at_succ

theorem heap_at3 (w : World) (o : Obj) (k : Nat) (hk : k = w.heap.size) : (w.alloc o).heap[k]? = some o := by subst hk; exact heap_last w o
theorem load37 {W : World} {b : Nat} {k n : Int} {nv kv : Value} (h : W.heap[b]? = some (.cells #[i64 k, i64 n, nv, kv] 64)) : (loadVar 64 ⟨b, 0, none⟩).run Tryz.prog W = .ok (tyV k n nv kv) W := by
  refine run_loadVar_mid _ _ 0 64 [i64 k, i64 n, nv, kv] _ (fun j v hv => ?_) Tryz.underlying64 rfl (by kernel_rfl)
  rw [Nat.zero_add, cell_of_row _ _ _ _ 64 (0, 0) h]
  simpa using hv
theorem results_one {W : World} {t : Array Value} {a : Addr} {u : Value} {F : Func} {n : Nat} {ty : TypeId} (hr : F.results = #[.cell n ty]) (h6 : t.getD n undef = .pointer (some a)) (g : (loadVar ty a).run Tryz.prog W = .ok u W) :
    (results F t).run Tryz.prog W = .ok u W := by
  simp only [results, hr]
  simp [asAddr, h6, g, -Array.getD_eq_getD_getElem?]
/-- Where what ref makes may stand. -/
def Avf (lo hi R O b : Nat) : Prop := (b < lo ∨ hi ≤ b) ∧ b ≠ R ∧ b ≠ O
structure RfI (w wr : World) (lo R O : Nat) (k n : Int) (nv kv : Value) (Ks : List Kd) : Prop where
  r : wr.heap[R]? = some (.cells #[i64 0, i64 0, .slice none 0 0, .slice none 0 0] 64)
  o : wr.heap[O]? = some (.cells #[i64 k, i64 n, nv, kv] 64)
  ok : KidsR wr w.heap.size 64 (Avf lo w.heap.size R O) kv Ks
  s1 : kv.ownBlock ≠ some R
  s2 : kv.ownBlock ≠ some O
  b : Below w.heap.size w wr
theorem RfI.below {w wr wr' : World} {lo R O : Nat} {k n : Int} {nv kv : Value} {Ks : List Kd} (h : RfI w wr lo R O k n nv kv Ks) (hb : Below wr.heap.size wr wr') : RfI w wr' lo R O k n nv kv Ks :=
  ⟨blk_below h.r hb, blk_below h.o hb, h.ok.move hb.size (fun k hk => hb.block k (h.ok.own.lt k hk).2) (fun b hb' hlt _ => ⟨hb', hb.block b hlt⟩), h.s1, h.s2, h.b.trans (hb.mono h.b.size)⟩
/-- A kid more. -/
theorem rf_push {w X : World} {lo R O : Nat} {k n : Int} {nv kv : Value} {Ks : List Kd} (h : RfI w X lo R O k n nv kv Ks) (hO : w.heap.size ≤ O) (hRO : R ≠ O) (T : Ty) (a1 : Option Addr) (n1 c1 : Nat) (a2 : Option Addr) (n2 c2 : Nat) (hK : Rd X (fun b => Avf lo w.heap.size R O b ∧ some b ≠ kv.ownBlock) T (.slice a1 n1 c1) (.slice a2 n2 c2)) (hl : Ks.length ≤ 1000) (Kb : Nat) (kO : Array Value) (hKb : X.heap[Kb]? = some (.cells kO 49)) :
    ∃ ao cap Y, (Builtin.append_ #[62, 62] 62 #[kv, .slice (some ⟨X.heap.size, 0, none⟩) 1 1]).run Tryz.prog (X.alloc (.cells #[i64 T.kind, i64 T.num, .slice a1 n1 c1, .slice a2 n2 c2] 64)) = .ok (.slice ao (Ks.length + 1) cap) Y ∧ Y.heap[O]? = some (.cells #[i64 k, i64 n, nv, kv] 64) ∧ Y.heap[Kb]? = some (.cells kO 49) ∧
      RfI w (Y.setCell ⟨O, 3, none⟩ (.slice ao (Ks.length + 1) cap)) lo R O k n nv (.slice ao (Ks.length + 1) cap) (Ks ++ [(T, .slice a1 n1 c1, .slice a2 n2 c2)]) := by
  obtain ⟨ao, cap, Y, g1, g2, g3, g4, g5⟩ := push_kid under35 info37 h.ok T a1 n1 c1 a2 n2 c2 hK hl h.b.size
  have eO : Y.heap[O]? = some (.cells #[i64 k, i64 n, nv, kv] 64) := by rw [g4 O (blk_lt h.o) (fun e => h.s2 e.symm)]; exact h.o
  have eR : Y.heap[R]? = some (.cells #[i64 0, i64 0, .slice none 0 0, .slice none 0 0] 64) := by rw [g4 R (blk_lt h.r) (fun e => h.s1 e.symm)]; exact h.r
  have eK : Y.heap[Kb]? = some (.cells kO 49) := g3.kept _ _ hKb (by rfl)
  have n1' : (Value.slice ao (Ks.length + 1) cap).ownBlock ≠ some R := by
    rcases g5 with g5 | g5
    · rw [g5]; exact h.s1
    · rw [g5]; intro e; cases e; have := blk_lt h.r; omega
  have n2' : (Value.slice ao (Ks.length + 1) cap).ownBlock ≠ some O := by
    rcases g5 with g5 | g5
    · rw [g5]; exact h.s2
    · rw [g5]; intro e; cases e; have := blk_lt h.o; omega
  refine ⟨ao, cap, Y, g1, eO, eK, ⟨?_, ?_, ?_, n1', n2', ?_⟩⟩
  · rw [Below.heap_setCell _ _ _ _ (show R ≠ O from hRO)]; exact eR
  · have := heap_setCell_same Y O 3 _ 64 (.slice ao (Ks.length + 1) cap) eO
    simpa using this
  · exact g2.move (by simp [World.setCell]) (fun k hk => Below.heap_setCell _ _ _ _ (fun e => n2' (by rw [hk]; exact congrArg some e))) (fun b hb _ _ => ⟨hb, Below.heap_setCell _ _ _ _ (show b ≠ O from hb.2.2)⟩)
  · exact (h.b.trans g3.below).setCell (p := ⟨O, 3, none⟩) hO _
structure So (O Kb : Nat) (oO oK : Obj) (W : World) : Prop where
  o : W.heap[O]? = some oO
  k : W.heap[Kb]? = some oK
set_option maxRecDepth 100000 in
set_option maxHeartbeats 6400000 in
theorem ref_in (k n : Int) (names : List Bs) (kids : List Ty) (w : World) (lo : Nat) (nv kv : Value) (hlo : lo ≤ w.heap.size) (hR : Rd w (fun b => b < lo) (.mk k n names kids) nv kv) (hcnt : kids.length ≤ 1000)
    (hih : ∀ T ∈ kids, ∀ (w : World) (nv kv : Value), lo ≤ w.heap.size → Rd w (fun b => b < lo) T nv kv → Calls Tryz.prog 22 #[tyV T.kind T.num nv kv] w fun e w' => ∃ a n c, e = .returned (tyV T.kind T.num nv (.slice a n c)) ∧ Below w.heap.size w w' ∧ Rd w' (fun b => b < lo ∨ w.heap.size ≤ b) T nv (.slice a n c)) :
    Calls Tryz.prog 22 #[tyV k n nv kv] w fun e w' => ∃ a m c, e = .returned (tyV k n nv (.slice a m c)) ∧ Below w.heap.size w w' ∧ Rd w' (fun b => b < lo ∨ w.heap.size ≤ b) (.mk k n names kids) nv (.slice a m c) := by
  have HIH := hid hih
  have HRd := hid hR
  obtain ⟨⟨an, cn, rfl, hnl, hz1, hz2⟩, hkl, ak, ck, rfl, hz3⟩ := hR.kid
  clear hz1 hz2 hz3
  unfold maxLen at hnl hkl
  have HX0 : Hid ((w.alloc (.cells #[i64 k, i64 n, .slice an names.length cn, .slice ak kids.length ck] 49)).heap[w.heap.size]? = some (.cells #[i64 k, i64 n, .slice an names.length cn, .slice ak kids.length ck] 49)) := heap_last w _
  have HR0 : Hid (((w.alloc (.cells #[i64 k, i64 n, .slice an names.length cn, .slice ak kids.length ck] 49)).alloc (.cells #[i64 0, i64 0, .slice none 0 0, .slice none 0 0] 64)).heap[w.heap.size + 1]? = some (.cells #[i64 0, i64 0, .slice none 0 0, .slice none 0 0] 64)) := heap_at3 _ _ _ (by simp)
  have HB0 : Hid (Below w.heap.size w ((w.alloc (.cells #[i64 k, i64 n, .slice an names.length cn, .slice ak kids.length ck] 49)).alloc (.cells #[i64 0, i64 0, .slice none 0 0, .slice none 0 0] 64))) := (below_one w _).trans ((below_one _ _).mono (by simp))
  have HX1 : Hid (((w.alloc (.cells #[i64 k, i64 n, .slice an names.length cn, .slice ak kids.length ck] 49)).alloc (.cells #[i64 0, i64 0, .slice none 0 0, .slice none 0 0] 64)).heap[w.heap.size]? = some (.cells #[i64 k, i64 n, .slice an names.length cn, .slice ak kids.length ck] 49)) := blk_alloc HX0.out _
  clear hR hih
  go_enter Tryz.func22, Tryz.ntmps22
  go_upto_region 1 with fail
  obtain ⟨Z, hZ⟩ : ∃ Z, Z = w.heap.size := ⟨_, rfl⟩
  obtain ⟨R, hRe⟩ : ∃ R, R = w.heap.size + 1 := ⟨_, rfl⟩
  rw [← hRe] at HR0
  rw [← hZ] at HX1
  rw [← hRe, ← hZ]
  have HRlo : Hid (w.heap.size ≤ R) := by show _ ≤ _; omega
  clear hZ hRe HX0
  generalize (w.alloc (.cells #[i64 k, i64 n, .slice an names.length cn, .slice ak kids.length ck] 49)).alloc (.cells #[i64 0, i64 0, .slice none 0 0, .slice none 0 0] 64) = V at *
  have yc0 : V.cell? ⟨Z, 0, none⟩ = some (i64 k) := blk_cell HX1.out 0
  have yc1 : V.cell? ⟨Z, 1, none⟩ = some (i64 n) := blk_cell HX1.out 1
  have yc2 : V.cell? ⟨Z, 2, none⟩ = some (.slice an names.length cn) := blk_cell HX1.out 2
  have yc3 : V.cell? ⟨Z, 3, none⟩ = some (.slice ak kids.length ck) := blk_cell HX1.out 3
  have HO0 : Hid ((V.alloc (.cells #[i64 k, i64 n, .slice an names.length cn, .slice none 0 0] 64)).heap[V.heap.size]? = some (.cells #[i64 k, i64 n, .slice an names.length cn, .slice none 0 0] 64)) := heap_last V _
  have HB1 : Hid (Below V.heap.size V (V.alloc (.cells #[i64 k, i64 n, .slice an names.length cn, .slice none 0 0] 64))) := below_one V _
  have HRV := hid (blk_lt HR0.out)
  go_upto_region 2 with fail
  obtain ⟨O, hO⟩ : ∃ O, O = V.heap.size := ⟨_, rfl⟩
  rw [← hO] at HO0 HRV ⊢
  have HOlo : Hid (w.heap.size ≤ O) := by show _ ≤ _; have := HB0.out.size; omega
  have HRO : Hid (R ≠ O) := by show R ≠ O; have := HRV.out; omega
  clear hO
  have HI0 : Hid (RfI w (V.alloc (.cells #[i64 k, i64 n, .slice an names.length cn, .slice none 0 0] 64)) lo R O k n (.slice an names.length cn) (.slice none 0 0) []) := ⟨blk_below HR0.out HB1.out, HO0.out, KidsR.nil _ _ _ _, by simp [Value.ownBlock], by simp [Value.ownBlock], HB0.out.trans (HB1.out.mono HB0.out.size)⟩
  have HX2 := hid (blk_below HX1.out HB1.out)
  clear yc0 yc1 yc2 yc3 HO0 HB1 HR0 HB0 HX1
  generalize V.alloc (.cells #[i64 k, i64 n, .slice an names.length cn, .slice none 0 0] 64) = U at *
  have y3 : U.cell? ⟨Z, 3, none⟩ = some (.slice ak kids.length ck) := blk_cell HX2.out 3
  go_wp2_with fail
  go_loopw [16] (fun u wr => ∃ (i : Nat) (Ks : List Kd) (kv : Value), i ≤ kids.length ∧ u = i64 i ∧ Hid (RfI w wr lo R O k n (.slice an names.length cn) kv Ks) ∧ Hid (Ks.map (·.1) = kids.take i)) (fun u _ => kids.length - (intOf u).toNat)
  case atStart => exact ⟨0, [], _, by omega, rfl, HI0, by show _ = _; simp⟩
  case round =>
    obtain ⟨i, Ks, kvo, hi, rfl, HI, HM⟩ := hrel
    have hKsl : Ks.length = i := by have := congrArg List.length HM.out; rw [List.length_map, List.length_take] at this; omega
    obtain ⟨ka, kc, rfl, _⟩ := own_slice HI.out.ok.own
    rw [hKsl] at HI
    by_cases hlt : i < kids.length
    · clear y3
      obtain ⟨_, _, ak1, ck1, he, hkid⟩ := (HRd.out.under HI.out.b).kid
      cases he
      obtain ⟨b, off, nv2, kv2, rfl, hbS, hblt, hr, hrd⟩ := hkid i hlt
      obtain ⟨T, hT⟩ : ∃ T, T = kids[i] := ⟨_, rfl⟩
      rw [← hT] at hr hrd
      have HTm : Hid (T ∈ kids) := by show _; rw [hT]; exact List.getElem_mem hlt
      have HTe : Hid (T = kids[i]) := hT
      have c0 : wr.cell? ⟨b, off + i * 4, none⟩ = some (i64 T.kind) := hr 0 _ rfl
      have c1 : wr.cell? ⟨b, off + i * 4 + 1, none⟩ = some (i64 T.num) := hr 1 _ rfl
      have c2 : wr.cell? ⟨b, off + i * 4 + 2, none⟩ = some nv2 := hr 2 _ rfl
      have c3 : wr.cell? ⟨b, off + i * 4 + 3, none⟩ = some kv2 := hr 3 _ rfl
      obtain ⟨an2, cn2, rfl, ak2, ck2, rfl⟩ := hrd.form
      have HX2 : Hid ((wr.alloc (.cells #[i64 T.kind, i64 T.num, .slice an2 T.names.length cn2, .slice ak2 T.kids.length ck2] 49)).heap[wr.heap.size]? = some (.cells #[i64 T.kind, i64 T.num, .slice an2 T.names.length cn2, .slice ak2 T.kids.length ck2] 49)) := heap_last wr _
      have HBX : Hid (Below wr.heap.size wr (wr.alloc (.cells #[i64 T.kind, i64 T.num, .slice an2 T.names.length cn2, .slice ak2 T.kids.length ck2] 49))) := below_one wr _
      have HRT : Hid (Rd (wr.alloc (.cells #[i64 T.kind, i64 T.num, .slice an2 T.names.length cn2, .slice ak2 T.kids.length ck2] 49)) _ T (.slice an2 T.names.length cn2) (.slice ak2 T.kids.length ck2)) := hrd.under HBX.out
      clear hT hr hrd hkid hbS
      go_upto_region 5 with fail
      obtain ⟨Y, hY⟩ : ∃ Y, Y = wr.heap.size := ⟨_, rfl⟩
      rw [← hY] at HX2 ⊢
      generalize wr.alloc (.cells #[i64 T.kind, i64 T.num, .slice an2 T.names.length cn2, .slice ak2 T.kids.length ck2] 49) = X at *
      have z0 : X.cell? ⟨Y, 0, none⟩ = some (i64 T.kind) := blk_cell HX2.out 0
      have z1 : X.cell? ⟨Y, 1, none⟩ = some (i64 T.num) := blk_cell HX2.out 1
      have z2 : X.cell? ⟨Y, 2, none⟩ = some (.slice an2 T.names.length cn2) := blk_cell HX2.out 2
      have z3 : X.cell? ⟨Y, 3, none⟩ = some (.slice ak2 T.kids.length ck2) := blk_cell HX2.out 3
      have hYX : Y < X.heap.size := blk_lt HX2.out
      have HY := hid hY
      clear c0 c1 c2 c3 hY
      have HIX := hid (HI.out.below HBX.out)
      have HLX : Hid (lo ≤ X.heap.size) := by show _ ≤ _; have := HIX.out.b.size; omega
      have HSX : Hid (So O Y (.cells #[i64 k, i64 n, .slice an names.length cn, .slice ka i kc] 64) (.cells #[i64 T.kind, i64 T.num, .slice an2 T.names.length cn2, .slice ak2 T.kids.length ck2] 49) X.drew) := ⟨HIX.out.o, HX2.out⟩
      have HID : Hid (RfI w X.drew lo R O k n (.slice an names.length cn) (.slice ka i kc) Ks) := HIX.out.below ⟨rfl, rfl, rfl, Nat.le_refl _, fun _ _ => rfl⟩
      have HCA := hid (HIH.out T HTm.out X.drew _ _ HLX.out (HRT.out.under ⟨rfl, rfl, rfl, Nat.le_refl _, fun _ _ => rfl⟩))
      have HTT : Hid (kids.take (i + 1) = kids.take i ++ [T]) := by show _ = _; rw [List.take_succ_eq_append_getElem hlt, ← HTe.out]
      have HKl := hid hKsl
      clear hKsl HI HIX
      refine wp_region_noPanic ?_
      refine wp_region_last (So O Y (.cells #[i64 k, i64 n, .slice an names.length cn, .slice ka i kc] 64) (.cells #[i64 T.kind, i64 T.num, .slice an2 T.names.length cn2, .slice ak2 T.kids.length ck2] 49)) 7 (by kernel_rfl) ?_
      refine wpL_take 0 20 (.pointer (some ⟨O, 3, none⟩)) [] rfl rfl (by kernel_rfl) (by decide) (by kernel_rfl) (by kernel_rfl) (by kernel_rfl) (fun _ _ _ h => h) HSX.out (by rfl) (fun W hW => by go_simp) ?_
      simp only [Act.put, List.setIfInBounds_toArray, List.set_cons_zero, List.set_cons_succ]
      refine wpL_take 1 21 (.slice ka i kc) [] rfl rfl (by kernel_rfl) (by decide) (by kernel_rfl) (by kernel_rfl) (by kernel_rfl) (fun _ _ _ h => h) HSX.out (by rfl) (fun W hW => by have d0 : W.cell? ⟨O, 3, none⟩ = some (.slice ka i kc) := blk_cell hW.o 3; go_simp) ?_
      simp only [Act.put, List.setIfInBounds_toArray, List.set_cons_zero, List.set_cons_succ]
      refine wpL_take 2 22 (.agg #[i64 T.kind, i64 T.num, .slice an2 T.names.length cn2, .slice ak2 T.kids.length ck2]) [] rfl rfl (by kernel_rfl) (by decide) (by kernel_rfl) (by kernel_rfl) (by kernel_rfl) (fun _ _ _ h => h) HSX.out (by rfl) (fun W hW => by have d0 : W.cell? ⟨Y, 0, none⟩ = some (i64 T.kind) := blk_cell hW.k 0; have d1 : W.cell? ⟨Y, 1, none⟩ = some (i64 T.num) := blk_cell hW.k 1; have d2 : W.cell? ⟨Y, 2, none⟩ = some (.slice an2 T.names.length cn2) := blk_cell hW.k 2; have d3 : W.cell? ⟨Y, 3, none⟩ = some (.slice ak2 T.kids.length ck2) := blk_cell hW.k 3; go_simp) ?_
      simp only [Act.put, List.setIfInBounds_toArray, List.set_cons_zero, List.set_cons_succ]
      refine wpL_one 3 rfl (by kernel_rfl) (by rfl) (fun K hK => ?_)
      go_simp
      refine HCA.out.mono ?_
      rintro e w4 ⟨a9, n9, c9, rfl, hb4, hr4⟩
      have HI4 : Hid (RfI w w4 lo R O k n (.slice an names.length cn) (.slice ka i kc) Ks) := HID.out.below hb4
      have HS4 : Hid (So O Y (.cells #[i64 k, i64 n, .slice an names.length cn, .slice ka i kc] 64) (.cells #[i64 T.kind, i64 T.num, .slice an2 T.names.length cn2, .slice ak2 T.kids.length ck2] 49) w4) := ⟨HI4.out.o, blk_below HSX.out.k hb4⟩
      have HR4 : Hid (Rd w4 (fun b => Avf lo w.heap.size R O b ∧ some b ≠ (Value.slice ka i kc).ownBlock) T (.slice an2 T.names.length cn2) (.slice a9 n9 c9)) := by
        show Rd _ _ _ _ _
        refine hr4.mono (fun b hb _ => ?_)
        have t1 := blk_lt HID.out.r
        have t2 := blk_lt HID.out.o
        have t3 := HRlo.out
        have t4 := HOlo.out
        have t5 := HID.out.b.size
        have t6 : ∀ k, (Value.slice ka i kc).ownBlock = some k → w.heap.size ≤ k ∧ k < X.drew.heap.size := fun k hk => HID.out.ok.own.lt k hk
        rcases hb with hb | hb
        · exact ⟨⟨Or.inl hb, by omega, by omega⟩, fun e => by have := (t6 b e.symm).1; omega⟩
        · exact ⟨⟨Or.inr (by omega), by omega, by omega⟩, fun e => by have := (t6 b e.symm).2; omega⟩
      clear hb4 hr4
      go_simp
      refine hK.out _ _ (fun _ => HS4.out) ?_
      clear hK K
      obtain ⟨ao9, cap9, Y9, hrun, hO9, hK9, hI9⟩ := rf_push HI4.out HOlo.out HRO.out T _ _ _ _ _ _ HR4.out (by rw [HKl.out]; omega) Y _ HS4.out.k
      rw [HKl.out] at hrun hI9
      have HRUN := hid hrun
      have HI9 := hid hI9
      have HSA : Hid (So O Y (.cells #[i64 k, i64 n, .slice an names.length cn, .slice ka i kc] 64) (.cells #[i64 T.kind, i64 T.num, .slice an2 T.names.length cn2, .slice ak2 T.kids.length ck2] 49) (w4.alloc (.cells #[i64 T.kind, i64 T.num, .slice an2 T.names.length cn2, .slice a9 n9 c9] 64))) := ⟨blk_alloc HS4.out.o _, blk_alloc HS4.out.k _⟩
      have HS9 : Hid (So O Y (.cells #[i64 k, i64 n, .slice an names.length cn, .slice ka i kc] 64) (.cells #[i64 T.kind, i64 T.num, .slice an2 T.names.length cn2, .slice ak2 T.kids.length ck2] 49) Y9) := ⟨hO9, hK9⟩
      have oc3 : Y9.cell? ⟨O, 3, none⟩ = some (.slice ka i kc) := blk_cell hO9 3
      have of3 : Y9.frozen? ⟨O, 3, none⟩ = false := blk_frozen hO9 3
      clear hrun hI9 hO9 hK9
      refine wpL_one 4 rfl (by kernel_rfl) (by rfl) (fun K hK => ?_)
      go_simp
      refine hK.out _ _ (fun _ => HSA.out) ?_
      clear hK K
      refine wpL_one 5 rfl (by kernel_rfl) (by rfl) (fun K hK => ?_)
      refine wp_app_run (.tmp 21) (.tmp 24) 62 rfl _ _ (by rfl) (by rfl) _ rfl _ _ HRUN.out ?_
      refine hK.out _ _ (fun _ => HS9.out) ?_
      clear hK K
      simp only [Act.put, List.setIfInBounds_toArray]
      refine wpL_take 6 26 (.pointer (some ⟨O, 3, none⟩)) [] rfl rfl (by kernel_rfl) (by decide) (by kernel_rfl) (by kernel_rfl) (by kernel_rfl) (fun _ _ _ h => h) HS9.out (by rfl) (fun W hW => by go_simp) ?_
      simp only [Act.put]
      refine wpL_one 7 rfl (by kernel_rfl) (by rfl) (fun K hK => ?_)
      go_simp
      refine hK.out _ _ (fun h => absurd rfl h) ?_
      clear hK K
      refine wpL_done (by kernel_rfl) ?_
      refine NoPanic.normal ?_
      have HM2 : Hid ((Ks ++ [((T, Value.slice an2 T.names.length cn2, Value.slice a9 n9 c9) : Kd)]).map (·.1) = kids.take (i + 1)) := by show _ = _; rw [List.map_append, HM.out, HTT.out]; rfl
      go_wp2_with fail
      exact ⟨⟨i + 1, _, _, by omega, by go_num, HI9, HM2⟩, by simp [intOf]; omega⟩
    · have he : i = kids.length := by omega
      have HKs : Hid (Ks.map (·.1) = kids) := by
        show _ = _
        have := HM.out
        rw [he, List.take_of_length_le (Nat.le_refl _)] at this
        exact this
      have HRw := hid HI.out.r
      have HOw := hid HI.out.o
      clear y3 he
      have rc0 : wr.cell? ⟨R, 0, none⟩ = some (i64 0) := blk_cell HRw.out 0
      have rf0 : wr.frozen? ⟨R, 0, none⟩ = false := blk_frozen HRw.out 0
      have rc1 : wr.cell? ⟨R, 1, none⟩ = some (i64 0) := blk_cell HRw.out 1
      have rf1 : wr.frozen? ⟨R, 1, none⟩ = false := blk_frozen HRw.out 1
      have rc2 : wr.cell? ⟨R, 2, none⟩ = some (.slice none 0 0) := blk_cell HRw.out 2
      have rf2 : wr.frozen? ⟨R, 2, none⟩ = false := blk_frozen HRw.out 2
      have rc3 : wr.cell? ⟨R, 3, none⟩ = some (.slice none 0 0) := blk_cell HRw.out 3
      have rf3 : wr.frozen? ⟨R, 3, none⟩ = false := blk_frozen HRw.out 3
      have oc0 : wr.cell? ⟨O, 0, none⟩ = some (i64 k) := blk_cell HOw.out 0
      have oc1 : wr.cell? ⟨O, 1, none⟩ = some (i64 n) := blk_cell HOw.out 1
      have oc2 : wr.cell? ⟨O, 2, none⟩ = some (.slice an names.length cn) := blk_cell HOw.out 2
      have oc3 : wr.cell? ⟨O, 3, none⟩ = some (.slice ka i kc) := blk_cell HOw.out 3
      go_wp2_with fail
      refine bodyPost_ret (v := tyV k n (.slice an names.length cn) (.slice ka i kc)) (results_one Tryz.results22 rfl (load37 (set4 HRw.out _ _ _ _))) rfl ?_
      refine ⟨ka, i, kc, rfl, (((HI.out.b.setCell (p := ⟨R, 0, none⟩) HRlo.out _).setCell (p := ⟨R, 1, none⟩) HRlo.out _).setCell (p := ⟨R, 2, none⟩) HRlo.out _).setCell (p := ⟨R, 3, none⟩) HRlo.out _, ?_⟩
      have hst : Strs wr (fun b => (b < lo ∨ w.heap.size ≤ b) ∧ b ≠ R) (.slice an names.length cn) names := (HRd.out.under HI.out.b).kid.1.mono (fun b hb _ => ⟨Or.inl hb, by have := HRlo.out; omega⟩)
      have hrd : Rd wr (fun b => (b < lo ∨ w.heap.size ≤ b) ∧ b ≠ R) (.mk k n names (Ks.map (·.1))) (.slice an names.length cn) (.slice ka i kc) := HI.out.ok.rd hst (fun b hb _ => ⟨hb.1, hb.2.1⟩) (fun b hb => ⟨Or.inr (HI.out.ok.own.lt b hb).1, fun e => HI.out.s1 (by rw [hb, e])⟩)
      rw [HKs.out] at hrd
      refine hrd.move (by simp [World.setCell]) (fun b hb _ => ⟨hb.1, ?_⟩)
      rw [Below.heap_setCell _ _ _ _ (show b ≠ R from hb.2), Below.heap_setCell _ _ _ _ (show b ≠ R from hb.2), Below.heap_setCell _ _ _ _ (show b ≠ R from hb.2), Below.heap_setCell _ _ _ _ (show b ≠ R from hb.2)]
theorem ref_ok : ∀ (M : Nat) (T : Ty), T.count ≤ M → T.count ≤ 1000 → ∀ (lo : Nat) (w : World) (nv kv : Value), lo ≤ w.heap.size → Rd w (fun b => b < lo) T nv kv → Calls Tryz.prog 22 #[tyV T.kind T.num nv kv] w fun e w' => ∃ a n c, e = .returned (tyV T.kind T.num nv (.slice a n c)) ∧ Below w.heap.size w w' ∧ Rd w' (fun b => b < lo ∨ w.heap.size ≤ b) T nv (.slice a n c)
  | 0, T, hM, _, _, _, _, _, _, _ => by have := count_pos T; omega
  | M + 1, .mk k n names kids, hM, hC, lo, w, nv, kv, hlo, hR => by
    simp only [Ty.count] at hM hC
    have hkl : ∀ l : List Ty, l.length ≤ countL l := fun l => by
      induction l with
      | nil => simp
      | cons t r ih => have := count_pos t; simp only [List.length_cons, countL]; omega
    exact ref_in k n names kids w lo nv kv hlo hR (by have := hkl kids; omega) (fun T hT w nv kv hlo hR => ref_ok M T (by have := countL_mem hT; omega) (by have := countL_mem hT; omega) lo w nv kv hlo hR)
end Go.Proofs.YtjppcfjjpkniaaaGreatDoor
namespace Go.Proofs.YtjppcfjjpkniaaaGreatDoor
open Go.ChangeShapes Go.WideShapes Go.ChangeAt Go.RowKit Go.Deep
attribute [local go_sem ↓] Go.wp_at_zero Go.wp_at_succ

def hdB (l : Bs) (c : UInt8) : Bool := match l with | [] => false | b :: _ => decide (b = c)
theorem hdB_cons (b : UInt8) (r : Bs) (c : UInt8) : hdB (b :: r) c = decide (b = c) := rfl
theorem drop_at (s : ByteArray) (k : Nat) (h : k < s.size) : s.data.toList.drop k = s[k] :: s.data.toList.drop (k + 1) := by
  rw [List.drop_eq_getElem_cons (by rw [Array.length_toList]; exact h)]; rfl
theorem drop_end (s : ByteArray) (k : Nat) (h : s.size ≤ k) : s.data.toList.drop k = [] := List.drop_eq_nil_of_le (by rw [Array.length_toList]; exact h)
set_option maxHeartbeats 1600000 in
theorem is_s (s : ByteArray) (k : Nat) (c : UInt8) (w : World) : Calls Tryz.prog 88 #[.string s, i64 k, .int .u8 (c.toNat : Int)] w fun e w' => e = .returned (.bool (hdB (s.data.toList.drop k) c)) ∧ w' = w := by
  obtain ⟨R, hR⟩ : ∃ R, R = hdB (s.data.toList.drop k) c := ⟨_, rfl⟩
  have HR := hid hR
  rw [← hR]
  clear hR
  by_cases hlt : k < s.size
  · have HR2 : Hid (R = decide (s[k] = c)) := by show _ = _; rw [HR.out, drop_at s k hlt]; rfl
    by_cases hc : s[k] = c
    · have q : ((s[k].toNat : Int) == (c.toNat : Int)) = true := by simp [hc]
      have q2 : (s[k].toNat == c.toNat) = true := by simp [hc]
      have HF : Hid (R = true) := by show _ = _; rw [HR2.out]; simpa using hc
      have HC := hid hc
      clear hc
      go_enter Tryz.func88, Tryz.ntmps88
      go_wp2_with fail
      go_ret
      exact ⟨by rw [HF.out]; first | rfl | simp [HC.out], rfl⟩
    · have hne : s[k].toNat ≠ c.toNat := fun e => hc (UInt8.toNat_inj.1 e)
      have q : ((s[k].toNat : Int) == (c.toNat : Int)) = false := by simp; omega
      have q2 : (s[k].toNat == c.toNat) = false := by simpa using hne
      have HF : Hid (R = false) := by show _ = _; rw [HR2.out]; simpa using hc
      have HC := hid hc
      clear hc
      go_enter Tryz.func88, Tryz.ntmps88
      go_wp2_with fail
      go_ret
      exact ⟨by rw [HF.out]; first | rfl | (simp; omega), rfl⟩
  · have HF : Hid (R = false) := by show _ = _; rw [HR.out, drop_end s k (by omega)]; rfl
    go_enter Tryz.func88, Tryz.ntmps88
    go_wp2_with fail
    go_ret
    exact ⟨by rw [HF.out]; rfl, rfl⟩
set_option maxHeartbeats 1600000 in
theorem is_no (s : ByteArray) (c : UInt8) (w : World) : Calls Tryz.prog 88 #[.string s, i64 (-1), .int .u8 (c.toNat : Int)] w fun e w' => e = .returned (.bool false) ∧ w' = w := by
  go_enter Tryz.func88, Tryz.ntmps88
  go_wp2_with fail
  go_ret
  exact ⟨rfl, rfl⟩
theorem set2c {V : World} {b : Nat} {x0 x1 : Value} {t : TypeId} (h : V.heap[b]? = some (.cells #[x0, x1] t)) (a0 a1 : Value) : ((V.setCell ⟨b, 0, none⟩ a0).setCell ⟨b, 1, none⟩ a1).heap[b]? = some (.cells #[a0, a1] t) := by
  have h1 := heap_setCell_same V b 0 _ t a0 h
  have h2 := heap_setCell_same _ b 1 _ t a1 h1
  simpa using h2
theorem load76 {W : World} {b : Nat} {k n : Int} (h : W.heap[b]? = some (.cells #[i64 k, i64 n] 159)) : (loadVar 159 ⟨b, 0, none⟩).run Tryz.prog W = .ok (.agg #[i64 k, i64 n]) W := by
  refine run_loadVar_mid _ _ 0 159 [i64 k, i64 n] _ (fun j v hv => ?_) Tryz.underlying159 rfl (by kernel_rfl)
  rw [Nat.zero_add, cell_of_row _ _ _ _ 159 (0, 0) h]
  simpa using hv
/-- What number answers: the number, and where it ends. -/
def numV (l : Bs) (size : Nat) : Int × Int := match numD l with | some (n, r) => ((n : Int), ((size - r.length : Nat) : Int)) | none => (0, -1)
theorem dw_mem (l : Bs) : (l.takeWhile isDig).length ≤ l.length := by
  have := congrArg List.length (List.takeWhile_append_dropWhile (p := isDig) (l := l)); rw [List.length_append] at this; omega
theorem numV_no {l : Bs} {size : Nat} (h : ¬ (numOk (l.takeWhile isDig) = true ∧ (l.takeWhile isDig).length ≤ 3)) : numV l size = (0, -1) := by unfold numV numD; rw [if_neg h]
theorem numV_yes {l : Bs} {size : Nat} (h1 : numOk (l.takeWhile isDig) = true) (h2 : (l.takeWhile isDig).length ≤ 3) : numV l size = (((valD (l.takeWhile isDig) : Nat) : Int), ((size - (l.length - (l.takeWhile isDig).length) : Nat) : Int)) := by
  unfold numV numD
  rw [if_pos ⟨h1, h2⟩]
  simp only [List.length_drop]
theorem tw_exact (l : Bs) (j : Nat) (hp : ∀ c ∈ l.take j, isDig c = true) (hl : j ≤ l.length) (he : j = l.length ∨ ∃ h : j < l.length, isDig l[j] = false) : l.takeWhile isDig = l.take j := by
  have h1 := tw_len isDig l j hp hl
  have h2 : (l.takeWhile isDig).length ≤ j := by
    rcases he with rfl | ⟨h, hd⟩
    · exact dw_mem l
    · exact tw_stop isDig l j h hd
  rw [tw_pre isDig l j h1, List.take_of_length_le h2]
theorem valD_pos {d : Bs} (hp : ∀ c ∈ d, isDig c = true) (h1 : 1 ≤ d.length) (h2 : d.head? ≠ some 48) : 1 ≤ valD d := by
  rcases List.eq_nil_or_concat d with rfl | ⟨d', c, rfl⟩
  · simp at h1
  · rw [List.concat_eq_append] at hp h1 h2 ⊢
    rw [valD_snoc]
    rcases List.eq_nil_or_concat d' with rfl | ⟨d'', c', rfl⟩
    · have hc := hp c (by simp)
      simp only [isDig, Bool.and_eq_true, decide_eq_true_eq] at hc
      have hne : c.toNat ≠ 48 := fun e => h2 (by have : c = 48 := UInt8.toNat_inj.1 e; rw [this]; rfl)
      simp [valD]; omega
    · rw [List.concat_eq_append] at hp h2 ⊢
      have := valD_pos (d := d'' ++ [c']) (fun x hx => hp x (by simp at hx ⊢; rcases hx with hx | hx <;> simp [hx])) (by simp) (fun e => h2 (by
        cases d'' with
        | nil => simpa using e
        | cons y r => simpa using e))
      omega
termination_by d.length
decreasing_by subst_vars; simp
end Go.Proofs.YtjppcfjjpkniaaaGreatDoor
namespace Go.Proofs.YtjppcfjjpkniaaaGreatDoor
open Go.ChangeShapes Go.WideShapes Go.ChangeAt Go.RowKit Go.Deep
attribute [local go_sem ↓] Go.wp_at_zero Go.wp_at_succ

theorem tw_dig (l : Bs) (j : Nat) (hp : ∀ c ∈ l.take j, isDig c = true) (h : j < l.length) (hd : isDig l[j] = true) : j + 1 ≤ (l.takeWhile isDig).length := by
  refine tw_len isDig l (j + 1) (fun c hc => ?_) (by omega)
  rw [List.take_succ_eq_append_getElem h] at hc
  rcases List.mem_append.1 hc with hc | hc
  · exact hp c hc
  · rw [List.mem_singleton.1 hc]; exact hd
theorem tw_head (l : Bs) (h : 1 ≤ (l.takeWhile isDig).length) : (l.takeWhile isDig).head? = l.head? := by
  cases l with
  | nil => rfl
  | cons b r =>
    rw [List.takeWhile_cons] at h ⊢
    split at h
    · rename_i hb; rw [if_pos hb]; rfl
    · simp at h
theorem num_long {l : Bs} {size j : Nat} (hp : ∀ c ∈ l.take j, isDig c = true) (h : j < l.length) (hd : isDig l[j] = true) (h3 : 3 ≤ j) : numV l size = (0, -1) := by
  refine numV_no (fun e => ?_)
  have := tw_dig l j hp h hd
  omega
theorem num_zero {l : Bs} {size j : Nat} (hp : ∀ c ∈ l.take j, isDig c = true) (h : j < l.length) (hd : isDig l[j] = true) (h1 : 1 ≤ j) (h0 : valD (l.take j) = 0) : numV l size = (0, -1) := by
  refine numV_no (fun e => ?_)
  have h2 := tw_dig l j hp h hd
  have e1 := e.1
  unfold numOk at e1
  rw [tw_head l (by omega), decide_eq_false (show ¬ (l.takeWhile isDig).length = 1 by omega)] at e1
  have hne : l.head? ≠ some 48 := by
    intro e48
    rw [e48] at e1
    simp at e1
  have := valD_pos (d := l.take j) hp (by rw [List.length_take]; omega) (by rw [List.head?_take, if_neg (by omega)]; exact hne)
  omega
theorem num_none {l : Bs} {size : Nat} (he : l = [] ∨ ∃ h : 0 < l.length, isDig l[0] = false) : numV l size = (0, -1) := by
  have : l.takeWhile isDig = [] := by
    have := tw_exact l 0 (by simp) (by omega) (by rcases he with rfl | he; exact Or.inl rfl; exact Or.inr he)
    simpa using this
  refine numV_no (fun e => ?_)
  rw [this] at e
  have := e.1
  simp [numOk] at this
theorem num_some {l : Bs} {size j a : Nat} (hp : ∀ c ∈ l.take j, isDig c = true) (hl : j ≤ l.length) (he : j = l.length ∨ ∃ h : j < l.length, isDig l[j] = false) (h1 : 1 ≤ j) (h3 : j ≤ 3) (h48 : 1 < j → l.head? ≠ some 48) (hs : l.length + a = size) : numV l size = (((valD (l.take j) : Nat) : Int), ((a + j : Nat) : Int)) := by
  have ht := tw_exact l j hp hl he
  have hlen : (l.take j).length = j := by rw [List.length_take]; omega
  have hok : numOk (l.takeWhile isDig) = true := by
    unfold numOk
    rw [tw_head l (by rw [ht, hlen]; exact h1), ht, hlen]
    by_cases e : j = 1
    · simp [e]
    · have := h48 (by omega)
      rw [decide_eq_true (show 1 < j by omega)]
      simp [this]
  rw [numV_yes hok (by rw [ht, hlen]; exact h3), ht, hlen]
  congr 2
  omega
set_option maxRecDepth 100000 in
set_option maxHeartbeats 6400000 in
theorem rnum_s (s : ByteArray) (a0 : Nat) (w : World) (hs : s.size ≤ 30000000) (ha : a0 ≤ s.size) : Calls Tryz.prog 90 #[.string s, i64 a0] w fun e w' => e = .returned (.agg #[i64 (numV (s.data.toList.drop a0) s.size).1, i64 (numV (s.data.toList.drop a0) s.size).2]) ∧ Below w.heap.size w w' := by
  obtain ⟨l, hl⟩ : ∃ l, l = s.data.toList.drop a0 := ⟨_, rfl⟩
  have hlen : l.length = s.size - a0 := by rw [hl, List.length_drop, Array.length_toList]; rfl
  have HG : Hid (∀ (k p : Nat) (h : k < l.length) (h2 : p < s.size), p = a0 + k → l[k] = s[p]) := by
    intro k p h h2 e
    subst e
    subst hl
    rw [List.getElem_drop]; rfl
  rw [← hl]
  obtain ⟨R, hR⟩ : ∃ R, R = numV l s.size := ⟨_, rfl⟩
  have HR := hid hR
  have HL := hid hlen
  rw [← hR]
  have HX : Hid ((w.alloc (.cells #[i64 0, i64 0] 159)).heap[w.heap.size]? = some (.cells #[i64 0, i64 0] 159)) := heap_last w _
  have HBV : Hid (Below w.heap.size w (w.alloc (.cells #[i64 0, i64 0] 159))) := below_one w _
  clear hl hR hlen
  go_enter Tryz.func90, Tryz.ntmps90
  go_upto_region 1 with fail
  obtain ⟨Z, hZ⟩ : ∃ Z, Z = w.heap.size := ⟨_, rfl⟩
  have HZ : Hid (w.heap.size ≤ Z) := by show _ ≤ _; omega
  rw [← hZ] at HX ⊢
  clear hZ
  generalize w.alloc (.cells #[i64 0, i64 0] 159) = V at *
  have yc0 : V.cell? ⟨Z, 0, none⟩ = some (i64 0) := blk_cell HX.out 0
  have yf0 : V.frozen? ⟨Z, 0, none⟩ = false := blk_frozen HX.out 0
  have yc1 : V.cell? ⟨Z, 1, none⟩ = some (i64 0) := blk_cell HX.out 1
  have yf1 : V.frozen? ⟨Z, 1, none⟩ = false := blk_frozen HX.out 1
  go_wp2_with fail
  go_loop [5, 6] (fun a u => ∃ (k p : Nat), k ≤ 3 ∧ p ≤ a0 + k ∧ a0 + k ≤ p ∧ p ≤ s.size ∧ u = i64 p ∧ a = i64 (valD (l.take k) : Nat) ∧ Hid (∀ c ∈ l.take k, isDig c = true) ∧ Hid (1 < k → l.head? ≠ some 48)) (fun _ u => s.size + 1 - (intOf u).toNat)
  case atStart => exact ⟨0, a0, by omega, by omega, by omega, ha, rfl, rfl, by intro c hc; simp at hc, by intro h; omega⟩
  case round =>
    obtain ⟨k, p, hk3, hpk1, hpk2, hps, rfl, rfl, HA, HN⟩ := hrel
    have hv : valD (l.take k) < 1000 := by
      have := valD_lt 3 (l.take k) (by rw [List.length_take]; omega) HA.out
      simpa using this
    have HKL : Hid (k ≤ l.length) := by show _ ≤ _; have := HL.out; omega
    by_cases hgo : ∃ h : p < s.size, (47 : Int) < s[p].toNat ∧ (s[p].toNat : Int) < 58
    · obtain ⟨h1, h3, h4⟩ := hgo
      have hkl : k < l.length := by have := HL.out; omega
      have hlk := HG.out k p hkl h1 (by omega)
      have hdg : isDig l[k] = true := by rw [hlk]; exact dig_of (by omega) (by omega)
      by_cases h5 : 3 ≤ k
      · have HF : Hid (R = (0, -1)) := by show _ = _; rw [HR.out]; exact num_long HA.out hkl hdg h5
        clear hlk hdg hkl
        generalize valD (l.take k) = v0 at *
        go_wp2_with fail
        refine bodyPost_ret (v := .agg #[i64 0, i64 (-1)]) (results_one Tryz.results90 rfl (load76 (set2c HX.out _ _))) rfl ?_
        exact ⟨by rw [HF.out], (HBV.out.setCell (p := ⟨Z, 0, none⟩) HZ.out _).setCell (p := ⟨Z, 1, none⟩) HZ.out _⟩
      · by_cases h6 : 1 ≤ k ∧ valD (l.take k) = 0
        · have HF : Hid (R = (0, -1)) := by show _ = _; rw [HR.out]; exact num_zero HA.out hkl hdg h6.1 h6.2
          clear hlk hdg hkl
          obtain ⟨h7, h8⟩ := h6
          rw [h8]
          clear h8 hv
          go_wp2_with fail
          refine bodyPost_ret (v := .agg #[i64 0, i64 (-1)]) (results_one Tryz.results90 rfl (load76 (set2c HX.out _ _))) rfl ?_
          exact ⟨by rw [HF.out], (HBV.out.setCell (p := ⟨Z, 0, none⟩) HZ.out _).setCell (p := ⟨Z, 1, none⟩) HZ.out _⟩
        · have HA2 : Hid (∀ c ∈ l.take (k + 1), isDig c = true) := by
            intro c hc
            rw [List.take_succ_eq_append_getElem hkl] at hc
            rcases List.mem_append.1 hc with hc | hc
            · exact HA.out c hc
            · rw [List.mem_singleton.1 hc]; exact hdg
          have HV2 : Hid (valD (l.take (k + 1)) = 10 * valD (l.take k) + (s[p].toNat - 48)) := by show _ = _; rw [List.take_succ_eq_append_getElem hkl, valD_snoc, hlk]
          have HN2 : Hid (1 < k + 1 → l.head? ≠ some 48) := by
            intro hk1 e48
            by_cases e : 1 < k
            · exact HN.out e e48
            · have e1 : k = 1 := by omega
              refine h6 ⟨by omega, ?_⟩
              rw [e1]
              cases l with
              | nil => cases e48
              | cons b r => have : b = 48 := by simpa using e48
                            rw [this]; rfl
          have h9 : ¬ (1 ≤ k) ∨ valD (l.take k) ≠ 0 := by
            by_cases e : 1 ≤ k
            · exact Or.inr (fun e0 => h6 ⟨e, e0⟩)
            · exact Or.inl e
          clear hlk hdg hkl h6
          generalize valD (l.take k) = v0 at *
          by_cases h7 : 1 ≤ k
          · have h8 : v0 ≠ 0 := by rcases h9 with h9 | h9; exact absurd h7 h9; exact h9
            have q1 : ((v0 : Int) == 0) = false := by simp; omega
            have q2 : (v0 == 0) = false := by simpa using h8
            clear h9
            go_wp2_with fail
            go_round
            case rel => exact ⟨k + 1, p + 1, by omega, by omega, by omega, by omega, by go_num, by rw [HV2.out]; go_num, HA2, HN2⟩
            case measure => simp [intOf]; omega
          · clear h9
            go_wp2_with fail
            go_round
            case rel => exact ⟨k + 1, p + 1, by omega, by omega, by omega, by omega, by go_num, by rw [HV2.out]; go_num, HA2, HN2⟩
            case measure => simp [intOf]; omega
    · have HE : Hid (k = l.length ∨ ∃ h : k < l.length, isDig l[k] = false) := by
        by_cases e2 : p = s.size
        · exact Or.inl (by have := HL.out; omega)
        · have hkl : k < l.length := by have := HL.out; omega
          refine Or.inr ⟨hkl, ?_⟩
          have hp2 : p < s.size := by omega
          rw [HG.out k p hkl hp2 (by omega)]
          refine dig_no ?_
          by_cases e3 : (48 : Int) ≤ s[p].toNat
          · exact Or.inr (fun e4 => hgo ⟨hp2, by omega, by omega⟩)
          · exact Or.inl e3
      have HF0 : Hid (k = 0 → R = (0, -1)) := by
        intro e
        rw [HR.out]
        refine num_none ?_
        have := HE.out
        subst e
        rcases this with h | h
        · exact Or.inl (List.eq_nil_of_length_eq_zero h.symm)
        · exact Or.inr h
      have HF1 : Hid (1 ≤ k → R = (((valD (l.take k) : Nat) : Int), ((p : Nat) : Int))) := by
        intro e
        rw [HR.out, num_some (a := a0) HA.out HKL.out HE.out e hk3 HN.out (by have := HL.out; omega), show a0 + k = p by omega]
      generalize valD (l.take k) = v0 at *
      have HGO := hid hgo
      by_cases g1 : p < s.size
      · by_cases g3 : (47 : Int) < s[p].toNat
        · have g4 : ¬ (s[p].toNat : Int) < 58 := fun g4 => hgo ⟨g1, g3, g4⟩
          clear hgo
          by_cases h0 : k = 0
          · have HF := hid (HF0.out h0)
            go_wp2_with fail
            refine bodyPost_ret (v := .agg #[i64 0, i64 (-1)]) (results_one Tryz.results90 rfl (load76 (set2c HX.out _ _))) rfl ?_
            exact ⟨by rw [HF.out], (HBV.out.setCell (p := ⟨Z, 0, none⟩) HZ.out _).setCell (p := ⟨Z, 1, none⟩) HZ.out _⟩
          · have HF := hid (HF1.out (by omega))
            go_wp2_with fail
            refine bodyPost_ret (v := .agg #[i64 v0, i64 p]) (results_one Tryz.results90 rfl (load76 (set2c HX.out _ _))) rfl ?_
            exact ⟨by rw [HF.out], (HBV.out.setCell (p := ⟨Z, 0, none⟩) HZ.out _).setCell (p := ⟨Z, 1, none⟩) HZ.out _⟩
        · clear hgo
          by_cases h0 : k = 0
          · have HF := hid (HF0.out h0)
            go_wp2_with fail
            refine bodyPost_ret (v := .agg #[i64 0, i64 (-1)]) (results_one Tryz.results90 rfl (load76 (set2c HX.out _ _))) rfl ?_
            exact ⟨by rw [HF.out], (HBV.out.setCell (p := ⟨Z, 0, none⟩) HZ.out _).setCell (p := ⟨Z, 1, none⟩) HZ.out _⟩
          · have HF := hid (HF1.out (by omega))
            go_wp2_with fail
            refine bodyPost_ret (v := .agg #[i64 v0, i64 p]) (results_one Tryz.results90 rfl (load76 (set2c HX.out _ _))) rfl ?_
            exact ⟨by rw [HF.out], (HBV.out.setCell (p := ⟨Z, 0, none⟩) HZ.out _).setCell (p := ⟨Z, 1, none⟩) HZ.out _⟩
      · clear hgo
        by_cases h0 : k = 0
        · have HF := hid (HF0.out h0)
          go_wp2_with fail
          refine bodyPost_ret (v := .agg #[i64 0, i64 (-1)]) (results_one Tryz.results90 rfl (load76 (set2c HX.out _ _))) rfl ?_
          exact ⟨by rw [HF.out], (HBV.out.setCell (p := ⟨Z, 0, none⟩) HZ.out _).setCell (p := ⟨Z, 1, none⟩) HZ.out _⟩
        · have HF := hid (HF1.out (by omega))
          go_wp2_with fail
          refine bodyPost_ret (v := .agg #[i64 v0, i64 p]) (results_one Tryz.results90 rfl (load76 (set2c HX.out _ _))) rfl ?_
          exact ⟨by rw [HF.out], (HBV.out.setCell (p := ⟨Z, 0, none⟩) HZ.out _).setCell (p := ⟨Z, 1, none⟩) HZ.out _⟩
end Go.Proofs.YtjppcfjjpkniaaaGreatDoor
namespace Go.Proofs.YtjppcfjjpkniaaaGreatDoor
open Go.ChangeShapes Go.WideShapes Go.ChangeAt Go.RowKit Go.Deep
attribute [local go_sem ↓] Go.wp_at_zero Go.wp_at_succ

theorem numD_suf {s r : Bs} {n : Nat} (h : numD s = some (n, r)) : r <:+ s := by
  unfold numD at h
  split at h
  · cases h; exact List.drop_suffix _ _
  · cases h
theorem recD_suf (read : Bs → Option (Ty × Bs)) (hread : ∀ l t r, read l = some (t, r) → r <:+ l) : ∀ (m : Nat) (s : Bs) (N : List Bs) (K : List Ty) (t : Ty) (r : Bs), recD read m s N K = some (t, r) → r <:+ s
  | 0, _, _, _, _, _, h => by cases h
  | m + 1, s, N, K, t, r, h => by
    unfold recD at h
    split at h
    · cases h
    · rename_i c l hd
      split at h
      · split at h
        · cases h
        · rename_i t1 r1 hr
          split at h
          · cases h
          · rename_i c2 r2
            have hs : r2 <:+ s := (List.suffix_cons _ _).trans ((hread _ _ _ hr).trans ((List.suffix_cons _ _).trans (hd ▸ List.dropWhile_suffix _)))
            split at h
            · cases h; exact hs
            · split at h
              · exact (recD_suf read hread m _ _ _ _ _ h).trans hs
              · cases h
      · cases h
theorem takeD_suf : ∀ (f : Nat) (s : Bs) (t : Ty) (r : Bs), takeD f s = some (t, r) → r <:+ s
  | 0, _, _, _, h => by cases h
  | f + 1, [], _, _, h => by cases h
  | f + 1, c :: l, t, r, h => by
    simp only [takeD] at h
    split at h
    · exact (recD_suf _ (takeD_suf f) _ _ _ _ _ _ h).trans ((List.tail_suffix _).trans (List.suffix_cons _ _))
    · split at h
      · cases h
      · rename_i n r2 hn
        have h2 := (numD_suf hn).trans (List.suffix_cons c l)
        split at h
        · cases h; exact h2
        · split at h
          · cases h; exact h2
          · split at h
            · split at h
              · rename_i r3
                split at h
                · rename_i t4 r4 h4
                  cases h
                  exact (List.suffix_cons _ _).trans ((takeD_suf f _ _ _ h4).trans ((List.suffix_cons _ _).trans h2))
                · cases h
              · cases h
            · cases h
theorem suf_drop {s : ByteArray} {r : Bs} {a : Nat} (h : r <:+ s.data.toList.drop a) : s.data.toList.drop (s.size - r.length) = r := by
  have h2 := h.trans (List.drop_suffix _ _)
  have := List.suffix_iff_eq_drop.1 h2
  rw [Array.length_toList] at this
  exact this.symm
theorem suf_le {s : ByteArray} {r : Bs} {a : Nat} (h : r <:+ s.data.toList.drop a) : r.length ≤ s.size - a := by
  have := h.length_le
  rw [List.length_drop, Array.length_toList] at this
  exact this
theorem set5 {V : World} {b : Nat} {x0 x1 x2 x3 x4 : Value} {t : TypeId} (h : V.heap[b]? = some (.cells #[x0, x1, x2, x3, x4] t)) (a0 a1 a2 a3 a4 : Value) : (((((V.setCell ⟨b, 0, none⟩ a0).setCell ⟨b, 1, none⟩ a1).setCell ⟨b, 2, none⟩ a2).setCell ⟨b, 3, none⟩ a3).setCell ⟨b, 4, none⟩ a4).heap[b]? = some (.cells #[a0, a1, a2, a3, a4] t) := by
  have h1 := heap_setCell_same V b 0 _ t a0 h
  have h2 := heap_setCell_same _ b 1 _ t a1 h1
  have h3 := heap_setCell_same _ b 2 _ t a2 h2
  have h4 := heap_setCell_same _ b 3 _ t a3 h3
  have h5 := heap_setCell_same _ b 4 _ t a4 h4
  simpa using h5
/-- A Got. -/
abbrev gotV (k n : Int) (nv kv : Value) (m : Int) : Value := .agg #[i64 k, i64 n, nv, kv, i64 m]
theorem load63 {W : World} {b : Nat} {k n m : Int} {nv kv : Value} (h : W.heap[b]? = some (.cells #[i64 k, i64 n, nv, kv, i64 m] 139)) : (loadVar 139 ⟨b, 0, none⟩).run Tryz.prog W = .ok (gotV k n nv kv m) W := by
  refine run_loadVar_mid _ _ 0 139 [i64 k, i64 n, nv, kv, i64 m] _ (fun j v hv => ?_) Tryz.underlying139 rfl (by kernel_rfl)
  rw [Nat.zero_add, cell_of_row _ _ _ _ 139 (0, 0) h]
  simpa using hv
theorem below5 {w W : World} {lo R : Nat} (h : Below lo w W) (hR : lo ≤ R) (a0 a1 a2 a3 a4 : Value) : Below lo w (((((W.setCell ⟨R, 0, none⟩ a0).setCell ⟨R, 1, none⟩ a1).setCell ⟨R, 2, none⟩ a2).setCell ⟨R, 3, none⟩ a3).setCell ⟨R, 4, none⟩ a4) :=
  ((((h.setCell (p := ⟨R, 0, none⟩) hR _).setCell (p := ⟨R, 1, none⟩) hR _).setCell (p := ⟨R, 2, none⟩) hR _).setCell (p := ⟨R, 3, none⟩) hR _).setCell (p := ⟨R, 4, none⟩) hR _
/-- What Take and fields answer: the type and where it ends; none: nothing, and -1. -/
def Gok (w : World) (size : Nat) (res : Option (Ty × Bs)) (e : Ending) (w' : World) : Prop :=
  Below w.heap.size w w' ∧ (res = none → e = .returned (gotV 0 0 (.slice none 0 0) (.slice none 0 0) (-1))) ∧
  ∀ T r, res = some (T, r) → ∃ a1 n1 c1 a2 n2 c2, e = .returned (gotV T.kind T.num (.slice a1 n1 c1) (.slice a2 n2 c2) ((size - r.length : Nat) : Int)) ∧ Rd w' (fun b => w.heap.size ≤ b) T (.slice a1 n1 c1) (.slice a2 n2 c2)
end Go.Proofs.YtjppcfjjpkniaaaGreatDoor
namespace Go.Proofs.YtjppcfjjpkniaaaGreatDoor
open Go.ChangeShapes Go.WideShapes Go.ChangeAt Go.RowKit Go.Deep

abbrev recJ (nv kv : Value) : Obj := .cells #[i64 4, i64 0, nv, kv] 64
abbrev zG : Obj := .cells #[i64 0, i64 0, .slice none 0 0, .slice none 0 0, i64 0] 139
/-- Where a kid may stand. -/
def Avj (lo R Tb : Nat) (nv : Value) (b : Nat) : Prop := lo ≤ b ∧ b ≠ R ∧ b ≠ Tb ∧ some b ≠ nv.ownBlock
structure RecJ (w wr : World) (R Tb i : Nat) (N : List Bs) (Ks : List Kd) (nv kv : Value) : Prop where
  hR : wr.heap[R]? = some zG
  hT : wr.heap[Tb]? = some (recJ nv kv)
  on : wr.ownsRow w.heap.size 9 1 nv N.length (N.map str)
  ok : KidsR wr w.heap.size 64 (Avj w.heap.size R Tb nv) kv Ks
  s2 : kv.ownBlock ≠ some Tb
  ln : N.length = i
  lk : Ks.length = i
  ns : ∀ x ∈ N, x.length ≤ maxLen
  bb : Below w.heap.size w wr
structure LowJ (w : World) (R Tb : Nat) : Prop where
  r : w.heap.size ≤ R
  t : w.heap.size ≤ Tb
  ne : R ≠ Tb
theorem RecJ.nvF {w wr : World} {R Tb i : Nat} {N : List Bs} {Ks : List Kd} {nv kv : Value} (h : RecJ w wr R Tb i N Ks nv kv) : (∃ a c, nv = .slice a i c) ∧ ∃ a c, kv = .slice a i c := by
  obtain ⟨a, c, h1, _⟩ := own_slice h.on
  obtain ⟨a', c', h2, _⟩ := own_slice h.ok.own
  rw [h.ln] at h1
  rw [h.lk] at h2
  exact ⟨⟨a, c, h1⟩, a', c', h2⟩
theorem RecJ.below {w wr wr' : World} {R Tb i : Nat} {N : List Bs} {Ks : List Kd} {nv kv : Value} (h : RecJ w wr R Tb i N Ks nv kv) (ht : Below wr.heap.size wr wr') : RecJ w wr' R Tb i N Ks nv kv := by
  refine ⟨blk_below h.hR ht, blk_below h.hT ht, own_keep1 h.on fun k hk => ht.block k (h.on.lt k hk).2, ?_, h.s2, h.ln, h.lk, h.ns, h.bb.trans (ht.mono h.bb.size)⟩
  exact h.ok.move ht.size (fun k hk => ht.block k (h.ok.own.lt k hk).2) fun b hb hlt _ => ⟨hb, ht.block b hlt⟩
set_option maxHeartbeats 1600000 in
/-- A field more. -/
theorem recj_push {w X : World} {R Tb i : Nat} {N : List Bs} {Ks : List Kd} {nv kv : Value} (hw : LowJ w R Tb) (h : RecJ w X R Tb i N Ks nv kv) (T : Ty) (a1 : Option Addr) (n1 c1 : Nat) (a2 : Option Addr) (n2 c2 : Nat)
    (hK : Rd X (fun b => Avj w.heap.size R Tb nv b ∧ some b ≠ kv.ownBlock) T (.slice a1 n1 c1) (.slice a2 n2 c2)) (x : Bs) (hx : x.length ≤ maxLen) (hi : i < 13) (Kb : Nat) (kO : Array Value) (hKb : X.heap[Kb]? = some (.cells kO 139)) :
    ∃ ao1 cap1 Y1 ao2 cap2 Y3, (Builtin.append_ #[46, 46] 46 #[nv, .slice (some ⟨X.heap.size, 0, none⟩) 1 1]).run Tryz.prog (X.alloc (.cells #[str x] 9)) = .ok (.slice ao1 (i + 1) cap1) Y1 ∧ Y1.heap[Tb]? = some (recJ nv kv) ∧
      (Y1.setCell ⟨Tb, 2, none⟩ (.slice ao1 (i + 1) cap1)).heap[Tb]? = some (recJ (.slice ao1 (i + 1) cap1) kv) ∧ (Y1.setCell ⟨Tb, 2, none⟩ (.slice ao1 (i + 1) cap1)).heap[Kb]? = some (.cells kO 139) ∧
      (Builtin.append_ #[62, 62] 62 #[kv, .slice (some ⟨(Y1.setCell ⟨Tb, 2, none⟩ (.slice ao1 (i + 1) cap1)).heap.size, 0, none⟩) 1 1]).run Tryz.prog ((Y1.setCell ⟨Tb, 2, none⟩ (.slice ao1 (i + 1) cap1)).alloc (.cells #[i64 T.kind, i64 T.num, .slice a1 n1 c1, .slice a2 n2 c2] 64)) = .ok (.slice ao2 (i + 1) cap2) Y3 ∧
      Y3.heap[Tb]? = some (recJ (.slice ao1 (i + 1) cap1) kv) ∧ RecJ w (Y3.setCell ⟨Tb, 3, none⟩ (.slice ao2 (i + 1) cap2)) R Tb (i + 1) (N ++ [x]) (Ks ++ [(T, .slice a1 n1 c1, .slice a2 n2 c2)]) (.slice ao1 (i + 1) cap1) (.slice ao2 (i + 1) cap2) ∧ (Y3.setCell ⟨Tb, 3, none⟩ (.slice ao2 (i + 1) cap2)).heap[Kb]? = some (.cells kO 139) ∧ Y1.heap[Kb]? = some (.cells kO 139) := by
  have z2 := hw.r
  have z3 := hw.t
  have z4 := hw.ne
  have hXz := h.bb.size
  have hKT : Kb ≠ Tb := by
    rintro rfl
    have := h.hT
    rw [hKb] at this
    cases this
  obtain ⟨ao1, cap1, Y1, g1, g2, g3, g4, g5⟩ := push_name h.on x (by have := h.ln; omega) hXz
  rw [h.ln] at g1 g2 g5
  have eT : Y1.heap[Tb]? = some (recJ nv kv) := g3.kept _ _ h.hT (by rfl)
  have eR : Y1.heap[R]? = some zG := g3.kept _ _ h.hR (by rfl)
  have eK : Y1.heap[Kb]? = some (.cells kO 139) := g3.kept _ _ hKb (by rfl)
  generalize hs1 : (Value.slice ao1 (i + 1) cap1) = s1 at *
  have fT : (Y1.setCell ⟨Tb, 2, none⟩ s1).heap[Tb]? = some (recJ s1 kv) := by
    have := heap_setCell_same Y1 Tb 2 _ 64 s1 eT
    simpa using this
  have fK : (Y1.setCell ⟨Tb, 2, none⟩ s1).heap[Kb]? = some (.cells kO 139) := by rw [Below.heap_setCell _ _ _ _ hKT]; exact eK
  have fR : (Y1.setCell ⟨Tb, 2, none⟩ s1).heap[R]? = some zG := by rw [Below.heap_setCell _ _ _ _ (show R ≠ Tb from z4)]; exact eR
  have fz : X.heap.size ≤ (Y1.setCell ⟨Tb, 2, none⟩ s1).heap.size := by have := g3.size; simpa [World.setCell] using this
  have nT : s1.ownBlock ≠ some Tb := by
    intro e
    obtain ⟨c, hc⟩ := own_tag g2 e
    rw [eT] at hc
    cases hc
  have f1 : (Y1.setCell ⟨Tb, 2, none⟩ s1).ownsRow w.heap.size 9 1 s1 (N ++ [x]).length ((N ++ [x]).map str) := own_keep1 g2 fun k hk => Below.heap_setCell _ _ _ _ (fun e => nT (by rw [hk]; exact congrArg some e))
  have old : ∀ k, k < X.heap.size → some k ≠ nv.ownBlock → k ≠ Tb → (Y1.setCell ⟨Tb, 2, none⟩ s1).heap[k]? = X.heap[k]? := fun k hk hn ht => by
    rw [Below.heap_setCell _ _ _ _ ht]; exact g4 k hk hn
  have av : ∀ b, Avj w.heap.size R Tb nv b → b < X.heap.size → Avj w.heap.size R Tb s1 b := fun b hb hlt => ⟨hb.1, hb.2.1, hb.2.2.1, by
    rcases g5 with g5 | g5
    · rw [g5]; exact hb.2.2.2
    · rw [g5]; intro e; cases e; omega⟩
  have f2 : KidsR (Y1.setCell ⟨Tb, 2, none⟩ s1) w.heap.size 64 (Avj w.heap.size R Tb s1) kv Ks := h.ok.move fz
    (fun k hk => old k (h.ok.own.lt k hk).2 (own_apart h.ok.own h.on (by decide) hk) (fun e => h.s2 (by rw [hk, e])))
    (fun b hb hlt _ => ⟨av b hb hlt, old b hlt hb.2.2.2 hb.2.2.1⟩)
  have fR2 : Rd (Y1.setCell ⟨Tb, 2, none⟩ s1) (fun b => Avj w.heap.size R Tb s1 b ∧ some b ≠ kv.ownBlock) T (.slice a1 n1 c1) (.slice a2 n2 c2) := hK.move fz fun b hb hlt => ⟨⟨av b hb.1 hlt, hb.2⟩, old b hlt hb.1.2.2.2 hb.1.2.2.1⟩
  have fTt : Below w.heap.size w (Y1.setCell ⟨Tb, 2, none⟩ s1) := (h.bb.trans g3.below).setCell (p := ⟨Tb, 2, none⟩) z3 _
  generalize hY2 : Y1.setCell ⟨Tb, 2, none⟩ s1 = Y2 at *
  obtain ⟨ao2, cap2, Y3, p1, p2, p3, p4, p5⟩ := push_kid under35 info37 f2 T a1 n1 c1 a2 n2 c2 fR2 (by have := h.lk; omega) (by omega)
  rw [h.lk] at p1 p2 p5
  have nT2 : (Value.slice ao2 (i + 1) cap2).ownBlock ≠ some Tb := by
    rcases p5 with p5 | p5
    · rw [p5]; exact h.s2
    · rw [p5]; intro e; cases e; have := blk_lt fT; omega
  have qT : Y3.heap[Tb]? = some (recJ s1 kv) := by rw [p4 Tb (blk_lt fT) (fun e => h.s2 e.symm)]; exact fT
  have qR : Y3.heap[R]? = some zG := p3.kept _ _ fR (by rfl)
  have qK : Y3.heap[Kb]? = some (.cells kO 139) := p3.kept _ _ fK (by rfl)
  have qz : Y3.heap.size ≤ (Y3.setCell ⟨Tb, 3, none⟩ (.slice ao2 (i + 1) cap2)).heap.size := by simp [World.setCell]
  have q1 : Y3.ownsRow w.heap.size 9 1 s1 (N ++ [x]).length ((N ++ [x]).map str) := own_keep1 f1 fun k hk => p4 k (f1.lt k hk).2 (own_apart f1 f2.own (by decide) hk)
  subst hs1
  refine ⟨ao1, cap1, Y1, ao2, cap2, Y3, g1, eT, by rw [hY2]; exact fT, by rw [hY2]; exact fK, by rw [hY2]; exact p1, qT, ?_, ?_, eK⟩
  · refine ⟨?_, ?_, ?_, ?_, nT2, by simp [h.ln], by simp [h.lk], fun y hy => ?_, ?_⟩
    · rw [Below.heap_setCell _ _ _ _ (show R ≠ Tb from z4)]; exact qR
    · have := heap_setCell_same Y3 Tb 3 _ 64 (.slice ao2 (i + 1) cap2) qT
      simpa using this
    · exact own_keep1 q1 fun k hk => Below.heap_setCell _ _ _ _ (fun e => nT (by rw [hk]; exact congrArg some e))
    · exact p2.move qz (fun k hk => Below.heap_setCell _ _ _ _ (fun e => nT2 (by rw [hk]; exact congrArg some e))) fun b hb _ _ => ⟨hb, Below.heap_setCell _ _ _ _ (show b ≠ Tb from hb.2.2.1)⟩
    · rcases List.mem_append.1 hy with hy | hy
      · exact h.ns y hy
      · rw [List.mem_singleton.1 hy]; exact hx
    · exact (fTt.trans p3.below).setCell (p := ⟨Tb, 3, none⟩) z3 _
  · rw [Below.heap_setCell _ _ _ _ (show Kb ≠ Tb from hKT)]; exact qK
/-- The record that was read. -/
theorem RecJ.rd {w wr : World} {R Tb i : Nat} {N : List Bs} {Ks : List Kd} {nv kv : Value} (h : RecJ w wr R Tb i N Ks nv kv) (a0 b1 b2 b3 b4 : Value) :
    Rd (((((wr.setCell ⟨R, 0, none⟩ a0).setCell ⟨R, 1, none⟩ b1).setCell ⟨R, 2, none⟩ b2).setCell ⟨R, 3, none⟩ b3).setCell ⟨R, 4, none⟩ b4) (fun b => w.heap.size ≤ b) (.mk 4 0 N (Ks.map (·.1))) nv kv := by
  have hnR : nv.ownBlock ≠ some R := by
    intro e
    obtain ⟨c, hc⟩ := own_tag h.on e
    rw [h.hR] at hc
    cases hc
  have hkR : kv.ownBlock ≠ some R := by
    intro e
    obtain ⟨c, hc⟩ := own_tag h.ok.own e
    rw [h.hR] at hc
    cases hc
  have h1 : Strs wr (fun b => w.heap.size ≤ b ∧ b ≠ R) nv N := own_strs h.on h.ns (fun b hb => ⟨(h.on.lt b hb).1, fun e => hnR (by rw [hb, e])⟩)
  have h2 : Rd wr (fun b => w.heap.size ≤ b ∧ b ≠ R) (.mk 4 0 N (Ks.map (·.1))) nv kv := h.ok.rd h1 (fun b hb _ => ⟨hb.1, hb.2.1⟩) (fun b hb => ⟨(h.ok.own.lt b hb).1, fun e => hkR (by rw [hb, e])⟩)
  refine h2.move (by simp [World.setCell]) (fun b hb _ => ⟨hb.1, ?_⟩)
  rw [Below.heap_setCell _ _ _ _ (show b ≠ R from hb.2), Below.heap_setCell _ _ _ _ (show b ≠ R from hb.2), Below.heap_setCell _ _ _ _ (show b ≠ R from hb.2), Below.heap_setCell _ _ _ _ (show b ≠ R from hb.2), Below.heap_setCell _ _ _ _ (show b ≠ R from hb.2)]
theorem low_exact (l : Bs) (j : Nat) (hp : ∀ c ∈ l.take j, isLow c = true) (hl : j ≤ l.length) (he : j = l.length ∨ ∃ h : j < l.length, isLow l[j] = false) : l.takeWhile isLow = l.take j ∧ l.dropWhile isLow = l.drop j := by
  have h1 := tw_len isLow l j hp hl
  have h0 := congrArg List.length (List.takeWhile_append_dropWhile (p := isLow) (l := l))
  rw [List.length_append] at h0
  have h2 : (l.takeWhile isLow).length ≤ j := by
    rcases he with rfl | ⟨h, hd⟩
    · omega
    · exact tw_stop isLow l j h hd
  have h3 : (l.takeWhile isLow).length = j := by omega
  have h4 : l.takeWhile isLow = l.take j := by rw [tw_pre isLow l j h1, List.take_of_length_le h2]
  refine ⟨h4, ?_⟩
  have h5 := List.takeWhile_append_dropWhile (p := isLow) (l := l)
  have h6 := List.take_append_drop j l
  rw [h4] at h5
  exact List.append_cancel_left (h5.trans h6.symm)
def recDe (read : Bs → Option (Ty × Bs)) (m : Nat) (N : List Bs) (K : List Ty) (r : Bs) : Option (Ty × Bs) :=
  if hdB r 41 = true then some (.mk 4 0 N K, r.tail) else if hdB r 44 = true then recD read m r.tail N K else none
def recDm (read : Bs → Option (Ty × Bs)) (m : Nat) (N : List Bs) (K : List Ty) (ro : Option (Ty × Bs)) : Option (Ty × Bs) := match ro with | none => none | some (t, r) => recDe read m N (K ++ [t]) r
theorem recD_step (read : Bs → Option (Ty × Bs)) (m : Nat) (s nm : Bs) (lf : Bs) (N : List Bs) (K : List Ty) (h1 : s.takeWhile isLow = nm) (h2 : s.dropWhile isLow = lf) :
    recD read (m + 1) s N K = if hdB lf 58 = true then recDm read m (N ++ [nm]) K (read lf.tail) else none := by
  rw [recD, h1, h2]
  cases lf with
  | nil => rfl
  | cons c l =>
    simp only [hdB, List.tail_cons, decide_eq_true_eq]
    by_cases hc : c = 58
    · rw [if_pos hc, if_pos hc]
      rcases read l with _ | ⟨t, r⟩
      · rfl
      · cases r with
        | nil => rfl
        | cons c2 r2 =>
          simp only [recDm, recDe, hdB, List.tail_cons, decide_eq_true_eq]
    · rw [if_neg hc, if_neg hc]
end Go.Proofs.YtjppcfjjpkniaaaGreatDoor
namespace Go.Proofs.YtjppcfjjpkniaaaGreatDoor
open Go.ChangeShapes Go.WideShapes Go.ChangeAt Go.RowKit Go.Deep
attribute [local go_sem ↓] Go.wp_at_zero Go.wp_at_succ

set_option maxRecDepth 100000 in
set_option maxHeartbeats 3200000 in
theorem tk_zero (s : ByteArray) (a0 : Int) (l : Bs) (w : World) : Calls Tryz.prog 68 #[.string s, i64 a0, i64 0] w (Gok w s.size (takeD 0 l)) := by
  obtain ⟨res, hres⟩ : ∃ res, res = takeD 0 l := ⟨_, rfl⟩
  rw [← hres]
  have HRes : Hid (res = none) := by show _ = _; rw [hres]; rfl
  clear hres
  have HX : Hid ((w.alloc (.cells #[i64 0, i64 0, .slice none 0 0, .slice none 0 0, i64 0] 139)).heap[w.heap.size]? = some (.cells #[i64 0, i64 0, .slice none 0 0, .slice none 0 0, i64 0] 139)) := heap_last w _
  have HBV : Hid (Below w.heap.size w (w.alloc (.cells #[i64 0, i64 0, .slice none 0 0, .slice none 0 0, i64 0] 139))) := below_one w _
  go_enter Tryz.func68, Tryz.ntmps68
  go_upto_region 1 with fail
  obtain ⟨R, hR⟩ : ∃ R, R = w.heap.size := ⟨_, rfl⟩
  have HRe : Hid (w.heap.size ≤ R) := by show _ ≤ _; omega
  rw [← hR] at HX ⊢
  clear hR
  generalize w.alloc (.cells #[i64 0, i64 0, .slice none 0 0, .slice none 0 0, i64 0] 139) = V at *
  have rc0 : V.cell? ⟨R, 0, none⟩ = some (i64 0) := blk_cell HX.out 0
  have rf0 : V.frozen? ⟨R, 0, none⟩ = false := blk_frozen HX.out 0
  have rc1 : V.cell? ⟨R, 1, none⟩ = some (i64 0) := blk_cell HX.out 1
  have rf1 : V.frozen? ⟨R, 1, none⟩ = false := blk_frozen HX.out 1
  have rc2 : V.cell? ⟨R, 2, none⟩ = some (.slice none 0 0) := blk_cell HX.out 2
  have rf2 : V.frozen? ⟨R, 2, none⟩ = false := blk_frozen HX.out 2
  have rc3 : V.cell? ⟨R, 3, none⟩ = some (.slice none 0 0) := blk_cell HX.out 3
  have rf3 : V.frozen? ⟨R, 3, none⟩ = false := blk_frozen HX.out 3
  have rc4 : V.cell? ⟨R, 4, none⟩ = some (i64 0) := blk_cell HX.out 4
  have rf4 : V.frozen? ⟨R, 4, none⟩ = false := blk_frozen HX.out 4
  go_wp2_with fail
  refine bodyPost_ret (v := gotV 0 0 (.slice none 0 0) (.slice none 0 0) (-1)) (results_one Tryz.results68 rfl (load63 (set5 HX.out _ _ _ _ _))) rfl ?_
  exact ⟨below5 HBV.out HRe.out _ _ _ _ _, fun _ => rfl, fun T r h => by rw [HRes.out] at h; cases h⟩
set_option maxRecDepth 100000 in
set_option maxHeartbeats 3200000 in
theorem tk_end (s : ByteArray) (a0 : Nat) (f : Nat) (w : World) (hf : f ≤ 5) (ha : s.size ≤ a0) : Calls Tryz.prog 68 #[.string s, i64 a0, i64 (f + 1 : Nat)] w (Gok w s.size (takeD (f + 1) (s.data.toList.drop a0))) := by
  obtain ⟨res, hres⟩ : ∃ res, res = takeD (f + 1) (s.data.toList.drop a0) := ⟨_, rfl⟩
  rw [← hres]
  have HRes : Hid (res = none) := by show _ = _; rw [hres, drop_end s a0 ha]; rfl
  clear hres
  obtain ⟨D, hD⟩ : ∃ D : Int, D = ((f + 1 : Nat) : Int) := ⟨_, rfl⟩
  have hD1 : 1 ≤ D := by omega
  have hD6 : D ≤ 6 := by omega
  have HDe := hid hD
  have qD : (D == 0) = false := by simp; omega
  rw [← hD]
  clear hD
  have HX : Hid ((w.alloc (.cells #[i64 0, i64 0, .slice none 0 0, .slice none 0 0, i64 0] 139)).heap[w.heap.size]? = some (.cells #[i64 0, i64 0, .slice none 0 0, .slice none 0 0, i64 0] 139)) := heap_last w _
  have HBV : Hid (Below w.heap.size w (w.alloc (.cells #[i64 0, i64 0, .slice none 0 0, .slice none 0 0, i64 0] 139))) := below_one w _
  go_enter Tryz.func68, Tryz.ntmps68
  go_upto_region 1 with fail
  obtain ⟨R, hR⟩ : ∃ R, R = w.heap.size := ⟨_, rfl⟩
  have HRe : Hid (w.heap.size ≤ R) := by show _ ≤ _; omega
  rw [← hR] at HX ⊢
  clear hR
  generalize w.alloc (.cells #[i64 0, i64 0, .slice none 0 0, .slice none 0 0, i64 0] 139) = V at *
  have rc0 : V.cell? ⟨R, 0, none⟩ = some (i64 0) := blk_cell HX.out 0
  have rf0 : V.frozen? ⟨R, 0, none⟩ = false := blk_frozen HX.out 0
  have rc1 : V.cell? ⟨R, 1, none⟩ = some (i64 0) := blk_cell HX.out 1
  have rf1 : V.frozen? ⟨R, 1, none⟩ = false := blk_frozen HX.out 1
  have rc2 : V.cell? ⟨R, 2, none⟩ = some (.slice none 0 0) := blk_cell HX.out 2
  have rf2 : V.frozen? ⟨R, 2, none⟩ = false := blk_frozen HX.out 2
  have rc3 : V.cell? ⟨R, 3, none⟩ = some (.slice none 0 0) := blk_cell HX.out 3
  have rf3 : V.frozen? ⟨R, 3, none⟩ = false := blk_frozen HX.out 3
  have rc4 : V.cell? ⟨R, 4, none⟩ = some (i64 0) := blk_cell HX.out 4
  have rf4 : V.frozen? ⟨R, 4, none⟩ = false := blk_frozen HX.out 4
  go_wp2_with fail
  refine bodyPost_ret (v := gotV 0 0 (.slice none 0 0) (.slice none 0 0) (-1)) (results_one Tryz.results68 rfl (load63 (set5 HX.out _ _ _ _ _))) rfl ?_
  exact ⟨below5 HBV.out HRe.out _ _ _ _ _, fun _ => rfl, fun T r h => by rw [HRes.out] at h; cases h⟩
set_option maxRecDepth 100000 in
set_option maxHeartbeats 3200000 in
theorem tk_n (s : ByteArray) (a0 : Nat) (f : Nat) (w : World) (hs : s.size ≤ 30000000) (hf : f ≤ 5) (ha : a0 < s.size) (h114 : s[a0].toNat ≠ 114) (hn : numD (s.data.toList.drop (a0 + 1)) = none) : Calls Tryz.prog 68 #[.string s, i64 a0, i64 (f + 1 : Nat)] w (Gok w s.size (takeD (f + 1) (s.data.toList.drop a0))) := by
  obtain ⟨res, hres⟩ : ∃ res, res = takeD (f + 1) (s.data.toList.drop a0) := ⟨_, rfl⟩
  rw [← hres]
  have k114 : s[a0] ≠ 114 := fun e => h114 (by rw [e]; rfl)
  have HRes : Hid (res = none) := by show _ = _; rw [hres, drop_at s a0 ha]; simp [takeD, k114, hn]
  have HNV : Hid (numV (s.data.toList.drop (a0 + 1)) s.size = (0, -1)) := by show _ = _; unfold numV; rw [hn]
  clear hres hn k114
  obtain ⟨D, hD⟩ : ∃ D : Int, D = ((f + 1 : Nat) : Int) := ⟨_, rfl⟩
  have hD1 : 1 ≤ D := by omega
  have hD6 : D ≤ 6 := by omega
  have HDe := hid hD
  have qD : (D == 0) = false := by simp; omega
  rw [← hD]
  clear hD
  have q114 : ((s[a0].toNat : Int) == 114) = false := by simp; omega
  have HX : Hid ((w.alloc (.cells #[i64 0, i64 0, .slice none 0 0, .slice none 0 0, i64 0] 139)).heap[w.heap.size]? = some (.cells #[i64 0, i64 0, .slice none 0 0, .slice none 0 0, i64 0] 139)) := heap_last w _
  have HBV : Hid (Below w.heap.size w (w.alloc (.cells #[i64 0, i64 0, .slice none 0 0, .slice none 0 0, i64 0] 139))) := below_one w _
  go_enter Tryz.func68, Tryz.ntmps68
  go_upto_region 1 with fail
  obtain ⟨R, hR⟩ : ∃ R, R = w.heap.size := ⟨_, rfl⟩
  have HRe : Hid (w.heap.size ≤ R) := by show _ ≤ _; omega
  rw [← hR] at HX ⊢
  clear hR
  generalize w.alloc (.cells #[i64 0, i64 0, .slice none 0 0, .slice none 0 0, i64 0] 139) = V at *
  have HNU : Hid (Calls Tryz.prog 90 #[.string s, i64 ((a0 : Int) + 1)] V fun e w' => e = .returned (.agg #[i64 0, i64 (-1)]) ∧ Below V.heap.size V w') := by
    have := rnum_s s (a0 + 1) V hs (by omega)
    rw [HNV.out] at this
    exact this
  go_wp2_with fail
  refine HNU.out.mono ?_
  rintro e w1 ⟨rfl, hb1⟩
  have HB1 : Hid (Below w.heap.size w (w1.alloc (.cells #[i64 0, i64 (-1)] 159))) := (HBV.out.trans (hb1.mono HBV.out.size)).trans ((below_one w1 _).mono (by have h1 := HBV.out.size; have h2 := hb1.size; omega))
  have HX1 : Hid ((w1.alloc (.cells #[i64 0, i64 (-1)] 159)).heap[R]? = some (.cells #[i64 0, i64 0, .slice none 0 0, .slice none 0 0, i64 0] 139)) := blk_alloc (blk_below HX.out hb1) _
  have HQ1 : Hid ((w1.alloc (.cells #[i64 0, i64 (-1)] 159)).heap[w1.heap.size]? = some (.cells #[i64 0, i64 (-1)] 159)) := heap_last w1 _
  clear hb1 HNU
  go_upto_region 6 with fail
  obtain ⟨Q, hQ⟩ : ∃ Q, Q = w1.heap.size := ⟨_, rfl⟩
  rw [← hQ] at HQ1 ⊢
  clear hQ
  generalize w1.alloc (.cells #[i64 0, i64 (-1)] 159) = W at *
  have rc0 : W.cell? ⟨R, 0, none⟩ = some (i64 0) := blk_cell HX1.out 0
  have rf0 : W.frozen? ⟨R, 0, none⟩ = false := blk_frozen HX1.out 0
  have rc1 : W.cell? ⟨R, 1, none⟩ = some (i64 0) := blk_cell HX1.out 1
  have rf1 : W.frozen? ⟨R, 1, none⟩ = false := blk_frozen HX1.out 1
  have rc2 : W.cell? ⟨R, 2, none⟩ = some (.slice none 0 0) := blk_cell HX1.out 2
  have rf2 : W.frozen? ⟨R, 2, none⟩ = false := blk_frozen HX1.out 2
  have rc3 : W.cell? ⟨R, 3, none⟩ = some (.slice none 0 0) := blk_cell HX1.out 3
  have rf3 : W.frozen? ⟨R, 3, none⟩ = false := blk_frozen HX1.out 3
  have rc4 : W.cell? ⟨R, 4, none⟩ = some (i64 0) := blk_cell HX1.out 4
  have rf4 : W.frozen? ⟨R, 4, none⟩ = false := blk_frozen HX1.out 4
  have nc0 : W.cell? ⟨Q, 0, none⟩ = some (i64 0) := blk_cell HQ1.out 0
  have nc1 : W.cell? ⟨Q, 1, none⟩ = some (i64 (-1)) := blk_cell HQ1.out 1
  go_wp2_with fail
  refine bodyPost_ret (v := gotV 0 0 (.slice none 0 0) (.slice none 0 0) (-1)) (results_one Tryz.results68 rfl (load63 (set5 HX1.out _ _ _ _ _))) rfl ?_
  exact ⟨below5 HB1.out HRe.out _ _ _ _ _, fun _ => rfl, fun T r h => by rw [HRes.out] at h; cases h⟩
set_option maxRecDepth 100000 in
set_option maxHeartbeats 3200000 in
theorem tk_i (s : ByteArray) (a0 : Nat) (f : Nat) (w : World) (hs : s.size ≤ 30000000) (hf : f ≤ 5) (ha : a0 < s.size) (hc : s[a0].toNat = 105) (n : Nat) (r : Bs) (hn : numD (s.data.toList.drop (a0 + 1)) = some (n, r)) : Calls Tryz.prog 68 #[.string s, i64 a0, i64 (f + 1 : Nat)] w (Gok w s.size (takeD (f + 1) (s.data.toList.drop a0))) := by
  obtain ⟨res, hres⟩ : ∃ res, res = takeD (f + 1) (s.data.toList.drop a0) := ⟨_, rfl⟩
  rw [← hres]
  have kc : s[a0] = 105 := UInt8.toNat_inj.1 hc
  have HRes : Hid (res = some (.mk 1 n [] [], r)) := by show _ = _; rw [hres, drop_at s a0 ha, kc]; simp [takeD, hn]
  have HNV : Hid (numV (s.data.toList.drop (a0 + 1)) s.size = ((n : Int), ((s.size - r.length : Nat) : Int))) := by show _ = _; unfold numV; rw [hn]
  have HHC := hid hc
  clear hres hn kc
  obtain ⟨D, hD⟩ : ∃ D : Int, D = ((f + 1 : Nat) : Int) := ⟨_, rfl⟩
  have hD1 : 1 ≤ D := by omega
  have hD6 : D ≤ 6 := by omega
  have HDe := hid hD
  have qD : (D == 0) = false := by simp; omega
  rw [← hD]
  clear hD
  have q114 : ((s[a0].toNat : Int) == 114) = false := by simp; omega
  have q105 : ((s[a0].toNat : Int) == 105) = true := by simp; omega
  clear hc
  obtain ⟨E, hE⟩ : ∃ E, E = s.size - r.length := ⟨_, rfl⟩
  have hE2 : E ≤ 30000000 := by omega
  have HEe := hid hE
  rw [← hE] at HNV
  clear hE
  have HX : Hid ((w.alloc (.cells #[i64 0, i64 0, .slice none 0 0, .slice none 0 0, i64 0] 139)).heap[w.heap.size]? = some (.cells #[i64 0, i64 0, .slice none 0 0, .slice none 0 0, i64 0] 139)) := heap_last w _
  have HBV : Hid (Below w.heap.size w (w.alloc (.cells #[i64 0, i64 0, .slice none 0 0, .slice none 0 0, i64 0] 139))) := below_one w _
  go_enter Tryz.func68, Tryz.ntmps68
  go_upto_region 1 with fail
  obtain ⟨R, hR⟩ : ∃ R, R = w.heap.size := ⟨_, rfl⟩
  have HRe : Hid (w.heap.size ≤ R) := by show _ ≤ _; omega
  rw [← hR] at HX ⊢
  clear hR
  generalize w.alloc (.cells #[i64 0, i64 0, .slice none 0 0, .slice none 0 0, i64 0] 139) = V at *
  have HNU : Hid (Calls Tryz.prog 90 #[.string s, i64 ((a0 : Int) + 1)] V fun e w' => e = .returned (.agg #[i64 n, i64 E]) ∧ Below V.heap.size V w') := by
    have := rnum_s s (a0 + 1) V hs (by omega)
    rw [HNV.out] at this
    exact this
  go_wp2_with fail
  refine HNU.out.mono ?_
  rintro e w1 ⟨rfl, hb1⟩
  have HB1 : Hid (Below w.heap.size w (w1.alloc (.cells #[i64 n, i64 E] 159))) := (HBV.out.trans (hb1.mono HBV.out.size)).trans ((below_one w1 _).mono (by have h1 := HBV.out.size; have h2 := hb1.size; omega))
  have HX1 : Hid ((w1.alloc (.cells #[i64 n, i64 E] 159)).heap[R]? = some (.cells #[i64 0, i64 0, .slice none 0 0, .slice none 0 0, i64 0] 139)) := blk_alloc (blk_below HX.out hb1) _
  have HQ1 : Hid ((w1.alloc (.cells #[i64 n, i64 E] 159)).heap[w1.heap.size]? = some (.cells #[i64 n, i64 E] 159)) := heap_last w1 _
  clear hb1 HNU
  go_upto_region 6 with fail
  obtain ⟨Q, hQ⟩ : ∃ Q, Q = w1.heap.size := ⟨_, rfl⟩
  rw [← hQ] at HQ1 ⊢
  clear hQ
  generalize w1.alloc (.cells #[i64 n, i64 E] 159) = W at *
  have rc0 : W.cell? ⟨R, 0, none⟩ = some (i64 0) := blk_cell HX1.out 0
  have rf0 : W.frozen? ⟨R, 0, none⟩ = false := blk_frozen HX1.out 0
  have rc1 : W.cell? ⟨R, 1, none⟩ = some (i64 0) := blk_cell HX1.out 1
  have rf1 : W.frozen? ⟨R, 1, none⟩ = false := blk_frozen HX1.out 1
  have rc2 : W.cell? ⟨R, 2, none⟩ = some (.slice none 0 0) := blk_cell HX1.out 2
  have rf2 : W.frozen? ⟨R, 2, none⟩ = false := blk_frozen HX1.out 2
  have rc3 : W.cell? ⟨R, 3, none⟩ = some (.slice none 0 0) := blk_cell HX1.out 3
  have rf3 : W.frozen? ⟨R, 3, none⟩ = false := blk_frozen HX1.out 3
  have rc4 : W.cell? ⟨R, 4, none⟩ = some (i64 0) := blk_cell HX1.out 4
  have rf4 : W.frozen? ⟨R, 4, none⟩ = false := blk_frozen HX1.out 4
  have nc0 : W.cell? ⟨Q, 0, none⟩ = some (i64 n) := blk_cell HQ1.out 0
  have nc1 : W.cell? ⟨Q, 1, none⟩ = some (i64 E) := blk_cell HQ1.out 1
  go_wp2_with fail
  refine bodyPost_ret (v := gotV 1 n (.slice none 0 0) (.slice none 0 0) E) (results_one Tryz.results68 rfl (load63 (set5 HX1.out _ _ _ _ _))) rfl ?_
  refine ⟨below5 HB1.out HRe.out _ _ _ _ _, fun h => (by rw [HRes.out] at h; cases h), fun T r h => ?_⟩
  rw [HRes.out] at h
  cases h
  exact ⟨none, 0, 0, none, 0, 0, by rw [HEe.out]; rfl, Rd.leaf _ _ _ _⟩
set_option maxRecDepth 100000 in
set_option maxHeartbeats 3200000 in
theorem tk_t (s : ByteArray) (a0 : Nat) (f : Nat) (w : World) (hs : s.size ≤ 30000000) (hf : f ≤ 5) (ha : a0 < s.size) (hc : s[a0].toNat = 116) (n : Nat) (r : Bs) (hn : numD (s.data.toList.drop (a0 + 1)) = some (n, r)) : Calls Tryz.prog 68 #[.string s, i64 a0, i64 (f + 1 : Nat)] w (Gok w s.size (takeD (f + 1) (s.data.toList.drop a0))) := by
  obtain ⟨res, hres⟩ : ∃ res, res = takeD (f + 1) (s.data.toList.drop a0) := ⟨_, rfl⟩
  rw [← hres]
  have kc : s[a0] = 116 := UInt8.toNat_inj.1 hc
  have HRes : Hid (res = some (.mk 2 n [] [], r)) := by show _ = _; rw [hres, drop_at s a0 ha, kc]; simp [takeD, hn]
  have HNV : Hid (numV (s.data.toList.drop (a0 + 1)) s.size = ((n : Int), ((s.size - r.length : Nat) : Int))) := by show _ = _; unfold numV; rw [hn]
  have HHC := hid hc
  clear hres hn kc
  obtain ⟨D, hD⟩ : ∃ D : Int, D = ((f + 1 : Nat) : Int) := ⟨_, rfl⟩
  have hD1 : 1 ≤ D := by omega
  have hD6 : D ≤ 6 := by omega
  have HDe := hid hD
  have qD : (D == 0) = false := by simp; omega
  rw [← hD]
  clear hD
  have q114 : ((s[a0].toNat : Int) == 114) = false := by simp; omega
  have q105 : ((s[a0].toNat : Int) == 105) = false := by simp; omega
  have q116 : ((s[a0].toNat : Int) == 116) = true := by simp; omega
  clear hc
  obtain ⟨E, hE⟩ : ∃ E, E = s.size - r.length := ⟨_, rfl⟩
  have hE2 : E ≤ 30000000 := by omega
  have HEe := hid hE
  rw [← hE] at HNV
  clear hE
  have HX : Hid ((w.alloc (.cells #[i64 0, i64 0, .slice none 0 0, .slice none 0 0, i64 0] 139)).heap[w.heap.size]? = some (.cells #[i64 0, i64 0, .slice none 0 0, .slice none 0 0, i64 0] 139)) := heap_last w _
  have HBV : Hid (Below w.heap.size w (w.alloc (.cells #[i64 0, i64 0, .slice none 0 0, .slice none 0 0, i64 0] 139))) := below_one w _
  go_enter Tryz.func68, Tryz.ntmps68
  go_upto_region 1 with fail
  obtain ⟨R, hR⟩ : ∃ R, R = w.heap.size := ⟨_, rfl⟩
  have HRe : Hid (w.heap.size ≤ R) := by show _ ≤ _; omega
  rw [← hR] at HX ⊢
  clear hR
  generalize w.alloc (.cells #[i64 0, i64 0, .slice none 0 0, .slice none 0 0, i64 0] 139) = V at *
  have HNU : Hid (Calls Tryz.prog 90 #[.string s, i64 ((a0 : Int) + 1)] V fun e w' => e = .returned (.agg #[i64 n, i64 E]) ∧ Below V.heap.size V w') := by
    have := rnum_s s (a0 + 1) V hs (by omega)
    rw [HNV.out] at this
    exact this
  go_wp2_with fail
  refine HNU.out.mono ?_
  rintro e w1 ⟨rfl, hb1⟩
  have HB1 : Hid (Below w.heap.size w (w1.alloc (.cells #[i64 n, i64 E] 159))) := (HBV.out.trans (hb1.mono HBV.out.size)).trans ((below_one w1 _).mono (by have h1 := HBV.out.size; have h2 := hb1.size; omega))
  have HX1 : Hid ((w1.alloc (.cells #[i64 n, i64 E] 159)).heap[R]? = some (.cells #[i64 0, i64 0, .slice none 0 0, .slice none 0 0, i64 0] 139)) := blk_alloc (blk_below HX.out hb1) _
  have HQ1 : Hid ((w1.alloc (.cells #[i64 n, i64 E] 159)).heap[w1.heap.size]? = some (.cells #[i64 n, i64 E] 159)) := heap_last w1 _
  clear hb1 HNU
  go_upto_region 6 with fail
  obtain ⟨Q, hQ⟩ : ∃ Q, Q = w1.heap.size := ⟨_, rfl⟩
  rw [← hQ] at HQ1 ⊢
  clear hQ
  generalize w1.alloc (.cells #[i64 n, i64 E] 159) = W at *
  have rc0 : W.cell? ⟨R, 0, none⟩ = some (i64 0) := blk_cell HX1.out 0
  have rf0 : W.frozen? ⟨R, 0, none⟩ = false := blk_frozen HX1.out 0
  have rc1 : W.cell? ⟨R, 1, none⟩ = some (i64 0) := blk_cell HX1.out 1
  have rf1 : W.frozen? ⟨R, 1, none⟩ = false := blk_frozen HX1.out 1
  have rc2 : W.cell? ⟨R, 2, none⟩ = some (.slice none 0 0) := blk_cell HX1.out 2
  have rf2 : W.frozen? ⟨R, 2, none⟩ = false := blk_frozen HX1.out 2
  have rc3 : W.cell? ⟨R, 3, none⟩ = some (.slice none 0 0) := blk_cell HX1.out 3
  have rf3 : W.frozen? ⟨R, 3, none⟩ = false := blk_frozen HX1.out 3
  have rc4 : W.cell? ⟨R, 4, none⟩ = some (i64 0) := blk_cell HX1.out 4
  have rf4 : W.frozen? ⟨R, 4, none⟩ = false := blk_frozen HX1.out 4
  have nc0 : W.cell? ⟨Q, 0, none⟩ = some (i64 n) := blk_cell HQ1.out 0
  have nc1 : W.cell? ⟨Q, 1, none⟩ = some (i64 E) := blk_cell HQ1.out 1
  go_wp2_with fail
  refine bodyPost_ret (v := gotV 2 n (.slice none 0 0) (.slice none 0 0) E) (results_one Tryz.results68 rfl (load63 (set5 HX1.out _ _ _ _ _))) rfl ?_
  refine ⟨below5 HB1.out HRe.out _ _ _ _ _, fun h => (by rw [HRes.out] at h; cases h), fun T r h => ?_⟩
  rw [HRes.out] at h
  cases h
  exact ⟨none, 0, 0, none, 0, 0, by rw [HEe.out]; rfl, Rd.leaf _ _ _ _⟩
set_option maxRecDepth 100000 in
set_option maxHeartbeats 3200000 in
theorem tk_x (s : ByteArray) (a0 : Nat) (f : Nat) (w : World) (hs : s.size ≤ 30000000) (hf : f ≤ 5) (ha : a0 < s.size) (h114 : s[a0].toNat ≠ 114) (h105 : s[a0].toNat ≠ 105) (h116 : s[a0].toNat ≠ 116) (h108 : s[a0].toNat ≠ 108) (n : Nat) (r : Bs) (hn : numD (s.data.toList.drop (a0 + 1)) = some (n, r)) : Calls Tryz.prog 68 #[.string s, i64 a0, i64 (f + 1 : Nat)] w (Gok w s.size (takeD (f + 1) (s.data.toList.drop a0))) := by
  obtain ⟨res, hres⟩ : ∃ res, res = takeD (f + 1) (s.data.toList.drop a0) := ⟨_, rfl⟩
  rw [← hres]
  have k114 : s[a0] ≠ 114 := fun e => h114 (by rw [e]; rfl)
  have k105 : s[a0] ≠ 105 := fun e => h105 (by rw [e]; rfl)
  have k116 : s[a0] ≠ 116 := fun e => h116 (by rw [e]; rfl)
  have k108 : s[a0] ≠ 108 := fun e => h108 (by rw [e]; rfl)
  have HRes : Hid (res = none) := by show _ = _; rw [hres, drop_at s a0 ha]; simp [takeD, k114, k105, k116, k108, hn]
  have HNV : Hid (numV (s.data.toList.drop (a0 + 1)) s.size = ((n : Int), ((s.size - r.length : Nat) : Int))) := by show _ = _; unfold numV; rw [hn]
  clear hres hn k114 k105 k116 k108
  obtain ⟨D, hD⟩ : ∃ D : Int, D = ((f + 1 : Nat) : Int) := ⟨_, rfl⟩
  have hD1 : 1 ≤ D := by omega
  have hD6 : D ≤ 6 := by omega
  have HDe := hid hD
  have qD : (D == 0) = false := by simp; omega
  rw [← hD]
  clear hD
  have q114 : ((s[a0].toNat : Int) == 114) = false := by simp; omega
  have q105 : ((s[a0].toNat : Int) == 105) = false := by simp; omega
  have q116 : ((s[a0].toNat : Int) == 116) = false := by simp; omega
  have q108 : ((s[a0].toNat : Int) == 108) = false := by simp; omega
  obtain ⟨E, hE⟩ : ∃ E, E = s.size - r.length := ⟨_, rfl⟩
  have hE2 : E ≤ 30000000 := by omega
  have HEe := hid hE
  rw [← hE] at HNV
  clear hE
  have HX : Hid ((w.alloc (.cells #[i64 0, i64 0, .slice none 0 0, .slice none 0 0, i64 0] 139)).heap[w.heap.size]? = some (.cells #[i64 0, i64 0, .slice none 0 0, .slice none 0 0, i64 0] 139)) := heap_last w _
  have HBV : Hid (Below w.heap.size w (w.alloc (.cells #[i64 0, i64 0, .slice none 0 0, .slice none 0 0, i64 0] 139))) := below_one w _
  go_enter Tryz.func68, Tryz.ntmps68
  go_upto_region 1 with fail
  obtain ⟨R, hR⟩ : ∃ R, R = w.heap.size := ⟨_, rfl⟩
  have HRe : Hid (w.heap.size ≤ R) := by show _ ≤ _; omega
  rw [← hR] at HX ⊢
  clear hR
  generalize w.alloc (.cells #[i64 0, i64 0, .slice none 0 0, .slice none 0 0, i64 0] 139) = V at *
  have HNU : Hid (Calls Tryz.prog 90 #[.string s, i64 ((a0 : Int) + 1)] V fun e w' => e = .returned (.agg #[i64 n, i64 E]) ∧ Below V.heap.size V w') := by
    have := rnum_s s (a0 + 1) V hs (by omega)
    rw [HNV.out] at this
    exact this
  go_wp2_with fail
  refine HNU.out.mono ?_
  rintro e w1 ⟨rfl, hb1⟩
  have HB1 : Hid (Below w.heap.size w (w1.alloc (.cells #[i64 n, i64 E] 159))) := (HBV.out.trans (hb1.mono HBV.out.size)).trans ((below_one w1 _).mono (by have h1 := HBV.out.size; have h2 := hb1.size; omega))
  have HX1 : Hid ((w1.alloc (.cells #[i64 n, i64 E] 159)).heap[R]? = some (.cells #[i64 0, i64 0, .slice none 0 0, .slice none 0 0, i64 0] 139)) := blk_alloc (blk_below HX.out hb1) _
  have HQ1 : Hid ((w1.alloc (.cells #[i64 n, i64 E] 159)).heap[w1.heap.size]? = some (.cells #[i64 n, i64 E] 159)) := heap_last w1 _
  clear hb1 HNU
  go_upto_region 6 with fail
  obtain ⟨Q, hQ⟩ : ∃ Q, Q = w1.heap.size := ⟨_, rfl⟩
  rw [← hQ] at HQ1 ⊢
  clear hQ
  generalize w1.alloc (.cells #[i64 n, i64 E] 159) = W at *
  have rc0 : W.cell? ⟨R, 0, none⟩ = some (i64 0) := blk_cell HX1.out 0
  have rf0 : W.frozen? ⟨R, 0, none⟩ = false := blk_frozen HX1.out 0
  have rc1 : W.cell? ⟨R, 1, none⟩ = some (i64 0) := blk_cell HX1.out 1
  have rf1 : W.frozen? ⟨R, 1, none⟩ = false := blk_frozen HX1.out 1
  have rc2 : W.cell? ⟨R, 2, none⟩ = some (.slice none 0 0) := blk_cell HX1.out 2
  have rf2 : W.frozen? ⟨R, 2, none⟩ = false := blk_frozen HX1.out 2
  have rc3 : W.cell? ⟨R, 3, none⟩ = some (.slice none 0 0) := blk_cell HX1.out 3
  have rf3 : W.frozen? ⟨R, 3, none⟩ = false := blk_frozen HX1.out 3
  have rc4 : W.cell? ⟨R, 4, none⟩ = some (i64 0) := blk_cell HX1.out 4
  have rf4 : W.frozen? ⟨R, 4, none⟩ = false := blk_frozen HX1.out 4
  have nc0 : W.cell? ⟨Q, 0, none⟩ = some (i64 n) := blk_cell HQ1.out 0
  have nc1 : W.cell? ⟨Q, 1, none⟩ = some (i64 E) := blk_cell HQ1.out 1
  go_wp2_with fail
  refine bodyPost_ret (v := gotV 0 0 (.slice none 0 0) (.slice none 0 0) (-1)) (results_one Tryz.results68 rfl (load63 (set5 HX1.out _ _ _ _ _))) rfl ?_
  exact ⟨below5 HB1.out HRe.out _ _ _ _ _, fun _ => rfl, fun T r h => by rw [HRes.out] at h; cases h⟩
end Go.Proofs.YtjppcfjjpkniaaaGreatDoor
namespace Go.Proofs.YtjppcfjjpkniaaaGreatDoor
open Go.ChangeShapes Go.WideShapes Go.ChangeAt Go.RowKit Go.Deep
attribute [local go_sem ↓] Go.wp_at_zero Go.wp_at_succ

theorem hdB_head (l : Bs) (c : UInt8) : hdB l c = decide (l.head? = some c) := by
  cases l with
  | nil => rfl
  | cons b r => simp [hdB]
theorem Rd.set5 {w : World} {lo lo' R : Nat} {T : Ty} {nv kv : Value} (h : Rd w (fun b => lo' ≤ b) T nv kv) (h1 : R < lo') (h2 : lo ≤ lo') (a0 a1 a2 a3 a4 : Value) : Rd (((((w.setCell ⟨R, 0, none⟩ a0).setCell ⟨R, 1, none⟩ a1).setCell ⟨R, 2, none⟩ a2).setCell ⟨R, 3, none⟩ a3).setCell ⟨R, 4, none⟩ a4) (fun b => lo ≤ b) T nv kv := by
  refine h.move (by simp [World.setCell]) (fun b hb _ => ⟨by omega, ?_⟩)
  have hne : b ≠ R := by omega
  rw [Below.heap_setCell _ _ _ _ hne, Below.heap_setCell _ _ _ _ hne, Below.heap_setCell _ _ _ _ hne, Below.heap_setCell _ _ _ _ hne, Below.heap_setCell _ _ _ _ hne]
set_option maxRecDepth 100000 in
set_option maxHeartbeats 3200000 in
theorem tk_r0 (s : ByteArray) (a0 : Nat) (f : Nat) (w : World) (hs : s.size ≤ 30000000) (hf : f ≤ 5) (ha : a0 < s.size) (hc : s[a0].toNat = 114) (h40 : hdB (s.data.toList.drop (a0 + 1)) 40 = false) (hn : numD (s.data.toList.drop (a0 + 1)) = none) : Calls Tryz.prog 68 #[.string s, i64 a0, i64 (f + 1 : Nat)] w (Gok w s.size (takeD (f + 1) (s.data.toList.drop a0))) := by
  obtain ⟨res, hres⟩ : ∃ res, res = takeD (f + 1) (s.data.toList.drop a0) := ⟨_, rfl⟩
  rw [← hres]
  have kc : s[a0] = 114 := UInt8.toNat_inj.1 hc
  have k40 : ¬ (s.data.toList.drop (a0 + 1)).head? = some 40 := by rw [hdB_head] at h40; simpa using h40
  have HRes : Hid (res = none) := by
    show _ = _
    rw [hres, drop_at s a0 ha, kc]
    simp only [takeD]
    rw [if_neg (fun e => k40 e.2), hn]
    try rfl
  have HNV : Hid (numV (s.data.toList.drop (a0 + 1)) s.size = (0, -1)) := by show _ = _; unfold numV; rw [hn]
  have HH := hid h40
  have HHC := hid hc
  clear hres hn kc k40 h40
  obtain ⟨D, hD⟩ : ∃ D : Int, D = ((f + 1 : Nat) : Int) := ⟨_, rfl⟩
  have hD1 : 1 ≤ D := by omega
  have hD6 : D ≤ 6 := by omega
  have HDe := hid hD
  have qD : (D == 0) = false := by simp; omega
  rw [← hD]
  clear hD
  have q105 : ((s[a0].toNat : Int) == 105) = false := by simp; omega
  have q116 : ((s[a0].toNat : Int) == 116) = false := by simp; omega
  have q108 : ((s[a0].toNat : Int) == 108) = false := by simp; omega
  have q114 : ((s[a0].toNat : Int) == 114) = true := by simp; omega
  clear hc
  have HX : Hid ((w.alloc (.cells #[i64 0, i64 0, .slice none 0 0, .slice none 0 0, i64 0] 139)).heap[w.heap.size]? = some (.cells #[i64 0, i64 0, .slice none 0 0, .slice none 0 0, i64 0] 139)) := heap_last w _
  have HBV : Hid (Below w.heap.size w (w.alloc (.cells #[i64 0, i64 0, .slice none 0 0, .slice none 0 0, i64 0] 139))) := below_one w _
  go_enter Tryz.func68, Tryz.ntmps68
  go_upto_region 1 with fail
  obtain ⟨R, hR⟩ : ∃ R, R = w.heap.size := ⟨_, rfl⟩
  have HRe : Hid (w.heap.size ≤ R) := by show _ ≤ _; omega
  rw [← hR] at HX ⊢
  clear hR
  generalize w.alloc (.cells #[i64 0, i64 0, .slice none 0 0, .slice none 0 0, i64 0] 139) = V at *
  have HIS : Hid (Calls Tryz.prog 88 #[.string s, i64 ((a0 : Int) + 1), .int .u8 40] V fun e w' => e = .returned (.bool false) ∧ w' = V) := by
    have := is_s s (a0 + 1) 40 V
    rw [HH.out] at this
    exact this
  have HNU : Hid (Calls Tryz.prog 90 #[.string s, i64 ((a0 : Int) + 1)] V fun e w' => e = .returned (.agg #[i64 0, i64 (-1)]) ∧ Below V.heap.size V w') := by
    have := rnum_s s (a0 + 1) V hs (by omega)
    rw [HNV.out] at this
    exact this
  go_wp2_with fail
  refine HIS.out.mono ?_
  rintro e v9 ⟨rfl, hv9⟩
  subst hv9
  go_wp2_with fail
  refine HNU.out.mono ?_
  rintro e w1 ⟨rfl, hb1⟩
  have HB1 : Hid (Below w.heap.size w (w1.alloc (.cells #[i64 0, i64 (-1)] 159))) := (HBV.out.trans (hb1.mono HBV.out.size)).trans ((below_one w1 _).mono (by have h1 := HBV.out.size; have h2 := hb1.size; omega))
  have HX1 : Hid ((w1.alloc (.cells #[i64 0, i64 (-1)] 159)).heap[R]? = some (.cells #[i64 0, i64 0, .slice none 0 0, .slice none 0 0, i64 0] 139)) := blk_alloc (blk_below HX.out hb1) _
  have HQ1 : Hid ((w1.alloc (.cells #[i64 0, i64 (-1)] 159)).heap[w1.heap.size]? = some (.cells #[i64 0, i64 (-1)] 159)) := heap_last w1 _
  clear hb1 HNU
  go_upto_region 6 with fail
  obtain ⟨Q, hQ⟩ : ∃ Q, Q = w1.heap.size := ⟨_, rfl⟩
  rw [← hQ] at HQ1 ⊢
  clear hQ
  generalize w1.alloc (.cells #[i64 0, i64 (-1)] 159) = W at *
  have rc0 : W.cell? ⟨R, 0, none⟩ = some (i64 0) := blk_cell HX1.out 0
  have rf0 : W.frozen? ⟨R, 0, none⟩ = false := blk_frozen HX1.out 0
  have rc1 : W.cell? ⟨R, 1, none⟩ = some (i64 0) := blk_cell HX1.out 1
  have rf1 : W.frozen? ⟨R, 1, none⟩ = false := blk_frozen HX1.out 1
  have rc2 : W.cell? ⟨R, 2, none⟩ = some (.slice none 0 0) := blk_cell HX1.out 2
  have rf2 : W.frozen? ⟨R, 2, none⟩ = false := blk_frozen HX1.out 2
  have rc3 : W.cell? ⟨R, 3, none⟩ = some (.slice none 0 0) := blk_cell HX1.out 3
  have rf3 : W.frozen? ⟨R, 3, none⟩ = false := blk_frozen HX1.out 3
  have rc4 : W.cell? ⟨R, 4, none⟩ = some (i64 0) := blk_cell HX1.out 4
  have rf4 : W.frozen? ⟨R, 4, none⟩ = false := blk_frozen HX1.out 4
  have nc0 : W.cell? ⟨Q, 0, none⟩ = some (i64 0) := blk_cell HQ1.out 0
  have nc1 : W.cell? ⟨Q, 1, none⟩ = some (i64 (-1)) := blk_cell HQ1.out 1
  go_wp2_with fail
  refine bodyPost_ret (v := gotV 0 0 (.slice none 0 0) (.slice none 0 0) (-1)) (results_one Tryz.results68 rfl (load63 (set5 HX1.out _ _ _ _ _))) rfl ?_
  exact ⟨below5 HB1.out HRe.out _ _ _ _ _, fun _ => rfl, fun T r h => by rw [HRes.out] at h; cases h⟩
set_option maxRecDepth 100000 in
set_option maxHeartbeats 3200000 in
theorem tk_r1 (s : ByteArray) (a0 : Nat) (f : Nat) (w : World) (hs : s.size ≤ 30000000) (hf : f ≤ 5) (ha : a0 < s.size) (hc : s[a0].toNat = 114) (h40 : hdB (s.data.toList.drop (a0 + 1)) 40 = false) (n : Nat) (r : Bs) (hn : numD (s.data.toList.drop (a0 + 1)) = some (n, r)) : Calls Tryz.prog 68 #[.string s, i64 a0, i64 (f + 1 : Nat)] w (Gok w s.size (takeD (f + 1) (s.data.toList.drop a0))) := by
  obtain ⟨res, hres⟩ : ∃ res, res = takeD (f + 1) (s.data.toList.drop a0) := ⟨_, rfl⟩
  rw [← hres]
  have kc : s[a0] = 114 := UInt8.toNat_inj.1 hc
  have k40 : ¬ (s.data.toList.drop (a0 + 1)).head? = some 40 := by rw [hdB_head] at h40; simpa using h40
  have HRes : Hid (res = none) := by
    show _ = _
    rw [hres, drop_at s a0 ha, kc]
    simp only [takeD]
    rw [if_neg (fun e => k40 e.2), hn]
    simp
  have HNV : Hid (numV (s.data.toList.drop (a0 + 1)) s.size = ((n : Int), ((s.size - r.length : Nat) : Int))) := by show _ = _; unfold numV; rw [hn]
  have HH := hid h40
  have HHC := hid hc
  clear hres hn kc k40 h40
  obtain ⟨D, hD⟩ : ∃ D : Int, D = ((f + 1 : Nat) : Int) := ⟨_, rfl⟩
  have hD1 : 1 ≤ D := by omega
  have hD6 : D ≤ 6 := by omega
  have HDe := hid hD
  have qD : (D == 0) = false := by simp; omega
  rw [← hD]
  clear hD
  have q105 : ((s[a0].toNat : Int) == 105) = false := by simp; omega
  have q116 : ((s[a0].toNat : Int) == 116) = false := by simp; omega
  have q108 : ((s[a0].toNat : Int) == 108) = false := by simp; omega
  have q114 : ((s[a0].toNat : Int) == 114) = true := by simp; omega
  clear hc
  obtain ⟨E, hE⟩ : ∃ E, E = s.size - r.length := ⟨_, rfl⟩
  have hE2 : E ≤ 30000000 := by omega
  have HEe := hid hE
  rw [← hE] at HNV
  clear hE
  have HX : Hid ((w.alloc (.cells #[i64 0, i64 0, .slice none 0 0, .slice none 0 0, i64 0] 139)).heap[w.heap.size]? = some (.cells #[i64 0, i64 0, .slice none 0 0, .slice none 0 0, i64 0] 139)) := heap_last w _
  have HBV : Hid (Below w.heap.size w (w.alloc (.cells #[i64 0, i64 0, .slice none 0 0, .slice none 0 0, i64 0] 139))) := below_one w _
  go_enter Tryz.func68, Tryz.ntmps68
  go_upto_region 1 with fail
  obtain ⟨R, hR⟩ : ∃ R, R = w.heap.size := ⟨_, rfl⟩
  have HRe : Hid (w.heap.size ≤ R) := by show _ ≤ _; omega
  rw [← hR] at HX ⊢
  clear hR
  generalize w.alloc (.cells #[i64 0, i64 0, .slice none 0 0, .slice none 0 0, i64 0] 139) = V at *
  have HIS : Hid (Calls Tryz.prog 88 #[.string s, i64 ((a0 : Int) + 1), .int .u8 40] V fun e w' => e = .returned (.bool false) ∧ w' = V) := by
    have := is_s s (a0 + 1) 40 V
    rw [HH.out] at this
    exact this
  have HNU : Hid (Calls Tryz.prog 90 #[.string s, i64 ((a0 : Int) + 1)] V fun e w' => e = .returned (.agg #[i64 n, i64 E]) ∧ Below V.heap.size V w') := by
    have := rnum_s s (a0 + 1) V hs (by omega)
    rw [HNV.out] at this
    exact this
  go_wp2_with fail
  refine HIS.out.mono ?_
  rintro e v9 ⟨rfl, hv9⟩
  subst hv9
  go_wp2_with fail
  refine HNU.out.mono ?_
  rintro e w1 ⟨rfl, hb1⟩
  have HB1 : Hid (Below w.heap.size w (w1.alloc (.cells #[i64 n, i64 E] 159))) := (HBV.out.trans (hb1.mono HBV.out.size)).trans ((below_one w1 _).mono (by have h1 := HBV.out.size; have h2 := hb1.size; omega))
  have HX1 : Hid ((w1.alloc (.cells #[i64 n, i64 E] 159)).heap[R]? = some (.cells #[i64 0, i64 0, .slice none 0 0, .slice none 0 0, i64 0] 139)) := blk_alloc (blk_below HX.out hb1) _
  have HQ1 : Hid ((w1.alloc (.cells #[i64 n, i64 E] 159)).heap[w1.heap.size]? = some (.cells #[i64 n, i64 E] 159)) := heap_last w1 _
  clear hb1 HNU
  go_upto_region 6 with fail
  obtain ⟨Q, hQ⟩ : ∃ Q, Q = w1.heap.size := ⟨_, rfl⟩
  rw [← hQ] at HQ1 ⊢
  clear hQ
  generalize w1.alloc (.cells #[i64 n, i64 E] 159) = W at *
  have rc0 : W.cell? ⟨R, 0, none⟩ = some (i64 0) := blk_cell HX1.out 0
  have rf0 : W.frozen? ⟨R, 0, none⟩ = false := blk_frozen HX1.out 0
  have rc1 : W.cell? ⟨R, 1, none⟩ = some (i64 0) := blk_cell HX1.out 1
  have rf1 : W.frozen? ⟨R, 1, none⟩ = false := blk_frozen HX1.out 1
  have rc2 : W.cell? ⟨R, 2, none⟩ = some (.slice none 0 0) := blk_cell HX1.out 2
  have rf2 : W.frozen? ⟨R, 2, none⟩ = false := blk_frozen HX1.out 2
  have rc3 : W.cell? ⟨R, 3, none⟩ = some (.slice none 0 0) := blk_cell HX1.out 3
  have rf3 : W.frozen? ⟨R, 3, none⟩ = false := blk_frozen HX1.out 3
  have rc4 : W.cell? ⟨R, 4, none⟩ = some (i64 0) := blk_cell HX1.out 4
  have rf4 : W.frozen? ⟨R, 4, none⟩ = false := blk_frozen HX1.out 4
  have nc0 : W.cell? ⟨Q, 0, none⟩ = some (i64 n) := blk_cell HQ1.out 0
  have nc1 : W.cell? ⟨Q, 1, none⟩ = some (i64 E) := blk_cell HQ1.out 1
  go_wp2_with fail
  refine bodyPost_ret (v := gotV 0 0 (.slice none 0 0) (.slice none 0 0) (-1)) (results_one Tryz.results68 rfl (load63 (set5 HX1.out _ _ _ _ _))) rfl ?_
  exact ⟨below5 HB1.out HRe.out _ _ _ _ _, fun _ => rfl, fun T r h => by rw [HRes.out] at h; cases h⟩
end Go.Proofs.YtjppcfjjpkniaaaGreatDoor
namespace Go.Proofs.YtjppcfjjpkniaaaGreatDoor
open Go.ChangeShapes Go.WideShapes Go.ChangeAt Go.RowKit Go.Deep
attribute [local go_sem ↓] Go.wp_at_zero Go.wp_at_succ

set_option maxRecDepth 100000 in
set_option maxHeartbeats 3200000 in
theorem tk_rec (s : ByteArray) (a0 : Nat) (f : Nat) (w : World) (hs : s.size ≤ 30000000) (hf : f ≤ 5) (ha : a0 < s.size) (hc : s[a0].toNat = 114) (h40 : hdB (s.data.toList.drop (a0 + 1)) 40 = true)
    (hfl : ∀ w, Calls Tryz.prog 89 #[.string s, i64 (a0 + 2 : Nat), i64 (f + 1 : Nat)] w (Gok w s.size (recD (takeD f) 13 (s.data.toList.drop (a0 + 2)) [] []))) : Calls Tryz.prog 68 #[.string s, i64 a0, i64 (f + 1 : Nat)] w (Gok w s.size (takeD (f + 1) (s.data.toList.drop a0))) := by
  obtain ⟨res, hres⟩ : ∃ res, res = takeD (f + 1) (s.data.toList.drop a0) := ⟨_, rfl⟩
  rw [← hres]
  have kc : s[a0] = 114 := UInt8.toNat_inj.1 hc
  have k40 : (s.data.toList.drop (a0 + 1)).head? = some 40 := by rw [hdB_head] at h40; simpa using h40
  have HRs : Hid (res = recD (takeD f) 13 (s.data.toList.drop (a0 + 2)) [] []) := by
    show _ = _
    rw [hres, drop_at s a0 ha, kc]
    unfold takeD
    show (if (114 : UInt8) = 114 ∧ _ then _ else _) = _
    rw [if_pos ⟨rfl, k40⟩, List.tail_drop]
  have HH := hid h40
  have HHC := hid hc
  have HFL0 := hid hfl
  clear hres kc k40 h40 hfl
  obtain ⟨D, hD⟩ : ∃ D : Int, D = ((f + 1 : Nat) : Int) := ⟨_, rfl⟩
  have hD1 : 1 ≤ D := by omega
  have hD6 : D ≤ 6 := by omega
  have HDe := hid hD
  have qD : (D == 0) = false := by simp; omega
  rw [← hD]
  clear hD
  have q114 : ((s[a0].toNat : Int) == 114) = true := by simp; omega
  clear hc
  have HX : Hid ((w.alloc (.cells #[i64 0, i64 0, .slice none 0 0, .slice none 0 0, i64 0] 139)).heap[w.heap.size]? = some (.cells #[i64 0, i64 0, .slice none 0 0, .slice none 0 0, i64 0] 139)) := heap_last w _
  have HBV : Hid (Below w.heap.size w (w.alloc (.cells #[i64 0, i64 0, .slice none 0 0, .slice none 0 0, i64 0] 139))) := below_one w _
  go_enter Tryz.func68, Tryz.ntmps68
  go_upto_region 1 with fail
  obtain ⟨R, hR⟩ : ∃ R, R = w.heap.size := ⟨_, rfl⟩
  have HRe : Hid (w.heap.size ≤ R) := by show _ ≤ _; omega
  rw [← hR] at HX ⊢
  clear hR
  generalize w.alloc (.cells #[i64 0, i64 0, .slice none 0 0, .slice none 0 0, i64 0] 139) = V at *
  have HIS : Hid (Calls Tryz.prog 88 #[.string s, i64 ((a0 : Int) + 1), .int .u8 40] V fun e w' => e = .returned (.bool true) ∧ w' = V) := by
    have := is_s s (a0 + 1) 40 V
    rw [HH.out] at this
    exact this
  have HFL : Hid (Calls Tryz.prog 89 #[.string s, i64 ((a0 : Int) + 2), i64 D] V (Gok V s.size res)) := by
    have := HFL0.out V
    rw [← HRs.out, ← HDe.out, show ((a0 + 2 : Nat) : Int) = (a0 : Int) + 2 by omega] at this
    exact this
  have HRlt : Hid (R < V.heap.size) := blk_lt HX.out
  go_wp2_with fail
  refine HIS.out.mono ?_
  rintro e v9 ⟨rfl, hv9⟩
  subst hv9
  go_wp2_with fail
  refine HFL.out.mono ?_
  rintro e w1 ⟨hb1, hno, hyes⟩
  have HB1 : Hid (Below w.heap.size w w1) := HBV.out.trans (hb1.mono HBV.out.size)
  have HX1 : Hid (w1.heap[R]? = some (.cells #[i64 0, i64 0, .slice none 0 0, .slice none 0 0, i64 0] 139)) := blk_below HX.out hb1
  clear hb1 HFL HFL0
  have rc0 : w1.cell? ⟨R, 0, none⟩ = some (i64 0) := blk_cell HX1.out 0
  have rf0 : w1.frozen? ⟨R, 0, none⟩ = false := blk_frozen HX1.out 0
  have rc1 : w1.cell? ⟨R, 1, none⟩ = some (i64 0) := blk_cell HX1.out 1
  have rf1 : w1.frozen? ⟨R, 1, none⟩ = false := blk_frozen HX1.out 1
  have rc2 : w1.cell? ⟨R, 2, none⟩ = some (.slice none 0 0) := blk_cell HX1.out 2
  have rf2 : w1.frozen? ⟨R, 2, none⟩ = false := blk_frozen HX1.out 2
  have rc3 : w1.cell? ⟨R, 3, none⟩ = some (.slice none 0 0) := blk_cell HX1.out 3
  have rf3 : w1.frozen? ⟨R, 3, none⟩ = false := blk_frozen HX1.out 3
  have rc4 : w1.cell? ⟨R, 4, none⟩ = some (i64 0) := blk_cell HX1.out 4
  have rf4 : w1.frozen? ⟨R, 4, none⟩ = false := blk_frozen HX1.out 4
  rcases hre : res with _ | ⟨T, r⟩
  · obtain rfl := hno hre
    have HRes := hid hre
    clear hre hno hyes
    go_wp2_with fail
    refine bodyPost_ret (v := gotV 0 0 (.slice none 0 0) (.slice none 0 0) (-1)) (results_one Tryz.results68 rfl (load63 (set5 HX1.out _ _ _ _ _))) rfl ?_
    exact ⟨below5 HB1.out HRe.out _ _ _ _ _, fun _ => rfl, fun T r h => by rw [HRes.out] at h; cases h⟩
  · obtain ⟨b1, n1, c1, b2, n2, c2, rfl, hrd⟩ := hyes T r hre
    have HRD := hid hrd
    have HRes := hid hre
    clear hre hno hyes hrd
    obtain ⟨E, hE⟩ : ∃ E, E = s.size - r.length := ⟨_, rfl⟩
    have HEe := hid hE
    rw [← hE]
    clear hE
    go_wp2_with fail
    refine bodyPost_ret (v := gotV T.kind T.num (.slice b1 n1 c1) (.slice b2 n2 c2) E) (results_one Tryz.results68 rfl (load63 (set5 HX1.out _ _ _ _ _))) rfl ?_
    refine ⟨below5 HB1.out HRe.out _ _ _ _ _, fun h => (by rw [HRes.out] at h; cases h), fun T' r' h => ?_⟩
    rw [HRes.out] at h
    cases h
    exact ⟨b1, n1, c1, b2, n2, c2, by rw [HEe.out], HRD.out.set5 HRlt.out HBV.out.size _ _ _ _ _⟩
end Go.Proofs.YtjppcfjjpkniaaaGreatDoor
namespace Go.Proofs.YtjppcfjjpkniaaaGreatDoor
open Go.ChangeShapes Go.WideShapes Go.ChangeAt Go.RowKit Go.Deep
attribute [local go_sem ↓] Go.wp_at_zero Go.wp_at_succ

/-- The one kid of a list, in new memory, of any tag. -/
theorem Rd.oneT {w : World} {S : Nat → Prop} {T : Ty} {nv kv : Value} {b : Nat} {n : Int} {e : TypeId} (h : Rd w S T nv kv) (hb : w.heap[b]? = some (.cells #[i64 T.kind, i64 T.num, nv, kv] e)) (hS : S b) : Rd w S (.mk 3 n [] [T]) (.slice none 0 0) (.slice (some ⟨b, 0, none⟩) 1 1) := by
  refine .mk (kids := [T]) b 0 (fun _ => nv) (fun _ => kv) ⟨none, 0, rfl, Nat.zero_le _, ⟨Nat.le_refl _, fun x hx => by simp at hx⟩, Or.inl rfl⟩ (by unfold maxLen; simp) (Or.inr ⟨rfl, hS, blk_lt hb⟩) ?_ ?_
  · intro i T' hT
    have hi : i = 0 := by have := (List.getElem?_eq_some_iff.1 hT).1; simpa using this
    subst hi
    cases hT
    intro j v hv
    rw [blk_cell hb]
    simpa using hv
  · intro i T' hT
    have hi : i = 0 := by have := (List.getElem?_eq_some_iff.1 hT).1; simpa using this
    subst hi
    cases hT
    exact h
theorem list5 {V : World} {lo B : Nat} {T : Ty} {nv kv : Value} {n : Int} {e : TypeId} (h : Rd V (fun b => lo ≤ b) T nv kv) (hB : V.heap.size = B) (hlo : lo ≤ B) : Rd (V.alloc (.cells #[i64 T.kind, i64 T.num, nv, kv] e)) (fun b => lo ≤ b) (.mk 3 n [] [T]) (.slice none 0 0) (.slice (some ⟨B, 0, none⟩) 1 1) := by
  subst hB
  exact (h.under (below_one V _)).oneT (heap_last V _) hlo
def listD (f : Nat) (n : Nat) (r2 : Bs) : Option (Ty × Bs) := match r2 with
            | 40 :: r3 => match takeD f r3 with
              | some (t, 41 :: r4) => some (.mk 3 n [] [t], r4)
              | _ => none
            | _ => none
theorem listD_no {f n : Nat} {r : Bs} (h : hdB r 40 = false) : listD f n r = none := by
  rw [hdB_head] at h
  unfold listD
  split
  · simp at h
  · rfl
def lEnd (n : Nat) (ro : Option (Ty × Bs)) : Option (Ty × Bs) := match ro with | some (t, r) => if hdB r 41 = true then some (.mk 3 n [] [t], r.tail) else none | none => none
theorem listD_yes {f n : Nat} {r : Bs} (h : hdB r 40 = true) : listD f n r = lEnd n (takeD f r.tail) := by
  rw [hdB_head] at h
  cases r with
  | nil => simp at h
  | cons c r3 =>
    have hc : c = 40 := by simpa using h
    subst hc
    show (match takeD f r3 with | some (t, 41 :: r4) => some (Ty.mk 3 n [] [t], r4) | _ => none) = lEnd n (takeD f r3)
    rcases takeD f r3 with _ | ⟨t, _ | ⟨c, r4⟩⟩
    · rfl
    · rfl
    · by_cases h2 : c = 41
      · subst h2; rfl
      · have h3 : lEnd n (some (t, c :: r4)) = none := by simp [lEnd, hdB, h2]
        rw [h3]
        split
        · rename_i e; cases e; exact absurd rfl h2
        · rfl
theorem takeD_l {f n : Nat} {l r : Bs} (h : numD l = some (n, r)) : takeD (f + 1) (108 :: l) = listD f n r := by
  simp only [takeD]
  rw [if_neg (by rintro ⟨h, _⟩; cases h), h]
  simp [listD]
  first | rfl | (split <;> rfl)
set_option maxRecDepth 100000 in
set_option maxHeartbeats 3200000 in
theorem tk_l0 (s : ByteArray) (a0 : Nat) (f : Nat) (w : World) (hs : s.size ≤ 30000000) (hf : f ≤ 5) (ha : a0 < s.size) (hc : s[a0].toNat = 108) (n : Nat) (r : Bs) (hn : numD (s.data.toList.drop (a0 + 1)) = some (n, r)) (h40 : hdB r 40 = false) : Calls Tryz.prog 68 #[.string s, i64 a0, i64 (f + 1 : Nat)] w (Gok w s.size (takeD (f + 1) (s.data.toList.drop a0))) := by
  obtain ⟨res, hres⟩ : ∃ res, res = takeD (f + 1) (s.data.toList.drop a0) := ⟨_, rfl⟩
  rw [← hres]
  have kc : s[a0] = 108 := UInt8.toNat_inj.1 hc
  have HRes : Hid (res = none) := by show _ = _; rw [hres, drop_at s a0 ha, kc, takeD_l hn, listD_no h40]
  have HNV : Hid (numV (s.data.toList.drop (a0 + 1)) s.size = ((n : Int), ((s.size - r.length : Nat) : Int))) := by show _ = _; unfold numV; rw [hn]
  have HH := hid h40
  have HHC := hid hc
  clear hres kc h40
  obtain ⟨D, hD⟩ : ∃ D : Int, D = ((f + 1 : Nat) : Int) := ⟨_, rfl⟩
  have hD1 : 1 ≤ D := by omega
  have hD6 : D ≤ 6 := by omega
  have HDe := hid hD
  have qD : (D == 0) = false := by simp; omega
  rw [← hD]
  clear hD
  have q114 : ((s[a0].toNat : Int) == 114) = false := by simp; omega
  have q105 : ((s[a0].toNat : Int) == 105) = false := by simp; omega
  have q116 : ((s[a0].toNat : Int) == 116) = false := by simp; omega
  have q108 : ((s[a0].toNat : Int) == 108) = true := by simp; omega
  clear hc
  obtain ⟨E, hE⟩ : ∃ E, E = s.size - r.length := ⟨_, rfl⟩
  have hE2 : E ≤ 30000000 := by omega
  have HEe := hid hE
  have HSf : Hid (s.data.toList.drop E = r) := by show _ = _; rw [hE]; exact suf_drop (numD_suf hn)
  rw [← hE] at HNV
  clear hE hn
  have HX : Hid ((w.alloc (.cells #[i64 0, i64 0, .slice none 0 0, .slice none 0 0, i64 0] 139)).heap[w.heap.size]? = some (.cells #[i64 0, i64 0, .slice none 0 0, .slice none 0 0, i64 0] 139)) := heap_last w _
  have HBV : Hid (Below w.heap.size w (w.alloc (.cells #[i64 0, i64 0, .slice none 0 0, .slice none 0 0, i64 0] 139))) := below_one w _
  go_enter Tryz.func68, Tryz.ntmps68
  go_upto_region 1 with fail
  obtain ⟨R, hR⟩ : ∃ R, R = w.heap.size := ⟨_, rfl⟩
  have HRe : Hid (w.heap.size ≤ R) := by show _ ≤ _; omega
  rw [← hR] at HX ⊢
  clear hR
  generalize w.alloc (.cells #[i64 0, i64 0, .slice none 0 0, .slice none 0 0, i64 0] 139) = V at *
  have HNU : Hid (Calls Tryz.prog 90 #[.string s, i64 ((a0 : Int) + 1)] V fun e w' => e = .returned (.agg #[i64 n, i64 E]) ∧ Below V.heap.size V w') := by
    have := rnum_s s (a0 + 1) V hs (by omega)
    rw [HNV.out] at this
    exact this
  go_wp2_with fail
  refine HNU.out.mono ?_
  rintro e w1 ⟨rfl, hb1⟩
  have HB1 : Hid (Below w.heap.size w (w1.alloc (.cells #[i64 n, i64 E] 159))) := (HBV.out.trans (hb1.mono HBV.out.size)).trans ((below_one w1 _).mono (by have h1 := HBV.out.size; have h2 := hb1.size; omega))
  have HX1 : Hid ((w1.alloc (.cells #[i64 n, i64 E] 159)).heap[R]? = some (.cells #[i64 0, i64 0, .slice none 0 0, .slice none 0 0, i64 0] 139)) := blk_alloc (blk_below HX.out hb1) _
  have HQ1 : Hid ((w1.alloc (.cells #[i64 n, i64 E] 159)).heap[w1.heap.size]? = some (.cells #[i64 n, i64 E] 159)) := heap_last w1 _
  clear hb1 HNU
  go_upto_region 6 with fail
  obtain ⟨Q, hQ⟩ : ∃ Q, Q = w1.heap.size := ⟨_, rfl⟩
  rw [← hQ] at HQ1 ⊢
  clear hQ
  generalize w1.alloc (.cells #[i64 n, i64 E] 159) = W at *
  have rc0 : W.cell? ⟨R, 0, none⟩ = some (i64 0) := blk_cell HX1.out 0
  have rf0 : W.frozen? ⟨R, 0, none⟩ = false := blk_frozen HX1.out 0
  have rc1 : W.cell? ⟨R, 1, none⟩ = some (i64 0) := blk_cell HX1.out 1
  have rf1 : W.frozen? ⟨R, 1, none⟩ = false := blk_frozen HX1.out 1
  have rc2 : W.cell? ⟨R, 2, none⟩ = some (.slice none 0 0) := blk_cell HX1.out 2
  have rf2 : W.frozen? ⟨R, 2, none⟩ = false := blk_frozen HX1.out 2
  have rc3 : W.cell? ⟨R, 3, none⟩ = some (.slice none 0 0) := blk_cell HX1.out 3
  have rf3 : W.frozen? ⟨R, 3, none⟩ = false := blk_frozen HX1.out 3
  have rc4 : W.cell? ⟨R, 4, none⟩ = some (i64 0) := blk_cell HX1.out 4
  have rf4 : W.frozen? ⟨R, 4, none⟩ = false := blk_frozen HX1.out 4
  have nc0 : W.cell? ⟨Q, 0, none⟩ = some (i64 n) := blk_cell HQ1.out 0
  have nc1 : W.cell? ⟨Q, 1, none⟩ = some (i64 E) := blk_cell HQ1.out 1
  have HIS : Hid (Calls Tryz.prog 88 #[.string s, i64 (E : Nat), .int .u8 40] W fun e w' => e = .returned (.bool false) ∧ w' = W) := by
    have := is_s s E 40 W
    rw [HSf.out, HH.out] at this
    exact this
  go_wp2_with fail
  refine HIS.out.mono ?_
  rintro e v9 ⟨rfl, hv9⟩
  replace hv9 := hv9.symm
  subst hv9
  go_wp2_with fail
  refine bodyPost_ret (v := gotV 0 0 (.slice none 0 0) (.slice none 0 0) (-1)) (results_one Tryz.results68 rfl (load63 (set5 HX1.out _ _ _ _ _))) rfl ?_
  exact ⟨below5 HB1.out HRe.out _ _ _ _ _, fun _ => rfl, fun T r h => by rw [HRes.out] at h; cases h⟩
set_option maxRecDepth 100000 in
set_option maxHeartbeats 3200000 in
theorem tk_l1 (s : ByteArray) (a0 : Nat) (f : Nat) (w : World) (hs : s.size ≤ 30000000) (hf : f ≤ 5) (ha : a0 < s.size) (hc : s[a0].toNat = 108) (n : Nat) (r : Bs) (hn : numD (s.data.toList.drop (a0 + 1)) = some (n, r)) (h40 : hdB r 40 = true)
    (htk : ∀ w k, k ≤ s.size → Calls Tryz.prog 68 #[.string s, i64 (k : Nat), i64 (f : Nat)] w (Gok w s.size (takeD f (s.data.toList.drop k)))) : Calls Tryz.prog 68 #[.string s, i64 a0, i64 (f + 1 : Nat)] w (Gok w s.size (takeD (f + 1) (s.data.toList.drop a0))) := by
  obtain ⟨res, hres⟩ : ∃ res, res = takeD (f + 1) (s.data.toList.drop a0) := ⟨_, rfl⟩
  rw [← hres]
  have kc : s[a0] = 108 := UInt8.toNat_inj.1 hc
  have HRes0 : Hid (res = lEnd n (takeD f r.tail)) := by show _ = _; rw [hres, drop_at s a0 ha, kc, takeD_l hn, listD_yes h40]
  have HTK0 := hid htk
  have HNV : Hid (numV (s.data.toList.drop (a0 + 1)) s.size = ((n : Int), ((s.size - r.length : Nat) : Int))) := by show _ = _; unfold numV; rw [hn]
  have HH := hid h40
  have HHC := hid hc
  clear hres kc h40 htk
  obtain ⟨D, hD⟩ : ∃ D : Int, D = ((f + 1 : Nat) : Int) := ⟨_, rfl⟩
  have hD1 : 1 ≤ D := by omega
  have hD6 : D ≤ 6 := by omega
  have HDe := hid hD
  have qD : (D == 0) = false := by simp; omega
  rw [← hD]
  clear hD
  have q114 : ((s[a0].toNat : Int) == 114) = false := by simp; omega
  have q105 : ((s[a0].toNat : Int) == 105) = false := by simp; omega
  have q116 : ((s[a0].toNat : Int) == 116) = false := by simp; omega
  have q108 : ((s[a0].toNat : Int) == 108) = true := by simp; omega
  clear hc
  obtain ⟨E, hE⟩ : ∃ E, E = s.size - r.length := ⟨_, rfl⟩
  have hE2 : E ≤ 30000000 := by omega
  have HEe := hid hE
  have HSf : Hid (s.data.toList.drop E = r) := by show _ = _; rw [hE]; exact suf_drop (numD_suf hn)
  rw [← hE] at HNV
  clear hE hn
  have HX : Hid ((w.alloc (.cells #[i64 0, i64 0, .slice none 0 0, .slice none 0 0, i64 0] 139)).heap[w.heap.size]? = some (.cells #[i64 0, i64 0, .slice none 0 0, .slice none 0 0, i64 0] 139)) := heap_last w _
  have HBV : Hid (Below w.heap.size w (w.alloc (.cells #[i64 0, i64 0, .slice none 0 0, .slice none 0 0, i64 0] 139))) := below_one w _
  go_enter Tryz.func68, Tryz.ntmps68
  go_upto_region 1 with fail
  obtain ⟨R, hR⟩ : ∃ R, R = w.heap.size := ⟨_, rfl⟩
  have HRe : Hid (w.heap.size ≤ R) := by show _ ≤ _; omega
  rw [← hR] at HX ⊢
  clear hR
  generalize w.alloc (.cells #[i64 0, i64 0, .slice none 0 0, .slice none 0 0, i64 0] 139) = V at *
  have HNU : Hid (Calls Tryz.prog 90 #[.string s, i64 ((a0 : Int) + 1)] V fun e w' => e = .returned (.agg #[i64 n, i64 E]) ∧ Below V.heap.size V w') := by
    have := rnum_s s (a0 + 1) V hs (by omega)
    rw [HNV.out] at this
    exact this
  go_wp2_with fail
  refine HNU.out.mono ?_
  rintro e w1 ⟨rfl, hb1⟩
  have HB1 : Hid (Below w.heap.size w (w1.alloc (.cells #[i64 n, i64 E] 159))) := (HBV.out.trans (hb1.mono HBV.out.size)).trans ((below_one w1 _).mono (by have h1 := HBV.out.size; have h2 := hb1.size; omega))
  have HX1 : Hid ((w1.alloc (.cells #[i64 n, i64 E] 159)).heap[R]? = some (.cells #[i64 0, i64 0, .slice none 0 0, .slice none 0 0, i64 0] 139)) := blk_alloc (blk_below HX.out hb1) _
  have HQ1 : Hid ((w1.alloc (.cells #[i64 n, i64 E] 159)).heap[w1.heap.size]? = some (.cells #[i64 n, i64 E] 159)) := heap_last w1 _
  clear hb1 HNU
  go_upto_region 6 with fail
  obtain ⟨Q, hQ⟩ : ∃ Q, Q = w1.heap.size := ⟨_, rfl⟩
  rw [← hQ] at HQ1 ⊢
  clear hQ
  generalize w1.alloc (.cells #[i64 n, i64 E] 159) = W at *
  have rc0 : W.cell? ⟨R, 0, none⟩ = some (i64 0) := blk_cell HX1.out 0
  have rf0 : W.frozen? ⟨R, 0, none⟩ = false := blk_frozen HX1.out 0
  have rc1 : W.cell? ⟨R, 1, none⟩ = some (i64 0) := blk_cell HX1.out 1
  have rf1 : W.frozen? ⟨R, 1, none⟩ = false := blk_frozen HX1.out 1
  have rc2 : W.cell? ⟨R, 2, none⟩ = some (.slice none 0 0) := blk_cell HX1.out 2
  have rf2 : W.frozen? ⟨R, 2, none⟩ = false := blk_frozen HX1.out 2
  have rc3 : W.cell? ⟨R, 3, none⟩ = some (.slice none 0 0) := blk_cell HX1.out 3
  have rf3 : W.frozen? ⟨R, 3, none⟩ = false := blk_frozen HX1.out 3
  have rc4 : W.cell? ⟨R, 4, none⟩ = some (i64 0) := blk_cell HX1.out 4
  have rf4 : W.frozen? ⟨R, 4, none⟩ = false := blk_frozen HX1.out 4
  have nc0 : W.cell? ⟨Q, 0, none⟩ = some (i64 n) := blk_cell HQ1.out 0
  have nc1 : W.cell? ⟨Q, 1, none⟩ = some (i64 E) := blk_cell HQ1.out 1
  have HIS : Hid (Calls Tryz.prog 88 #[.string s, i64 (E : Nat), .int .u8 40] W fun e w' => e = .returned (.bool true) ∧ w' = W) := by
    have := is_s s E 40 W
    rw [HSf.out, HH.out] at this
    exact this
  go_wp2_with fail
  refine HIS.out.mono ?_
  rintro e v9 ⟨rfl, hv9⟩
  replace hv9 := hv9.symm
  subst hv9
  have HEr : Hid (E + 1 ≤ s.size ∧ s.data.toList.drop (E + 1) = r.tail) := by
    have h1 := HSf.out
    have h2 := HH.out
    cases r with
    | nil => cases h2
    | cons c r3 =>
      refine ⟨?_, ?_⟩
      · have h3 := congrArg List.length h1
        rw [List.length_drop, Array.length_toList, List.length_cons] at h3
        have h4 : s.data.size = s.size := rfl
        omega
      · rw [← List.tail_drop, h1]
  obtain ⟨ro, hro⟩ : ∃ ro, ro = takeD f r.tail := ⟨_, rfl⟩
  have HRo := hid hro
  have HRes1 : Hid (res = lEnd n ro) := by show _ = _; rw [HRes0.out, hro]
  have HTK : Hid (Calls Tryz.prog 68 #[.string s, i64 ((E : Int) + 1), i64 (D - 1)] W (Gok W s.size ro)) := by
    have := HTK0.out W (E + 1) HEr.out.1
    rw [HEr.out.2, ← hro] at this
    rw [HDe.out, show (((f + 1 : Nat) : Int) - 1) = ((f : Nat) : Int) by omega]
    exact this
  have HRW : Hid (R < W.heap.size) := blk_lt HX1.out
  have HQW : Hid (Q < W.heap.size) := blk_lt HQ1.out
  have HWw : Hid (w.heap.size ≤ W.heap.size) := HB1.out.size
  have HSufx : Hid (∀ T rr, ro = some (T, rr) → s.data.toList.drop (s.size - rr.length) = rr ∧ rr.length ≤ s.size) := by
    show ∀ T rr, _ → _
    intro T rr h
    have h1 := takeD_suf f _ T rr (hro ▸ h)
    rw [← HEr.out.2] at h1
    exact ⟨suf_drop h1, by have := suf_le h1; omega⟩
  clear hro HRo HRes0 HTK0
  go_wp2_with fail
  refine HTK.out.mono ?_
  rintro e w2 ⟨hb2, hno, hyes⟩
  have HB2 := hid hb2
  have HNO := hid hno
  have HYES := hid hyes
  clear hb2 hno hyes HTK rc0 rf0 rc1 rf1 rc2 rf2 rc3 rf3 rc4 rf4 nc0 nc1
  rcases hre : ro with _ | ⟨T, rr⟩
  · obtain rfl := HNO.out hre
    have HRes : Hid (res = none) := by show _ = _; rw [HRes1.out, hre]; rfl
    clear hre
    have HB3 : Hid (Below w.heap.size w (w2.alloc (.cells #[i64 0, i64 0, .slice none 0 0, .slice none 0 0, i64 (-1)] 139))) := (HB1.out.trans (HB2.out.mono HWw.out)).trans ((below_one w2 _).mono (by have h1 := HWw.out; have h2 := HB2.out.size; omega))
    have HX3 : Hid ((w2.alloc (.cells #[i64 0, i64 0, .slice none 0 0, .slice none 0 0, i64 (-1)] 139)).heap[R]? = some (.cells #[i64 0, i64 0, .slice none 0 0, .slice none 0 0, i64 0] 139)) := blk_alloc (blk_below HX1.out HB2.out) _
    have HQ3 : Hid ((w2.alloc (.cells #[i64 0, i64 0, .slice none 0 0, .slice none 0 0, i64 (-1)] 139)).heap[Q]? = some (.cells #[i64 n, i64 E] 159)) := blk_alloc (blk_below HQ1.out HB2.out) _
    have HG3 : Hid ((w2.alloc (.cells #[i64 0, i64 0, .slice none 0 0, .slice none 0 0, i64 (-1)] 139)).heap[w2.heap.size]? = some (.cells #[i64 0, i64 0, .slice none 0 0, .slice none 0 0, i64 (-1)] 139)) := heap_last w2 _
    have HGR : Hid (W.heap.size ≤ w2.heap.size) := HB2.out.size
    go_upto_region 17 with fail
    obtain ⟨G, hG⟩ : ∃ G, G = w2.heap.size := ⟨_, rfl⟩
    rw [← hG] at HG3 HGR ⊢
    clear hG
    generalize w2.alloc (.cells #[i64 0, i64 0, .slice none 0 0, .slice none 0 0, i64 (-1)] 139) = X at *
    have rc0 : X.cell? ⟨R, 0, none⟩ = some (i64 0) := blk_cell HX3.out 0
    have rf0 : X.frozen? ⟨R, 0, none⟩ = false := blk_frozen HX3.out 0
    have rc1 : X.cell? ⟨R, 1, none⟩ = some (i64 0) := blk_cell HX3.out 1
    have rf1 : X.frozen? ⟨R, 1, none⟩ = false := blk_frozen HX3.out 1
    have rc2 : X.cell? ⟨R, 2, none⟩ = some (.slice none 0 0) := blk_cell HX3.out 2
    have rf2 : X.frozen? ⟨R, 2, none⟩ = false := blk_frozen HX3.out 2
    have rc3 : X.cell? ⟨R, 3, none⟩ = some (.slice none 0 0) := blk_cell HX3.out 3
    have rf3 : X.frozen? ⟨R, 3, none⟩ = false := blk_frozen HX3.out 3
    have rc4 : X.cell? ⟨R, 4, none⟩ = some (i64 0) := blk_cell HX3.out 4
    have rf4 : X.frozen? ⟨R, 4, none⟩ = false := blk_frozen HX3.out 4
    have gc0 : X.cell? ⟨G, 0, none⟩ = some (i64 0) := blk_cell HG3.out 0
    have gc1 : X.cell? ⟨G, 1, none⟩ = some (i64 0) := blk_cell HG3.out 1
    have gc2 : X.cell? ⟨G, 2, none⟩ = some (.slice none 0 0) := blk_cell HG3.out 2
    have gc3 : X.cell? ⟨G, 3, none⟩ = some (.slice none 0 0) := blk_cell HG3.out 3
    have gc4 : X.cell? ⟨G, 4, none⟩ = some (i64 (-1)) := blk_cell HG3.out 4
    have nc0 : X.cell? ⟨Q, 0, none⟩ = some (i64 n) := blk_cell HQ3.out 0
    have nc1 : X.cell? ⟨Q, 1, none⟩ = some (i64 E) := blk_cell HQ3.out 1
    have HI4 : Hid (Calls Tryz.prog 88 #[.string s, i64 (-1), .int .u8 41] X fun e w' => e = .returned (.bool false) ∧ w' = X) := is_no s 41 X
    go_wp2_with fail
    refine HI4.out.mono ?_
    rintro e v9 ⟨rfl, hv9⟩
    replace hv9 := hv9.symm
    subst hv9
    go_wp2_with fail
    refine bodyPost_ret (v := gotV 0 0 (.slice none 0 0) (.slice none 0 0) (-1)) (results_one Tryz.results68 rfl (load63 (set5 HX3.out _ _ _ _ _))) rfl ?_
    exact ⟨below5 HB3.out HRe.out _ _ _ _ _, fun _ => rfl, fun T r h => by rw [HRes.out] at h; cases h⟩
  · obtain ⟨b1, n1, c1, b2, n2, c2, rfl, hrd⟩ := HYES.out T rr hre
    have HRes2 : Hid (res = if hdB rr 41 = true then some (.mk 3 n [] [T], rr.tail) else none) := by show _ = _; rw [HRes1.out, hre]; rfl
    obtain ⟨hS1, hS2⟩ := HSufx.out T rr hre
    obtain ⟨F, hF⟩ : ∃ F, F = s.size - rr.length := ⟨_, rfl⟩
    rw [← hF] at hS1 ⊢
    have hF1 : F ≤ 30000000 := by omega
    have HFe := hid hF
    have HSx := hid hS1
    have HSl := hid hS2
    clear hre hF hS1 hS2
    have HB3 : Hid (Below w.heap.size w (w2.alloc (.cells #[i64 T.kind, i64 T.num, .slice b1 n1 c1, .slice b2 n2 c2, i64 F] 139))) := (HB1.out.trans (HB2.out.mono HWw.out)).trans ((below_one w2 _).mono (by have h1 := HWw.out; have h2 := HB2.out.size; omega))
    have HX3 : Hid ((w2.alloc (.cells #[i64 T.kind, i64 T.num, .slice b1 n1 c1, .slice b2 n2 c2, i64 F] 139)).heap[R]? = some (.cells #[i64 0, i64 0, .slice none 0 0, .slice none 0 0, i64 0] 139)) := blk_alloc (blk_below HX1.out HB2.out) _
    have HQ3 : Hid ((w2.alloc (.cells #[i64 T.kind, i64 T.num, .slice b1 n1 c1, .slice b2 n2 c2, i64 F] 139)).heap[Q]? = some (.cells #[i64 n, i64 E] 159)) := blk_alloc (blk_below HQ1.out HB2.out) _
    have HG3 : Hid ((w2.alloc (.cells #[i64 T.kind, i64 T.num, .slice b1 n1 c1, .slice b2 n2 c2, i64 F] 139)).heap[w2.heap.size]? = some (.cells #[i64 T.kind, i64 T.num, .slice b1 n1 c1, .slice b2 n2 c2, i64 F] 139)) := heap_last w2 _
    have HGR : Hid (W.heap.size ≤ w2.heap.size) := HB2.out.size
    have HRD : Hid (Rd (w2.alloc (.cells #[i64 T.kind, i64 T.num, .slice b1 n1 c1, .slice b2 n2 c2, i64 F] 139)) (fun b => W.heap.size ≤ b) T (.slice b1 n1 c1) (.slice b2 n2 c2)) := hrd.under (below_one w2 _)
    clear hrd
    go_upto_region 17 with fail
    obtain ⟨G, hG⟩ : ∃ G, G = w2.heap.size := ⟨_, rfl⟩
    rw [← hG] at HG3 HGR ⊢
    clear hG
    generalize w2.alloc (.cells #[i64 T.kind, i64 T.num, .slice b1 n1 c1, .slice b2 n2 c2, i64 F] 139) = X at *
    have rc0 : X.cell? ⟨R, 0, none⟩ = some (i64 0) := blk_cell HX3.out 0
    have rf0 : X.frozen? ⟨R, 0, none⟩ = false := blk_frozen HX3.out 0
    have rc1 : X.cell? ⟨R, 1, none⟩ = some (i64 0) := blk_cell HX3.out 1
    have rf1 : X.frozen? ⟨R, 1, none⟩ = false := blk_frozen HX3.out 1
    have rc2 : X.cell? ⟨R, 2, none⟩ = some (.slice none 0 0) := blk_cell HX3.out 2
    have rf2 : X.frozen? ⟨R, 2, none⟩ = false := blk_frozen HX3.out 2
    have rc3 : X.cell? ⟨R, 3, none⟩ = some (.slice none 0 0) := blk_cell HX3.out 3
    have rf3 : X.frozen? ⟨R, 3, none⟩ = false := blk_frozen HX3.out 3
    have rc4 : X.cell? ⟨R, 4, none⟩ = some (i64 0) := blk_cell HX3.out 4
    have rf4 : X.frozen? ⟨R, 4, none⟩ = false := blk_frozen HX3.out 4
    have gc0 : X.cell? ⟨G, 0, none⟩ = some (i64 T.kind) := blk_cell HG3.out 0
    have gc1 : X.cell? ⟨G, 1, none⟩ = some (i64 T.num) := blk_cell HG3.out 1
    have gc2 : X.cell? ⟨G, 2, none⟩ = some (.slice b1 n1 c1) := blk_cell HG3.out 2
    have gc3 : X.cell? ⟨G, 3, none⟩ = some (.slice b2 n2 c2) := blk_cell HG3.out 3
    have gc4 : X.cell? ⟨G, 4, none⟩ = some (i64 F) := blk_cell HG3.out 4
    have nc0 : X.cell? ⟨Q, 0, none⟩ = some (i64 n) := blk_cell HQ3.out 0
    have nc1 : X.cell? ⟨Q, 1, none⟩ = some (i64 E) := blk_cell HQ3.out 1
    cases h41 : hdB rr 41 with
    | false =>
      have HI4 : Hid (Calls Tryz.prog 88 #[.string s, i64 (F : Nat), .int .u8 41] X fun e w' => e = .returned (.bool false) ∧ w' = X) := by
        have := is_s s F 41 X
        rw [HSx.out, h41] at this
        exact this
      have HRes : Hid (res = none) := by show _ = _; rw [HRes2.out, h41]; rfl
      clear h41 HRes2
      go_wp2_with fail
      refine HI4.out.mono ?_
      rintro e v9 ⟨rfl, hv9⟩
      replace hv9 := hv9.symm
      subst hv9
      go_wp2_with fail
      refine bodyPost_ret (v := gotV 0 0 (.slice none 0 0) (.slice none 0 0) (-1)) (results_one Tryz.results68 rfl (load63 (set5 HX3.out _ _ _ _ _))) rfl ?_
      exact ⟨below5 HB3.out HRe.out _ _ _ _ _, fun _ => rfl, fun T r h => by rw [HRes.out] at h; cases h⟩
    | true =>
      have HI4 : Hid (Calls Tryz.prog 88 #[.string s, i64 (F : Nat), .int .u8 41] X fun e w' => e = .returned (.bool true) ∧ w' = X) := by
        have := is_s s F 41 X
        rw [HSx.out, h41] at this
        exact this
      have HRes : Hid (res = some (.mk 3 n [] [T], rr.tail)) := by show _ = _; rw [HRes2.out, h41]; rfl
      have HEnd : Hid (((s.size - rr.tail.length : Nat) : Int) = (F : Int) + 1) := by
        show _ = _
        have h1 := HFe.out
        have h2 := HSl.out
        cases rr with
        | nil => cases h41
        | cons c r3 =>
          rw [List.length_cons] at h1 h2
          show ((s.size - r3.length : Nat) : Int) = _
          omega
      have HWX : Hid (W.heap.size ≤ X.heap.size) := by show _ ≤ _; have h1 := HGR.out; have h2 := blk_lt HG3.out; omega
      have HRX : Hid (R < X.heap.size) := blk_lt HX3.out
      have HwX : Hid (w.heap.size ≤ X.heap.size) := HB3.out.size
      clear h41 HRes2
      have hGX : G < X.heap.size := blk_lt HG3.out
      have hRX : R < X.heap.size := blk_lt HX3.out
      go_wp2_with fail
      refine HI4.out.mono ?_
      rintro e v9 ⟨rfl, hv9⟩
      replace hv9 := hv9.symm
      subst hv9
      go_wp2_with fail
      refine bodyPost_ret (v := gotV 3 n (.slice none 0 0) (.slice (some ⟨X.heap.size, 0, none⟩) 1 1) (F + 1)) (results_one Tryz.results68 rfl (load63 (blk_alloc (set5 HX3.out _ _ _ _ _) _))) rfl ?_
      have hb5 := below5 HB3.out HRe.out (i64 3) (i64 n) (.slice none 0 0) (.slice (some ⟨X.heap.size, 0, none⟩) 1 1) (i64 (F + 1))
      refine ⟨hb5.trans ((below_one _ _).mono hb5.size), fun h => (by rw [HRes.out] at h; cases h), fun T' r' h => ?_⟩
      rw [HRes.out] at h
      cases h
      refine ⟨none, 0, 0, _, 1, 1, by rw [HEnd.out]; rfl, ?_⟩
      have hr1 := HRD.out.set5 (lo := W.heap.size) HRW.out (Nat.le_refl _) (i64 3) (i64 n) (.slice none 0 0) (.slice (some ⟨X.heap.size, 0, none⟩) 1 1) (i64 (F + 1))
      refine (list5 (n := (n : Int)) hr1 (by simp [World.setCell]) HWX.out).mono (fun b hb _ => ?_)
      exact Nat.le_trans HWw.out hb
end Go.Proofs.YtjppcfjjpkniaaaGreatDoor
