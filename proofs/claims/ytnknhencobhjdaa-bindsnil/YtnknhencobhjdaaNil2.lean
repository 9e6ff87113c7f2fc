/- A nil Binds: Paid, Owner, Revoke, Bind; no statement is proved in this text. -/
import Derived.Test.YtnknhencobhjdaaNil1
namespace Go.Proofs.Ytnknhencobhjdaa
open Go.ChangeShapes Go.WideShapes Go.ChangeAt Go.RowKit Go.Deep Go.ChangeMaps Go.MapKept
open Go.Proofs.Ytnknhencobhjdaa.Cp (pq hid below_one hO cO zC looks_nil)
open Go.Proofs.Ytnknhencobhjdaa.Qt (zT badB)

set_option maxRecDepth 100000 in
theorem paid_nil (w : World) (env : Int) : Calls Try.prog 27 #[.pointer none, i64 env] w fun e w' => e = .returned (i64 0) ∧ Below w.heap.size w w' := by
  have HB0 := bel_two w emO (.mapIter none 0 #[] 0)
  have HN : Hid (∀ ty, (Instr.next (.pointer (some ⟨(w.alloc emO).heap.size, 0, none⟩)) false ty).run Try.prog ((w.alloc emO).alloc (.mapIter none 0 #[] 0)) = .ok (.tuple #[.bool false]) ((w.alloc emO).alloc (.mapIter none 0 #[] 0))) := fun ty => run_next_nilMap (P := Try.prog) (w.alloc emO) ty 0 0 #[]
  go_enter Try.func27, Try.ntmps27
  go_wp2_with (first | (go_at_call 48; refine (orEmpty_nil _).mono ?_; rintro e w1 ⟨rfl, rfl⟩) | (at_range; refine wpList_range_run rfl _ 68 rfl _ _ (run_range_nilMap _ 68 43 104 Try.underlying68) ?_))
  go_frame
  go_loopw [5] (fun u5 wr => u5 = i64 0 ∧ wr = (w.alloc emO).alloc (.mapIter none 0 #[] 0)) (fun _ _ => 0)
  case atStart => exact ⟨rfl, rfl⟩
  case round =>
    obtain ⟨rfl, rfl⟩ := hrel
    go_wp2_with (at_next; refine wpList_next_run rfl _ rfl _ _ (HN.out _) ?_; go_frame)
    go_ret
    exact ⟨rfl, HB0.out⟩
set_option maxRecDepth 100000 in
/-- strikeGone of an empty one. -/
theorem strike_nil (w : World) (B : Nat) (hB : w.heap[B]? = some emO) : Calls Try.prog 56 #[pq B] w fun e w' => e = .returned (.tuple #[]) ∧ Below w.heap.size w w' := by
  have HB0 : Hid (Below w.heap.size w (w.alloc (.mapIter none 0 #[] 0))) := below_one w _
  have HN : Hid (∀ ty, (Instr.next (.pointer (some ⟨w.heap.size, 0, none⟩)) false ty).run Try.prog (w.alloc (.mapIter none 0 #[] 0)) = .ok (.tuple #[.bool false]) (w.alloc (.mapIter none 0 #[] 0))) := fun ty => run_next_nilMap (P := Try.prog) w ty 0 0 #[]
  have b2 : w.cell? ⟨B, 2, none⟩ = some (.map none) := blk_cell hB 2
  have HO : Hid ((w.alloc (.mapIter none 0 #[] 0)).heap[B]? = some emO) := blk_alloc hB _
  go_enter Try.func56, Try.ntmps56
  go_wp2_with (at_range; refine wpList_range_run rfl _ 68 rfl _ _ (run_range_nilMap _ 68 43 104 Try.underlying68) ?_; go_frame)
  have HX : Hid (Below w.heap.size w (w.alloc (.mapIter none 0 #[] 0)) ∧ (w.alloc (.mapIter none 0 #[] 0)).heap[B]? = some emO ∧ ∀ ty, (Instr.next (.pointer (some ⟨w.heap.size, 0, none⟩)) false ty).run Try.prog (w.alloc (.mapIter none 0 #[] 0)) = .ok (.tuple #[.bool false]) (w.alloc (.mapIter none 0 #[] 0))) := ⟨HB0.out, HO.out, HN.out⟩
  clear HB0 HN b2 HO hB
  go_loopw [] (fun wr => Hid (Below w.heap.size w wr ∧ wr.heap[B]? = some emO ∧ ∀ ty, (Instr.next (.pointer (some ⟨w.heap.size, 0, none⟩)) false ty).run Try.prog wr = .ok (.tuple #[.bool false]) wr)) (fun _ => 0)
  case atStart => exact HX
  case round =>
    obtain ⟨hb, ho, hn⟩ := hrel.out
    have HN := hid hn
    have HB := hid hb
    have c3 : wr.cell? ⟨B, 3, none⟩ = some (.slice none 0 0) := blk_cell ho 3
    have c4 : wr.cell? ⟨B, 4, none⟩ = some (.slice none 0 0) := blk_cell ho 4
    have c5 : wr.cell? ⟨B, 5, none⟩ = some (.slice none 0 0) := blk_cell ho 5
    clear hrel hb ho hn HX
    go_wp2_with (at_next; refine wpList_next_run rfl _ rfl _ _ (HN.out _) ?_; go_frame)
    clear HN c3 c4 c5
    go_loopw [44] (fun u44 wq => ∃ k : Nat, k ≤ 3 ∧ u44 = i64 k ∧ Hid (Below w.heap.size w wq)) (fun u _ => 3 - (intOf u).toNat)
    case atStart => exact ⟨0, by omega, rfl, HB⟩
    case round =>
      obtain ⟨k, hk, rfl, HBq⟩ := hrel
      by_cases hlt : k < 3
      · have hkI : (k : Int) < 3 := by omega
        have hix : (Instr.index 69 (.agg #[.slice none 0 0, .slice none 0 0, .slice none 0 0]) (i64 k)).run Try.prog wr = .ok (.slice none 0 0) wr := by
          obtain rfl | rfl | rfl : k = 0 ∨ k = 1 ∨ k = 2 := by omega
          all_goals kernel_rfl
        go_wp2_with fail
        go_loopw [49] (fun u49 wq => u49 = i64 0 ∧ Hid (Below w.heap.size w wq)) (fun _ _ => 0)
        case atStart => exact ⟨rfl, HBq⟩
        case round =>
          obtain ⟨rfl, HBi⟩ := hrel
          go_wp2_with fail
          exact ⟨⟨k + 1, by omega, by go_num, HBi⟩, by simp [intOf]; omega⟩
      · obtain rfl : k = 3 := by omega
        go_wp2_with fail
        go_end0
        exact ⟨rfl, HBq.out⟩
set_option maxRecDepth 100000 in
set_option maxHeartbeats 3200000 in
theorem brevoke_nil (w : World) (env sl gn : Int) : Calls Try.prog 25 #[.pointer none, i64 env, .agg #[i64 sl, i64 gn]] w fun e w' => e = .returned (.tuple #[i64 0, i64 90]) ∧ Below w.heap.size w w' := by
  have HB1 := bel_two w (hO sl gn) emO
  have HQ1 : Hid (((w.alloc (hO sl gn)).alloc emO).heap[w.heap.size]? = some (hO sl gn)) := blk_alloc (heap_last w _) _
  have HO1 : Hid (((w.alloc (hO sl gn)).alloc emO).heap[w.heap.size + 1]? = some emO) := by
    have := heap_last (w.alloc (hO sl gn)) emO
    rwa [show (w.alloc (hO sl gn)).heap.size = w.heap.size + 1 by simp] at this
  go_enter Try.func25, Try.ntmps25
  go_upto_region 2 with (go_at_call 48; refine (orEmpty_nil _).mono ?_; rintro e w1 ⟨rfl, rfl⟩)
  generalize (w.alloc (hO sl gn)).alloc emO = w1 at *
  have HS : Hid (Sq2 w.heap.size (hO sl gn) (w.heap.size + 1) emO w1.drew) := ⟨HQ1.out, HO1.out⟩
  refine wp_region_noPanic ?_
  refine wp_region_last (Sq2 w.heap.size (hO sl gn) (w.heap.size + 1) emO) 11 (by kernel_rfl) ?_
  refine wpL_take 0 13 (pq (w.heap.size + 1)) [] rfl rfl (by kernel_rfl) (by decide) (by kernel_rfl) (by kernel_rfl) (by kernel_rfl) (fun _ _ _ h => h) HS.out (by rfl) (fun W hW => by have q0 := blk_cell hW.one 0; have q1 := blk_cell hW.one 1; have o1 := blk_cell hW.two 1; go_simp) ?_
  simp only [Act.put, List.setIfInBounds_toArray, List.set_cons_zero, List.set_cons_succ]
  refine wpL_take 1 14 (pq (w.heap.size + 1)) [] rfl rfl (by kernel_rfl) (by decide) (by kernel_rfl) (by kernel_rfl) (by kernel_rfl) (fun _ _ _ h => h) HS.out (by rfl) (fun W hW => by have q0 := blk_cell hW.one 0; have q1 := blk_cell hW.one 1; have o1 := blk_cell hW.two 1; go_simp) ?_
  simp only [Act.put, List.setIfInBounds_toArray, List.set_cons_zero, List.set_cons_succ]
  refine wpL_take 2 15 (.pointer (some ⟨w.heap.size + 1, 1, none⟩)) [] rfl rfl (by kernel_rfl) (by decide) (by kernel_rfl) (by kernel_rfl) (by kernel_rfl) (fun _ _ _ h => h) HS.out (by rfl) (fun W hW => by have q0 := blk_cell hW.one 0; have q1 := blk_cell hW.one 1; have o1 := blk_cell hW.two 1; go_simp) ?_
  simp only [Act.put, List.setIfInBounds_toArray, List.set_cons_zero, List.set_cons_succ]
  refine wpL_take 3 16 (.pointer none) [] rfl rfl (by kernel_rfl) (by decide) (by kernel_rfl) (by kernel_rfl) (by kernel_rfl) (fun _ _ _ h => h) HS.out (by rfl) (fun W hW => by have q0 := blk_cell hW.one 0; have q1 := blk_cell hW.one 1; have o1 := blk_cell hW.two 1; go_simp) ?_
  simp only [Act.put, List.setIfInBounds_toArray, List.set_cons_zero, List.set_cons_succ]
  refine wpL_take 4 17 (i64 env) [] rfl rfl (by kernel_rfl) (by decide) (by kernel_rfl) (by kernel_rfl) (by kernel_rfl) (fun _ _ _ h => h) HS.out (by rfl) (fun W hW => by have q0 := blk_cell hW.one 0; have q1 := blk_cell hW.one 1; have o1 := blk_cell hW.two 1; go_simp) ?_
  simp only [Act.put, List.setIfInBounds_toArray, List.set_cons_zero, List.set_cons_succ]
  refine wpL_take 5 18 (.agg #[i64 sl, i64 gn]) [] rfl rfl (by kernel_rfl) (by decide) (by kernel_rfl) (by kernel_rfl) (by kernel_rfl) (fun _ _ _ h => h) HS.out (by rfl) (fun W hW => by have q0 := blk_cell hW.one 0; have q1 := blk_cell hW.one 1; have o1 := blk_cell hW.two 1; go_simp) ?_
  simp only [Act.put, List.setIfInBounds_toArray, List.set_cons_zero, List.set_cons_succ]
  refine wpL_one 6 rfl (by kernel_rfl) (by rfl) (fun K hK => ?_)
  go_simp
  refine (Cp.revoke_stale w1.drew none env sl gn (looks_nil _ env sl gn)).mono ?_
  rintro e w2 ⟨rfl, hb2⟩
  have hb2' : Below w1.heap.size w1 w2 := below_drew hb2
  have HS2 : Hid (Sq2 w.heap.size (hO sl gn) (w.heap.size + 1) emO w2) := HS.out.below hb2
  have HB2 : Hid (Below w.heap.size w w2) := bel_then HB1 hb2'
  clear hb2 hb2'
  go_simp
  refine hK.out _ _ (fun _ => HS2.out) ?_
  clear hK K
  refine wpL_take 7 12 (.tuple #[i64 0, i64 90]) [] rfl rfl (by kernel_rfl) (by decide) (by kernel_rfl) (by kernel_rfl) (by kernel_rfl) (fun _ _ _ h => h) HS2.out (by rfl) (fun W hW => by go_simp) ?_
  simp only [Act.put, List.setIfInBounds_toArray, List.set_cons_zero, List.set_cons_succ]
  refine wpL_take 8 20 (i64 0) [] rfl rfl (by kernel_rfl) (by decide) (by kernel_rfl) (by kernel_rfl) (by kernel_rfl) (fun _ _ _ h => h) HS2.out (by rfl) (fun W hW => by go_simp) ?_
  simp only [Act.put, List.setIfInBounds_toArray, List.set_cons_zero, List.set_cons_succ]
  refine wpL_take 9 21 (i64 90) [] rfl rfl (by kernel_rfl) (by decide) (by kernel_rfl) (by kernel_rfl) (by kernel_rfl) (fun _ _ _ h => h) HS2.out (by rfl) (fun W hW => by go_simp) ?_
  simp only [Act.put, List.setIfInBounds_toArray, List.set_cons_zero, List.set_cons_succ]
  refine wpL_one 10 rfl (by kernel_rfl) (by rfl) (fun K hK => ?_)
  go_simp
  refine hK.out _ _ (fun _ => HS2.out) ?_
  clear hK K
  refine wpL_one 11 rfl (by kernel_rfl) (by rfl) (fun K hK => ?_)
  go_simp
  refine hK.out _ _ (fun h => absurd rfl h) ?_
  clear hK K
  refine wpL_done (by kernel_rfl) ?_
  refine NoPanic.normal ?_
  have HO2 : Hid (w2.heap[w.heap.size + 1]? = some emO) := HS2.out.two
  clear HS HS2 HB1 HQ1 HO1
  go_wp2_with fail
  refine (strike_nil w2 (w.heap.size + 1) HO2.out).mono ?_
  rintro e w3 ⟨rfl, hb3⟩
  have HB3 : Hid (Below w.heap.size w w3) := bel_then HB2 hb3
  clear hb3
  go_wp2_with fail
  go_ret2
  exact ⟨rfl, HB3.out⟩
theorem results_mid {W : World} {t : Array Value} {a : Addr} {u x v : Value} {F : Func} {l n m : Nat} {ty : TypeId} (hr : F.results = #[.tmp l, .cell n ty, .tmp m]) (h5 : t.getD l undef = x) (h6 : t.getD n undef = .pointer (some a)) (h7 : t.getD m undef = v) (g : (loadVar ty a).run Try.prog W = .ok u W) :
    (results F t).run Try.prog W = .ok (.tuple #[x, u, v]) W := by
  simp only [results, hr]
  simp [Result.andThen, asAddr, h5, h6, h7, g, -Array.getD_eq_getD_getElem?]
set_option maxRecDepth 100000 in
set_option maxHeartbeats 3200000 in
theorem bbind_nil (w : World) (env kind : Int) : Calls Try.prog 20 #[.pointer none, i64 env, i64 kind] w fun e w' => e = .returned (.tuple #[i64 0, hV (0, 0), i64 6]) ∧ Below w.heap.size w w' := by
  have HB1 := bel_two w (hO 0 0) emO
  have HQ1 : Hid (((w.alloc (hO 0 0)).alloc emO).heap[w.heap.size]? = some (hO 0 0)) := blk_alloc (heap_last w _) _
  go_enter Try.func20, Try.ntmps20
  go_wp2_with (first | (go_at_call 48; refine (orEmpty_nil _).mono ?_; rintro e w1 ⟨rfl, rfl⟩) | (go_at_call 57; refine (Qt.take_nil _ env kind 1).mono ?_; rintro e w1 ⟨rfl, rfl⟩))
  exact bodyPost_ret (results_mid Try.results20 rfl rfl rfl (Cp.load42 HQ1.out)) rfl ⟨rfl, HB1.out⟩
theorem fld104 (x y : Value) (W : World) : (Instr.field 104 (.agg #[x, y]) 0).run Try.prog W = .ok x W := by kernel_rfl
set_option maxRecDepth 100000 in
set_option maxHeartbeats 3200000 in
theorem owner_nil (w : World) (kind n : Int) : Calls Try.prog 14 #[.pointer none, i64 kind, i64 n] w fun e w' => e = .returned (i64 0) ∧ Below w.heap.size w w' := by
  have HLk : Hid (∀ W, (Instr.lookup 68 (.map none) (.agg #[i64 0, i64 0]) false).run Try.prog W = .ok (.agg #[i64 0, i64 0]) W) := fun W => look_nilmap W (0, 0) false
  go_enter Try.func14, Try.ntmps14
  go_upto_region 1 with fail
  have HS : Hid ((fun _ => True) w.drew) := trivial
  refine wp_region_noPanic ?_
  refine wp_region_last (fun _ => True) 11 (by kernel_rfl) ?_
  refine wpL_take 0 7 (.pointer none) [] rfl rfl (by kernel_rfl) (by decide) (by kernel_rfl) (by kernel_rfl) (by kernel_rfl) (fun _ _ _ h => h) HS.out (by rfl) (fun W hW => by go_simp) ?_
  simp only [Act.put, List.setIfInBounds_toArray, List.set_cons_zero, List.set_cons_succ]
  refine wpL_take 5 12 (.pointer none) [] rfl rfl (by kernel_rfl) (by decide) (by kernel_rfl) (by kernel_rfl) (by kernel_rfl) (fun _ _ _ h => h) HS.out (by rfl) (fun W hW => by go_simp) ?_
  simp only [Act.put, List.setIfInBounds_toArray, List.set_cons_zero, List.set_cons_succ]
  refine wpL_take 6 13 (i64 kind) [] rfl rfl (by kernel_rfl) (by decide) (by kernel_rfl) (by kernel_rfl) (by kernel_rfl) (fun _ _ _ h => h) HS.out (by rfl) (fun W hW => by go_simp) ?_
  simp only [Act.put, List.setIfInBounds_toArray, List.set_cons_zero, List.set_cons_succ]
  refine wpL_take 7 14 (i64 n) [] rfl rfl (by kernel_rfl) (by decide) (by kernel_rfl) (by kernel_rfl) (by kernel_rfl) (fun _ _ _ h => h) HS.out (by rfl) (fun W hW => by go_simp) ?_
  simp only [Act.put, List.setIfInBounds_toArray, List.set_cons_zero, List.set_cons_succ]
  refine wpL_one 1 rfl (by kernel_rfl) (by rfl) (fun K hK => ?_)
  go_simp
  refine (orEmpty_nil w.drew).mono ?_
  rintro e w1 ⟨rfl, hw1⟩
  have HO1 : Hid (w1.heap[w.heap.size]? = some emO) := by rw [hw1]; exact heap_last w.drew _
  have HB1 : Hid (Below w.heap.size w w1) := by rw [hw1]; exact below_drew (below_one w.drew _)
  clear hw1
  go_simp
  refine hK.out _ _ (fun _ => trivial) ?_
  clear hK K
  refine wpL_take 2 9 (pq w.heap.size) [] rfl rfl (by kernel_rfl) (by decide) (by kernel_rfl) (by kernel_rfl) (by kernel_rfl) (fun _ _ _ h => h) HS.out (by rfl) (fun W hW => by go_simp) ?_
  simp only [Act.put, List.setIfInBounds_toArray, List.set_cons_zero, List.set_cons_succ]
  refine wpL_take 3 10 (.pointer (some ⟨w.heap.size, 2, none⟩)) [] rfl rfl (by kernel_rfl) (by decide) (by kernel_rfl) (by kernel_rfl) (by kernel_rfl) (fun _ _ _ h => h) HS.out (by rfl) (fun W hW => by go_simp) ?_
  simp only [Act.put, List.setIfInBounds_toArray, List.set_cons_zero, List.set_cons_succ]
  refine wpL_two 4 8 rfl rfl (by kernel_rfl) (by rfl) (by rfl) (fun K hK => ?_) (fun K hK => ?_)
  · have o2 : w1.cell? ⟨w.heap.size, 2, none⟩ = some (.map none) := blk_cell HO1.out 2
    go_simp
    refine hK.out _ _ (fun _ => trivial) ?_
    clear hK K o2
    refine wpL_one 8 rfl (by kernel_rfl) (by rfl) (fun K hK => ?_)
    go_simp
    refine (root_nil w1 kind n).mono ?_
    rintro e w2 ⟨rfl, hw2⟩
    have HB2 : Hid (Below w.heap.size w w2) := bel_then HB1 hw2
    clear hw2
    go_simp
    refine hK.out _ _ (fun _ => trivial) ?_
    clear hK K
    refine wpL_one 9 rfl (by kernel_rfl) (by rfl) (fun K hK => ?_)
    go_simp
    have hlk := HLk.out w2
    go_simp
    refine hK.out _ _ (fun _ => trivial) ?_
    clear hK K
    clear hlk
    refine wpL_take 10 17 (i64 0) [] rfl rfl (by kernel_rfl) (by decide) (by kernel_rfl) (by kernel_rfl) (by kernel_rfl) (fun _ _ _ h => h) HS.out (by rfl) (fun W hW => by have fl := fld104 (i64 0) (i64 0) W; go_simp) ?_
    simp only [Act.put, List.setIfInBounds_toArray, List.set_cons_zero, List.set_cons_succ]
    refine wpL_one 11 rfl (by kernel_rfl) (by rfl) (fun K hK => ?_)
    go_simp
    refine hK.out _ _ (fun h => absurd rfl h) ?_
    clear hK K
    refine wpL_done (by kernel_rfl) ?_
    refine NoPanic.normal ?_
    go_wp2_with fail
    go_ret
    exact ⟨rfl, HB2.out⟩
  · go_simp
    refine (root_nil w1 kind n).mono ?_
    rintro e w2 ⟨rfl, hw2⟩
    have HB2 : Hid (Below w.heap.size w w2) := bel_then HB1 hw2
    have HO2 : Hid (w2.heap[w.heap.size]? = some emO) := blk_below HO1.out hw2
    clear hw2
    go_simp
    refine hK.out _ _ (fun _ => trivial) ?_
    clear hK K
    have o2 : w2.cell? ⟨w.heap.size, 2, none⟩ = some (.map none) := blk_cell HO2.out 2
    refine wpL_one 4 rfl (by kernel_rfl) (by rfl) (fun K hK => ?_)
    go_simp
    refine hK.out _ _ (fun _ => trivial) ?_
    clear hK K
    clear o2
    refine wpL_one 9 rfl (by kernel_rfl) (by rfl) (fun K hK => ?_)
    go_simp
    have hlk := HLk.out w2
    go_simp
    refine hK.out _ _ (fun _ => trivial) ?_
    clear hK K
    clear hlk
    refine wpL_take 10 17 (i64 0) [] rfl rfl (by kernel_rfl) (by decide) (by kernel_rfl) (by kernel_rfl) (by kernel_rfl) (fun _ _ _ h => h) HS.out (by rfl) (fun W hW => by have fl := fld104 (i64 0) (i64 0) W; go_simp) ?_
    simp only [Act.put, List.setIfInBounds_toArray, List.set_cons_zero, List.set_cons_succ]
    refine wpL_one 11 rfl (by kernel_rfl) (by rfl) (fun K hK => ?_)
    go_simp
    refine hK.out _ _ (fun h => absurd rfl h) ?_
    clear hK K
    refine wpL_done (by kernel_rfl) ?_
    refine NoPanic.normal ?_
    go_wp2_with fail
    go_ret
    exact ⟨rfl, HB2.out⟩
end Go.Proofs.Ytnknhencobhjdaa
