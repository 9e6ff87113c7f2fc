/- TlbNil: whatever the step is, a nil buffer is empty and nothing is put into it: the law answers true and changes nothing that was there. No condition. -/
import Derived.Test.YtblhoaggonjhkaaArgs
namespace Go.Proofs.Ytblhoaggonjhkaa
open Go.ChangeShapes Go.WideShapes Go.ChangeAt Go.RowKit Go.Deep

theorem put_nil (k : K3) (e : En) (w : World) : Calls Try.prog 15 #[.pointer none, keyV k, entV e] w fun e' w' => e' = .returned (.tuple #[]) ∧ Below w.heap.size w w' := by
  have hb : Below w.heap.size w ((w.alloc (.cells #[i64 k.env, i64 k.proc, i64 k.page] 31)).alloc (.cells #[i64 e.frame, .bool e.wr] 33)) := ((Below.refl _ _).alloc (Nat.le_refl _) _).alloc (by simp) _
  have HB : Hid (Below w.heap.size w ((w.alloc (.cells #[i64 k.env, i64 k.proc, i64 k.page] 31)).alloc (.cells #[i64 e.frame, .bool e.wr] 33))) := hb
  clear hb
  go_enter Try.func15, Try.ntmps15
  go_wp2
  first | go_end0 | go_ret | (refine bodyPost_ret (v := .tuple #[]) (by simp [results, Try.results15, go_sem]) rfl ?_)
  exact ⟨rfl, HB.out⟩
theorem get_nil (k : K3) (w : World) : Calls Try.prog 12 #[.pointer none, keyV k] w fun e' w' => e' = .returned (.tuple #[entV zeroE, .bool false]) ∧ Below w.heap.size w w' := by
  have hs : (w.alloc (.cells #[i64 k.env, i64 k.proc, i64 k.page] 31)).heap.size = w.heap.size + 1 := by simp
  have hb : Below w.heap.size w ((w.alloc (.cells #[i64 k.env, i64 k.proc, i64 k.page] 31)).alloc (.cells #[i64 0, .bool false] 33)) := ((Below.refl _ _).alloc (Nat.le_refl _) _).alloc (by simp) _
  have HB : Hid (Below w.heap.size w ((w.alloc (.cells #[i64 k.env, i64 k.proc, i64 k.page] 31)).alloc (.cells #[i64 0, .bool false] 33))) := hb
  clear hb
  go_enter Try.func12, Try.ntmps12
  go_wp2
  refine bodyPost_ret (v := .tuple #[entV zeroE, .bool false]) (by simp [results, Try.results12, go_sem, zeroE]) rfl ⟨rfl, ?_⟩
  exact HB.out
theorem counts_nil (w : World) : Calls Try.prog 11 #[.pointer none] w fun e' w' => e' = .returned (.tuple #[i64 0, i64 0]) ∧ w' = w := by
  go_enter Try.func11, Try.ntmps11
  go_wp2
  go_ret2
  exact ⟨rfl, rfl⟩
theorem keys_nil (w : World) : Calls Try.prog 10 #[.pointer none] w fun e' w' => e' = .returned (.slice none 0 0) ∧ w' = w := by
  go_enter Try.func10, Try.ntmps10
  go_wp2
  go_ret
  exact ⟨rfl, rfl⟩
theorem dropAll_nil (v : Value) (w : World) : Calls Try.prog 24 #[.pointer none, v] w fun e' w' => e' = .returned (i64 0) ∧ w' = w := by
  go_enter Try.func24, Try.ntmps24
  go_wp2
  go_ret
  exact ⟨rfl, rfl⟩
theorem drop_nil (k : K3) (w : World) : Calls Try.prog 16 #[.pointer none, keyV k] w fun e' w' => e' = .returned (.bool false) ∧ Below w.heap.size w w' := by
  have HB : Hid (Below w.heap.size w (w.alloc (.cells #[i64 k.env, i64 k.proc, i64 k.page] 31))) := (Below.refl _ _).alloc (Nat.le_refl _) _
  go_enter Try.func16, Try.ntmps16
  go_wp2_with (go_at_call 24; refine (dropAll_nil _ _).mono ?_; rintro e' w' ⟨rfl, rfl⟩)
  go_ret
  exact ⟨rfl, HB.out⟩
theorem dropProc_nil (x y : Int) (w : World) : Calls Try.prog 17 #[.pointer none, i64 x, i64 y] w fun e' w' => e' = .returned (i64 0) ∧ Below w.heap.size w w' := by
  have HB : Hid (Below w.heap.size w ((w.alloc (.cells #[i64 x] 3)).alloc (.cells #[i64 y] 3))) := ((Below.refl _ _).alloc (Nat.le_refl _) _).alloc (by simp) _
  go_enter Try.func17, Try.ntmps17
  go_wp2_with (go_at_call 24; refine (dropAll_nil _ _).mono ?_; rintro e' w' ⟨rfl, rfl⟩)
  go_ret
  exact ⟨rfl, HB.out⟩
theorem dropEnv_nil (x : Int) (w : World) : Calls Try.prog 18 #[.pointer none, i64 x] w fun e' w' => e' = .returned (i64 0) ∧ Below w.heap.size w w' := by
  have HB : Hid (Below w.heap.size w (w.alloc (.cells #[i64 x] 3))) := (Below.refl _ _).alloc (Nat.le_refl _) _
  go_enter Try.func18, Try.ntmps18
  go_wp2_with (go_at_call 24; refine (dropAll_nil _ _).mono ?_; rintro e' w' ⟨rfl, rfl⟩)
  go_ret
  exact ⟨rfl, HB.out⟩
theorem dropFrame_nil (x : Int) (w : World) : Calls Try.prog 19 #[.pointer none, i64 x] w fun e' w' => e' = .returned (i64 0) ∧ Below w.heap.size w w' := by
  have HB : Hid (Below w.heap.size w (w.alloc (.cells #[i64 x] 3))) := (Below.refl _ _).alloc (Nat.le_refl _) _
  go_enter Try.func19, Try.ntmps19
  go_wp2_with (go_at_call 24; refine (dropAll_nil _ _).mono ?_; rintro e' w' ⟨rfl, rfl⟩)
  go_ret
  exact ⟨rfl, HB.out⟩

/-- A step in a box. -/
theorem six_cells {w : World} {B : Nat} {s : St} (h : w.heap[B]? = some (.cells s.cells.toArray 35 (0, 0))) : w.cell? ⟨B, 0, none⟩ = some (i64 s.what) ∧ w.cell? ⟨B, 1, none⟩ = some (i64 s.k.env) ∧ w.cell? ⟨B, 2, none⟩ = some (i64 s.k.proc) ∧ w.cell? ⟨B, 3, none⟩ = some (i64 s.k.page) ∧ w.cell? ⟨B, 4, none⟩ = some (i64 s.e.frame) ∧ w.cell? ⟨B, 5, none⟩ = some (.bool s.e.wr) := by
  rw [cell_of_row w B 0 _ 35 (0, 0) h, cell_of_row w B 1 _ 35 (0, 0) h, cell_of_row w B 2 _ 35 (0, 0) h, cell_of_row w B 3 _ 35 (0, 0) h, cell_of_row w B 4 _ 35 (0, 0) h, cell_of_row w B 5 _ 35 (0, 0) h]
  exact ⟨rfl, rfl, rfl, rfl, rfl, rfl⟩

set_option maxRecDepth 100000 in
set_option maxHeartbeats 2000000 in
theorem nil_walk (s : St) (w : World) : Calls Try.prog 6 #[.agg s.cells.toArray] w fun e w' => e = .returned (.bool true) ∧ Below w.heap.size w w' := by
  have hX : (w.alloc (.cells #[i64 s.what, i64 s.k.env, i64 s.k.proc, i64 s.k.page, i64 s.e.frame, .bool s.e.wr] 35)).heap[w.heap.size]? = some (.cells s.cells.toArray 35 (0, 0)) := heap_last w _
  have hb0 : Below w.heap.size w (w.alloc (.cells #[i64 s.what, i64 s.k.env, i64 s.k.proc, i64 s.k.page, i64 s.e.frame, .bool s.e.wr] 35)) := (Below.refl _ _).alloc (Nat.le_refl _) _
  have HX : Hid (∀ V, Below (w.heap.size + 1) (w.alloc (.cells #[i64 s.what, i64 s.k.env, i64 s.k.proc, i64 s.k.page, i64 s.e.frame, .bool s.e.wr] 35)) V → V.cell? ⟨w.heap.size, 0, none⟩ = some (i64 s.what) ∧ V.cell? ⟨w.heap.size, 1, none⟩ = some (i64 s.k.env) ∧ V.cell? ⟨w.heap.size, 2, none⟩ = some (i64 s.k.proc) ∧ V.cell? ⟨w.heap.size, 3, none⟩ = some (i64 s.k.page) ∧ V.cell? ⟨w.heap.size, 4, none⟩ = some (i64 s.e.frame) ∧ V.cell? ⟨w.heap.size, 5, none⟩ = some (.bool s.e.wr)) := fun V hV => six_cells ((hV.block _ (by omega)).trans hX)
  have HB0 : Hid (Below w.heap.size w (w.alloc (.cells #[i64 s.what, i64 s.k.env, i64 s.k.proc, i64 s.k.page, i64 s.e.frame, .bool s.e.wr] 35))) := hb0
  have hsz : (w.alloc (.cells #[i64 s.what, i64 s.k.env, i64 s.k.proc, i64 s.k.page, i64 s.e.frame, .bool s.e.wr] 35)).heap.size = w.heap.size + 1 := by simp
  clear hX hb0
  unfold St.cells
  go_enter Try.func6, Try.ntmps6
  go_wp2_with fail
  refine (put_nil s.k s.e _).mono ?_
  rintro e w1 ⟨rfl, hb1⟩
  rw [hsz] at hb1
  have HB1 : Hid (Below (w.heap.size + 1) (w.alloc (.cells #[i64 s.what, i64 s.k.env, i64 s.k.proc, i64 s.k.page, i64 s.e.frame, .bool s.e.wr] 35)) w1) := hb1
  obtain ⟨a0, a1, a2, a3, a4, a5⟩ := HX.out w1 hb1
  have hs1 := hb1.size
  rw [hsz] at hs1
  clear hb1
  go_wp2_with fail
  refine (get_nil s.k _).mono ?_
  rintro e w2 ⟨rfl, hb2⟩
  have HB2 : Hid (Below (w.heap.size + 1) (w.alloc (.cells #[i64 s.what, i64 s.k.env, i64 s.k.proc, i64 s.k.page, i64 s.e.frame, .bool s.e.wr] 35)) w2) := HB1.out.trans (hb2.mono hs1)
  have hs2 := hb2.size
  clear hb2 a0 a1 a2 a3 a4 a5
  have hb3 := (HB2.out.alloc (by omega) (.cells #[i64 zeroE.frame, .bool zeroE.wr] 33))
  have HB3 : Hid (Below (w.heap.size + 1) (w.alloc (.cells #[i64 s.what, i64 s.k.env, i64 s.k.proc, i64 s.k.page, i64 s.e.frame, .bool s.e.wr] 35)) (w2.alloc (.cells #[i64 zeroE.frame, .bool zeroE.wr] 33))) := hb3
  obtain ⟨a0, a1, a2, a3, a4, a5⟩ := HX.out _ hb3
  have hs3 : w.heap.size + 1 ≤ (w2.alloc (.cells #[i64 zeroE.frame, .bool zeroE.wr] 33)).heap.size := by simp; omega
  clear hb3
  go_wp2_with (first | (go_at_call 11; refine (counts_nil _).mono ?_; rintro e w' ⟨rfl, rfl⟩))
  refine (drop_nil s.k _).mono ?_
  rintro e w4 ⟨rfl, hb4⟩
  have HB4 : Hid (Below (w.heap.size + 1) (w.alloc (.cells #[i64 s.what, i64 s.k.env, i64 s.k.proc, i64 s.k.page, i64 s.e.frame, .bool s.e.wr] 35)) w4) := HB3.out.trans (hb4.mono hs3)
  have hs4 : w.heap.size + 1 ≤ w4.heap.size := Nat.le_trans hs3 hb4.size
  obtain ⟨b0, b1, b2, b3, b4, b5⟩ := HX.out _ HB4.out
  clear hb4 a0 a1 a2 a3 a4 a5
  go_wp2_with fail
  refine (dropProc_nil s.k.env s.k.proc _).mono ?_
  rintro e w5 ⟨rfl, hb5⟩
  have HB5 : Hid (Below (w.heap.size + 1) (w.alloc (.cells #[i64 s.what, i64 s.k.env, i64 s.k.proc, i64 s.k.page, i64 s.e.frame, .bool s.e.wr] 35)) w5) := HB4.out.trans (hb5.mono hs4)
  have hs5 : w.heap.size + 1 ≤ w5.heap.size := Nat.le_trans hs4 hb5.size
  obtain ⟨a0, a1, a2, a3, a4, a5⟩ := HX.out _ HB5.out
  clear hb5 b0 b1 b2 b3 b4 b5
  go_wp2_with fail
  refine (dropEnv_nil s.k.env _).mono ?_
  rintro e w6 ⟨rfl, hb6⟩
  have HB6 : Hid (Below (w.heap.size + 1) (w.alloc (.cells #[i64 s.what, i64 s.k.env, i64 s.k.proc, i64 s.k.page, i64 s.e.frame, .bool s.e.wr] 35)) w6) := HB5.out.trans (hb6.mono hs5)
  have hs6 : w.heap.size + 1 ≤ w6.heap.size := Nat.le_trans hs5 hb6.size
  obtain ⟨b0, b1, b2, b3, b4, b5⟩ := HX.out _ HB6.out
  clear hb6 a0 a1 a2 a3 a4 a5
  go_wp2_with fail
  refine (dropFrame_nil s.e.frame _).mono ?_
  rintro e w7 ⟨rfl, hb7⟩
  have HB7 : Hid (Below w.heap.size w w7) := HB0.out.trans ((HB6.out.trans (hb7.mono hs6)).mono (by omega))
  clear hb7 b0 b1 b2 b3 b4 b5
  go_wp2_with (first | (go_at_call 10; refine (keys_nil _).mono ?_; rintro e w' ⟨rfl, rfl⟩) | (go_at_call 8; refine (nine_ok _).mono ?_; rintro e w8 ⟨rfl, hb8⟩; have HB8 : Hid (Below w.heap.size w w8) := HB7.out.trans (hb8.mono HB7.out.size); clear hb8))
  go_ret
  exact ⟨by simp, HB8.out⟩
set_option maxRecDepth 100000 in
theorem tlbNil_lifted (os : Os) (started : os.Started) (H : Type) (enc : TypeId × Value → H) :
    ReturnsInHanded {} Try.checked os 6 .any (Rows.tlbNilSpec.pre6 enc Try.prog Try.f6 Rows.tlbNilRow.domain false) (Rows.tlbNilSpec.post enc Try.prog Try.f6 false true false false) := by
  refine returnsInHanded_of_change (C := Try.checked) own started (by kernel_rfl) Try.func6
    (ChangeSpec.witness6 (enc := enc) (C := Try.checked) false ⟨#[], #[.agg #[.int .i64 0, .int .i64 0, .int .i64 0, .int .i64 0, .int .i64 0, .bool false]], []⟩ 8 (by kernel_rfl) (by kernel_rfl) (by kernel_rfl) (by kernel_rfl)) ?_
  intro W base args ds gs before hval0 hW hcnd _
  have hval : ∀ (j : Nat) t v, Try.f6.params[j]? = some t → args[j]? = some v → Value.okWide Try.prog W .any base t v := hval0
  have hW' := hW
  obtain ⟨p, q, hA0, hV, rfl, hfz, hnd⟩ := hW
  have hA : DataW.TrodAll enc Try.prog W 0 (fun _ => true) true Try.f6.params.toList args.toList ds p := hA0
  rw [Try.params6] at hA hval
  have hA1 := hA
  obtain ⟨v0, vs0, d0, ds0, p0, q0, hargs, rfl, rfl, h0, r0⟩ := trodAll_cons hA
  obtain ⟨rfl, rfl, rfl⟩ := trodAll_nil r0
  obtain rfl : args = #[v0] := by cases args; simp_all
  obtain ⟨rfl, rfl⟩ := trodVars_none hV
  obtain ⟨cs, rfl, _⟩ := okWide_struct Try.underlying35 (hval 0 35 v0 rfl rfl)
  obtain ⟨fuel, hf⟩ := h0
  obtain ⟨s, hcs⟩ := step_read hf
  have hcs' : cs = s.cells.toArray := by
    have : cs.toList = s.cells := hcs
    rw [← this]
  subst hcs'
  have walk0 := nil_walk s W
  refine (walk0).mono fun e W' ⟨he, bel⟩ => ?_
  subst he
  exact ⟨_, rfl, _, _, _, [], _, [], hW', trodAll_mk1 (shut_bool Try.underlying4 _), trodAll_stays laidOut bel _ _ _ _ (by kernel_rfl) hA1, rfl, bel.frame _, fun h => by cases h⟩

theorem tlbNil : Rows.TlbNilSaid :=
  OpenClaim.holds_of_wide 6 Try.f6 rfl rfl rfl rfl rfl rfl rfl ⟨rfl, rfl, rfl, rfl, rfl⟩ rfl rfl rfl rfl rfl (by kernel_rfl) Try.func6 (by kernel_rfl)
    (of_decide_eq_true (by kernel_rfl)) (by unfold Func.isWrapper; first | (rw [if_pos (by decide +kernel)]; kernel_rfl) | (rw [if_neg (by decide +kernel)]; exact ⟨rfl, rfl⟩))
    (fun os started H enc _ => tlbNil_lifted os started H enc)
#print axioms tlbNil
end Go.Proofs.Ytblhoaggonjhkaa
