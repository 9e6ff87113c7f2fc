/- vals' Size; Copy of a value without Kids; no statement is proved in this text. -/
import Derived.Test.YtgiemijhndanjaaDoorEz
namespace Go.Proofs.YtgiemijhndanjaaDoor
open Go.ChangeShapes Go.WideShapes Go.ChangeAt Go.RowKit Go.Deep
attribute [local go_sem ↓] Go.wp_at_zero Go.wp_at_succ

set_option maxRecDepth 100000 in
set_option maxHeartbeats 12800000 in
theorem size_ok (V : Vl) (w : World) (S : Nat → Prop) (kv : Value) (hV : Vd w S V kv) (hsz : V.size ≤ 100000) : Calls Tryd.prog 23 #[vlV V kv] w fun e w' => e = .returned (i64 V.size) ∧ Below w.heap.size w w' := by
  have HVd := hid hV
  obtain ⟨ak, ck, rfl⟩ := hV.form
  have HX : Hid (((w.alloc (.cells #[i64 V.kind, i64 V.num, str V.s, .slice ak V.kids.length ck] 24)).alloc (.cells #[i64 0] 3)).heap[w.heap.size]? = some (.cells #[i64 V.kind, i64 V.num, str V.s, .slice ak V.kids.length ck] 24)) := blk_alloc (heap_last w _) _
  have HQ : Hid (((w.alloc (.cells #[i64 V.kind, i64 V.num, str V.s, .slice ak V.kids.length ck] 24)).alloc (.cells #[i64 0] 3)).heap[w.heap.size + 1]? = some (.cells #[i64 0] 3)) := heap_at3 _ _ _ (by simp)
  have HBV : Hid (Below w.heap.size w ((w.alloc (.cells #[i64 V.kind, i64 V.num, str V.s, .slice ak V.kids.length ck] 24)).alloc (.cells #[i64 0] 3))) := (below_one w _).trans ((below_one _ _).mono (by simp))
  have HZV : Hid (((w.alloc (.cells #[i64 V.kind, i64 V.num, str V.s, .slice ak V.kids.length ck] 24)).alloc (.cells #[i64 0] 3)).heap.size = w.heap.size + 2) := by show _ = _; simp
  clear hV
  go_enter Tryd.func23, Tryd.ntmps23
  go_upto_region 2 with fail
  generalize (w.alloc (.cells #[i64 V.kind, i64 V.num, str V.s, .slice ak V.kids.length ck] 24)).alloc (.cells #[i64 0] 3) = V0 at *
  obtain ⟨Z, hZ⟩ : ∃ Z, Z = w.heap.size := ⟨_, rfl⟩
  obtain ⟨q, hq⟩ : ∃ q, q = w.heap.size + 1 := ⟨_, rfl⟩
  have HQw : Hid (w.heap.size ≤ q ∧ q < V0.heap.size) := by show _ ∧ _; have := HZV.out; omega
  rw [← hZ] at HX
  rw [← hq] at HQ
  rw [← hq, ← hZ]
  clear hZ hq
  have zc0 : V0.cell? ⟨Z, 0, none⟩ = some (i64 V.kind) := blk_cell HX.out 0
  have zc1 : V0.cell? ⟨Z, 1, none⟩ = some (i64 V.num) := blk_cell HX.out 1
  have zc2 : V0.cell? ⟨Z, 2, none⟩ = some (str V.s) := blk_cell HX.out 2
  have zc3 : V0.cell? ⟨Z, 3, none⟩ = some (.slice ak V.kids.length ck) := blk_cell HX.out 3
  have HQ1 : Hid ((V0.alloc (.cells #[i64 V.kind, i64 V.num, str V.s, .slice ak V.kids.length ck] 24)).heap[q]? = some (.cells #[i64 0] 3)) := blk_alloc HQ.out _
  have HA1 : Hid ((V0.alloc (.cells #[i64 V.kind, i64 V.num, str V.s, .slice ak V.kids.length ck] 24)).heap[V0.heap.size]? = some (.cells #[i64 V.kind, i64 V.num, str V.s, .slice ak V.kids.length ck] 24)) := heap_last V0 _
  have HB1 : Hid (Below w.heap.size w (V0.alloc (.cells #[i64 V.kind, i64 V.num, str V.s, .slice ak V.kids.length ck] 24))) := HBV.out.trans ((below_one V0 _).mono HBV.out.size)
  have HV1 : Hid (Vd (V0.alloc (.cells #[i64 V.kind, i64 V.num, str V.s, .slice ak V.kids.length ck] 24)) (fun b => b ≠ q) V (.slice ak V.kids.length ck)) := HVd.out.move HB1.out.size fun b _ hlt => ⟨by have := HQw.out.1; omega, HB1.out.block b hlt⟩
  have HR1 : Hid (Vd (V0.alloc (.cells #[i64 V.kind, i64 V.num, str V.s, .slice ak V.kids.length ck] 24)) (fun b => b ≠ q) (.mk 0 0 [] [V]) (.slice (some ⟨V0.heap.size, 0, none⟩) 1 1)) := HV1.out.one HA1.out (by have := HQw.out.2; omega)
  have HC1 := hid (eachs_ok [V] (V0.alloc (.cells #[i64 V.kind, i64 V.num, str V.s, .slice ak V.kids.length ck] 24)) q 0 _ HR1.out HQ1.out (by omega) (by omega) (by simp only [sizeL]; omega))
  have HS1 : Hid ((0 : Int) + ((sizeL [V] : Nat) : Int) = V.size) := by show _ = _; simp only [sizeL]; omega
  rw [HS1.out] at HC1
  go_wp2_with fail
  refine HC1.out.mono ?_
  rintro e w2 ⟨rfl, hq2, ht2⟩
  have HQ2 := hid hq2
  have HB2 : Hid (Below w.heap.size w w2) := HB1.out.trans (ht2.below HQw.out.1 HB1.out.size)
  clear hq2 ht2 HC1
  have qc0 : w2.cell? ⟨q, 0, none⟩ = some (i64 V.size) := blk_cell HQ2.out 0
  go_wp2_with fail
  go_ret
  exact ⟨rfl, HB2.out⟩
theorem app_nil0 (w : World) (a : Option Addr) (c : Nat) : (Builtin.append_ #[22, 22] 22 #[.slice none 0 0, .slice a 0 c]).run Tryd.prog w = .ok (.slice none 0 0) w := by
  have h1 : (Builtin.firstCells 4 0 (.slice a 0 c)).run Tryd.prog w = .ok #[] w := by
    cases a with
    | none => simp [Builtin.firstCells]
    | some b => simp [Builtin.firstCells, loadCells]; rfl
  have h2 : (sizeOf 24).run Tryd.prog w = .ok 4 w := by kernel_rfl
  simp [Builtin.append_, run_underlying Tryd.underlying22, h2, h1, Builtin.lenOf]
set_option maxRecDepth 100000 in
set_option maxHeartbeats 3200000 in
theorem cp1_leaf (w : World) (A : Nat) (k n : Int) (s : Bs) (a : Option Addr) (c : Nat) (hA : w.heap[A]? = some (.cells #[i64 k, i64 n, str s, .slice a 0 c] 24)) : Calls Tryd.prog 42 #[.slice (some ⟨A, 0, none⟩) 1 1] w fun e w' => e = .returned (.tuple #[]) ∧ w' = w.setCell ⟨A, 3, none⟩ (.slice none 0 0) := by
  have a3 : w.cell? ⟨A, 3, none⟩ = some (.slice a 0 c) := blk_cell hA 3
  have f3 : w.frozen? ⟨A, 3, none⟩ = false := blk_frozen hA 3
  have HRUN := hid (app_nil0 w a c)
  clear hA
  go_enter Tryd.func42, Tryd.ntmps42
  go_wp2_with fail
  go_loopw [5] (fun u wr => (u = i64 0 ∧ wr = w) ∨ (u = i64 1 ∧ wr = w.setCell ⟨A, 3, none⟩ (.slice none 0 0))) (fun u _ => 1 - (intOf u).toNat)
  case atStart => exact Or.inl ⟨rfl, rfl⟩
  case round =>
    rcases hrel with ⟨rfl, rfl⟩ | ⟨rfl, rfl⟩
    · go_wp2_with (at_builtin; refine wpList_app_run rfl (.const (.slice none 0 0)) (.tmp 14) 22 rfl _ _ rfl rfl 22 rfl _ _ HRUN.out ?_)
      exact ⟨Or.inr ⟨by first | trivial | rfl, by first | trivial | rfl⟩, by simp [intOf]⟩
    · go_wp2_with fail
      exact bodyPost_end (v := .tuple #[]) (by simp [results, Tryd.results42]) rfl ⟨rfl, rfl⟩
set_option maxRecDepth 100000 in
set_option maxHeartbeats 12800000 in
theorem eachc_leaf (w : World) (A : Nat) (k n : Int) (s : Bs) (a : Option Addr) (c : Nat) (hA : w.heap[A]? = some (.cells #[i64 k, i64 n, str s, .slice a 0 c] 24)) : Calls Tryd.prog 40 #[.slice (some ⟨A, 0, none⟩) 1 1, .func (.func 42) #[] #[]] w fun e w' => e = .returned (.tuple #[]) ∧ w'.heap[A]? = some (.cells #[i64 k, i64 n, str s, .slice none 0 0] 24) ∧ Touch A w w' := by
  have hlt := blk_lt hA
  have HA := hid hA
  have HB0 : Hid (Touch A w (w.alloc (.cells #[.slice (some ⟨A, 0, none⟩) 1 1] 22))) := (Touch.refl A w).alloc _
  have HA0 : Hid ((w.alloc (.cells #[.slice (some ⟨A, 0, none⟩) 1 1] 22)).heap[A]? = some (.cells #[i64 k, i64 n, str s, .slice a 0 c] 24)) := blk_alloc hA _
  have HG0 : Hid ((w.alloc (.cells #[.slice (some ⟨A, 0, none⟩) 1 1] 22)).heap[w.heap.size]? = some (.cells #[.slice (some ⟨A, 0, none⟩) 1 1] 22)) := heap_last w _
  clear hA
  go_enter Tryd.func40, Tryd.ntmps40
  go_wp2_with fail
  obtain ⟨G, hG⟩ : ∃ G, G = w.heap.size := ⟨_, rfl⟩
  rw [← hG] at HG0 ⊢
  have HGe := hid hG
  clear hG
  generalize w.alloc (.cells #[.slice (some ⟨A, 0, none⟩) 1 1] 22) = V0 at *
  go_loopg [4] 1 (fun g v wr => (g = 1 ∧ v = .slice (some ⟨G, 0, none⟩) 1 1 ∧ wr = V0) ∨ (g = 0 ∧ v = .slice (some ⟨G, 0, none⟩) 0 1 ∧ Hid (wr.heap[A]? = some (.cells #[i64 k, i64 n, str s, .slice none 0 0] 24)) ∧ Hid (Touch A w wr)))
  case atStart => exact Or.inl ⟨rfl, rfl, rfl⟩
  case round =>
    rcases hrel with ⟨hg, rfl, rfl⟩ | ⟨hg, rfl, HAr, HTr⟩
    · have g0 : wr.cell? ⟨G, 0, none⟩ = some (.slice (some ⟨A, 0, none⟩) 1 1) := blk_cell HG0.out 0
      have HC1 := hid (cp1_leaf wr A k n s a c HA0.out)
      have HS1 : Hid ((wr.setCell ⟨A, 3, none⟩ (.slice none 0 0)).heap[A]? = some (.cells #[i64 k, i64 n, str s, .slice none 0 0] 24)) := by
        show _ = _
        have := heap_setCell_same wr A 3 _ 24 (.slice none 0 0) HA0.out
        simpa using this
      have HT1 : Hid (Touch A w (wr.setCell ⟨A, 3, none⟩ (.slice none 0 0))) := HB0.out.setCell rfl _
      go_wp2_with fail
      refine HC1.out.mono ?_
      rintro e w1 ⟨rfl, rfl⟩
      generalize wr.setCell ⟨A, 3, none⟩ (.slice none 0 0) = W1 at *
      clear HC1 g0
      go_wp2_with fail
      go_loopw [4, 29] (fun v u wr => (u = i64 0 ∧ v = .slice (some ⟨G, 0, none⟩) 0 1 ∧ wr = W1) ∨ (u = i64 1 ∧ v = .slice (some ⟨G, 0, none⟩) 0 1 ∧ Hid (wr.heap[A]? = some (.cells #[i64 k, i64 n, str s, .slice none 0 0] 24)) ∧ Hid (Touch A w wr))) (fun _ u _ => 1 - (intOf u).toNat)
      case atStart => exact Or.inl ⟨rfl, rfl, rfl⟩
      case round =>
        rcases hrel with ⟨rfl, rfl, rfl⟩ | ⟨rfl, rfl, HAr, HTr⟩
        · have c0 : wr.cell? ⟨A, 0, none⟩ = some (i64 k) := blk_cell HS1.out 0
          have c1 : wr.cell? ⟨A, 1, none⟩ = some (i64 n) := blk_cell HS1.out 1
          have c2 : wr.cell? ⟨A, 2, none⟩ = some (str s) := blk_cell HS1.out 2
          have c3 : wr.cell? ⟨A, 3, none⟩ = some (.slice none 0 0) := blk_cell HS1.out 3
          have HA2 : Hid ((wr.alloc (.cells #[i64 k, i64 n, str s, .slice none 0 0] 24)).heap[A]? = some (.cells #[i64 k, i64 n, str s, .slice none 0 0] 24)) := blk_alloc HS1.out _
          have HT2 : Hid (Touch A w (wr.alloc (.cells #[i64 k, i64 n, str s, .slice none 0 0] 24))) := HT1.out.alloc _
          go_wp2_with fail
          exact ⟨Or.inr ⟨by first | trivial | rfl, by first | trivial | rfl, HA2, HT2⟩, by simp [intOf]⟩
        · go_wp2_with fail
          go_roundg 0
          case measure => omega
          case rel => exact Or.inr ⟨rfl, rfl, HAr, HTr⟩
    · go_wp2_with fail
      exact bodyPost_end (v := .tuple #[]) (by simp [results, Tryd.results40]) rfl ⟨rfl, HAr.out, HTr.out⟩
set_option maxRecDepth 100000 in
set_option maxHeartbeats 12800000 in
theorem copy_leaf (V : Vl) (w : World) (S : Nat → Prop) (kv : Value) (hV : Vd w S V kv) (hk : V.kids = []) : Calls Tryd.prog 25 #[vlV V kv] w (MkOk w V) := by
  have hl0 : V.kids.length = 0 := by rw [hk]; rfl
  obtain ⟨k, n, s, l⟩ := V
  simp only [Vl.kids] at hk
  subst hk
  obtain ⟨ak, ck, rfl⟩ := hV.form
  have hln := hV.lens.1
  have HSl : Hid (s.length ≤ maxLen) := hln
  clear hV hln hl0
  show Calls Tryd.prog 25 #[.agg #[i64 k, i64 n, str s, .slice ak 0 ck]] w _
  have HX : Hid (((w.alloc (.cells #[i64 k, i64 n, str s, .slice ak 0 ck] 24)).alloc (zO 24)).heap[w.heap.size]? = some (.cells #[i64 k, i64 n, str s, .slice ak 0 ck] 24)) := blk_alloc (heap_last w _) _
  have HR0 : Hid (((w.alloc (.cells #[i64 k, i64 n, str s, .slice ak 0 ck] 24)).alloc (zO 24)).heap[w.heap.size + 1]? = some (zO 24)) := heap_at3 _ _ _ (by simp)
  have HBV : Hid (Below w.heap.size w ((w.alloc (.cells #[i64 k, i64 n, str s, .slice ak 0 ck] 24)).alloc (zO 24))) := (below_one w _).trans ((below_one _ _).mono (by simp))
  go_enter Tryd.func25, Tryd.ntmps25
  go_upto_region 1 with fail
  generalize (w.alloc (.cells #[i64 k, i64 n, str s, .slice ak 0 ck] 24)).alloc (zO 24) = V0 at *
  obtain ⟨Z, hZ⟩ : ∃ Z, Z = w.heap.size := ⟨_, rfl⟩
  obtain ⟨R, hR⟩ : ∃ R, R = w.heap.size + 1 := ⟨_, rfl⟩
  have HRw : Hid (w.heap.size ≤ R) := by show _ ≤ _; omega
  rw [← hZ] at HX
  rw [← hR] at HR0
  rw [← hR, ← hZ]
  clear hZ hR
  have zc0 : V0.cell? ⟨Z, 0, none⟩ = some (i64 k) := blk_cell HX.out 0
  have zc1 : V0.cell? ⟨Z, 1, none⟩ = some (i64 n) := blk_cell HX.out 1
  have zc2 : V0.cell? ⟨Z, 2, none⟩ = some (str s) := blk_cell HX.out 2
  have zc3 : V0.cell? ⟨Z, 3, none⟩ = some (.slice ak 0 ck) := blk_cell HX.out 3
  have HA1 : Hid ((V0.alloc (.cells #[i64 k, i64 n, str s, .slice ak 0 ck] 24)).heap[V0.heap.size]? = some (.cells #[i64 k, i64 n, str s, .slice ak 0 ck] 24)) := heap_last V0 _
  have HR1 : Hid ((V0.alloc (.cells #[i64 k, i64 n, str s, .slice ak 0 ck] 24)).heap[R]? = some (zO 24)) := blk_alloc HR0.out _
  have HB1 : Hid (Below w.heap.size w (V0.alloc (.cells #[i64 k, i64 n, str s, .slice ak 0 ck] 24))) := HBV.out.trans ((below_one V0 _).mono HBV.out.size)
  have HAw : Hid (w.heap.size ≤ V0.heap.size) := HBV.out.size
  have HRA : Hid (R ≠ V0.heap.size) := by show _ ≠ _; have := blk_lt HR0.out; omega
  have HC1 := hid (eachc_leaf (V0.alloc (.cells #[i64 k, i64 n, str s, .slice ak 0 ck] 24)) V0.heap.size k n s ak ck HA1.out)
  go_wp2_with fail
  refine HC1.out.mono ?_
  rintro e w2 ⟨rfl, ha2, ht2⟩
  have HA2 := hid ha2
  have HB2 : Hid (Below w.heap.size w w2) := HB1.out.trans (ht2.below HAw.out HB1.out.size)
  have HR2 : Hid (w2.heap[R]? = some (zO 24)) := by show _ = _; rw [ht2.block R (blk_lt HR1.out) HRA.out]; exact HR1.out
  clear ha2 ht2 HC1
  obtain ⟨A, hA⟩ : ∃ A, A = V0.heap.size := ⟨_, rfl⟩
  rw [← hA] at HA2 ⊢
  clear hA
  have ac0 : w2.cell? ⟨A, 0, none⟩ = some (i64 k) := blk_cell HA2.out 0
  have ac1 : w2.cell? ⟨A, 1, none⟩ = some (i64 n) := blk_cell HA2.out 1
  have ac2 : w2.cell? ⟨A, 2, none⟩ = some (str s) := blk_cell HA2.out 2
  have ac3 : w2.cell? ⟨A, 3, none⟩ = some (.slice none 0 0) := blk_cell HA2.out 3
  have rc0 : w2.cell? ⟨R, 0, none⟩ = some (i64 0) := blk_cell HR2.out 0
  have rf0 : w2.frozen? ⟨R, 0, none⟩ = false := blk_frozen HR2.out 0
  have rc1 : w2.cell? ⟨R, 1, none⟩ = some (i64 0) := blk_cell HR2.out 1
  have rf1 : w2.frozen? ⟨R, 1, none⟩ = false := blk_frozen HR2.out 1
  have rc2 : w2.cell? ⟨R, 2, none⟩ = some (.string ⟨#[]⟩) := blk_cell HR2.out 2
  have rf2 : w2.frozen? ⟨R, 2, none⟩ = false := blk_frozen HR2.out 2
  have rc3 : w2.cell? ⟨R, 3, none⟩ = some (.slice none 0 0) := blk_cell HR2.out 3
  have rf3 : w2.frozen? ⟨R, 3, none⟩ = false := blk_frozen HR2.out 3
  go_wp2_with fail
  refine bodyPost_ret (v := .agg #[i64 k, i64 n, str s, .slice none 0 0]) (results_one Tryd.results25 rfl (load24 (set4 HR2.out _ _ _ _))) rfl ?_
  exact ⟨none, 0, rfl, bset4 HB2.out HRw.out _ _ _ _, Vd.leaf _ _ _ _ _ HSl.out _ _⟩
end Go.Proofs.YtgiemijhndanjaaDoor
