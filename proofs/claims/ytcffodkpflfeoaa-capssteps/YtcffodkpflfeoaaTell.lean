/- The functions that are handed on to caps.each; no statement is proved in this text. -/
import Derived.Test.YtcffodkpflfeoaaDrops
namespace Go.Proofs.Ytcffodkpflfeoaa
open Go.ChangeShapes Go.WideShapes Go.ChangeAt Go.RowKit Go.Deep
attribute [local go_sem ↓] Go.wp_at_zero Go.wp_at_succ

theorem two_hc (w : World) (sl gn : Int) (c : Cp) : Below w.heap.size w ((w.alloc (hO sl gn)).alloc (cO c)) ∧ ((w.alloc (hO sl gn)).alloc (cO c)).heap[w.heap.size]? = some (hO sl gn) ∧ ((w.alloc (hO sl gn)).alloc (cO c)).heap[w.heap.size + 1]? = some (cO c) := by
  refine ⟨(below_one w _).trans ((below_one _ _).mono (by simp)), blk_alloc (heap_last w _) _, ?_⟩
  have := heap_last (w.alloc (hO sl gn)) (cO c)
  rwa [show (w.alloc (hO sl gn)).heap.size = w.heap.size + 1 by simp] at this
set_option maxRecDepth 100000 in
set_option maxHeartbeats 1600000 in
theorem cl33_ok (w : World) (q : Nat) (sl gn : Int) (c : Cp) (n : Int) (hq : w.heap[q]? = some (.cells #[i64 n] 3)) (h0 : 0 ≤ n) (h1 : n ≤ 1000) : Calls Try.prog 33 #[.agg #[i64 sl, i64 gn], c.v, pq q] w fun e w' => e = .returned (.tuple #[]) ∧ w'.heap[q]? = some (.cells #[i64 (n + 1)] 3) ∧ Touch q w w' := by
  obtain ⟨hBV, hK1, hK2⟩ := two_hc w sl gn c
  obtain ⟨V, hV⟩ : ∃ V, V = (w.alloc (hO sl gn)).alloc (cO c) := ⟨_, rfl⟩
  have HVe : Hid ((w.alloc (.cells #[i64 sl, i64 gn] 42)).alloc (.cells #[i64 c.env, i64 c.kind, i64 c.num, i64 c.rts] 36) = V) := hV.symm
  rw [← hV] at hBV hK1 hK2
  have HQ : Hid (V.heap[q]? = some (.cells #[i64 n] 3)) := blk_below hq hBV
  have q0 : V.cell? ⟨q, 0, none⟩ = some (i64 n) := blk_cell HQ.out 0
  have qf : V.frozen? ⟨q, 0, none⟩ = false := blk_frozen HQ.out 0
  have HTo : Hid (Touch q w V) := Touch.of_below hBV
  clear hV hBV hK1 hK2 hq
  unfold Cp.v
  go_enter Try.func33, Try.ntmps33
  go_upto_region 1 with fail
  rw [HVe.out]
  go_wp2_with fail
  exact bodyPost_end (v := .tuple #[]) (by simp [results, Try.results33]) rfl ⟨rfl, heap_setCell_same V q 0 _ 3 _ HQ.out, HTo.out.setCell rfl _⟩
abbrev Hd : Type := Nat × Int
def hcn (l : List Hd) : List Value := l.flatMap fun h => [i64 (h.1 : Nat), i64 h.2]
theorem hcn_app (a b : List Hd) : hcn (a ++ b) = hcn a ++ hcn b := by simp [hcn]
theorem hcn_len (l : List Hd) : (hcn l).length = l.length * 2 := by
  induction l with
  | nil => rfl
  | cons h l ih =>
    show ([i64 (h.1 : Nat), i64 h.2] ++ hcn l).length = _
    rw [List.length_append, ih]
    simp
    omega
/-- What may have turned: block q, and all from base on. -/
structure Tq (base q : Nat) (w w' : World) : Prop where
  os : w'.os = w.os
  tape : w'.tape = w.tape
  output : w'.output = w.output
  size : w.heap.size ≤ w'.heap.size
  block : ∀ k, k < base → k ≠ q → w'.heap[k]? = w.heap[k]?
theorem Tq.trans {base q : Nat} {a b c : World} (h : Tq base q a b) (k : Tq base q b c) : Tq base q a c :=
  ⟨k.os.trans h.os, k.tape.trans h.tape, k.output.trans h.output, Nat.le_trans h.size k.size, fun i hi hq => (k.block i hi hq).trans (h.block i hi hq)⟩
theorem Tq.refl (base q : Nat) (w : World) : Tq base q w w := ⟨rfl, rfl, rfl, Nat.le_refl _, fun _ _ _ => rfl⟩
theorem Tq.of_touch {base q : Nat} {w w' : World} (h : Touch q w w') (hb : base ≤ w.heap.size) : Tq base q w w' := ⟨h.os, h.tape, h.output, h.size, fun k hk hq => h.block k (by omega) hq⟩
theorem Tq.of_below {base q : Nat} {w w' : World} (h : Below base w w') : Tq base q w w' := ⟨h.os, h.tape, h.output, h.size, fun k hk _ => h.block k hk⟩
theorem Tq.drew {base q : Nat} {w w' : World} (h : Tq base q w w') : Tq base q w w'.drew := ⟨h.os, h.tape, h.output, h.size, h.block⟩
theorem under31 : Try.prog.underlying 31 = some (.slice 42) := by kernel_rfl
theorem info42x : (Try.prog.info? 42).map (fun i => (i.zero, i.size, i.bytes)) = some (some (.agg #[i64 0, i64 0]), 2, 16) := by kernel_rfl
theorem heap_set1 {V : World} {q : Nat} {x : Value} {t : TypeId} (h : V.heap[q]? = some (.cells #[x] t)) (v : Value) : (V.setCell ⟨q, 0, none⟩ v).heap[q]? = some (.cells #[v] t) := by
  have := heap_setCell_same V q 0 _ t v h
  simpa using this
set_option maxRecDepth 100000 in
set_option maxHeartbeats 3200000 in
theorem cl34_no (w : World) (q3 q : Nat) (sl gn env : Int) (c : Cp) (h3 : w.heap[q3]? = some (.cells #[i64 env] 3)) (hne : ¬ c.env = env) : Calls Try.prog 34 #[.agg #[i64 sl, i64 gn], c.v, pq q3, pq q] w fun e w' => e = .returned (.tuple #[]) ∧ Below w.heap.size w w' := by
  obtain ⟨hBV, hK1, hK2⟩ := two_hc w sl gn c
  obtain ⟨V, hV⟩ : ∃ V, V = (w.alloc (hO sl gn)).alloc (cO c) := ⟨_, rfl⟩
  have HVe : Hid ((w.alloc (.cells #[i64 sl, i64 gn] 42)).alloc (.cells #[i64 c.env, i64 c.kind, i64 c.num, i64 c.rts] 36) = V) := hV.symm
  rw [← hV] at hBV hK1 hK2
  have e0 : V.cell? ⟨q3, 0, none⟩ = some (i64 env) := blk_cell (blk_below h3 hBV) 0
  have c0 : V.cell? ⟨w.heap.size + 1, 0, none⟩ = some (i64 c.env) := blk_cell hK2 0
  have HB := hid hBV
  have hb : (c.env == env) = false := by simpa using hne
  clear hV hBV hK1 hK2 h3 hne
  unfold Cp.v
  go_enter Try.func34, Try.ntmps34
  go_upto_region 1 with fail
  rw [HVe.out]
  go_wp2_with fail
  exact bodyPost_end (v := .tuple #[]) (by simp [results, Try.results34]) rfl ⟨rfl, HB.out⟩
set_option maxRecDepth 100000 in
set_option maxHeartbeats 3200000 in
theorem cl34_yes (w : World) (q3 q base : Nat) (sl : Nat) (gn env : Int) (c : Cp) (h3 : w.heap[q3]? = some (.cells #[i64 env] 3)) (he : c.env = env) (v : Value) (l : List Hd) (hq : w.heap[q]? = some (.cells #[v] 31)) (ho : w.ownsRow base 42 2 v l.length (hcn l)) (hl : l.length ≤ 1000) (hB : base ≤ w.heap.size) :
    Calls Try.prog 34 #[.agg #[i64 (sl : Nat), i64 gn], c.v, pq q3, pq q] w fun e w' => e = .returned (.tuple #[]) ∧ ∃ v', w'.heap[q]? = some (.cells #[v'] 31) ∧ w'.ownsRow base 42 2 v' (l ++ [(sl, gn)]).length (hcn (l ++ [(sl, gn)])) ∧ Tq base q w w' := by
  obtain ⟨hBV, hK1, hK2⟩ := two_hc w sl gn c
  obtain ⟨V, hV⟩ : ∃ V, V = (w.alloc (hO sl gn)).alloc (cO c) := ⟨_, rfl⟩
  have HVe : Hid ((w.alloc (.cells #[i64 (sl : Nat), i64 gn] 42)).alloc (.cells #[i64 c.env, i64 c.kind, i64 c.num, i64 c.rts] 36) = V) := hV.symm
  rw [← hV] at hBV hK1 hK2
  have e0 : V.cell? ⟨q3, 0, none⟩ = some (i64 env) := blk_cell (blk_below h3 hBV) 0
  have c0 : V.cell? ⟨w.heap.size + 1, 0, none⟩ = some (i64 c.env) := blk_cell hK2 0
  have g0 : V.cell? ⟨w.heap.size, 0, none⟩ = some (i64 (sl : Nat)) := blk_cell hK1 0
  have g1 : V.cell? ⟨w.heap.size, 1, none⟩ = some (i64 gn) := blk_cell hK1 1
  obtain ⟨ao, cap, rfl, _⟩ := own_slice ho
  have hqV := blk_below hq hBV
  have q0 : V.cell? ⟨q, 0, none⟩ = some (.slice ao l.length cap) := blk_cell hqV 0
  have hoV : V.ownsRow base 42 2 (.slice ao l.length cap) l.length (hcn l) := own_keep ho (fun k C hC => blk_below hC hBV)
  have hBV2 : base ≤ V.heap.size := Nat.le_trans hB hBV.size
  obtain ⟨ao2, cap2, w3, hrun, hown, hfr, _⟩ := app_one (te := 42) under31 info42x rfl (by omega) (by omega) hoV [i64 (sl : Nat), i64 gn] rfl (by intro u hu; simp only [List.mem_cons, List.not_mem_nil, or_false] at hu; rcases hu with rfl | rfl <;> rfl) (by omega) hBV2
  have hq3 : w3.heap[q]? = some (.cells #[.slice ao l.length cap] 31) := hfr.kept _ _ hqV (by rfl)
  have HQ3 := hid hq3
  have HRUN := hid hrun
  have hB3 : Below base w w3 := (hBV.mono hB).trans hfr.below
  have HB3 := hid hB3
  have HO3 : Hid ((w3.setCell ⟨q, 0, none⟩ (.slice ao2 (l.length + 1) cap2)).ownsRow base 42 2 (.slice ao2 (l.length + 1) cap2) (l ++ [(sl, gn)]).length (hcn (l ++ [(sl, gn)]))) := by
    rw [List.length_append, hcn_app]
    exact own_keep hown (fun k C hC => by rw [Below.heap_setCell _ _ _ _ (fun e => by have hC' := hC; rw [show k = q from e, hq3] at hC'; simp at hC')]; exact hC)
  have hqc : w3.cell? ⟨q, 0, none⟩ = some (.slice ao l.length cap) := blk_cell hq3 0
  have hqf : w3.frozen? ⟨q, 0, none⟩ = false := blk_frozen hq3 0
  have hb : (c.env == env) = true := by simpa using he
  clear hV hBV hK1 hK2 h3 he hqV hoV hrun hown hfr hq3 hB3 hq ho
  generalize l.length = n at *
  unfold Cp.v
  go_enter Try.func34, Try.ntmps34
  go_upto_region 1 with fail
  rw [HVe.out]
  go_wp2_with (at_builtin; refine wpList_app_run rfl (.tmp 10) (.tmp 12) 31 rfl _ _ rfl rfl 31 rfl _ _ HRUN.out ?_)
  exact bodyPost_end (v := .tuple #[]) (by simp [results, Try.results34]) rfl ⟨rfl, _, heap_set1 HQ3.out _, HO3.out, HB3.out.os, HB3.out.tape, HB3.out.output, by have := HB3.out.size; simpa [World.setCell] using this, fun k hk hne => by rw [Below.heap_setCell _ _ _ _ hne]; exact HB3.out.block k hk⟩
end Go.Proofs.Ytcffodkpflfeoaa
