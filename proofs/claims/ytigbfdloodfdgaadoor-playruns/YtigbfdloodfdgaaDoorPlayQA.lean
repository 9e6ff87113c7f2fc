/- The document's run in memory, and its Step; no statement is proved in this text. -/
import Derived.Test.YtigbfdloodfdgaaDoorPlayLaid
import Derived.Deep.DeepCutAuto
import Derived.Deep.DrawnRows
import Derived.Deep.AppendLies
namespace Go.Proofs.YtigbfdloodfdgaaDoor
open Go.ChangeShapes Go.WideShapes Go.ChangeAt Go.RowKit
attribute [local go_sem ↓] Go.wp_at_zero Go.wp_at_succ

def rrC (h j : Nat) (C : List Nat) (vm vk : Value) : List Value := i64 (h : Nat) :: i64 (j : Nat) :: (cpC C ++ [vm, vk])
theorem rrC_len {h j : Nat} {C : List Nat} (hC : Rg C) (vm vk : Value) : (rrC h j C vm vk).length = 13 := by simp [rrC, cpC_len, hC.len]
structure Rr (w : World) (base R h j : Nat) (C : List Nat) (M : List UInt8) (K : List Cl) (gm cm : Nat) (vk : Value) : Prop where
  lo : base ≤ R
  rg : Rg C
  mem : M.length = 256
  row : w.heap[R]? = some (.cells (rrC h j C (.slice (some ⟨gm, 0, none⟩) 256 cm) vk).toArray 44 (0, 0))
  mo : w.ownsRow base 5 1 (.slice (some ⟨gm, 0, none⟩) 256 cm) 256 (cells M)
  ko : w.ownsRow base 69 4 vk K.length (clC K)
theorem own_keep {w w' : World} {base : Nat} {e : TypeId} {size : Nat} {v : Value} {n : Nat} {xs : List Value} (h : w.ownsRow base e size v n xs) (hk : ∀ (k : Nat) (C : Array Value), w.heap[k]? = some (.cells C e (0, 0)) → w'.heap[k]? = some (.cells C e (0, 0))) : w'.ownsRow base e size v n xs := by
  refine ⟨h.1, ?_⟩
  rcases h.2 with hn | ⟨g, cap, cur, rfl, hbg, hgg, rest⟩
  · exact .inl hn
  · exact .inr ⟨g, cap, cur, rfl, hbg, hk g cur hgg, rest⟩
theorem blt {w : World} {b : Nat} {o : Obj} (h : w.heap[b]? = some o) : b < w.heap.size := (Array.getElem?_eq_some_iff.1 h).1
theorem Rr.below {w w' : World} {base R h j : Nat} {C : List Nat} {M : List UInt8} {K : List Cl} {gm cm : Nat} {vk : Value} (r : Rr w base R h j C M K gm cm vk) (hb : Below w.heap.size w w') : Rr w' base R h j C M K gm cm vk :=
  ⟨r.lo, r.rg, r.mem, (hb.block _ (blt r.row)).trans r.row, own_keep r.mo (fun k _ hk => (hb.block k (blt hk)).trans hk), own_keep r.ko (fun k _ hk => (hb.block k (blt hk)).trans hk)⟩
/-- The run's own block is turned. -/
theorem Rr.turn {w w' : World} {base R h j h' j' : Nat} {C C' : List Nat} {M : List UInt8} {K : List Cl} {gm cm : Nat} {vk : Value} (r : Rr w base R h j C M K gm cm vk) (hC : Rg C') (hne : ∀ k, k ≠ R → w'.heap[k]? = w.heap[k]?) (hrow : w'.heap[R]? = some (.cells (rrC h' j' C' (.slice (some ⟨gm, 0, none⟩) 256 cm) vk).toArray 44 (0, 0))) : Rr w' base R h' j' C' M K gm cm vk :=
  ⟨r.lo, hC, r.mem, hrow, own_keep r.mo (fun k C hk => by rw [hne k (fun e => by rw [e, r.row] at hk; simp at hk)]; exact hk), own_keep r.ko (fun k C hk => by rw [hne k (fun e => by rw [e, r.row] at hk; simp at hk)]; exact hk)⟩
theorem sc_row {w : World} {R : Nat} {xs : List Value} {t : TypeId} (h : w.heap[R]? = some (.cells xs.toArray t (0, 0))) (o : Nat) (v : Value) : (w.setCell ⟨R, o, none⟩ v).heap[R]? = some (.cells (xs.set o v).toArray t (0, 0)) := by
  rw [heap_setCell_same w R o _ t v h]
  simp
theorem Rr.how {w : World} {base R h j : Nat} {C : List Nat} {M : List UInt8} {K : List Cl} {gm cm : Nat} {vk : Value} (r : Rr w base R h j C M K gm cm vk) (h' : Nat) : Rr (w.setCell ⟨R, 0, none⟩ (i64 (h' : Nat))) base R h' j C M K gm cm vk :=
  r.turn r.rg (fun _ hk => heap_setCell_other _ _ _ _ hk) (sc_row r.row 0 _)
theorem Rr.step {w : World} {base R h j : Nat} {C : List Nat} {M : List UInt8} {K : List Cl} {gm cm : Nat} {vk : Value} (r : Rr w base R h j C M K gm cm vk) : Rr (w.setCell ⟨R, 1, none⟩ (i64 ((j : Int) + 1))) base R h (j + 1) C M K gm cm vk :=
  r.turn r.rg (fun _ hk => heap_setCell_other _ _ _ _ hk) (by rw [sc_row r.row 1 _]; simp [rrC])
theorem rr_set12 {h j : Nat} {C : List Nat} (hC : Rg C) (vm vk v : Value) : (rrC h j C vm vk).set 12 v = rrC h j C vm v := by
  obtain ⟨c0, c1, c2, c3, c4, c5, c6, c7, c8, rfl⟩ := list9 hC.len
  rfl
theorem Rr.cpu {w : World} {base R h j : Nat} {C C' : List Nat} {M : List UInt8} {K : List Cl} {gm cm : Nat} {vk : Value} (r : Rr w base R h j C M K gm cm vk) (hC : Rg C') : Rr (w.setCells R 2 (cpC C')) base R h j C' M K gm cm vk := by
  refine r.turn hC (fun _ hk => heap_sc_ne _ _ hk _ _ _) ?_
  have h0 : w.heap[R]? = some (.cells ([i64 (h : Nat), i64 (j : Nat)] ++ (cpC C ++ [.slice (some ⟨gm, 0, none⟩) 256 cm, vk])).toArray 44 (0, 0)) := r.row
  have := heap_mid [.slice (some ⟨gm, 0, none⟩) 256 cm, vk] (cpC C') (cpC C) [i64 (h : Nat), i64 (j : Nat)] w (by rw [cpC_len, cpC_len, hC.len, r.rg.len]) h0
  rw [show ([i64 (h : Nat), i64 (j : Nat)] : List Value).length = 2 from rfl] at this
  rw [this]
  rfl
/-- A byte of the memory is put. -/
theorem Rr.put {w : World} {base R h j : Nat} {C : List Nat} {M : List UInt8} {K : List Cl} {gm cm : Nat} {vk : Value} (r : Rr w base R h j C M K gm cm vk) (i : Nat) (b : UInt8) : Rr (w.setCell ⟨gm, i, none⟩ (.int .u8 (b.toNat : Int))) base R h j C (M.set i b) K gm cm vk := by
  obtain ⟨h1, h2⟩ := r.mo.stored i (.int .u8 (b.toNat : Int))
  have e : (cells M).set i (.int .u8 (b.toNat : Int)) = cells (M.set i b) := by simp [cells, List.map_set]
  rw [e] at h1
  have hg : ∃ X, w.heap[gm]? = some (.cells X 5 (0, 0)) := by
    rcases r.mo.2 with ⟨h', _⟩ | ⟨g', cap', cur, h', _, hg, _⟩
    · simp at h'
    · simp only [Value.slice.injEq, Option.some.injEq, Addr.mk.injEq, and_true, true_and] at h'
      obtain ⟨rfl, rfl⟩ := h'
      exact ⟨cur, hg⟩
  obtain ⟨X, hX⟩ := hg
  refine ⟨r.lo, r.rg, by rw [List.length_set]; exact r.mem, ?_, h1, own_keep r.ko (fun k C' hk => ?_)⟩
  · rw [heap_setCell_other _ _ _ _ (fun e => by have := r.row; rw [show R = gm from e, hX] at this; simp at this)]
    exact r.row
  · rw [heap_setCell_other _ _ _ _ (fun e => by rw [show k = gm from e, hX] at hk; simp at hk)]
    exact hk
structure RrC (w : World) (R h j : Nat) (C : List Nat) (gm cm : Nat) (vk : Value) : Prop where
  c0 : w.cell? ⟨R, 0, none⟩ = some (i64 (h : Nat))
  c1 : w.cell? ⟨R, 1, none⟩ = some (i64 (j : Nat))
  c11 : w.cell? ⟨R, 11, none⟩ = some (.slice (some ⟨gm, 0, none⟩) 256 cm)
  c12 : w.cell? ⟨R, 12, none⟩ = some vk
  cp : w.rangeAt R 2 (cpC C)
  rg : ∀ i, i < 9 → w.cell? ⟨R, 2 + i, none⟩ = some (u16 (C.getD i 0 : Nat))
  fz : ∀ i, w.frozen? ⟨R, i, none⟩ = false
theorem Rr.cells {w : World} {base R h j : Nat} {C : List Nat} {M : List UInt8} {K : List Cl} {gm cm : Nat} {vk : Value} (r : Rr w base R h j C M K gm cm vk) : RrC w R h j C gm cm vk := by
  have hl := r.rg.len
  have hx : ∀ o, w.cell? ⟨R, o, none⟩ = (rrC h j C (.slice (some ⟨gm, 0, none⟩) 256 cm) vk)[o]? := fun o => (cell_of_row _ _ _ _ 44 (0, 0) r.row).trans (by simp)
  have hcp : w.rangeAt R 2 (cpC C) := fun i v hv => by
    have hi := (List.getElem?_eq_some_iff.1 hv).1
    rw [hx, show 2 + i = i + 1 + 1 by omega]
    simp only [rrC, List.getElem?_cons_succ]
    rw [List.getElem?_append_left hi]
    exact hv
  refine ⟨hx 0, hx 1, ?_, ?_, hcp, fun i hi => ?_, fun i => ?_⟩
  · rw [hx]; simp [rrC, cpC, hl]
  · rw [hx]; simp [rrC, cpC, hl]
  · exact hcp i _ (by simp [cpC, List.getElem?_eq_getElem (show i < C.length by omega)])
  · unfold World.frozen?
    rw [show w.heap[(⟨R, i, none⟩ : Addr).block]? = _ from r.row]
    simp
theorem Rr.byte {w : World} {base R h j : Nat} {C : List Nat} {M : List UInt8} {K : List Cl} {gm cm : Nat} {vk : Value} (r : Rr w base R h j C M K gm cm vk) (i : Nat) (hi : i < 256) : w.cell? ⟨gm, i, none⟩ = some (.int .u8 ((M.getD i 0).toNat : Int)) ∧ w.frozen? ⟨gm, i, none⟩ = false ∧ gm < w.heap.size ∧ gm ≠ R ∧ base ≤ gm := by
  have hm := r.mem
  have hg : ∃ X, w.heap[gm]? = some (.cells X 5 (0, 0)) := by
    rcases r.mo.2 with ⟨h', _⟩ | ⟨g', cap', cur, h', _, hg, _⟩
    · simp at h'
    · simp only [Value.slice.injEq, Option.some.injEq, Addr.mk.injEq, and_true, true_and] at h'
      obtain ⟨rfl, rfl⟩ := h'
      exact ⟨cur, hg⟩
  obtain ⟨X, hX⟩ := hg
  refine ⟨?_, r.mo.frozenAt i, blt hX, fun e => by have := r.row; rw [← e, hX] at this; simp at this, (r.mo.lt gm rfl).1⟩
  rw [r.mo.cellAt i (by omega)]
  simp [Go.Proofs.YtigbfdloodfdgaaDoor.cells, List.getElem?_eq_getElem (show i < M.length by omega)]
def ansN (A : List Int) (n : Nat) : Int := (A.drop n).headD 0
set_option maxRecDepth 100000 in
theorem ranswer_ok (w : World) (ao : Option Addr) (cap : Nat) (A : List Int) (B0 R0 : Nat) (ha : ASl w B0 R0 (.slice ao A.length cap) A) (n : Nat) :
    Calls Tryd.prog 38 #[.slice ao A.length cap, i64 (n : Nat)] w fun e w' => e = .returned (i64 (ansN A n)) ∧ w' = w := by
  obtain ⟨ao', cap', e1, e2, e3, e4⟩ := ha.ex
  simp only [Value.slice.injEq, true_and] at e1
  obtain ⟨rfl, rfl⟩ := e1
  unfold maxLen at e3
  by_cases h : n < A.length
  · rcases e4 with e4 | ⟨b, off, rfl, h2, h3, h4⟩
    · rw [e4] at h; simp at h
    · have hx := h4 n A[n] (List.getElem?_eq_getElem h)
      have he : ansN A n = A[n] := by unfold ansN; rw [List.headD_eq_head?_getD, List.head?_drop, List.getElem?_eq_getElem h]; rfl
      rw [he]
      have hI : (n : Int) < A.length := by omega
      generalize A[n] = x at *
      generalize A.length = N at *
      clear h4 he
      go_enter Tryd.func38, Tryd.ntmps38
      go_wp2_with fail
      go_ret
      exact ⟨rfl, rfl⟩
  · have he : ansN A n = 0 := by unfold ansN; rw [List.drop_eq_nil_of_le (by omega)]; rfl
    rw [he]
    have hI : ¬ (n : Int) < A.length := by omega
    generalize A.length = N at *
    clear e4 he
    go_enter Tryd.func38, Tryd.ntmps38
    go_wp2_with fail
    go_ret
    exact ⟨rfl, rfl⟩

theorem infoD88 : (Tryd.prog.info? 88).map (·.size) = some 15 := by kernel_rfl
theorem dn_stored (v : World) {C : List Nat} (hC : Rg C) (x : Ac) : ((v.alloc Z15).setCells v.heap.size 0 (dnC C x)).heap[v.heap.size]? = some (.cells (dnC C x).toArray 88 (0, 0)) ∧ Below v.heap.size v ((v.alloc Z15).setCells v.heap.size 0 (dnC C x)) ∧ (v.alloc Z15).there v.heap.size 0 (dnC C x).toArray.size ∧ v.heap.size < ((v.alloc Z15).setCells v.heap.size 0 (dnC C x)).heap.size := by
  have h0 : (v.alloc Z15).heap[v.heap.size]? = some (.cells ([] ++ ([u16 0, u16 0, u16 0, u16 0, u16 0, u16 0, u16 0, u16 0, u16 0, i64 0, i64 0, i64 0, i64 0, i64 0, i64 0] ++ [])).toArray 88 (0, 0)) := heap_at rfl _
  have h1 := heap_mid [] (dnC C x) _ [] _ (by rw [dnC_len hC]; rfl) h0
  refine ⟨by simpa using h1, (new_done v hC x).2.2.2, (new_done v hC x).1, ?_⟩
  rw [setCells_size]; simp
theorem dn_act {V : World} {d : Nat} {C : List Nat} {x : Ac} (h : V.heap[d]? = some (.cells (dnC C x).toArray 88 (0, 0))) (hC : Rg C) : V.cell? ⟨d, 9, none⟩ = some (i64 x.k) ∧ V.cell? ⟨d, 10, none⟩ = some (i64 x.n) ∧ V.cell? ⟨d, 11, none⟩ = some (i64 x.r) ∧ V.cell? ⟨d, 12, none⟩ = some (i64 x.ad) ∧ V.cell? ⟨d, 13, none⟩ = some (i64 x.s) ∧ V.cell? ⟨d, 14, none⟩ = some (i64 x.v) := by
  obtain ⟨a0, a1, a2, a3, a4, a5, a6, a7, a8, rfl⟩ := list9 hC.len
  simp only [cell_of_row _ _ _ _ 88 (0, 0) h]
  exact ⟨rfl, rfl, rfl, rfl, rfl, rfl⟩
theorem dn_cp {V : World} {d : Nat} {C : List Nat} {x : Ac} (h : V.heap[d]? = some (.cells (dnC C x).toArray 88 (0, 0))) : V.rangeAt d 0 (cpC C) := fun i v hv => by
  rw [cell_of_row _ _ _ _ 88 (0, 0) h, Nat.zero_add]
  unfold dnC
  simp only [List.getElem?_toArray]
  rw [List.getElem?_append_left (List.getElem?_eq_some_iff.1 hv).1]
  exact hv
theorem dn_fz {V : World} {d : Nat} {C : List Nat} {x : Ac} (h : V.heap[d]? = some (.cells (dnC C x).toArray 88 (0, 0))) (i : Nat) : V.frozen? ⟨d, i, none⟩ = false := by
  unfold World.frozen?
  rw [show V.heap[(⟨d, i, none⟩ : Addr).block]? = _ from h]
  simp
theorem dn_set {V : World} {d : Nat} {C : List Nat} {x : Ac} (h : V.heap[d]? = some (.cells (dnC C x).toArray 88 (0, 0))) (hC : Rg C) (i y : Nat) (hi : i < 9) : (V.setCell ⟨d, i, none⟩ (u16 (y : Nat))).heap[d]? = some (.cells (dnC (C.set i y) x).toArray 88 (0, 0)) := by
  rw [sc_row h i _]
  unfold dnC
  rw [List.set_append_left _ _ (by rw [cpC_len, hC.len]; exact hi)]
  simp [cpC, List.map_set]
theorem ac_cells {V : World} {q : Nat} {x : Ac} {t : TypeId} (h : V.heap[q]? = some (.cells #[i64 x.k, i64 x.n, i64 x.r, i64 x.ad, i64 x.s, i64 x.v] t (0, 0))) : V.cell? ⟨q, 0, none⟩ = some (i64 x.k) ∧ V.cell? ⟨q, 1, none⟩ = some (i64 x.n) ∧ V.cell? ⟨q, 2, none⟩ = some (i64 x.r) ∧ V.cell? ⟨q, 3, none⟩ = some (i64 x.ad) ∧ V.cell? ⟨q, 4, none⟩ = some (i64 x.s) ∧ V.cell? ⟨q, 5, none⟩ = some (i64 x.v) := by
  simp only [cell_of_row _ _ _ _ t (0, 0) h]
  exact ⟨rfl, rfl, rfl, rfl, rfl, rfl⟩
theorem there_mid {w : World} {base R h j : Nat} {C D : List Nat} {M : List UInt8} {K : List Cl} {gm cm : Nat} {vk : Value} (r : Rr w base R h j C M K gm cm vk) (hD : Rg D) : w.there R 2 (cpC D).toArray.size := fun i hi => by
  rw [List.size_toArray, cpC_len, hD.len] at hi
  exact ⟨by rw [r.cells.rg i hi]; rfl, r.cells.fz _⟩
theorem Rr.gtag {w : World} {base R h j : Nat} {C : List Nat} {M : List UInt8} {K : List Cl} {gm cm : Nat} {vk : Value} (r : Rr w base R h j C M K gm cm vk) : ∃ X, w.heap[gm]? = some (.cells X 5 (0, 0)) := by
  rcases r.mo.2 with ⟨h', _⟩ | ⟨g', cap', cur, h', _, hg, _⟩
  · simp at h'
  · simp only [Value.slice.injEq, Option.some.injEq, Addr.mk.injEq, and_true, true_and] at h'
    obtain ⟨rfl, rfl⟩ := h'
    exact ⟨cur, hg⟩
theorem Rr.apart {w : World} {base R h j : Nat} {C : List Nat} {M : List UInt8} {K : List Cl} {gm cm : Nat} {vk : Value} (r : Rr w base R h j C M K gm cm vk) (_u w' : World) {d : Nat} (hne : ∀ k, k ≠ d → w'.heap[k]? = w.heap[k]?) {X : Array Value} (hd : w.heap[d]? = some (.cells X 88 (0, 0))) : Rr w' base R h j C M K gm cm vk :=
  ⟨r.lo, r.rg, r.mem, (hne R (fun e => by have := r.row; rw [e, hd] at this; simp at this)).trans r.row, own_keep r.mo (fun k _ hk => (hne k (fun e => by rw [e, hd] at hk; simp at hk)).trans hk), own_keep r.ko (fun k _ hk => (hne k (fun e => by rw [e, hd] at hk; simp at hk)).trans hk)⟩
theorem wrap_lo (v : Nat) : (IntKind.u8.wrap ((v : Int).tmod 256) : Int) = (((UInt8.ofNat v).toNat : Nat) : Int) := by
  rw [UInt8.toNat_ofNat', Int.tmod_eq_emod_of_nonneg (by omega)]
  unfold IntKind.wrap
  simp [IntKind.signed, IntKind.bits]
theorem wrap_hi (v : Nat) (hv : v < 65536) : (IntKind.u8.wrap (IntKind.i64.wrap ((v : Int) / 256)) : Int) = (((UInt8.ofNat (v / 256)).toNat : Nat) : Int) := by
  rw [UInt8.toNat_ofNat']
  unfold IntKind.wrap
  simp [IntKind.signed, IntKind.bits]
  omega
theorem dn_cell {V : World} {d : Nat} {C : List Nat} {x : Ac} (h : V.heap[d]? = some (.cells (dnC C x).toArray 88 (0, 0))) (hC : Rg C) (i : Nat) (hi : i < 9) : V.cell? ⟨d, i, none⟩ = some (u16 (C.getD i 0 : Nat)) := by
  have := dn_cp h i (u16 (C.getD i 0 : Nat)) (by simp [cpC, List.getElem?_eq_getElem (show i < C.length by rw [hC.len]; exact hi)])
  rw [Nat.zero_add] at this
  exact this
set_option maxRecDepth 100000 in
set_option maxHeartbeats 1600000 in
theorem rst0 (w : World) (base R h j : Nat) (C : List Nat) (M : List UInt8) (K : List Cl) (gm cm : Nat) (vk : Value) (r : Rr w base R h j C M K gm cm vk) (l : List UInt8) (hl : l.length ≤ 256) (hj : j ≤ 5000) (ao : Option Addr) (cap : Nat) (A : List Int) (hA : ∀ V, Below base w V → ASl V base base (.slice ao A.length cap) A) (hk : (stA C l).k = 0) :
    Calls Tryd.prog 18 #[.pointer (some ⟨R, 0, none⟩), .string ⟨l.toArray⟩, .slice ao A.length cap] w fun e w' => e = .returned (.tuple #[]) ∧ (∃ vk', Rr w' base R 2 (j + 1) C M K gm cm vk') ∧ Below base w w' := by
  have HR := hid r
  have HAN := hid hA
  obtain ⟨c0, c1, c11, c12, cp, rg, fz⟩ := r.cells
  have HCP := hid cp
  have hRl := blt r.row
  have hlo := r.lo
  have hC := r.rg
  have HRG := hid hC
  have HSTEP := hid (fun v => rstep_ok v C hC l (by unfold maxLen; omega))
  have HD := hid (hC.step l)
  generalize hDD : stC C l = D at *
  generalize hxx : stA C l = x at *
  have HDD := hid hDD
  have HXX := hid hxx
  obtain ⟨xk, xn, xr, xa, xs, xv⟩ := x
  simp only at hk
  subst hk
  clear r hA cp rg c11 c12 c0 hC hDD hxx
  have hjI : (j : Int) ≤ 5000 := by omega
  go_enter Tryd.func18, Tryd.ntmps18
  go_upto_region 1 with fail
  have HR1 := hid HR.out.step
  have HBa : Hid (Below base w (w.setCell ⟨R, 1, none⟩ (i64 ((j : Int) + 1)))) := (Below.refl _ _).setCell hlo _
  have hR1l := blt HR1.out.row
  have HCP1 := hid HR1.out.cells.cp
  clear c1 fz
  generalize w.setCell ⟨R, 1, none⟩ (Value.int IntKind.i64 ((j : Int) + 1)) = W1 at *
  go_upto_region 2 with (first
    | (refine wpList_load_mid rfl 30 (.tmp 19) rfl R 2 rfl (cpC C) _ (by exact HCP1.out) Tryd.underlying30 rfl (cpC_info HRG.out) ?_)
    | (go_at_call 36; refine (HSTEP.out _).mono ?_; rintro e v2 ⟨rfl, h2⟩; have HB2 := hid h2; have HND := hid (dn_stored v2 HD.out (⟨0, xn, xr, xa, xs, xv⟩ : Ac)); clear h2)
    | (refine wpList_store_mid rfl 88 (.tmp 6) (.tmp 22) rfl v2.heap.size 0 (dnC D (⟨0, xn, xr, xa, xs, xv⟩ : Ac)).toArray rfl rfl (by exact HND.out.2.2.1) (by rw [List.size_toArray, dnC_len HD.out]; exact infoD88) (by exact dnC_one _ _) ?_))
  have HR2 := hid ((HR1.out.below HB2.out).below HND.out.2.1)
  have HD2 := hid HND.out.1
  have HBb := hid ((HBa.out.trans (HB2.out.mono (by omega))).trans (HND.out.2.1.mono (by have := HB2.out.size; omega)))
  have hd1 := HND.out.2.2.2
  have hb2 : base ≤ v2.heap.size := by have := HB2.out.size; omega
  have hRd : R < v2.heap.size := by have := HB2.out.size; omega
  clear HND HB2 HCP1 HR1 HBa
  generalize (v2.alloc Z15).setCells v2.heap.size 0 (dnC D (⟨0, xn, xr, xa, xs, xv⟩ : Ac)) = V2 at *
  generalize v2.heap.size = d at *
  obtain ⟨d9, d10, d11, d12, d13, d14⟩ := dn_act (x := (⟨0, xn, xr, xa, xs, xv⟩ : Ac)) HD2.out HD.out
  go_upto_region 3 with fail
  have HQ : Hid ((V2.alloc (.cells #[i64 0, i64 xn, i64 xr, i64 xa, i64 xs, i64 xv] 86)).heap[V2.heap.size]? = some (.cells #[i64 0, i64 xn, i64 xr, i64 xa, i64 xs, i64 xv] 86 (0, 0))) := heap_at rfl _
  have HR3 := hid (HR2.out.below (below_one V2 (.cells #[i64 0, i64 xn, i64 xr, i64 xa, i64 xs, i64 xv] 86)))
  have HD3 := hid (((below_one V2 (.cells #[i64 0, i64 xn, i64 xr, i64 xa, i64 xs, i64 xv] 86)).block _ (blt HD2.out)).trans HD2.out)
  have HB3 := hid (HBb.out.trans ((below_one V2 (.cells #[i64 0, i64 xn, i64 xr, i64 xa, i64 xs, i64 xv] 86)).mono (by omega)))
  have hdq : d < V2.heap.size := blt HD2.out
  have hRq : R < V2.heap.size := blt HR2.out.row
  clear d9 d10 d11 d12 d13 d14 HR2 HD2 HBb
  generalize hV3 : V2.alloc (.cells #[i64 0, i64 xn, i64 xr, i64 xa, i64 xs, i64 xv] 86) = V at *
  have hVs : V.heap.size = V2.heap.size + 1 := by rw [← hV3]; simp
  generalize V2.heap.size = q at *
  clear hV3
  obtain ⟨q0, q1, q2, q3, q4, q5⟩ := ac_cells (x := (⟨0, xn, xr, xa, xs, xv⟩ : Ac)) HQ.out
  obtain ⟨c0, c1, c11, c12, cp, rg, fz⟩ := HR3.out.cells
  have HCP3 := hid cp
  have HRG3 := hid rg
  have hqv : q < V.heap.size := by omega
  have hdv : d < V.heap.size := by omega
  have hRv : R < V.heap.size := by omega
  clear cp rg hVs
  go_wp2_with fail
  (try simp only [Exit.inBlock, Exit.then])
  refine bodyPost_ret (results_none rfl _ _ _) rfl ?_
  exact ⟨rfl, ⟨_, HR3.out.how 2⟩, HB3.out.setCell hlo _⟩
set_option maxRecDepth 100000 in
set_option maxHeartbeats 1600000 in
theorem rst1 (w : World) (base R h j : Nat) (C : List Nat) (M : List UInt8) (K : List Cl) (gm cm : Nat) (vk : Value) (r : Rr w base R h j C M K gm cm vk) (l : List UInt8) (hl : l.length ≤ 256) (hj : j ≤ 5000) (ao : Option Addr) (cap : Nat) (A : List Int) (hA : ∀ V, Below base w V → ASl V base base (.slice ao A.length cap) A) (hk : (stA C l).k = 1) :
    Calls Tryd.prog 18 #[.pointer (some ⟨R, 0, none⟩), .string ⟨l.toArray⟩, .slice ao A.length cap] w fun e w' => e = .returned (.tuple #[]) ∧ (∃ vk', Rr w' base R 1 (j + 1) (stC C l) M K gm cm vk') ∧ Below base w w' := by
  have HR := hid r
  have HAN := hid hA
  obtain ⟨c0, c1, c11, c12, cp, rg, fz⟩ := r.cells
  have HCP := hid cp
  have hRl := blt r.row
  have hlo := r.lo
  have hC := r.rg
  have HRG := hid hC
  have HSTEP := hid (fun v => rstep_ok v C hC l (by unfold maxLen; omega))
  have HD := hid (hC.step l)
  generalize hDD : stC C l = D at *
  generalize hxx : stA C l = x at *
  have HDD := hid hDD
  have HXX := hid hxx
  obtain ⟨xk, xn, xr, xa, xs, xv⟩ := x
  simp only at hk
  subst hk
  clear r hA cp rg c11 c12 c0 hC hDD hxx
  have hjI : (j : Int) ≤ 5000 := by omega
  go_enter Tryd.func18, Tryd.ntmps18
  go_upto_region 1 with fail
  have HR1 := hid HR.out.step
  have HBa : Hid (Below base w (w.setCell ⟨R, 1, none⟩ (i64 ((j : Int) + 1)))) := (Below.refl _ _).setCell hlo _
  have hR1l := blt HR1.out.row
  have HCP1 := hid HR1.out.cells.cp
  clear c1 fz
  generalize w.setCell ⟨R, 1, none⟩ (Value.int IntKind.i64 ((j : Int) + 1)) = W1 at *
  go_upto_region 2 with (first
    | (refine wpList_load_mid rfl 30 (.tmp 19) rfl R 2 rfl (cpC C) _ (by exact HCP1.out) Tryd.underlying30 rfl (cpC_info HRG.out) ?_)
    | (go_at_call 36; refine (HSTEP.out _).mono ?_; rintro e v2 ⟨rfl, h2⟩; have HB2 := hid h2; have HND := hid (dn_stored v2 HD.out (⟨1, xn, xr, xa, xs, xv⟩ : Ac)); clear h2)
    | (refine wpList_store_mid rfl 88 (.tmp 6) (.tmp 22) rfl v2.heap.size 0 (dnC D (⟨1, xn, xr, xa, xs, xv⟩ : Ac)).toArray rfl rfl (by exact HND.out.2.2.1) (by rw [List.size_toArray, dnC_len HD.out]; exact infoD88) (by exact dnC_one _ _) ?_))
  have HR2 := hid ((HR1.out.below HB2.out).below HND.out.2.1)
  have HD2 := hid HND.out.1
  have HBb := hid ((HBa.out.trans (HB2.out.mono (by omega))).trans (HND.out.2.1.mono (by have := HB2.out.size; omega)))
  have hd1 := HND.out.2.2.2
  have hb2 : base ≤ v2.heap.size := by have := HB2.out.size; omega
  have hRd : R < v2.heap.size := by have := HB2.out.size; omega
  clear HND HB2 HCP1 HR1 HBa
  generalize (v2.alloc Z15).setCells v2.heap.size 0 (dnC D (⟨1, xn, xr, xa, xs, xv⟩ : Ac)) = V2 at *
  generalize v2.heap.size = d at *
  obtain ⟨d9, d10, d11, d12, d13, d14⟩ := dn_act (x := (⟨1, xn, xr, xa, xs, xv⟩ : Ac)) HD2.out HD.out
  go_upto_region 3 with fail
  have HQ : Hid ((V2.alloc (.cells #[i64 1, i64 xn, i64 xr, i64 xa, i64 xs, i64 xv] 86)).heap[V2.heap.size]? = some (.cells #[i64 1, i64 xn, i64 xr, i64 xa, i64 xs, i64 xv] 86 (0, 0))) := heap_at rfl _
  have HR3 := hid (HR2.out.below (below_one V2 (.cells #[i64 1, i64 xn, i64 xr, i64 xa, i64 xs, i64 xv] 86)))
  have HD3 := hid (((below_one V2 (.cells #[i64 1, i64 xn, i64 xr, i64 xa, i64 xs, i64 xv] 86)).block _ (blt HD2.out)).trans HD2.out)
  have HB3 := hid (HBb.out.trans ((below_one V2 (.cells #[i64 1, i64 xn, i64 xr, i64 xa, i64 xs, i64 xv] 86)).mono (by omega)))
  have hdq : d < V2.heap.size := blt HD2.out
  have hRq : R < V2.heap.size := blt HR2.out.row
  clear d9 d10 d11 d12 d13 d14 HR2 HD2 HBb
  generalize hV3 : V2.alloc (.cells #[i64 1, i64 xn, i64 xr, i64 xa, i64 xs, i64 xv] 86) = V at *
  have hVs : V.heap.size = V2.heap.size + 1 := by rw [← hV3]; simp
  generalize V2.heap.size = q at *
  clear hV3
  obtain ⟨q0, q1, q2, q3, q4, q5⟩ := ac_cells (x := (⟨1, xn, xr, xa, xs, xv⟩ : Ac)) HQ.out
  obtain ⟨c0, c1, c11, c12, cp, rg, fz⟩ := HR3.out.cells
  have HCP3 := hid cp
  have HRG3 := hid rg
  have hqv : q < V.heap.size := by omega
  have hdv : d < V.heap.size := by omega
  have hRv : R < V.heap.size := by omega
  clear cp rg hVs
  have HR4 := hid (HR3.out.how 1)
  have HD4 := hid ((heap_setCell_other V ⟨R, 0, none⟩ d (i64 ((1 : Nat) : Int)) (by show d ≠ R; omega)).trans HD3.out)
  have HTH := hid (there_mid HR4.out HD.out)
  go_wp2_with (first
      | (refine wpList_load_mid rfl 30 (.tmp 177) rfl d 0 rfl (cpC D) _ (by exact dn_cp HD4.out) Tryd.underlying30 rfl (cpC_info HD.out) ?_)
      | (refine wpList_store_mid rfl 30 (.tmp 180) (.tmp 178) rfl R 2 (cpC D).toArray rfl rfl (by exact HTH.out) (cpC_infoA HD.out) (cpC_one _) ?_))
  go_end0
  exact ⟨rfl, ⟨_, HR4.out.cpu HD.out⟩, Below.cellsAt _ _ _ _ hlo (HB3.out.setCell hlo _)⟩
set_option maxRecDepth 100000 in
set_option maxHeartbeats 1600000 in
theorem rst5 (w : World) (base R h j : Nat) (C : List Nat) (M : List UInt8) (K : List Cl) (gm cm : Nat) (vk : Value) (r : Rr w base R h j C M K gm cm vk) (l : List UInt8) (hl : l.length ≤ 256) (hj : j ≤ 5000) (ao : Option Addr) (cap : Nat) (A : List Int) (hA : ∀ V, Below base w V → ASl V base base (.slice ao A.length cap) A) (hk : (stA C l).k = 5) :
    Calls Tryd.prog 18 #[.pointer (some ⟨R, 0, none⟩), .string ⟨l.toArray⟩, .slice ao A.length cap] w fun e w' => e = .returned (.tuple #[]) ∧ (∃ vk', Rr w' base R h (j + 1) (stC C l) M K gm cm vk') ∧ Below base w w' := by
  have HR := hid r
  have HAN := hid hA
  obtain ⟨c0, c1, c11, c12, cp, rg, fz⟩ := r.cells
  have HCP := hid cp
  have hRl := blt r.row
  have hlo := r.lo
  have hC := r.rg
  have HRG := hid hC
  have HSTEP := hid (fun v => rstep_ok v C hC l (by unfold maxLen; omega))
  have HD := hid (hC.step l)
  generalize hDD : stC C l = D at *
  generalize hxx : stA C l = x at *
  have HDD := hid hDD
  have HXX := hid hxx
  obtain ⟨xk, xn, xr, xa, xs, xv⟩ := x
  simp only at hk
  subst hk
  clear r hA cp rg c11 c12 c0 hC hDD hxx
  have hjI : (j : Int) ≤ 5000 := by omega
  go_enter Tryd.func18, Tryd.ntmps18
  go_upto_region 1 with fail
  have HR1 := hid HR.out.step
  have HBa : Hid (Below base w (w.setCell ⟨R, 1, none⟩ (i64 ((j : Int) + 1)))) := (Below.refl _ _).setCell hlo _
  have hR1l := blt HR1.out.row
  have HCP1 := hid HR1.out.cells.cp
  clear c1 fz
  generalize w.setCell ⟨R, 1, none⟩ (Value.int IntKind.i64 ((j : Int) + 1)) = W1 at *
  go_upto_region 2 with (first
    | (refine wpList_load_mid rfl 30 (.tmp 19) rfl R 2 rfl (cpC C) _ (by exact HCP1.out) Tryd.underlying30 rfl (cpC_info HRG.out) ?_)
    | (go_at_call 36; refine (HSTEP.out _).mono ?_; rintro e v2 ⟨rfl, h2⟩; have HB2 := hid h2; have HND := hid (dn_stored v2 HD.out (⟨5, xn, xr, xa, xs, xv⟩ : Ac)); clear h2)
    | (refine wpList_store_mid rfl 88 (.tmp 6) (.tmp 22) rfl v2.heap.size 0 (dnC D (⟨5, xn, xr, xa, xs, xv⟩ : Ac)).toArray rfl rfl (by exact HND.out.2.2.1) (by rw [List.size_toArray, dnC_len HD.out]; exact infoD88) (by exact dnC_one _ _) ?_))
  have HR2 := hid ((HR1.out.below HB2.out).below HND.out.2.1)
  have HD2 := hid HND.out.1
  have HBb := hid ((HBa.out.trans (HB2.out.mono (by omega))).trans (HND.out.2.1.mono (by have := HB2.out.size; omega)))
  have hd1 := HND.out.2.2.2
  have hb2 : base ≤ v2.heap.size := by have := HB2.out.size; omega
  have hRd : R < v2.heap.size := by have := HB2.out.size; omega
  clear HND HB2 HCP1 HR1 HBa
  generalize (v2.alloc Z15).setCells v2.heap.size 0 (dnC D (⟨5, xn, xr, xa, xs, xv⟩ : Ac)) = V2 at *
  generalize v2.heap.size = d at *
  obtain ⟨d9, d10, d11, d12, d13, d14⟩ := dn_act (x := (⟨5, xn, xr, xa, xs, xv⟩ : Ac)) HD2.out HD.out
  go_upto_region 3 with fail
  have HQ : Hid ((V2.alloc (.cells #[i64 5, i64 xn, i64 xr, i64 xa, i64 xs, i64 xv] 86)).heap[V2.heap.size]? = some (.cells #[i64 5, i64 xn, i64 xr, i64 xa, i64 xs, i64 xv] 86 (0, 0))) := heap_at rfl _
  have HR3 := hid (HR2.out.below (below_one V2 (.cells #[i64 5, i64 xn, i64 xr, i64 xa, i64 xs, i64 xv] 86)))
  have HD3 := hid (((below_one V2 (.cells #[i64 5, i64 xn, i64 xr, i64 xa, i64 xs, i64 xv] 86)).block _ (blt HD2.out)).trans HD2.out)
  have HB3 := hid (HBb.out.trans ((below_one V2 (.cells #[i64 5, i64 xn, i64 xr, i64 xa, i64 xs, i64 xv] 86)).mono (by omega)))
  have hdq : d < V2.heap.size := blt HD2.out
  have hRq : R < V2.heap.size := blt HR2.out.row
  clear d9 d10 d11 d12 d13 d14 HR2 HD2 HBb
  generalize hV3 : V2.alloc (.cells #[i64 5, i64 xn, i64 xr, i64 xa, i64 xs, i64 xv] 86) = V at *
  have hVs : V.heap.size = V2.heap.size + 1 := by rw [← hV3]; simp
  generalize V2.heap.size = q at *
  clear hV3
  obtain ⟨q0, q1, q2, q3, q4, q5⟩ := ac_cells (x := (⟨5, xn, xr, xa, xs, xv⟩ : Ac)) HQ.out
  obtain ⟨c0, c1, c11, c12, cp, rg, fz⟩ := HR3.out.cells
  have HCP3 := hid cp
  have HRG3 := hid rg
  have hqv : q < V.heap.size := by omega
  have hdv : d < V.heap.size := by omega
  have hRv : R < V.heap.size := by omega
  clear cp rg hVs
  have HTH := hid (there_mid HR3.out HD.out)
  go_wp2_with (first
      | (refine wpList_load_mid rfl 30 (.tmp 177) rfl d 0 rfl (cpC D) _ (by exact dn_cp HD3.out) Tryd.underlying30 rfl (cpC_info HD.out) ?_)
      | (refine wpList_store_mid rfl 30 (.tmp 180) (.tmp 178) rfl R 2 (cpC D).toArray rfl rfl (by exact HTH.out) (cpC_infoA HD.out) (cpC_one _) ?_))
  go_end0
  exact ⟨rfl, ⟨_, HR3.out.cpu HD.out⟩, Below.cellsAt _ _ _ _ hlo HB3.out⟩
set_option maxRecDepth 100000 in
set_option maxHeartbeats 1600000 in
theorem rst3o (w : World) (base R h j : Nat) (C : List Nat) (M : List UInt8) (K : List Cl) (gm cm : Nat) (vk : Value) (r : Rr w base R h j C M K gm cm vk) (l : List UInt8) (hl : l.length ≤ 256) (hj : j ≤ 5000) (ao : Option Addr) (cap : Nat) (A : List Int) (hA : ∀ V, Below base w V → ASl V base base (.slice ao A.length cap) A) (hk : (stA C l).k = 3) (ad sz : Nat) (had : (stA C l).ad = (ad : Nat)) (hsz : (stA C l).s = (sz : Nat)) (hs2 : sz ≤ 2) (ha2 : ad < 65536) (hout : 256 < ad + sz) :
    Calls Tryd.prog 18 #[.pointer (some ⟨R, 0, none⟩), .string ⟨l.toArray⟩, .slice ao A.length cap] w fun e w' => e = .returned (.tuple #[]) ∧ (∃ vk', Rr w' base R 3 (j + 1) C M K gm cm vk') ∧ Below base w w' := by
  have HR := hid r
  have HAN := hid hA
  obtain ⟨c0, c1, c11, c12, cp, rg, fz⟩ := r.cells
  have HCP := hid cp
  have hRl := blt r.row
  have hlo := r.lo
  have hC := r.rg
  have HRG := hid hC
  have HSTEP := hid (fun v => rstep_ok v C hC l (by unfold maxLen; omega))
  have HD := hid (hC.step l)
  generalize hDD : stC C l = D at *
  generalize hxx : stA C l = x at *
  have HDD := hid hDD
  have HXX := hid hxx
  obtain ⟨xk, xn, xr, xa, xs, xv⟩ := x
  simp only at hk had hsz
  subst hk had hsz
  clear r hA cp rg c11 c12 c0 hC hDD hxx
  have hjI : (j : Int) ≤ 5000 := by omega
  go_enter Tryd.func18, Tryd.ntmps18
  go_upto_region 1 with fail
  have HR1 := hid HR.out.step
  have HBa : Hid (Below base w (w.setCell ⟨R, 1, none⟩ (i64 ((j : Int) + 1)))) := (Below.refl _ _).setCell hlo _
  have hR1l := blt HR1.out.row
  have HCP1 := hid HR1.out.cells.cp
  clear c1 fz
  generalize w.setCell ⟨R, 1, none⟩ (Value.int IntKind.i64 ((j : Int) + 1)) = W1 at *
  go_upto_region 2 with (first
    | (refine wpList_load_mid rfl 30 (.tmp 19) rfl R 2 rfl (cpC C) _ (by exact HCP1.out) Tryd.underlying30 rfl (cpC_info HRG.out) ?_)
    | (go_at_call 36; refine (HSTEP.out _).mono ?_; rintro e v2 ⟨rfl, h2⟩; have HB2 := hid h2; have HND := hid (dn_stored v2 HD.out (⟨3, xn, xr, (ad : Nat), (sz : Nat), xv⟩ : Ac)); clear h2)
    | (refine wpList_store_mid rfl 88 (.tmp 6) (.tmp 22) rfl v2.heap.size 0 (dnC D (⟨3, xn, xr, (ad : Nat), (sz : Nat), xv⟩ : Ac)).toArray rfl rfl (by exact HND.out.2.2.1) (by rw [List.size_toArray, dnC_len HD.out]; exact infoD88) (by exact dnC_one _ _) ?_))
  have HR2 := hid ((HR1.out.below HB2.out).below HND.out.2.1)
  have HD2 := hid HND.out.1
  have HBb := hid ((HBa.out.trans (HB2.out.mono (by omega))).trans (HND.out.2.1.mono (by have := HB2.out.size; omega)))
  have hd1 := HND.out.2.2.2
  have hb2 : base ≤ v2.heap.size := by have := HB2.out.size; omega
  have hRd : R < v2.heap.size := by have := HB2.out.size; omega
  clear HND HB2 HCP1 HR1 HBa
  generalize (v2.alloc Z15).setCells v2.heap.size 0 (dnC D (⟨3, xn, xr, (ad : Nat), (sz : Nat), xv⟩ : Ac)) = V2 at *
  generalize v2.heap.size = d at *
  obtain ⟨d9, d10, d11, d12, d13, d14⟩ := dn_act (x := (⟨3, xn, xr, (ad : Nat), (sz : Nat), xv⟩ : Ac)) HD2.out HD.out
  go_upto_region 3 with fail
  have HQ : Hid ((V2.alloc (.cells #[i64 3, i64 xn, i64 xr, i64 (ad : Nat), i64 (sz : Nat), i64 xv] 86)).heap[V2.heap.size]? = some (.cells #[i64 3, i64 xn, i64 xr, i64 (ad : Nat), i64 (sz : Nat), i64 xv] 86 (0, 0))) := heap_at rfl _
  have HR3 := hid (HR2.out.below (below_one V2 (.cells #[i64 3, i64 xn, i64 xr, i64 (ad : Nat), i64 (sz : Nat), i64 xv] 86)))
  have HD3 := hid (((below_one V2 (.cells #[i64 3, i64 xn, i64 xr, i64 (ad : Nat), i64 (sz : Nat), i64 xv] 86)).block _ (blt HD2.out)).trans HD2.out)
  have HB3 := hid (HBb.out.trans ((below_one V2 (.cells #[i64 3, i64 xn, i64 xr, i64 (ad : Nat), i64 (sz : Nat), i64 xv] 86)).mono (by omega)))
  have hdq : d < V2.heap.size := blt HD2.out
  have hRq : R < V2.heap.size := blt HR2.out.row
  clear d9 d10 d11 d12 d13 d14 HR2 HD2 HBb
  generalize hV3 : V2.alloc (.cells #[i64 3, i64 xn, i64 xr, i64 (ad : Nat), i64 (sz : Nat), i64 xv] 86) = V at *
  have hVs : V.heap.size = V2.heap.size + 1 := by rw [← hV3]; simp
  generalize V2.heap.size = q at *
  clear hV3
  obtain ⟨q0, q1, q2, q3, q4, q5⟩ := ac_cells (x := (⟨3, xn, xr, (ad : Nat), (sz : Nat), xv⟩ : Ac)) HQ.out
  obtain ⟨c0, c1, c11, c12, cp, rg, fz⟩ := HR3.out.cells
  have HCP3 := hid cp
  have HRG3 := hid rg
  have hqv : q < V.heap.size := by omega
  have hdv : d < V.heap.size := by omega
  have hRv : R < V.heap.size := by omega
  clear cp rg hVs
  have hoI : (256 : Int) < (ad : Int) + (sz : Int) := by omega
  go_wp2_with fail
  (try simp only [Exit.inBlock, Exit.then])
  refine bodyPost_ret (results_none rfl _ _ _) rfl ?_
  exact ⟨rfl, ⟨_, HR3.out.how 3⟩, HB3.out.setCell hlo _⟩
set_option maxRecDepth 100000 in
set_option maxHeartbeats 1600000 in
theorem rst4o (w : World) (base R h j : Nat) (C : List Nat) (M : List UInt8) (K : List Cl) (gm cm : Nat) (vk : Value) (r : Rr w base R h j C M K gm cm vk) (l : List UInt8) (hl : l.length ≤ 256) (hj : j ≤ 5000) (ao : Option Addr) (cap : Nat) (A : List Int) (hA : ∀ V, Below base w V → ASl V base base (.slice ao A.length cap) A) (hk : (stA C l).k = 4) (ad sz : Nat) (had : (stA C l).ad = (ad : Nat)) (hsz : (stA C l).s = (sz : Nat)) (hs2 : sz ≤ 2) (ha2 : ad < 65536) (hout : 256 < ad + sz) :
    Calls Tryd.prog 18 #[.pointer (some ⟨R, 0, none⟩), .string ⟨l.toArray⟩, .slice ao A.length cap] w fun e w' => e = .returned (.tuple #[]) ∧ (∃ vk', Rr w' base R 3 (j + 1) C M K gm cm vk') ∧ Below base w w' := by
  have HR := hid r
  have HAN := hid hA
  obtain ⟨c0, c1, c11, c12, cp, rg, fz⟩ := r.cells
  have HCP := hid cp
  have hRl := blt r.row
  have hlo := r.lo
  have hC := r.rg
  have HRG := hid hC
  have HSTEP := hid (fun v => rstep_ok v C hC l (by unfold maxLen; omega))
  have HD := hid (hC.step l)
  generalize hDD : stC C l = D at *
  generalize hxx : stA C l = x at *
  have HDD := hid hDD
  have HXX := hid hxx
  obtain ⟨xk, xn, xr, xa, xs, xv⟩ := x
  simp only at hk had hsz
  subst hk had hsz
  clear r hA cp rg c11 c12 c0 hC hDD hxx
  have hjI : (j : Int) ≤ 5000 := by omega
  go_enter Tryd.func18, Tryd.ntmps18
  go_upto_region 1 with fail
  have HR1 := hid HR.out.step
  have HBa : Hid (Below base w (w.setCell ⟨R, 1, none⟩ (i64 ((j : Int) + 1)))) := (Below.refl _ _).setCell hlo _
  have hR1l := blt HR1.out.row
  have HCP1 := hid HR1.out.cells.cp
  clear c1 fz
  generalize w.setCell ⟨R, 1, none⟩ (Value.int IntKind.i64 ((j : Int) + 1)) = W1 at *
  go_upto_region 2 with (first
    | (refine wpList_load_mid rfl 30 (.tmp 19) rfl R 2 rfl (cpC C) _ (by exact HCP1.out) Tryd.underlying30 rfl (cpC_info HRG.out) ?_)
    | (go_at_call 36; refine (HSTEP.out _).mono ?_; rintro e v2 ⟨rfl, h2⟩; have HB2 := hid h2; have HND := hid (dn_stored v2 HD.out (⟨4, xn, xr, (ad : Nat), (sz : Nat), xv⟩ : Ac)); clear h2)
    | (refine wpList_store_mid rfl 88 (.tmp 6) (.tmp 22) rfl v2.heap.size 0 (dnC D (⟨4, xn, xr, (ad : Nat), (sz : Nat), xv⟩ : Ac)).toArray rfl rfl (by exact HND.out.2.2.1) (by rw [List.size_toArray, dnC_len HD.out]; exact infoD88) (by exact dnC_one _ _) ?_))
  have HR2 := hid ((HR1.out.below HB2.out).below HND.out.2.1)
  have HD2 := hid HND.out.1
  have HBb := hid ((HBa.out.trans (HB2.out.mono (by omega))).trans (HND.out.2.1.mono (by have := HB2.out.size; omega)))
  have hd1 := HND.out.2.2.2
  have hb2 : base ≤ v2.heap.size := by have := HB2.out.size; omega
  have hRd : R < v2.heap.size := by have := HB2.out.size; omega
  clear HND HB2 HCP1 HR1 HBa
  generalize (v2.alloc Z15).setCells v2.heap.size 0 (dnC D (⟨4, xn, xr, (ad : Nat), (sz : Nat), xv⟩ : Ac)) = V2 at *
  generalize v2.heap.size = d at *
  obtain ⟨d9, d10, d11, d12, d13, d14⟩ := dn_act (x := (⟨4, xn, xr, (ad : Nat), (sz : Nat), xv⟩ : Ac)) HD2.out HD.out
  go_upto_region 3 with fail
  have HQ : Hid ((V2.alloc (.cells #[i64 4, i64 xn, i64 xr, i64 (ad : Nat), i64 (sz : Nat), i64 xv] 86)).heap[V2.heap.size]? = some (.cells #[i64 4, i64 xn, i64 xr, i64 (ad : Nat), i64 (sz : Nat), i64 xv] 86 (0, 0))) := heap_at rfl _
  have HR3 := hid (HR2.out.below (below_one V2 (.cells #[i64 4, i64 xn, i64 xr, i64 (ad : Nat), i64 (sz : Nat), i64 xv] 86)))
  have HD3 := hid (((below_one V2 (.cells #[i64 4, i64 xn, i64 xr, i64 (ad : Nat), i64 (sz : Nat), i64 xv] 86)).block _ (blt HD2.out)).trans HD2.out)
  have HB3 := hid (HBb.out.trans ((below_one V2 (.cells #[i64 4, i64 xn, i64 xr, i64 (ad : Nat), i64 (sz : Nat), i64 xv] 86)).mono (by omega)))
  have hdq : d < V2.heap.size := blt HD2.out
  have hRq : R < V2.heap.size := blt HR2.out.row
  clear d9 d10 d11 d12 d13 d14 HR2 HD2 HBb
  generalize hV3 : V2.alloc (.cells #[i64 4, i64 xn, i64 xr, i64 (ad : Nat), i64 (sz : Nat), i64 xv] 86) = V at *
  have hVs : V.heap.size = V2.heap.size + 1 := by rw [← hV3]; simp
  generalize V2.heap.size = q at *
  clear hV3
  obtain ⟨q0, q1, q2, q3, q4, q5⟩ := ac_cells (x := (⟨4, xn, xr, (ad : Nat), (sz : Nat), xv⟩ : Ac)) HQ.out
  obtain ⟨c0, c1, c11, c12, cp, rg, fz⟩ := HR3.out.cells
  have HCP3 := hid cp
  have HRG3 := hid rg
  have hqv : q < V.heap.size := by omega
  have hdv : d < V.heap.size := by omega
  have hRv : R < V.heap.size := by omega
  clear cp rg hVs
  have hoI : (256 : Int) < (ad : Int) + (sz : Int) := by omega
  go_wp2_with fail
  (try simp only [Exit.inBlock, Exit.then])
  refine bodyPost_ret (results_none rfl _ _ _) rfl ?_
  exact ⟨rfl, ⟨_, HR3.out.how 3⟩, HB3.out.setCell hlo _⟩
set_option maxRecDepth 100000 in
set_option maxHeartbeats 1600000 in
theorem rst3s1 (w : World) (base R h j : Nat) (C : List Nat) (M : List UInt8) (K : List Cl) (gm cm : Nat) (vk : Value) (r : Rr w base R h j C M K gm cm vk) (l : List UInt8) (hl : l.length ≤ 256) (hj : j ≤ 5000) (ao : Option Addr) (cap : Nat) (A : List Int) (hA : ∀ V, Below base w V → ASl V base base (.slice ao A.length cap) A) (hk : (stA C l).k = 3) (ad rr : Nat) (had : (stA C l).ad = (ad : Nat)) (hsz : (stA C l).s = 1) (hrr : (stA C l).r = (rr : Nat)) (hr7 : rr ≤ 7) (hin : ad + 1 ≤ 256) :
    Calls Tryd.prog 18 #[.pointer (some ⟨R, 0, none⟩), .string ⟨l.toArray⟩, .slice ao A.length cap] w fun e w' => e = .returned (.tuple #[]) ∧ (∃ vk', Rr w' base R h (j + 1) ((stC C l).set rr (memN M ad 1)) M K gm cm vk') ∧ Below base w w' := by
  have HR := hid r
  have HAN := hid hA
  obtain ⟨c0, c1, c11, c12, cp, rg, fz⟩ := r.cells
  have HCP := hid cp
  have hRl := blt r.row
  have hlo := r.lo
  have hC := r.rg
  have HRG := hid hC
  have HSTEP := hid (fun v => rstep_ok v C hC l (by unfold maxLen; omega))
  have HD := hid (hC.step l)
  generalize hDD : stC C l = D at *
  generalize hxx : stA C l = x at *
  have HDD := hid hDD
  have HXX := hid hxx
  obtain ⟨xk, xn, xr, xa, xs, xv⟩ := x
  simp only at hk had hsz hrr
  subst hk had hsz hrr
  clear r hA cp rg c11 c12 c0 hC hDD hxx
  have hjI : (j : Int) ≤ 5000 := by omega
  go_enter Tryd.func18, Tryd.ntmps18
  go_upto_region 1 with fail
  have HR1 := hid HR.out.step
  have HBa : Hid (Below base w (w.setCell ⟨R, 1, none⟩ (i64 ((j : Int) + 1)))) := (Below.refl _ _).setCell hlo _
  have hR1l := blt HR1.out.row
  have HCP1 := hid HR1.out.cells.cp
  clear c1 fz
  generalize w.setCell ⟨R, 1, none⟩ (Value.int IntKind.i64 ((j : Int) + 1)) = W1 at *
  go_upto_region 2 with (first
    | (refine wpList_load_mid rfl 30 (.tmp 19) rfl R 2 rfl (cpC C) _ (by exact HCP1.out) Tryd.underlying30 rfl (cpC_info HRG.out) ?_)
    | (go_at_call 36; refine (HSTEP.out _).mono ?_; rintro e v2 ⟨rfl, h2⟩; have HB2 := hid h2; have HND := hid (dn_stored v2 HD.out (⟨3, xn, (rr : Nat), (ad : Nat), 1, xv⟩ : Ac)); clear h2)
    | (refine wpList_store_mid rfl 88 (.tmp 6) (.tmp 22) rfl v2.heap.size 0 (dnC D (⟨3, xn, (rr : Nat), (ad : Nat), 1, xv⟩ : Ac)).toArray rfl rfl (by exact HND.out.2.2.1) (by rw [List.size_toArray, dnC_len HD.out]; exact infoD88) (by exact dnC_one _ _) ?_))
  have HR2 := hid ((HR1.out.below HB2.out).below HND.out.2.1)
  have HD2 := hid HND.out.1
  have HBb := hid ((HBa.out.trans (HB2.out.mono (by omega))).trans (HND.out.2.1.mono (by have := HB2.out.size; omega)))
  have hd1 := HND.out.2.2.2
  have hb2 : base ≤ v2.heap.size := by have := HB2.out.size; omega
  have hRd : R < v2.heap.size := by have := HB2.out.size; omega
  clear HND HB2 HCP1 HR1 HBa
  generalize (v2.alloc Z15).setCells v2.heap.size 0 (dnC D (⟨3, xn, (rr : Nat), (ad : Nat), 1, xv⟩ : Ac)) = V2 at *
  generalize v2.heap.size = d at *
  obtain ⟨d9, d10, d11, d12, d13, d14⟩ := dn_act (x := (⟨3, xn, (rr : Nat), (ad : Nat), 1, xv⟩ : Ac)) HD2.out HD.out
  go_upto_region 3 with fail
  have HQ : Hid ((V2.alloc (.cells #[i64 3, i64 xn, i64 (rr : Nat), i64 (ad : Nat), i64 1, i64 xv] 86)).heap[V2.heap.size]? = some (.cells #[i64 3, i64 xn, i64 (rr : Nat), i64 (ad : Nat), i64 1, i64 xv] 86 (0, 0))) := heap_at rfl _
  have HR3 := hid (HR2.out.below (below_one V2 (.cells #[i64 3, i64 xn, i64 (rr : Nat), i64 (ad : Nat), i64 1, i64 xv] 86)))
  have HD3 := hid (((below_one V2 (.cells #[i64 3, i64 xn, i64 (rr : Nat), i64 (ad : Nat), i64 1, i64 xv] 86)).block _ (blt HD2.out)).trans HD2.out)
  have HB3 := hid (HBb.out.trans ((below_one V2 (.cells #[i64 3, i64 xn, i64 (rr : Nat), i64 (ad : Nat), i64 1, i64 xv] 86)).mono (by omega)))
  have hdq : d < V2.heap.size := blt HD2.out
  have hRq : R < V2.heap.size := blt HR2.out.row
  clear d9 d10 d11 d12 d13 d14 HR2 HD2 HBb
  generalize hV3 : V2.alloc (.cells #[i64 3, i64 xn, i64 (rr : Nat), i64 (ad : Nat), i64 1, i64 xv] 86) = V at *
  have hVs : V.heap.size = V2.heap.size + 1 := by rw [← hV3]; simp
  generalize V2.heap.size = q at *
  clear hV3
  obtain ⟨q0, q1, q2, q3, q4, q5⟩ := ac_cells (x := (⟨3, xn, (rr : Nat), (ad : Nat), 1, xv⟩ : Ac)) HQ.out
  obtain ⟨c0, c1, c11, c12, cp, rg, fz⟩ := HR3.out.cells
  have HCP3 := hid cp
  have HRG3 := hid rg
  have hqv : q < V.heap.size := by omega
  have hdv : d < V.heap.size := by omega
  have hRv : R < V.heap.size := by omega
  clear cp rg hVs
  have hoI : (ad : Int) + 1 ≤ 256 := by omega
  have hrI : (rr : Int) ≤ 7 := by omega
  obtain ⟨m0, _, hgl, hgR, hgb⟩ := HR3.out.byte ad (by omega)
  have hb0 := (M.getD ad 0).toNat_lt
  obtain ⟨B0, hB0⟩ : ∃ B, (M.getD ad 0).toNat = B := ⟨_, rfl⟩
  rw [hB0] at m0 hb0
  have hb0I : (B0 : Int) < 256 := by omega
  have HMN : Hid (memN M ad 1 = B0) := by show _ = _; unfold memN; rw [if_neg (by decide), hB0]
  clear hB0 
  have hdz := dn_fz HD3.out
  have hdc := dn_cell HD3.out HD.out rr (by omega)
  go_upto_region 15 with fail
  go_quiet (fail)
  go_upto_region 26 with fail
  have hVD : ∀ n, Below V.heap.size V (V.drewN n) := fun n => ⟨rfl, rfl, rfl, Nat.le_refl _, fun _ _ => rfl⟩
  have HD4 : Hid (∀ n y, ((V.drewN n).setCell ⟨d, rr, none⟩ (u16 (y : Nat))).heap[d]? = some (.cells (dnC (D.set rr y) (⟨3, xn, (rr : Nat), (ad : Nat), 1, xv⟩ : Ac)).toArray 88 (0, 0))) := fun n y => dn_set (V := V.drewN n) HD3.out HD.out rr y (by omega)
  have HR4 : Hid (∀ n y, Rr ((V.drewN n).setCell ⟨d, rr, none⟩ (u16 (y : Nat))) base R h (j + 1) C M K gm cm vk) := fun n y => (HR3.out.below (hVD n)).apart (V.drewN n) _ (fun k hk => heap_setCell_other _ _ _ _ hk) HD3.out
  have hBlt : B0 < 65536 := by omega
  have HDr := hid (HD.out.set rr (B0) hBlt)
  have HB4 : Hid (∀ n y, Below base w ((V.drewN n).setCell ⟨d, rr, none⟩ (u16 (y : Nat)))) := fun n y => (HB3.out.trans ((hVD n).mono (by omega))).setCell (by show base ≤ d; omega) _
  clear m0  hdc hVD c0 c1 c11 c12 q0 q1 q2 q3 q4 q5
  go_wp2_with (first
      | (refine wpList_load_mid rfl 30 (.tmp 177) rfl d 0 rfl (cpC (D.set rr (B0))) _ (by exact dn_cp (HD4.out _ _)) Tryd.underlying30 rfl (cpC_info HDr.out) ?_)
      | (refine wpList_store_mid rfl 30 (.tmp 180) (.tmp 178) rfl R 2 (cpC (D.set rr (B0))).toArray rfl rfl (by exact there_mid (HR4.out _ _) HDr.out) (cpC_infoA HDr.out) (cpC_one _) ?_))
  go_end0
  exact ⟨rfl, ⟨_, by rw [HMN.out]; exact (HR4.out _ _).cpu HDr.out⟩, Below.cellsAt _ _ _ _ hlo (HB4.out _ _)⟩
set_option maxRecDepth 100000 in
set_option maxHeartbeats 1600000 in
theorem rst3s2 (w : World) (base R h j : Nat) (C : List Nat) (M : List UInt8) (K : List Cl) (gm cm : Nat) (vk : Value) (r : Rr w base R h j C M K gm cm vk) (l : List UInt8) (hl : l.length ≤ 256) (hj : j ≤ 5000) (ao : Option Addr) (cap : Nat) (A : List Int) (hA : ∀ V, Below base w V → ASl V base base (.slice ao A.length cap) A) (hk : (stA C l).k = 3) (ad rr : Nat) (had : (stA C l).ad = (ad : Nat)) (hsz : (stA C l).s = 2) (hrr : (stA C l).r = (rr : Nat)) (hr7 : rr ≤ 7) (hin : ad + 2 ≤ 256) :
    Calls Tryd.prog 18 #[.pointer (some ⟨R, 0, none⟩), .string ⟨l.toArray⟩, .slice ao A.length cap] w fun e w' => e = .returned (.tuple #[]) ∧ (∃ vk', Rr w' base R h (j + 1) ((stC C l).set rr (memN M ad 2)) M K gm cm vk') ∧ Below base w w' := by
  have HR := hid r
  have HAN := hid hA
  obtain ⟨c0, c1, c11, c12, cp, rg, fz⟩ := r.cells
  have HCP := hid cp
  have hRl := blt r.row
  have hlo := r.lo
  have hC := r.rg
  have HRG := hid hC
  have HSTEP := hid (fun v => rstep_ok v C hC l (by unfold maxLen; omega))
  have HD := hid (hC.step l)
  generalize hDD : stC C l = D at *
  generalize hxx : stA C l = x at *
  have HDD := hid hDD
  have HXX := hid hxx
  obtain ⟨xk, xn, xr, xa, xs, xv⟩ := x
  simp only at hk had hsz hrr
  subst hk had hsz hrr
  clear r hA cp rg c11 c12 c0 hC hDD hxx
  have hjI : (j : Int) ≤ 5000 := by omega
  go_enter Tryd.func18, Tryd.ntmps18
  go_upto_region 1 with fail
  have HR1 := hid HR.out.step
  have HBa : Hid (Below base w (w.setCell ⟨R, 1, none⟩ (i64 ((j : Int) + 1)))) := (Below.refl _ _).setCell hlo _
  have hR1l := blt HR1.out.row
  have HCP1 := hid HR1.out.cells.cp
  clear c1 fz
  generalize w.setCell ⟨R, 1, none⟩ (Value.int IntKind.i64 ((j : Int) + 1)) = W1 at *
  go_upto_region 2 with (first
    | (refine wpList_load_mid rfl 30 (.tmp 19) rfl R 2 rfl (cpC C) _ (by exact HCP1.out) Tryd.underlying30 rfl (cpC_info HRG.out) ?_)
    | (go_at_call 36; refine (HSTEP.out _).mono ?_; rintro e v2 ⟨rfl, h2⟩; have HB2 := hid h2; have HND := hid (dn_stored v2 HD.out (⟨3, xn, (rr : Nat), (ad : Nat), 2, xv⟩ : Ac)); clear h2)
    | (refine wpList_store_mid rfl 88 (.tmp 6) (.tmp 22) rfl v2.heap.size 0 (dnC D (⟨3, xn, (rr : Nat), (ad : Nat), 2, xv⟩ : Ac)).toArray rfl rfl (by exact HND.out.2.2.1) (by rw [List.size_toArray, dnC_len HD.out]; exact infoD88) (by exact dnC_one _ _) ?_))
  have HR2 := hid ((HR1.out.below HB2.out).below HND.out.2.1)
  have HD2 := hid HND.out.1
  have HBb := hid ((HBa.out.trans (HB2.out.mono (by omega))).trans (HND.out.2.1.mono (by have := HB2.out.size; omega)))
  have hd1 := HND.out.2.2.2
  have hb2 : base ≤ v2.heap.size := by have := HB2.out.size; omega
  have hRd : R < v2.heap.size := by have := HB2.out.size; omega
  clear HND HB2 HCP1 HR1 HBa
  generalize (v2.alloc Z15).setCells v2.heap.size 0 (dnC D (⟨3, xn, (rr : Nat), (ad : Nat), 2, xv⟩ : Ac)) = V2 at *
  generalize v2.heap.size = d at *
  obtain ⟨d9, d10, d11, d12, d13, d14⟩ := dn_act (x := (⟨3, xn, (rr : Nat), (ad : Nat), 2, xv⟩ : Ac)) HD2.out HD.out
  go_upto_region 3 with fail
  have HQ : Hid ((V2.alloc (.cells #[i64 3, i64 xn, i64 (rr : Nat), i64 (ad : Nat), i64 2, i64 xv] 86)).heap[V2.heap.size]? = some (.cells #[i64 3, i64 xn, i64 (rr : Nat), i64 (ad : Nat), i64 2, i64 xv] 86 (0, 0))) := heap_at rfl _
  have HR3 := hid (HR2.out.below (below_one V2 (.cells #[i64 3, i64 xn, i64 (rr : Nat), i64 (ad : Nat), i64 2, i64 xv] 86)))
  have HD3 := hid (((below_one V2 (.cells #[i64 3, i64 xn, i64 (rr : Nat), i64 (ad : Nat), i64 2, i64 xv] 86)).block _ (blt HD2.out)).trans HD2.out)
  have HB3 := hid (HBb.out.trans ((below_one V2 (.cells #[i64 3, i64 xn, i64 (rr : Nat), i64 (ad : Nat), i64 2, i64 xv] 86)).mono (by omega)))
  have hdq : d < V2.heap.size := blt HD2.out
  have hRq : R < V2.heap.size := blt HR2.out.row
  clear d9 d10 d11 d12 d13 d14 HR2 HD2 HBb
  generalize hV3 : V2.alloc (.cells #[i64 3, i64 xn, i64 (rr : Nat), i64 (ad : Nat), i64 2, i64 xv] 86) = V at *
  have hVs : V.heap.size = V2.heap.size + 1 := by rw [← hV3]; simp
  generalize V2.heap.size = q at *
  clear hV3
  obtain ⟨q0, q1, q2, q3, q4, q5⟩ := ac_cells (x := (⟨3, xn, (rr : Nat), (ad : Nat), 2, xv⟩ : Ac)) HQ.out
  obtain ⟨c0, c1, c11, c12, cp, rg, fz⟩ := HR3.out.cells
  have HCP3 := hid cp
  have HRG3 := hid rg
  have hqv : q < V.heap.size := by omega
  have hdv : d < V.heap.size := by omega
  have hRv : R < V.heap.size := by omega
  clear cp rg hVs
  have hoI : (ad : Int) + 2 ≤ 256 := by omega
  have hrI : (rr : Int) ≤ 7 := by omega
  obtain ⟨m0, _, hgl, hgR, hgb⟩ := HR3.out.byte ad (by omega)
  have hb0 := (M.getD ad 0).toNat_lt
  obtain ⟨B0, hB0⟩ : ∃ B, (M.getD ad 0).toNat = B := ⟨_, rfl⟩
  rw [hB0] at m0 hb0
  have hb0I : (B0 : Int) < 256 := by omega
  obtain ⟨m1, _, _, _, _⟩ := HR3.out.byte (ad + 1) (by omega)
  have hb1 := (M.getD (ad + 1) 0).toNat_lt
  obtain ⟨B1, hB1⟩ : ∃ B, (M.getD (ad + 1) 0).toNat = B := ⟨_, rfl⟩
  rw [hB1] at m1 hb1
  have hb1I : (B1 : Int) < 256 := by omega
  have HMN : Hid (memN M ad 2 = 256 * B0 + B1) := by show _ = _; unfold memN; rw [if_pos rfl, hB0, hB1]
  clear hB0 hB1
  have hdz := dn_fz HD3.out
  have hdc := dn_cell HD3.out HD.out rr (by omega)
  go_upto_region 15 with fail
  go_quiet (fail)
  go_upto_region 17 with fail
  go_quiet (fail)
  go_upto_region 26 with fail
  have hVD : ∀ n, Below V.heap.size V (V.drewN n) := fun n => ⟨rfl, rfl, rfl, Nat.le_refl _, fun _ _ => rfl⟩
  have HD4 : Hid (∀ n y, ((V.drewN n).setCell ⟨d, rr, none⟩ (u16 (y : Nat))).heap[d]? = some (.cells (dnC (D.set rr y) (⟨3, xn, (rr : Nat), (ad : Nat), 2, xv⟩ : Ac)).toArray 88 (0, 0))) := fun n y => dn_set (V := V.drewN n) HD3.out HD.out rr y (by omega)
  have HR4 : Hid (∀ n y, Rr ((V.drewN n).setCell ⟨d, rr, none⟩ (u16 (y : Nat))) base R h (j + 1) C M K gm cm vk) := fun n y => (HR3.out.below (hVD n)).apart (V.drewN n) _ (fun k hk => heap_setCell_other _ _ _ _ hk) HD3.out
  have hBlt : 256 * B0 + B1 < 65536 := by omega
  have HDr := hid (HD.out.set rr (256 * B0 + B1) hBlt)
  have HB4 : Hid (∀ n y, Below base w ((V.drewN n).setCell ⟨d, rr, none⟩ (u16 (y : Nat)))) := fun n y => (HB3.out.trans ((hVD n).mono (by omega))).setCell (by show base ≤ d; omega) _
  have hcast : (256 * (B0 : Int) + (B1 : Int)) = ((256 * B0 + B1 : Nat) : Int) := by push_cast; rfl
  rw [hcast]
  clear hcast
  clear m0 m1 hdc hVD c0 c1 c11 c12 q0 q1 q2 q3 q4 q5
  go_wp2_with (first
      | (refine wpList_load_mid rfl 30 (.tmp 177) rfl d 0 rfl (cpC (D.set rr (256 * B0 + B1))) _ (by exact dn_cp (HD4.out _ _)) Tryd.underlying30 rfl (cpC_info HDr.out) ?_)
      | (refine wpList_store_mid rfl 30 (.tmp 180) (.tmp 178) rfl R 2 (cpC (D.set rr (256 * B0 + B1))).toArray rfl rfl (by exact there_mid (HR4.out _ _) HDr.out) (cpC_infoA HDr.out) (cpC_one _) ?_))
  go_end0
  exact ⟨rfl, ⟨_, by rw [HMN.out]; exact (HR4.out _ _).cpu HDr.out⟩, Below.cellsAt _ _ _ _ hlo (HB4.out _ _)⟩
end Go.Proofs.YtigbfdloodfdgaaDoor
