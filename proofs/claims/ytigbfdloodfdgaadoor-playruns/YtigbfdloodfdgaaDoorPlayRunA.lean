/- play.Run: its contract; no statement is proved in this text. -/
import Derived.Test.YtigbfdloodfdgaaDoorPlayIt
namespace Go.Proofs.YtigbfdloodfdgaaDoor
open Go.ChangeShapes Go.WideShapes Go.ChangeAt Go.RowKit

theorem ASl.mono {w : World} {B B' R : Nat} {va : Value} {A : List Int} (h : ASl w B R va A) (hb : B ≤ B') : ASl w B' R va A := by
  obtain ⟨ao, cap, e1, e2, e3, e4⟩ := h.ex
  refine ⟨ao, cap, e1, e2, e3, ?_⟩
  rcases e4 with e4 | ⟨b, off, h1, h2, h3, h4⟩
  · exact Or.inl e4
  · exact Or.inr ⟨b, off, h1, by omega, h3, h4⟩
theorem there_of {w : World} {b : Nat} {cs : Array Value} {t : TypeId} (h : w.heap[b]? = some (.cells cs t (0, 0))) : w.there b 0 cs.size := fun j hj => by
  rw [Nat.zero_add]
  refine ⟨by rw [cell_of_row _ _ _ _ t (0, 0) h]; simp [hj], ?_⟩
  unfold World.frozen?
  rw [show w.heap[(⟨b, j, none⟩ : Addr).block]? = _ from h]
  simp
theorem two_there (v : World) {D : List Nat} (hD : Rg D) : ((v.alloc Z9).alloc (Z6 61)).there v.heap.size 0 (cpC D).toArray.size ∧ (((v.alloc Z9).alloc (Z6 61)).setCells v.heap.size 0 (cpC D)).there (v.heap.size + 1) 0 6 := by
  refine ⟨there9 ?_ hD, ?_⟩
  · exact there_of (cs := #[u16 0, u16 0, u16 0, u16 0, u16 0, u16 0, u16 0, u16 0, u16 0]) (t := 30) (by rw [Below.heap_alloc _ _ _ (by simp)]; exact heap_at rfl _)
  · exact there_of (cs := #[i64 0, i64 0, i64 0, i64 0, i64 0, i64 0]) (t := 61) (by rw [heap_sc_ne _ _ (by omega)]; exact heap_at (by simp) _)
structure SqK (bx d : Nat) (k : Nat) (fv : Value) (D : List Nat) (x : Ac) (W : World) : Prop where
  s0 : W.cell? ⟨bx + 1, 0, none⟩ = some (i64 (k : Nat))
  s1 : W.cell? ⟨d, k, none⟩ = some fv
  s2 : (loadVar 30 ⟨bx, 0, none⟩).run Tryd.prog W = .ok (cpV D) W
  s3 : (loadVar 61 ⟨bx + 1, 0, none⟩).run Tryd.prog W = .ok (acV x) W
theorem sqk_of {W : World} {bx d k : Nat} {fv : Value} {D : List Nat} {x : Ac} {b : Nat} (hD : Rg D) (hk : x.k = (k : Int)) (h1 : Row W bx D) (h2 : W.heap[bx + 1]? = some (.cells (acC x).toArray 61 (0, 0))) (h3 : W.heap[d]? = some (.cells (deedsC b).toArray 58 (0, 0))) (hf : (deedsC b)[k]? = some fv) : SqK bx d k fv D x W :=
  ⟨by rw [cell_of_row _ _ _ _ 61 (0, 0) h2]; simp [acC, hk], by rw [cell_of_row _ _ _ _ 58 (0, 0) h3]; simpa using hf, run_loadVar_mid _ _ 0 30 _ _ h1.range Tryd.underlying30 rfl (cpC_info hD),
   run_loadVar_mid _ _ 0 61 (acC x) _ (fun j v hv => by rw [Nat.zero_add, cell_of_row _ _ _ _ 61 (0, 0) h2]; simpa using hv) Tryd.underlying61 rfl (by kernel_rfl)⟩
def s0P (m : List UInt8) (A : List Int) : Rn := ⟨z9, m ++ List.replicate (256 - m.length) 0, A, []⟩
theorem loop_start {w V1 V2 : World} {b0 : Nat} (hb : w.heap.size = b0) (hp : 0 < b0) (ht : Tab w) {m : List UInt8} {A : List Int} {va : Value}
    (h1 : RunAt V1 (b0 + 1) z9 (m ++ List.replicate (256 - m.length) 0) va (.slice none 0 0)) (h2 : Below (b0 + 1) (w.alloc Z33) V1) (h3 : V1.heap.size = b0 + 2)
    (h4 : DeedsAt (b0 + 2) (b0 + 1) V2) (h5 : Below (b0 + 2) V1 V2) (h6 : V2.heap.size = b0 + 9) (ha : ASl w b0 (b0 + 1) va A) :
    LoopAt w b0 (s0P m A) (V2.alloc (.cells (deedsC (b0 + 2)).toArray 58)) := by
  subst hb
  have hB : Below w.heap.size w V2 := ((below_one w Z33).trans (h2.mono (by omega))).trans (h5.mono (by omega))
  have hB3 : Below w.heap.size w (V2.alloc (.cells (deedsC (w.heap.size + 2)).toArray 58)) := hB.trans ((below_one V2 _).mono (by omega))
  have h14 := (h1.below (by rw [h3]; exact h5)).below (below_one V2 (.cells (deedsC (w.heap.size + 2)).toArray 58))
  refine ⟨ht.below hB3, h4.fr (Fr.of_below (below_one V2 _)) (by omega) (by omega), ⟨_, _, h14, ?_, World.ownsRow_nil _ _ _ _⟩, heap_at (by rw [h6]) _, ?_, by simp [h6], hB3, hp⟩
  · exact (ha.fr (Fr.of_below hB3)).mono (by omega)
  · rw [Below.heap_alloc _ _ _ (by omega), h5.block _ (by omega), h2.block _ (by omega)]
    exact heap_at rfl _
/-- What Run hands back, at the end. -/
def resC (h j : Nat) (C : List Nat) (M : List UInt8) (vc : Value) : List Value := i64 (h : Nat) :: i64 (j : Nat) :: (cpC C ++ [.string ⟨M.toArray⟩, vc])
def hwP (h : Nat) : Nat := if h = 0 then 4 else h
def RunPost (w : World) (b0 : Nat) (r : Nat × Nat × Rn) (e : Ending) (w' : World) : Prop :=
  ∃ vc, e = .returned (.tuple #[.agg (resC (hwP r.1) r.2.1 r.2.2.C r.2.2.M vc).toArray, i64 0]) ∧ w'.ownsRow b0 51 4 vc r.2.2.K.length (clC r.2.2.K) ∧ Below b0 w w'
theorem RunAt.conv {w : World} {R : Nat} {C : List Nat} {M : List UInt8} {va vc : Value} (h : RunAt w R C M va vc) : (convert 41 9 (.slice (some ⟨R, 9, none⟩) 256 256)).run Tryd.prog w = .ok (.string ⟨M.toArray⟩) w := by
  have := run_convert_bytes_back (P := Tryd.prog) w 41 9 5 ⟨R, 9, none⟩ 256 M Tryd.underlying41 (by kernel_rfl) (by kernel_rfl) (fun j hj => by
    rw [Addr.add_mid, h.byte j (by rw [← h.mem]; exact hj)]
    simp [List.getD_eq_getElem?_getD, hj])
  rw [h.mem] at this
  exact this
theorem resC_len {h j : Nat} {C : List Nat} (hC : Rg C) (M : List UInt8) (vc : Value) : (resC h j C M vc).length = 13 := by simp [resC, cpC_len, hC.len]
theorem infoR33 : (Tryd.prog.info? 33).map (·.size) = some 13 := by kernel_rfl
theorem build_res9 (W : World) (h j : Nat) (c0 c1 c2 c3 c4 c5 c6 c7 c8 : Nat) (t : ByteArray) (ao : Option Addr) (n cap : Nat) : (Instr.build 33 #[(0, i64 (h : Nat)), (1, i64 (j : Nat)), (2, cpV [c0, c1, c2, c3, c4, c5, c6, c7, c8]), (3, .string t), (4, .slice ao n cap)]).run Tryd.prog W = .ok (.agg (i64 (h : Nat) :: i64 (j : Nat) :: (cpC [c0, c1, c2, c3, c4, c5, c6, c7, c8] ++ [.string t, .slice ao n cap])).toArray) W := by kernel_rfl
theorem build_res (W : World) (h j : Nat) {C : List Nat} (hC : Rg C) (t : ByteArray) (ao : Option Addr) (n cap : Nat) : (Instr.build 33 #[(0, i64 (h : Nat)), (1, i64 (j : Nat)), (2, cpV C), (3, .string t), (4, .slice ao n cap)]).run Tryd.prog W = .ok (.agg (i64 (h : Nat) :: i64 (j : Nat) :: (cpC C ++ [.string t, .slice ao n cap])).toArray) W := by
  obtain ⟨hl, _⟩ := hC
  match C, hl with
  | [c0, c1, c2, c3, c4, c5, c6, c7, c8], _ => exact build_res9 W h j c0 c1 c2 c3 c4 c5 c6 c7 c8 t ao n cap
theorem results_run {W : World} {t : Array Value} {a : Addr} {u v : Value} (h8 : t.getD 8 undef = .pointer (some a)) (h9 : t.getD 9 undef = v) (g1 : (loadVar 33 a).run Tryd.prog W = .ok u W) :
    (results Tryd.f9 t).run Tryd.prog W = .ok (.tuple #[u, v]) W := by
  have hr : Tryd.f9.results = #[.cell 8 33, .tmp 9] := Tryd.results9
  simp only [results, hr]
  simp [Result.andThen, asAddr, h8, h9, g1, -Array.getD_eq_getD_getElem?]
theorem res_one (h j : Nat) (C : List Nat) (M : List UInt8) (ao : Option Addr) (n cap : Nat) : (resC h j C M (.slice ao n cap)).toArray.all (·.oneCell') = true := all_oneCell_toArray fun v hv => by
  simp only [resC, List.mem_cons, List.mem_append, List.mem_nil_iff, or_false] at hv
  rcases hv with rfl | rfl | hv | rfl | rfl
  · rfl
  · rfl
  · obtain ⟨x, _, rfl⟩ := List.mem_map.1 hv
    rfl
  · rfl
  · rfl
set_option maxRecDepth 100000 in
theorem run_end {w wr : World} {b0 : Nat} {s : Rn} (h : LoopAt w b0 s wr) {hh j : Nat} {ao : Option Addr} {n cap : Nat} {va : Value} (hra : RunAt wr (b0 + 1) s.C s.M va (.slice ao n cap)) (ho : wr.ownsRow (b0 + 10) 51 4 (.slice ao n cap) s.K.length (clC s.K)) :
    (loadVar 33 ⟨b0, 0, none⟩).run Tryd.prog (wr.drew.setCells b0 0 (resC hh j s.C s.M (.slice ao n cap))) = .ok (.agg (resC hh j s.C s.M (.slice ao n cap)).toArray) (wr.drew.setCells b0 0 (resC hh j s.C s.M (.slice ao n cap)))
    ∧ (wr.drew.setCells b0 0 (resC hh j s.C s.M (.slice ao n cap))).ownsRow b0 51 4 (.slice ao n cap) s.K.length (clC s.K) ∧ Below b0 w (wr.drew.setCells b0 0 (resC hh j s.C s.M (.slice ao n cap))) ∧ wr.drew.there b0 0 13
    ∧ RunAt (wr.drew.setCells b0 0 (resC hh j s.C s.M (.slice ao n cap))) (b0 + 1) s.C s.M va (.slice ao n cap) := by
  have hth : wr.drew.there b0 0 13 := there_of (w := wr.drew) (t := 33) h.res
  have hl := resC_len (h := hh) (j := j) hra.rg s.M (.slice ao n cap)
  refine ⟨run_loadVar_mid _ _ 0 33 _ _ (World.rangeAt_setCells_same _ _ 0 _ (by rw [hl]; exact hth)) Tryd.underlying33 rfl (by rw [hl]; exact infoR33), ?_, ?_, hth, ?_⟩
  · refine ⟨ho.1, ?_⟩
    rcases ho.2 with h0 | ⟨g, c, cur, hv, hb, hg, rest⟩
    · exact Or.inl h0
    · exact Or.inr ⟨g, c, cur, hv, by omega, (heap_sc_ne b0 g (by omega) _ 0 wr.drew).trans hg, rest⟩
  · exact Below.cellsAt _ _ _ _ (Nat.le_refl _) (h.bel.trans ⟨rfl, rfl, rfl, Nat.le_refl _, fun _ _ => rfl⟩)
  · exact ⟨(heap_sc_ne b0 (b0 + 1) (by omega) _ 0 wr.drew).trans hra.row, hra.rg, hra.mem⟩
end Go.Proofs.YtigbfdloodfdgaaDoor
