/- play's begin: its contract; no statement is proved in this text. -/
import Derived.Test.YtigbfdloodfdgaaDoorPlayD6
import Derived.Lib.LazyBuf
namespace Go.Proofs.YtigbfdloodfdgaaDoor
open Go.ChangeShapes Go.WideShapes Go.ChangeAt Go.RowKit

theorem wpList_exec {P : Program} {ops : Array Oper} {rest : List Oper} {op : Oper} {a : Act} {w : World} {Q : Exit → Act → World → Prop} (v : Value) (hgd : op.guard = none) (h0 : (execOp a.eval op).run P w = .ok (.value v) w) (h : wpList P ops Q rest (a.put op.dst v) w) : wpList P ops Q (op :: rest) a w :=
  wpList_plain hgd fun K hK => by
    unfold Oper.wp
    simp only [h0]
    exact hK _ _ h
theorem size5 (w : World) : (Go.sizeOf 5).run Tryd.prog w = .ok 1 w := by kernel_rfl
theorem wpList_copy_str {P : Program} {w : World} {ops : Array Oper} {rest : List Oper} {o : Oper} {a : Act} {Q : Exit → Act → World → Prop} (hgd : o.guard = none) (d s : Operand) (dT sT : TypeId)
    (ho : o.op = .call { callee := .builtin .copy, args := #[d, s], argTypes := #[dT, sT] }) (elem : TypeId) (hu : P.underlying dT = some (.slice elem)) (hz : ∀ w, (Go.sizeOf elem).run P w = .ok 1 w)
    (b off dLen dCap : Nat) (hd : a.eval d = .slice (some ⟨b, off, none⟩) dLen dCap) (t : ByteArray) (hx : a.eval s = .string t) (hle : t.size ≤ dLen)
    (ht : w.there b off t.size)
    (h : wpList P ops Q rest (a.put o.dst (goInt t.size)) (w.setCells b off (cells t.data.toList))) : wpList P ops Q (o :: rest) a w := by
  refine wpList_plain hgd fun K hK => ?_
  have hrun := run_copy_string (P := P) w dT sT o.type elem b off dLen dCap t hu hz hle (fun j hj => (ht j hj).1) (fun j hj => (ht j hj).2)
  unfold Oper.wp
  simp [execOp, ho, resolve, invoke, builtin, hd, hx, hrun, Result.andThen]
  exact hK _ _ h
def z256 : List UInt8 := List.replicate 256 0
theorem z256_len : z256.length = 256 := List.length_replicate
theorem zero_run (w : World) : (zeroValue 66).run Tryd.prog w = .ok (.agg (rnC z9 z256 (.slice none 0 0) (.slice none 0 0)).toArray) w := by kernel_rfl
theorem rnC_set (va : Value) : (rnC z9 z256 (.slice none 0 0) (.slice none 0 0)).toArray.setIfInBounds 265 va = (rnC z9 z256 va (.slice none 0 0)).toArray := by kernel_rfl
theorem begun {W : World} {R : Nat} {m : List UInt8} (hm : m.length ≤ 256) {va vc : Value} (h : W.heap[R]? = some (.cells (rnC z9 z256 va vc).toArray 66 (0, 0))) : RunAt (W.setCells R 9 (cells m)) R z9 (m ++ List.replicate (256 - m.length) 0) va vc := by
  have e : rnC z9 z256 va vc = cpC z9 ++ (cells (z256.take m.length) ++ (cells (z256.drop m.length) ++ [va, vc])) := by
    rw [← List.append_assoc (cells _), ← cells_app, List.take_append_drop]; rfl
  rw [e] at h
  have h2 := heap_mid (cells (z256.drop m.length) ++ [va, vc]) (cells m) (cells (z256.take m.length)) (cpC z9) W (by rw [cells_len, cells_len, List.length_take, z256_len]; omega) h
  refine ⟨?_, Rg.zero, by rw [List.length_append, List.length_replicate]; omega⟩
  have hl : (cpC z9).length = 9 := rfl
  rw [hl] at h2
  rw [h2, rnC, cells_app, z256, List.drop_replicate, List.append_assoc]
set_option maxRecDepth 100000 in
set_option maxHeartbeats 1600000 in
theorem begin_ok (w : World) (m : List UInt8) (hm : m.length ≤ 256) (ao : Option Addr) (n cap : Nat) : Calls Tryd.prog 14 #[.string ⟨m.toArray⟩, .slice ao n cap] w fun e w' => e = .returned (.pointer (some ⟨w.heap.size, 0, none⟩)) ∧ RunAt w' w.heap.size z9 (m ++ List.replicate (256 - m.length) 0) (.slice ao n cap) (.slice none 0 0) ∧ Below w.heap.size w w' ∧ w'.heap.size = w.heap.size + 1 := by
  have hz := zero_run w
  have HE := hid (rnC_set (.slice ao n cap))
  have hs : (rnC z9 z256 (.slice none 0 0) (.slice none 0 0)).toArray.size = 267 := by
    rw [List.size_toArray, rnC, List.length_append, List.length_append, cells_len, z256_len]; rfl
  generalize (rnC z9 z256 (.slice none 0 0) (.slice none 0 0)).toArray = Z0 at *
  have HR : Hid ((w.alloc (.cells (Z0.setIfInBounds 265 (.slice ao n cap)) 66)).heap[w.heap.size]? = some (.cells (rnC z9 z256 (.slice ao n cap) (.slice none 0 0)).toArray 66 (0, 0))) := by rw [← HE.out]; exact heap_at rfl _
  have HG := hid (begun hm HR.out)
  have HG0 := hid (begun (m := []) (by simp) HR.out)
  have HT : Hid ((w.alloc (.cells (Z0.setIfInBounds 265 (.slice ao n cap)) 66)).there w.heap.size 9 m.length) := fun j hj => ⟨by rw [show (w.alloc (.cells (Z0.setIfInBounds 265 (.slice ao n cap)) 66)).cell? ⟨w.heap.size, 9 + j, none⟩ = _ from HG0.out.byte j (by omega)]; rfl, HG0.out.free _⟩
  have HBe := hid (Below.cellsAt (cells m) w.heap.size 9 _ (Nat.le_refl _) (below_one w (.cells (Z0.setIfInBounds 265 (.slice ao n cap)) 66)))
  have hsz : (w.alloc (.cells (Z0.setIfInBounds 265 (.slice ao n cap)) 66)).heap.size = w.heap.size + 1 := by simp
  clear HR HE HG0
  go_enter Tryd.func14, Tryd.ntmps14
  go_upto_region 2 with fail
  generalize w.alloc (.cells (Z0.setIfInBounds 265 (.slice ao n cap)) 66) = V at *
  go_wp2_with (refine wpList_copy_str rfl (.tmp 12) (.tmp 13) 41 9 rfl 5 Tryd.underlying41 size5 w.heap.size 9 256 256 rfl ⟨m.toArray⟩ rfl (by exact hm) (by exact HT.out) ?_)
  go_ret
  exact ⟨rfl, HG.out, HBe.out, by rw [setCells_size]; exact hsz⟩
end Go.Proofs.YtigbfdloodfdgaaDoor
