/- A pipe in memory: its seventeen cells, slices of them, copies into them; no statement is proved in this text. -/
import Derived.Laws.CopyRow
import Derived.Test.YtojhmiggocommaaApp
namespace Go.Proofs.Ytojhmiggocommaa
open Go.ChangeShapes Go.WideShapes Go.ChangeAt Go.RowKit Go.Deep
attribute [local go_sem ↓] Go.wp_at_zero Go.wp_at_succ

/-- Bytes as a string. -/
def bs (D : List UInt8) : ByteArray := ⟨D.toArray⟩
theorem bs_size (D : List UInt8) : (bs D).size = D.length := rfl
theorem bs_data (D : List UInt8) : (bs D).data.toList = D := rfl
theorem bs_of (s : ByteArray) : bs s.data.toList = s := rfl
theorem bs_app (D : List UInt8) (s : ByteArray) : bs D ++ s = bs (D ++ s.data.toList) := by
  apply ByteArray.ext
  simp [bs]
theorem bs_take (D : List UInt8) (n : Nat) : (bs D).extract 0 n = bs (D.take n) := by
  apply ByteArray.ext
  simp [bs]
theorem bs_drop (D : List UInt8) (n : Nat) : (bs D).extract n (bs D).size = bs (D.drop n) := by
  apply ByteArray.ext
  rw [bs_size]
  simp only [bs, ByteArray.data_extract]
  rw [← Array.toList_inj]
  simp [List.take_of_length_le]
abbrev str (D : List UInt8) : Value := .string (bs D)
def byv (D : List UInt8) : List Value := D.map fun x => Value.int .u8 (x.toNat : Int)
theorem byv_len (D : List UInt8) : (byv D).length = D.length := by simp [byv]
theorem byv_one (D : List UInt8) : ∀ v ∈ byv D, v.oneCell' = true := by
  intro v hv
  obtain ⟨x, _, rfl⟩ := List.mem_map.1 hv
  rfl
def zs (n : Nat) : List Value := List.replicate n (.int .u8 0)
theorem zs_len (n : Nat) : (zs n).length = n := by simp [zs]
/-- A pipe's cells. -/
def pc (D : List UInt8) : Array Value := (byv D ++ zs (16 - D.length) ++ [i64 D.length]).toArray
/-- .. with other bytes behind those that wait, and a number of them. -/
def px (D : List UInt8) (R : List Value) (k : Int) : Array Value := (byv D ++ R ++ [i64 k]).toArray
theorem px_size (D : List UInt8) (R : List Value) (k : Int) (h : D.length + R.length = 16) : (px D R k).size = 17 := by
  simp [px, byv_len]
  omega
theorem px_last (D : List UInt8) (R : List Value) (k : Int) (h : D.length + R.length = 16) : (px D R k)[16]? = some (i64 k) := by
  unfold px
  rw [List.getElem?_toArray, List.getElem?_append_right (by simp [byv_len]; omega)]
  rw [show 16 - (byv D ++ R).length = 0 by simp [byv_len]; omega]
  rfl
theorem px_set (D : List UInt8) (R : List Value) (k m : Int) (h : D.length + R.length = 16) : (px D R k).setIfInBounds 16 (i64 m) = px D R m := by
  unfold px
  rw [List.setIfInBounds_toArray, List.set_append_right _ _ (by simp [byv_len]; omega)]
  rw [show 16 - (byv D ++ R).length = 0 by simp [byv_len]; omega]
  rfl
theorem pc_list (D : List UInt8) : (pc D).toList = byv D ++ zs (16 - D.length) ++ [i64 D.length] := rfl
theorem pc_size (D : List UInt8) (h : D.length ≤ 16) : (pc D).size = 17 := by
  simp [pc, byv_len, zs_len]
  omega
theorem pc_last (D : List UInt8) (h : D.length ≤ 16) : (pc D)[16]? = some (i64 D.length) := by
  unfold pc
  rw [List.getElem?_toArray, List.getElem?_append_right (by simp [byv_len, zs_len]; omega)]
  rw [show 16 - (byv D ++ zs (16 - D.length)).length = 0 by simp [byv_len, zs_len]; omega]
  rfl
theorem pc_byte (D : List UInt8) (j : Nat) (hj : j < D.length) : (pc D)[j]? = some (.int .u8 (D[j].toNat : Int)) := by
  unfold pc
  rw [List.getElem?_toArray, List.append_assoc, List.getElem?_append_left (by rw [byv_len]; exact hj)]
  simp [byv, hj]
/-- A pipe in a block. -/
structure Pip (w : World) (a : Nat) (D : List UInt8) : Prop where
  blk : w.heap[a]? = some (.cells (pc D) 68)
  le : D.length ≤ 16
theorem Pip.lt {w : World} {a : Nat} {D : List UInt8} (h : Pip w a D) : a < w.heap.size := blk_lt h.blk
theorem Pip.len {w : World} {a : Nat} {D : List UInt8} (h : Pip w a D) : w.cell? ⟨a, 16, none⟩ = some (i64 D.length) := by rw [blk_cell h.blk, pc_last D h.le]
theorem Pip.frz {w : World} {a : Nat} {D : List UInt8} (h : Pip w a D) (j : Nat) : w.frozen? ⟨a, j, none⟩ = false := blk_frozen h.blk j
theorem Pip.of_block {w w' : World} {a : Nat} {D : List UInt8} (h : Pip w a D) (hb : w'.heap[a]? = w.heap[a]?) : Pip w' a D := ⟨hb.trans h.blk, h.le⟩
theorem Pip.drew {w : World} {a : Nat} {D : List UInt8} (h : Pip w a D) : Pip w.drew a D := ⟨h.blk, h.le⟩
theorem zero68 (w : World) : (zeroValue 68).run Try.prog w = .ok (.agg (pc [])) w := by kernel_rfl
theorem pc_nil : pc [] = #[.int .u8 0, .int .u8 0, .int .u8 0, .int .u8 0, .int .u8 0, .int .u8 0, .int .u8 0, .int .u8 0, .int .u8 0, .int .u8 0, .int .u8 0, .int .u8 0, .int .u8 0, .int .u8 0, .int .u8 0, .int .u8 0, i64 0] := rfl
theorem setRow_touch (w : World) (a : Nat) (C : Array Value) : Touch a w (w.setRow a C) := ⟨rfl, rfl, rfl, by simp, fun k _ hk => setRow_other w a k C hk⟩
/-- The slice of the bytes from n on. -/
def slv (a n : Nat) : Value := .slice (some (if n = 16 then ⟨a, 0, none⟩ else ⟨a, n, none⟩)) (16 - n) (16 - n)
theorem slv_run (W : World) (a n : Nat) (h : n ≤ 16) : (Instr.sliceAt 66 (.pointer (some ⟨a, 0, none⟩)) (some (i64 n)) none none).run Try.prog W = .ok (slv a n) W := by
  have hs : ∀ w, (Go.sizeOf 5).run Try.prog w = .ok 1 w := fun w => by kernel_rfl
  unfold slv
  simp only [Instr.sliceAt, run_underlying Try.underlying66, Instr.sureAddr, Instr.sliceBounds, Instr.sliceBound, asIntOf, Sem.run_bind, Sem.run_pure, Result.andThen_ok, hs]
  rw [if_pos ⟨by omega, by omega⟩]
  simp only [Sem.run_pure, Result.andThen_ok, Int.toNat_natCast, Nat.mul_one]
  by_cases hn : n = 16
  · subst hn; rfl
  · rw [if_neg hn, if_neg (fun e => hn e.symm), Addr.add_mid, Nat.zero_add]
theorem exec_slice {P : Program} {op : Oper} {a : Act} {w : World} {u v : Value} (ty : TypeId) (x : Operand) (lo hi : Option Operand) (vl vh : Option Value) (ho : op.op = .slice ty x lo hi none) (hx : a.eval x = v) (hl : lo.map a.eval = vl) (hh : hi.map a.eval = vh)
    (h : (Instr.sliceAt ty v vl vh none).run P w = .ok u w) : (execOp a.eval op).run P w = .ok (.value u) w := by
  unfold execOp
  simp only [ho, hx, hl, hh, Option.map_none, Sem.run_bind, Sem.run_pure, Result.andThen_ok, h]
theorem wp_copy_run {P : Program} {w : World} {o : Oper} {a : Act} {K : Act → World → Prop} {Q : Exit → Act → World → Prop} (s x : Operand) (t1 t2 : TypeId)
    (ho : o.op = .call { callee := .builtin .copy, args := #[s, x], argTypes := #[t1, t2] }) (v1 v2 : Value) (hs : a.eval s = v1) (hx : a.eval x = v2) (ty : TypeId) (hty : o.type = ty) (r : Value) (w' : World)
    (hr : (Builtin.copy_ #[t1, t2] ty #[v1, v2]).run P w = .ok r w') (d : Nat) (hd : o.dst = some d) (h : K (a.put (some d) r) w') : Oper.wp P o a w K Q := by
  unfold Oper.wp execOp
  simp only [ho, resolve, invoke, builtin, Sem.run_bind, Sem.run_pure, Result.andThen_ok, List.map_toArray, List.map_cons, List.map_nil, hs, hx, hty, hr]
  rw [← hd] at h
  exact h
theorem wp_clear_run {P : Program} {w : World} {o : Oper} {a : Act} {K : Act → World → Prop} {Q : Exit → Act → World → Prop} (s : Operand) (t1 : TypeId)
    (ho : o.op = .call { callee := .builtin .clear, args := #[s], argTypes := #[t1] }) (v1 : Value) (hs : a.eval s = v1) (ty : TypeId) (hty : o.type = ty) (r : Value) (w' : World)
    (hr : (Builtin.clear_ #[t1] ty #[v1]).run P w = .ok r w') (h : K (a.put o.dst r) w') : Oper.wp P o a w K Q := by
  unfold Oper.wp execOp
  simp only [ho, resolve, invoke, builtin, Sem.run_bind, Sem.run_pure, Result.andThen_ok, List.map_toArray, List.map_cons, List.map_nil, hs, hty, hr]
  exact h
theorem under74 : Try.prog.underlying 74 = some (.slice 5) := by kernel_rfl
theorem info5 : (Try.prog.info? 5).map (·.size) = some 1 := by kernel_rfl
theorem size5 (w : World) : (Go.sizeOf 5).run Try.prog w = .ok 1 w := by kernel_rfl
/-- A string's bytes behind those that wait. -/
theorem put_run (w : World) (a : Nat) (D : List UInt8) (s : ByteArray) (h : Pip w a D) (hs : D.length + s.size ≤ 16) :
    (Builtin.copy_ #[74, 9] 3 #[slv a D.length, .string s]).run Try.prog w = .ok (i64 s.size) (w.setRow a (px (D ++ s.data.toList) (zs (16 - (D.length + s.size))) D.length)) := by
  have hsz : s.data.toList.length = s.size := rfl
  have hmin : Nat.min s.size (16 - D.length) = s.size := Nat.min_eq_left (by omega)
  have hl : (byv s.data.toList).length = s.size := by rw [byv_len]; rfl
  have hst : ∀ x, x = (if D.length = 16 then (⟨a, 0, none⟩ : Addr) else ⟨a, D.length, none⟩) → (storeCells x (byv s.data.toList) 0).run Try.prog w = .ok () (w.setRow a (px (D ++ s.data.toList) (zs (16 - (D.length + s.size))) D.length)) := by
    rintro x rfl
    have hE : ((pc D).toList.take (D.length + 0) ++ byv s.data.toList ++ (pc D).toList.drop (D.length + 0 + (byv s.data.toList).length)).toArray = px (D ++ s.data.toList) (zs (16 - (D.length + s.size))) D.length := by
      unfold px
      congr 1
      rw [pc_list, hl, Nat.add_zero, List.append_assoc (byv D), List.take_left' (byv_len D), List.drop_append, List.drop_of_length_le (by rw [byv_len]; omega), byv_len, List.nil_append,
        show D.length + s.size - D.length = s.size by omega, List.drop_append, zs_len, show s.size - (16 - D.length) = 0 by omega, List.drop_zero]
      simp only [zs, List.drop_replicate, byv, List.map_append, List.append_assoc]
      rw [show 16 - D.length - s.size = 16 - (D.length + s.size) by omega]
    by_cases hD : D.length = 16
    · have h0 : s.data.toList = [] := List.eq_nil_of_length_eq_zero (by omega)
      rw [if_pos hD]
      rw [h0, List.append_nil]
      have hp : px D (zs (16 - (D.length + s.size))) D.length = pc D := by
        unfold px pc
        rw [show 16 - (D.length + s.size) = 16 - D.length by omega]
      rw [hp, setRow_self w a _ _ _ h.blk]
      rfl
    · rw [if_neg hD]
      rw [run_storeCells_at Try.prog a D.length 68 (byv s.data.toList) 0 (pc D) w h.blk (by rw [hl, pc_size D h.le]; omega) (byv_one _), hE]
  unfold slv
  simp only [Builtin.copy_, run_underlying under74, Builtin.lenOf, Builtin.firstCells, size5, hmin, Sem.run_bind, Sem.run_pure, Result.andThen_ok, List.getElem?_toArray, List.getElem?_cons_zero, List.getElem?_cons_succ]
  rw [show (Array.map (fun b => Value.int IntKind.u8 (b.toNat : Int)) (s.extract 0 s.size).data).toList = byv s.data.toList by simp [byv]]
  rw [hst _ rfl]
  rfl
/-- Those behind the first n go to the front. -/
theorem take_run (w : World) (a n : Nat) (D : List UInt8) (h : Pip w a D) (hn : n ≤ D.length) :
    ∃ R, (D.drop n).length + R.length = 16 ∧ (Builtin.copy_ #[74, 74] 3 #[.slice (some ⟨a, 0, none⟩) 16 16, .slice (some (if n = 16 then ⟨a, 0, none⟩ else ⟨a, n, none⟩)) (D.length - n) (16 - n)]).run Try.prog w = .ok (i64 (D.length - n : Nat)) (w.setRow a (px (D.drop n) R D.length)) := by
  have hD := h.le
  have hl : (byv (D.drop n)).length = D.length - n := by rw [byv_len, List.length_drop]
  refine ⟨(byv D ++ zs (16 - D.length)).drop (D.length - n), by simp [byv_len, zs_len]; omega, ?_⟩
  rw [run_copy_row Try.prog w 74 74 3 5 a 0 16 16 _ (D.length - n) (16 - n) (pc D) 68 (byv (D.drop n)) under74 info5 h.blk (by rw [hl]; exact (Nat.min_eq_left (by omega)).symm) (fun j v hv => ?_) (by rw [hl, pc_size D hD]; omega) (byv_one _)]
  · rw [hl]
    congr 2
    unfold px
    congr 1
    rw [pc_list, Nat.zero_add, List.take_zero, List.nil_append, List.drop_append_of_le_length (by simp [byv_len, zs_len]; omega), List.append_assoc]
  · have hj : j < D.length - n := by rw [← hl]; exact (List.getElem?_eq_some_iff.1 hv).1
    rw [if_neg (by omega), Addr.add_mid, blk_cell h.blk, pc_byte D (n + j) (by omega)]
    simp only [byv, List.getElem?_map, List.getElem?_drop, List.getElem?_eq_getElem (show n + j < D.length by omega), Option.map_some] at hv
    exact hv
/-- The bytes behind those that wait are cleared. -/
theorem clear_run (w : World) (a : Nat) (E : List UInt8) (R : List Value) (hR : E.length + R.length = 16) (h : w.heap[a]? = some (.cells (px E R E.length) 68)) :
    (Builtin.clear_ #[74] 0 #[slv a E.length]).run Try.prog w = .ok (.tuple #[]) (w.setRow a (pc E)) := by
  have hz : (zeroValue 5).run Try.prog w = .ok (.int .u8 0) w := by kernel_rfl
  by_cases hE : E.length = 16
  · have h0 : R = [] := List.eq_nil_of_length_eq_zero (by omega)
    subst h0
    have hp : px E [] E.length = pc E := by
      unfold px pc
      rw [hE]
      rfl
    rw [hp] at h
    rw [setRow_self w a _ _ _ h]
    unfold slv
    rw [hE]
    simp [Builtin.clear_, run_underlying under74]
  · have hc : (Builtin.zeroCells (Value.int .u8 0).cells (16 - E.length)).toList = zs (16 - E.length) := by
      have h1 : (Value.int .u8 0).cells = #[Value.int .u8 0] := rfl
      rw [h1]
      unfold Builtin.zeroCells zs
      apply List.ext_getElem
      · simp
      · intro i _ _
        simp [Nat.mod_one]
    have hst := run_storeCells_at Try.prog a E.length 68 (zs (16 - E.length)) 0 (px E R E.length) w h (by rw [zs_len, px_size E R _ hR]; omega) (fun v hv => by rw [List.eq_of_mem_replicate hv]; rfl)
    have hEq : ((px E R E.length).toList.take (E.length + 0) ++ zs (16 - E.length) ++ (px E R E.length).toList.drop (E.length + 0 + (zs (16 - E.length)).length)).toArray = pc E := by
      unfold pc px
      congr 1
      rw [zs_len, Nat.add_zero, List.append_assoc (byv E), List.take_left' (byv_len E), List.drop_append, List.drop_of_length_le (by rw [byv_len]; omega), byv_len, List.nil_append,
        show E.length + (16 - E.length) - E.length = R.length by omega, List.drop_left' rfl]
    rw [hEq] at hst
    unfold slv
    rw [if_neg hE]
    obtain ⟨m, hm⟩ : ∃ m, 16 - E.length = m + 1 := ⟨15 - E.length, by omega⟩
    rw [hm] at hst hc ⊢
    simp [Builtin.clear_, run_underlying under74, hz, hc, hst]
end Go.Proofs.Ytojhmiggocommaa
