/- play.Fuel, and the laws' call: their contracts; no statement is proved in this text. -/
import Derived.Test.YtigbfdloodfdgaaDoorPlayRun
import Derived.Test.YtigbfdloodfdgaaDoorPlayNo
namespace Go.Proofs.YtigbfdloodfdgaaDoor
open Go.ChangeShapes Go.WideShapes Go.ChangeAt Go.RowKit
def endA : Rn := ⟨[3, 5, 0, 0, 0, 0, 0, 0, 7], List.replicate 256 0, [], [⟨9, 5, 0, 0⟩]⟩
theorem it_a : itP [1, 16, 0, 5, 20, 9, 0] 9 (s0P [] [3]) = (1, 3, endA) := by kernel_rfl
def endB : Rn := ⟨[0, 0, 0, 0, 0, 0, 0, 0, 1], List.replicate 256 0, [], []⟩
theorem it_b1 : itP [0] 1 (s0P [] []) = (1, 1, endB) := by kernel_rfl
theorem it_b : itP [0] 5000 (s0P [] []) = (1, 1, endB) := by
  have := itP_stay [0] (s0P [] []) (n := 1) (by rw [it_b1]; decide) 4999
  rw [it_b1] at this
  exact this
theorem it_steps (l : List UInt8) (s : Rn) : ∀ n, (itP l n s).2.1 ≤ n
  | 0 => Nat.le_refl _
  | n + 1 => by
    have := it_steps l s n
    unfold itP
    split
    · simp only; omega
    · omega
theorem res_stored (v : World) {h j : Nat} {C : List Nat} (hC : Rg C) (M : List UInt8) (vc : Value) : ((v.alloc Z33).setCells v.heap.size 0 (resC h j C M vc)).heap[v.heap.size]? = some (.cells (resC h j C M vc).toArray 33 (0, 0)) ∧ Below v.heap.size v ((v.alloc Z33).setCells v.heap.size 0 (resC h j C M vc)) ∧ (v.alloc Z33).there v.heap.size 0 (resC h j C M vc).toArray.size ∧ ((v.alloc Z33).setCells v.heap.size 0 (resC h j C M vc)).heap.size = v.heap.size + 1 := by
  have h0 : (v.alloc Z33).heap[v.heap.size]? = some (.cells ([] ++ ([i64 0, i64 0, Value.int .u16 0, Value.int .u16 0, Value.int .u16 0, Value.int .u16 0, Value.int .u16 0, Value.int .u16 0, Value.int .u16 0, Value.int .u16 0, Value.int .u16 0, .string ⟨#[]⟩, .slice none 0 0] ++ [])).toArray 33 (0, 0)) := heap_at rfl _
  have h1 := heap_mid [] (resC h j C M vc) _ [] _ (by rw [resC_len hC]; rfl) h0
  refine ⟨by simpa using h1, Below.cellsAt _ _ _ _ (Nat.le_refl _) (below_one v _), ?_, ?_⟩
  · rw [show (resC h j C M vc).toArray.size = 13 by rw [List.size_toArray, resC_len hC]]
    exact there_of (t := 33) (heap_at rfl _)
  · rw [setCells_size]; simp
theorem itP_rg (l : List UInt8) {s : Rn} (h : Rok s) : ∀ n, Rok (itP l n s).2.2
  | 0 => h
  | n + 1 => by
    have h1 := itP_rg l h n
    unfold itP
    split
    · exact h1.do (h1.rg.step l) _
    · exact h1
theorem s0P_ok {m : List UInt8} (hm : m.length ≤ 256) (A : List Int) : Rok (s0P m A) := ⟨Rg.zero, by simp only [s0P, List.length_append, List.length_replicate]; omega⟩
theorem res_cells {W : World} {b h j : Nat} {C : List Nat} {M : List UInt8} {vc : Value} (hr : W.heap[b]? = some (.cells (resC h j C M vc).toArray 33 (0, 0))) : W.cell? ⟨b, 0, none⟩ = some (i64 (h : Nat)) ∧ W.cell? ⟨b, 1, none⟩ = some (i64 (j : Nat)) := by
  refine ⟨?_, ?_⟩ <;> · rw [cell_of_row _ _ _ _ 33 (0, 0) hr]; rfl
theorem own_one {w : World} {base n h j : Nat} {v : Value} {xs : List Value} (ho : w.ownsRow base 51 4 v n xs) (C : List Nat) (M : List UInt8) : (resC h j C M v).toArray.all (·.oneCell') = true := by
  rcases ho.2 with ⟨rfl, _⟩ | ⟨g, c, cur, rfl, _⟩
  · exact res_one _ _ _ _ _ _ _
  · exact res_one _ _ _ _ _ _ _
theorem itP_how (l : List UInt8) (s : Rn) : ∀ n, (itP l n s).1 ≤ 3
  | 0 => Nat.zero_le _
  | n + 1 => by
    have := itP_how l s n
    unfold itP
    split
    · simp only [stepP, doP]
      repeat' split
      all_goals simp
    · exact this
set_option maxRecDepth 100000 in
set_option maxHeartbeats 800000 in
theorem fuel_ok (w : World) (ht : Tab w) (l m : List UInt8) (ao : Option Addr) (cap : Nat) (A : List Int) (hl : l.length ≤ 256) (hm : m.length ≤ 256) (ha : ASl w w.heap.size (w.heap.size + 1) (.slice ao A.length cap) A) (h j F : Nat) (hF : (F : Int) = 5000) (s : Rn) (hit : itP l F (s0P m A) = (h, j, s)) (rN : Int) (rB : Bool) (q1 : h = 0 → rN = 0 ∧ rB = false) (q2 : h ≠ 0 → rN = j ∧ rB = true) :
    Calls Tryd.prog 13 #[.string ⟨l.toArray⟩, .string ⟨m.toArray⟩, .slice ao A.length cap] w fun e w' => e = .returned (.tuple #[i64 rN, .bool rB]) ∧ Below w.heap.size w w' := by
  have hr := run_in w ht l m ao cap A F _ rfl hl hm (by omega) ha
  rw [hit, hF] at hr
  have hC : Rg s.C := by have := itP_rg l (s0P_ok hm A) F; rw [hit] at this; exact this.rg
  have h3 : h ≤ 3 := by have := itP_how l (s0P m A) F; rw [hit] at this; exact this
  have HR := hid hr
  have Q1 := hid q1
  have Q2 := hid q2
  clear hit ht ha hr hF q1 q2
  go_enter Tryd.func13, Tryd.ntmps13
  go_upto_region 2 with (first
    | (go_at_call 9; refine (HR.out).mono ?_; rintro e w1 ⟨vc, rfl, h2, h3'⟩; have HB := hid h3'; have HST := hid (res_stored w1 (h := hwP h) (j := j) hC s.M vc); have HO1 := hid (own_one (h := hwP h) (j := j) h2 s.C s.M); clear h2 h3')
    | (refine wpList_store_mid rfl 33 (.tmp 8) (.tmp 15) rfl w1.heap.size 0 (resC (hwP h) j s.C s.M vc).toArray rfl rfl (by exact HST.out.2.2.1) (by rw [List.size_toArray, resC_len hC]; exact infoR33) (by exact HO1.out) ?_))
  have HB2 := hid (HB.out.trans (HST.out.2.1.mono HB.out.size))
  obtain ⟨c0, c1⟩ := res_cells HST.out.1
  clear HB HST HO1
  generalize (w1.alloc Z33).setCells w1.heap.size 0 (resC (hwP h) j s.C s.M vc) = V at *
  by_cases h0 : h = 0
  · obtain ⟨rfl, rfl⟩ := Q1.out h0
    subst h0
    have c0' : V.cell? ⟨w1.heap.size, 0, none⟩ = some (i64 4) := c0
    clear c0 h3
    go_wp2_with fail
    go_ret2
    exact ⟨rfl, HB2.out⟩
  · have e4 : hwP h = h := by unfold hwP; rw [if_neg h0]
    have h4 : (h : Int) ≠ 4 := by omega
    rw [e4] at c0
    obtain ⟨rfl, rfl⟩ := Q2.out h0
    clear e4 h3 h0
    go_wp2_with fail
    go_ret2
    exact ⟨rfl, HB2.out⟩
end Go.Proofs.YtigbfdloodfdgaaDoor
