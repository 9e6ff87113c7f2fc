/- A code whose other bytes are turned: the same step; no statement is proved in this text. -/
import Derived.Test.YtdhipmemcjajeaaDoorCpuS5
namespace Go.Proofs.YtdhipmemcjajeaaDoor

/-- The first bytes of a text, those outside of an instruction turned. -/
def mkTo (l : List UInt8) (pc nx k : Nat) : List UInt8 := (List.range k).map fun i => if i < pc ∨ nx ≤ i then 255 else l.getD i 0
theorem mkTo_len (l : List UInt8) (pc nx k : Nat) : (mkTo l pc nx k).length = k := by simp [mkTo]
theorem mkTo_succ (l : List UInt8) (pc nx k : Nat) : mkTo l pc nx (k + 1) = mkTo l pc nx k ++ [if k < pc ∨ nx ≤ k then 255 else l.getD k 0] := by
  unfold mkTo
  rw [List.range_succ, List.map_append]
  rfl
theorem mkTo_at (l t : List UInt8) (pc n : Nat) (h : pc + n ≤ l.length) : ((mkTo l pc (pc + n) l.length ++ t).drop pc).take n = (l.drop pc).take n := by
  apply List.ext_getElem?
  intro j
  by_cases hj : j < n
  · rw [List.getElem?_take_of_lt hj, List.getElem?_take_of_lt hj, List.getElem?_drop, List.getElem?_drop, List.getElem?_append_left (by rw [mkTo_len]; omega)]
    unfold mkTo
    rw [List.getElem?_map, List.getElem?_range (by omega : pc + j < l.length), Option.map_some, if_neg (by omega), List.getD_eq_getElem?_getD, List.getElem?_eq_getElem (by omega : pc + j < l.length)]
    rfl
  · rw [List.getElem?_eq_none (by simp; omega), List.getElem?_eq_none (by simp; omega)]
theorem hd_mk {l : List UInt8} {pc : Nat} {i : In} (h : hd (l.drop pc) = some i) (hp : pc < l.length) (t : List UInt8) : hd ((mkTo l pc (pc + sz i.op.toNat) l.length ++ t).drop pc) = some i := by
  obtain ⟨h1, h2, h3⟩ := hd_some h
  rw [List.length_drop] at h2
  have e := mkTo_at l t pc (sz i.op.toNat) (by omega)
  rw [← h3] at e
  have e2 : (mkTo l pc (pc + sz i.op.toNat) l.length ++ t).drop pc = plain i ++ ((mkTo l pc (pc + sz i.op.toNat) l.length ++ t).drop pc).drop (sz i.op.toNat) := by rw [← e, List.take_append_drop]
  rw [e2]
  exact hd_plain h1 _
theorem at_mk {l : List UInt8} {pc nx : Nat} (he : atE l (pc : Nat) = 0) (hn : atN l (pc : Nat) = (nx : Nat)) (t : List UInt8) : atE (mkTo l pc nx l.length ++ t) (pc : Nat) = 0 ∧ atI (mkTo l pc nx l.length ++ t) (pc : Nat) = atI l (pc : Nat) ∧ atN (mkTo l pc nx l.length ++ t) (pc : Nat) = (nx : Nat) := by
  obtain ⟨hI, hN, hp0, hp1⟩ := at_fine he
  have hp : pc < l.length := by omega
  have hlen : (0 : Int) ≤ pc ∧ (pc : Int) < l.length := ⟨by omega, by omega⟩
  have hlen2 : (0 : Int) ≤ pc ∧ (pc : Int) < ((mkTo l pc nx l.length ++ t).length : Nat) := ⟨by omega, by rw [List.length_append, mkTo_len]; omega⟩
  have hh : ∃ i, hd (l.drop pc) = some i := by
    unfold atE at he
    rw [if_pos hlen, Int.toNat_natCast] at he
    cases h : hd (l.drop pc) with
    | none => rw [h] at he; cases he
    | some i => exact ⟨i, rfl⟩
  obtain ⟨i, hi⟩ := hh
  have hII : atI l (pc : Nat) = i := by unfold atI; rw [if_pos hlen, Int.toNat_natCast, hi]; rfl
  rw [hII] at hN ⊢
  have hnx : nx = pc + sz i.op.toNat := by omega
  have hm := hd_mk hi hp t
  rw [← hnx] at hm
  refine ⟨?_, ?_, ?_⟩
  · unfold atE; rw [if_pos hlen2, Int.toNat_natCast, hm]; rfl
  · unfold atI; rw [if_pos hlen2, Int.toNat_natCast, hm]; rfl
  · unfold atN; rw [if_pos hlen2, Int.toNat_natCast, hm]; simp only; omega
theorem st_mk {C : List Nat} {l : List UInt8} {nx : Nat} (he : atE l (C.getD 8 0 : Nat) = 0) (hn : atN l (C.getD 8 0 : Nat) = (nx : Nat)) (t : List UInt8) : stC C (mkTo l (C.getD 8 0) nx l.length ++ t) = stC C l ∧ stA C (mkTo l (C.getD 8 0) nx l.length ++ t) = stA C l := by
  obtain ⟨h1, h2, h3⟩ := at_mk he hn t
  unfold stC stA
  rw [h1, h2, h3, he, hn]
  exact ⟨rfl, rfl⟩
end Go.Proofs.YtdhipmemcjajeaaDoor
