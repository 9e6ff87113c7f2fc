/- A run, as plain lists and numbers; no statement is proved in this text. -/
import Derived.Test.YtigbfdloodfdgaaDoorCpuPure
namespace Go.Proofs.YtigbfdloodfdgaaDoor

structure Cl where
  n : Int
  a : Nat
  b : Nat
  c : Nat
deriving DecidableEq
structure Rn where
  C : List Nat
  M : List UInt8
  A : List Int
  K : List Cl
deriving DecidableEq
def memN (M : List UInt8) (ad sz : Nat) : Nat := if sz = 2 then 256 * (M.getD ad 0).toNat + (M.getD (ad + 1) 0).toNat else (M.getD ad 0).toNat
def memP (M : List UInt8) (ad sz v : Nat) : List UInt8 := if sz = 2 then (M.set (ad + 1) (UInt8.ofNat v)).set ad (UInt8.ofNat (v / 256)) else M.set ad (UInt8.ofNat v)
theorem memN_lt (M : List UInt8) (ad sz : Nat) : memN M ad sz < 65536 := by
  unfold memN
  have h1 := (M.getD ad 0).toNat_lt
  have h2 := (M.getD (ad + 1) 0).toNat_lt
  split <;> omega
theorem memP_len (M : List UInt8) (ad sz v : Nat) : (memP M ad sz v).length = M.length := by unfold memP; split <;> simp
/-- Is an access outside? -/
def outB (x : Ac) : Bool := decide (256 - x.s < x.ad)
/-- What a run does at an act, with the registers behind its step: how it ended (0: it goes on), and what it has. -/
def doP (C : List Nat) (x : Ac) (s : Rn) : Nat × Rn :=
  if x.k = 0 then (2, { s with C := C })
  else if x.k = 1 then (1, { s with C := C })
  else if x.k = 2 then (0, ⟨C.set 0 (wd (s.A.headD 0)), s.M, s.A.tail, s.K ++ [⟨x.n, C.getD 1 0, C.getD 2 0, C.getD 3 0⟩]⟩)
  else if x.k = 3 then (if outB x then (3, s) else (0, { s with C := C.set x.r.toNat (memN s.M x.ad.toNat x.s.toNat) }))
  else if x.k = 4 then (if outB x then (3, s) else (0, { s with C := C, M := memP s.M x.ad.toNat x.s.toNat x.v.toNat }))
  else (0, { s with C := C })
def stepP (l : List UInt8) (s : Rn) : Nat × Rn := doP (stC s.C l) (stA s.C l) s
/-- So many steps at most: how it ended, how many were done, what it has. -/
def runP (l : List UInt8) : Nat → Rn → Nat × Nat × Rn
  | 0, s => (0, 0, s)
  | n + 1, s => match stepP l s with
    | (0, s') => ((runP l n s').1, (runP l n s').2.1 + 1, (runP l n s').2.2)
    | (h + 1, s') => (h + 1, 1, s')
/-- An act, as steps give it. -/
structure Fit (x : Ac) : Prop where
  k0 : 0 ≤ x.k
  k5 : x.k ≤ 5
  rd : x.k = 3 → (0 ≤ x.r ∧ x.r ≤ 7)
  ac : x.k = 3 ∨ x.k = 4 → (0 ≤ x.ad ∧ x.ad < 65536) ∧ (x.s = 1 ∨ x.s = 2)
  vl : x.k = 4 → 0 ≤ x.v ∧ x.v < 65536 ∧ (x.s = 1 → x.v < 256)
structure Rok (s : Rn) : Prop where
  rg : Rg s.C
  mem : s.M.length = 256
theorem Rok.do {s : Rn} (h : Rok s) {C : List Nat} (hC : Rg C) (x : Ac) : Rok (doP C x s).2 := by
  unfold doP
  repeat' split
  all_goals first
    | exact ⟨hC, h.mem⟩
    | exact h
    | exact ⟨hC.set _ _ (wd_lt _), h.mem⟩
    | exact ⟨hC.set _ _ (memN_lt _ _ _), h.mem⟩
    | exact ⟨hC, by rw [memP_len]; exact h.mem⟩
end Go.Proofs.YtigbfdloodfdgaaDoor
