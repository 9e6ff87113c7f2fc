/- QuotaBack's walk; no statement is proved in this text. -/
import Derived.Test.YtfnhiefngbcnaaaFive
namespace Go.Proofs.Ytfnhiefngbcnaaa
open Go.ChangeShapes Go.WideShapes Go.ChangeAt Go.RowKit Go.Deep

def non : St := fun _ => none
def one (p : Nat) (q h : T) : St := fun i => if i = 1 then some ⟨p, q, h⟩ else none
theorem at_one (p : Nat) (q h : T) : at_ (one p q h) 2 = some ⟨p, q, h⟩ := rfl
theorem upd_one (p : Nat) (q h h' : T) : upd (one p q h) 1 (some ⟨p, q, h'⟩) = one p q h' := by
  funext i
  unfold upd one
  split <;> rfl
theorem cl_one (p : Nat) (q h : T) : clS (one p q h) 2 = non := by
  funext i
  show upd (one p q h) 1 none i = none
  unfold upd one
  split <;> rfl
theorem tk_one {p : Nat} {q h : T} {kind n : Int} (hw : wrongB kind n = false) (hn : n ≤ q.g kind - h.g kind) : tkE (some ⟨p, q, h⟩) kind n = 0 ∧ tkS (one p q h) 2 kind n = one p q (h.put kind (h.g kind + n)) := by
  have h1 : ¬ (wrongB kind n = true) := by simp [hw]
  constructor
  · unfold tkE
    simp only
    rw [if_neg h1, if_neg (by omega)]
  · unfold tkS
    rw [at_one]
    simp only
    rw [if_neg (by intro h'; rcases h' with h' | h'; exact h1 h'; omega)]
    exact upd_one p q h _
theorem gv_one {p : Nat} {q h : T} {kind n : Int} (hw : wrongB kind n = false) (hn : n ≤ h.g kind) : gvE (some ⟨p, q, h⟩) kind n = 0 ∧ gvS (one p q h) 2 kind n = one p q (h.put kind (h.g kind - n)) := by
  have h1 : ¬ (wrongB kind n = true) := by simp [hw]
  constructor
  · unfold gvE
    simp only
    rw [if_neg h1, if_neg (by omega)]
  · unfold gvS
    rw [at_one]
    simp only
    rw [if_neg (by intro h'; rcases h' with h' | h'; exact h1 h'; omega)]
    exact upd_one p q h _
theorem tk_no {p : Nat} {q h : T} {kind n : Int} (hw : wrongB kind n = true ∨ q.g kind - h.g kind < n) : (tkE (some ⟨p, q, h⟩) kind n = 1 ∨ tkE (some ⟨p, q, h⟩) kind n = 100) ∧ tkS (one p q h) 2 kind n = one p q h := by
  constructor
  · unfold tkE
    simp only
    by_cases h1 : wrongB kind n = true
    · rw [if_pos h1]; exact Or.inl rfl
    · rw [if_neg h1, if_pos (hw.resolve_left h1)]; exact Or.inr rfl
  · unfold tkS
    rw [at_one]
    simp only
    rw [if_pos hw]
theorem opE_non (q : T) : opE ⟨64, 64, 64⟩ non 2 q = 0 ∨ opE ⟨64, 64, 64⟩ non 2 q = 1 ∨ opE ⟨64, 64, 64⟩ non 2 q = 5 := by
  by_cases h : badB 2 q = true
  · have : opE ⟨64, 64, 64⟩ non 2 q = 1 := by unfold opE; rw [if_pos h]
    rw [this]; simp
  · have : opE ⟨64, 64, 64⟩ non 2 q = if roomB ⟨64, 64, 64⟩ non q = true then (0 : Int) else 5 := by unfold opE; rw [if_neg h]; rfl
    rw [this]
    split <;> simp

set_option maxRecDepth 100000 in
set_option maxHeartbeats 2000000 in
theorem back_full (w : World) (q : T) (kind n : Int) (hE : opE ⟨64, 64, 64⟩ non 2 q = 1 ∨ opE ⟨64, 64, 64⟩ non 2 q = 5) :
    Calls Try.prog 6 #[q.v, i64 kind, i64 n] w fun e w' => e = .returned (.bool true) ∧ Below w.heap.size w w' := by
  have hq : ∀ W, (binOp .eql 22 (T.v ⟨64, 64, 64⟩) (T.v ⟨64, 64, 64⟩)).run Try.prog W = .ok (.bool true) W := fun W => eql22 ⟨64, 64, 64⟩ ⟨64, 64, 64⟩ W
  obtain ⟨V, hV⟩ : ∃ V, V = w.alloc (triO q) := ⟨_, rfl⟩
  have HV : Hid (V = w.alloc (triO q)) := hV
  have HQ0 : Hid (V.heap[w.heap.size]? = some (triO q)) := by rw [hV]; exact heap_last w _
  have HB0 : Hid (Below w.heap.size w V) := by rw [hV]; exact (Below.refl _ _).alloc (Nat.le_refl _) _
  have HF : Hid (freeT ⟨64, 64, 64⟩ non = ⟨64, 64, 64⟩) := rfl
  clear hV
  obtain ⟨E, hE0⟩ : ∃ E, opE ⟨64, 64, 64⟩ non 2 q = E := ⟨_, rfl⟩
  rw [hE0] at hE
  have HE : Hid (opE ⟨64, 64, 64⟩ non 2 q = E) := hE0
  clear hE0
  rcases hE with rfl | rfl
  all_goals
    go_enter Try.func6, Try.ntmps6
    go_wp2_with fail
    rw [show w.alloc (Obj.cells #[i64 q.a, i64 q.b, i64 q.c] 22) = V from HV.out.symm]
    refine (new_ok V ⟨64, 64, 64⟩ (by decide)).mono ?_
    rintro e w1 ⟨rfl, hb1, hk1, hz1⟩
    have HK1 : Hid (Bk w1 V.heap.size (V.heap.size + 1) ⟨64, 64, 64⟩ non) := hk1
    have HB1 : Hid (Below w.heap.size w w1) := HB0.out.trans (hb1.mono HB0.out.size)
    have hq1 := blk_below HQ0.out hb1
    have c0 : w1.cell? ⟨w.heap.size, 0, none⟩ = some (i64 q.a) := blk_cell hq1 0
    have c1 : w1.cell? ⟨w.heap.size, 1, none⟩ = some (i64 q.b) := blk_cell hq1 1
    have c2 : w1.cell? ⟨w.heap.size, 2, none⟩ = some (i64 q.c) := blk_cell hq1 2
    clear hb1 hk1 hq1
    go_wp2_with fail
    refine (open_ok HK1.out 2 q).mono ?_
    rintro e w2 ⟨rfl, s2, hs2, hk2, hf2⟩
    have hs2' : s2 = non := by unfold OpS at hs2; rw [HE.out] at hs2; exact hs2
    subst hs2'
    rw [HE.out]
    have HK2 : Hid (Bk w2 V.heap.size (V.heap.size + 1) ⟨64, 64, 64⟩ non) := hk2
    have HB2 : Hid (Below w.heap.size w w2) := HB1.out.trans (hf2.below.mono HB0.out.size)
    clear hk2 hf2 hs2
    go_wp2_with fail
    refine (free_ok HK2.out).mono ?_
    rintro e w3 ⟨rfl, hb3⟩
    rw [HF.out]
    have HB3 : Hid (Below w.heap.size w w3) := HB2.out.trans (hb3.mono HB2.out.size)
    clear hb3
    go_wp2_with fail
    refine (five_ok _).mono ?_
    rintro e w6 ⟨rfl, hb6⟩
    have HB6 : Hid (Below w.heap.size w w6) := HB3.out.trans (hb6.mono HB3.out.size)
    clear hb6
    go_wp2_with fail
    go_ret
    exact ⟨rfl, HB6.out⟩

set_option maxRecDepth 100000 in
set_option maxHeartbeats 2000000 in
theorem back_no (w : World) (q : T) (kind n : Int) (hm : n ≤ 9223372036854775807) (hE : opE ⟨64, 64, 64⟩ non 2 q = 0) (hn : wrongB kind n = true ∨ q.g kind - zT.g kind < n) :
    Calls Try.prog 6 #[q.v, i64 kind, i64 n] w fun e w' => e = .returned (.bool true) ∧ Below w.heap.size w w' := by
  have hq : ∀ W, (binOp .eql 22 (T.v zT) (T.v ⟨0, 0, 0⟩)).run Try.prog W = .ok (.bool true) W := fun W => eql22 zT ⟨0, 0, 0⟩ W
  obtain ⟨V, hV⟩ : ∃ V, V = w.alloc (triO q) := ⟨_, rfl⟩
  have HV : Hid (V = w.alloc (triO q)) := hV
  have HQ0 : Hid (V.heap[w.heap.size]? = some (triO q)) := by rw [hV]; exact heap_last w _
  have HB0 : Hid (Below w.heap.size w V) := by rw [hV]; exact (Below.refl _ _).alloc (Nat.le_refl _) _
  have HE : Hid (opE ⟨64, 64, 64⟩ non 2 q = 0) := hE
  have HTK : Hid (∀ p : Nat, (tkE (some ⟨p, q, zT⟩) kind n = 1 ∨ tkE (some ⟨p, q, zT⟩) kind n = 100) ∧ tkS (one p q zT) 2 kind n = one p q zT) := fun p => tk_no hn
  clear hV hE hn
  go_enter Try.func6, Try.ntmps6
  go_wp2_with fail
  rw [show w.alloc (Obj.cells #[i64 q.a, i64 q.b, i64 q.c] 22) = V from HV.out.symm]
  refine (new_ok V ⟨64, 64, 64⟩ (by decide)).mono ?_
  rintro e w1 ⟨rfl, hb1, hk1, hz1⟩
  have HK1 : Hid (Bk w1 V.heap.size (V.heap.size + 1) ⟨64, 64, 64⟩ non) := hk1
  have HB1 : Hid (Below w.heap.size w w1) := HB0.out.trans (hb1.mono HB0.out.size)
  have hq1 := blk_below HQ0.out hb1
  have c0 : w1.cell? ⟨w.heap.size, 0, none⟩ = some (i64 q.a) := blk_cell hq1 0
  have c1 : w1.cell? ⟨w.heap.size, 1, none⟩ = some (i64 q.b) := blk_cell hq1 1
  have c2 : w1.cell? ⟨w.heap.size, 2, none⟩ = some (i64 q.c) := blk_cell hq1 2
  clear hb1 hk1 hq1
  go_wp2_with fail
  refine (open_ok HK1.out 2 q).mono ?_
  rintro e w2 ⟨rfl, s2, hs2, hk2, hf2⟩
  obtain ⟨p, hs2'⟩ : ∃ p, s2 = one p q zT := by unfold OpS at hs2; rw [HE.out] at hs2; exact hs2
  subst hs2'
  rw [HE.out]
  have HK2 : Hid (Bk w2 V.heap.size (V.heap.size + 1) ⟨64, 64, 64⟩ (one p q zT)) := hk2
  have HB2 : Hid (Below w.heap.size w w2) := HB1.out.trans (hf2.below.mono HB0.out.size)
  clear hk2 hf2 hs2
  go_wp2_with fail
  refine (take_ok HK2.out 2 kind n hm).mono ?_
  rintro e w3 ⟨rfl, hk3, hf3⟩
  rw [at_one]
  obtain ⟨hor, hst⟩ := HTK.out p
  rw [hst] at hk3
  have HK3 : Hid (Bk w3 V.heap.size (V.heap.size + 1) ⟨64, 64, 64⟩ (one p q zT)) := hk3
  have HB3 : Hid (Below w.heap.size w w3) := HB2.out.trans (hf3.below.mono HB0.out.size)
  have HA : Hid (at_ (one p q zT) 2 = some ⟨p, q, zT⟩) := rfl
  clear hk3 hf3 hst
  generalize tkE (some ⟨p, q, zT⟩) kind n = G at *
  rcases hor with rfl | rfl
  all_goals
    go_wp2_with fail
    refine (has_ok HK3.out 2).mono ?_
    rintro e w4 ⟨rfl, hb4⟩
    rw [HA.out]
    have HB4 : Hid (Below w.heap.size w w4) := HB3.out.trans (hb4.mono HB3.out.size)
    clear hb4
    unfold hT pE
    go_wp2_with fail
    refine (five_ok _).mono ?_
    rintro e w6 ⟨rfl, hb6⟩
    have HB6 : Hid (Below w.heap.size w w6) := (HB4.out.alloc HB4.out.size _).trans (hb6.mono (by have := HB4.out.size; simp; omega))
    clear hb6
    go_wp2_with fail
    go_ret
    exact ⟨rfl, HB6.out⟩
end Go.Proofs.Ytfnhiefngbcnaaa
