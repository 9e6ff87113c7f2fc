/- stand, Add, Dup, Seek, Close; no statement is proved in this text. -/
import Derived.Test.YtdgkajhlofpdeaaLs
namespace Go.Proofs.Ytdgkajhlofpdeaa
open Go.ChangeShapes Go.WideShapes Go.ChangeAt Go.RowKit Go.Deep
attribute [local go_sem ↓] Go.wp_at_zero Go.wp_at_succ


/-- The lowest free slot. -/
def free (S : St) (p : Int) : Nat := if S (p, 0) = none then 0 else if S (p, 1) = none then 1 else if S (p, 2) = none then 2 else if S (p, 3) = none then 3 else if S (p, 4) = none then 4 else if S (p, 5) = none then 5 else 6
theorem free_at {S : St} {p : Int} {k : Nat} (hk : k < 6) (hl : ∀ j : Nat, j < k → S (p, (j : Int)) ≠ none) (hn : S (p, (k : Int)) = none) : free S p = k := by
  unfold free
  obtain rfl | rfl | rfl | rfl | rfl | rfl : k = 0 ∨ k = 1 ∨ k = 2 ∨ k = 3 ∨ k = 4 ∨ k = 5 := by omega
  · exact if_pos hn
  · have h0 : ¬ S (p, 0) = none := hl 0 (by omega)
    rw [if_neg h0]
    exact if_pos hn
  · have h0 : ¬ S (p, 0) = none := hl 0 (by omega)
    have h1 : ¬ S (p, 1) = none := hl 1 (by omega)
    rw [if_neg h0, if_neg h1]
    exact if_pos hn
  · have h0 : ¬ S (p, 0) = none := hl 0 (by omega)
    have h1 : ¬ S (p, 1) = none := hl 1 (by omega)
    have h2 : ¬ S (p, 2) = none := hl 2 (by omega)
    rw [if_neg h0, if_neg h1, if_neg h2]
    exact if_pos hn
  · have h0 : ¬ S (p, 0) = none := hl 0 (by omega)
    have h1 : ¬ S (p, 1) = none := hl 1 (by omega)
    have h2 : ¬ S (p, 2) = none := hl 2 (by omega)
    have h3 : ¬ S (p, 3) = none := hl 3 (by omega)
    rw [if_neg h0, if_neg h1, if_neg h2, if_neg h3]
    exact if_pos hn
  · have h0 : ¬ S (p, 0) = none := hl 0 (by omega)
    have h1 : ¬ S (p, 1) = none := hl 1 (by omega)
    have h2 : ¬ S (p, 2) = none := hl 2 (by omega)
    have h3 : ¬ S (p, 3) = none := hl 3 (by omega)
    have h4 : ¬ S (p, 4) = none := hl 4 (by omega)
    rw [if_neg h0, if_neg h1, if_neg h2, if_neg h3, if_neg h4]
    exact if_pos hn
theorem free_full {S : St} {p : Int} (hl : ∀ j : Nat, j < 6 → S (p, (j : Int)) ≠ none) : free S p = 6 := by
  have h0 : ¬ S (p, 0) = none := hl 0 (by omega)
  have h1 : ¬ S (p, 1) = none := hl 1 (by omega)
  have h2 : ¬ S (p, 2) = none := hl 2 (by omega)
  have h3 : ¬ S (p, 3) = none := hl 3 (by omega)
  have h4 : ¬ S (p, 4) = none := hl 4 (by omega)
  have h5 : ¬ S (p, 5) = none := hl 5 (by omega)
  unfold free
  rw [if_neg h0, if_neg h1, if_neg h2, if_neg h3, if_neg h4, if_neg h5]
def stI (S : St) (p : Int) : Int := if free S p < 6 then (free S p : Int) else 0
def stE (S : St) (p : Int) : Int := if free S p < 6 then 0 else 5
def stS (S : St) (p : Int) (t : Tr) : St := if free S p < 6 then upd S (p, (free S p : Int)) (some t) else S
theorem st_at {S : St} {p : Int} {k : Nat} (hk : k < 6) (hf : free S p = k) (t : Tr) : stI S p = k ∧ stE S p = 0 ∧ stS S p t = upd S (p, (k : Int)) (some t) := by
  unfold stI stE stS
  rw [hf, if_pos hk, if_pos hk, if_pos hk]
  exact ⟨rfl, rfl, rfl⟩
theorem st_full {S : St} {p : Int} (hf : free S p = 6) (t : Tr) : stI S p = 0 ∧ stE S p = 5 ∧ stS S p t = S := by
  unfold stI stE stS
  rw [hf]
  exact ⟨rfl, rfl, rfl⟩
set_option maxRecDepth 100000 in
set_option maxHeartbeats 1600000 in
theorem stand_ok (w : World) (base P : Nat) (S : St) (p s a b c : Int) (h : Tb w base P S) : Calls Try.prog 40 #[pq P, ev p s a b c] w fun e w' => e = .returned (.tuple #[i64 (stI S p), i64 (stE S p)]) ∧ Tb w' base P (stS S p (a, b, c)) ∧ Fr base [61, 59] w w' := by
  have HH := hid h
  have hlo := h.lo
  have hlt := h.lt
  have HB0 := hid (below_one w (enO p s a b c 38))
  have HX0 := hid (heap_last w (enO p s a b c 38))
  obtain ⟨I, hI⟩ : ∃ I, I = stI S p := ⟨_, rfl⟩
  obtain ⟨E, hE⟩ : ∃ E, E = stE S p := ⟨_, rfl⟩
  obtain ⟨S', hS'⟩ : ∃ S', S' = stS S p (a, b, c) := ⟨_, rfl⟩
  have HI := hid hI
  have HE := hid hE
  have HS' := hid hS'
  rw [← hI, ← hE, ← hS']
  clear h hI hE hS'
  go_enter Try.func40, Try.ntmps40
  go_wp2_with fail
  go_loopw [9] (fun i wr => ∃ (k : Nat), k ≤ 6 ∧ i = i64 k ∧ Hid (∀ j : Nat, j < k → S (p, (j : Int)) ≠ none) ∧ Hid (Below w.heap.size w wr) ∧ Hid (wr.heap[w.heap.size]? = some (enO p s a b c 38))) (fun i _ => 6 - (intOf i).toNat)
  case atStart => exact ⟨0, by omega, rfl, fun j hj => absurd hj (by omega), HB0, HX0⟩
  case round =>
    obtain ⟨k, hk, rfl, HF, HB, HX⟩ := hrel
    obtain ⟨x0, x1, x2, x3, x4⟩ := five_cells HX.out
    by_cases hlt6 : k < 6
    · have hkI : (k : Int) < 6 := by omega
      rcases hS : S (p, (k : Int)) with _ | ⟨a', b', c'⟩
      · have HC := hid (at_none wr base P S p k (HH.out.below HB.out) hS)
        obtain ⟨q1, q2, q3⟩ := st_at hlt6 (free_at hlt6 HF.out hS) (a, b, c)
        have HI2 : Hid (I = (k : Int)) := HI.out.trans q1
        have HE2 : Hid (E = 0) := HE.out.trans q2
        have HS2 : Hid (S' = upd S (p, (k : Int)) (some (a, b, c))) := HS'.out.trans q3
        clear hS q1 q2 q3
        go_wp2_with fail
        refine HC.out.mono ?_
        rintro e w2 ⟨rfl, hb2⟩
        have HB2 : Hid (Below w.heap.size w w2) := HB.out.trans (hb2.mono HB.out.size)
        have HX2 : Hid (w2.heap[w.heap.size]? = some (enO p s a b c 38)) := blk_below HX.out hb2
        have hsz : w.heap.size < w2.heap.size := blk_lt HX2.out
        obtain ⟨y0, y1, y2, y3, y4⟩ := five_cells HX2.out
        have yf := blk_frozen HX2.out
        have hbV : Below w.heap.size w ((w2.setCell ⟨w.heap.size, 1, none⟩ (i64 k)).alloc (enO 0 0 0 0 0 38)) := (HB2.out.setCell (Nat.le_refl _) _).alloc (HB2.out.setCell (Nat.le_refl _) _).size _
        have HBV := hid hbV
        have HP := hid (put_ok ((w2.setCell ⟨w.heap.size, 1, none⟩ (i64 k)).alloc (enO 0 0 0 0 0 38)) base P S p k a b c (HH.out.below hbV))
        clear hb2 HC hbV x0 x1 x2 x3 x4
        go_wp2_with fail
        refine HP.out.mono ?_
        rintro e w3 ⟨rfl, ht3, hf3⟩
        have HT3 : Hid (Tb w3 base P S') := by rw [HS2.out]; exact ht3
        have HF3 : Hid (Fr base [61, 59] w w3) := (Fr.of_below _ HBV.out (by omega)).trans hf3
        clear ht3 hf3
        go_wp2_with fail
        go_ret2
        exact ⟨by rw [HI2.out, HE2.out]; rfl, HT3.out, HF3.out⟩
      · have HC := hid (at_some wr base P S p k a' b' c' (HH.out.below HB.out) hS)
        have HF2 : Hid (∀ j : Nat, j < k + 1 → S (p, (j : Int)) ≠ none) := fun j hj => by
          by_cases hjk : j = k
          · subst hjk; rw [hS]; simp
          · exact HF.out j (by omega)
        clear hS
        go_wp2_with fail
        refine HC.out.mono ?_
        rintro e w2 ⟨rfl, hb2⟩
        have HB2 : Hid (Below w.heap.size w (w2.alloc (enO p k a' b' c' 38))) := (HB.out.trans (hb2.mono HB.out.size)).alloc (Nat.le_trans HB.out.size hb2.size) _
        have HX2 : Hid ((w2.alloc (enO p k a' b' c' 38)).heap[w.heap.size]? = some (enO p s a b c 38)) := blk_alloc (blk_below HX.out hb2) _
        clear hb2 HC x0 x1 x2 x3 x4
        go_wp2_with fail
        exact ⟨⟨k + 1, by omega, by go_num, HF2, HB2, HX2⟩, by simp [intOf]; omega⟩
    · obtain rfl : k = 6 := by omega
      obtain ⟨q1, q2, q3⟩ := st_full (free_full HF.out) (a, b, c)
      have HI2 : Hid (I = 0) := HI.out.trans q1
      have HE2 : Hid (E = 5) := HE.out.trans q2
      have HT3 : Hid (Tb wr base P S') := by rw [HS'.out, q3]; exact HH.out.below HB.out
      have HF3 : Hid (Fr base [61, 59] w wr) := Fr.of_below _ HB.out (by omega)
      clear q1 q2 q3
      go_wp2_with fail
      go_ret2
      exact ⟨by rw [HI2.out, HE2.out]; rfl, HT3.out, HF3.out⟩
def addI (S : St) (p a b : Int) : Int := if rightF p 0 a b 0 then stI S p else 0
def addE (S : St) (p a b : Int) : Int := if rightF p 0 a b 0 then stE S p else 1
def addS (S : St) (p a b : Int) : St := if rightF p 0 a b 0 then stS S p (a, b, 0) else S
set_option maxRecDepth 100000 in
set_option maxHeartbeats 1600000 in
theorem add_ok (w : World) (base P : Nat) (S : St) (p a b : Int) (h : Tb w base P S) : Calls Try.prog 24 #[pq P, i64 p, i64 a, i64 b] w fun e w' => e = .returned (.tuple #[i64 (addI S p a b), i64 (addE S p a b)]) ∧ Tb w' base P (addS S p a b) ∧ Fr base [61, 59] w w' := by
  have HH := hid h
  have hlo := h.lo
  have hlt := h.lt
  have HB0 := hid (below_one w (enO p 0 a b 0 38))
  have HX0 := hid (heap_last w (enO p 0 a b 0 38))
  have HR := hid (right_ok (w.alloc (enO p 0 a b 0 38)) p 0 a b 0)
  have hz := zero38
  unfold addI addE addS
  clear h
  cases hr : rightF p 0 a b 0
  · rw [hr] at HR
    clear hr
    go_enter Try.func24, Try.ntmps24
    go_wp2_with fail
    refine HR.out.mono ?_
    rintro e w1 ⟨rfl, hb1⟩
    have HB1 : Hid (Below w.heap.size w w1) := HB0.out.trans (hb1.mono HB0.out.size)
    clear hb1
    go_wp2_with fail
    go_ret2
    exact ⟨rfl, HH.out.below HB1.out, Fr.of_below _ HB1.out (by omega)⟩
  · rw [hr] at HR
    rw [if_pos rfl, if_pos rfl, if_pos rfl]
    clear hr
    go_enter Try.func24, Try.ntmps24
    go_wp2_with fail
    refine HR.out.mono ?_
    rintro e w1 ⟨rfl, hb1⟩
    have HB1 : Hid (Below w.heap.size w w1) := HB0.out.trans (hb1.mono HB0.out.size)
    obtain ⟨x0, x1, x2, x3, x4⟩ := five_cells (blk_below HX0.out hb1)
    have HC := hid (stand_ok w1 base P S p 0 a b 0 (HH.out.below HB1.out))
    clear hb1 HR
    go_wp2_with fail
    refine HC.out.mono ?_
    rintro e w2 ⟨rfl, ht2, hf2⟩
    have HT2 := hid ht2
    have HF2 : Hid (Fr base [61, 59] w w2) := (Fr.of_below _ HB1.out (by omega)).trans hf2
    clear ht2 hf2
    go_wp2_with fail
    go_ret2
    exact ⟨rfl, HT2.out, HF2.out⟩
def dupI (S : St) (k : K) : Int := if (S k).isSome then stI S k.1 else 0
def dupE (S : St) (k : K) : Int := if (S k).isSome then stE S k.1 else 6
def dupS (S : St) (k : K) : St := match S k with | none => S | some t => stS S k.1 t
set_option maxRecDepth 100000 in
set_option maxHeartbeats 1600000 in
theorem dup_ok (w : World) (base P : Nat) (S : St) (p s : Int) (h : Tb w base P S) : Calls Try.prog 25 #[pq P, i64 p, i64 s] w fun e w' => e = .returned (.tuple #[i64 (dupI S (p, s)), i64 (dupE S (p, s))]) ∧ Tb w' base P (dupS S (p, s)) ∧ Fr base [61, 59] w w' := by
  have HH := hid h
  have hlo := h.lo
  have hlt := h.lt
  unfold dupI dupE dupS
  rcases hS : S (p, s) with _ | ⟨a, b, c⟩
  · have HC := hid (at_none w base P S p s h hS)
    clear h hS
    go_enter Try.func25, Try.ntmps25
    go_wp2_with fail
    refine HC.out.mono ?_
    rintro e w1 ⟨rfl, hb1⟩
    have HB1 : Hid (Below w.heap.size w (w1.alloc (enO 0 0 0 0 0 38))) := hb1.alloc hb1.size _
    clear hb1
    go_wp2_with fail
    go_ret2
    exact ⟨rfl, HH.out.below HB1.out, Fr.of_below _ HB1.out (by omega)⟩
  · have HC := hid (at_some w base P S p s a b c h hS)
    rw [if_pos Option.isSome_some, if_pos Option.isSome_some]
    clear h hS
    go_enter Try.func25, Try.ntmps25
    go_wp2_with fail
    refine HC.out.mono ?_
    rintro e w1 ⟨rfl, hb1⟩
    have HB1 : Hid (Below w.heap.size w (w1.alloc (enO p s a b c 38))) := hb1.alloc hb1.size _
    have HD := hid (stand_ok (w1.alloc (enO p s a b c 38)) base P S p s a b c (HH.out.below HB1.out))
    clear hb1 HC
    go_wp2_with fail
    refine HD.out.mono ?_
    rintro e w2 ⟨rfl, ht2, hf2⟩
    have HT2 := hid ht2
    have HF2 : Hid (Fr base [61, 59] w w2) := (Fr.of_below _ HB1.out (by omega)).trans hf2
    clear ht2 hf2
    go_wp2_with fail
    go_ret2
    exact ⟨rfl, HT2.out, HF2.out⟩
def seekE (S : St) (k : K) (off : Int) : Int := match S k with | none => 6 | some t => if rightF k.1 k.2 t.1 t.2.1 off then 0 else 1
def seekS (S : St) (k : K) (off : Int) : St := match S k with | none => S | some t => if rightF k.1 k.2 t.1 t.2.1 off then upd S k (some (t.1, t.2.1, off)) else S
set_option maxRecDepth 100000 in
set_option maxHeartbeats 1600000 in
theorem seek_ok (w : World) (base P : Nat) (S : St) (p s off : Int) (h : Tb w base P S) : Calls Try.prog 26 #[pq P, i64 p, i64 s, i64 off] w fun e w' => e = .returned (i64 (seekE S (p, s) off)) ∧ Tb w' base P (seekS S (p, s) off) ∧ Fr base [61, 59] w w' := by
  have HH := hid h
  have hlo := h.lo
  have hlt := h.lt
  unfold seekE seekS
  rcases hS : S (p, s) with _ | ⟨a, b, c⟩
  · have HC := hid (at_none w base P S p s h hS)
    clear h hS
    go_enter Try.func26, Try.ntmps26
    go_wp2_with fail
    refine HC.out.mono ?_
    rintro e w1 ⟨rfl, hb1⟩
    have HB1 : Hid (Below w.heap.size w (w1.alloc (enO 0 0 0 0 0 38))) := hb1.alloc hb1.size _
    clear hb1
    go_wp2_with fail
    go_ret
    exact ⟨rfl, HH.out.below HB1.out, Fr.of_below _ HB1.out (by omega)⟩
  · have HC := hid (at_some w base P S p s a b c h hS)
    simp only []
    clear h hS
    cases hr : rightF p s a b off
    · have HR := hid (fun W => right_ok W p s a b off)
      rw [hr] at HR
      clear hr
      go_enter Try.func26, Try.ntmps26
      go_wp2_with fail
      refine HC.out.mono ?_
      rintro e w1 ⟨rfl, hb1⟩
      have HB1 : Hid (Below w.heap.size w (w1.alloc (enO p s a b off 38))) := hb1.alloc hb1.size _
      have HD := hid (HR.out (w1.alloc (enO p s a b off 38)))
      clear hb1 HC HR
      go_wp2_with fail
      refine HD.out.mono ?_
      rintro e w2 ⟨rfl, hb2⟩
      have HB2 : Hid (Below w.heap.size w w2) := HB1.out.trans (hb2.mono HB1.out.size)
      clear hb2
      go_wp2_with fail
      go_ret
      exact ⟨rfl, HH.out.below HB2.out, Fr.of_below _ HB2.out (by omega)⟩
    · have HR := hid (fun W => right_ok W p s a b off)
      rw [hr] at HR
      rw [if_pos rfl, if_pos rfl]
      clear hr
      go_enter Try.func26, Try.ntmps26
      go_wp2_with fail
      refine HC.out.mono ?_
      rintro e w1 ⟨rfl, hb1⟩
      have HB1 : Hid (Below w.heap.size w (w1.alloc (enO p s a b off 38))) := hb1.alloc hb1.size _
      have HX1 := hid (heap_last w1 (enO p s a b off 38))
      have HD := hid (HR.out (w1.alloc (enO p s a b off 38)))
      clear hb1 HC HR
      go_wp2_with fail
      refine HD.out.mono ?_
      rintro e w2 ⟨rfl, hb2⟩
      have HB2 : Hid (Below w.heap.size w w2) := HB1.out.trans (hb2.mono HB1.out.size)
      obtain ⟨x0, x1, x2, x3, x4⟩ := five_cells (blk_below HX1.out hb2)
      have HP := hid (put_ok w2 base P S p s a b off (HH.out.below HB2.out))
      clear hb2
      go_wp2_with fail
      refine HP.out.mono ?_
      rintro e w3 ⟨rfl, ht3, hf3⟩
      have HT3 := hid ht3
      have HF3 : Hid (Fr base [61, 59] w w3) := (Fr.of_below _ HB2.out (by omega)).trans hf3
      clear ht3 hf3
      go_wp2_with fail
      go_ret
      exact ⟨rfl, HT3.out, HF3.out⟩
def clsS (S : St) (k : K) : St := if (S k).isSome then upd S k none else S
set_option maxRecDepth 100000 in
set_option maxHeartbeats 1600000 in
theorem close_ok (w : World) (base P : Nat) (S : St) (p s : Int) (h : Tb w base P S) : Calls Try.prog 27 #[pq P, i64 p, i64 s] w fun e w' => e = .returned (i64 (getE S (p, s))) ∧ Tb w' base P (clsS S (p, s)) ∧ Fr base [61, 59] w w' := by
  have HH := hid h
  have hlo := h.lo
  have hlt := h.lt
  unfold getE clsS
  rcases hS : S (p, s) with _ | ⟨a, b, c⟩
  · have HC := hid (at_none w base P S p s h hS)
    clear h hS
    go_enter Try.func27, Try.ntmps27
    go_wp2_with fail
    refine HC.out.mono ?_
    rintro e w1 ⟨rfl, hb1⟩
    have HB1 : Hid (Below w.heap.size w (w1.alloc (enO 0 0 0 0 0 38))) := hb1.alloc hb1.size _
    clear hb1
    go_wp2_with fail
    go_ret
    exact ⟨rfl, HH.out.below HB1.out, Fr.of_below _ HB1.out (by omega)⟩
  · have HC := hid (at_some w base P S p s a b c h hS)
    have HS := hid hS
    rw [if_pos Option.isSome_some, if_pos Option.isSome_some]
    clear h hS
    go_enter Try.func27, Try.ntmps27
    go_wp2_with fail
    refine HC.out.mono ?_
    rintro e w1 ⟨rfl, hb1⟩
    have HB1 : Hid (Below w.heap.size w (w1.alloc (enO p s a b c 38))) := hb1.alloc hb1.size _
    obtain ⟨_, mv, hP, hm⟩ := HH.out.below HB1.out
    rcases hm with ⟨_, hN⟩ | ⟨m, rfl, hmb, hm⟩
    · exact absurd HS.out (by rw [hN]; simp [noSt])
    have x0 : (w1.alloc (enO p s a b c 38)).cell? ⟨P, 0, none⟩ = some (.map (some m)) := blk_cell hP 0
    obtain ⟨w7, hrun, hm7, ht7⟩ := hm.del (p, s)
    have hr7 : ∀ ty, (Builtin.delete_ #[59, 74] ty #[.map (some m), kv p s]).run Try.prog (w1.alloc (enO p s a b c 38)) = .ok (.tuple #[]) w7 := hrun
    have HT7 : Hid (Tb w7 base P (upd S (p, s) none)) := Tb.of_map hP hlo hmb hm7 ht7 (hm.ne hP)
    have HF7 : Hid (Fr base [61, 59] w w7) := (Fr.of_below _ HB1.out (by omega)).trans (hm.fr ht7 hmb)
    clear hb1 HC hm hrun hm7 ht7 hP
    go_wp2_with fail
    go_ret
    exact ⟨rfl, HT7.out, HF7.out⟩
end Go.Proofs.Ytdgkajhlofpdeaa
