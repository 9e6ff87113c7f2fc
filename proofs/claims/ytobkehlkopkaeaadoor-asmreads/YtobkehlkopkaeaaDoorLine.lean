/- asm's Line: its contract; no statement is proved in this text. -/
import Derived.Test.YtobkehlkopkaeaaDoorEncode
import Derived.Lib.ItoaLen
namespace Go.Proofs.YtobkehlkopkaeaaDoor
open Go.ChangeShapes Go.WideShapes Go.ChangeAt Go.RowKit
set_option maxRecDepth 100000

def lineF (i : In) : Bs := ((nmOf i.op.toNat ++ (if 0 < rg i.op.toNat then [32, 114] ++ Lib.itoa i.a else [])) ++ (if 1 < rg i.op.toNat then [32, 114] ++ Lib.itoa i.b else [])) ++ (if 0 < fNums i.op.toNat then [32] ++ Lib.itoa i.n else [])
theorem ba_append (p b : List UInt8) : (⟨p.toArray⟩ : ByteArray) ++ (⟨b.toArray⟩ : ByteArray) = ⟨(p ++ b).toArray⟩ := by
  apply ByteArray.ext
  simp
theorem cat (p q : Bs) : ∃ r : ByteArray, (⟨p.toArray⟩ : ByteArray) ++ (⟨q.toArray⟩ : ByteArray) = r ∧ r = ⟨(p ++ q).toArray⟩ ∧ r.size = p.length + q.length := ⟨_, rfl, ba_append p q, by rw [ba_append, bz]; simp⟩
theorem grow_below (w : World) (k : Nat) (os : Array Obj) : Below w.heap.size w (Sort.grow (w.drewN k) os) := by
  refine ⟨rfl, rfl, rfl, by simp [Sort.grow], fun j hj => ?_⟩
  show (w.heap ++ os)[j]? = _
  rw [Array.getElem?_append_left hj]
theorem itoa_ok (w : World) (he : Env w) (n : Int) (h0 : 0 ≤ n) (h1 : n ≤ 65535) : Calls Tryd.prog 36 #[i64 n] w fun e w' => e = .returned (str (Lib.itoa n)) ∧ Below w.heap.size w w' := by
  refine (Tryd.strconv_Itoa n (by omega) (by omega) w he.pow).mono ?_
  rintro e w' ⟨rfl, k, os, rfl⟩
  exact ⟨rfl, grow_below _ _ _⟩
theorem nm_le : ∀ k : Nat, k < 21 → (nmOf k).length ≤ 6 := by decide

set_option maxHeartbeats 1600000 in
theorem line_no (w : World) (he : Env w) (i : In) (h : isI i = false) : Calls Tryd.prog 13 #[inV i] w fun e w' => e = .returned (.tuple #[.string ⟨#[]⟩, i64 4]) ∧ Below w.heap.size w w' := by
  have HC : Hid (∀ w, Tab w → Calls Tryd.prog 35 #[inV i] w fun e w' => e = .returned (.tuple #[.string ⟨#[]⟩, i64 4]) ∧ Below w.heap.size w w') := fun w ht => bytes_no w ht i h
  have HT : Hid (Tab w) := he.tab
  clear he h
  obtain ⟨op, a, b, n⟩ := i
  go_enter Tryd.func13, Tryd.ntmps13
  go_wp2_with fail
  refine (HC.out _ (HT.out.alloc _)).mono ?_
  rintro e w1 ⟨rfl, hb1⟩
  have HB1 : Hid (Below w.heap.size w w1) := (below_one w _).trans (hb1.mono (by simp))
  clear hb1
  go_wp2_with fail
  go_ret2
  exact ⟨rfl, HB1.out⟩

set_option maxHeartbeats 1600000 in
theorem line_yes (w : World) (he : Env w) (k a b n : Nat) (hk : k < 21) (ha : a ≤ 7) (hb : b ≤ 7) (hn : n ≤ 65535) (h : isI ⟨k, a, b, n⟩ = true) : Calls Tryd.prog 13 #[inV ⟨k, a, b, n⟩] w fun e w' => e = .returned (.tuple #[str (lineF ⟨k, a, b, n⟩), i64 0]) ∧ Below w.heap.size w w' := by
  have HC : Hid (∀ w, Tab w → ∃ S, Calls Tryd.prog 35 #[inV ⟨k, a, b, n⟩] w fun e w' => e = .returned (.tuple #[str S, i64 0]) ∧ Below w.heap.size w w') := fun w ht => ⟨_, by have := bytes_any w ht ⟨k, a, b, n⟩; unfold btE at this; rw [if_pos h] at this; exact this⟩
  have HE : Hid (Env w) := he
  have hnm := nm_le k hk
  have hA : (Lib.itoa (a : Int)).length ≤ 21 := Lib.itoa_length_le _ (by omega) (by omega)
  have hB : (Lib.itoa (b : Int)).length ≤ 21 := Lib.itoa_length_le _ (by omega) (by omega)
  have hN : (Lib.itoa (n : Int)).length ≤ 21 := Lib.itoa_length_le _ (by omega) (by omega)
  have HIA : Hid (∀ w, Env w → Calls Tryd.prog 36 #[i64 a] w fun e w' => e = .returned (str (Lib.itoa (a : Int))) ∧ Below w.heap.size w w') := fun w he => itoa_ok w he a (by omega) (by omega)
  have HIB : Hid (∀ w, Env w → Calls Tryd.prog 36 #[i64 b] w fun e w' => e = .returned (str (Lib.itoa (b : Int))) ∧ Below w.heap.size w w') := fun w he => itoa_ok w he b (by omega) (by omega)
  have HIN : Hid (∀ w, Env w → Calls Tryd.prog 36 #[i64 n] w fun e w' => e = .returned (str (Lib.itoa (n : Int))) ∧ Below w.heap.size w w') := fun w he => itoa_ok w he n (by omega) (by omega)
  have HLF : Hid (lineF ⟨k, a, b, n⟩ = ((nmOf k ++ (if 0 < rg k then [32, 114] ++ Lib.itoa a else [])) ++ (if 1 < rg k then [32, 114] ++ Lib.itoa b else [])) ++ (if 0 < fNums k then [32] ++ Lib.itoa n else [])) := (by unfold lineF; simp only [Int.toNat_natCast] : lineF ⟨k, a, b, n⟩ = ((nmOf k ++ (if 0 < rg k then [32, 114] ++ Lib.itoa a else [])) ++ (if 1 < rg k then [32, 114] ++ Lib.itoa b else [])) ++ (if 0 < fNums k then [32] ++ Lib.itoa n else []))
  have hcls : (rg k = 0 ∧ fNums k = 0) ∨ (rg k = 1 ∧ fNums k = 1) ∨ (rg k = 2 ∧ fNums k = 0) ∨ (rg k = 0 ∧ fNums k = 1) := by
    unfold fNums
    rcases cls k hk with ⟨c1, c2⟩ | ⟨c1, c2⟩ | ⟨c1, c2⟩ | ⟨c1, c2⟩ | ⟨c1, c2⟩ <;> rw [c1, c2] <;> simp
  obtain ⟨S, hS⟩ := HC.out (w.alloc (.cells #[i64 k, i64 a, i64 b, i64 n] 27)) (he.alloc _).tab
  have HC2 : Hid (Calls Tryd.prog 35 #[inV ⟨k, a, b, n⟩] (w.alloc (.cells #[i64 k, i64 a, i64 b, i64 n] 27)) fun e w' => e = .returned (.tuple #[str S, i64 0]) ∧ Below (w.alloc (.cells #[i64 k, i64 a, i64 b, i64 n] 27)).heap.size (w.alloc (.cells #[i64 k, i64 a, i64 b, i64 n] 27)) w') := hS
  have hkI : (k : Int) < 21 := by omega
  clear hS HC h he
  generalize lineF ⟨k, a, b, n⟩ = LF at *
  go_enter Tryd.func13, Tryd.ntmps13
  go_wp2_with fail
  refine HC2.out.mono ?_
  rintro e w1 ⟨rfl, hb1⟩
  have hbw1 : Below w.heap.size w w1 := (below_one w _).trans (hb1.mono (by simp))
  have HB1 : Hid (Below w.heap.size w w1) := hbw1
  have hz1 : w.heap.size < w1.heap.size := by have := hb1.size; simp at this; omega
  have hin : w1.heap[w.heap.size]? = some (.cells #[i64 k, i64 a, i64 b, i64 n] 27 (0, 0)) := (hb1.block _ (by simp)).trans (heap_at rfl _)
  obtain ⟨i0, i1, i2, i3, _⟩ := four_cells hin
  obtain ⟨c0, c1, c2, c3⟩ := (HE.out.below hbw1).form k hk
  clear hb1 hbw1 HC2
  go_upto_region 5 with fail
  obtain ⟨V, hV⟩ : ∃ V, V = w1.alloc (.cells #[str (nmOf k), i64 (rg k : Nat), i64 (fNums k : Nat), .bool (fLab k)] 58) := ⟨_, rfl⟩
  have hbV : Below w1.heap.size w1 V := by rw [hV]; exact below_one _ _
  have HBV : Hid (Below w.heap.size w V) := HB1.out.trans (hbV.mono (by omega))
  have hfr : V.heap[w1.heap.size]? = some (.cells #[str (nmOf k), i64 (rg k : Nat), i64 (fNums k : Nat), .bool (fLab k)] 58 (0, 0)) := by rw [hV]; exact heap_at rfl _
  have hVz : w1.heap.size < V.heap.size := by rw [hV]; simp
  have hiV := (hbV.block _ hz1).trans hin
  obtain ⟨f0, f1, f2, f3, _⟩ := four_cells hfr
  obtain ⟨j0, j1, j2, j3, _⟩ := four_cells hiV
  have HUP : Hid (∀ W, Below V.heap.size V W → Env W ∧ W.cell? ⟨w1.heap.size, 1, none⟩ = some (i64 (rg k : Nat)) ∧ W.cell? ⟨w1.heap.size, 2, none⟩ = some (i64 (fNums k : Nat)) ∧ W.cell? ⟨w.heap.size, 1, none⟩ = some (i64 a) ∧ W.cell? ⟨w.heap.size, 2, none⟩ = some (i64 b) ∧ W.cell? ⟨w.heap.size, 3, none⟩ = some (i64 n)) := fun W hb => by
    refine ⟨HE.out.below (HBV.out.trans (hb.mono (by omega))), ?_, ?_, ?_, ?_, ?_⟩
    · rw [hb.cell (by exact hVz)]; exact f1
    · rw [hb.cell (by exact hVz)]; exact f2
    · rw [hb.cell (by show w.heap.size < V.heap.size; omega)]; exact j1
    · rw [hb.cell (by show w.heap.size < V.heap.size; omega)]; exact j2
    · rw [hb.cell (by show w.heap.size < V.heap.size; omega)]; exact j3
  have HR0 : Hid (Below V.heap.size V V) := Below.refl _ _
  have HEND : Hid (∀ W, Below V.heap.size V W → Below w.heap.size w W) := fun W hb => HBV.out.trans (hb.mono (by omega))
  rw [← hV]
  clear hV hbV hfr hin hiV c0 c1 c2 c3 i0 i1 i2 i3
  have hsA := bz (Lib.itoa (a : Int))
  have hsB := bz (Lib.itoa (b : Int))
  have hsN := bz (Lib.itoa (n : Int))
  have hs0 := bz (nmOf k)
  rcases hcls with ⟨h1, h2⟩ | ⟨h1, h2⟩ | ⟨h1, h2⟩ | ⟨h1, h2⟩
  · rw [h1, h2] at HLF
    have HLF2 : Hid (LF = nmOf k) := (by rw [HLF.out]; simp : LF = nmOf k)
    rw [h1] at f1
    rw [h2] at f2
    rw [h1, h2]
    clear HLF h1 h2
    generalize nmOf k = NM at *
    go_wp2_with fail
    go_ret2
    exact ⟨by rw [HLF2.out]; rfl, HBV.out⟩
  · rw [h1, h2] at HLF HUP
    have HLF2 : Hid (str LF = .string ((⟨(nmOf k).toArray⟩ : ByteArray) ++ (⟨#[32, 114]⟩ ++ ⟨(Lib.itoa (a : Int)).toArray⟩) ++ (⟨#[32]⟩ ++ ⟨(Lib.itoa (n : Int)).toArray⟩))) := (by rw [HLF.out]; refine congrArg Value.string ?_; apply ByteArray.ext; simp : str LF = .string ((⟨(nmOf k).toArray⟩ : ByteArray) ++ (⟨#[32, 114]⟩ ++ ⟨(Lib.itoa (a : Int)).toArray⟩) ++ (⟨#[32]⟩ ++ ⟨(Lib.itoa (n : Int)).toArray⟩)))
    rw [h1] at f1
    rw [h2] at f2
    rw [h1, h2]
    clear HLF h1 h2
    go_wp2_with fail
    refine (HIA.out _ (HUP.out _ HR0.out).1).mono ?_
    rintro e w2 ⟨rfl, hbw2⟩
    have HBw2 : Hid (Below V.heap.size V w2) := HR0.out.trans (hbw2.mono HR0.out.size)
    obtain ⟨_, f1, f2, i1, i2, i3⟩ := HUP.out _ HBw2.out
    clear hbw2
    go_wp2_with fail
    refine (HIN.out _ (HUP.out _ HBw2.out).1).mono ?_
    rintro e w3 ⟨rfl, hbw3⟩
    have HBw3 : Hid (Below V.heap.size V w3) := HBw2.out.trans (hbw3.mono HBw2.out.size)
    obtain ⟨_, f1, f2, i1, i2, i3⟩ := HUP.out _ HBw3.out
    clear hbw3
    go_wp2_with fail
    go_ret2
    exact ⟨by rw [HLF2.out]; rfl, HEND.out _ HBw3.out⟩
  · rw [h1, h2] at HLF HUP
    have HLF2 : Hid (str LF = .string ((⟨(nmOf k).toArray⟩ : ByteArray) ++ (⟨#[32, 114]⟩ ++ ⟨(Lib.itoa (a : Int)).toArray⟩) ++ (⟨#[32, 114]⟩ ++ ⟨(Lib.itoa (b : Int)).toArray⟩))) := (by rw [HLF.out]; refine congrArg Value.string ?_; apply ByteArray.ext; simp : str LF = .string ((⟨(nmOf k).toArray⟩ : ByteArray) ++ (⟨#[32, 114]⟩ ++ ⟨(Lib.itoa (a : Int)).toArray⟩) ++ (⟨#[32, 114]⟩ ++ ⟨(Lib.itoa (b : Int)).toArray⟩)))
    rw [h1] at f1
    rw [h2] at f2
    rw [h1, h2]
    clear HLF h1 h2
    go_wp2_with fail
    refine (HIA.out _ (HUP.out _ HR0.out).1).mono ?_
    rintro e w2 ⟨rfl, hbw2⟩
    have HBw2 : Hid (Below V.heap.size V w2) := HR0.out.trans (hbw2.mono HR0.out.size)
    obtain ⟨_, f1, f2, i1, i2, i3⟩ := HUP.out _ HBw2.out
    clear hbw2
    go_wp2_with fail
    refine (HIB.out _ (HUP.out _ HBw2.out).1).mono ?_
    rintro e w3 ⟨rfl, hbw3⟩
    have HBw3 : Hid (Below V.heap.size V w3) := HBw2.out.trans (hbw3.mono HBw2.out.size)
    obtain ⟨_, f1, f2, i1, i2, i3⟩ := HUP.out _ HBw3.out
    clear hbw3
    go_wp2_with fail
    go_ret2
    exact ⟨by rw [HLF2.out]; rfl, HEND.out _ HBw3.out⟩
  · rw [h1, h2] at HLF HUP
    have HLF2 : Hid (str LF = .string ((⟨(nmOf k).toArray⟩ : ByteArray) ++ (⟨#[32]⟩ ++ ⟨(Lib.itoa (n : Int)).toArray⟩))) := (by rw [HLF.out]; refine congrArg Value.string ?_; apply ByteArray.ext; simp : str LF = .string ((⟨(nmOf k).toArray⟩ : ByteArray) ++ (⟨#[32]⟩ ++ ⟨(Lib.itoa (n : Int)).toArray⟩)))
    rw [h1] at f1
    rw [h2] at f2
    rw [h1, h2]
    clear HLF h1 h2
    go_wp2_with fail
    refine (HIN.out _ (HUP.out _ HR0.out).1).mono ?_
    rintro e w2 ⟨rfl, hbw2⟩
    have HBw2 : Hid (Below V.heap.size V w2) := HR0.out.trans (hbw2.mono HR0.out.size)
    obtain ⟨_, f1, f2, i1, i2, i3⟩ := HUP.out _ HBw2.out
    clear hbw2
    go_wp2_with fail
    go_ret2
    exact ⟨by rw [HLF2.out]; rfl, HEND.out _ HBw2.out⟩

theorem line_any (w : World) (he : Env w) (i : In) : Calls Tryd.prog 13 #[inV i] w fun e w' => e = .returned (.tuple #[str (if isI i = true then lineF i else []), i64 (btE i)]) ∧ Below w.heap.size w w' := by
  unfold btE
  by_cases h : isI i = true
  · rw [if_pos h, if_pos h]
    obtain ⟨h1, h2, h3, h4, h5, h6, h7⟩ := isI_out h
    obtain ⟨op, a, b, n⟩ := i
    simp only at *
    obtain ⟨k, rfl⟩ := Int.eq_ofNat_of_zero_le h1.1
    obtain ⟨a, rfl⟩ := Int.eq_ofNat_of_zero_le h2.1
    obtain ⟨b, rfl⟩ := Int.eq_ofNat_of_zero_le h3.1
    obtain ⟨n, rfl⟩ := Int.eq_ofNat_of_zero_le h4
    have hk : k < 21 := by omega
    simp only [Int.toNat_natCast] at *
    have hn : n ≤ 65535 := by
      rcases cls k hk with ⟨c1, c2⟩ | ⟨c1, c2⟩ | ⟨c1, c2⟩ | ⟨c1, c2⟩ | ⟨c1, c2⟩ <;> rw [c2] at h7 <;> omega
    exact line_yes w he k a b n hk (by omega) (by omega) hn h
  · rw [if_neg h, if_neg h]
    exact line_no w he i (by simpa using h)
end Go.Proofs.YtobkehlkopkaeaaDoor
