/- ValsOwn's walk; no statement is proved in this text. -/
import Derived.Test.YtgiemijhndanjaaDoorCp5
import Derived.Test.YtgiemijhndanjaaDoorMu
import Derived.Test.YtgiemijhndanjaaDoorFv
namespace Go.Proofs.YtgiemijhndanjaaDoor
open Go.ChangeShapes Go.WideShapes Go.ChangeAt Go.RowKit Go.Deep
attribute [local go_sem ↓] Go.wp_at_zero Go.wp_at_succ

mutual
theorem sameV_refl : ∀ a : Vl, sameV a a = true
  | .mk k n s l => by simp [sameV, sameW_refl l]
theorem sameW_refl : ∀ l : List Vl, sameW l l = true
  | [] => by simp [sameW]
  | a :: r => by simp [sameW, sameV_refl a, sameW_refl r]
end
theorem set_block {W : World} {g : Nat} {C : Array Value} (h : W.heap[g]? = some (.cells C 24)) (o : Nat) (u : Value) : ∃ C', (W.setCell ⟨g, o, none⟩ u).heap[g]? = some (.cells C' 24) ∧ C'.size = C.size := ⟨_, heap_setCell_same W g o C 24 u h, by simp⟩
theorem blk_some {W : World} {g : Nat} {C : Array Value} (h : W.heap[g]? = some (.cells C 24)) (o : Nat) (ho : o < C.size) : ∃ u, W.cell? ⟨g, o, none⟩ = some u := ⟨_, by rw [blk_cell h]; exact Array.getElem?_eq_getElem ho⟩
set_option maxRecDepth 100000 in
set_option maxHeartbeats 12800000 in
theorem own_walk (w : World) (hE : Env w) (V : Vl) (kv : Value) (hV : Vd w (fun _ => True) V kv) : Calls Tryd.prog 8 #[vlV V kv] w fun e w' => e = .returned (.bool true) ∧ Below w.heap.size w w' := by
  have HFV : Hid (∀ W, Below w.heap.size w W → Calls Tryd.prog 10 #[] W fun e w' => e = .returned (.bool true) ∧ Below W.heap.size W w') := fun W hW => five_ok W (hE.below hW)
  have HVd := hid hV
  have hkl := hV.lens.2
  unfold maxLen at hkl
  obtain ⟨ak, ck, rfl⟩ := hV.form
  have HX : Hid ((w.alloc (.cells #[i64 V.kind, i64 V.num, str V.s, .slice ak V.kids.length ck] 24)).heap[w.heap.size]? = some (.cells #[i64 V.kind, i64 V.num, str V.s, .slice ak V.kids.length ck] 24)) := heap_last w _
  have HBV : Hid (Below w.heap.size w (w.alloc (.cells #[i64 V.kind, i64 V.num, str V.s, .slice ak V.kids.length ck] 24))) := below_one w _
  clear hV hE
  go_enter Tryd.func8, Tryd.ntmps8
  go_upto_region 1 with fail
  obtain ⟨Z, hZ⟩ : ∃ Z, Z = w.heap.size := ⟨_, rfl⟩
  rw [← hZ] at HX ⊢
  clear hZ
  generalize w.alloc (.cells #[i64 V.kind, i64 V.num, str V.s, .slice ak V.kids.length ck] 24) = V0 at *
  have zc0 : V0.cell? ⟨Z, 0, none⟩ = some (i64 V.kind) := blk_cell HX.out 0
  have zc1 : V0.cell? ⟨Z, 1, none⟩ = some (i64 V.num) := blk_cell HX.out 1
  have zc2 : V0.cell? ⟨Z, 2, none⟩ = some (str V.s) := blk_cell HX.out 2
  have zc3 : V0.cell? ⟨Z, 3, none⟩ = some (.slice ak V.kids.length ck) := blk_cell HX.out 3
  have HQ : Hid ((V0.alloc (.cells #[i64 400] 64)).heap[V0.heap.size]? = some (.cells #[i64 400] 64)) := heap_last V0 _
  have HBU : Hid (Below w.heap.size w (V0.alloc (.cells #[i64 400] 64))) := HBV.out.trans ((below_one V0 _).mono HBV.out.size)
  have HLV : Hid (Calls Tryd.prog 30 #[vlV V (.slice ak V.kids.length ck), pq V0.heap.size, i64 1] (V0.alloc (.cells #[i64 400] 64)) (LgVk (V0.alloc (.cells #[i64 400] 64)) V0.heap.size 400 V)) :=
    largev_ok V.size V (Nat.le_refl _) _ _ _ 400 1 ((HVd.out.mono (S' := fun b => b ≠ V0.heap.size) (fun b _ hb => by have := HBV.out.size; omega)).move HBU.out.size (fun b hb hlt => ⟨hb, HBU.out.block b hlt⟩)) HQ.out (by omega) (by omega) (by omega) (by omega)
  have hZV : Z < V0.heap.size := blk_lt HX.out
  have hVw : w.heap.size ≤ V0.heap.size := HBV.out.size
  go_wp2_with fail
  refine HLV.out.mono ?_
  rintro e w2 ⟨b1, m2, rfl, _, ht2, hf2⟩
  have HB2 : Hid (Below w.heap.size w w2) := HBU.out.trans (ht2.below hVw HBU.out.size)
  have HX2 : Hid (w2.heap[Z]? = some (.cells #[i64 V.kind, i64 V.num, str V.s, .slice ak V.kids.length ck] 24)) := by show _ = _; rw [ht2.block Z (by simp; omega) (by omega)]; exact blk_alloc HX.out _
  have HF2 : Hid (b1 = false → V.size ≤ 400) := fun h => by have := hf2 h; omega
  clear ht2 hf2 HLV zc0 zc1 zc2 zc3 hZV hVw HBV HBU HQ HX
  cases b1 with
  | true =>
    clear HF2
    go_wp2_with fail
    refine (HFV.out w2 HB2.out).mono ?_
    rintro e w9 ⟨rfl, hb9⟩
    have HB9 : Hid (Below w.heap.size w w9) := HB2.out.trans (hb9.mono HB2.out.size)
    clear hb9
    go_wp2_with fail
    go_ret
    exact ⟨rfl, HB9.out⟩
  | false =>
    have hsz : V.size ≤ 400 := HF2.out rfl
    clear HF2
    have HC3 := hid (copy_ok2 V w2 _ _ (HVd.out.under HB2.out) (by omega))
    have zc0 : w2.cell? ⟨Z, 0, none⟩ = some (i64 V.kind) := blk_cell HX2.out 0
    have zc1 : w2.cell? ⟨Z, 1, none⟩ = some (i64 V.num) := blk_cell HX2.out 1
    have zc2 : w2.cell? ⟨Z, 2, none⟩ = some (str V.s) := blk_cell HX2.out 2
    have zc3 : w2.cell? ⟨Z, 3, none⟩ = some (.slice ak V.kids.length ck) := blk_cell HX2.out 3
    go_wp2_with fail
    refine HC3.out.mono ?_
    rintro e w3 ⟨a3, c3, rfl, hb3, hd3, hk3⟩
    have HB3 : Hid (Below w.heap.size w (w3.alloc (.cells #[i64 V.kind, i64 V.num, str V.s, .slice a3 V.kids.length c3] 24))) := (HB2.out.trans (hb3.mono HB2.out.size)).trans ((below_one w3 _).mono (Nat.le_trans HB2.out.size hb3.size))
    have HX3 : Hid ((w3.alloc (.cells #[i64 V.kind, i64 V.num, str V.s, .slice a3 V.kids.length c3] 24)).heap[Z]? = some (.cells #[i64 V.kind, i64 V.num, str V.s, .slice ak V.kids.length ck] 24)) := blk_alloc (blk_below HX2.out hb3) _
    have HCB : Hid ((w3.alloc (.cells #[i64 V.kind, i64 V.num, str V.s, .slice a3 V.kids.length c3] 24)).heap[w3.heap.size]? = some (.cells #[i64 V.kind, i64 V.num, str V.s, .slice a3 V.kids.length c3] 24)) := heap_last w3 _
    have HK3 : Hid (V.kids = [] ∨ ∃ g C, a3 = some ⟨g, 0, none⟩ ∧ (w.heap.size ≤ g ∧ Z < g) ∧ g < w3.heap.size ∧ (w3.alloc (.cells #[i64 V.kind, i64 V.num, str V.s, .slice a3 V.kids.length c3] 24)).heap[g]? = some (.cells C 24)) := by
      rcases hk3 with h | ⟨g, C, h1, h2, h3⟩
      · exact .inl h
      · exact .inr ⟨g, C, h1, ⟨Nat.le_trans HB2.out.size h2, Nat.lt_of_lt_of_le (blk_lt HX2.out) h2⟩, blk_lt h3, blk_alloc h3 _⟩
    have HD3 : Hid (Vd (w3.alloc (.cells #[i64 V.kind, i64 V.num, str V.s, .slice a3 V.kids.length c3] 24)) (fun _ => True) V (.slice a3 V.kids.length c3)) := (hd3.mono (S' := fun _ => True) (fun _ _ _ => trivial)).under (below_one w3 _)
    have HZc : Hid (Z < w3.heap.size) := blk_lt (blk_below HX2.out hb3)
    clear hb3 hd3 hk3 HC3 zc0 zc1 zc2 zc3
    go_upto_region 4 with fail
    obtain ⟨Cb, hCb⟩ : ∃ Cb, Cb = w3.heap.size := ⟨_, rfl⟩
    rw [← hCb] at HCB HK3 HZc ⊢
    have HW4 : Hid ((w3.alloc (.cells #[i64 V.kind, i64 V.num, str V.s, .slice a3 V.kids.length c3] 24)).heap.size = Cb + 1) := by show _ = _; rw [hCb]; simp
    clear hCb
    generalize w3.alloc (.cells #[i64 V.kind, i64 V.num, str V.s, .slice a3 V.kids.length c3] 24) = w4 at *
    have HC5 := hid (copy_ok2 V w4 _ _ (HVd.out.under HB3.out) (by omega))
    have zc0 : w4.cell? ⟨Z, 0, none⟩ = some (i64 V.kind) := blk_cell HX3.out 0
    have zc1 : w4.cell? ⟨Z, 1, none⟩ = some (i64 V.num) := blk_cell HX3.out 1
    have zc2 : w4.cell? ⟨Z, 2, none⟩ = some (str V.s) := blk_cell HX3.out 2
    have zc3 : w4.cell? ⟨Z, 3, none⟩ = some (.slice ak V.kids.length ck) := blk_cell HX3.out 3
    go_wp2_with fail
    refine HC5.out.mono ?_
    rintro e w5 ⟨a5, c5, rfl, hb5, hd5, _⟩
    have HBA : Hid (Below w4.heap.size w4 (w5.alloc (.cells #[i64 V.kind, i64 V.num, str V.s, .slice a5 V.kids.length c5] 24))) := hb5.trans ((below_one w5 _).mono hb5.size)
    have HB6 : Hid (Below w.heap.size w (w5.alloc (.cells #[i64 V.kind, i64 V.num, str V.s, .slice a5 V.kids.length c5] 24))) := HB3.out.trans (HBA.out.mono HB3.out.size)
    have HX6 : Hid ((w5.alloc (.cells #[i64 V.kind, i64 V.num, str V.s, .slice a5 V.kids.length c5] 24)).heap[Z]? = some (.cells #[i64 V.kind, i64 V.num, str V.s, .slice ak V.kids.length ck] 24)) := blk_below HX3.out HBA.out
    have HCB6 : Hid ((w5.alloc (.cells #[i64 V.kind, i64 V.num, str V.s, .slice a5 V.kids.length c5] 24)).heap[Cb]? = some (.cells #[i64 V.kind, i64 V.num, str V.s, .slice a3 V.kids.length c3] 24)) := blk_below HCB.out HBA.out
    have HDB6 : Hid ((w5.alloc (.cells #[i64 V.kind, i64 V.num, str V.s, .slice a5 V.kids.length c5] 24)).heap[w5.heap.size]? = some (.cells #[i64 V.kind, i64 V.num, str V.s, .slice a5 V.kids.length c5] 24)) := heap_last w5 _
    have HDbC : Hid (Cb < w5.heap.size) := by show _ < _; have := hb5.size; have := HW4.out; omega
    have HK6 : Hid (V.kids = [] ∨ ∃ g C, a3 = some ⟨g, 0, none⟩ ∧ (w.heap.size ≤ g ∧ Z < g) ∧ g < Cb ∧ (w5.alloc (.cells #[i64 V.kind, i64 V.num, str V.s, .slice a5 V.kids.length c5] 24)).heap[g]? = some (.cells C 24)) := by
      rcases HK3.out with h | ⟨g, C, h1, h2, h3, h4⟩
      · exact .inl h
      · exact .inr ⟨g, C, h1, h2, h3, blk_below h4 HBA.out⟩
    have HD6 : Hid (Vd (w5.alloc (.cells #[i64 V.kind, i64 V.num, str V.s, .slice a5 V.kids.length c5] 24)) (fun _ => True) V (.slice a3 V.kids.length c3)) := HD3.out.under HBA.out
    have HE6 : Hid (Vd (w5.alloc (.cells #[i64 V.kind, i64 V.num, str V.s, .slice a5 V.kids.length c5] 24)) (fun b => Cb < b) V (.slice a5 V.kids.length c5)) := (hd5.mono (S' := fun b => Cb < b) (fun b hb _ => by have := HW4.out; omega)).under (below_one w5 _)
    have HV6 : Hid (Vd (w5.alloc (.cells #[i64 V.kind, i64 V.num, str V.s, .slice a5 V.kids.length c5] 24)) (fun b => b < w.heap.size) V (.slice ak V.kids.length ck)) := HVd.out.move HB6.out.size fun b _ hlt => ⟨hlt, HB6.out.block b hlt⟩
    clear hb5 hd5 HC5 zc0 zc1 zc2 zc3 HBA HX3 HCB HK3 HD3 HB3 HX2 HB2
    go_upto_region 5 with fail
    obtain ⟨Db, hDb⟩ : ∃ Db, Db = w5.heap.size := ⟨_, rfl⟩
    rw [← hDb] at HDB6 HDbC ⊢
    clear hDb
    generalize w5.alloc (.cells #[i64 V.kind, i64 V.num, str V.s, .slice a5 V.kids.length c5] 24) = w6 at *
    have cc3 : w6.cell? ⟨Cb, 3, none⟩ = some (.slice a3 V.kids.length c3) := blk_cell HCB6.out 3
    rcases HK6.out with hk0 | ⟨g, C, hg, hg1, hg2, hg3⟩
    · have hk1 : V.kids.length = 0 := by rw [hk0]; rfl
      have HL0 := hid hk1
      have HB7 := HB6
      have HSame : Hid (Calls Tryd.prog 22 #[vlV V (.slice ak V.kids.length ck), vlV V (.slice a5 V.kids.length c5)] w6 fun e w' => e = .returned (.bool true) ∧ Below w6.heap.size w6 w') := by
        have := vsame_ok V V w6 (fun _ => True) _ _ (HV6.out.mono fun _ _ _ => trivial) (HE6.out.mono fun _ _ _ => trivial) (by omega)
        rw [sameV_refl] at this
        exact this
      rw [HL0.out] at cc3
      clear hk0 hk1
      go_wp2_with fail
      go_loopw [18] (fun u wr => u = i64 0 ∧ wr = w6) (fun _ _ => 0)
      case atStart => exact ⟨rfl, rfl⟩
      case round =>
        obtain ⟨rfl, hw⟩ := hrel
        subst hw
        have zc0 : wr.cell? ⟨Z, 0, none⟩ = some (i64 V.kind) := blk_cell HX6.out 0
        have zc1 : wr.cell? ⟨Z, 1, none⟩ = some (i64 V.num) := blk_cell HX6.out 1
        have zc2 : wr.cell? ⟨Z, 2, none⟩ = some (str V.s) := blk_cell HX6.out 2
        have zc3 : wr.cell? ⟨Z, 3, none⟩ = some (.slice ak V.kids.length ck) := blk_cell HX6.out 3
        have dc0 : wr.cell? ⟨Db, 0, none⟩ = some (i64 V.kind) := blk_cell HDB6.out 0
        have dc1 : wr.cell? ⟨Db, 1, none⟩ = some (i64 V.num) := blk_cell HDB6.out 1
        have dc2 : wr.cell? ⟨Db, 2, none⟩ = some (str V.s) := blk_cell HDB6.out 2
        have dc3 : wr.cell? ⟨Db, 3, none⟩ = some (.slice a5 V.kids.length c5) := blk_cell HDB6.out 3
        go_wp2_with fail
        refine HSame.out.mono ?_
        rintro e w8 ⟨rfl, hb8⟩
        have HB8 : Hid (Below w.heap.size w w8) := HB7.out.trans (hb8.mono HB7.out.size)
        clear hb8
        go_wp2_with fail
        refine (HFV.out w8 HB8.out).mono ?_
        rintro e w9 ⟨rfl, hb9⟩
        have HB9 : Hid (Below w.heap.size w w9) := HB8.out.trans (hb9.mono HB8.out.size)
        clear hb9
        go_wp2_with fail
        go_ret
        exact ⟨rfl, HB9.out⟩
    · subst hg
      have HC0 : Hid (∃ C', w6.heap[g]? = some (.cells C' 24) ∧ C'.size = C.size) := ⟨C, hg3, rfl⟩
      have HCs : Hid (∀ i, i < V.kids.length → i * 4 + 3 < C.size) := fun i hi => by
        obtain ⟨b, off, kv', he, _, _, hr, _⟩ := HD6.out.kid i hi
        simp only [Option.some.injEq, Addr.mk.injEq, and_true] at he
        obtain ⟨rfl, rfl⟩ := he
        have := hr 3 _ rfl
        rw [blk_cell hg3] at this
        have := (Array.getElem?_eq_some_iff.1 this).1
        omega
      have hgC : g ≠ Cb := by omega
      have hgD : g ≠ Db := by have := HDbC.out; omega
      have HG1 := hid hg1
      have HG2 := hid hg2
      clear hg3 hg1 hg2
      go_wp2_with fail
      clear cc3
      go_loopw [18] (fun u wr => ∃ k : Nat, k ≤ V.kids.length ∧ u = i64 k ∧ Hid (∃ C', wr.heap[g]? = some (.cells C' 24) ∧ C'.size = C.size) ∧ Hid (Touch g w6 wr)) (fun u _ => V.kids.length - (intOf u).toNat)
      case atStart => exact ⟨0, by omega, rfl, HC0, Touch.refl _ _⟩
      case round =>
        obtain ⟨k, hk, rfl, HCr, HTr⟩ := hrel
        by_cases hlt : k < V.kids.length
        · have hkI : (k : Int) < V.kids.length := by omega
          go_upto_region 8 with fail
          obtain ⟨C0, hC0, hz0⟩ := HCr.out
          obtain ⟨u0, hu0⟩ := blk_some hC0 (k * 4 + 1) (by rw [hz0]; have := HCs.out k hlt; omega)
          have fz0 : wr.frozen? ⟨g, k * 4 + 1, none⟩ = false := blk_frozen hC0 _
          have cb0 : wr.cell? ⟨Cb, 3, none⟩ = some (.slice (some ⟨g, 0, none⟩) V.kids.length c3) := by rw [HTr.out.cell (by exact blk_lt HCB6.out) (Ne.symm hgC)]; exact blk_cell HCB6.out 3
          have HCn0 : Hid (∃ C', (wr.setCell ⟨g, k * 4 + 1, none⟩ (i64 77)).heap[g]? = some (.cells C' 24) ∧ C'.size = C.size) := by
            obtain ⟨C', h1, h2⟩ := set_block hC0 (k * 4 + 1) (i64 77)
            exact ⟨C', h1, h2.trans hz0⟩
          have HTn0 : Hid (Touch g w6 (wr.setCell ⟨g, k * 4 + 1, none⟩ (i64 77))) := HTr.out.setCell rfl _
          clear hC0 hz0
          go_upto_region 9 with fail
          clear hu0 fz0 cb0
          generalize wr.setCell ⟨g, k * 4 + 1, none⟩ (i64 77) = W0 at *
          obtain ⟨C1, hC1, hz1⟩ := HCn0.out
          obtain ⟨u1, hu1⟩ := blk_some hC1 (k * 4 + 2) (by rw [hz1]; have := HCs.out k hlt; omega)
          have fz1 : W0.frozen? ⟨g, k * 4 + 2, none⟩ = false := blk_frozen hC1 _
          have cb1 : W0.cell? ⟨Cb, 3, none⟩ = some (.slice (some ⟨g, 0, none⟩) V.kids.length c3) := by rw [HTn0.out.cell (by exact blk_lt HCB6.out) (Ne.symm hgC)]; exact blk_cell HCB6.out 3
          have HCn1 : Hid (∃ C', (W0.setCell ⟨g, k * 4 + 2, none⟩ (.string ⟨#[122, 122]⟩)).heap[g]? = some (.cells C' 24) ∧ C'.size = C.size) := by
            obtain ⟨C', h1, h2⟩ := set_block hC1 (k * 4 + 2) (.string ⟨#[122, 122]⟩)
            exact ⟨C', h1, h2.trans hz1⟩
          have HTn1 : Hid (Touch g w6 (W0.setCell ⟨g, k * 4 + 2, none⟩ (.string ⟨#[122, 122]⟩))) := HTn0.out.setCell rfl _
          clear hC1 hz1
          go_upto_region 10 with fail
          clear hu1 fz1 cb1
          generalize W0.setCell ⟨g, k * 4 + 2, none⟩ (.string ⟨#[122, 122]⟩) = W1 at *
          obtain ⟨C2, hC2, hz2⟩ := HCn1.out
          obtain ⟨u2, hu2⟩ := blk_some hC2 (k * 4 + 3) (by rw [hz2]; have := HCs.out k hlt; omega)
          have fz2 : W1.frozen? ⟨g, k * 4 + 3, none⟩ = false := blk_frozen hC2 _
          have cb2 : W1.cell? ⟨Cb, 3, none⟩ = some (.slice (some ⟨g, 0, none⟩) V.kids.length c3) := by rw [HTn1.out.cell (by exact blk_lt HCB6.out) (Ne.symm hgC)]; exact blk_cell HCB6.out 3
          have HCn2 : Hid (∃ C', (W1.setCell ⟨g, k * 4 + 3, none⟩ (.slice none 0 0)).heap[g]? = some (.cells C' 24) ∧ C'.size = C.size) := by
            obtain ⟨C', h1, h2⟩ := set_block hC2 (k * 4 + 3) (.slice none 0 0)
            exact ⟨C', h1, h2.trans hz2⟩
          have HTn2 : Hid (Touch g w6 (W1.setCell ⟨g, k * 4 + 3, none⟩ (.slice none 0 0))) := HTn1.out.setCell rfl _
          clear hC2 hz2
          go_upto_region 11 with fail
          clear hu2 fz2 cb2
          generalize W1.setCell ⟨g, k * 4 + 3, none⟩ (.slice none 0 0) = W2 at *
          go_wp2_with fail
          exact ⟨⟨k + 1, by omega, by go_num, HCn2, HTn2⟩, by simp [intOf]; omega⟩
        · have HB7 : Hid (Below w.heap.size w wr) := HB6.out.trans (HTr.out.below HG1.out.1 HB6.out.size)
          have HX7 : Hid (wr.heap[Z]? = some (.cells #[i64 V.kind, i64 V.num, str V.s, .slice ak V.kids.length ck] 24)) := by show _ = _; rw [HTr.out.block Z (blk_lt HX6.out) (by have := HG1.out.2; omega)]; exact HX6.out
          have HD7 : Hid (wr.heap[Db]? = some (.cells #[i64 V.kind, i64 V.num, str V.s, .slice a5 V.kids.length c5] 24)) := by show _ = _; rw [HTr.out.block Db (blk_lt HDB6.out) (Ne.symm hgD)]; exact HDB6.out
          have HSame : Hid (Calls Tryd.prog 22 #[vlV V (.slice ak V.kids.length ck), vlV V (.slice a5 V.kids.length c5)] wr fun e w' => e = .returned (.bool true) ∧ Below wr.heap.size wr w') := by
            have := vsame_ok V V wr (fun _ => True) _ _ (HV6.out.move HTr.out.size fun b hb hlt => ⟨trivial, HTr.out.block b hlt (by have := HG1.out.1; omega)⟩) (HE6.out.move HTr.out.size fun b hb hlt => ⟨trivial, HTr.out.block b hlt (by have := HG2.out; omega)⟩) (by omega)
            rw [sameV_refl] at this
            exact this
          have zc0 : wr.cell? ⟨Z, 0, none⟩ = some (i64 V.kind) := blk_cell HX7.out 0
          have zc1 : wr.cell? ⟨Z, 1, none⟩ = some (i64 V.num) := blk_cell HX7.out 1
          have zc2 : wr.cell? ⟨Z, 2, none⟩ = some (str V.s) := blk_cell HX7.out 2
          have zc3 : wr.cell? ⟨Z, 3, none⟩ = some (.slice ak V.kids.length ck) := blk_cell HX7.out 3
          have dc0 : wr.cell? ⟨Db, 0, none⟩ = some (i64 V.kind) := blk_cell HD7.out 0
          have dc1 : wr.cell? ⟨Db, 1, none⟩ = some (i64 V.num) := blk_cell HD7.out 1
          have dc2 : wr.cell? ⟨Db, 2, none⟩ = some (str V.s) := blk_cell HD7.out 2
          have dc3 : wr.cell? ⟨Db, 3, none⟩ = some (.slice a5 V.kids.length c5) := blk_cell HD7.out 3
          go_wp2_with fail
          refine HSame.out.mono ?_
          rintro e w8 ⟨rfl, hb8⟩
          have HB8 : Hid (Below w.heap.size w w8) := HB7.out.trans (hb8.mono HB7.out.size)
          clear hb8
          go_wp2_with fail
          refine (HFV.out w8 HB8.out).mono ?_
          rintro e w9 ⟨rfl, hb9⟩
          have HB9 : Hid (Below w.heap.size w w9) := HB8.out.trans (hb9.mono HB8.out.size)
          clear hb9
          go_wp2_with fail
          go_ret
          exact ⟨rfl, HB9.out⟩
end Go.Proofs.YtgiemijhndanjaaDoor
