/- imagolaw16's large and much: their contracts; no statement is proved in this text. -/
import Derived.Test.YtihbbgcpdgnhoaaGreatDoorFi
import Derived.Test.YtihbbgcpdgnhoaaGreatDoorLg2
import Derived.Test.YtihbbgcpdgnhoaaGreatDoorTx0
namespace Go.Proofs.YtihbbgcpdgnhoaaGreatDoor
open Go.ChangeShapes Go.WideShapes Go.ChangeAt Go.RowKit Go.Deep
attribute [local go_sem ↓] Go.wp_at_zero Go.wp_at_succ

def LgVk (w : World) (q : Nat) (m : Int) (V : Vl) (e : Ending) (w' : World) : Prop :=
  ∃ (b : Bool) (m' : Int), e = .returned (.bool b) ∧ w'.heap[q]? = some (.cells #[i64 m'] 60) ∧ Touch q w w' ∧ (b = false → 0 ≤ m' ∧ m' = m - V.size)
set_option maxRecDepth 100000 in
set_option maxHeartbeats 3200000 in
theorem lgv_big (V : Vl) (w : World) (kv : Value) (q : Nat) (m d : Int) (hV : Vd w (fun b => b ≠ q) V kv) (hq : w.heap[q]? = some (.cells #[i64 m] 60)) (hm : 0 ≤ m) (hm2 : m ≤ 2500) (hd : 0 ≤ d) (hd2 : d ≤ 30) (hbig : m < 1 ∨ 20 < d ∨ 200 < V.kids.length ∨ 1000 < V.s.length) : Calls Tryz.prog 17 #[vlV V kv, pq q, i64 d] w (LgVk w q m V) := by
  have hln := hV.lens
  unfold maxLen at hln
  obtain ⟨hln1, hln2⟩ := hln
  have hbl := bz V.s
  have HVd := hid hV
  obtain ⟨ak, ck, rfl⟩ := hV.form
  have hqlt := blk_lt hq
  have HX : Hid ((w.alloc (.cells #[i64 V.kind, i64 V.num, str V.s, .slice ak V.kids.length ck] 28)).heap[w.heap.size]? = some (.cells #[i64 V.kind, i64 V.num, str V.s, .slice ak V.kids.length ck] 28)) := heap_last w _
  have HQ : Hid ((w.alloc (.cells #[i64 V.kind, i64 V.num, str V.s, .slice ak V.kids.length ck] 28)).heap[q]? = some (.cells #[i64 m] 60)) := blk_alloc hq _
  have HT : Hid (Touch q w (w.alloc (.cells #[i64 V.kind, i64 V.num, str V.s, .slice ak V.kids.length ck] 28))) := (Touch.refl _ _).alloc _
  clear hV hq 
  go_enter Tryz.func17, Tryz.ntmps17
  go_upto_region 1 with fail
  obtain ⟨Z, hZ⟩ : ∃ Z, Z = w.heap.size := ⟨_, rfl⟩
  rw [← hZ] at HX hqlt ⊢
  generalize w.alloc (.cells #[i64 V.kind, i64 V.num, str V.s, .slice ak V.kids.length ck] 28) = V0 at *
  have yq : V0.cell? ⟨q, 0, none⟩ = some (i64 m) := blk_cell HQ.out 0
  have fq : V0.frozen? ⟨q, 0, none⟩ = false := blk_frozen HQ.out 0
  have HQ1 : Hid ((V0.setCell ⟨q, 0, none⟩ (i64 (m - 1))).heap[q]? = some (.cells #[i64 (m - 1)] 60)) := set1 HQ.out _
  have HX1 : Hid ((V0.setCell ⟨q, 0, none⟩ (i64 (m - 1))).heap[Z]? = some (.cells #[i64 V.kind, i64 V.num, str V.s, .slice ak V.kids.length ck] 28)) := by
    show _ = _
    rw [Below.heap_setCell _ _ _ _ (by show Z ≠ q; omega)]; exact HX.out
  have HT1 : Hid (Touch q w (V0.setCell ⟨q, 0, none⟩ (i64 (m - 1)))) := HT.out.setCell rfl _
  have HZ := hid hZ
  clear hZ
  go_upto_region 2 with fail
  generalize V0.setCell ⟨q, 0, none⟩ (i64 (m - 1)) = U0 at *
  have y0 : U0.cell? ⟨q, 0, none⟩ = some (i64 (m - 1)) := blk_cell HQ1.out 0
  have y2 : U0.cell? ⟨Z, 2, none⟩ = some (str V.s) := blk_cell HX1.out 2
  have y3 : U0.cell? ⟨Z, 3, none⟩ = some (.slice ak V.kids.length ck) := blk_cell HX1.out 3
  by_cases h1 : m < 1
  · go_wp2_with fail
    go_ret
    exact ⟨true, m - 1, rfl, HQ1.out, HT1.out, fun h => by cases h⟩
  · by_cases h2 : 20 < d
    · go_wp2_with fail
      go_ret
      exact ⟨true, m - 1, rfl, HQ1.out, HT1.out, fun h => by cases h⟩
    · by_cases h3 : 200 < V.kids.length
      · go_wp2_with fail
        go_ret
        exact ⟨true, m - 1, rfl, HQ1.out, HT1.out, fun h => by cases h⟩
      · have h4 : 1000 < V.s.length := by omega
        go_wp2_with fail
        go_ret
        exact ⟨true, m - 1, rfl, HQ1.out, HT1.out, fun h => by cases h⟩
set_option maxRecDepth 100000 in
set_option maxHeartbeats 12800000 in
theorem lgv_in (V : Vl) (w : World) (kv : Value) (q : Nat) (m d : Int) (hV : Vd w (fun b => b ≠ q) V kv) (hq : w.heap[q]? = some (.cells #[i64 m] 60)) (hm : 1 ≤ m) (hm2 : m ≤ 2500) (hd : 0 ≤ d) (hd2 : d ≤ 20) (hk1 : V.kids.length ≤ 200) (hs1 : V.s.length ≤ 1000)
    (hih : ∀ U ∈ V.kids, ∀ (w : World) (kv : Value) (m : Int), Vd w (fun b => b ≠ q) U kv → w.heap[q]? = some (.cells #[i64 m] 60) → 0 ≤ m → m ≤ 2500 → Calls Tryz.prog 17 #[vlV U kv, pq q, i64 (d + 1)] w (LgVk w q m U)) : Calls Tryz.prog 17 #[vlV V kv, pq q, i64 d] w (LgVk w q m V) := by
  have HIH := hid hih
  have hln := hV.lens
  unfold maxLen at hln
  obtain ⟨hln1, hln2⟩ := hln
  have hbl := bz V.s
  have HVd := hid hV
  obtain ⟨ak, ck, rfl⟩ := hV.form
  have hqlt := blk_lt hq
  have HX : Hid ((w.alloc (.cells #[i64 V.kind, i64 V.num, str V.s, .slice ak V.kids.length ck] 28)).heap[w.heap.size]? = some (.cells #[i64 V.kind, i64 V.num, str V.s, .slice ak V.kids.length ck] 28)) := heap_last w _
  have HQ : Hid ((w.alloc (.cells #[i64 V.kind, i64 V.num, str V.s, .slice ak V.kids.length ck] 28)).heap[q]? = some (.cells #[i64 m] 60)) := blk_alloc hq _
  have HT : Hid (Touch q w (w.alloc (.cells #[i64 V.kind, i64 V.num, str V.s, .slice ak V.kids.length ck] 28))) := (Touch.refl _ _).alloc _
  clear hV hq hih
  go_enter Tryz.func17, Tryz.ntmps17
  go_upto_region 1 with fail
  obtain ⟨Z, hZ⟩ : ∃ Z, Z = w.heap.size := ⟨_, rfl⟩
  rw [← hZ] at HX hqlt ⊢
  generalize w.alloc (.cells #[i64 V.kind, i64 V.num, str V.s, .slice ak V.kids.length ck] 28) = V0 at *
  have yq : V0.cell? ⟨q, 0, none⟩ = some (i64 m) := blk_cell HQ.out 0
  have fq : V0.frozen? ⟨q, 0, none⟩ = false := blk_frozen HQ.out 0
  have HQ1 : Hid ((V0.setCell ⟨q, 0, none⟩ (i64 (m - 1))).heap[q]? = some (.cells #[i64 (m - 1)] 60)) := set1 HQ.out _
  have HX1 : Hid ((V0.setCell ⟨q, 0, none⟩ (i64 (m - 1))).heap[Z]? = some (.cells #[i64 V.kind, i64 V.num, str V.s, .slice ak V.kids.length ck] 28)) := by
    show _ = _
    rw [Below.heap_setCell _ _ _ _ (by show Z ≠ q; omega)]; exact HX.out
  have HT1 : Hid (Touch q w (V0.setCell ⟨q, 0, none⟩ (i64 (m - 1)))) := HT.out.setCell rfl _
  have HZ := hid hZ
  clear hZ
  go_upto_region 2 with fail
  generalize V0.setCell ⟨q, 0, none⟩ (i64 (m - 1)) = U0 at *
  have y0 : U0.cell? ⟨q, 0, none⟩ = some (i64 (m - 1)) := blk_cell HQ1.out 0
  have y2 : U0.cell? ⟨Z, 2, none⟩ = some (str V.s) := blk_cell HX1.out 2
  have y3 : U0.cell? ⟨Z, 3, none⟩ = some (.slice ak V.kids.length ck) := blk_cell HX1.out 3
  go_wp2_with fail
  go_loopw [41] (fun u wr => ∃ (i : Nat) (m1 : Int), i ≤ V.kids.length ∧ u = i64 i ∧ 0 ≤ m1 ∧ Hid (m1 = m - 1 - sizeL (V.kids.take i)) ∧ Hid (wr.heap[q]? = some (.cells #[i64 m1] 60)) ∧ Hid (Touch q w wr)) (fun u _ => V.kids.length - (intOf u).toNat)
  case atStart => exact ⟨0, m - 1, by omega, rfl, by omega, by show _ = _; simp [sizeL], HQ1, HT1⟩
  case round =>
    obtain ⟨i, m1, hi, rfl, hm1, HM, HQr, HTr⟩ := hrel
    by_cases hlt : i < V.kids.length
    · have hm3 : m1 ≤ 2500 := by have := HM.out; omega
      obtain ⟨b, off, kv', rfl, hbq, hblt, hr, hrd⟩ := (HVd.out.touch HTr.out).kid i hlt
      obtain ⟨U, hU⟩ : ∃ U, U = V.kids[i] := ⟨_, rfl⟩
      rw [← hU] at hr hrd
      have HUm : Hid (U ∈ V.kids) := by show U ∈ _; rw [hU]; exact List.getElem_mem hlt
      have HTc : Hid (sizeL (V.kids.take (i + 1)) = sizeL (V.kids.take i) + U.size) := by show _ = _; rw [hU]; exact sizeL_take V.kids i hlt
      obtain ⟨ak2, ck2, rfl⟩ := hrd.form
      have c0 : wr.cell? ⟨b, off + i * 4, none⟩ = some (i64 U.kind) := hr 0 _ rfl
      have c1 : wr.cell? ⟨b, off + i * 4 + 1, none⟩ = some (i64 U.num) := hr 1 _ rfl
      have c2 : wr.cell? ⟨b, off + i * 4 + 2, none⟩ = some (str U.s) := hr 2 _ rfl
      have c3 : wr.cell? ⟨b, off + i * 4 + 3, none⟩ = some (.slice ak2 U.kids.length ck2) := hr 3 _ rfl
      have hqr' := blk_lt HQr.out
      have HX2 : Hid ((wr.alloc (.cells #[i64 U.kind, i64 U.num, str U.s, .slice ak2 U.kids.length ck2] 28)).heap[wr.heap.size]? = some (.cells #[i64 U.kind, i64 U.num, str U.s, .slice ak2 U.kids.length ck2] 28)) := heap_last wr _
      have HT2 : Hid (Touch q w (wr.alloc (.cells #[i64 U.kind, i64 U.num, str U.s, .slice ak2 U.kids.length ck2] 28))) := HTr.out.alloc _
      have HC : Hid (Calls Tryz.prog 17 #[vlV U (.slice ak2 U.kids.length ck2), pq q, i64 (d + 1)] (wr.alloc (.cells #[i64 U.kind, i64 U.num, str U.s, .slice ak2 U.kids.length ck2] 28)) (LgVk (wr.alloc (.cells #[i64 U.kind, i64 U.num, str U.s, .slice ak2 U.kids.length ck2] 28)) q m1 U)) :=
        HIH.out U HUm.out _ _ m1 (hrd.move (by simp) fun b hS hlt => ⟨hS, Below.heap_alloc _ _ _ hlt⟩) (blk_alloc HQr.out _) hm1 hm3
      clear hU hr hrd
      go_upto_region 7 with fail
      obtain ⟨Y, hY⟩ : ∃ Y, Y = wr.heap.size := ⟨_, rfl⟩
      rw [← hY] at HX2 ⊢
      generalize wr.alloc (.cells #[i64 U.kind, i64 U.num, str U.s, .slice ak2 U.kids.length ck2] 28) = X at *
      have xc0 : X.cell? ⟨Y, 0, none⟩ = some (i64 U.kind) := blk_cell HX2.out 0
      have xc1 : X.cell? ⟨Y, 1, none⟩ = some (i64 U.num) := blk_cell HX2.out 1
      have xc2 : X.cell? ⟨Y, 2, none⟩ = some (str U.s) := blk_cell HX2.out 2
      have xc3 : X.cell? ⟨Y, 3, none⟩ = some (.slice ak2 U.kids.length ck2) := blk_cell HX2.out 3
      clear c0 c1 c2 c3 hY
      go_wp2_with fail
      refine HC.out.mono ?_
      rintro e w3 ⟨bb, m2, rfl, hq3, ht3, hf3⟩
      have HQ3 := hid hq3
      have HT3 : Hid (Touch q w w3) := HT2.out.trans ht3
      have HF3 := hid hf3
      clear hq3 ht3 hf3
      cases bb with
      | true =>
        go_wp2_with fail
        go_ret
        exact ⟨true, m2, rfl, HQ3.out, HT3.out, fun h => by cases h⟩
      | false =>
        obtain ⟨g1, g2⟩ := HF3.out rfl
        have HM2 : Hid (m2 = m - 1 - sizeL (V.kids.take (i + 1))) := by show _ = _; rw [g2, HM.out, HTc.out]; omega
        clear g2
        go_wp2_with fail
        exact ⟨⟨i + 1, m2, by omega, by go_num, g1, HM2, HQ3, HT3⟩, by simp [intOf]; omega⟩
    · have he : i = V.kids.length := by omega
      have HM3 : Hid (m1 = m - V.size) := by
        show _ = _
        have := HM.out
        rw [he, List.take_of_length_le (Nat.le_refl _)] at this
        have h2 := V.size_eq
        omega
      clear he
      go_wp2_with fail
      go_ret
      exact ⟨false, m1, rfl, HQr.out, HTr.out, fun _ => ⟨hm1, HM3.out⟩⟩
theorem largev_ok : ∀ (N : Nat) (V : Vl), V.size ≤ N → ∀ (w : World) (kv : Value) (q : Nat) (m d : Int), Vd w (fun b => b ≠ q) V kv → w.heap[q]? = some (.cells #[i64 m] 60) → 0 ≤ m → m ≤ 2500 → 0 ≤ d → d ≤ 30 → Calls Tryz.prog 17 #[vlV V kv, pq q, i64 d] w (LgVk w q m V)
  | 0, V, hN, _, _, _, _, _, _, _, _, _, _, _ => by have := size_pos V; omega
  | N + 1, V, hN, w, kv, q, m, d, hV, hq, hm, hm2, hd, hd2 => by
    by_cases hbig : m < 1 ∨ 20 < d ∨ 200 < V.kids.length ∨ 1000 < V.s.length
    · exact lgv_big V w kv q m d hV hq hm hm2 hd hd2 hbig
    · refine lgv_in V w kv q m d hV hq (by omega) hm2 hd (by omega) (by omega) (by omega) (fun U hU w kv m hV hq hm hm2 => ?_)
      have := sizeL_mem hU
      have := V.size_eq
      exact largev_ok N U (by omega) w kv q m (d + 1) hV hq hm hm2 (by omega) (by omega)
end Go.Proofs.YtihbbgcpdgnhoaaGreatDoor
