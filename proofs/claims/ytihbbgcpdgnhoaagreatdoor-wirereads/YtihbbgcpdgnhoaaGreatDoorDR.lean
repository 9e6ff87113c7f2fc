/- Texts Kd Dg Pl Cn2 Pl4 Al Rft in one; no statement is proved in this text. -/
import Derived.Test.YtihbbgcpdgnhoaaGreatDoorFi0
import Derived.Lib.ItoaLen
import Derived.Test.YtihbbgcpdgnhoaaGreatDoorTx
import Derived.Test.YtihbbgcpdgnhoaaGreatDoorTxr
import Derived.Test.YtihbbgcpdgnhoaaGreatDoorFmd
import Derived.Deep.QuietTactic
import Derived.BigQuiet
import Derived.Test.YtihbbgcpdgnhoaaGreatDoorFi
import Derived.Test.YtihbbgcpdgnhoaaGreatDoorFit
import Derived.Test.YtihbbgcpdgnhoaaGreatDoorW4
namespace Go.Proofs.YtihbbgcpdgnhoaaGreatDoor
open Go.ChangeShapes Go.WideShapes Go.ChangeAt Go.RowKit Go.Deep
attribute [local go_sem ↓] Go.wp_at_zero Go.wp_at_succ

set_option maxRecDepth 100000 in
set_option maxHeartbeats 3200000 in
theorem kid_ok (T : Ty) (i : Nat) (w : World) (S : Nat → Prop) (nv kv : Value) (hR : Rd w S T nv kv) (h3 : T.kind = 3 → 0 < T.kids.length) (h4 : T.kind ≠ 3 → i < T.kids.length) :
    Calls Tryz.prog 46 #[tyV T.kind T.num nv kv, i64 i] w fun e w' => ∃ a1 c1 a2 c2, e = .returned (tyV (kidT T i).kind (kidT T i).num (.slice a1 (kidT T i).names.length c1) (.slice a2 (kidT T i).kids.length c2)) ∧ Below w.heap.size w w' ∧ Rd w' S (kidT T i) (.slice a1 (kidT T i).names.length c1) (.slice a2 (kidT T i).kids.length c2) := by
  have hln := hR.lens.2
  unfold maxLen at hln
  obtain ⟨j, hj, hjl, hji⟩ : ∃ j, kidT T i = T.kids.getD j (.mk 0 0 [] []) ∧ j < T.kids.length ∧ ((T.kind = 3 ∧ j = 0) ∨ (T.kind ≠ 3 ∧ j = i)) := by
    by_cases h : T.kind = 3
    · exact ⟨0, by unfold kidT; rw [if_pos h], h3 h, Or.inl ⟨h, rfl⟩⟩
    · exact ⟨i, by unfold kidT; rw [if_neg h], h4 h, Or.inr ⟨h, rfl⟩⟩
  rw [getD_lt _ _ _ hjl] at hj
  obtain ⟨U, hU⟩ : ∃ U, U = kidT T i := ⟨_, rfl⟩
  rw [← hU] at hj ⊢
  clear hU h3 h4
  have HRd := hid hR
  obtain ⟨an, cn, rfl, at_, ct, rfl⟩ := hR.form
  obtain ⟨b, off, nv2, kv2, rfl, _, hblt, hr, hrd⟩ := hR.kidAt j hjl
  rw [← hj] at hr hrd
  obtain ⟨an2, cn2, rfl, ak2, ck2, rfl⟩ := hrd.form
  have HRU := hid hrd
  have HX : Hid (((w.alloc (.cells #[i64 T.kind, i64 T.num, .slice an T.names.length cn, .slice (some ⟨b, off, none⟩) T.kids.length ct] 35)).alloc (.cells #[i64 0, i64 0, .slice none 0 0, .slice none 0 0] 35)).heap[w.heap.size]? = some (.cells #[i64 T.kind, i64 T.num, .slice an T.names.length cn, .slice (some ⟨b, off, none⟩) T.kids.length ct] 35)) := blk_alloc (heap_last w _) _
  have HR0 : Hid (((w.alloc (.cells #[i64 T.kind, i64 T.num, .slice an T.names.length cn, .slice (some ⟨b, off, none⟩) T.kids.length ct] 35)).alloc (.cells #[i64 0, i64 0, .slice none 0 0, .slice none 0 0] 35)).heap[w.heap.size + 1]? = some (.cells #[i64 0, i64 0, .slice none 0 0, .slice none 0 0] 35)) := heap_at3 _ _ _ (by simp)
  have HBV : Hid (Below w.heap.size w ((w.alloc (.cells #[i64 T.kind, i64 T.num, .slice an T.names.length cn, .slice (some ⟨b, off, none⟩) T.kids.length ct] 35)).alloc (.cells #[i64 0, i64 0, .slice none 0 0, .slice none 0 0] 35))) := (below_one w _).trans ((below_one _ _).mono (by simp))
  have c0 : ((w.alloc (.cells #[i64 T.kind, i64 T.num, .slice an T.names.length cn, .slice (some ⟨b, off, none⟩) T.kids.length ct] 35)).alloc (.cells #[i64 0, i64 0, .slice none 0 0, .slice none 0 0] 35)).cell? ⟨b, off + j * 4, none⟩ = some (i64 U.kind) := (HBV.out.cell (p := ⟨b, off + j * 4, none⟩) hblt).trans (hr 0 _ rfl)
  have c1 : ((w.alloc (.cells #[i64 T.kind, i64 T.num, .slice an T.names.length cn, .slice (some ⟨b, off, none⟩) T.kids.length ct] 35)).alloc (.cells #[i64 0, i64 0, .slice none 0 0, .slice none 0 0] 35)).cell? ⟨b, off + j * 4 + 1, none⟩ = some (i64 U.num) := (HBV.out.cell (p := ⟨b, off + j * 4 + 1, none⟩) hblt).trans (hr 1 _ rfl)
  have c2 : ((w.alloc (.cells #[i64 T.kind, i64 T.num, .slice an T.names.length cn, .slice (some ⟨b, off, none⟩) T.kids.length ct] 35)).alloc (.cells #[i64 0, i64 0, .slice none 0 0, .slice none 0 0] 35)).cell? ⟨b, off + j * 4 + 2, none⟩ = some (.slice an2 U.names.length cn2) := (HBV.out.cell (p := ⟨b, off + j * 4 + 2, none⟩) hblt).trans (hr 2 _ rfl)
  have c3 : ((w.alloc (.cells #[i64 T.kind, i64 T.num, .slice an T.names.length cn, .slice (some ⟨b, off, none⟩) T.kids.length ct] 35)).alloc (.cells #[i64 0, i64 0, .slice none 0 0, .slice none 0 0] 35)).cell? ⟨b, off + j * 4 + 3, none⟩ = some (.slice ak2 U.kids.length ck2) := (HBV.out.cell (p := ⟨b, off + j * 4 + 3, none⟩) hblt).trans (hr 3 _ rfl)
  have HJ := hid hj
  clear hR hr hrd hj
  go_enter Tryz.func46, Tryz.ntmps46
  go_upto_region 1 with fail
  generalize (w.alloc (.cells #[i64 T.kind, i64 T.num, .slice an T.names.length cn, .slice (some ⟨b, off, none⟩) T.kids.length ct] 35)).alloc (.cells #[i64 0, i64 0, .slice none 0 0, .slice none 0 0] 35) = V0 at *
  obtain ⟨Z, hZ⟩ : ∃ Z, Z = w.heap.size := ⟨_, rfl⟩
  obtain ⟨R, hR⟩ : ∃ R, R = w.heap.size + 1 := ⟨_, rfl⟩
  have HRw : Hid (w.heap.size ≤ R) := by show _ ≤ _; omega
  rw [← hZ] at HX
  rw [← hR] at HR0
  rw [← hR, ← hZ]
  clear hZ hR
  have zc0 : V0.cell? ⟨Z, 0, none⟩ = some (i64 T.kind) := blk_cell HX.out 0
  have zc1 : V0.cell? ⟨Z, 1, none⟩ = some (i64 T.num) := blk_cell HX.out 1
  have zc2 : V0.cell? ⟨Z, 2, none⟩ = some (.slice an T.names.length cn) := blk_cell HX.out 2
  have zc3 : V0.cell? ⟨Z, 3, none⟩ = some (.slice (some ⟨b, off, none⟩) T.kids.length ct) := blk_cell HX.out 3
  have rc0 : V0.cell? ⟨R, 0, none⟩ = some (i64 0) := blk_cell HR0.out 0
  have rf0 : V0.frozen? ⟨R, 0, none⟩ = false := blk_frozen HR0.out 0
  have rc1 : V0.cell? ⟨R, 1, none⟩ = some (i64 0) := blk_cell HR0.out 1
  have rf1 : V0.frozen? ⟨R, 1, none⟩ = false := blk_frozen HR0.out 1
  have rc2 : V0.cell? ⟨R, 2, none⟩ = some (.slice none 0 0) := blk_cell HR0.out 2
  have rf2 : V0.frozen? ⟨R, 2, none⟩ = false := blk_frozen HR0.out 2
  have rc3 : V0.cell? ⟨R, 3, none⟩ = some (.slice none 0 0) := blk_cell HR0.out 3
  have rf3 : V0.frozen? ⟨R, 3, none⟩ = false := blk_frozen HR0.out 3
  have hjI : (j : Int) < T.kids.length := by omega
  rcases hji with ⟨hk, rfl⟩ | ⟨hk, rfl⟩
  · have hkq : (T.kind == 3) = true := by simpa using hk
    have HK := hid hk
    clear hk
    simp only [Nat.zero_mul, Nat.add_zero] at c0 c1 c2 c3
    go_wp2_with fail
    refine bodyPost_ret (v := tyV U.kind U.num (.slice an2 U.names.length cn2) (.slice ak2 U.kids.length ck2)) (results_one Tryz.results46 rfl (load37 (set4 HR0.out _ _ _ _))) rfl ?_
    exact ⟨an2, cn2, ak2, ck2, rfl, bset4 HBV.out HRw.out _ _ _ _, HRU.out.under (bset4 HBV.out HRw.out _ _ _ _)⟩
  · have hkq : (T.kind == 3) = false := by simpa using hk
    have HK := hid hk
    clear hk
    go_wp2_with fail
    refine bodyPost_ret (v := tyV U.kind U.num (.slice an2 U.names.length cn2) (.slice ak2 U.kids.length ck2)) (results_one Tryz.results46 rfl (load37 (set4 HR0.out _ _ _ _))) rfl ?_
    exact ⟨an2, cn2, ak2, ck2, rfl, bset4 HBV.out HRw.out _ _ _ _, HRU.out.under (bset4 HBV.out HRw.out _ _ _ _)⟩
end Go.Proofs.YtihbbgcpdgnhoaaGreatDoor
namespace Go.Proofs.YtihbbgcpdgnhoaaGreatDoor
open Go.ChangeShapes Go.WideShapes Go.ChangeAt Go.RowKit Go.Deep
attribute [local go_sem ↓] Go.wp_at_zero Go.wp_at_succ

abbrev u8 (n : Int) : Value := .int .u8 n
def dcells (l : List UInt8) : List Value := l.map fun c => u8 (c.toNat : Int)
end Go.Proofs.YtihbbgcpdgnhoaaGreatDoor
namespace Go.Proofs.YtihbbgcpdgnhoaaGreatDoor
open Go.ChangeShapes Go.WideShapes Go.ChangeAt Go.RowKit Go.Deep
attribute [local go_sem ↓] Go.wp_at_zero Go.wp_at_succ

/-- What Plain has of the first fields. -/
def accT (FL : List Bs) (i : Nat) : Bs := Lib.join (FL.take i) [44]
structure S3 (Z b off : Nat) (oZ : Obj) (l : List Value) (W : World) : Prop where
  z : W.heap[Z]? = some oZ
  r : W.rangeAt b off l
  lt : b < W.heap.size
theorem S3.below {Z b off : Nat} {oZ : Obj} {l : List Value} {W W' : World} (h : S3 Z b off oZ l W) (hb : Below W.heap.size W W') : S3 Z b off oZ l W' :=
  ⟨blk_below h.z hb, range_keep h.r (hb.block b h.lt), Nat.lt_of_lt_of_le h.lt hb.size⟩
end Go.Proofs.YtihbbgcpdgnhoaaGreatDoor
namespace Go.Proofs.YtihbbgcpdgnhoaaGreatDoor
open Go.ChangeShapes Go.WideShapes Go.ChangeAt Go.RowKit Go.Deep
attribute [local go_sem ↓] Go.wp_at_zero Go.wp_at_succ

set_option maxRecDepth 100000 in
set_option maxHeartbeats 3200000 in
theorem count_in (k n : Int) (names : List Bs) (kids : List Ty) (w : World) (S : Nat → Prop) (nv kv : Value) (hR : Rd w S (.mk k n names kids) nv kv) (hcnt : countL kids ≤ 1000000)
    (hih : ∀ T ∈ kids, ∀ (w : World) (nv kv : Value), Rd w S T nv kv → Calls Tryz.prog 43 #[tyV T.kind T.num nv kv] w fun e w' => e = .returned (i64 (T.count : Nat)) ∧ Below w.heap.size w w') :
    Calls Tryz.prog 43 #[tyV k n nv kv] w fun e w' => e = .returned (i64 ((Ty.mk k n names kids).count : Nat)) ∧ Below w.heap.size w w' := by
  have HIH := hid hih
  have HCN := hid hcnt
  have HRd : Hid (Rd w S (.mk k n names kids) nv kv) := hR
  obtain ⟨⟨an, cn, rfl, hnl, _, _⟩, hkl, ak, ck, rfl, _⟩ := hR.kid
  unfold maxLen at hnl hkl
  have HX : Hid ((w.alloc (.cells #[i64 k, i64 n, .slice an names.length cn, .slice ak kids.length ck] 35)).heap[w.heap.size]? = some (.cells #[i64 k, i64 n, .slice an names.length cn, .slice ak kids.length ck] 35)) := heap_last w _
  have HBV : Hid (Below w.heap.size w (w.alloc (.cells #[i64 k, i64 n, .slice an names.length cn, .slice ak kids.length ck] 35))) := below_one w _
  clear hR hih hcnt
  go_enter Tryz.func43, Tryz.ntmps43
  go_upto_region 1 with fail
  obtain ⟨Z, hZ⟩ : ∃ Z, Z = w.heap.size := ⟨_, rfl⟩
  rw [← hZ] at HX ⊢
  generalize w.alloc (.cells #[i64 k, i64 n, .slice an names.length cn, .slice ak kids.length ck] 35) = V at *
  have y0 : V.cell? ⟨Z, 0, none⟩ = some (i64 k) := blk_cell HX.out 0
  have y1 : V.cell? ⟨Z, 1, none⟩ = some (i64 n) := blk_cell HX.out 1
  have y2 : V.cell? ⟨Z, 2, none⟩ = some (.slice an names.length cn) := blk_cell HX.out 2
  have y3 : V.cell? ⟨Z, 3, none⟩ = some (.slice ak kids.length ck) := blk_cell HX.out 3
  have hZV : Z < V.heap.size := blk_lt HX.out
  have HZ := hid hZ
  clear hZ
  go_wp2_with fail
  go_loopw [3, 9] (fun a u wr => ∃ (i : Nat) (c : Nat), i ≤ kids.length ∧ u = i64 i ∧ a = i64 c ∧ c ≤ 1000001 ∧ Hid (c = 1 + countL (kids.take i)) ∧ Hid (Below w.heap.size w wr)) (fun a u _ => kids.length - (intOf u).toNat)
  case atStart => exact ⟨0, 1, by omega, rfl, rfl, by omega, by show _ = _; simp [countL], HBV⟩
  case round =>
    obtain ⟨i, c, hi, rfl, rfl, hc, HM, HB⟩ := hrel
    by_cases hlt : i < kids.length
    · have HCT := countL_take kids (i + 1)
      have HCT := hid HCT
      obtain ⟨_, _, ak1, ck1, he, hkid⟩ := (HRd.out.under HB.out).kid
      cases he
      obtain ⟨b, off, nv2, kv2, rfl, hbS, hblt, hr, hrd⟩ := hkid i hlt
      obtain ⟨T, hT⟩ : ∃ T, T = kids[i] := ⟨_, rfl⟩
      rw [← hT] at hr hrd
      have HTm : Hid (T ∈ kids) := by show _; rw [hT]; exact List.getElem_mem hlt
      have HTe : Hid (T = kids[i]) := hT
      have c0 : wr.cell? ⟨b, off + i * 4, none⟩ = some (i64 T.kind) := hr 0 _ rfl
      have c1 : wr.cell? ⟨b, off + i * 4 + 1, none⟩ = some (i64 T.num) := hr 1 _ rfl
      have c2 : wr.cell? ⟨b, off + i * 4 + 2, none⟩ = some nv2 := hr 2 _ rfl
      have c3 : wr.cell? ⟨b, off + i * 4 + 3, none⟩ = some kv2 := hr 3 _ rfl
      obtain ⟨an2, cn2, rfl, ak2, ck2, rfl⟩ := hrd.form
      have HX2 : Hid ((wr.alloc (.cells #[i64 T.kind, i64 T.num, .slice an2 T.names.length cn2, .slice ak2 T.kids.length ck2] 35)).heap[wr.heap.size]? = some (.cells #[i64 T.kind, i64 T.num, .slice an2 T.names.length cn2, .slice ak2 T.kids.length ck2] 35)) := heap_last wr _
      have HBX : Hid (Below wr.heap.size wr (wr.alloc (.cells #[i64 T.kind, i64 T.num, .slice an2 T.names.length cn2, .slice ak2 T.kids.length ck2] 35))) := below_one wr _
      have HRT : Hid (Rd (wr.alloc (.cells #[i64 T.kind, i64 T.num, .slice an2 T.names.length cn2, .slice ak2 T.kids.length ck2] 35)) _ T (.slice an2 T.names.length cn2) (.slice ak2 T.kids.length ck2)) := hrd.under HBX.out
      clear hT hr hrd hkid hbS
      go_upto_region 5 with fail
      obtain ⟨Y, hY⟩ : ∃ Y, Y = wr.heap.size := ⟨_, rfl⟩
      rw [← hY] at HX2 ⊢
      generalize wr.alloc (.cells #[i64 T.kind, i64 T.num, .slice an2 T.names.length cn2, .slice ak2 T.kids.length ck2] 35) = X at *
      have z0 : X.cell? ⟨Y, 0, none⟩ = some (i64 T.kind) := blk_cell HX2.out 0
      have z1 : X.cell? ⟨Y, 1, none⟩ = some (i64 T.num) := blk_cell HX2.out 1
      have z2 : X.cell? ⟨Y, 2, none⟩ = some (.slice an2 T.names.length cn2) := blk_cell HX2.out 2
      have z3 : X.cell? ⟨Y, 3, none⟩ = some (.slice ak2 T.kids.length ck2) := blk_cell HX2.out 3
      have hYX : Y < X.heap.size := blk_lt HX2.out
      have HY := hid hY
      clear c0 c1 c2 c3 hY
      go_wp2_with fail
      refine (HIH.out T HTm.out X _ _ HRT.out).mono ?_
      rintro e w3 ⟨rfl, hb3⟩
      have HB3 : Hid (Below w.heap.size w w3) := HB.out.trans ((HBX.out.trans (hb3.mono HBX.out.size)).mono HB.out.size)
      have htc : countL (kids.take (i + 1)) = countL (kids.take i) + T.count := by rw [HTe.out]; exact take_countL kids i hlt
      have hc2 : c + T.count ≤ 1000001 := by have := HM.out; have := HCT.out; have := HCN.out; omega
      have HM2 : Hid (c + T.count = 1 + countL (kids.take (i + 1))) := by show _ = _; rw [htc, HM.out]; omega
      clear htc hb3
      go_wp2_with fail
      exact ⟨⟨i + 1, c + T.count, by omega, by go_num, by go_num, hc2, HM2, HB3⟩, by simp [intOf]; omega⟩
    · have he : i = kids.length := by omega
      have HM3 : Hid (c = (Ty.mk k n names kids).count) := by
        show _ = _
        have := HM.out
        rw [he, List.take_of_length_le (Nat.le_refl _)] at this
        simp only [Ty.count]
        omega
      clear he
      go_wp2_with fail
      go_ret
      exact ⟨ret_int (by have := HM3.out; omega), HB.out⟩
set_option maxRecDepth 100000 in
set_option maxHeartbeats 3200000 in
theorem depth_in (k n : Int) (names : List Bs) (kids : List Ty) (w : World) (S : Nat → Prop) (nv kv : Value) (hR : Rd w S (.mk k n names kids) nv kv) (hcnt : countL kids ≤ 1000000)
    (hih : ∀ T ∈ kids, ∀ (w : World) (nv kv : Value), Rd w S T nv kv → Calls Tryz.prog 42 #[tyV T.kind T.num nv kv] w fun e w' => e = .returned (i64 (T.depth : Nat)) ∧ Below w.heap.size w w') :
    Calls Tryz.prog 42 #[tyV k n nv kv] w fun e w' => e = .returned (i64 ((Ty.mk k n names kids).depth : Nat)) ∧ Below w.heap.size w w' := by
  have HIH := hid hih
  have HCN := hid hcnt
  have HRd : Hid (Rd w S (.mk k n names kids) nv kv) := hR
  obtain ⟨⟨an, cn, rfl, hnl, _, _⟩, hkl, ak, ck, rfl, _⟩ := hR.kid
  unfold maxLen at hnl hkl
  have HX : Hid ((w.alloc (.cells #[i64 k, i64 n, .slice an names.length cn, .slice ak kids.length ck] 35)).heap[w.heap.size]? = some (.cells #[i64 k, i64 n, .slice an names.length cn, .slice ak kids.length ck] 35)) := heap_last w _
  have HBV : Hid (Below w.heap.size w (w.alloc (.cells #[i64 k, i64 n, .slice an names.length cn, .slice ak kids.length ck] 35))) := below_one w _
  clear hR hih hcnt
  go_enter Tryz.func42, Tryz.ntmps42
  go_upto_region 1 with fail
  obtain ⟨Z, hZ⟩ : ∃ Z, Z = w.heap.size := ⟨_, rfl⟩
  rw [← hZ] at HX ⊢
  generalize w.alloc (.cells #[i64 k, i64 n, .slice an names.length cn, .slice ak kids.length ck] 35) = V at *
  have y0 : V.cell? ⟨Z, 0, none⟩ = some (i64 k) := blk_cell HX.out 0
  have y1 : V.cell? ⟨Z, 1, none⟩ = some (i64 n) := blk_cell HX.out 1
  have y2 : V.cell? ⟨Z, 2, none⟩ = some (.slice an names.length cn) := blk_cell HX.out 2
  have y3 : V.cell? ⟨Z, 3, none⟩ = some (.slice ak kids.length ck) := blk_cell HX.out 3
  have hZV : Z < V.heap.size := blk_lt HX.out
  have HZ := hid hZ
  clear hZ
  go_wp2_with fail
  go_loopw [3, 10] (fun a u wr => ∃ (i : Nat) (c : Nat), i ≤ kids.length ∧ u = i64 i ∧ a = i64 c ∧ c ≤ 1000001 ∧ Hid (c = depthL (kids.take i)) ∧ Hid (Below w.heap.size w wr)) (fun a u _ => kids.length - (intOf u).toNat)
  case atStart => exact ⟨0, 0, by omega, rfl, rfl, by omega, by show _ = _; simp [depthL], HBV⟩
  case round =>
    obtain ⟨i, c, hi, rfl, rfl, hc, HM, HB⟩ := hrel
    by_cases hlt : i < kids.length
    · have HCT := countL_take kids (i + 1)
      have HCT := hid HCT
      obtain ⟨_, _, ak1, ck1, he, hkid⟩ := (HRd.out.under HB.out).kid
      cases he
      obtain ⟨b, off, nv2, kv2, rfl, hbS, hblt, hr, hrd⟩ := hkid i hlt
      obtain ⟨T, hT⟩ : ∃ T, T = kids[i] := ⟨_, rfl⟩
      rw [← hT] at hr hrd
      have HTm : Hid (T ∈ kids) := by show _; rw [hT]; exact List.getElem_mem hlt
      have HTe : Hid (T = kids[i]) := hT
      have c0 : wr.cell? ⟨b, off + i * 4, none⟩ = some (i64 T.kind) := hr 0 _ rfl
      have c1 : wr.cell? ⟨b, off + i * 4 + 1, none⟩ = some (i64 T.num) := hr 1 _ rfl
      have c2 : wr.cell? ⟨b, off + i * 4 + 2, none⟩ = some nv2 := hr 2 _ rfl
      have c3 : wr.cell? ⟨b, off + i * 4 + 3, none⟩ = some kv2 := hr 3 _ rfl
      obtain ⟨an2, cn2, rfl, ak2, ck2, rfl⟩ := hrd.form
      have HX2 : Hid ((wr.alloc (.cells #[i64 T.kind, i64 T.num, .slice an2 T.names.length cn2, .slice ak2 T.kids.length ck2] 35)).heap[wr.heap.size]? = some (.cells #[i64 T.kind, i64 T.num, .slice an2 T.names.length cn2, .slice ak2 T.kids.length ck2] 35)) := heap_last wr _
      have HBX : Hid (Below wr.heap.size wr (wr.alloc (.cells #[i64 T.kind, i64 T.num, .slice an2 T.names.length cn2, .slice ak2 T.kids.length ck2] 35))) := below_one wr _
      have HRT : Hid (Rd (wr.alloc (.cells #[i64 T.kind, i64 T.num, .slice an2 T.names.length cn2, .slice ak2 T.kids.length ck2] 35)) _ T (.slice an2 T.names.length cn2) (.slice ak2 T.kids.length ck2)) := hrd.under HBX.out
      clear hT hr hrd hkid hbS
      go_upto_region 5 with fail
      obtain ⟨Y, hY⟩ : ∃ Y, Y = wr.heap.size := ⟨_, rfl⟩
      rw [← hY] at HX2 ⊢
      generalize wr.alloc (.cells #[i64 T.kind, i64 T.num, .slice an2 T.names.length cn2, .slice ak2 T.kids.length ck2] 35) = X at *
      have z0 : X.cell? ⟨Y, 0, none⟩ = some (i64 T.kind) := blk_cell HX2.out 0
      have z1 : X.cell? ⟨Y, 1, none⟩ = some (i64 T.num) := blk_cell HX2.out 1
      have z2 : X.cell? ⟨Y, 2, none⟩ = some (.slice an2 T.names.length cn2) := blk_cell HX2.out 2
      have z3 : X.cell? ⟨Y, 3, none⟩ = some (.slice ak2 T.kids.length ck2) := blk_cell HX2.out 3
      have hYX : Y < X.heap.size := blk_lt HX2.out
      have HY := hid hY
      clear c0 c1 c2 c3 hY
      go_wp2_with fail
      refine (HIH.out T HTm.out X _ _ HRT.out).mono ?_
      rintro e w3 ⟨rfl, hb3⟩
      have HB3 : Hid (Below w.heap.size w w3) := HB.out.trans ((HBX.out.trans (hb3.mono HBX.out.size)).mono HB.out.size)
      have htc : depthL (kids.take (i + 1)) = max (depthL (kids.take i)) T.depth := by rw [HTe.out]; exact take_depthL kids i hlt
      have hd2 : T.depth ≤ 1000000 := by have h1 := depth_le T; have h2 := countL_mem HTm.out; have h3 := HCN.out; omega
      have HM2 : Hid (max c T.depth = depthL (kids.take (i + 1))) := by show _ = _; rw [htc, HM.out]
      generalize hE : T.depth = E at *
      clear htc hb3 hE
      by_cases hg : c < E
      · have HM4 : Hid (E = depthL (kids.take (i + 1))) := by show _ = _; rw [← HM2.out]; omega
        clear HM2
        go_wp2_with fail
        exact ⟨⟨i + 1, E, by omega, by go_num, by go_num, by omega, HM4, HB3⟩, by simp [intOf]; omega⟩
      · have HM4 : Hid (c = depthL (kids.take (i + 1))) := by show _ = _; rw [← HM2.out]; omega
        clear HM2
        go_wp2_with fail
        exact ⟨⟨i + 1, c, by omega, by go_num, by go_num, by omega, HM4, HB3⟩, by simp [intOf]; omega⟩
    · have he : i = kids.length := by omega
      have HM3 : Hid (1 + c = (Ty.mk k n names kids).depth) := by
        show _ = _
        have := HM.out
        rw [he, List.take_of_length_le (Nat.le_refl _)] at this
        simp only [Ty.depth]
        omega
      clear he
      go_wp2_with fail
      go_ret
      exact ⟨ret_int (by have := HM3.out; omega), HB.out⟩
theorem count_ok : ∀ (M : Nat) (T : Ty), T.count ≤ M → T.count ≤ 1000000 → ∀ (w : World) (S : Nat → Prop) (nv kv : Value), Rd w S T nv kv → Calls Tryz.prog 43 #[tyV T.kind T.num nv kv] w fun e w' => e = .returned (i64 (T.count : Nat)) ∧ Below w.heap.size w w'
  | 0, T, hM, _, _, _, _, _, _ => by have := count_pos T; omega
  | M + 1, .mk k n names kids, hM, hC, w, S, nv, kv, hR => by
    simp only [Ty.count] at hM hC
    exact count_in k n names kids w S nv kv hR (by omega) (fun T hT w nv kv hR => count_ok M T (by have := countL_mem hT; omega) (by have := countL_mem hT; omega) w S nv kv hR)
theorem depth_ok : ∀ (M : Nat) (T : Ty), T.count ≤ M → T.count ≤ 1000000 → ∀ (w : World) (S : Nat → Prop) (nv kv : Value), Rd w S T nv kv → Calls Tryz.prog 42 #[tyV T.kind T.num nv kv] w fun e w' => e = .returned (i64 (T.depth : Nat)) ∧ Below w.heap.size w w'
  | 0, T, hM, _, _, _, _, _, _ => by have := count_pos T; omega
  | M + 1, .mk k n names kids, hM, hC, w, S, nv, kv, hR => by
    simp only [Ty.count] at hM hC
    exact depth_in k n names kids w S nv kv hR (by omega) (fun T hT w nv kv hR => depth_ok M T (by have := countL_mem hT; omega) (by have := countL_mem hT; omega) w S nv kv hR)
set_option maxHeartbeats 1600000 in
theorem rname_s (s : ByteArray) (w : World) (hs : s.size ≤ maxLen) : Calls Tryz.prog 66 #[.string s] w fun e w' => e = .returned (.bool (nameB s.data.toList)) ∧ w' = w := by
  unfold maxLen at hs
  have hlen : s.data.toList.length = s.size := Array.length_toList
  have HL := hid hlen
  obtain ⟨B, hB⟩ : ∃ B, B = nameB s.data.toList := ⟨_, rfl⟩
  have HBe := hid hB
  rw [← hB]
  clear hlen hB
  go_enter Tryz.func66, Tryz.ntmps66
  go_wp2
  go_loop [3] (fun u => ∃ k : Nat, k ≤ s.size ∧ u = .int .i64 k ∧ Hid ((s.data.toList.take k).all isLow = true)) (fun u => s.size - (intOf u).toNat)
  case atStart => exact ⟨0, Nat.zero_le _, rfl, by show _ = _; rfl⟩
  case round =>
    obtain ⟨k, hk, rfl, HA⟩ := hrel
    by_cases hlt : k < s.size
    · by_cases h3 : (s[k].toNat : Int) < 97
      · have HF : Hid (B = false) := by show _ = _; rw [HBe.out]; exact nameB_no (mem_at s k hlt) (low_no (Or.inl h3))
        go_wp2
        go_ret
        exact ⟨by rw [HF.out]; rfl, rfl⟩
      · by_cases h4 : (122 : Int) < s[k].toNat
        · have HF : Hid (B = false) := by show _ = _; rw [HBe.out]; exact nameB_no (mem_at s k hlt) (low_no (Or.inr h4))
          go_wp2
          go_ret
          exact ⟨by rw [HF.out]; rfl, rfl⟩
        · have HA2 : Hid ((s.data.toList.take (k + 1)).all isLow = true) := by show _ = _; rw [take_snoc s k hlt]; exact all_snoc HA.out (low_of h3 h4)
          go_wp2
          go_round
          case rel => exact ⟨k + 1, by omega, by go_num, HA2⟩
          case measure => simp [intOf]; omega
    · have hall : (s.data.toList).all isLow = true := by
        have := HA.out
        have hl := HL.out
        rw [List.take_of_length_le (by omega)] at this
        exact this
      by_cases h1 : s.size < 1
      · have HF : Hid (B = false) := by show _ = _; rw [HBe.out]; exact nameB_len (Or.inl (by have := HL.out; omega))
        have HLL := hid hall
        clear hall
        go_wp2
        go_ret
        exact ⟨by rw [HF.out]; rfl, rfl⟩
      · by_cases h2 : 8 < s.size
        · have HF : Hid (B = false) := by show _ = _; rw [HBe.out]; exact nameB_len (Or.inr (by have := HL.out; omega))
          have HLL := hid hall
          clear hall
          go_wp2
          go_ret
          refine ⟨?_, rfl⟩
          rw [HF.out]
          show Ending.returned (.bool (decide ((s.size : Int) < 9))) = _
          rw [decide_eq_false (by omega)]
        · have HF : Hid (B = true) := by show _ = _; rw [HBe.out]; exact nameB_yes hall (by have := HL.out; omega) (by have := HL.out; omega)
          have HLL := hid hall
          clear hall
          go_wp2
          go_ret
          refine ⟨?_, rfl⟩
          rw [HF.out]
          show Ending.returned (.bool (decide ((s.size : Int) < 9))) = _
          rw [decide_eq_true (by omega)]
theorem rname_ok (l : Bs) (w : World) (hs : l.length ≤ maxLen) : Calls Tryz.prog 66 #[str l] w fun e w' => e = .returned (.bool (nameB l)) ∧ w' = w := rname_s ⟨l.toArray⟩ w (by simpa [ByteArray.size] using hs)
set_option maxRecDepth 100000 in
set_option maxHeartbeats 3200000 in
theorem twice_ok (l : List Bs) (w : World) (S : Nat → Prop) (v : Value) (hS : Strs w S v l) : Calls Tryz.prog 67 #[v] w fun e w' => e = .returned (.bool (twTo l l.length)) ∧ Below w.heap.size w w' := by
  have HS : Hid (Strs w S v l) := hS
  obtain ⟨ao, cap, rfl, hl, _, _⟩ := hS
  unfold maxLen at hl
  obtain ⟨B, hB⟩ : ∃ B, B = twTo l l.length := ⟨_, rfl⟩
  have HBe := hid hB
  rw [← hB]
  clear hB
  go_enter Tryz.func67, Tryz.ntmps67
  go_wp2_with fail
  go_loopw [7] (fun u wr => ∃ i : Nat, i ≤ l.length ∧ u = i64 i ∧ Hid (twTo l i = false) ∧ Hid (Below w.heap.size w wr)) (fun u _ => l.length - (intOf u).toNat)
  case atStart => exact ⟨0, by omega, rfl, by show _ = _; rfl, by show Below _ _ _; exact Below.refl _ _⟩
  case round =>
    obtain ⟨i, hi, rfl, HT, HB⟩ := hrel
    by_cases hlt : i < l.length
    · go_wp2_with fail
      generalize hW : wr = W at *
      clear hW
      go_loopw [4] (fun u wr => ∃ j : Nat, j ≤ i ∧ u = i64 j ∧ Hid (∀ m (hm : m < j) (hm2 : m < l.length), l[m] ≠ l[i]) ∧ Hid (Below w.heap.size w wr)) (fun u _ => i - (intOf u).toNat)
      case atStart => exact ⟨0, by omega, rfl, by intro m hm; omega, HB⟩
      case round =>
        obtain ⟨j, hj, rfl, HN, HB2⟩ := hrel
        by_cases hlj : j < i
        · obtain ⟨ao', cap', he, hat⟩ := (HS.out.below HB2.out).at
          cases he
          obtain ⟨b, off, rfl, hblt, cI⟩ := hat i hlt
          obtain ⟨b', off', he', _, cJ⟩ := hat j (by omega)
          cases he'
          obtain ⟨x, hx⟩ : ∃ x, x = l[i] := ⟨_, rfl⟩
          obtain ⟨y, hy⟩ : ∃ y, y = l[j]'(by omega) := ⟨_, rfl⟩
          rw [← hx] at cI
          rw [← hy] at cJ
          have HXe := hid hx
          have HYe := hid hy
          clear hx hy hat
          by_cases hxy : x = y
          · have hq : (x == y) = true := by simpa using hxy
            have HF : Hid (B = true) := by
              show _ = _
              rw [HBe.out]
              refine twTo_mono l (i + 1) _ (by omega) ?_
              rw [twTo_snoc, getD_at l i hlt, ← HXe.out, hxy, HYe.out]
              have : (l.take i).contains (l[j]'(by omega)) = true := by
                rw [List.contains_iff_mem]
                refine List.mem_iff_getElem.2 ⟨j, by simp; omega, by simp⟩
              rw [this]; simp
            clear hxy
            go_upto_region 7 with fail
            go_quiet (fail)
            go_wp2_with fail
            go_ret
            exact ⟨by rw [HF.out]; rfl, below_drewN HB2.out _⟩
          · have hq : (x == y) = false := by simpa using hxy
            have HN2 : Hid (∀ m (hm : m < j + 1) (hm2 : m < l.length), l[m] ≠ l[i]) := by
              intro m hm hm2
              by_cases e : m = j
              · subst e; rw [← HYe.out, ← HXe.out]; exact fun h => hxy h.symm
              · exact HN.out m (by omega) hm2
            clear hxy
            go_upto_region 7 with fail
            go_quiet (fail)
            go_wp2_with fail
            exact ⟨⟨j + 1, by omega, by go_num, HN2, below_drewN HB2.out _⟩, by simp [intOf]; omega⟩
        · have HT2 : Hid (twTo l (i + 1) = false) := by
            show _ = _
            rw [twTo_snoc, HT.out, getD_at l i hlt, contains_no]
            · rfl
            · intro m hm
              rw [List.getElem_take]
              exact HN.out m (by simp at hm; omega) (by simp at hm; omega)
          go_wp2_with fail
          exact ⟨⟨i + 1, by omega, by go_num, HT2, HB2⟩, by simp [intOf]; omega⟩
    · have HF : Hid (B = false) := by
        show _ = _
        rw [HBe.out]
        have : i = l.length := by omega
        rw [← this]; exact HT.out
      go_wp2_with fail
      go_ret
      exact ⟨by rw [HF.out]; rfl, HB.out⟩
set_option maxRecDepth 100000 in
set_option maxHeartbeats 6400000 in
theorem formed_in (k n : Int) (names : List Bs) (kids : List Ty) (w : World) (S : Nat → Prop) (nv kv : Value) (hR : Rd w S (.mk k n names kids) nv kv) (hsz : names.length + kids.length ≤ 1000000)
    (hih : ∀ T ∈ kids, ∀ (w : World) (nv kv : Value), Rd w S T nv kv → Calls Tryz.prog 44 #[tyV T.kind T.num nv kv] w fun e w' => e = .returned (.bool T.formed) ∧ Below w.heap.size w w') :
    Calls Tryz.prog 44 #[tyV k n nv kv] w fun e w' => e = .returned (.bool (Ty.mk k n names kids).formed) ∧ Below w.heap.size w w' := by
  have HIH := hid hih
  obtain ⟨R, hRe⟩ : ∃ R, R = (Ty.mk k n names kids).formed := ⟨_, rfl⟩
  have HRe : Hid (R = (nodeB k n names kids.length && formedL kids)) := by show _ = _; rw [hRe, Ty.formed]
  rw [← hRe]
  clear hRe
  have HRd : Hid (Rd w S (.mk k n names kids) nv kv) := hR
  obtain ⟨⟨an, cn, rfl, hnl, hz1, hz2⟩, hkl, ak, ck, rfl, hz3⟩ := hR.kid
  clear hz1 hz2 hz3
  unfold maxLen at hnl hkl
  have HX : Hid ((w.alloc (.cells #[i64 k, i64 n, .slice an names.length cn, .slice ak kids.length ck] 35)).heap[w.heap.size]? = some (.cells #[i64 k, i64 n, .slice an names.length cn, .slice ak kids.length ck] 35)) := heap_last w _
  have HBV : Hid (Below w.heap.size w (w.alloc (.cells #[i64 k, i64 n, .slice an names.length cn, .slice ak kids.length ck] 35))) := below_one w _
  clear hR hih
  go_enter Tryz.func44, Tryz.ntmps44
  go_upto_region 1 with fail
  obtain ⟨Z, hZ⟩ : ∃ Z, Z = w.heap.size := ⟨_, rfl⟩
  rw [← hZ] at HX ⊢
  generalize w.alloc (.cells #[i64 k, i64 n, .slice an names.length cn, .slice ak kids.length ck] 35) = V at *
  have y0 : V.cell? ⟨Z, 0, none⟩ = some (i64 k) := blk_cell HX.out 0
  have y1 : V.cell? ⟨Z, 1, none⟩ = some (i64 n) := blk_cell HX.out 1
  have y2 : V.cell? ⟨Z, 2, none⟩ = some (.slice an names.length cn) := blk_cell HX.out 2
  have y3 : V.cell? ⟨Z, 3, none⟩ = some (.slice ak kids.length ck) := blk_cell HX.out 3
  have hZV : Z < V.heap.size := blk_lt HX.out
  have HZ := hid hZ
  clear hZ
  go_wp2_with fail
  go_loopw [12] (fun u wr => ∃ (i : Nat), i ≤ kids.length ∧ u = i64 i ∧ Hid (formedL (kids.take i) = true) ∧ Hid (wr.heap[Z]? = some (.cells #[i64 k, i64 n, .slice an names.length cn, .slice ak kids.length ck] 35)) ∧ Hid (Below w.heap.size w wr)) (fun u _ => kids.length - (intOf u).toNat)
  case atStart => exact ⟨0, by omega, rfl, by show _ = _; simp [formedL], HX, HBV⟩
  case round =>
    obtain ⟨i, hi, rfl, HM, HX0, HB⟩ := hrel
    by_cases hlt : i < kids.length
    · clear y0 y1 y2 y3 hZV
      obtain ⟨_, _, ak1, ck1, he, hkid⟩ := (HRd.out.under HB.out).kid
      cases he
      obtain ⟨b, off, nv2, kv2, rfl, hbS, hblt, hr, hrd⟩ := hkid i hlt
      obtain ⟨T, hT⟩ : ∃ T, T = kids[i] := ⟨_, rfl⟩
      rw [← hT] at hr hrd
      have HTm : Hid (T ∈ kids) := by show _; rw [hT]; exact List.getElem_mem hlt
      have HTe : Hid (T = kids[i]) := hT
      have c0 : wr.cell? ⟨b, off + i * 4, none⟩ = some (i64 T.kind) := hr 0 _ rfl
      have c1 : wr.cell? ⟨b, off + i * 4 + 1, none⟩ = some (i64 T.num) := hr 1 _ rfl
      have c2 : wr.cell? ⟨b, off + i * 4 + 2, none⟩ = some nv2 := hr 2 _ rfl
      have c3 : wr.cell? ⟨b, off + i * 4 + 3, none⟩ = some kv2 := hr 3 _ rfl
      obtain ⟨an2, cn2, rfl, ak2, ck2, rfl⟩ := hrd.form
      have HX2 : Hid ((wr.alloc (.cells #[i64 T.kind, i64 T.num, .slice an2 T.names.length cn2, .slice ak2 T.kids.length ck2] 35)).heap[wr.heap.size]? = some (.cells #[i64 T.kind, i64 T.num, .slice an2 T.names.length cn2, .slice ak2 T.kids.length ck2] 35)) := heap_last wr _
      have HBX : Hid (Below wr.heap.size wr (wr.alloc (.cells #[i64 T.kind, i64 T.num, .slice an2 T.names.length cn2, .slice ak2 T.kids.length ck2] 35))) := below_one wr _
      have HRT : Hid (Rd (wr.alloc (.cells #[i64 T.kind, i64 T.num, .slice an2 T.names.length cn2, .slice ak2 T.kids.length ck2] 35)) _ T (.slice an2 T.names.length cn2) (.slice ak2 T.kids.length ck2)) := hrd.under HBX.out
      clear hT hr hrd hkid hbS
      go_upto_region 4 with fail
      obtain ⟨Y, hY⟩ : ∃ Y, Y = wr.heap.size := ⟨_, rfl⟩
      rw [← hY] at HX2 ⊢
      generalize wr.alloc (.cells #[i64 T.kind, i64 T.num, .slice an2 T.names.length cn2, .slice ak2 T.kids.length ck2] 35) = X at *
      have z0 : X.cell? ⟨Y, 0, none⟩ = some (i64 T.kind) := blk_cell HX2.out 0
      have z1 : X.cell? ⟨Y, 1, none⟩ = some (i64 T.num) := blk_cell HX2.out 1
      have z2 : X.cell? ⟨Y, 2, none⟩ = some (.slice an2 T.names.length cn2) := blk_cell HX2.out 2
      have z3 : X.cell? ⟨Y, 3, none⟩ = some (.slice ak2 T.kids.length ck2) := blk_cell HX2.out 3
      have hYX : Y < X.heap.size := blk_lt HX2.out
      have HY := hid hY
      clear c0 c1 c2 c3 hY
      go_wp2_with fail
      refine (HIH.out T HTm.out X _ _ HRT.out).mono ?_
      rintro e w3 ⟨rfl, hb3⟩
      have hbb := HBX.out.trans (hb3.mono HBX.out.size)
      have HB3 : Hid (Below w.heap.size w w3) := HB.out.trans (hbb.mono HB.out.size)
      have HX3 := hid (blk_below HX0.out hbb)
      have htc : formedL (kids.take (i + 1)) = (formedL (kids.take i) && T.formed) := by rw [HTe.out]; exact take_formedL kids i hlt
      have HTc := hid htc
      generalize hE : T.formed = E at *
      have HE := hid hE
      clear htc hb3 hbb hE
      cases E with
      | false =>
        have HF : Hid (R = false) := by
          show _ = _
          rw [HRe.out]
          cases hf : formedL kids with
          | false => simp
          | true => have := formedL_mem hf HTm.out; rw [HE.out] at this; cases this
        go_wp2_with fail
        go_ret
        exact ⟨by rw [HF.out]; rfl, HB3.out⟩
      | true =>
        have HM2 : Hid (formedL (kids.take (i + 1)) = true) := by show _ = _; rw [HTc.out, HM.out]; rfl
        go_wp2_with fail
        exact ⟨⟨i + 1, by omega, by go_num, HM2, HX3, HB3⟩, by simp [intOf]; omega⟩
    · have HFL : Hid (formedL kids = true) := by
        show _ = _
        have := HM.out
        rw [List.take_of_length_le (by omega)] at this
        exact this
      clear y0 y1 y2 y3 hZV HM
      have y0 : wr.cell? ⟨Z, 0, none⟩ = some (i64 k) := blk_cell HX0.out 0
      have y1 : wr.cell? ⟨Z, 1, none⟩ = some (i64 n) := blk_cell HX0.out 1
      have y2 : wr.cell? ⟨Z, 2, none⟩ = some (.slice an names.length cn) := blk_cell HX0.out 2
      have y3 : wr.cell? ⟨Z, 3, none⟩ = some (.slice ak kids.length ck) := blk_cell HX0.out 3
      go_wp2_with fail
      generalize hW : wr = W at *
      clear hW
      go_loopw [23] (fun u wr => ∃ (j : Nat), j ≤ names.length ∧ u = i64 j ∧ Hid (∀ a ∈ names.take j, nameB a = true) ∧ Hid (wr.heap[Z]? = some (.cells #[i64 k, i64 n, .slice an names.length cn, .slice ak kids.length ck] 35)) ∧ Hid (Below w.heap.size w wr)) (fun u _ => names.length - (intOf u).toNat)
      case atStart => exact ⟨0, by omega, rfl, by intro a ha; simp at ha, HX0, HB⟩
      case round =>
        obtain ⟨j, hj, rfl, HN, HX1, HB1⟩ := hrel
        by_cases hlj : j < names.length
        · obtain ⟨hs, _⟩ := (HRd.out.under HB1.out).kid
          have hs' := hs
          obtain ⟨_, _, _, _, hsz2, _⟩ := hs'
          obtain ⟨ao', cap', he, hat⟩ := hs.at
          cases he
          obtain ⟨b, off, rfl, hblt, cJ⟩ := hat j hlj
          obtain ⟨x, hx⟩ : ∃ x, x = names[j] := ⟨_, rfl⟩
          have hxs : x.length ≤ maxLen := by rw [hx]; exact hsz2.2 _ (List.getElem_mem hlj)
          have HNM : Hid (Calls Tryz.prog 66 #[str x] wr fun e w' => e = .returned (.bool (nameB x)) ∧ w' = wr) := rname_ok x wr hxs
          rw [← hx] at cJ
          have HXe := hid hx
          clear hx hat hs hsz2 hxs y0 y1 y2 y3
          go_wp2_with fail
          refine HNM.out.mono ?_
          rintro e v1 ⟨rfl, hv⟩
          replace hv := hv.symm
          subst hv
          generalize hE : nameB x = E at *
          have HE := hid hE
          clear hE
          cases E with
          | false =>
            have HF : Hid (R = false) := by
              show _ = _
              rw [HRe.out, nodeB_no (List.getElem_mem hlj) (by rw [← HXe.out]; exact HE.out)]; rfl
            go_wp2_with fail
            go_ret
            exact ⟨by rw [HF.out]; rfl, HB1.out⟩
          | true =>
            have HN2 : Hid (∀ a ∈ names.take (j + 1), nameB a = true) := by
              intro a ha
              rw [List.take_succ_eq_append_getElem hlj] at ha
              rcases List.mem_append.1 ha with ha | ha
              · exact HN.out a ha
              · rw [List.mem_singleton.1 ha, ← HXe.out]; exact HE.out
            go_wp2_with fail
            exact ⟨⟨j + 1, by omega, by go_num, HN2, HX1, HB1⟩, by simp [intOf]; omega⟩
        · have HR2 : Hid (R = kindB k n names.length kids.length (twTo names names.length)) := by
            show _ = _
            rw [HRe.out, HFL.out, Bool.and_true]
            refine nodeB_kind (fun a ha => ?_)
            have := HN.out a
            rw [List.take_of_length_le (by omega)] at this
            exact this ha
          have HTW : Hid (Calls Tryz.prog 67 #[.slice an names.length cn] wr fun e w' => e = .returned (.bool (twTo names names.length)) ∧ Below wr.heap.size wr w') := twice_ok names wr S _ (HRd.out.under HB1.out).kid.1
          clear y0 y1 y2 y3
          have y0 : wr.cell? ⟨Z, 0, none⟩ = some (i64 k) := blk_cell HX1.out 0
          have y1 : wr.cell? ⟨Z, 1, none⟩ = some (i64 n) := blk_cell HX1.out 1
          have y2 : wr.cell? ⟨Z, 2, none⟩ = some (.slice an names.length cn) := blk_cell HX1.out 2
          have y3 : wr.cell? ⟨Z, 3, none⟩ = some (.slice ak kids.length ck) := blk_cell HX1.out 3
          generalize hNl : names.length = NL at *
          generalize hKl : kids.length = KL at *
          generalize twTo names NL = TW at *
          clear hNl hKl HRd HIH HN HFL HRe
          by_cases k1 : k = 1
          · subst k1
            by_cases a1 : NL + KL = 0
            · have a1I : (NL : Int) + KL = 0 := by omega
              by_cases b8 : n = 8
              · subst b8
                have HV : Hid (R = true) := by show _ = _; rw [HR2.out]; unfold kindB; simp [a1]
                clear HR2
                go_wp2_with fail
                go_ret
                exact ⟨by rw [HV.out]; rfl, HB1.out⟩
              by_cases b16 : n = 16
              · subst b16
                have HV : Hid (R = true) := by show _ = _; rw [HR2.out]; unfold kindB; simp [a1]
                clear HR2
                go_wp2_with fail
                go_ret
                exact ⟨by rw [HV.out]; rfl, HB1.out⟩
              by_cases b32 : n = 32
              · subst b32
                have HV : Hid (R = true) := by show _ = _; rw [HR2.out]; unfold kindB; simp [a1]
                clear HR2
                go_wp2_with fail
                go_ret
                exact ⟨by rw [HV.out]; rfl, HB1.out⟩
              have e8 : (n == 8) = false := by simpa using b8
              have e16 : (n == 16) = false := by simpa using b16
              have e32 : (n == 32) = false := by simpa using b32
              have HV : Hid (R = false) := by show _ = _; rw [HR2.out]; unfold kindB; simp [b8, b16, b32]
              clear HR2
              go_wp2_with fail
              go_ret
              exact ⟨by rw [HV.out]; rfl, HB1.out⟩
            · have a1I : ¬ (NL : Int) + KL = 0 := by omega
              have HV : Hid (R = false) := by show _ = _; rw [HR2.out]; unfold kindB; rw [if_pos rfl, decide_eq_false a1]; rfl
              clear HR2
              go_wp2_with fail
              go_ret
              exact ⟨by rw [HV.out]; rfl, HB1.out⟩
          by_cases k2 : k = 2
          · subst k2
            by_cases a1 : NL + KL = 0
            · have a1I : (NL : Int) + KL = 0 := by omega
              by_cases b1 : 0 ≤ n
              · by_cases b2 : n < 256
                · have c1 : decide (0 ≤ n) = true := by simpa using b1
                  have HV : Hid (R = true) := by show _ = _; rw [HR2.out]; unfold kindB; simp [a1, b1, b2]
                  clear HR2
                  go_wp2_with fail
                  go_ret
                  exact ⟨by rw [HV.out]; rfl, HB1.out⟩
                · have c1 : decide (n < 256) = false := by simpa using b2
                  have HV : Hid (R = false) := by show _ = _; rw [HR2.out]; unfold kindB; simp [c1]
                  clear HR2
                  go_wp2_with fail
                  go_ret
                  exact ⟨by rw [HV.out]; rfl, HB1.out⟩
              · have c1 : decide (0 ≤ n) = false := by simpa using b1
                have HV : Hid (R = false) := by show _ = _; rw [HR2.out]; unfold kindB; simp [c1]
                clear HR2
                go_wp2_with fail
                go_ret
                exact ⟨by rw [HV.out]; rfl, HB1.out⟩
            · have a1I : ¬ (NL : Int) + KL = 0 := by omega
              have HV : Hid (R = false) := by show _ = _; rw [HR2.out]; unfold kindB; rw [if_neg (by decide), if_pos rfl, decide_eq_false a1]; rfl
              clear HR2
              go_wp2_with fail
              go_ret
              exact ⟨by rw [HV.out]; rfl, HB1.out⟩
          by_cases k3 : k = 3
          · subst k3
            by_cases a1 : NL = 0
            · by_cases a2 : KL = 1
              · subst a1 a2
                by_cases b1 : 0 ≤ n
                · by_cases b2 : n < 97
                  · have c1 : decide (0 ≤ n) = true := by simpa using b1
                    have HV : Hid (R = true) := by show _ = _; rw [HR2.out]; unfold kindB; simp [b1, b2]
                    clear HR2
                    go_wp2_with fail
                    go_ret
                    exact ⟨by rw [HV.out]; rfl, HB1.out⟩
                  · have c1 : decide (n < 97) = false := by simpa using b2
                    have HV : Hid (R = false) := by show _ = _; rw [HR2.out]; unfold kindB; simp [c1]
                    clear HR2
                    go_wp2_with fail
                    go_ret
                    exact ⟨by rw [HV.out]; rfl, HB1.out⟩
                · have c1 : decide (0 ≤ n) = false := by simpa using b1
                  have HV : Hid (R = false) := by show _ = _; rw [HR2.out]; unfold kindB; simp [c1]
                  clear HR2
                  go_wp2_with fail
                  go_ret
                  exact ⟨by rw [HV.out]; rfl, HB1.out⟩
              · have a2I : ¬ (KL : Int) = 1 := by omega
                have HV : Hid (R = false) := by show _ = _; rw [HR2.out]; unfold kindB; simp [a2]
                clear HR2
                go_wp2_with fail
                go_ret
                exact ⟨by rw [HV.out]; rfl, HB1.out⟩
            · have a1I : ¬ (NL : Int) = 0 := by omega
              have HV : Hid (R = false) := by show _ = _; rw [HR2.out]; unfold kindB; simp [a1]
              clear HR2
              go_wp2_with fail
              go_ret
              exact ⟨by rw [HV.out]; rfl, HB1.out⟩
          by_cases k4 : k = 4
          · subst k4
            by_cases b1 : n = 0
            · subst b1
              by_cases a1 : 0 < KL
              · by_cases a2 : KL < 13
                · by_cases a3 : NL = KL
                  · subst a3
                    cases TW with
                    | false =>
                      have HV : Hid (R = true) := by show _ = _; rw [HR2.out]; unfold kindB; simp [a1, a2]
                      clear HR2
                      go_wp2_with fail
                      refine HTW.out.mono ?_
                      rintro e w9 ⟨rfl, hb9⟩
                      have HB9 : Hid (Below w.heap.size w w9) := HB1.out.trans (hb9.mono HB1.out.size)
                      clear hb9
                      go_wp2_with fail
                      go_ret
                      exact ⟨by rw [HV.out]; rfl, HB9.out⟩
                    | true =>
                      have HV : Hid (R = false) := by show _ = _; rw [HR2.out]; unfold kindB; simp
                      clear HR2
                      go_wp2_with fail
                      refine HTW.out.mono ?_
                      rintro e w9 ⟨rfl, hb9⟩
                      have HB9 : Hid (Below w.heap.size w w9) := HB1.out.trans (hb9.mono HB1.out.size)
                      clear hb9
                      go_wp2_with fail
                      go_ret
                      exact ⟨by rw [HV.out]; rfl, HB9.out⟩
                  · have a3I : ¬ (NL : Int) = KL := by omega
                    have HV : Hid (R = false) := by show _ = _; rw [HR2.out]; unfold kindB; simp [a3]
                    clear HR2
                    go_wp2_with fail
                    go_ret
                    exact ⟨by rw [HV.out]; rfl, HB1.out⟩
                · have a2I : ¬ (KL : Int) < 13 := by omega
                  have HV : Hid (R = false) := by show _ = _; rw [HR2.out]; unfold kindB; simp [a2]
                  clear HR2
                  go_wp2_with fail
                  go_ret
                  exact ⟨by rw [HV.out]; rfl, HB1.out⟩
              · have a1I : ¬ 0 < (KL : Int) := by omega
                have HV : Hid (R = false) := by show _ = _; rw [HR2.out]; unfold kindB; simp [a1]
                clear HR2
                go_wp2_with fail
                go_ret
                exact ⟨by rw [HV.out]; rfl, HB1.out⟩
            · have HV : Hid (R = false) := by show _ = _; rw [HR2.out]; unfold kindB; simp [b1]
              clear HR2
              go_wp2_with fail
              go_ret
              exact ⟨by rw [HV.out]; rfl, HB1.out⟩
          have HV : Hid (R = false) := by show _ = _; rw [HR2.out]; unfold kindB; simp [k1, k2, k3, k4]
          clear HR2
          go_wp2_with fail
          go_ret
          exact ⟨by rw [HV.out]; rfl, HB1.out⟩
theorem formed_ok : ∀ (M : Nat) (T : Ty), T.count ≤ M → T.small = true → ∀ (w : World) (S : Nat → Prop) (nv kv : Value), Rd w S T nv kv → Calls Tryz.prog 44 #[tyV T.kind T.num nv kv] w fun e w' => e = .returned (.bool T.formed) ∧ Below w.heap.size w w'
  | 0, T, hM, _, _, _, _, _, _ => by have := count_pos T; omega
  | M + 1, .mk k n names kids, hM, hC, w, S, nv, kv, hR => by
    simp only [Ty.count] at hM
    simp only [Ty.small, Bool.and_eq_true, decide_eq_true_eq] at hC
    exact formed_in k n names kids w S nv kv hR hC.1 (fun T hT w nv kv hR => formed_ok M T (by have := countL_mem hT; omega) (smallL_mem hC.2 hT) w S nv kv hR)
end Go.Proofs.YtihbbgcpdgnhoaaGreatDoor
namespace Go.Proofs.YtihbbgcpdgnhoaaGreatDoor
open Go.ChangeShapes Go.WideShapes Go.ChangeAt Go.RowKit Go.Deep
attribute [local go_sem ↓] Go.wp_at_zero Go.wp_at_succ

set_option maxRecDepth 100000 in
set_option maxHeartbeats 3200000 in
theorem rcheck_ok (T : Ty) (w : World) (S : Nat → Prop) (nv kv : Value) (hR : Rd w S T nv kv) (hC : T.count ≤ 100000) (hS : T.small = true) : Calls Tryz.prog 26 #[tyV T.kind T.num nv kv] w fun e w' => e = .returned (i64 T.err) ∧ Below w.heap.size w w' := by
  obtain ⟨E0, hE0⟩ : ∃ E0, E0 = T.err := ⟨_, rfl⟩
  have HE0 : Hid (E0 = if T.depth ≤ 6 ∧ T.count ≤ 100 then (if T.formed = true then 0 else 4) else 2) := hE0
  rw [← hE0]
  clear hE0
  have HDp : Hid (∀ W, Below w.heap.size w W → Calls Tryz.prog 42 #[tyV T.kind T.num nv kv] W fun e w' => e = .returned (i64 (T.depth : Nat)) ∧ Below W.heap.size W w') := fun W hW => depth_ok T.count T (Nat.le_refl _) (by omega) W S nv kv (hR.under hW)
  have HCt : Hid (∀ W, Below w.heap.size w W → Calls Tryz.prog 43 #[tyV T.kind T.num nv kv] W fun e w' => e = .returned (i64 (T.count : Nat)) ∧ Below W.heap.size W w') := fun W hW => count_ok T.count T (Nat.le_refl _) (by omega) W S nv kv (hR.under hW)
  have HFm : Hid (∀ W, Below w.heap.size w W → Calls Tryz.prog 44 #[tyV T.kind T.num nv kv] W fun e w' => e = .returned (.bool T.formed) ∧ Below W.heap.size W w') := fun W hW => formed_ok T.count T (Nat.le_refl _) hS W S nv kv (hR.under hW)
  have hdl := depth_le T
  obtain ⟨an, cn, rfl, ak, ck, rfl⟩ := hR.form
  have HX : Hid ((w.alloc (.cells #[i64 T.kind, i64 T.num, .slice an T.names.length cn, .slice ak T.kids.length ck] 35)).heap[w.heap.size]? = some (.cells #[i64 T.kind, i64 T.num, .slice an T.names.length cn, .slice ak T.kids.length ck] 35)) := heap_last w _
  have HBV : Hid (Below w.heap.size w (w.alloc (.cells #[i64 T.kind, i64 T.num, .slice an T.names.length cn, .slice ak T.kids.length ck] 35))) := below_one w _
  clear hR hS
  generalize T.depth = DP at *
  generalize T.count = CT at *
  generalize T.formed = FM at *
  go_enter Tryz.func26, Tryz.ntmps26
  go_upto_region 1 with fail
  obtain ⟨Z, hZ⟩ : ∃ Z, Z = w.heap.size := ⟨_, rfl⟩
  rw [← hZ] at HX ⊢
  clear hZ
  generalize w.alloc (.cells #[i64 T.kind, i64 T.num, .slice an T.names.length cn, .slice ak T.kids.length ck] 35) = V at *
  have yc0 : V.cell? ⟨Z, 0, none⟩ = some (i64 T.kind) := blk_cell HX.out 0
  have yc1 : V.cell? ⟨Z, 1, none⟩ = some (i64 T.num) := blk_cell HX.out 1
  have yc2 : V.cell? ⟨Z, 2, none⟩ = some (.slice an T.names.length cn) := blk_cell HX.out 2
  have yc3 : V.cell? ⟨Z, 3, none⟩ = some (.slice ak T.kids.length ck) := blk_cell HX.out 3
  have HC1 := hid (HDp.out V HBV.out)
  go_wp2_with fail
  refine HC1.out.mono ?_
  rintro e w1 ⟨rfl, hb1⟩
  have HB1 : Hid (Below w.heap.size w w1) := HBV.out.trans (hb1.mono HBV.out.size)
  have HX1 := hid (blk_below HX.out hb1)
  clear hb1 yc0 yc1 yc2 yc3
  have yc0 : w1.cell? ⟨Z, 0, none⟩ = some (i64 T.kind) := blk_cell HX1.out 0
  have yc1 : w1.cell? ⟨Z, 1, none⟩ = some (i64 T.num) := blk_cell HX1.out 1
  have yc2 : w1.cell? ⟨Z, 2, none⟩ = some (.slice an T.names.length cn) := blk_cell HX1.out 2
  have yc3 : w1.cell? ⟨Z, 3, none⟩ = some (.slice ak T.kids.length ck) := blk_cell HX1.out 3
  by_cases h6 : 6 < DP
  · have HF : Hid (E0 = 2) := by show _ = _; rw [HE0.out, if_neg (by omega)]
    have h6I : (6 : Int) < DP := by omega
    go_wp2_with fail
    go_ret
    exact ⟨by rw [HF.out]; rfl, HB1.out⟩
  · have h6I : decide ((6 : Int) < DP) = false := by simp; omega
    have HC2 := hid (HCt.out w1 HB1.out)
    go_wp2_with fail
    refine HC2.out.mono ?_
    rintro e w2 ⟨rfl, hb2⟩
    have HB2 : Hid (Below w.heap.size w w2) := HB1.out.trans (hb2.mono HB1.out.size)
    have HX2 := hid (blk_below HX1.out hb2)
    clear hb2 yc0 yc1 yc2 yc3
    have yc0 : w2.cell? ⟨Z, 0, none⟩ = some (i64 T.kind) := blk_cell HX2.out 0
    have yc1 : w2.cell? ⟨Z, 1, none⟩ = some (i64 T.num) := blk_cell HX2.out 1
    have yc2 : w2.cell? ⟨Z, 2, none⟩ = some (.slice an T.names.length cn) := blk_cell HX2.out 2
    have yc3 : w2.cell? ⟨Z, 3, none⟩ = some (.slice ak T.kids.length ck) := blk_cell HX2.out 3
    by_cases h7 : 100 < CT
    · have HF : Hid (E0 = 2) := by show _ = _; rw [HE0.out, if_neg (by omega)]
      have h7I : (100 : Int) < CT := by omega
      go_wp2_with fail
      go_ret
      exact ⟨by rw [HF.out]; rfl, HB2.out⟩
    · have HF : Hid (E0 = if FM = true then 0 else 4) := by show _ = _; rw [HE0.out, if_pos (by omega)]
      have h7I : decide ((100 : Int) < CT) = false := by simp; omega
      have HC3 := hid (HFm.out w2 HB2.out)
      clear HE0
      go_wp2_with fail
      refine HC3.out.mono ?_
      rintro e w3 ⟨rfl, hb3⟩
      have HB3 : Hid (Below w.heap.size w w3) := HB2.out.trans (hb3.mono HB2.out.size)
      clear hb3 yc0 yc1 yc2 yc3
      cases FM with
      | true =>
        go_wp2_with fail
        go_ret
        exact ⟨by rw [HF.out]; rfl, HB3.out⟩
      | false =>
        go_wp2_with fail
        go_ret
        exact ⟨by rw [HF.out]; rfl, HB3.out⟩
end Go.Proofs.YtihbbgcpdgnhoaaGreatDoor
namespace Go.Proofs.YtihbbgcpdgnhoaaGreatDoor
open Go.ChangeShapes Go.WideShapes Go.ChangeAt Go.RowKit Go.Deep
attribute [local go_sem ↓] Go.wp_at_zero Go.wp_at_succ

set_option maxRecDepth 100000 in
set_option maxHeartbeats 3200000 in
theorem power_ok (n : Nat) (w : World) (hn : n ≤ 40) : Calls Tryz.prog 68 #[i64 n] w fun e w' => e = .returned (i64 (2 ^ n)) ∧ w' = w := by
  obtain ⟨R, hR⟩ : ∃ R : Int, R = 2 ^ n := ⟨_, rfl⟩
  rw [← hR]
  have HR := hid hR
  clear hR
  go_enter Tryz.func68, Tryz.ntmps68
  go_wp2_with fail
  go_loop [3, 4] (fun p u => ∃ (i : Nat) (q : Int), i ≤ n ∧ u = i64 i ∧ p = i64 q ∧ 0 ≤ q ∧ q ≤ 1099511627776 ∧ Hid (q = 2 ^ i)) (fun _ u => n - (intOf u).toNat)
  case atStart => exact ⟨0, 1, Nat.zero_le _, rfl, rfl, by omega, by omega, by show _ = _; simp⟩
  case round =>
    obtain ⟨i, q, hi, rfl, rfl, hq0, hq1, HQ⟩ := hrel
    by_cases hlt : i < n
    · have HQ2 : Hid (2 * q = 2 ^ (i + 1)) := by show _ = _; rw [HQ.out, Int.pow_succ]; omega
      have hq2 : 2 * q ≤ 1099511627776 := by
        rw [HQ2.out]
        have h1 : (2 : Nat) ^ (i + 1) ≤ 2 ^ 40 := Nat.pow_le_pow_right (by omega) (by omega)
        have h2 : ((2 ^ (i + 1) : Nat) : Int) ≤ ((2 ^ 40 : Nat) : Int) := Int.ofNat_le.2 h1
        have h3 : ((2 ^ (i + 1) : Nat) : Int) = (2 : Int) ^ (i + 1) := by simp
        rw [h3] at h2
        have h4 : ((2 ^ 40 : Nat) : Int) = 1099511627776 := by decide
        rw [h4] at h2
        exact h2
      go_wp2_with fail
      go_round
      case rel => exact ⟨i + 1, 2 * q, by omega, by go_num, rfl, by omega, hq2, HQ2⟩
      case measure => simp [intOf]; omega
    · have he : i = n := by omega
      have HF : Hid (R = q) := by show _ = _; rw [HR.out, HQ.out, he]
      clear he
      go_wp2_with fail
      go_ret
      exact ⟨by rw [HF.out]; rfl, rfl⟩
set_option maxRecDepth 100000 in
set_option maxHeartbeats 12800000 in
theorem al_in (k n : Int) (s : Bs) (ak : Option Addr) (m ck : Nat) (tk tn : Int) (an : Option Addr) (nn cn : Nat) (at_ : Option Addr) (tm ct : Nat) (w : World) (hs : s.length ≤ maxLen) (hm : m ≤ maxLen) (htm : tm ≤ maxLen) (htn : tk = 1 → tn = 8 ∨ tn = 16 ∨ tn = 32) (hkd : tk = 1 ∨ tk = 2 ∨ tk = 3 ∨ tk = 4) :
    Calls Tryz.prog 45 #[.agg #[i64 k, i64 n, str s, .slice ak m ck], .agg #[i64 tk, i64 tn, .slice an nn cn, .slice at_ tm ct]] w fun e w' => e = .returned (.bool (alB k n s m tk tn tm)) ∧ Below w.heap.size w w' := by
  obtain ⟨R, hRe⟩ : ∃ R, R = alB k n s m tk tn tm := ⟨_, rfl⟩
  have HRe := hid hRe
  rw [← hRe]
  clear hRe
  unfold maxLen at hs hm htm
  have hbl := bz s
  have HX : Hid (((w.alloc (.cells #[i64 k, i64 n, str s, .slice ak m ck] 38)).alloc (.cells #[i64 tk, i64 tn, .slice an nn cn, .slice at_ tm ct] 35)).heap[w.heap.size]? = some (.cells #[i64 k, i64 n, str s, .slice ak m ck] 38)) := blk_alloc (heap_last w _) _
  have HY : Hid (((w.alloc (.cells #[i64 k, i64 n, str s, .slice ak m ck] 38)).alloc (.cells #[i64 tk, i64 tn, .slice an nn cn, .slice at_ tm ct] 35)).heap[w.heap.size + 1]? = some (.cells #[i64 tk, i64 tn, .slice an nn cn, .slice at_ tm ct] 35)) := heap_at3 _ _ _ (by simp)
  have HBV : Hid (Below w.heap.size w ((w.alloc (.cells #[i64 k, i64 n, str s, .slice ak m ck] 38)).alloc (.cells #[i64 tk, i64 tn, .slice an nn cn, .slice at_ tm ct] 35))) := (below_one w _).trans ((below_one _ _).mono (by simp))
  go_enter Tryz.func45, Tryz.ntmps45
  go_upto_region 1 with fail
  generalize (w.alloc (.cells #[i64 k, i64 n, str s, .slice ak m ck] 38)).alloc (.cells #[i64 tk, i64 tn, .slice an nn cn, .slice at_ tm ct] 35) = V0 at *
  obtain ⟨Z, hZ⟩ : ∃ Z, Z = w.heap.size := ⟨_, rfl⟩
  obtain ⟨Y, hY⟩ : ∃ Y, Y = w.heap.size + 1 := ⟨_, rfl⟩
  rw [← hZ] at HX
  rw [← hY] at HY
  rw [← hY, ← hZ]
  clear hZ hY
  unfold alB at HRe
  have zc0 : V0.cell? ⟨Z, 0, none⟩ = some (i64 k) := blk_cell HX.out 0
  have zc1 : V0.cell? ⟨Z, 1, none⟩ = some (i64 n) := blk_cell HX.out 1
  have zc2 : V0.cell? ⟨Z, 2, none⟩ = some (str s) := blk_cell HX.out 2
  have zc3 : V0.cell? ⟨Z, 3, none⟩ = some (.slice ak m ck) := blk_cell HX.out 3
  have yc0 : V0.cell? ⟨Y, 0, none⟩ = some (i64 tk) := blk_cell HY.out 0
  have yc1 : V0.cell? ⟨Y, 1, none⟩ = some (i64 tn) := blk_cell HY.out 1
  have yc2 : V0.cell? ⟨Y, 2, none⟩ = some (.slice an nn cn) := blk_cell HY.out 2
  have yc3 : V0.cell? ⟨Y, 3, none⟩ = some (.slice at_ tm ct) := blk_cell HY.out 3
  by_cases kt : k = tk
  · subst kt
    rcases hkd with rfl | rfl | rfl | rfl
    · by_cases s0 : s = []
      · subst s0
        have hsl : ([] : Bs).length = 0 := rfl
        by_cases m0 : m = 0
        · subst m0
          by_cases n0 : 0 ≤ n
          · rcases htn rfl with rfl | rfl | rfl
            · by_cases np : n < 256
              · have HP : Hid (n < 2 ^ (8 : Int).toNat) := by show _ < _; exact np
                have hpw : (2 : Int) ^ 8 = 256 := by decide
                have HV : Hid (R = true) := by show _ = _; rw [HRe.out]; simp [n0] <;> first | omega | exact HP.out
                clear HRe
                go_upto_region 6 with fail
                go_quiet ((go_at_call 68; exact Calls.quiet_of_same (power_ok 8 _ (by omega))))
                go_wp2_with fail
                go_ret
                exact ⟨by rw [HV.out]; rfl, below_drewN HBV.out _⟩
              · have HP : Hid (¬ n < 2 ^ (8 : Int).toNat) := by show ¬ _ < _; exact np
                have npI : decide (n < 256) = false := by simpa using np
                have hpw : (2 : Int) ^ 8 = 256 := by decide
                have HV : Hid (R = false) := by show _ = _; rw [HRe.out]; simp [n0] <;> first | omega | (intro h; exact absurd h HP.out) | exact Int.not_lt.1 HP.out
                clear HRe
                go_upto_region 6 with fail
                go_quiet ((go_at_call 68; exact Calls.quiet_of_same (power_ok 8 _ (by omega))))
                go_wp2_with fail
                go_ret
                exact ⟨by rw [HV.out]; rfl, below_drewN HBV.out _⟩
            · by_cases np : n < 65536
              · have HP : Hid (n < 2 ^ (16 : Int).toNat) := by show _ < _; exact np
                have hpw : (2 : Int) ^ 16 = 65536 := by decide
                have HV : Hid (R = true) := by show _ = _; rw [HRe.out]; simp [n0] <;> first | omega | exact HP.out
                clear HRe
                go_upto_region 6 with fail
                go_quiet ((go_at_call 68; exact Calls.quiet_of_same (power_ok 16 _ (by omega))))
                go_wp2_with fail
                go_ret
                exact ⟨by rw [HV.out]; rfl, below_drewN HBV.out _⟩
              · have HP : Hid (¬ n < 2 ^ (16 : Int).toNat) := by show ¬ _ < _; exact np
                have npI : decide (n < 65536) = false := by simpa using np
                have hpw : (2 : Int) ^ 16 = 65536 := by decide
                have HV : Hid (R = false) := by show _ = _; rw [HRe.out]; simp [n0] <;> first | omega | (intro h; exact absurd h HP.out) | exact Int.not_lt.1 HP.out
                clear HRe
                go_upto_region 6 with fail
                go_quiet ((go_at_call 68; exact Calls.quiet_of_same (power_ok 16 _ (by omega))))
                go_wp2_with fail
                go_ret
                exact ⟨by rw [HV.out]; rfl, below_drewN HBV.out _⟩
            · by_cases np : n < 4294967296
              · have HP : Hid (n < 2 ^ (32 : Int).toNat) := by show _ < _; exact np
                have hpw : (2 : Int) ^ 32 = 4294967296 := by decide
                have HV : Hid (R = true) := by show _ = _; rw [HRe.out]; simp [n0] <;> first | omega | exact HP.out
                clear HRe
                go_upto_region 6 with fail
                go_quiet ((go_at_call 68; exact Calls.quiet_of_same (power_ok 32 _ (by omega))))
                go_wp2_with fail
                go_ret
                exact ⟨by rw [HV.out]; rfl, below_drewN HBV.out _⟩
              · have HP : Hid (¬ n < 2 ^ (32 : Int).toNat) := by show ¬ _ < _; exact np
                have npI : decide (n < 4294967296) = false := by simpa using np
                have hpw : (2 : Int) ^ 32 = 4294967296 := by decide
                have HV : Hid (R = false) := by show _ = _; rw [HRe.out]; simp [n0] <;> first | omega | (intro h; exact absurd h HP.out) | exact Int.not_lt.1 HP.out
                clear HRe
                go_upto_region 6 with fail
                go_quiet ((go_at_call 68; exact Calls.quiet_of_same (power_ok 32 _ (by omega))))
                go_wp2_with fail
                go_ret
                exact ⟨by rw [HV.out]; rfl, below_drewN HBV.out _⟩
          · have n0I : decide (0 ≤ n) = false := by simpa using n0
            have HV : Hid (R = false) := by show _ = _; rw [HRe.out]; simp [n0]
            clear HRe
            go_upto_region 6 with fail
            go_quiet (fail)
            go_wp2_with fail
            go_ret
            exact ⟨by rw [HV.out]; rfl, below_drewN HBV.out _⟩
        · have m0I : ((m : Int) == 0) = false := by simp; omega
          have HV : Hid (R = false) := by show _ = _; rw [HRe.out]; simp [m0]
          clear HRe
          go_upto_region 6 with fail
          go_quiet (fail)
          go_wp2_with fail
          go_ret
          exact ⟨by rw [HV.out]; rfl, below_drewN HBV.out _⟩
      · have s0K : s.isEmpty = false := by simpa using s0
        have HV : Hid (R = false) := by show _ = _; rw [HRe.out]; simp [s0]
        clear HRe
        go_upto_region 6 with fail
        go_quiet (fail)
        go_wp2_with fail
        go_ret
        exact ⟨by rw [HV.out]; rfl, below_drewN HBV.out _⟩
    · by_cases n0 : n = 0
      · subst n0
        by_cases m0 : m = 0
        · subst m0
          by_cases sl : (s.length : Int) ≤ tn
          · have HV : Hid (R = true) := by show _ = _; rw [HRe.out]; simp [sl]
            clear HRe
            go_wp2_with fail
            go_ret
            exact ⟨by rw [HV.out]; rfl, HBV.out⟩
          · have HV : Hid (R = false) := by show _ = _; rw [HRe.out]; simp [sl]
            clear HRe
            go_wp2_with fail
            go_ret
            exact ⟨by rw [HV.out]; rfl, HBV.out⟩
        · have m0I : ((m : Int) == 0) = false := by simp; omega
          have HV : Hid (R = false) := by show _ = _; rw [HRe.out]; simp [m0]
          clear HRe
          go_wp2_with fail
          go_ret
          exact ⟨by rw [HV.out]; rfl, HBV.out⟩
      · have n0I : (n == 0) = false := by simpa using n0
        have HV : Hid (R = false) := by show _ = _; rw [HRe.out]; simp [n0]
        clear HRe
        go_wp2_with fail
        go_ret
        exact ⟨by rw [HV.out]; rfl, HBV.out⟩
    · by_cases n0 : n = 0
      · subst n0
        by_cases s0 : s = []
        · subst s0
          have hsl : ([] : Bs).length = 0 := rfl
          by_cases ml : (m : Int) ≤ tn
          · have HV : Hid (R = true) := by show _ = _; rw [HRe.out]; simp [ml]
            clear HRe
            go_wp2_with fail
            go_ret
            exact ⟨by rw [HV.out]; rfl, HBV.out⟩
          · have HV : Hid (R = false) := by show _ = _; rw [HRe.out]; simp [ml]
            clear HRe
            go_wp2_with fail
            go_ret
            exact ⟨by rw [HV.out]; rfl, HBV.out⟩
        · have s0K : s.isEmpty = false := by simpa using s0
          have HV : Hid (R = false) := by show _ = _; rw [HRe.out]; simp [s0]
          clear HRe
          go_wp2_with fail
          go_ret
          exact ⟨by rw [HV.out]; rfl, HBV.out⟩
      · have n0I : (n == 0) = false := by simpa using n0
        have HV : Hid (R = false) := by show _ = _; rw [HRe.out]; simp [n0]
        clear HRe
        go_wp2_with fail
        go_ret
        exact ⟨by rw [HV.out]; rfl, HBV.out⟩
    · by_cases n0 : n = 0
      · subst n0
        by_cases s0 : s = []
        · subst s0
          have hsl : ([] : Bs).length = 0 := rfl
          by_cases mt : m = tm
          · subst mt
            have mtI : ((m : Int) == (m : Int)) = true := by simp
            have HV : Hid (R = true) := by show _ = _; rw [HRe.out]; simp
            clear HRe
            go_wp2_with fail
            go_ret
            exact ⟨by rw [HV.out]; rfl, HBV.out⟩
          · have mtI : ((m : Int) == (tm : Int)) = false := by simp; omega
            have HV : Hid (R = false) := by show _ = _; rw [HRe.out]; simp [mt]
            clear HRe
            go_wp2_with fail
            go_ret
            exact ⟨by rw [HV.out]; rfl, HBV.out⟩
        · have s0K : s.isEmpty = false := by simpa using s0
          have HV : Hid (R = false) := by show _ = _; rw [HRe.out]; simp [s0]
          clear HRe
          go_wp2_with fail
          go_ret
          exact ⟨by rw [HV.out]; rfl, HBV.out⟩
      · have n0I : (n == 0) = false := by simpa using n0
        have HV : Hid (R = false) := by show _ = _; rw [HRe.out]; simp [n0]
        clear HRe
        go_wp2_with fail
        go_ret
        exact ⟨by rw [HV.out]; rfl, HBV.out⟩
  · have ktI : (k != tk) = true := by simpa using kt
    have HV : Hid (R = false) := by show _ = _; rw [HRe.out]; simp [kt]
    clear HRe
    go_wp2_with fail
    go_ret
    exact ⟨by rw [HV.out]; rfl, HBV.out⟩
end Go.Proofs.YtihbbgcpdgnhoaaGreatDoor
namespace Go.Proofs.YtihbbgcpdgnhoaaGreatDoor
open Go.ChangeShapes Go.WideShapes Go.ChangeAt Go.RowKit Go.Deep
attribute [local go_sem ↓] Go.wp_at_zero Go.wp_at_succ

theorem kinds {T : Ty} (h : T.formed = true) : T.kind = 1 ∨ T.kind = 2 ∨ T.kind = 3 ∨ T.kind = 4 := by
  have hn := (formed_node h).1
  unfold nodeB at hn
  split at hn
  · omega
  · split at hn
    · omega
    · split at hn
      · omega
      · split at hn
        · omega
        · cases hn
theorem alone_ok (V : Vl) (T : Ty) (w : World) (S S' : Nat → Prop) (kv nv tv : Value) (hV : Vd w S V kv) (hR : Rd w S' T nv tv) (hf : T.formed = true) : Calls Tryz.prog 45 #[vlV V kv, tyV T.kind T.num nv tv] w fun e w' => e = .returned (.bool (aloneB V T)) ∧ Below w.heap.size w w' := by
  have h1 := hV.lens
  have h2 := hR.lens
  obtain ⟨ak, ck, rfl⟩ := hV.form
  obtain ⟨an, cn, rfl, at_, ct, rfl⟩ := hR.form
  exact al_in _ _ _ _ _ _ _ _ _ _ _ _ _ _ w h1.1 h1.2 h2.2 (formed_int hf) (kinds hf)
set_option maxRecDepth 100000 in
set_option maxHeartbeats 12800000 in
theorem rfits_in (V : Vl) (T : Ty) (w : World) (S S' : Nat → Prop) (kv nv tv : Value) (hV : Vd w S V kv) (hR : Rd w S' T nv tv) (hf : T.formed = true)
    (hih : ∀ U ∈ V.kids, ∀ (P : Ty), P.formed = true → ∀ (w : World) (kv nv tv : Value), Vd w S U kv → Rd w S' P nv tv → Calls Tryz.prog 27 #[vlV U kv, tyV P.kind P.num nv tv] w fun e w' => e = .returned (.bool (decide ((firstF U P).length = 0))) ∧ Below w.heap.size w w') : Calls Tryz.prog 27 #[vlV V kv, tyV T.kind T.num nv tv] w fun e w' => e = .returned (.bool (decide ((firstF V T).length = 0))) ∧ Below w.heap.size w w' := by
  obtain ⟨B, hB⟩ : ∃ B, B = decide ((firstF V T).length = 0) := ⟨_, rfl⟩
  have HBe := hid hB
  rw [← hB]
  clear hB
  have hln := hV.lens
  have hlt := hR.lens
  unfold maxLen at hln hlt
  obtain ⟨hln1, hln2⟩ := hln
  obtain ⟨hlt1, hlt2⟩ := hlt
  have HIH := hid hih
  have HF := hid hf
  have HM1 : Hid (∀ (W : World) kv nv tv, Vd W S V kv → Rd W S' T nv tv → Calls Tryz.prog 45 #[vlV V kv, tyV T.kind T.num nv tv] W fun e w' => e = .returned (.bool (aloneB V T)) ∧ Below W.heap.size W w') := fun W kv nv tv h1 h2 => alone_ok V T W S S' kv nv tv h1 h2 hf
  obtain ⟨A, hA⟩ : ∃ A, A = aloneB V T := ⟨_, rfl⟩
  have HAe := hid hA
  rw [← hA] at HM1
  clear hA
  have HVd := hid hV
  have HRd := hid hR
  obtain ⟨ak, ck, rfl⟩ := hV.form
  obtain ⟨an, cn, rfl, at_, ct, rfl⟩ := hR.form
  have HX : Hid (((w.alloc (.cells #[i64 V.kind, i64 V.num, str V.s, .slice ak V.kids.length ck] 38)).alloc (.cells #[i64 T.kind, i64 T.num, .slice an T.names.length cn, .slice at_ T.kids.length ct] 35)).heap[w.heap.size]? = some (.cells #[i64 V.kind, i64 V.num, str V.s, .slice ak V.kids.length ck] 38)) := blk_alloc (heap_last w _) _
  have HY : Hid (((w.alloc (.cells #[i64 V.kind, i64 V.num, str V.s, .slice ak V.kids.length ck] 38)).alloc (.cells #[i64 T.kind, i64 T.num, .slice an T.names.length cn, .slice at_ T.kids.length ct] 35)).heap[w.heap.size + 1]? = some (.cells #[i64 T.kind, i64 T.num, .slice an T.names.length cn, .slice at_ T.kids.length ct] 35)) := heap_at3 _ _ _ (by simp)
  have HBV : Hid (Below w.heap.size w ((w.alloc (.cells #[i64 V.kind, i64 V.num, str V.s, .slice ak V.kids.length ck] 38)).alloc (.cells #[i64 T.kind, i64 T.num, .slice an T.names.length cn, .slice at_ T.kids.length ct] 35))) := (below_one w _).trans ((below_one _ _).mono (by simp))
  clear hV hR hih hf
  go_enter Tryz.func27, Tryz.ntmps27
  go_upto_region 1 with fail
  generalize (w.alloc (.cells #[i64 V.kind, i64 V.num, str V.s, .slice ak V.kids.length ck] 38)).alloc (.cells #[i64 T.kind, i64 T.num, .slice an T.names.length cn, .slice at_ T.kids.length ct] 35) = V0 at *
  obtain ⟨Z, hZ⟩ : ∃ Z, Z = w.heap.size := ⟨_, rfl⟩
  obtain ⟨Y, hY⟩ : ∃ Y, Y = w.heap.size + 1 := ⟨_, rfl⟩
  rw [← hZ] at HX
  rw [← hY] at HY
  rw [← hY, ← hZ]
  clear hZ hY
  have zc0 : V0.cell? ⟨Z, 0, none⟩ = some (i64 V.kind) := blk_cell HX.out 0
  have zc1 : V0.cell? ⟨Z, 1, none⟩ = some (i64 V.num) := blk_cell HX.out 1
  have zc2 : V0.cell? ⟨Z, 2, none⟩ = some (str V.s) := blk_cell HX.out 2
  have zc3 : V0.cell? ⟨Z, 3, none⟩ = some (.slice ak V.kids.length ck) := blk_cell HX.out 3
  have yc0 : V0.cell? ⟨Y, 0, none⟩ = some (i64 T.kind) := blk_cell HY.out 0
  have yc1 : V0.cell? ⟨Y, 1, none⟩ = some (i64 T.num) := blk_cell HY.out 1
  have yc2 : V0.cell? ⟨Y, 2, none⟩ = some (.slice an T.names.length cn) := blk_cell HY.out 2
  have yc3 : V0.cell? ⟨Y, 3, none⟩ = some (.slice at_ T.kids.length ct) := blk_cell HY.out 3
  have HC1 := hid (HM1.out V0 _ _ _ (HVd.out.under HBV.out) (HRd.out.under HBV.out))
  clear HM1
  go_wp2_with fail
  refine HC1.out.mono ?_
  rintro e w1 ⟨rfl, hb1⟩
  have HB1 : Hid (Below w.heap.size w w1) := HBV.out.trans (hb1.mono HBV.out.size)
  have HX1 : Hid (w1.heap[Z]? = some (.cells #[i64 V.kind, i64 V.num, str V.s, .slice ak V.kids.length ck] 38)) := blk_below HX.out hb1
  have HY1 : Hid (w1.heap[Y]? = some (.cells #[i64 T.kind, i64 T.num, .slice an T.names.length cn, .slice at_ T.kids.length ct] 35)) := blk_below HY.out hb1
  clear hb1 HC1 zc0 zc1 zc2 zc3 yc0 yc1 yc2 yc3
  cases A with
  | false =>
    have HV : Hid (B = false) := by show _ = _; rw [HBe.out, firstF_eq, ← HAe.out]; rfl
    go_wp2_with fail
    go_ret
    exact ⟨by rw [HV.out]; rfl, HB1.out⟩
  | true =>
    have HB0 : Hid (B = decide ((firstL (V.kids.drop 0) 0 T).length = 0)) := by show _ = _; rw [HBe.out, firstF_eq, ← HAe.out]; rfl
    have HRM : Hid (∀ i, i < V.kids.length → (T.kind = 3 → 0 < T.kids.length) ∧ (T.kind ≠ 3 → i < T.kids.length)) := fun i hi => kid_room HF.out HAe.out.symm i hi
    have zc3 : w1.cell? ⟨Z, 3, none⟩ = some (.slice ak V.kids.length ck) := blk_cell HX1.out 3
    go_wp2_with fail
    go_loopw [14] (fun u wr => ∃ i : Nat, i ≤ V.kids.length ∧ u = i64 i ∧ Hid (Below w.heap.size w wr) ∧ Hid (wr.heap[Z]? = some (.cells #[i64 V.kind, i64 V.num, str V.s, .slice ak V.kids.length ck] 38)) ∧ Hid (wr.heap[Y]? = some (.cells #[i64 T.kind, i64 T.num, .slice an T.names.length cn, .slice at_ T.kids.length ct] 35)) ∧ Hid (B = decide ((firstL (V.kids.drop i) i T).length = 0))) (fun u _ => V.kids.length - (intOf u).toNat)
    case atStart => exact ⟨0, Nat.zero_le _, rfl, HB1, HX1, HY1, HB0⟩
    case round =>
      obtain ⟨i, hi, rfl, HB, HXr, HYr, HLr⟩ := hrel
      by_cases hlt : i < V.kids.length
      · obtain ⟨b, off, kv2, rfl, _, hblt, hr, hrd⟩ := (HVd.out.under HB.out).kid i hlt
        obtain ⟨U, hU⟩ : ∃ U, U = V.kids[i] := ⟨_, rfl⟩
        rw [← hU] at hr hrd
        have HUm : Hid (U ∈ V.kids) := by show U ∈ _; rw [hU]; exact List.getElem_mem hlt
        have HST : Hid (firstL (V.kids.drop i) i T = if (firstF U (kidT T i)).length = 0 then firstL (V.kids.drop (i + 1)) (i + 1) T else 0 :: i :: (firstF U (kidT T i)).tail) := by show _ = _; rw [firstL_step _ _ _ hlt, ← hU]
        obtain ⟨ak2, ck2, rfl⟩ := hrd.form
        have c0 : wr.cell? ⟨b, off + i * 4, none⟩ = some (i64 U.kind) := hr 0 _ rfl
        have c1 : wr.cell? ⟨b, off + i * 4 + 1, none⟩ = some (i64 U.num) := hr 1 _ rfl
        have c2 : wr.cell? ⟨b, off + i * 4 + 2, none⟩ = some (str U.s) := hr 2 _ rfl
        have c3 : wr.cell? ⟨b, off + i * 4 + 3, none⟩ = some (.slice ak2 U.kids.length ck2) := hr 3 _ rfl
        have HBX : Hid (Below w.heap.size w (wr.alloc (.cells #[i64 U.kind, i64 U.num, str U.s, .slice ak2 U.kids.length ck2] 38))) := HB.out.trans ((below_one wr _).mono HB.out.size)
        have HX2 : Hid ((wr.alloc (.cells #[i64 U.kind, i64 U.num, str U.s, .slice ak2 U.kids.length ck2] 38)).heap[wr.heap.size]? = some (.cells #[i64 U.kind, i64 U.num, str U.s, .slice ak2 U.kids.length ck2] 38)) := heap_last wr _
        have HZ2 : Hid ((wr.alloc (.cells #[i64 U.kind, i64 U.num, str U.s, .slice ak2 U.kids.length ck2] 38)).heap[Z]? = some (.cells #[i64 V.kind, i64 V.num, str V.s, .slice (some ⟨b, off, none⟩) V.kids.length ck] 38)) := blk_alloc HXr.out _
        have HY2 : Hid ((wr.alloc (.cells #[i64 U.kind, i64 U.num, str U.s, .slice ak2 U.kids.length ck2] 38)).heap[Y]? = some (.cells #[i64 T.kind, i64 T.num, .slice an T.names.length cn, .slice at_ T.kids.length ct] 35)) := blk_alloc HYr.out _
        have HUd : Hid (Vd (wr.alloc (.cells #[i64 U.kind, i64 U.num, str U.s, .slice ak2 U.kids.length ck2] 38)) S U (.slice ak2 U.kids.length ck2)) := hrd.under (below_one wr _)
        have HCw : Hid (Below wr.heap.size wr (wr.alloc (.cells #[i64 U.kind, i64 U.num, str U.s, .slice ak2 U.kids.length ck2] 38))) := below_one wr _
        obtain ⟨hr3, hr4⟩ := HRM.out i hlt
        have HFK : Hid ((kidT T i).formed = true) := kidT_formed HF.out i hr3 hr4
        have HR3 := hid hr3
        have HR4 := hid hr4
        clear hU hr hrd hr3 hr4
        go_upto_region 6 with fail
        obtain ⟨Q, hQ⟩ : ∃ Q, Q = wr.heap.size := ⟨_, rfl⟩
        rw [← hQ] at HX2 ⊢
        clear hQ c0 c1 c2 c3
        generalize wr.alloc (.cells #[i64 U.kind, i64 U.num, str U.s, .slice ak2 U.kids.length ck2] 38) = X at *
        have HSd : Hid (So2 Q Y (.cells #[i64 U.kind, i64 U.num, str U.s, .slice ak2 U.kids.length ck2] 38) (.cells #[i64 T.kind, i64 T.num, .slice an T.names.length cn, .slice at_ T.kids.length ct] 35) X.drew) := ⟨HX2.out, HY2.out⟩
        have HBd : Hid (Below w.heap.size w X.drew) := below_drewN HBX.out 1
        have HKD : Hid (∀ W, Below w.heap.size w W → Calls Tryz.prog 46 #[.agg #[i64 T.kind, i64 T.num, .slice an T.names.length cn, .slice at_ T.kids.length ct], i64 i] W fun e w' => ∃ a1 c1 a2 c2, e = .returned (tyV (kidT T i).kind (kidT T i).num (.slice a1 (kidT T i).names.length c1) (.slice a2 (kidT T i).kids.length c2)) ∧ Below W.heap.size W w' ∧ Rd w' S' (kidT T i) (.slice a1 (kidT T i).names.length c1) (.slice a2 (kidT T i).kids.length c2)) := fun W hW => kid_ok T i W S' _ _ (HRd.out.under hW) HR3.out HR4.out
        have HUd2 : Hid (Vd X.drew S U (.slice ak2 U.kids.length ck2)) := HUd.out.under (below_drewN (Below.refl _ X) 1)
        have HCd : Hid (Below wr.heap.size wr X.drew) := below_drewN HCw.out 1
        generalize kidT T i = P at *
        refine wp_region_noPanic ?_
        refine wp_region_last (So2 Q Y (.cells #[i64 U.kind, i64 U.num, str U.s, .slice ak2 U.kids.length ck2] 38) (.cells #[i64 T.kind, i64 T.num, .slice an T.names.length cn, .slice at_ T.kids.length ct] 35)) 5 (by kernel_rfl) ?_
        refine wpL_take 0 19 (.agg #[i64 U.kind, i64 U.num, str U.s, .slice ak2 U.kids.length ck2]) [4] rfl rfl (by kernel_rfl) (by decide) (by kernel_rfl) (by kernel_rfl) (by kernel_rfl) (fun _ _ _ h => h) HSd.out (by rfl) (fun W hW => by have e0 : W.cell? ⟨Q, 0, none⟩ = some (i64 U.kind) := blk_cell hW.z 0; have e1 : W.cell? ⟨Q, 1, none⟩ = some (i64 U.num) := blk_cell hW.z 1; have e2 : W.cell? ⟨Q, 2, none⟩ = some (str U.s) := blk_cell hW.z 2; have e3 : W.cell? ⟨Q, 3, none⟩ = some (.slice ak2 U.kids.length ck2) := blk_cell hW.z 3; go_simp) ?_
        simp only [Act.put, List.setIfInBounds_toArray, List.set_cons_zero, List.set_cons_succ]
        refine wpL_take 1 20 (.agg #[i64 T.kind, i64 T.num, .slice an T.names.length cn, .slice at_ T.kids.length ct]) [3, 4] rfl rfl (by kernel_rfl) (by decide) (by kernel_rfl) (by kernel_rfl) (by kernel_rfl) (fun _ _ _ h => h) HSd.out (by rfl) (fun W hW => by have e0 : W.cell? ⟨Y, 0, none⟩ = some (i64 T.kind) := blk_cell hW.y 0; have e1 : W.cell? ⟨Y, 1, none⟩ = some (i64 T.num) := blk_cell hW.y 1; have e2 : W.cell? ⟨Y, 2, none⟩ = some (.slice an T.names.length cn) := blk_cell hW.y 2; have e3 : W.cell? ⟨Y, 3, none⟩ = some (.slice at_ T.kids.length ct) := blk_cell hW.y 3; go_simp) ?_
        simp only [Act.put, List.setIfInBounds_toArray, List.set_cons_zero, List.set_cons_succ]
        refine wpL_take 2 21 (i64 i) [3, 4] rfl rfl (by kernel_rfl) (by decide) (by kernel_rfl) (by kernel_rfl) (by kernel_rfl) (fun _ _ _ h => h) HSd.out (by rfl) (fun W hW => by go_simp) ?_
        simp only [Act.put, List.setIfInBounds_toArray, List.set_cons_zero, List.set_cons_succ]
        refine wpL_one 3 rfl (by kernel_rfl) (by rfl) (fun K hK => ?_)
        go_simp
        refine (HKD.out X.drew HBd.out).mono ?_
        rintro e w4 ⟨p1, q1, p2, q2, rfl, hb4, hr4⟩
        have HB4 : Hid (Below w.heap.size w w4) := HBd.out.trans (hb4.mono HBd.out.size)
        have HS4 : Hid (So2 Q Y (.cells #[i64 U.kind, i64 U.num, str U.s, .slice ak2 U.kids.length ck2] 38) (.cells #[i64 T.kind, i64 T.num, .slice an T.names.length cn, .slice at_ T.kids.length ct] 35) w4) := ⟨blk_below HSd.out.z hb4, blk_below HSd.out.y hb4⟩
        have HZ4 : Hid (w4.heap[Z]? = some (.cells #[i64 V.kind, i64 V.num, str V.s, .slice (some ⟨b, off, none⟩) V.kids.length ck] 38)) := blk_below (show X.drew.heap[Z]? = some (.cells #[i64 V.kind, i64 V.num, str V.s, .slice (some ⟨b, off, none⟩) V.kids.length ck] 38) from HZ2.out) hb4
        have HU4 := hid (HUd2.out.under hb4)
        have HC4 : Hid (Below wr.heap.size wr w4) := HCd.out.trans (hb4.mono HCd.out.size)
        have HCF := hid (HIH.out U HUm.out P HFK.out w4 _ _ _ HU4.out hr4)
        obtain ⟨FB, hFB⟩ : ∃ FB, FB = decide ((firstF U P).length = 0) := ⟨_, rfl⟩
        rw [← hFB] at HCF
        have HFB := hid hFB
        clear hb4 hr4 hFB
        go_simp
        refine hK.out _ _ (fun _ => HS4.out) ?_
        clear hK K
        refine wpL_one 4 rfl (by kernel_rfl) (by rfl) (fun K hK => ?_)
        go_simp
        refine HCF.out.mono ?_
        rintro e w5 ⟨rfl, hb5⟩
        have HB5 : Hid (Below w.heap.size w w5) := HB4.out.trans (hb5.mono HB4.out.size)
        have HS5 : Hid (So2 Q Y (.cells #[i64 U.kind, i64 U.num, str U.s, .slice ak2 U.kids.length ck2] 38) (.cells #[i64 T.kind, i64 T.num, .slice an T.names.length cn, .slice at_ T.kids.length ct] 35) w5) := ⟨blk_below HS4.out.z hb5, blk_below HS4.out.y hb5⟩
        have HZ5 : Hid (w5.heap[Z]? = some (.cells #[i64 V.kind, i64 V.num, str V.s, .slice (some ⟨b, off, none⟩) V.kids.length ck] 38)) := blk_below HZ4.out hb5
        have HU5 := hid (HU4.out.under hb5)
        have HC5 : Hid (Below wr.heap.size wr w5) := HC4.out.trans (hb5.mono HC4.out.size)
        clear hb5 HCF
        go_simp
        refine hK.out _ _ (fun _ => HS5.out) ?_
        clear hK K
        refine wpL_one 5 rfl (by kernel_rfl) (by rfl) (fun K hK => ?_)
        go_simp
        refine hK.out _ _ (fun h => absurd rfl h) ?_
        clear hK K
        refine wpL_done (by kernel_rfl) ?_
        refine NoPanic.normal ?_
        cases FB with
        | true =>
          have h0 : (firstF U P).length = 0 := of_decide_eq_true HFB.out.symm
          have HLn : Hid (B = decide ((firstL (V.kids.drop (i + 1)) (i + 1) T).length = 0)) := by show _ = _; rw [HLr.out, HST.out, if_pos h0]
          have HYy := hid HS5.out.y
          clear HST HLr h0
          go_wp2_with fail
          exact ⟨⟨i + 1, by omega, by go_num, HB5, HZ5, HYy, HLn⟩, by simp [intOf]; omega⟩
        | false =>
          have h0 : ¬ (firstF U P).length = 0 := of_decide_eq_false HFB.out.symm
          have HV : Hid (B = false) := by show _ = _; rw [HLr.out, HST.out, if_neg h0]; simp
          clear HST HLr h0
          go_wp2_with fail
          go_ret
          exact ⟨by rw [HV.out]; rfl, HB5.out⟩
      · have he : i = V.kids.length := by omega
        have HV : Hid (B = true) := by show _ = _; rw [HLr.out, he, List.drop_length]; rfl
        clear he
        go_wp2_with fail
        go_ret
        exact ⟨by rw [HV.out]; rfl, HB.out⟩
theorem rfits_ok : ∀ (M : Nat) (V : Vl), V.size ≤ M → ∀ (T : Ty), T.formed = true → ∀ (w : World) (S S' : Nat → Prop) (kv nv tv : Value), Vd w S V kv → Rd w S' T nv tv → Calls Tryz.prog 27 #[vlV V kv, tyV T.kind T.num nv tv] w fun e w' => e = .returned (.bool (decide ((firstF V T).length = 0))) ∧ Below w.heap.size w w'
  | 0, V, h, _, _, _, _, _, _, _, _, _, _ => by have := size_pos V; omega
  | M + 1, V, h, T, hf, w, S, S', kv, nv, tv, hV, hR => rfits_in V T w S S' kv nv tv hV hR hf (fun U hU P hP w kv nv tv hV hR => rfits_ok M U (by have := sizeL_mem hU; have := V.size_eq; omega) P hP w S S' kv nv tv hV hR)
end Go.Proofs.YtihbbgcpdgnhoaaGreatDoor
