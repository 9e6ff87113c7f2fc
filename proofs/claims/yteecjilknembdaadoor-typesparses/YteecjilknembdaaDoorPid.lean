/- pid: it answers true; no statement is proved in this text. -/
import Derived.Test.YteecjilknembdaaDoorPar
namespace Go.Proofs.YteecjilknembdaaDoor
open Go.ChangeShapes Go.WideShapes Go.ChangeAt Go.RowKit Go.Deep
attribute [local go_sem ↓] Go.wp_at_zero Go.wp_at_succ

def P0 : Bs := [114, 40, 112, 105, 100, 58, 105, 49, 54, 44, 114, 101, 103, 115, 58, 108, 56, 40, 105, 49, 54, 41, 41]
def TP : Ty := .mk 4 0 [[112, 105, 100], [114, 101, 103, 115]] [.mk 1 16 [] [], .mk 3 8 [] [.mk 1 16 [] []]]
theorem parse_P0 : parseF P0 = some TP := by kernel_rfl
theorem TP_err : TP.err = 0 := (right_err TP).1 (parseF_back parse_P0).1
theorem TP_txt : TP.txt = P0 := (parseF_back parse_P0).2.symm
theorem TP_field : fieldF TP [114, 101, 103, 115] = 1 := by
  have h := Lib.idxOfS_hit (TP.names.map ba) 2 1 (ba [114, 101, 103, 115]) (by omega) (by simp [TP, Ty.names]) rfl (fun j hj => by
    have : j = 0 := by omega
    subst this
    intro e
    have := congrArg ByteArray.size e
    revert this
    decide)
  have e : (TP.names.map ba).take 2 = TP.names.map ba := rfl
  rw [e] at h
  unfold fieldF
  rw [if_pos (by rfl), h]
  rfl
/-- What the laws' variables give. -/
structure Env (w : World) : Prop where
  pw : Pw w
  ml : Ml w
theorem Env.below {w w' : World} (h : Env w) (hb : Below w.heap.size w w') : Env w' := ⟨h.pw.below hb, h.ml.below hb⟩
set_option maxRecDepth 100000 in
set_option maxHeartbeats 6400000 in
theorem pid_ok (w : World) (hE : Env w) : Calls Tryd.prog 9 #[] w fun e w' => e = .returned (.bool true) ∧ Below w.heap.size w w' := by
  have HE := hid hE
  have HPA := hid (parse_ok P0 w (by decide) hE.ml)
  have HNM := fun W => name_ok [114, 101, 103, 115] W (by decide)
  have HNM := hid HNM
  clear hE
  go_enter Tryd.func9, Tryd.ntmps9
  go_wp2_with fail
  refine HPA.out.mono ?_
  rintro e w1 ⟨a1, n1, c1, a2, n2, c2, he, hb1, hR1⟩
  obtain ⟨e1, e2⟩ := parse_0 parse_P0
  rw [e1, e2] at he
  rw [e1] at hR1
  subst he
  have HR1 := hid hR1
  have HB1 := hid hb1
  obtain ⟨_, _, ak, ck, hk, hkid⟩ := hR1.kid
  cases hk
  obtain ⟨b, off, nv2, kv2, rfl, _, hblt, hr, _⟩ := hkid 1 (by decide)
  have c0 : w1.cell? ⟨b, off + 4, none⟩ = some (i64 3) := hr 0 _ rfl
  have HC0 := hid c0
  have HBL := hid hblt
  clear hr hkid hb1 hR1 e1 e2 c0 hblt HPA
  have HX : Hid ((w1.alloc (.cells #[i64 TP.kind, i64 TP.num, .slice a1 n1 c1, .slice (some ⟨b, off, none⟩) 2 c2] 25)).heap[w1.heap.size]? = some (.cells #[i64 TP.kind, i64 TP.num, .slice a1 n1 c1, .slice (some ⟨b, off, none⟩) 2 c2] 25)) := heap_last w1 _
  have HBX : Hid (Below w1.heap.size w1 (w1.alloc (.cells #[i64 TP.kind, i64 TP.num, .slice a1 n1 c1, .slice (some ⟨b, off, none⟩) 2 c2] 25))) := below_one w1 _
  have HBw : Hid (Below w.heap.size w (w1.alloc (.cells #[i64 TP.kind, i64 TP.num, .slice a1 n1 c1, .slice (some ⟨b, off, none⟩) 2 c2] 25))) := HB1.out.trans (HBX.out.mono HB1.out.size)
  have HRX := hid (HR1.out.under HBX.out)
  have hcx : (w1.alloc (.cells #[i64 TP.kind, i64 TP.num, .slice a1 n1 c1, .slice (some ⟨b, off, none⟩) 2 c2] 25)).cell? ⟨b, off + 4, none⟩ = some (i64 3) := (HBX.out.cell (p := ⟨b, off + 4, none⟩) HBL.out).trans HC0.out
  go_upto_region 2 with fail
  obtain ⟨Z, hZ⟩ : ∃ Z, Z = w1.heap.size := ⟨_, rfl⟩
  have hbZ : b < Z := by rw [hZ]; exact HBL.out
  rw [← hZ] at HX ⊢
  clear hZ HBX HBL HC0
  generalize w1.alloc (.cells #[i64 TP.kind, i64 TP.num, .slice a1 n1 c1, .slice (some ⟨b, off, none⟩) 2 c2] 25) = X at *
  have HEX := hid (HE.out.below HBw.out)
  have HPR : Hid (Calls Tryd.prog 10 #[tyV TP.kind TP.num (.slice a1 n1 c1) (.slice (some ⟨b, off, none⟩) 2 c2)] X fun e w' => e = .returned (.tuple #[.string ⟨#[114, 40, 112, 105, 100, 58, 105, 49, 54, 44, 114, 101, 103, 115, 58, 108, 56, 40, 105, 49, 54, 41, 41]⟩, i64 0]) ∧ Below X.heap.size X w') := by
    have := print_ok TP X _ _ _ HEX.out.pw HRX.out
    rw [TP_err, if_pos rfl, TP_txt] at this
    exact this
  have y0 : X.cell? ⟨Z, 0, none⟩ = some (i64 TP.kind) := blk_cell HX.out 0
  have y1 : X.cell? ⟨Z, 1, none⟩ = some (i64 TP.num) := blk_cell HX.out 1
  have y2 : X.cell? ⟨Z, 2, none⟩ = some (.slice a1 n1 c1) := blk_cell HX.out 2
  have y3 : X.cell? ⟨Z, 3, none⟩ = some (.slice (some ⟨b, off, none⟩) 2 c2) := blk_cell HX.out 3
  have hbX : b < X.heap.size := by have := blk_lt HX.out; omega
  go_wp2_with fail
  refine HPR.out.mono ?_
  rintro e w2 ⟨rfl, hb2⟩
  have HB2 : Hid (Below w.heap.size w w2) := HBw.out.trans (hb2.mono HBw.out.size)
  have HX2 := hid (blk_below HX.out hb2)
  have HR2 := hid (HRX.out.under hb2)
  have hc2 : w2.cell? ⟨b, off + 4, none⟩ = some (i64 3) := (hb2.cell (p := ⟨b, off + 4, none⟩) hbX).trans hcx
  have HFD : Hid (Calls Tryd.prog 19 #[tyV TP.kind TP.num (.slice a1 n1 c1) (.slice (some ⟨b, off, none⟩) 2 c2), .string ⟨#[114, 101, 103, 115]⟩] w2 fun e w' => e = .returned (i64 1) ∧ Below w2.heap.size w2 w') := by
    have := field_ok TP [114, 101, 103, 115] w2 _ _ _ HR2.out
    rw [TP_field] at this
    exact this
  have HN2 : Hid (∀ W, Calls Tryd.prog 21 #[.string ⟨#[114, 101, 103, 115]⟩] W fun e w' => e = .returned (.bool true) ∧ w' = W) := fun W => by
    have := HNM.out W
    rw [show nameB [114, 101, 103, 115] = true by decide] at this
    exact this
  clear hb2 y0 y1 y2 y3 hcx hbX HPR HNM
  have y0 : w2.cell? ⟨Z, 0, none⟩ = some (i64 TP.kind) := blk_cell HX2.out 0
  have y1 : w2.cell? ⟨Z, 1, none⟩ = some (i64 TP.num) := blk_cell HX2.out 1
  have y2 : w2.cell? ⟨Z, 2, none⟩ = some (.slice a1 n1 c1) := blk_cell HX2.out 2
  have y3 : w2.cell? ⟨Z, 3, none⟩ = some (.slice (some ⟨b, off, none⟩) 2 c2) := blk_cell HX2.out 3
  go_wp2_with fail
  refine HFD.out.mono ?_
  rintro e w3 ⟨rfl, hb3⟩
  have HB3 : Hid (Below w.heap.size w w3) := HB2.out.trans (hb3.mono HB2.out.size)
  clear hb3
  go_wp2_with fail
  refine (HN2.out w3).mono ?_
  rintro e v4 ⟨rfl, hv⟩
  replace hv := hv.symm
  subst hv
  go_wp2_with fail
  go_ret
  exact ⟨rfl, HB3.out⟩
end Go.Proofs.YteecjilknembdaaDoor
