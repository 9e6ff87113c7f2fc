/- write of any value that fits; Body, Bytes, Size; no statement is proved in this text. -/
import Derived.Test.YtihbbgcpdgnhoaaGreatDoorW2
import Derived.Test.YtihbbgcpdgnhoaaGreatDoorWs
import Derived.Test.YtihbbgcpdgnhoaaGreatDoorFit
import Derived.Test.YtihbbgcpdgnhoaaGreatDoorPar
namespace Go.Proofs.YtihbbgcpdgnhoaaGreatDoor
open Go.ChangeShapes Go.WideShapes Go.ChangeAt Go.RowKit Go.Deep
attribute [local go_sem ↓] Go.wp_at_zero Go.wp_at_succ
set_option maxRecDepth 100000

theorem b8_tb (n : Nat) : [b8 (n : Int)] = tb n 1 := by unfold b8; rw [tb_one, Int.toNat_natCast]
theorem write_ok : ∀ (M : Nat) (V : Vl) (T : Ty), V.size ≤ M → T.formed = true → fitV V T → ∀ (w : World) (kv nv tv : Value) (B b : Nat) (l : Bs), Vd w (fun k => k < B) V kv → Rd w (fun k => k < B) T nv tv → Bl B b l w → l.length + (wrtV V T).length ≤ 1000000 → Calls Tryz.prog 24 #[pq b, vlV V kv, tyV T.kind T.num nv tv] w (WOk B b (l ++ wrtV V T) w)
  | 0, V, _, hM, _, _ => by have := size_pos V; omega
  | M + 1, V, T, hM, hf, hV => by
    intro w kv nv tv B b l hVd hRd hBl hl
    obtain ⟨ha, hL⟩ := (fitV_iff V T).1 hV
    have hk := alone_kind ha
    obtain ⟨ka, kc, rfl⟩ := hVd.form
    obtain ⟨an, cn, rfl, at_, ct, rfl⟩ := hRd.form
    rcases node_kind hf with h1 | h2 | h3 | h4
    · obtain ⟨e1, e2, e3, e4⟩ := alone_1 ha h1
      obtain ⟨n, hn⟩ : ∃ n : Nat, V.num = (n : Int) := ⟨V.num.toNat, (Int.toNat_of_nonneg e2).symm⟩
      have hw : wrtV V T = tb 1 1 ++ tb n (T.num / 8).toNat := by
        rw [wrtV_1 V T (by omega), hn, Int.toNat_natCast]
        rfl
      rw [hw]
      show Calls Tryz.prog 24 #[pq b, .agg #[i64 V.kind, i64 V.num, str V.s, .slice ka V.kids.length kc], .agg #[i64 T.kind, i64 T.num, .slice an T.names.length cn, .slice at_ T.kids.length ct]] w _
      rw [hk, h1, hn, e1, e4]
      rw [hn] at e3
      rcases node_1 hf h1 with h | h | h
      · rw [h]; rw [h] at e3
        exact write_1_8 w B b l n ka an at_ kc _ cn _ ct hBl (by omega) (by have : (n : Int) < 256 := e3; show n < 256; omega)
      · rw [h]; rw [h] at e3
        exact write_1_16 w B b l n ka an at_ kc _ cn _ ct hBl (by omega) (by have : (n : Int) < 65536 := e3; show n < 65536; omega)
      · rw [h]; rw [h] at e3
        exact write_1_32 w B b l n ka an at_ kc _ cn _ ct hBl (by omega) (by have : (n : Int) < 4294967296 := e3; show n < 4294967296; omega)
    · obtain ⟨e1, e2, e3⟩ := alone_2 ha h2
      have hn := node_2 hf h2
      have hw : wrtV V T = tb 2 1 ++ (tb V.s.length 1 ++ V.s) := by
        rw [wrtV_2 V T (by omega), ← b8_tb V.s.length]
        rfl
      rw [hw]
      show Calls Tryz.prog 24 #[pq b, .agg #[i64 V.kind, i64 V.num, str V.s, .slice ka V.kids.length kc], .agg #[i64 T.kind, i64 T.num, .slice an T.names.length cn, .slice at_ T.kids.length ct]] w _
      rw [hk, h2, e1, e3]
      exact write_2 w B b l V.s T.num ka an at_ kc _ cn _ ct hBl (by omega) (by omega)
    · obtain ⟨e1, e2, e3⟩ := alone_3 ha h3
      have hn := node_3 hf h3
      have hw : wrtV V T = tb 3 1 ++ (tb V.kids.length 1 ++ wrtL V.kids 0 T) := by
        rw [wrtV_3 V T (by omega) (by omega), hk, h3, ← b8_tb V.kids.length]
        rfl
      have hlen : (wrtV V T).length = 2 + (wrtL V.kids 0 T).length := by rw [hw]; simp [tb_len]; omega
      rw [hw]
      have hVe : V = .mk 3 0 [] V.kids := by
        have := vl_eta V
        rw [e1, e2, hk, h3] at this
        exact this
      have hVd2 : Vd w (fun k => k < B) (.mk 3 0 [] V.kids) (.slice ka V.kids.length kc) := by rw [← hVe]; exact hVd
      show Calls Tryz.prog 24 #[pq b, .agg #[i64 V.kind, i64 V.num, str V.s, .slice ka V.kids.length kc], .agg #[i64 T.kind, i64 T.num, .slice an T.names.length cn, .slice at_ T.kids.length ct]] w _
      rw [hk, h3, e1, e2]
      have hsz := V.size_eq
      exact write_3 M (write_ok M) w B b l V.kids T.num T ka an at_ V.kids.length kc _ cn _ ct rfl (by omega) h3 rfl hf hL (fun _ => by omega) (fun h => absurd h3 h) (by omega) hVd2 hRd hBl (by omega)
    · obtain ⟨e1, e2, e3⟩ := alone_4 ha h4
      have hn := node_4 hf h4
      have hw : wrtV V T = tb 4 1 ++ (tb V.kids.length 1 ++ wrtL V.kids 0 T) := by
        rw [wrtV_3 V T (by omega) (by omega), hk, h4, ← b8_tb V.kids.length]
        rfl
      have hlen : (wrtV V T).length = 2 + (wrtL V.kids 0 T).length := by rw [hw]; simp [tb_len]; omega
      rw [hw]
      have hVe : V = .mk 4 0 [] V.kids := by
        have := vl_eta V
        rw [e1, e2, hk, h4] at this
        exact this
      have hVd2 : Vd w (fun k => k < B) (.mk 4 0 [] V.kids) (.slice ka V.kids.length kc) := by rw [← hVe]; exact hVd
      show Calls Tryz.prog 24 #[pq b, .agg #[i64 V.kind, i64 V.num, str V.s, .slice ka V.kids.length kc], .agg #[i64 T.kind, i64 T.num, .slice an T.names.length cn, .slice at_ T.kids.length ct]] w _
      rw [hk, h4, e1, e2]
      have hsz := V.size_eq
      exact write_4 M (write_ok M) w B b l V.kids T.num T ka an at_ V.kids.length kc _ cn _ ct rfl (by omega) h4 rfl hf hL (fun h => by omega) (fun _ => by omega) (by omega) hVd2 hRd hBl (by omega)
mutual
theorem wrtV_le : ∀ (V : Vl) (T : Ty), T.formed = true → fitV V T → (wrtV V T).length ≤ 257 * V.size
  | .mk k n t l, T, hf, hV => by
    obtain ⟨ha, hL⟩ := (fitV_iff _ T).1 hV
    have hk := alone_kind ha
    have hs : (Vl.mk k n t l).size = 1 + sizeL l := rfl
    rcases node_kind hf with h1 | h2 | h3 | h4
    · have hnb := num_bytes hf h1
      rw [wrtV_1 _ T (by omega), List.length_cons, tb_len]
      omega
    · obtain ⟨e1, e2, e3⟩ := alone_2 ha h2
      have hn := node_2 hf h2
      rw [wrtV_2 _ T (by omega), List.length_cons, List.length_cons]
      omega
    · have hn := node_3 hf h3
      rw [wrtV_3 _ T (by omega) (by omega), List.length_cons, List.length_cons]
      have := wrtL_le l 0 T hf hL (fun _ => by omega) (fun h => absurd h3 h)
      show (wrtL l 0 T).length + 1 + 1 ≤ _
      omega
    · have hn := node_4 hf h4
      obtain ⟨_, _, e3⟩ := alone_4 ha h4
      have e3 : l.length = T.kids.length := e3
      rw [wrtV_3 _ T (by omega) (by omega), List.length_cons, List.length_cons]
      have := wrtL_le l 0 T hf hL (fun h => by omega) (fun _ => by omega)
      show (wrtL l 0 T).length + 1 + 1 ≤ _
      omega
theorem wrtL_le : ∀ (l : List Vl) (i : Nat) (T : Ty), T.formed = true → fitL l i T → (T.kind = 3 → 0 < T.kids.length) → (T.kind ≠ 3 → i + l.length ≤ T.kids.length) → (wrtL l i T).length ≤ 257 * sizeL l
  | [], _, _, _, _, _, _ => by simp [wrtL]
  | v :: r, i, T, hf, hL, h3, h4 => by
    obtain ⟨h1, h2⟩ := (fitL_cons v r i T).1 hL
    have h4' : T.kind ≠ 3 → i < T.kids.length := fun h => by have := h4 h; simp only [List.length_cons] at this; omega
    have a := wrtV_le v (kidT T i) (kidT_formed hf i h3 h4') h1
    have b := wrtL_le r (i + 1) T hf h2 h3 (fun h => by have := h4 h; simp only [List.length_cons] at this; omega)
    rw [wrtL, List.length_append]
    have e : sizeL (v :: r) = v.size + sizeL r := rfl
    omega
end
def bodB (V : Vl) (T : Ty) : Bs := if fitsB V T = true then wrtV V T else []
def bodE (V : Vl) (T : Ty) : Int := if fitsB V T = true then 0 else 4
theorem fitsB_iff (V : Vl) (T : Ty) : fitsB V T = true ↔ T.err = 0 ∧ fitV V T := by
  unfold fitsB fitV
  simp only [Bool.and_eq_true, decide_eq_true_eq]
theorem zero78 (w : World) : (zeroValue 71).run Tryz.prog w = .ok (.agg #[.pointer none, .slice none 0 0]) w := by kernel_rfl
set_option maxHeartbeats 3200000 in
theorem body_ok (V : Vl) (T : Ty) (w : World) (S S' : Nat → Prop) (kv nv tv : Value) (hV : Vd w S V kv) (hR : Rd w S' T nv tv) (hsz : V.size ≤ 3000) : Calls Tryz.prog 11 #[vlV V kv, tyV T.kind T.num nv tv] w fun e w' => e = .returned (.tuple #[str (bodB V T), i64 (bodE V T)]) ∧ Below w.heap.size w w' := by
  obtain ⟨ka, kc, rfl⟩ := hV.form
  obtain ⟨an, cn, rfl, at_, ct, rfl⟩ := hR.form
  obtain ⟨HXa, HYa, hb0⟩ := two_boxes w (vO V (.slice ka V.kids.length kc)) (tO T (.slice an T.names.length cn) (.slice at_ T.kids.length ct))
  have HX := hid HXa
  have HY := hid HYa
  have HB0 := hid hb0
  have HC := hid (fits_ok V T _ S S' _ _ _ (hV.under hb0) (hR.under hb0) (by omega))
  have HVd := hid hV
  have HRd := hid hR
  have hz := zero78
  unfold bodB bodE
  clear HXa HYa hb0 hV hR
  cases hf : fitsB V T
  · rw [hf] at HC
    clear hf
    go_enter Tryz.func11, Tryz.ntmps11
    go_wp2_with fail
    refine HC.out.mono ?_
    rintro e w1 ⟨rfl, hb1⟩
    have HB1 : Hid (Below w.heap.size w w1) := HB0.out.trans (hb1.mono HB0.out.size)
    clear hb1
    go_wp2_with fail
    go_ret2
    exact ⟨rfl, HB1.out⟩
  · rw [hf] at HC
    obtain ⟨hTe, hfit⟩ := (fitsB_iff V T).1 hf
    have hTf := err_formed hTe
    have hle := wrtV_le V T hTf hfit
    rw [if_pos rfl, if_pos rfl]
    have HWr := hid fun w kv nv tv B b l h1 h2 h3 h4 => write_ok V.size V T (Nat.le_refl _) hTf hfit w kv nv tv B b l h1 h2 h3 h4
    generalize wrtV V T = O at *
    clear hf hTe hfit hTf
    go_enter Tryz.func11, Tryz.ntmps11
    go_wp2_with fail
    refine HC.out.mono ?_
    rintro e w1 ⟨rfl, hb1⟩
    have HB1 : Hid (Below w.heap.size w w1) := HB0.out.trans (hb1.mono HB0.out.size)
    have HX1 := hid (blk_alloc (blk_below HX.out hb1) (.cells #[.pointer none, .slice none 0 0] 71))
    have HY1 := hid (blk_alloc (blk_below HY.out hb1) (.cells #[.pointer none, .slice none 0 0] 71))
    have hBl : Bl w1.heap.size w1.heap.size [] (w1.alloc (.cells #[.pointer none, .slice none 0 0] 71)) := .inl ⟨Nat.le_refl _, .slice none 0 0, heap_last w1 _, World.ownsRow_nil _ _ _ _, by simp [Value.ownBlock]⟩
    have hbV : Below w.heap.size w (w1.alloc (.cells #[.pointer none, .slice none 0 0] 71)) := HB1.out.alloc HB1.out.size _
    have hszw := HB1.out.size
    have HW := hid (HWr.out (w1.alloc (.cells #[.pointer none, .slice none 0 0] 71)) _ _ _ w1.heap.size w1.heap.size [] (HVd.out.move hbV.size fun q _ hq => ⟨by omega, hbV.block q hq⟩) (HRd.out.move hbV.size fun q _ hq => ⟨by omega, hbV.block q hq⟩) hBl (by simp only [List.length_nil]; omega))
    have HBV := hid hbV
    have x0 := blk_cell HX1.out 0
    have x1 := blk_cell HX1.out 1
    have x2 := blk_cell HX1.out 2
    have x3 := blk_cell HX1.out 3
    have y0 := blk_cell HY1.out 0
    have y1 := blk_cell HY1.out 1
    have y2 := blk_cell HY1.out 2
    have y3 := blk_cell HY1.out 3
    clear hb1 HC HWr hBl hbV
    go_wp2_with fail
    refine HW.out.mono ?_
    rintro e w2 ⟨rfl, hbl2, hf2⟩
    have hbl2' : Bl w1.heap.size w1.heap.size O w2 := hbl2
    have HS := hid (Tryz.Builder_String_any w1.heap.size w1.heap.size O w2 hbl2' (by have := hf2.size; simp at this; omega))
    have HB2 : Hid (Below w.heap.size w w2) := HBV.out.trans (hf2.below.mono hszw)
    have hs2 : w1.heap.size ≤ w2.heap.size := by have := hf2.size; simp at this; omega
    clear hbl2 hbl2' hf2 HW x0 x1 x2 x3 y0 y1 y2 y3
    go_wp2_with fail
    refine HS.out.mono ?_
    rintro e w3 ⟨rfl, hb3⟩
    have HB3 : Hid (Below w.heap.size w w3) := HB2.out.trans (hb3.mono hszw)
    clear hb3
    go_wp2_with fail
    go_ret2
    exact ⟨rfl, HB3.out⟩
end Go.Proofs.YtihbbgcpdgnhoaaGreatDoor
