/- write; no statement is proved in this text. -/
import Derived.Test.YtihbbgcpdgnhoaaGreatDoorWr
namespace Go.Proofs.YtihbbgcpdgnhoaaGreatDoor
open Go.ChangeShapes Go.WideShapes Go.ChangeAt Go.RowKit Go.Deep
attribute [local go_sem ↓] Go.wp_at_zero Go.wp_at_succ
set_option maxRecDepth 100000

def WOk (B b : Nat) (l : Bs) (w : World) (e : Ending) (w' : World) : Prop := e = .returned (.tuple #[]) ∧ Bl B b l w' ∧ Fr B [71, 5] w w'
theorem bl_below {B b : Nat} {l : Bs} {w w' : World} (h : Bl B b l w) (hb : Below w.heap.size w w') : Bl B b l w' := by
  have key : ∀ p, Lib.BuilderAt 71 5 B b p (Lib.byteCells l) w → Lib.BuilderAt 71 5 B b p (Lib.byteCells l) w' := fun p h => by
    have hlt := h.lt
    obtain ⟨h0, v, h1, h2, h3⟩ := h
    exact ⟨h0, v, blk_below h1 hb, own_keep1 h2 fun k hk => hb.block k (h2.lt k hk).2, h3⟩
  rcases h with h | h
  · exact .inl (key _ h)
  · exact .inr (key _ h)
theorem bl_lo {B b : Nat} {l : Bs} {w : World} (h : Bl B b l w) : B ≤ b ∧ b < w.heap.size := by
  rcases h with h | h
  · exact ⟨h.1, h.lt⟩
  · exact ⟨h.1, h.lt⟩
theorem two_boxes (w : World) (o p : Obj) : ((w.alloc o).alloc p).heap[w.heap.size]? = some o ∧ ((w.alloc o).alloc p).heap[w.heap.size + 1]? = some p ∧ Below w.heap.size w ((w.alloc o).alloc p) := by
  have e : (w.alloc o).heap.size = w.heap.size + 1 := by simp
  have h2 := heap_last (w.alloc o) p
  rw [e] at h2
  exact ⟨blk_alloc (heap_last w o) p, h2, (below_one w o).trans ((below_one (w.alloc o) p).mono (by omega))⟩
set_option maxHeartbeats 1600000 in
theorem write_1_8 (w : World) (B b : Nat) (l : Bs) (n : Nat) (ka an at_ : Option Addr) (kc ln cn lt_ ct : Nat) (h : Bl B b l w) (hl : l.length ≤ 1000000) (hn : n < 256 ^ 1) : Calls Tryz.prog 24 #[pq b, .agg #[i64 1, i64 (n : Nat), str [], .slice ka 0 kc], .agg #[i64 1, i64 8, .slice an ln cn, .slice at_ lt_ ct]] w (WOk B b (l ++ (tb 1 1 ++ tb n 1)) w) := by
  have HN := hid hn
  clear hn
  obtain ⟨HXa, HYa, hb0⟩ := two_boxes w (.cells #[i64 1, i64 ((n : Nat)), str [], .slice ka 0 kc] 28) (.cells #[i64 1, i64 (8), .slice an ln cn, .slice at_ lt_ ct] 25)
  have HX := hid HXa
  have HY := hid HYa
  have HB0 := hid hb0
  have HBl := hid (bl_below h hb0)
  obtain ⟨hlo, hlt⟩ := bl_lo h
  have HC1 := hid (written_ok ((w.alloc (.cells #[i64 1, i64 ((n : Nat)), str [], .slice ka 0 kc] 28)).alloc (.cells #[i64 1, i64 (8), .slice an ln cn, .slice at_ lt_ ct] 25)) 1 1 (by omega) (by omega) (by show (1 : Nat) < 256; omega))
  clear HXa HYa hb0 h
  go_enter Tryz.func24, Tryz.ntmps24
  go_wp2_with fail
  refine HC1.out.mono ?_
  rintro e w1 ⟨rfl, hb1⟩
  have HX1 := hid (blk_below HX.out hb1)
  have HY1 := hid (blk_below HY.out hb1)
  have HB1 : Hid (Below w.heap.size w w1) := HB0.out.trans (hb1.mono HB0.out.size)
  have hs1 : B ≤ w1.heap.size := by have := HB1.out.size; omega
  have HW1 := hid (wstr_ok (tb 1 1) (bl_below HBl.out hb1) (by rw [tb_len]; omega) hs1)
  clear hb1 HC1
  go_wp2_with fail
  refine HW1.out.mono ?_
  rintro e w2 ⟨⟨v2, rfl⟩, hbl2, hf2⟩
  have HBl2 := hid hbl2
  have HX2 := hid (hf2.kept _ _ HX1.out rfl)
  have HY2 := hid (hf2.kept _ _ HY1.out rfl)
  have HF2 : Hid (Fr B [71, 5] w w2) := (Fr.of_below _ HB1.out (by omega)).trans hf2
  have hs2 : B ≤ w2.heap.size := Nat.le_trans hs1 hf2.size
  have x0 := blk_cell HX2.out 0
  have x1 := blk_cell HX2.out 1
  have x2 := blk_cell HX2.out 2
  have x3 := blk_cell HX2.out 3
  have y1 := blk_cell HY2.out 1
  clear hbl2 hf2 HW1
  have HC2 := hid (written_ok w2 n 1 (by omega) (by omega) HN.out)
  go_wp2_with fail
  refine HC2.out.mono ?_
  rintro e w3 ⟨rfl, hb3⟩
  have HW3 := hid (wstr_ok (tb n 1) (bl_below HBl2.out hb3) (by rw [tb_len, List.length_append, tb_len]; omega) (Nat.le_trans hs2 hb3.size))
  have HF3 : Hid (Fr B [71, 5] w w3) := HF2.out.trans (Fr.of_below _ hb3 hs2)
  clear hb3 HC2 x0 x1 x2 x3 y1
  go_wp2_with fail
  refine HW3.out.mono ?_
  rintro e w4 ⟨⟨v4, rfl⟩, hbl4, hf4⟩
  have HBl4 : Hid (Bl B b (l ++ (tb 1 1 ++ tb n 1)) w4) := by rw [← List.append_assoc]; exact hbl4
  have HF4 : Hid (Fr B [71, 5] w w4) := HF3.out.trans hf4
  clear hbl4 hf4 HW3
  go_wp2_with fail
  go_end0
  exact ⟨rfl, HBl4.out, HF4.out⟩
set_option maxHeartbeats 1600000 in
theorem write_1_16 (w : World) (B b : Nat) (l : Bs) (n : Nat) (ka an at_ : Option Addr) (kc ln cn lt_ ct : Nat) (h : Bl B b l w) (hl : l.length ≤ 1000000) (hn : n < 256 ^ 2) : Calls Tryz.prog 24 #[pq b, .agg #[i64 1, i64 (n : Nat), str [], .slice ka 0 kc], .agg #[i64 1, i64 16, .slice an ln cn, .slice at_ lt_ ct]] w (WOk B b (l ++ (tb 1 1 ++ tb n 2)) w) := by
  have HN := hid hn
  clear hn
  obtain ⟨HXa, HYa, hb0⟩ := two_boxes w (.cells #[i64 1, i64 ((n : Nat)), str [], .slice ka 0 kc] 28) (.cells #[i64 1, i64 (16), .slice an ln cn, .slice at_ lt_ ct] 25)
  have HX := hid HXa
  have HY := hid HYa
  have HB0 := hid hb0
  have HBl := hid (bl_below h hb0)
  obtain ⟨hlo, hlt⟩ := bl_lo h
  have HC1 := hid (written_ok ((w.alloc (.cells #[i64 1, i64 ((n : Nat)), str [], .slice ka 0 kc] 28)).alloc (.cells #[i64 1, i64 (16), .slice an ln cn, .slice at_ lt_ ct] 25)) 1 1 (by omega) (by omega) (by show (1 : Nat) < 256; omega))
  clear HXa HYa hb0 h
  go_enter Tryz.func24, Tryz.ntmps24
  go_wp2_with fail
  refine HC1.out.mono ?_
  rintro e w1 ⟨rfl, hb1⟩
  have HX1 := hid (blk_below HX.out hb1)
  have HY1 := hid (blk_below HY.out hb1)
  have HB1 : Hid (Below w.heap.size w w1) := HB0.out.trans (hb1.mono HB0.out.size)
  have hs1 : B ≤ w1.heap.size := by have := HB1.out.size; omega
  have HW1 := hid (wstr_ok (tb 1 1) (bl_below HBl.out hb1) (by rw [tb_len]; omega) hs1)
  clear hb1 HC1
  go_wp2_with fail
  refine HW1.out.mono ?_
  rintro e w2 ⟨⟨v2, rfl⟩, hbl2, hf2⟩
  have HBl2 := hid hbl2
  have HX2 := hid (hf2.kept _ _ HX1.out rfl)
  have HY2 := hid (hf2.kept _ _ HY1.out rfl)
  have HF2 : Hid (Fr B [71, 5] w w2) := (Fr.of_below _ HB1.out (by omega)).trans hf2
  have hs2 : B ≤ w2.heap.size := Nat.le_trans hs1 hf2.size
  have x0 := blk_cell HX2.out 0
  have x1 := blk_cell HX2.out 1
  have x2 := blk_cell HX2.out 2
  have x3 := blk_cell HX2.out 3
  have y1 := blk_cell HY2.out 1
  clear hbl2 hf2 HW1
  have HC2 := hid (written_ok w2 n 2 (by omega) (by omega) HN.out)
  go_wp2_with fail
  refine HC2.out.mono ?_
  rintro e w3 ⟨rfl, hb3⟩
  have HW3 := hid (wstr_ok (tb n 2) (bl_below HBl2.out hb3) (by rw [tb_len, List.length_append, tb_len]; omega) (Nat.le_trans hs2 hb3.size))
  have HF3 : Hid (Fr B [71, 5] w w3) := HF2.out.trans (Fr.of_below _ hb3 hs2)
  clear hb3 HC2 x0 x1 x2 x3 y1
  go_wp2_with fail
  refine HW3.out.mono ?_
  rintro e w4 ⟨⟨v4, rfl⟩, hbl4, hf4⟩
  have HBl4 : Hid (Bl B b (l ++ (tb 1 1 ++ tb n 2)) w4) := by rw [← List.append_assoc]; exact hbl4
  have HF4 : Hid (Fr B [71, 5] w w4) := HF3.out.trans hf4
  clear hbl4 hf4 HW3
  go_wp2_with fail
  go_end0
  exact ⟨rfl, HBl4.out, HF4.out⟩
set_option maxHeartbeats 1600000 in
theorem write_1_32 (w : World) (B b : Nat) (l : Bs) (n : Nat) (ka an at_ : Option Addr) (kc ln cn lt_ ct : Nat) (h : Bl B b l w) (hl : l.length ≤ 1000000) (hn : n < 256 ^ 4) : Calls Tryz.prog 24 #[pq b, .agg #[i64 1, i64 (n : Nat), str [], .slice ka 0 kc], .agg #[i64 1, i64 32, .slice an ln cn, .slice at_ lt_ ct]] w (WOk B b (l ++ (tb 1 1 ++ tb n 4)) w) := by
  have HN := hid hn
  clear hn
  obtain ⟨HXa, HYa, hb0⟩ := two_boxes w (.cells #[i64 1, i64 ((n : Nat)), str [], .slice ka 0 kc] 28) (.cells #[i64 1, i64 (32), .slice an ln cn, .slice at_ lt_ ct] 25)
  have HX := hid HXa
  have HY := hid HYa
  have HB0 := hid hb0
  have HBl := hid (bl_below h hb0)
  obtain ⟨hlo, hlt⟩ := bl_lo h
  have HC1 := hid (written_ok ((w.alloc (.cells #[i64 1, i64 ((n : Nat)), str [], .slice ka 0 kc] 28)).alloc (.cells #[i64 1, i64 (32), .slice an ln cn, .slice at_ lt_ ct] 25)) 1 1 (by omega) (by omega) (by show (1 : Nat) < 256; omega))
  clear HXa HYa hb0 h
  go_enter Tryz.func24, Tryz.ntmps24
  go_wp2_with fail
  refine HC1.out.mono ?_
  rintro e w1 ⟨rfl, hb1⟩
  have HX1 := hid (blk_below HX.out hb1)
  have HY1 := hid (blk_below HY.out hb1)
  have HB1 : Hid (Below w.heap.size w w1) := HB0.out.trans (hb1.mono HB0.out.size)
  have hs1 : B ≤ w1.heap.size := by have := HB1.out.size; omega
  have HW1 := hid (wstr_ok (tb 1 1) (bl_below HBl.out hb1) (by rw [tb_len]; omega) hs1)
  clear hb1 HC1
  go_wp2_with fail
  refine HW1.out.mono ?_
  rintro e w2 ⟨⟨v2, rfl⟩, hbl2, hf2⟩
  have HBl2 := hid hbl2
  have HX2 := hid (hf2.kept _ _ HX1.out rfl)
  have HY2 := hid (hf2.kept _ _ HY1.out rfl)
  have HF2 : Hid (Fr B [71, 5] w w2) := (Fr.of_below _ HB1.out (by omega)).trans hf2
  have hs2 : B ≤ w2.heap.size := Nat.le_trans hs1 hf2.size
  have x0 := blk_cell HX2.out 0
  have x1 := blk_cell HX2.out 1
  have x2 := blk_cell HX2.out 2
  have x3 := blk_cell HX2.out 3
  have y1 := blk_cell HY2.out 1
  clear hbl2 hf2 HW1
  have HC2 := hid (written_ok w2 n 4 (by omega) (by omega) HN.out)
  go_wp2_with fail
  refine HC2.out.mono ?_
  rintro e w3 ⟨rfl, hb3⟩
  have HW3 := hid (wstr_ok (tb n 4) (bl_below HBl2.out hb3) (by rw [tb_len, List.length_append, tb_len]; omega) (Nat.le_trans hs2 hb3.size))
  have HF3 : Hid (Fr B [71, 5] w w3) := HF2.out.trans (Fr.of_below _ hb3 hs2)
  clear hb3 HC2 x0 x1 x2 x3 y1
  go_wp2_with fail
  refine HW3.out.mono ?_
  rintro e w4 ⟨⟨v4, rfl⟩, hbl4, hf4⟩
  have HBl4 : Hid (Bl B b (l ++ (tb 1 1 ++ tb n 4)) w4) := by rw [← List.append_assoc]; exact hbl4
  have HF4 : Hid (Fr B [71, 5] w w4) := HF3.out.trans hf4
  clear hbl4 hf4 HW3
  go_wp2_with fail
  go_end0
  exact ⟨rfl, HBl4.out, HF4.out⟩
set_option maxHeartbeats 1600000 in
theorem write_2 (w : World) (B b : Nat) (l s : Bs) (tn : Int) (ka an at_ : Option Addr) (kc ln cn lt_ ct : Nat) (h : Bl B b l w) (hl : l.length ≤ 1000000) (hn : s.length < 256) : Calls Tryz.prog 24 #[pq b, .agg #[i64 2, i64 0, str s, .slice ka 0 kc], .agg #[i64 2, i64 tn, .slice an ln cn, .slice at_ lt_ ct]] w (WOk B b (l ++ (tb 2 1 ++ (tb s.length 1 ++ s))) w) := by
  have hsz : (⟨s.toArray⟩ : ByteArray).size = s.length := by show s.toArray.size = _; simp
  obtain ⟨HXa, HYa, hb0⟩ := two_boxes w (.cells #[i64 2, i64 (0), str s, .slice ka 0 kc] 28) (.cells #[i64 2, i64 (tn), .slice an ln cn, .slice at_ lt_ ct] 25)
  have HX := hid HXa
  have HY := hid HYa
  have HB0 := hid hb0
  have HBl := hid (bl_below h hb0)
  obtain ⟨hlo, hlt⟩ := bl_lo h
  have HC1 := hid (written_ok ((w.alloc (.cells #[i64 2, i64 (0), str s, .slice ka 0 kc] 28)).alloc (.cells #[i64 2, i64 (tn), .slice an ln cn, .slice at_ lt_ ct] 25)) 2 1 (by omega) (by omega) (by show (2 : Nat) < 256; omega))
  clear HXa HYa hb0 h
  go_enter Tryz.func24, Tryz.ntmps24
  go_wp2_with fail
  refine HC1.out.mono ?_
  rintro e w1 ⟨rfl, hb1⟩
  have HX1 := hid (blk_below HX.out hb1)
  have HY1 := hid (blk_below HY.out hb1)
  have HB1 : Hid (Below w.heap.size w w1) := HB0.out.trans (hb1.mono HB0.out.size)
  have hs1 : B ≤ w1.heap.size := by have := HB1.out.size; omega
  have HW1 := hid (wstr_ok (tb 2 1) (bl_below HBl.out hb1) (by rw [tb_len]; omega) hs1)
  clear hb1 HC1
  go_wp2_with fail
  refine HW1.out.mono ?_
  rintro e w2 ⟨⟨v2, rfl⟩, hbl2, hf2⟩
  have HBl2 := hid hbl2
  have HX2 := hid (hf2.kept _ _ HX1.out rfl)
  have HY2 := hid (hf2.kept _ _ HY1.out rfl)
  have HF2 : Hid (Fr B [71, 5] w w2) := (Fr.of_below _ HB1.out (by omega)).trans hf2
  have hs2 : B ≤ w2.heap.size := Nat.le_trans hs1 hf2.size
  have x0 := blk_cell HX2.out 0
  have x1 := blk_cell HX2.out 1
  have x2 := blk_cell HX2.out 2
  have x3 := blk_cell HX2.out 3
  have y1 := blk_cell HY2.out 1
  clear hbl2 hf2 HW1
  have HC2 := hid (written_ok w2 s.length 1 (by omega) (by omega) (by show s.length < 256; exact hn))
  go_wp2_with fail
  refine HC2.out.mono ?_
  rintro e w3 ⟨rfl, hb3⟩
  have HW3 := hid (wstr_ok (tb s.length 1) (bl_below HBl2.out hb3) (by rw [tb_len, List.length_append, tb_len]; omega) (Nat.le_trans hs2 hb3.size))
  have HF3 : Hid (Fr B [71, 5] w w3) := HF2.out.trans (Fr.of_below _ hb3 hs2)
  have HX3 := hid (blk_below HX2.out hb3)
  have hs3 : B ≤ w3.heap.size := Nat.le_trans hs2 hb3.size
  clear hb3 HC2 x0 x1 x2 x3 y1
  go_wp2_with fail
  refine HW3.out.mono ?_
  rintro e w4 ⟨⟨v4, rfl⟩, hbl4, hf4⟩
  have HW5 := hid (wstr_ok s hbl4 (by rw [List.length_append, List.length_append, tb_len, tb_len]; omega) (Nat.le_trans hs3 hf4.size))
  have HF4 : Hid (Fr B [71, 5] w w4) := HF3.out.trans hf4
  have x2 := blk_cell (hf4.kept _ _ HX3.out rfl) 2
  clear hbl4 hf4 HW3
  go_wp2_with fail
  refine HW5.out.mono ?_
  rintro e w5 ⟨⟨v5, rfl⟩, hbl5, hf5⟩
  have HBl5 : Hid (Bl B b (l ++ (tb 2 1 ++ (tb s.length 1 ++ s))) w5) := by
    have : l ++ (tb 2 1 ++ (tb s.length 1 ++ s)) = l ++ tb 2 1 ++ tb s.length 1 ++ s := by simp [List.append_assoc]
    rw [this]
    exact hbl5
  have HF5 : Hid (Fr B [71, 5] w w5) := HF4.out.trans hf5
  clear hbl5 hf5 HW5
  go_wp2_with fail
  go_end0
  exact ⟨rfl, HBl5.out, HF5.out⟩
structure SqW3 (Q Y : Nat) (U : Vl) (ku : Value) (tn : Int) (an at_ : Option Addr) (ln cn lt_ ct : Nat) (W : World) : Prop where
  one : W.heap[Q]? = some (vO U ku)
  two : W.heap[Y]? = some (.cells #[i64 3, i64 tn, .slice an ln cn, .slice at_ lt_ ct] 25)
set_option maxHeartbeats 3200000 in
theorem write_3 (M : Nat) (ih : ∀ (V : Vl) (T : Ty), V.size ≤ M → T.formed = true → fitV V T → ∀ (w : World) (kv nv tv : Value) (B b : Nat) (l : Bs), Vd w (fun k => k < B) V kv → Rd w (fun k => k < B) T nv tv → Bl B b l w → l.length + (wrtV V T).length ≤ 1000000 → Calls Tryz.prog 24 #[pq b, vlV V kv, tyV T.kind T.num nv tv] w (WOk B b (l ++ wrtV V T) w))
    (w : World) (B b : Nat) (l : Bs) (kids : List Vl) (tn : Int) (T : Ty) (ka an at_ : Option Addr) (m kc ln cn lt_ ct : Nat) (hm : m = kids.length) (hM : sizeL kids ≤ M) (hTk : T.kind = 3) (hTn : T.num = tn) (hTf : T.formed = true) (hfit : fitL kids 0 T) (h3 : T.kind = 3 → 0 < T.kids.length) (h4 : T.kind ≠ 3 → kids.length ≤ T.kids.length) (h255 : kids.length < 256)
    (hV : Vd w (fun k => k < B) (.mk 3 0 [] kids) (.slice ka m kc)) (hR : Rd w (fun k => k < B) T (.slice an ln cn) (.slice at_ lt_ ct)) (h : Bl B b l w) (hl : l.length + 2 + (wrtL kids 0 T).length ≤ 1000000) : Calls Tryz.prog 24 #[pq b, .agg #[i64 3, i64 0, str [], .slice ka m kc], .agg #[i64 3, i64 tn, .slice an ln cn, .slice at_ lt_ ct]] w (WOk B b (l ++ (tb 3 1 ++ (tb m 1 ++ wrtL kids 0 T))) w) := by
  have HVd := hid hV
  have HRd := hid hR
  have HFit := hid hfit
  have HIh := hid ih
  have HM := hid hM
  have HTk := hid hTk
  have HTn := hid hTn
  have HTf := hid hTf
  have H3 := hid h3
  have H4 := hid h4
  have HMl := hid hm
  have h255m : m < 256 := by omega
  have hcap : m ≤ kc := by
    cases hV with
    | mk b2 off kvs hs hl2 hcap2 ha hc hr => rw [hm]; exact hcap2
  clear hV hR hfit ih hM hTk hTn hTf h3 h4 hm h255
  obtain ⟨HXa, HYa, hb0⟩ := two_boxes w (.cells #[i64 3, i64 (0), str [], .slice ka m kc] 28) (.cells #[i64 3, i64 (tn), .slice an ln cn, .slice at_ lt_ ct] 25)
  have HX := hid HXa
  have HY := hid HYa
  have HB0 := hid hb0
  have HBl := hid (bl_below h hb0)
  obtain ⟨hlo, hlt⟩ := bl_lo h
  have HC1 := hid (written_ok ((w.alloc (.cells #[i64 3, i64 (0), str [], .slice ka m kc] 28)).alloc (.cells #[i64 3, i64 (tn), .slice an ln cn, .slice at_ lt_ ct] 25)) 3 1 (by omega) (by omega) (by show (3 : Nat) < 256; omega))
  clear HXa HYa hb0 h
  go_enter Tryz.func24, Tryz.ntmps24
  go_wp2_with fail
  refine HC1.out.mono ?_
  rintro e w1 ⟨rfl, hb1⟩
  have HX1 := hid (blk_below HX.out hb1)
  have HY1 := hid (blk_below HY.out hb1)
  have HB1 : Hid (Below w.heap.size w w1) := HB0.out.trans (hb1.mono HB0.out.size)
  have hs1 : B ≤ w1.heap.size := by have := HB1.out.size; omega
  have HW1 := hid (wstr_ok (tb 3 1) (bl_below HBl.out hb1) (by rw [tb_len]; omega) hs1)
  clear hb1 HC1
  go_wp2_with fail
  refine HW1.out.mono ?_
  rintro e w2 ⟨⟨v2, rfl⟩, hbl2, hf2⟩
  have HBl2 := hid hbl2
  have HX2 := hid (hf2.kept _ _ HX1.out rfl)
  have HY2 := hid (hf2.kept _ _ HY1.out rfl)
  have HF2 : Hid (Fr B [71, 5] w w2) := (Fr.of_below _ HB1.out (by omega)).trans hf2
  have hs2 : B ≤ w2.heap.size := Nat.le_trans hs1 hf2.size
  have x0 := blk_cell HX2.out 0
  have x1 := blk_cell HX2.out 1
  have x2 := blk_cell HX2.out 2
  have x3 := blk_cell HX2.out 3
  have y1 := blk_cell HY2.out 1
  clear hbl2 hf2 HW1
  have HC2 := hid (written_ok w2 m 1 (by omega) (by omega) (by show m < 256; omega))
  go_wp2_with fail
  refine HC2.out.mono ?_
  rintro e w3 ⟨rfl, hb3⟩
  have HW3 := hid (wstr_ok (tb m 1) (bl_below HBl2.out hb3) (by rw [tb_len, List.length_append, tb_len]; omega) (Nat.le_trans hs2 hb3.size))
  have HF3 : Hid (Fr B [71, 5] w w3) := HF2.out.trans (Fr.of_below _ hb3 hs2)
  have HX3 := hid (blk_below HX2.out hb3)
  have HY3 := hid (blk_below HY2.out hb3)
  have hs3 : B ≤ w3.heap.size := Nat.le_trans hs2 hb3.size
  clear hb3 HC2 x0 x1 x2 x3 y1
  go_wp2_with fail
  refine HW3.out.mono ?_
  rintro e w4 ⟨⟨v4, rfl⟩, hbl4, hf4⟩
  have HBl4 := hid hbl4
  have HF4 : Hid (Fr B [71, 5] w w4) := HF3.out.trans hf4
  have HX4 := hid (hf4.kept _ _ HX3.out rfl)
  have HY4 := hid (hf4.kept _ _ HY3.out rfl)
  have x3 := blk_cell HX4.out 3
  clear hbl4 hf4 HW3
  go_wp2_with fail
  go_loopw [24] (fun i wr => ∃ (k : Nat), k ≤ m ∧ i = i64 k ∧ Hid (Bl B b (l ++ tb 3 1 ++ tb m 1 ++ wrtL (kids.take k) 0 T) wr) ∧ Hid (Fr B [71, 5] w wr) ∧ Hid (wr.heap[w.heap.size + 1]? = some (.cells #[i64 3, i64 tn, .slice an ln cn, .slice at_ lt_ ct] 25)) ∧ Hid (B ≤ wr.heap.size)) (fun i _ => m - (intOf i).toNat)
  case atStart => exact ⟨0, by omega, rfl, by have := HBl4.out; show Bl B b (l ++ tb 3 1 ++ tb m 1 ++ []) w4; rw [List.append_nil]; exact this, HF4, HY4, by have := HF4.out.size; show _ ≤ _; omega⟩
  case round =>
    obtain ⟨k, hk, rfl, HBr, HFr, HYr, HLr⟩ := hrel
    by_cases hlt2 : k < m
    · have hkl : k < kids.length := by rw [← HMl.out]; exact hlt2
      have hkI : (k : Int) < m := by omega
      have hvr := HVd.out.move (S' := fun k => k < B) HFr.out.size fun q hq _ => ⟨hq, HFr.out.below.block q hq⟩
      obtain ⟨gb, off, kv', hka, hSb, hblt, hr, hvd⟩ := hvr.kid k hkl
      subst hka
      obtain ⟨ak2, ck2, rfl⟩ := hvd.form
      obtain ⟨U, hU⟩ : ∃ U, U = kids[k] := ⟨_, rfl⟩
      have hr' : wr.rangeAt gb (off + k * 4) [i64 kids[k].kind, i64 kids[k].num, str kids[k].s, .slice ak2 kids[k].kids.length ck2] := hr
      have hvd' : Vd wr (fun k => k < B) kids[k] (.slice ak2 kids[k].kids.length ck2) := hvd
      have hUs : U.size ≤ M := by rw [hU]; exact Nat.le_trans (sizeL_mem (List.getElem_mem hkl)) HM.out
      have hUf : fitV U (kidT T k) := by
        have := fitL_get T kids 0 k hkl HFit.out
        rw [Nat.zero_add] at this
        rw [hU]; exact this
      have hUt := wrtL_take T kids k hkl
      have hUl := wrtL_len T kids (k + 1)
      rw [hUt, List.length_append] at hUl
      rw [← hU] at hr' hvd' hUt hUl
      have c0 : wr.cell? ⟨gb, off + k * 4, none⟩ = some (i64 U.kind) := hr' 0 _ rfl
      have c1 : wr.cell? ⟨gb, off + k * 4 + 1, none⟩ = some (i64 U.num) := hr' 1 _ rfl
      have c2 : wr.cell? ⟨gb, off + k * 4 + 2, none⟩ = some (str U.s) := hr' 2 _ rfl
      have c3 : wr.cell? ⟨gb, off + k * 4 + 3, none⟩ = some (.slice ak2 U.kids.length ck2) := hr' 3 _ rfl
      have h3' := H3.out
      have h4' : T.kind ≠ 3 → k < T.kids.length := fun h => Nat.lt_of_lt_of_le hkl (H4.out h)
      have hKf := kidT_formed HTf.out k h3' h4'
      have HQ := hid (heap_last wr (vO U (.slice ak2 U.kids.length ck2)))
      have HYv := hid (blk_alloc HYr.out (vO U (.slice ak2 U.kids.length ck2)))
      have HBv := hid (bl_below HBr.out (below_one wr (vO U (.slice ak2 U.kids.length ck2))))
      have HFv : Hid (Fr B [71, 5] w (wr.alloc (vO U (.slice ak2 U.kids.length ck2)))) := HFr.out.alloc HLr.out _
      have HLv : Hid (B ≤ (wr.alloc (vO U (.slice ak2 U.kids.length ck2))).heap.size) := by have := HLr.out; show _ ≤ _; simp; omega
      have HVv := hid (hvd'.under (below_one wr (vO U (.slice ak2 U.kids.length ck2))))
      have HUt := hid hUt
      have HUl := hid hUl
      have HUf := hid hUf
      have HKf := hid hKf
      have HUs := hid hUs
      have HH3 := hid h3'
      have HH4 := hid h4'
      clear hr hr' hvd hvd' hvr hU hUs hUf hUt hUl h3' h4' hKf hSb
      go_upto_region 7 with fail
      obtain ⟨Q, hQ⟩ : ∃ Q, Q = wr.heap.size := ⟨_, rfl⟩
      obtain ⟨Y, hY⟩ : ∃ Y, Y = w.heap.size + 1 := ⟨_, rfl⟩
      rw [← hQ] at HQ ⊢
      rw [← hY] at HYv ⊢
      have HYe := hid hY
      clear hQ hY c0 c1 c2 c3
      generalize wr.alloc (vO U (.slice ak2 U.kids.length ck2)) = X at *
      have HS : Hid (SqW3 Q Y U (.slice ak2 U.kids.length ck2) tn an at_ ln cn lt_ ct X.drew) := ⟨HQ.out, HYv.out⟩
      have HRx : Hid (Rd X.drew (fun k => k < B) T (.slice an ln cn) (.slice at_ lt_ ct)) := HRd.out.move HFv.out.size fun q hq _ => ⟨hq, HFv.out.below.block q hq⟩
      have HCB : Hid (Calls Tryz.prog 41 #[.agg #[i64 3, i64 tn, .slice an ln cn, .slice at_ lt_ ct], i64 k] X.drew fun e w' => ∃ a1 c1 a2 c2, e = .returned (tyV (kidT T k).kind (kidT T k).num (.slice a1 (kidT T k).names.length c1) (.slice a2 (kidT T k).kids.length c2)) ∧ Below X.drew.heap.size X.drew w' ∧ Rd w' (fun k => k < B) (kidT T k) (.slice a1 (kidT T k).names.length c1) (.slice a2 (kidT T k).kids.length c2)) := by
        have := wbelow_ok T k X.drew (fun k => k < B) _ _ HRx.out HH3.out HH4.out
        rw [HTk.out, HTn.out] at this
        exact this
      refine wp_region_noPanic ?_
      refine wp_region_last (SqW3 Q Y U (.slice ak2 U.kids.length ck2) tn an at_ ln cn lt_ ct) 5 (by kernel_rfl) ?_
      refine wpL_take 0 29 (pq b) [] rfl rfl (by kernel_rfl) (by decide) (by kernel_rfl) (by kernel_rfl) (by kernel_rfl) (fun _ _ _ h => h) HS.out (by rfl) (fun W hW => by go_simp) ?_
      simp only [Act.put, List.setIfInBounds_toArray, List.set_cons_zero, List.set_cons_succ]
      refine wpL_take 1 30 (vlV U (.slice ak2 U.kids.length ck2)) [] rfl rfl (by kernel_rfl) (by decide) (by kernel_rfl) (by kernel_rfl) (by kernel_rfl) (fun _ _ _ h => h) HS.out (by rfl) (fun W hW => by have q0 := blk_cell hW.one 0; have q1 := blk_cell hW.one 1; have q2 := blk_cell hW.one 2; have q3 := blk_cell hW.one 3; go_simp) ?_
      simp only [Act.put, List.setIfInBounds_toArray, List.set_cons_zero, List.set_cons_succ]
      refine wpL_take 2 31 (.agg #[i64 3, i64 tn, .slice an ln cn, .slice at_ lt_ ct]) [4] rfl rfl (by kernel_rfl) (by decide) (by kernel_rfl) (by kernel_rfl) (by kernel_rfl) (fun _ _ _ h => h) HS.out (by rfl) (fun W hW => by have q0 := blk_cell hW.two 0; have q1 := blk_cell hW.two 1; have q2 := blk_cell hW.two 2; have q3 := blk_cell hW.two 3; go_simp) ?_
      simp only [Act.put, List.setIfInBounds_toArray, List.set_cons_zero, List.set_cons_succ]
      refine wpL_take 3 32 (i64 k) [4] rfl rfl (by kernel_rfl) (by decide) (by kernel_rfl) (by kernel_rfl) (by kernel_rfl) (fun _ _ _ h => h) HS.out (by rfl) (fun W hW => by go_simp) ?_
      simp only [Act.put, List.setIfInBounds_toArray, List.set_cons_zero, List.set_cons_succ]
      refine wpL_one 4 rfl (by kernel_rfl) (by rfl) (fun K hK => ?_)
      go_simp
      refine HCB.out.mono ?_
      rintro e w6 ⟨a1, cc1, a2, cc2, rfl, hb6, hrd6⟩
      have hb6' : Below X.heap.size X w6 := ⟨hb6.os, hb6.tape, hb6.output, hb6.size, hb6.block⟩
      have HS6 : Hid (SqW3 Q Y U (.slice ak2 U.kids.length ck2) tn an at_ ln cn lt_ ct w6) := ⟨blk_below HQ.out hb6', blk_below HYv.out hb6'⟩
      have HF6 : Hid (Fr B [71, 5] w w6) := HFv.out.trans (Fr.of_below _ hb6' HLv.out)
      have HY6 := hid (blk_below HYv.out hb6')
      have HL6 : Hid (B ≤ w6.heap.size) := Nat.le_trans HLv.out hb6'.size
      have HI := hid (HIh.out U (kidT T k) HUs.out HKf.out HUf.out w6 _ _ _ B b _ (HVv.out.under hb6') hrd6 (bl_below HBv.out hb6') (by have := HUl.out; simp only [List.length_append, tb_len]; omega))
      clear hb6 hb6' hrd6
      go_simp
      refine hK.out _ _ (fun _ => HS6.out) ?_
      clear hK K
      refine wpL_one 5 rfl (by kernel_rfl) (by rfl) (fun K hK => ?_)
      go_simp
      refine HI.out.mono ?_
      rintro e w8 ⟨rfl, hbl8, hf8⟩
      have HB8 : Hid (Bl B b (l ++ tb 3 1 ++ tb m 1 ++ wrtL (kids.take (k + 1)) 0 T) w8) := by rw [HUt.out, ← List.append_assoc]; exact hbl8
      have HF8 : Hid (Fr B [71, 5] w w8) := HF6.out.trans hf8
      have HY8 : Hid (w8.heap[w.heap.size + 1]? = some (.cells #[i64 3, i64 tn, .slice an ln cn, .slice at_ lt_ ct] 25)) := by rw [← HYe.out]; exact hf8.kept _ _ HY6.out rfl
      have HL8 : Hid (B ≤ w8.heap.size) := Nat.le_trans HL6.out hf8.size
      clear hbl8 hf8
      go_simp
      refine hK.out _ _ (fun h => absurd rfl h) ?_
      clear hK K
      refine wpL_done (by kernel_rfl) ?_
      refine NoPanic.normal ?_
      have hY := HYe.out
      subst hY
      go_wp2_with fail
      exact ⟨⟨k + 1, by omega, by go_num, HB8, HF8, HY8, HL8⟩, by simp [intOf]; omega⟩
    · have hkm : k = m := by omega
      subst hkm
      have HBe : Hid (Bl B b (l ++ (tb 3 1 ++ (tb k 1 ++ wrtL kids 0 T))) wr) := by
        have h := HBr.out
        rw [List.take_of_length_le (by rw [HMl.out]; exact Nat.le_refl _)] at h
        have : l ++ (tb 3 1 ++ (tb k 1 ++ wrtL kids 0 T)) = l ++ tb 3 1 ++ tb k 1 ++ wrtL kids 0 T := by simp [List.append_assoc]
        rw [this]
        exact h
      go_wp2_with fail
      go_end0
      exact ⟨rfl, HBe.out, HFr.out⟩
structure SqW4 (Q Y : Nat) (U : Vl) (ku : Value) (tn : Int) (an at_ : Option Addr) (ln cn lt_ ct : Nat) (W : World) : Prop where
  one : W.heap[Q]? = some (vO U ku)
  two : W.heap[Y]? = some (.cells #[i64 4, i64 tn, .slice an ln cn, .slice at_ lt_ ct] 25)
set_option maxHeartbeats 3200000 in
theorem write_4 (M : Nat) (ih : ∀ (V : Vl) (T : Ty), V.size ≤ M → T.formed = true → fitV V T → ∀ (w : World) (kv nv tv : Value) (B b : Nat) (l : Bs), Vd w (fun k => k < B) V kv → Rd w (fun k => k < B) T nv tv → Bl B b l w → l.length + (wrtV V T).length ≤ 1000000 → Calls Tryz.prog 24 #[pq b, vlV V kv, tyV T.kind T.num nv tv] w (WOk B b (l ++ wrtV V T) w))
    (w : World) (B b : Nat) (l : Bs) (kids : List Vl) (tn : Int) (T : Ty) (ka an at_ : Option Addr) (m kc ln cn lt_ ct : Nat) (hm : m = kids.length) (hM : sizeL kids ≤ M) (hTk : T.kind = 4) (hTn : T.num = tn) (hTf : T.formed = true) (hfit : fitL kids 0 T) (h3 : T.kind = 3 → 0 < T.kids.length) (h4 : T.kind ≠ 3 → kids.length ≤ T.kids.length) (h255 : kids.length < 256)
    (hV : Vd w (fun k => k < B) (.mk 4 0 [] kids) (.slice ka m kc)) (hR : Rd w (fun k => k < B) T (.slice an ln cn) (.slice at_ lt_ ct)) (h : Bl B b l w) (hl : l.length + 2 + (wrtL kids 0 T).length ≤ 1000000) : Calls Tryz.prog 24 #[pq b, .agg #[i64 4, i64 0, str [], .slice ka m kc], .agg #[i64 4, i64 tn, .slice an ln cn, .slice at_ lt_ ct]] w (WOk B b (l ++ (tb 4 1 ++ (tb m 1 ++ wrtL kids 0 T))) w) := by
  have HVd := hid hV
  have HRd := hid hR
  have HFit := hid hfit
  have HIh := hid ih
  have HM := hid hM
  have HTk := hid hTk
  have HTn := hid hTn
  have HTf := hid hTf
  have H3 := hid h3
  have H4 := hid h4
  have HMl := hid hm
  have h255m : m < 256 := by omega
  have hcap : m ≤ kc := by
    cases hV with
    | mk b2 off kvs hs hl2 hcap2 ha hc hr => rw [hm]; exact hcap2
  clear hV hR hfit ih hM hTk hTn hTf h3 h4 hm h255
  obtain ⟨HXa, HYa, hb0⟩ := two_boxes w (.cells #[i64 4, i64 (0), str [], .slice ka m kc] 28) (.cells #[i64 4, i64 (tn), .slice an ln cn, .slice at_ lt_ ct] 25)
  have HX := hid HXa
  have HY := hid HYa
  have HB0 := hid hb0
  have HBl := hid (bl_below h hb0)
  obtain ⟨hlo, hlt⟩ := bl_lo h
  have HC1 := hid (written_ok ((w.alloc (.cells #[i64 4, i64 (0), str [], .slice ka m kc] 28)).alloc (.cells #[i64 4, i64 (tn), .slice an ln cn, .slice at_ lt_ ct] 25)) 4 1 (by omega) (by omega) (by show (4 : Nat) < 256; omega))
  clear HXa HYa hb0 h
  go_enter Tryz.func24, Tryz.ntmps24
  go_wp2_with fail
  refine HC1.out.mono ?_
  rintro e w1 ⟨rfl, hb1⟩
  have HX1 := hid (blk_below HX.out hb1)
  have HY1 := hid (blk_below HY.out hb1)
  have HB1 : Hid (Below w.heap.size w w1) := HB0.out.trans (hb1.mono HB0.out.size)
  have hs1 : B ≤ w1.heap.size := by have := HB1.out.size; omega
  have HW1 := hid (wstr_ok (tb 4 1) (bl_below HBl.out hb1) (by rw [tb_len]; omega) hs1)
  clear hb1 HC1
  go_wp2_with fail
  refine HW1.out.mono ?_
  rintro e w2 ⟨⟨v2, rfl⟩, hbl2, hf2⟩
  have HBl2 := hid hbl2
  have HX2 := hid (hf2.kept _ _ HX1.out rfl)
  have HY2 := hid (hf2.kept _ _ HY1.out rfl)
  have HF2 : Hid (Fr B [71, 5] w w2) := (Fr.of_below _ HB1.out (by omega)).trans hf2
  have hs2 : B ≤ w2.heap.size := Nat.le_trans hs1 hf2.size
  have x0 := blk_cell HX2.out 0
  have x1 := blk_cell HX2.out 1
  have x2 := blk_cell HX2.out 2
  have x3 := blk_cell HX2.out 3
  have y1 := blk_cell HY2.out 1
  clear hbl2 hf2 HW1
  have HC2 := hid (written_ok w2 m 1 (by omega) (by omega) (by show m < 256; omega))
  go_wp2_with fail
  refine HC2.out.mono ?_
  rintro e w3 ⟨rfl, hb3⟩
  have HW3 := hid (wstr_ok (tb m 1) (bl_below HBl2.out hb3) (by rw [tb_len, List.length_append, tb_len]; omega) (Nat.le_trans hs2 hb3.size))
  have HF3 : Hid (Fr B [71, 5] w w3) := HF2.out.trans (Fr.of_below _ hb3 hs2)
  have HX3 := hid (blk_below HX2.out hb3)
  have HY3 := hid (blk_below HY2.out hb3)
  have hs3 : B ≤ w3.heap.size := Nat.le_trans hs2 hb3.size
  clear hb3 HC2 x0 x1 x2 x3 y1
  go_wp2_with fail
  refine HW3.out.mono ?_
  rintro e w4 ⟨⟨v4, rfl⟩, hbl4, hf4⟩
  have HBl4 := hid hbl4
  have HF4 : Hid (Fr B [71, 5] w w4) := HF3.out.trans hf4
  have HX4 := hid (hf4.kept _ _ HX3.out rfl)
  have HY4 := hid (hf4.kept _ _ HY3.out rfl)
  have x3 := blk_cell HX4.out 3
  clear hbl4 hf4 HW3
  go_wp2_with fail
  go_loopw [24] (fun i wr => ∃ (k : Nat), k ≤ m ∧ i = i64 k ∧ Hid (Bl B b (l ++ tb 4 1 ++ tb m 1 ++ wrtL (kids.take k) 0 T) wr) ∧ Hid (Fr B [71, 5] w wr) ∧ Hid (wr.heap[w.heap.size + 1]? = some (.cells #[i64 4, i64 tn, .slice an ln cn, .slice at_ lt_ ct] 25)) ∧ Hid (B ≤ wr.heap.size)) (fun i _ => m - (intOf i).toNat)
  case atStart => exact ⟨0, by omega, rfl, by have := HBl4.out; show Bl B b (l ++ tb 4 1 ++ tb m 1 ++ []) w4; rw [List.append_nil]; exact this, HF4, HY4, by have := HF4.out.size; show _ ≤ _; omega⟩
  case round =>
    obtain ⟨k, hk, rfl, HBr, HFr, HYr, HLr⟩ := hrel
    by_cases hlt2 : k < m
    · have hkl : k < kids.length := by rw [← HMl.out]; exact hlt2
      have hkI : (k : Int) < m := by omega
      have hvr := HVd.out.move (S' := fun k => k < B) HFr.out.size fun q hq _ => ⟨hq, HFr.out.below.block q hq⟩
      obtain ⟨gb, off, kv', hka, hSb, hblt, hr, hvd⟩ := hvr.kid k hkl
      subst hka
      obtain ⟨ak2, ck2, rfl⟩ := hvd.form
      obtain ⟨U, hU⟩ : ∃ U, U = kids[k] := ⟨_, rfl⟩
      have hr' : wr.rangeAt gb (off + k * 4) [i64 kids[k].kind, i64 kids[k].num, str kids[k].s, .slice ak2 kids[k].kids.length ck2] := hr
      have hvd' : Vd wr (fun k => k < B) kids[k] (.slice ak2 kids[k].kids.length ck2) := hvd
      have hUs : U.size ≤ M := by rw [hU]; exact Nat.le_trans (sizeL_mem (List.getElem_mem hkl)) HM.out
      have hUf : fitV U (kidT T k) := by
        have := fitL_get T kids 0 k hkl HFit.out
        rw [Nat.zero_add] at this
        rw [hU]; exact this
      have hUt := wrtL_take T kids k hkl
      have hUl := wrtL_len T kids (k + 1)
      rw [hUt, List.length_append] at hUl
      rw [← hU] at hr' hvd' hUt hUl
      have c0 : wr.cell? ⟨gb, off + k * 4, none⟩ = some (i64 U.kind) := hr' 0 _ rfl
      have c1 : wr.cell? ⟨gb, off + k * 4 + 1, none⟩ = some (i64 U.num) := hr' 1 _ rfl
      have c2 : wr.cell? ⟨gb, off + k * 4 + 2, none⟩ = some (str U.s) := hr' 2 _ rfl
      have c3 : wr.cell? ⟨gb, off + k * 4 + 3, none⟩ = some (.slice ak2 U.kids.length ck2) := hr' 3 _ rfl
      have h3' := H3.out
      have h4' : T.kind ≠ 3 → k < T.kids.length := fun h => Nat.lt_of_lt_of_le hkl (H4.out h)
      have hKf := kidT_formed HTf.out k h3' h4'
      have HQ := hid (heap_last wr (vO U (.slice ak2 U.kids.length ck2)))
      have HYv := hid (blk_alloc HYr.out (vO U (.slice ak2 U.kids.length ck2)))
      have HBv := hid (bl_below HBr.out (below_one wr (vO U (.slice ak2 U.kids.length ck2))))
      have HFv : Hid (Fr B [71, 5] w (wr.alloc (vO U (.slice ak2 U.kids.length ck2)))) := HFr.out.alloc HLr.out _
      have HLv : Hid (B ≤ (wr.alloc (vO U (.slice ak2 U.kids.length ck2))).heap.size) := by have := HLr.out; show _ ≤ _; simp; omega
      have HVv := hid (hvd'.under (below_one wr (vO U (.slice ak2 U.kids.length ck2))))
      have HUt := hid hUt
      have HUl := hid hUl
      have HUf := hid hUf
      have HKf := hid hKf
      have HUs := hid hUs
      have HH3 := hid h3'
      have HH4 := hid h4'
      clear hr hr' hvd hvd' hvr hU hUs hUf hUt hUl h3' h4' hKf hSb
      go_upto_region 7 with fail
      obtain ⟨Q, hQ⟩ : ∃ Q, Q = wr.heap.size := ⟨_, rfl⟩
      obtain ⟨Y, hY⟩ : ∃ Y, Y = w.heap.size + 1 := ⟨_, rfl⟩
      rw [← hQ] at HQ ⊢
      rw [← hY] at HYv ⊢
      have HYe := hid hY
      clear hQ hY c0 c1 c2 c3
      generalize wr.alloc (vO U (.slice ak2 U.kids.length ck2)) = X at *
      have HS : Hid (SqW4 Q Y U (.slice ak2 U.kids.length ck2) tn an at_ ln cn lt_ ct X.drew) := ⟨HQ.out, HYv.out⟩
      have HRx : Hid (Rd X.drew (fun k => k < B) T (.slice an ln cn) (.slice at_ lt_ ct)) := HRd.out.move HFv.out.size fun q hq _ => ⟨hq, HFv.out.below.block q hq⟩
      have HCB : Hid (Calls Tryz.prog 41 #[.agg #[i64 4, i64 tn, .slice an ln cn, .slice at_ lt_ ct], i64 k] X.drew fun e w' => ∃ a1 c1 a2 c2, e = .returned (tyV (kidT T k).kind (kidT T k).num (.slice a1 (kidT T k).names.length c1) (.slice a2 (kidT T k).kids.length c2)) ∧ Below X.drew.heap.size X.drew w' ∧ Rd w' (fun k => k < B) (kidT T k) (.slice a1 (kidT T k).names.length c1) (.slice a2 (kidT T k).kids.length c2)) := by
        have := wbelow_ok T k X.drew (fun k => k < B) _ _ HRx.out HH3.out HH4.out
        rw [HTk.out, HTn.out] at this
        exact this
      refine wp_region_noPanic ?_
      refine wp_region_last (SqW4 Q Y U (.slice ak2 U.kids.length ck2) tn an at_ ln cn lt_ ct) 5 (by kernel_rfl) ?_
      refine wpL_take 0 29 (pq b) [] rfl rfl (by kernel_rfl) (by decide) (by kernel_rfl) (by kernel_rfl) (by kernel_rfl) (fun _ _ _ h => h) HS.out (by rfl) (fun W hW => by go_simp) ?_
      simp only [Act.put, List.setIfInBounds_toArray, List.set_cons_zero, List.set_cons_succ]
      refine wpL_take 1 30 (vlV U (.slice ak2 U.kids.length ck2)) [] rfl rfl (by kernel_rfl) (by decide) (by kernel_rfl) (by kernel_rfl) (by kernel_rfl) (fun _ _ _ h => h) HS.out (by rfl) (fun W hW => by have q0 := blk_cell hW.one 0; have q1 := blk_cell hW.one 1; have q2 := blk_cell hW.one 2; have q3 := blk_cell hW.one 3; go_simp) ?_
      simp only [Act.put, List.setIfInBounds_toArray, List.set_cons_zero, List.set_cons_succ]
      refine wpL_take 2 31 (.agg #[i64 4, i64 tn, .slice an ln cn, .slice at_ lt_ ct]) [4] rfl rfl (by kernel_rfl) (by decide) (by kernel_rfl) (by kernel_rfl) (by kernel_rfl) (fun _ _ _ h => h) HS.out (by rfl) (fun W hW => by have q0 := blk_cell hW.two 0; have q1 := blk_cell hW.two 1; have q2 := blk_cell hW.two 2; have q3 := blk_cell hW.two 3; go_simp) ?_
      simp only [Act.put, List.setIfInBounds_toArray, List.set_cons_zero, List.set_cons_succ]
      refine wpL_take 3 32 (i64 k) [4] rfl rfl (by kernel_rfl) (by decide) (by kernel_rfl) (by kernel_rfl) (by kernel_rfl) (fun _ _ _ h => h) HS.out (by rfl) (fun W hW => by go_simp) ?_
      simp only [Act.put, List.setIfInBounds_toArray, List.set_cons_zero, List.set_cons_succ]
      refine wpL_one 4 rfl (by kernel_rfl) (by rfl) (fun K hK => ?_)
      go_simp
      refine HCB.out.mono ?_
      rintro e w6 ⟨a1, cc1, a2, cc2, rfl, hb6, hrd6⟩
      have hb6' : Below X.heap.size X w6 := ⟨hb6.os, hb6.tape, hb6.output, hb6.size, hb6.block⟩
      have HS6 : Hid (SqW4 Q Y U (.slice ak2 U.kids.length ck2) tn an at_ ln cn lt_ ct w6) := ⟨blk_below HQ.out hb6', blk_below HYv.out hb6'⟩
      have HF6 : Hid (Fr B [71, 5] w w6) := HFv.out.trans (Fr.of_below _ hb6' HLv.out)
      have HY6 := hid (blk_below HYv.out hb6')
      have HL6 : Hid (B ≤ w6.heap.size) := Nat.le_trans HLv.out hb6'.size
      have HI := hid (HIh.out U (kidT T k) HUs.out HKf.out HUf.out w6 _ _ _ B b _ (HVv.out.under hb6') hrd6 (bl_below HBv.out hb6') (by have := HUl.out; simp only [List.length_append, tb_len]; omega))
      clear hb6 hb6' hrd6
      go_simp
      refine hK.out _ _ (fun _ => HS6.out) ?_
      clear hK K
      refine wpL_one 5 rfl (by kernel_rfl) (by rfl) (fun K hK => ?_)
      go_simp
      refine HI.out.mono ?_
      rintro e w8 ⟨rfl, hbl8, hf8⟩
      have HB8 : Hid (Bl B b (l ++ tb 4 1 ++ tb m 1 ++ wrtL (kids.take (k + 1)) 0 T) w8) := by rw [HUt.out, ← List.append_assoc]; exact hbl8
      have HF8 : Hid (Fr B [71, 5] w w8) := HF6.out.trans hf8
      have HY8 : Hid (w8.heap[w.heap.size + 1]? = some (.cells #[i64 4, i64 tn, .slice an ln cn, .slice at_ lt_ ct] 25)) := by rw [← HYe.out]; exact hf8.kept _ _ HY6.out rfl
      have HL8 : Hid (B ≤ w8.heap.size) := Nat.le_trans HL6.out hf8.size
      clear hbl8 hf8
      go_simp
      refine hK.out _ _ (fun h => absurd rfl h) ?_
      clear hK K
      refine wpL_done (by kernel_rfl) ?_
      refine NoPanic.normal ?_
      have hY := HYe.out
      subst hY
      go_wp2_with fail
      exact ⟨⟨k + 1, by omega, by go_num, HB8, HF8, HY8, HL8⟩, by simp [intOf]; omega⟩
    · have hkm : k = m := by omega
      subst hkm
      have HBe : Hid (Bl B b (l ++ (tb 4 1 ++ (tb k 1 ++ wrtL kids 0 T))) wr) := by
        have h := HBr.out
        rw [List.take_of_length_le (by rw [HMl.out]; exact Nat.le_refl _)] at h
        have : l ++ (tb 4 1 ++ (tb k 1 ++ wrtL kids 0 T)) = l ++ tb 4 1 ++ tb k 1 ++ wrtL kids 0 T := by simp [List.append_assoc]
        rw [this]
        exact h
      go_wp2_with fail
      go_end0
      exact ⟨rfl, HBe.out, HFr.out⟩
end Go.Proofs.YtihbbgcpdgnhoaaGreatDoor
