/- Texts R1 R2 R3 R4 R5 R6 Mw Wd in one; no statement is proved in this text. -/
import Derived.Test.YtihbbgcpdgnhoaaGreatDoorW4
import Derived.Test.YtihbbgcpdgnhoaaGreatDoorGv
import Derived.Test.YtihbbgcpdgnhoaaGreatDoorWq
import Derived.Test.YtihbbgcpdgnhoaaGreatDoorPar
import Derived.Test.YtihbbgcpdgnhoaaGreatDoorMu
namespace Go.Proofs.YtihbbgcpdgnhoaaGreatDoor
open Go.ChangeShapes Go.WideShapes Go.ChangeAt Go.RowKit Go.Deep
attribute [local go_sem ↓] Go.wp_at_zero Go.wp_at_succ
set_option maxRecDepth 100000

abbrev tk (q : Nat) : Value := .func (.func 30) #[pq q] #[]
/-- Block q has the bytes that are left. -/
def At (w : World) (q : Nat) (l : Bs) : Prop := w.heap[q]? = some (.cells #[str l] 78)
theorem At.lt {w : World} {q : Nat} {l : Bs} (h : At w q l) : q < w.heap.size := blk_lt h
theorem At.set {w : World} {q : Nat} {l : Bs} (h : At w q l) (r : Bs) : At (w.setCell ⟨q, 0, none⟩ (str r)) q r := heap_setCell_same w q 0 #[str l] 78 (str r) h
theorem At.touch (w : World) (q : Nat) (r : Bs) : Touch q w (w.setCell ⟨q, 0, none⟩ (str r)) := Touch.setCell (p := ⟨q, 0, none⟩) (Touch.refl q w) rfl _
theorem at_below {w w' : World} {q : Nat} {l : Bs} (h : At w q l) (hb : Below w.heap.size w w') : At w' q l := blk_below h hb
theorem bsize (l : Bs) : (⟨l.toArray⟩ : ByteArray).size = l.length := by show l.toArray.size = _; simp
set_option maxHeartbeats 800000 in
theorem take_no (w : World) (q n : Nat) (l : Bs) (h : At w q l) (hn : l.length < n) : Calls Tryz.prog 30 #[pq q, i64 (n : Nat)] w fun e w' => e = .returned (.tuple #[str [], .bool false]) ∧ w' = w := by
  have c0 : w.cell? ⟨q, 0, none⟩ = some (str l) := blk_cell h 0
  have hs := bsize l
  have hI : (l.length : Int) < n := by omega
  clear h
  go_enter Tryz.func30, Tryz.ntmps30
  go_wp2_with fail
  go_ret2
  exact ⟨rfl, rfl⟩
theorem slice_pre (l : Bs) (n : Nat) : (⟨l.toArray⟩ : ByteArray).extract 0 n = ⟨(l.take n).toArray⟩ := by
  apply ByteArray.ext
  simp
theorem slice_suf (l : Bs) (n : Nat) : (⟨l.toArray⟩ : ByteArray).extract n l.length = ⟨(l.drop n).toArray⟩ := by
  apply ByteArray.ext
  simp
  exact List.take_of_length_le (by simp)
set_option maxHeartbeats 800000 in
theorem take_yes (w : World) (q n : Nat) (l : Bs) (h : At w q l) (hn : n ≤ l.length) : Calls Tryz.prog 30 #[pq q, i64 (n : Nat)] w fun e w' => e = .returned (.tuple #[str (l.take n), .bool true]) ∧ w' = w.setCell ⟨q, 0, none⟩ (str (l.drop n)) := by
  have c0 : w.cell? ⟨q, 0, none⟩ = some (str l) := blk_cell h 0
  have f0 : w.frozen? ⟨q, 0, none⟩ = false := blk_frozen h 0
  have hs := bsize l
  have hI : ¬ (l.length : Int) < n := by omega
  have e1 := slice_pre l n
  have e2 := slice_suf l n
  clear h
  go_enter Tryz.func30, Tryz.ntmps30
  go_wp2_with fail
  go_ret2
  exact ⟨rfl, rfl⟩
set_option maxHeartbeats 800000 in
theorem num_no (w : World) (q k : Nat) (l : Bs) (h : At w q l) (hk : l.length < k) : Calls Tryz.prog 48 #[tk q, i64 (k : Nat)] w fun e w' => e = .returned (.tuple #[i64 0, .bool false]) ∧ w' = w := by
  have HT := hid (take_no w q k l h hk)
  have HN := hid (num_arg w ⟨([] : Bs).toArray⟩ (.inl (by rw [bsize]; simp)))
  clear h hk
  go_enter Tryz.func48, Tryz.ntmps48
  go_wp2_with fail
  refine HT.out.mono ?_
  rintro e w1 ⟨rfl, hw⟩
  replace hw := hw.symm
  subst hw
  go_wp2_with fail
  refine HN.out.mono ?_
  rintro e w2 ⟨rfl, hw⟩
  replace hw := hw.symm
  subst hw
  go_wp2_with fail
  go_ret2
  exact ⟨rfl, rfl⟩
set_option maxHeartbeats 800000 in
theorem num_yes (w : World) (q k n : Nat) (l r : Bs) (h : At w q l) (hr : rdN k l = some (n, r)) : Calls Tryz.prog 48 #[tk q, i64 (k : Nat)] w fun e w' => e = .returned (.tuple #[i64 (n : Nat), .bool true]) ∧ w' = w.setCell ⟨q, 0, none⟩ (str r) := by
  unfold rdN at hr
  split at hr
  · rename_i hk
    simp only [Option.some.injEq, Prod.mk.injEq] at hr
    obtain ⟨hn, rfl⟩ := hr
    have HT := hid (take_yes w q k l h hk.2.2)
    have hsz : (⟨(l.take k).toArray⟩ : ByteArray).size = k := by rw [bsize, List.length_take]; omega
    have HN := hid fun W => num_ok W ⟨(l.take k).toArray⟩ (by rw [hsz]; exact hk.1) (by rw [hsz]; exact hk.2.1)
    have hlt := nm_lt (l.take k)
    have hle : (256 : Nat) ^ (l.take k).length ≤ 256 ^ 4 := Nat.pow_le_pow_right (by omega) (by rw [List.length_take]; omega)
    have e4 : (256 : Nat) ^ 4 = 4294967296 := rfl
    have hd : (⟨(l.take k).toArray⟩ : ByteArray).data.toList = l.take k := by simp
    rw [hd] at HN
    rw [hn] at hlt HN
    have hnI : (n : Int) < 4294967296 := by omega
    generalize l.take k = X at *
    clear hn hlt hle hd hsz hk h
    go_enter Tryz.func48, Tryz.ntmps48
    go_wp2_with fail
    refine HT.out.mono ?_
    rintro e w1 ⟨rfl, hw⟩
    have HW := hid hw
    clear hw
    go_wp2_with fail
    refine (HN.out w1).mono ?_
    rintro e w2 ⟨rfl, hw⟩
    replace hw := hw.symm
    subst hw
    go_wp2_with fail
    go_ret2
    exact ⟨rfl, HW.out⟩
  · cases hr
set_option maxHeartbeats 800000 in
theorem cnt_yes (w : World) (q k : Nat) (l t r : Bs) (h : At w q l) (hr : rdC k l = some (t, r)) : Calls Tryz.prog 49 #[tk q, i64 (k : Nat)] w fun e w' => e = .returned (.tuple #[str t, .bool true]) ∧ At w' q r ∧ Touch q w w' := by
  unfold rdC at hr
  split at hr
  · cases hr
  · rename_i n r1 hn
    split at hr
    · rename_i hle
      simp only [Option.some.injEq, Prod.mk.injEq] at hr
      obtain ⟨rfl, rfl⟩ := hr
      have HN := hid (num_yes w q k n l r1 h hn)
      have HT := hid (take_yes _ q n r1 (h.set r1) hle)
      have HA := hid (((h.set r1).set (r1.drop n)))
      have HTo := hid ((At.touch w q r1).trans (At.touch (w.setCell ⟨q, 0, none⟩ (str r1)) q (r1.drop n)))
      generalize r1.take n = X at *
      generalize r1.drop n = Y at *
      clear h hn hle
      go_enter Tryz.func49, Tryz.ntmps49
      go_wp2_with fail
      refine HN.out.mono ?_
      rintro e w1 ⟨rfl, hw⟩
      subst hw
      go_wp2_with fail
      refine HT.out.mono ?_
      rintro e w2 ⟨rfl, hw⟩
      subst hw
      go_wp2_with fail
      go_ret2
      exact ⟨rfl, HA.out, HTo.out⟩
    · cases hr
set_option maxHeartbeats 800000 in
theorem cnt_no (w : World) (q k : Nat) (l : Bs) (h : At w q l) (h1 : 1 ≤ k) (h4 : k ≤ 4) (hr : rdC k l = none) : Calls Tryz.prog 49 #[tk q, i64 (k : Nat)] w fun e w' => e = .returned (.tuple #[str [], .bool false]) ∧ Touch q w w' := by
  unfold rdC at hr
  split at hr
  · rename_i hn
    have hlt : l.length < k := by
      unfold rdN at hn
      split at hn
      · cases hn
      · omega
    have HN := hid (num_no w q k l h hlt)
    clear h hr hn hlt
    go_enter Tryz.func49, Tryz.ntmps49
    go_wp2_with fail
    refine HN.out.mono ?_
    rintro e w1 ⟨rfl, hw⟩
    replace hw := hw.symm
    subst hw
    go_wp2_with fail
    go_ret2
    exact ⟨rfl, Touch.refl _ _⟩
  · rename_i n r1 hn
    split at hr
    · cases hr
    · rename_i hle
      have HN := hid (num_yes w q k n l r1 h hn)
      have HT := hid (take_no _ q n r1 (h.set r1) (by omega))
      have HTo := hid (At.touch w q r1)
      clear h hr hn hle
      go_enter Tryz.func49, Tryz.ntmps49
      go_wp2_with fail
      refine HN.out.mono ?_
      rintro e w1 ⟨rfl, hw⟩
      subst hw
      go_wp2_with fail
      refine HT.out.mono ?_
      rintro e w2 ⟨rfl, hw⟩
      subst hw
      go_wp2_with fail
      go_ret2
      exact ⟨rfl, HTo.out⟩
end Go.Proofs.YtihbbgcpdgnhoaaGreatDoor
namespace Go.Proofs.YtihbbgcpdgnhoaaGreatDoor
open Go.ChangeShapes Go.WideShapes Go.ChangeAt Go.RowKit Go.Deep
attribute [local go_sem ↓] Go.wp_at_zero Go.wp_at_succ
set_option maxRecDepth 100000

theorem zero28 (w : World) : (zeroValue 28).run Tryz.prog w = .ok (.agg #[i64 0, i64 0, str [], .slice none 0 0]) w := by kernel_rfl
abbrev z28 : Obj := .cells #[i64 0, i64 0, str [], .slice none 0 0] 28
theorem vload28 {W : World} {b : Nat} {k n : Int} {s kv : Value} (h : W.heap[b]? = some (.cells #[i64 k, i64 n, s, kv] 28)) : (loadVar 28 ⟨b, 0, none⟩).run Tryz.prog W = .ok (.agg #[i64 k, i64 n, s, kv]) W := by
  refine run_loadVar_mid _ _ 0 28 [i64 k, i64 n, s, kv] _ (fun j v hv => ?_) Tryz.underlying28 rfl (by kernel_rfl)
  rw [Nat.zero_add, cell_of_row _ _ _ _ 28 (0, 0) h]
  simpa using hv
theorem set4' {V : World} {b : Nat} {x y z u : Value} {t : TypeId} (h : V.heap[b]? = some (.cells #[x, y, z, u] t)) (p q r m : Value) : ((((V.setCell ⟨b, 0, none⟩ p).setCell ⟨b, 1, none⟩ q).setCell ⟨b, 2, none⟩ r).setCell ⟨b, 3, none⟩ m).heap[b]? = some (.cells #[p, q, r, m] t) := by
  have h1 := heap_setCell_same V b 0 _ t p h
  have h2 := heap_setCell_same _ b 1 _ t q h1
  have h3 := heap_setCell_same _ b 2 _ t r h2
  have h4 := heap_setCell_same _ b 3 _ t m h3
  exact h4
theorem touch4 {q R : Nat} {w V : World} (h : Touch q w V) (hR : w.heap.size ≤ R) (a b c d : Value) : Touch q w ((((V.setCell ⟨R, 0, none⟩ a).setCell ⟨R, 1, none⟩ b).setCell ⟨R, 2, none⟩ c).setCell ⟨R, 3, none⟩ d) :=
  Touch.setNew (p := ⟨R, 3, none⟩) (Touch.setNew (p := ⟨R, 2, none⟩) (Touch.setNew (p := ⟨R, 1, none⟩) (Touch.setNew (p := ⟨R, 0, none⟩) h hR a) hR b) hR c) hR d
theorem at4 {q R : Nat} {V : World} {l : Bs} (h : At V q l) (hR : q ≠ R) (a b c d : Value) : At ((((V.setCell ⟨R, 0, none⟩ a).setCell ⟨R, 1, none⟩ b).setCell ⟨R, 2, none⟩ c).setCell ⟨R, 3, none⟩ d) q l := by
  unfold At
  rw [Below.heap_setCell _ _ _ _ hR, Below.heap_setCell _ _ _ _ hR, Below.heap_setCell _ _ _ _ hR, Below.heap_setCell _ _ _ _ hR]
  exact h
/-- What value answers where there is none. -/
def NoV (q : Nat) (w : World) (e : Ending) (w' : World) : Prop := (∃ k n t a m c, e = .returned (.tuple #[.agg #[i64 k, i64 n, str t, .slice a m c], .bool false])) ∧ Touch q w w'
def YesV (q : Nat) (w : World) (V : Vl) (r : Bs) (e : Ending) (w' : World) : Prop := ∃ a c, e = .returned (.tuple #[vlV V (.slice a V.kids.length c), .bool true]) ∧ At w' q r ∧ Touch q w w' ∧ Vd w' (fun b => w.heap.size ≤ b) V (.slice a V.kids.length c)
set_option maxHeartbeats 1600000 in
theorem val_short (w : World) (q : Nat) (l : Bs) (k tn : Int) (an at_ : Option Addr) (ln cn lt_ ct : Nat) (h : At w q l) (hl : l.length < 1) : Calls Tryz.prog 51 #[tk q, .agg #[i64 k, i64 tn, .slice an ln cn, .slice at_ lt_ ct]] w (NoV q w) := by
  obtain ⟨HZa, HRa, hb0⟩ := two_boxes w (.cells #[i64 k, i64 tn, .slice an ln cn, .slice at_ lt_ ct] 25) z28
  have HZ := hid HZa
  have HR := hid HRa
  have HB0 := hid hb0
  have hz := zero28
  have hq := h.lt
  have HA0 := hid (at_below h hb0)
  have HN := hid (num_no _ q 1 l HA0.out hl)
  clear HZa HRa hb0 h
  go_enter Tryz.func51, Tryz.ntmps51
  go_wp2_with fail
  refine HN.out.mono ?_
  rintro e w1 ⟨rfl, hw⟩
  subst hw
  go_wp2_with fail
  exact bodyPost_ret (results_cell Tryz.results51 rfl rfl (vload28 HR.out)) rfl ⟨⟨_, _, _, _, _, _, rfl⟩, Touch.of_below HB0.out⟩
set_option maxHeartbeats 1600000 in
theorem val_tag (w : World) (q : Nat) (c : UInt8) (r : Bs) (k tn : Int) (an at_ : Option Addr) (ln cn lt_ ct : Nat) (h : At w q (c :: r)) (hk : (c.toNat : Int) ≠ k) : Calls Tryz.prog 51 #[tk q, .agg #[i64 k, i64 tn, .slice an ln cn, .slice at_ lt_ ct]] w (NoV q w) := by
  obtain ⟨HZa, HRa, hb0⟩ := two_boxes w (.cells #[i64 k, i64 tn, .slice an ln cn, .slice at_ lt_ ct] 25) z28
  have HZ := hid HZa
  have HR := hid HRa
  have HB0 := hid hb0
  have hz := zero28
  have hq := h.lt
  have HA0 := hid (at_below h hb0)
  have HN := hid (num_yes _ q 1 c.toNat (c :: r) r HA0.out (rdN_one c r))
  have q1 : ((c.toNat : Int) != k) = true := by rw [bne, beq_false_of_ne hk]; rfl
  clear HZa HRa hb0 h hk
  go_enter Tryz.func51, Tryz.ntmps51
  go_wp2_with fail
  refine HN.out.mono ?_
  rintro e w1 ⟨rfl, hw⟩
  have ht := At.touch ((w.alloc (.cells #[i64 k, i64 tn, .slice an ln cn, .slice at_ lt_ ct] 25)).alloc z28) q r
  rw [← hw] at ht
  have HZ1 := hid ((ht.block _ (blk_lt HZ.out) (by omega)).trans HZ.out)
  have HR1 := hid ((ht.block _ (blk_lt HR.out) (by omega)).trans HR.out)
  have HT1 : Hid (Touch q w w1) := (Touch.of_below HB0.out).trans ht
  have x0 := blk_cell HZ1.out 0
  have r0 := blk_cell HR1.out 0
  have r1 := blk_cell HR1.out 1
  have r2 := blk_cell HR1.out 2
  have r3 := blk_cell HR1.out 3
  have rf := blk_frozen HR1.out
  clear hw ht HN
  go_wp2_with fail
  exact bodyPost_ret (results_cell Tryz.results51 rfl rfl (vload28 (set4' HR1.out _ _ _ _))) rfl ⟨⟨_, _, _, _, _, _, rfl⟩, touch4 HT1.out (by omega) _ _ _ _⟩
set_option maxHeartbeats 1600000 in
theorem val_1_8_no (w : World) (q : Nat) (c : UInt8) (r : Bs) (an at_ : Option Addr) (ln cn lt_ ct : Nat) (h : At w q (c :: r)) (hc : c.toNat = 1) (hl : r.length < 1) : Calls Tryz.prog 51 #[tk q, .agg #[i64 1, i64 8, .slice an ln cn, .slice at_ lt_ ct]] w (NoV q w) := by
  obtain ⟨HZa, HRa, hb0⟩ := two_boxes w (.cells #[i64 1, i64 8, .slice an ln cn, .slice at_ lt_ ct] 25) z28
  have HZ := hid HZa
  have HR := hid HRa
  have HB0 := hid hb0
  have hz := zero28
  have hq := h.lt
  have HA0 := hid (at_below h hb0)
  have HN := hid (num_yes _ q 1 1 (c :: r) r HA0.out (by rw [rdN_one, hc]))
  clear HZa HRa hb0 h hc
  go_enter Tryz.func51, Tryz.ntmps51
  go_wp2_with fail
  refine HN.out.mono ?_
  rintro e w1 ⟨rfl, hw⟩
  have ht := At.touch ((w.alloc (.cells #[i64 1, i64 8, .slice an ln cn, .slice at_ lt_ ct] 25)).alloc z28) q r
  have ha := HA0.out.set r
  rw [← hw] at ht ha
  have HZ1 := hid ((ht.block _ (blk_lt HZ.out) (by omega)).trans HZ.out)
  have HR1 := hid ((ht.block _ (blk_lt HR.out) (by omega)).trans HR.out)
  have HT1 : Hid (Touch q w w1) := (Touch.of_below HB0.out).trans ht
  have HO1 := hid (heap_last w1 (.cells #[i64 1, i64 0, str [], .slice none 0 0] 28))
  have HA1 := hid (at_below ha (below_one w1 (.cells #[i64 1, i64 0, str [], .slice none 0 0] 28)))
  have HZ1' := hid (blk_alloc HZ1.out (.cells #[i64 1, i64 0, str [], .slice none 0 0] 28))
  have HR1' := hid (blk_alloc HR1.out (.cells #[i64 1, i64 0, str [], .slice none 0 0] 28))
  have HT1' : Hid (Touch q w (w1.alloc (.cells #[i64 1, i64 0, str [], .slice none 0 0] 28))) := HT1.out.alloc _
  have hRl := blk_lt HR1.out
  have hZl := blk_lt HZ1.out
  have x0 := blk_cell HZ1.out 0
  have x1 := blk_cell HZ1.out 1
  clear hw ht ha HN
  have HN2 := hid (num_no _ q 1 r HA1.out hl)
  go_wp2_with fail
  refine HN2.out.mono ?_
  rintro e w3 ⟨rfl, hw⟩
  have HR3 : Hid (w3.heap[w.heap.size + 1]? = some z28) := by rw [hw]; exact HR1'.out
  have HO3 : Hid (w3.heap[w1.heap.size]? = some (.cells #[i64 1, i64 0, str [], .slice none 0 0] 28)) := by rw [hw]; exact HO1.out
  have HT3 : Hid (Touch q w w3) := by rw [hw]; exact HT1'.out
  clear hw HN2 x0 x1 HR1 HR1' HZ1 HZ1' HO1 HA1 HT1 HT1' HA0 HB0
  have o0 := blk_cell HO3.out 0
  have o1 := blk_cell HO3.out 1
  have o2 := blk_cell HO3.out 2
  have o3 := blk_cell HO3.out 3
  have ofz := blk_frozen HO3.out
  have r0 := blk_cell HR3.out 0
  have r1 := blk_cell HR3.out 1
  have r2 := blk_cell HR3.out 2
  have r3 := blk_cell HR3.out 3
  have rf := blk_frozen HR3.out
  have hne : w.heap.size + 1 ≠ w1.heap.size := by omega
  go_wp2_with fail
  exact bodyPost_ret (results_cell Tryz.results51 rfl rfl (vload28 (set4' ((Below.heap_setCell w3 ⟨w1.heap.size, 1, none⟩ _ _ hne).trans HR3.out) _ _ _ _))) rfl ⟨⟨_, _, _, _, _, _, rfl⟩, touch4 (Touch.setNew (p := ⟨w1.heap.size, 1, none⟩) HT3.out (by show w.heap.size ≤ w1.heap.size; omega) _) (by omega) _ _ _ _⟩
set_option maxHeartbeats 1600000 in
theorem val_1_8_yes (w : World) (q n : Nat) (c : UInt8) (r r2 : Bs) (an at_ : Option Addr) (ln cn lt_ ct : Nat) (h : At w q (c :: r)) (hc : c.toNat = 1) (hl : rdN 1 r = some (n, r2)) : Calls Tryz.prog 51 #[tk q, .agg #[i64 1, i64 8, .slice an ln cn, .slice at_ lt_ ct]] w (YesV q w (.mk 1 (n : Nat) [] []) r2) := by
  obtain ⟨HZa, HRa, hb0⟩ := two_boxes w (.cells #[i64 1, i64 8, .slice an ln cn, .slice at_ lt_ ct] 25) z28
  have HZ := hid HZa
  have HR := hid HRa
  have HB0 := hid hb0
  have hz := zero28
  have hq := h.lt
  have HA0 := hid (at_below h hb0)
  have HN := hid (num_yes _ q 1 1 (c :: r) r HA0.out (by rw [rdN_one, hc]))
  clear HZa HRa hb0 h hc
  go_enter Tryz.func51, Tryz.ntmps51
  go_wp2_with fail
  refine HN.out.mono ?_
  rintro e w1 ⟨rfl, hw⟩
  have ht := At.touch ((w.alloc (.cells #[i64 1, i64 8, .slice an ln cn, .slice at_ lt_ ct] 25)).alloc z28) q r
  have ha := HA0.out.set r
  rw [← hw] at ht ha
  have HZ1 := hid ((ht.block _ (blk_lt HZ.out) (by omega)).trans HZ.out)
  have HR1 := hid ((ht.block _ (blk_lt HR.out) (by omega)).trans HR.out)
  have HT1 : Hid (Touch q w w1) := (Touch.of_below HB0.out).trans ht
  have HO1 := hid (heap_last w1 (.cells #[i64 1, i64 0, str [], .slice none 0 0] 28))
  have HA1 := hid (at_below ha (below_one w1 (.cells #[i64 1, i64 0, str [], .slice none 0 0] 28)))
  have HZ1' := hid (blk_alloc HZ1.out (.cells #[i64 1, i64 0, str [], .slice none 0 0] 28))
  have HR1' := hid (blk_alloc HR1.out (.cells #[i64 1, i64 0, str [], .slice none 0 0] 28))
  have HT1' : Hid (Touch q w (w1.alloc (.cells #[i64 1, i64 0, str [], .slice none 0 0] 28))) := HT1.out.alloc _
  have hRl := blk_lt HR1.out
  have hZl := blk_lt HZ1.out
  have x0 := blk_cell HZ1.out 0
  have x1 := blk_cell HZ1.out 1
  clear hw ht ha HN
  have HN2 := hid (num_yes _ q 1 n r r2 HA1.out hl)
  have hqs : q < (w1.alloc (.cells #[i64 1, i64 0, str [], .slice none 0 0] 28)).heap.size := by simp; omega
  go_wp2_with fail
  refine HN2.out.mono ?_
  rintro e w3 ⟨rfl, hw⟩
  have ht := At.touch (w1.alloc (.cells #[i64 1, i64 0, str [], .slice none 0 0] 28)) q r2
  have ha := HA1.out.set r2
  rw [← hw] at ht ha
  have HR3 : Hid (w3.heap[w.heap.size + 1]? = some z28) := (ht.block _ (blk_lt HR1'.out) (by omega)).trans HR1'.out
  have HO3 : Hid (w3.heap[w1.heap.size]? = some (.cells #[i64 1, i64 0, str [], .slice none 0 0] 28)) := (ht.block _ (blk_lt HO1.out) (by omega)).trans HO1.out
  have HT3 : Hid (Touch q w w3) := HT1'.out.trans ht
  have HA3 := hid ha
  clear hw ht ha HN2 x0 x1 HR1 HR1' HZ1 HZ1' HO1 HA1 HT1 HT1' HA0 HB0
  have o0 := blk_cell HO3.out 0
  have o1 := blk_cell HO3.out 1
  have o2 := blk_cell HO3.out 2
  have o3 := blk_cell HO3.out 3
  have ofz := blk_frozen HO3.out
  have r0 := blk_cell HR3.out 0
  have r1 := blk_cell HR3.out 1
  have r2 := blk_cell HR3.out 2
  have r3 := blk_cell HR3.out 3
  have rf := blk_frozen HR3.out
  have hne : w.heap.size + 1 ≠ w1.heap.size := by omega
  go_wp2_with fail
  refine bodyPost_ret (results_cell Tryz.results51 rfl rfl (vload28 (set4' ((Below.heap_setCell w3 ⟨w1.heap.size, 1, none⟩ _ _ hne).trans HR3.out) _ _ _ _))) rfl ⟨none, 0, rfl, ?_, touch4 (Touch.setNew (p := ⟨w1.heap.size, 1, none⟩) HT3.out (by show w.heap.size ≤ w1.heap.size; omega) _) (by omega) _ _ _ _, Vd.leaf _ _ _ _ _ (by simp) _ _⟩
  exact at4 ((Below.heap_setCell w3 ⟨w1.heap.size, 1, none⟩ _ _ (by show q ≠ w1.heap.size; omega)).trans HA3.out) (by omega) _ _ _ _
set_option maxHeartbeats 1600000 in
theorem val_1_16_no (w : World) (q : Nat) (c : UInt8) (r : Bs) (an at_ : Option Addr) (ln cn lt_ ct : Nat) (h : At w q (c :: r)) (hc : c.toNat = 1) (hl : r.length < 2) : Calls Tryz.prog 51 #[tk q, .agg #[i64 1, i64 16, .slice an ln cn, .slice at_ lt_ ct]] w (NoV q w) := by
  obtain ⟨HZa, HRa, hb0⟩ := two_boxes w (.cells #[i64 1, i64 16, .slice an ln cn, .slice at_ lt_ ct] 25) z28
  have HZ := hid HZa
  have HR := hid HRa
  have HB0 := hid hb0
  have hz := zero28
  have hq := h.lt
  have HA0 := hid (at_below h hb0)
  have HN := hid (num_yes _ q 1 1 (c :: r) r HA0.out (by rw [rdN_one, hc]))
  clear HZa HRa hb0 h hc
  go_enter Tryz.func51, Tryz.ntmps51
  go_wp2_with fail
  refine HN.out.mono ?_
  rintro e w1 ⟨rfl, hw⟩
  have ht := At.touch ((w.alloc (.cells #[i64 1, i64 16, .slice an ln cn, .slice at_ lt_ ct] 25)).alloc z28) q r
  have ha := HA0.out.set r
  rw [← hw] at ht ha
  have HZ1 := hid ((ht.block _ (blk_lt HZ.out) (by omega)).trans HZ.out)
  have HR1 := hid ((ht.block _ (blk_lt HR.out) (by omega)).trans HR.out)
  have HT1 : Hid (Touch q w w1) := (Touch.of_below HB0.out).trans ht
  have HO1 := hid (heap_last w1 (.cells #[i64 1, i64 0, str [], .slice none 0 0] 28))
  have HA1 := hid (at_below ha (below_one w1 (.cells #[i64 1, i64 0, str [], .slice none 0 0] 28)))
  have HZ1' := hid (blk_alloc HZ1.out (.cells #[i64 1, i64 0, str [], .slice none 0 0] 28))
  have HR1' := hid (blk_alloc HR1.out (.cells #[i64 1, i64 0, str [], .slice none 0 0] 28))
  have HT1' : Hid (Touch q w (w1.alloc (.cells #[i64 1, i64 0, str [], .slice none 0 0] 28))) := HT1.out.alloc _
  have hRl := blk_lt HR1.out
  have hZl := blk_lt HZ1.out
  have x0 := blk_cell HZ1.out 0
  have x1 := blk_cell HZ1.out 1
  clear hw ht ha HN
  have HN2 := hid (num_no _ q 2 r HA1.out hl)
  go_wp2_with fail
  refine HN2.out.mono ?_
  rintro e w3 ⟨rfl, hw⟩
  have HR3 : Hid (w3.heap[w.heap.size + 1]? = some z28) := by rw [hw]; exact HR1'.out
  have HO3 : Hid (w3.heap[w1.heap.size]? = some (.cells #[i64 1, i64 0, str [], .slice none 0 0] 28)) := by rw [hw]; exact HO1.out
  have HT3 : Hid (Touch q w w3) := by rw [hw]; exact HT1'.out
  clear hw HN2 x0 x1 HR1 HR1' HZ1 HZ1' HO1 HA1 HT1 HT1' HA0 HB0
  have o0 := blk_cell HO3.out 0
  have o1 := blk_cell HO3.out 1
  have o2 := blk_cell HO3.out 2
  have o3 := blk_cell HO3.out 3
  have ofz := blk_frozen HO3.out
  have r0 := blk_cell HR3.out 0
  have r1 := blk_cell HR3.out 1
  have r2 := blk_cell HR3.out 2
  have r3 := blk_cell HR3.out 3
  have rf := blk_frozen HR3.out
  have hne : w.heap.size + 1 ≠ w1.heap.size := by omega
  go_wp2_with fail
  exact bodyPost_ret (results_cell Tryz.results51 rfl rfl (vload28 (set4' ((Below.heap_setCell w3 ⟨w1.heap.size, 1, none⟩ _ _ hne).trans HR3.out) _ _ _ _))) rfl ⟨⟨_, _, _, _, _, _, rfl⟩, touch4 (Touch.setNew (p := ⟨w1.heap.size, 1, none⟩) HT3.out (by show w.heap.size ≤ w1.heap.size; omega) _) (by omega) _ _ _ _⟩
set_option maxHeartbeats 1600000 in
theorem val_1_16_yes (w : World) (q n : Nat) (c : UInt8) (r r2 : Bs) (an at_ : Option Addr) (ln cn lt_ ct : Nat) (h : At w q (c :: r)) (hc : c.toNat = 1) (hl : rdN 2 r = some (n, r2)) : Calls Tryz.prog 51 #[tk q, .agg #[i64 1, i64 16, .slice an ln cn, .slice at_ lt_ ct]] w (YesV q w (.mk 1 (n : Nat) [] []) r2) := by
  obtain ⟨HZa, HRa, hb0⟩ := two_boxes w (.cells #[i64 1, i64 16, .slice an ln cn, .slice at_ lt_ ct] 25) z28
  have HZ := hid HZa
  have HR := hid HRa
  have HB0 := hid hb0
  have hz := zero28
  have hq := h.lt
  have HA0 := hid (at_below h hb0)
  have HN := hid (num_yes _ q 1 1 (c :: r) r HA0.out (by rw [rdN_one, hc]))
  clear HZa HRa hb0 h hc
  go_enter Tryz.func51, Tryz.ntmps51
  go_wp2_with fail
  refine HN.out.mono ?_
  rintro e w1 ⟨rfl, hw⟩
  have ht := At.touch ((w.alloc (.cells #[i64 1, i64 16, .slice an ln cn, .slice at_ lt_ ct] 25)).alloc z28) q r
  have ha := HA0.out.set r
  rw [← hw] at ht ha
  have HZ1 := hid ((ht.block _ (blk_lt HZ.out) (by omega)).trans HZ.out)
  have HR1 := hid ((ht.block _ (blk_lt HR.out) (by omega)).trans HR.out)
  have HT1 : Hid (Touch q w w1) := (Touch.of_below HB0.out).trans ht
  have HO1 := hid (heap_last w1 (.cells #[i64 1, i64 0, str [], .slice none 0 0] 28))
  have HA1 := hid (at_below ha (below_one w1 (.cells #[i64 1, i64 0, str [], .slice none 0 0] 28)))
  have HZ1' := hid (blk_alloc HZ1.out (.cells #[i64 1, i64 0, str [], .slice none 0 0] 28))
  have HR1' := hid (blk_alloc HR1.out (.cells #[i64 1, i64 0, str [], .slice none 0 0] 28))
  have HT1' : Hid (Touch q w (w1.alloc (.cells #[i64 1, i64 0, str [], .slice none 0 0] 28))) := HT1.out.alloc _
  have hRl := blk_lt HR1.out
  have hZl := blk_lt HZ1.out
  have x0 := blk_cell HZ1.out 0
  have x1 := blk_cell HZ1.out 1
  clear hw ht ha HN
  have HN2 := hid (num_yes _ q 2 n r r2 HA1.out hl)
  have hqs : q < (w1.alloc (.cells #[i64 1, i64 0, str [], .slice none 0 0] 28)).heap.size := by simp; omega
  go_wp2_with fail
  refine HN2.out.mono ?_
  rintro e w3 ⟨rfl, hw⟩
  have ht := At.touch (w1.alloc (.cells #[i64 1, i64 0, str [], .slice none 0 0] 28)) q r2
  have ha := HA1.out.set r2
  rw [← hw] at ht ha
  have HR3 : Hid (w3.heap[w.heap.size + 1]? = some z28) := (ht.block _ (blk_lt HR1'.out) (by omega)).trans HR1'.out
  have HO3 : Hid (w3.heap[w1.heap.size]? = some (.cells #[i64 1, i64 0, str [], .slice none 0 0] 28)) := (ht.block _ (blk_lt HO1.out) (by omega)).trans HO1.out
  have HT3 : Hid (Touch q w w3) := HT1'.out.trans ht
  have HA3 := hid ha
  clear hw ht ha HN2 x0 x1 HR1 HR1' HZ1 HZ1' HO1 HA1 HT1 HT1' HA0 HB0
  have o0 := blk_cell HO3.out 0
  have o1 := blk_cell HO3.out 1
  have o2 := blk_cell HO3.out 2
  have o3 := blk_cell HO3.out 3
  have ofz := blk_frozen HO3.out
  have r0 := blk_cell HR3.out 0
  have r1 := blk_cell HR3.out 1
  have r2 := blk_cell HR3.out 2
  have r3 := blk_cell HR3.out 3
  have rf := blk_frozen HR3.out
  have hne : w.heap.size + 1 ≠ w1.heap.size := by omega
  go_wp2_with fail
  refine bodyPost_ret (results_cell Tryz.results51 rfl rfl (vload28 (set4' ((Below.heap_setCell w3 ⟨w1.heap.size, 1, none⟩ _ _ hne).trans HR3.out) _ _ _ _))) rfl ⟨none, 0, rfl, ?_, touch4 (Touch.setNew (p := ⟨w1.heap.size, 1, none⟩) HT3.out (by show w.heap.size ≤ w1.heap.size; omega) _) (by omega) _ _ _ _, Vd.leaf _ _ _ _ _ (by simp) _ _⟩
  exact at4 ((Below.heap_setCell w3 ⟨w1.heap.size, 1, none⟩ _ _ (by show q ≠ w1.heap.size; omega)).trans HA3.out) (by omega) _ _ _ _
set_option maxHeartbeats 1600000 in
theorem val_1_32_no (w : World) (q : Nat) (c : UInt8) (r : Bs) (an at_ : Option Addr) (ln cn lt_ ct : Nat) (h : At w q (c :: r)) (hc : c.toNat = 1) (hl : r.length < 4) : Calls Tryz.prog 51 #[tk q, .agg #[i64 1, i64 32, .slice an ln cn, .slice at_ lt_ ct]] w (NoV q w) := by
  obtain ⟨HZa, HRa, hb0⟩ := two_boxes w (.cells #[i64 1, i64 32, .slice an ln cn, .slice at_ lt_ ct] 25) z28
  have HZ := hid HZa
  have HR := hid HRa
  have HB0 := hid hb0
  have hz := zero28
  have hq := h.lt
  have HA0 := hid (at_below h hb0)
  have HN := hid (num_yes _ q 1 1 (c :: r) r HA0.out (by rw [rdN_one, hc]))
  clear HZa HRa hb0 h hc
  go_enter Tryz.func51, Tryz.ntmps51
  go_wp2_with fail
  refine HN.out.mono ?_
  rintro e w1 ⟨rfl, hw⟩
  have ht := At.touch ((w.alloc (.cells #[i64 1, i64 32, .slice an ln cn, .slice at_ lt_ ct] 25)).alloc z28) q r
  have ha := HA0.out.set r
  rw [← hw] at ht ha
  have HZ1 := hid ((ht.block _ (blk_lt HZ.out) (by omega)).trans HZ.out)
  have HR1 := hid ((ht.block _ (blk_lt HR.out) (by omega)).trans HR.out)
  have HT1 : Hid (Touch q w w1) := (Touch.of_below HB0.out).trans ht
  have HO1 := hid (heap_last w1 (.cells #[i64 1, i64 0, str [], .slice none 0 0] 28))
  have HA1 := hid (at_below ha (below_one w1 (.cells #[i64 1, i64 0, str [], .slice none 0 0] 28)))
  have HZ1' := hid (blk_alloc HZ1.out (.cells #[i64 1, i64 0, str [], .slice none 0 0] 28))
  have HR1' := hid (blk_alloc HR1.out (.cells #[i64 1, i64 0, str [], .slice none 0 0] 28))
  have HT1' : Hid (Touch q w (w1.alloc (.cells #[i64 1, i64 0, str [], .slice none 0 0] 28))) := HT1.out.alloc _
  have hRl := blk_lt HR1.out
  have hZl := blk_lt HZ1.out
  have x0 := blk_cell HZ1.out 0
  have x1 := blk_cell HZ1.out 1
  clear hw ht ha HN
  have HN2 := hid (num_no _ q 4 r HA1.out hl)
  go_wp2_with fail
  refine HN2.out.mono ?_
  rintro e w3 ⟨rfl, hw⟩
  have HR3 : Hid (w3.heap[w.heap.size + 1]? = some z28) := by rw [hw]; exact HR1'.out
  have HO3 : Hid (w3.heap[w1.heap.size]? = some (.cells #[i64 1, i64 0, str [], .slice none 0 0] 28)) := by rw [hw]; exact HO1.out
  have HT3 : Hid (Touch q w w3) := by rw [hw]; exact HT1'.out
  clear hw HN2 x0 x1 HR1 HR1' HZ1 HZ1' HO1 HA1 HT1 HT1' HA0 HB0
  have o0 := blk_cell HO3.out 0
  have o1 := blk_cell HO3.out 1
  have o2 := blk_cell HO3.out 2
  have o3 := blk_cell HO3.out 3
  have ofz := blk_frozen HO3.out
  have r0 := blk_cell HR3.out 0
  have r1 := blk_cell HR3.out 1
  have r2 := blk_cell HR3.out 2
  have r3 := blk_cell HR3.out 3
  have rf := blk_frozen HR3.out
  have hne : w.heap.size + 1 ≠ w1.heap.size := by omega
  go_wp2_with fail
  exact bodyPost_ret (results_cell Tryz.results51 rfl rfl (vload28 (set4' ((Below.heap_setCell w3 ⟨w1.heap.size, 1, none⟩ _ _ hne).trans HR3.out) _ _ _ _))) rfl ⟨⟨_, _, _, _, _, _, rfl⟩, touch4 (Touch.setNew (p := ⟨w1.heap.size, 1, none⟩) HT3.out (by show w.heap.size ≤ w1.heap.size; omega) _) (by omega) _ _ _ _⟩
set_option maxHeartbeats 1600000 in
theorem val_1_32_yes (w : World) (q n : Nat) (c : UInt8) (r r2 : Bs) (an at_ : Option Addr) (ln cn lt_ ct : Nat) (h : At w q (c :: r)) (hc : c.toNat = 1) (hl : rdN 4 r = some (n, r2)) : Calls Tryz.prog 51 #[tk q, .agg #[i64 1, i64 32, .slice an ln cn, .slice at_ lt_ ct]] w (YesV q w (.mk 1 (n : Nat) [] []) r2) := by
  obtain ⟨HZa, HRa, hb0⟩ := two_boxes w (.cells #[i64 1, i64 32, .slice an ln cn, .slice at_ lt_ ct] 25) z28
  have HZ := hid HZa
  have HR := hid HRa
  have HB0 := hid hb0
  have hz := zero28
  have hq := h.lt
  have HA0 := hid (at_below h hb0)
  have HN := hid (num_yes _ q 1 1 (c :: r) r HA0.out (by rw [rdN_one, hc]))
  clear HZa HRa hb0 h hc
  go_enter Tryz.func51, Tryz.ntmps51
  go_wp2_with fail
  refine HN.out.mono ?_
  rintro e w1 ⟨rfl, hw⟩
  have ht := At.touch ((w.alloc (.cells #[i64 1, i64 32, .slice an ln cn, .slice at_ lt_ ct] 25)).alloc z28) q r
  have ha := HA0.out.set r
  rw [← hw] at ht ha
  have HZ1 := hid ((ht.block _ (blk_lt HZ.out) (by omega)).trans HZ.out)
  have HR1 := hid ((ht.block _ (blk_lt HR.out) (by omega)).trans HR.out)
  have HT1 : Hid (Touch q w w1) := (Touch.of_below HB0.out).trans ht
  have HO1 := hid (heap_last w1 (.cells #[i64 1, i64 0, str [], .slice none 0 0] 28))
  have HA1 := hid (at_below ha (below_one w1 (.cells #[i64 1, i64 0, str [], .slice none 0 0] 28)))
  have HZ1' := hid (blk_alloc HZ1.out (.cells #[i64 1, i64 0, str [], .slice none 0 0] 28))
  have HR1' := hid (blk_alloc HR1.out (.cells #[i64 1, i64 0, str [], .slice none 0 0] 28))
  have HT1' : Hid (Touch q w (w1.alloc (.cells #[i64 1, i64 0, str [], .slice none 0 0] 28))) := HT1.out.alloc _
  have hRl := blk_lt HR1.out
  have hZl := blk_lt HZ1.out
  have x0 := blk_cell HZ1.out 0
  have x1 := blk_cell HZ1.out 1
  clear hw ht ha HN
  have HN2 := hid (num_yes _ q 4 n r r2 HA1.out hl)
  have hqs : q < (w1.alloc (.cells #[i64 1, i64 0, str [], .slice none 0 0] 28)).heap.size := by simp; omega
  go_wp2_with fail
  refine HN2.out.mono ?_
  rintro e w3 ⟨rfl, hw⟩
  have ht := At.touch (w1.alloc (.cells #[i64 1, i64 0, str [], .slice none 0 0] 28)) q r2
  have ha := HA1.out.set r2
  rw [← hw] at ht ha
  have HR3 : Hid (w3.heap[w.heap.size + 1]? = some z28) := (ht.block _ (blk_lt HR1'.out) (by omega)).trans HR1'.out
  have HO3 : Hid (w3.heap[w1.heap.size]? = some (.cells #[i64 1, i64 0, str [], .slice none 0 0] 28)) := (ht.block _ (blk_lt HO1.out) (by omega)).trans HO1.out
  have HT3 : Hid (Touch q w w3) := HT1'.out.trans ht
  have HA3 := hid ha
  clear hw ht ha HN2 x0 x1 HR1 HR1' HZ1 HZ1' HO1 HA1 HT1 HT1' HA0 HB0
  have o0 := blk_cell HO3.out 0
  have o1 := blk_cell HO3.out 1
  have o2 := blk_cell HO3.out 2
  have o3 := blk_cell HO3.out 3
  have ofz := blk_frozen HO3.out
  have r0 := blk_cell HR3.out 0
  have r1 := blk_cell HR3.out 1
  have r2 := blk_cell HR3.out 2
  have r3 := blk_cell HR3.out 3
  have rf := blk_frozen HR3.out
  have hne : w.heap.size + 1 ≠ w1.heap.size := by omega
  go_wp2_with fail
  refine bodyPost_ret (results_cell Tryz.results51 rfl rfl (vload28 (set4' ((Below.heap_setCell w3 ⟨w1.heap.size, 1, none⟩ _ _ hne).trans HR3.out) _ _ _ _))) rfl ⟨none, 0, rfl, ?_, touch4 (Touch.setNew (p := ⟨w1.heap.size, 1, none⟩) HT3.out (by show w.heap.size ≤ w1.heap.size; omega) _) (by omega) _ _ _ _, Vd.leaf _ _ _ _ _ (by simp) _ _⟩
  exact at4 ((Below.heap_setCell w3 ⟨w1.heap.size, 1, none⟩ _ _ (by show q ≠ w1.heap.size; omega)).trans HA3.out) (by omega) _ _ _ _
set_option maxHeartbeats 1600000 in
theorem val_2_no (w : World) (q : Nat) (c : UInt8) (r : Bs) (tn : Int) (an at_ : Option Addr) (ln cn lt_ ct : Nat) (h : At w q (c :: r)) (hc : c.toNat = 2) (hl : rdC 1 r = none) : Calls Tryz.prog 51 #[tk q, .agg #[i64 2, i64 tn, .slice an ln cn, .slice at_ lt_ ct]] w (NoV q w) := by
  obtain ⟨HZa, HRa, hb0⟩ := two_boxes w (.cells #[i64 2, i64 tn, .slice an ln cn, .slice at_ lt_ ct] 25) z28
  have HZ := hid HZa
  have HR := hid HRa
  have HB0 := hid hb0
  have hz := zero28
  have hq := h.lt
  have HA0 := hid (at_below h hb0)
  have HN := hid (num_yes _ q 1 2 (c :: r) r HA0.out (by rw [rdN_one, hc]))
  clear HZa HRa hb0 h hc
  go_enter Tryz.func51, Tryz.ntmps51
  go_wp2_with fail
  refine HN.out.mono ?_
  rintro e w1 ⟨rfl, hw⟩
  have ht := At.touch ((w.alloc (.cells #[i64 2, i64 tn, .slice an ln cn, .slice at_ lt_ ct] 25)).alloc z28) q r
  have ha := HA0.out.set r
  rw [← hw] at ht ha
  have HZ1 := hid ((ht.block _ (blk_lt HZ.out) (by omega)).trans HZ.out)
  have HR1 := hid ((ht.block _ (blk_lt HR.out) (by omega)).trans HR.out)
  have HT1 : Hid (Touch q w w1) := (Touch.of_below HB0.out).trans ht
  have HO1 := hid (heap_last w1 (.cells #[i64 2, i64 0, str [], .slice none 0 0] 28))
  have HA1 := hid (at_below ha (below_one w1 (.cells #[i64 2, i64 0, str [], .slice none 0 0] 28)))
  have HZ1' := hid (blk_alloc HZ1.out (.cells #[i64 2, i64 0, str [], .slice none 0 0] 28))
  have HR1' := hid (blk_alloc HR1.out (.cells #[i64 2, i64 0, str [], .slice none 0 0] 28))
  have HT1' : Hid (Touch q w (w1.alloc (.cells #[i64 2, i64 0, str [], .slice none 0 0] 28))) := HT1.out.alloc _
  have hRl := blk_lt HR1.out
  have hZl := blk_lt HZ1.out
  have x0 := blk_cell HZ1.out 0
  have x1 := blk_cell HZ1.out 1
  clear hw ht ha HN
  have HN2 := hid (cnt_no _ q 1 r HA1.out (by omega) (by omega) hl)
  go_wp2_with fail
  refine HN2.out.mono ?_
  rintro e w3 ⟨rfl, ht⟩
  have HR3 : Hid (w3.heap[w.heap.size + 1]? = some z28) := (ht.block _ (blk_lt HR1'.out) (by omega)).trans HR1'.out
  have HO3 : Hid (w3.heap[w1.heap.size]? = some (.cells #[i64 2, i64 0, str [], .slice none 0 0] 28)) := (ht.block _ (blk_lt HO1.out) (by omega)).trans HO1.out
  have HT3 : Hid (Touch q w w3) := HT1'.out.trans ht
  clear ht HN2 x0 x1 HR1 HR1' HZ1 HZ1' HO1 HA1 HT1 HT1' HA0 HB0
  have o0 := blk_cell HO3.out 0
  have o1 := blk_cell HO3.out 1
  have o2 := blk_cell HO3.out 2
  have o3 := blk_cell HO3.out 3
  have ofz := blk_frozen HO3.out
  have r0 := blk_cell HR3.out 0
  have r1 := blk_cell HR3.out 1
  have r2 := blk_cell HR3.out 2
  have r3 := blk_cell HR3.out 3
  have rf := blk_frozen HR3.out
  have hne : w.heap.size + 1 ≠ w1.heap.size := by omega
  go_wp2_with fail
  exact bodyPost_ret (results_cell Tryz.results51 rfl rfl (vload28 (set4' ((Below.heap_setCell w3 ⟨w1.heap.size, 2, none⟩ _ _ hne).trans HR3.out) _ _ _ _))) rfl ⟨⟨_, _, _, _, _, _, rfl⟩, touch4 (Touch.setNew (p := ⟨w1.heap.size, 2, none⟩) HT3.out (by show w.heap.size ≤ w1.heap.size; omega) _) (by omega) _ _ _ _⟩
set_option maxHeartbeats 1600000 in
theorem val_2_yes (w : World) (q : Nat) (c : UInt8) (r t r2 : Bs) (tn : Int) (an at_ : Option Addr) (ln cn lt_ ct : Nat) (h : At w q (c :: r)) (hc : c.toNat = 2) (hl : rdC 1 r = some (t, r2)) (hm : t.length ≤ 100000) : Calls Tryz.prog 51 #[tk q, .agg #[i64 2, i64 tn, .slice an ln cn, .slice at_ lt_ ct]] w (YesV q w (.mk 2 0 t []) r2) := by
  obtain ⟨HZa, HRa, hb0⟩ := two_boxes w (.cells #[i64 2, i64 tn, .slice an ln cn, .slice at_ lt_ ct] 25) z28
  have HZ := hid HZa
  have HR := hid HRa
  have HB0 := hid hb0
  have hz := zero28
  have hq := h.lt
  have HA0 := hid (at_below h hb0)
  have HN := hid (num_yes _ q 1 2 (c :: r) r HA0.out (by rw [rdN_one, hc]))
  clear HZa HRa hb0 h hc
  go_enter Tryz.func51, Tryz.ntmps51
  go_wp2_with fail
  refine HN.out.mono ?_
  rintro e w1 ⟨rfl, hw⟩
  have ht := At.touch ((w.alloc (.cells #[i64 2, i64 tn, .slice an ln cn, .slice at_ lt_ ct] 25)).alloc z28) q r
  have ha := HA0.out.set r
  rw [← hw] at ht ha
  have HZ1 := hid ((ht.block _ (blk_lt HZ.out) (by omega)).trans HZ.out)
  have HR1 := hid ((ht.block _ (blk_lt HR.out) (by omega)).trans HR.out)
  have HT1 : Hid (Touch q w w1) := (Touch.of_below HB0.out).trans ht
  have HO1 := hid (heap_last w1 (.cells #[i64 2, i64 0, str [], .slice none 0 0] 28))
  have HA1 := hid (at_below ha (below_one w1 (.cells #[i64 2, i64 0, str [], .slice none 0 0] 28)))
  have HZ1' := hid (blk_alloc HZ1.out (.cells #[i64 2, i64 0, str [], .slice none 0 0] 28))
  have HR1' := hid (blk_alloc HR1.out (.cells #[i64 2, i64 0, str [], .slice none 0 0] 28))
  have HT1' : Hid (Touch q w (w1.alloc (.cells #[i64 2, i64 0, str [], .slice none 0 0] 28))) := HT1.out.alloc _
  have hRl := blk_lt HR1.out
  have hZl := blk_lt HZ1.out
  have x0 := blk_cell HZ1.out 0
  have x1 := blk_cell HZ1.out 1
  clear hw ht ha HN
  have HN2 := hid (cnt_yes _ q 1 r t r2 HA1.out hl)
  go_wp2_with fail
  refine HN2.out.mono ?_
  rintro e w3 ⟨rfl, ha, ht⟩
  have HR3 : Hid (w3.heap[w.heap.size + 1]? = some z28) := (ht.block _ (blk_lt HR1'.out) (by omega)).trans HR1'.out
  have HO3 : Hid (w3.heap[w1.heap.size]? = some (.cells #[i64 2, i64 0, str [], .slice none 0 0] 28)) := (ht.block _ (blk_lt HO1.out) (by omega)).trans HO1.out
  have HT3 : Hid (Touch q w w3) := HT1'.out.trans ht
  have HA3 := hid ha
  clear ht ha HN2 x0 x1 HR1 HR1' HZ1 HZ1' HO1 HA1 HT1 HT1' HA0 HB0
  have o0 := blk_cell HO3.out 0
  have o1 := blk_cell HO3.out 1
  have o2 := blk_cell HO3.out 2
  have o3 := blk_cell HO3.out 3
  have ofz := blk_frozen HO3.out
  have r0 := blk_cell HR3.out 0
  have r1 := blk_cell HR3.out 1
  have r2 := blk_cell HR3.out 2
  have r3 := blk_cell HR3.out 3
  have rf := blk_frozen HR3.out
  have hne : w.heap.size + 1 ≠ w1.heap.size := by omega
  go_wp2_with fail
  refine bodyPost_ret (results_cell Tryz.results51 rfl rfl (vload28 (set4' ((Below.heap_setCell w3 ⟨w1.heap.size, 2, none⟩ _ _ hne).trans HR3.out) _ _ _ _))) rfl ⟨none, 0, rfl, ?_, touch4 (Touch.setNew (p := ⟨w1.heap.size, 2, none⟩) HT3.out (by show w.heap.size ≤ w1.heap.size; omega) _) (by omega) _ _ _ _, Vd.leaf _ _ _ _ _ (by unfold maxLen; omega) _ _⟩
  exact at4 ((Below.heap_setCell w3 ⟨w1.heap.size, 2, none⟩ _ _ (by show q ≠ w1.heap.size; omega)).trans HA3.out) (by omega) _ _ _ _
end Go.Proofs.YtihbbgcpdgnhoaaGreatDoor
namespace Go.Proofs.YtihbbgcpdgnhoaaGreatDoor
open Go.ChangeShapes Go.WideShapes Go.ChangeAt Go.RowKit Go.Deep
attribute [local go_sem ↓] Go.wp_at_zero Go.wp_at_succ
set_option maxRecDepth 100000

def KNo (q : Nat) (w : World) (e : Ending) (w' : World) : Prop := e = .returned (.tuple #[.slice none 0 0, .bool false]) ∧ Touch q w w'
def KYes (q : Nat) (w : World) (k : Int) (L : List Vl) (r : Bs) (e : Ending) (w' : World) : Prop := ∃ a c, e = .returned (.tuple #[.slice a L.length c, .bool true]) ∧ At w' q r ∧ Touch q w w' ∧ Vd w' (fun b => w.heap.size ≤ b) (.mk k 0 [] L) (.slice a L.length c)
def KOk (q : Nat) (w : World) (k : Int) : Option (List Vl × Bs) → Ending → World → Prop
  | none => KNo q w
  | some (L, r) => KYes q w k L r
def VOk (q : Nat) (w : World) : Option (Vl × Bs) → Ending → World → Prop
  | none => NoV q w
  | some (V, r) => YesV q w V r
def joinL (a : List Vl) : Option (List Vl × Bs) → Option (List Vl × Bs)
  | none => none
  | some (l, r) => some (a ++ l, r)
abbrev tyO (k n : Int) (nv tv : Value) : Obj := .cells #[i64 k, i64 n, nv, tv] 25
/-- Kids that are being read; the type's box O. -/
structure KI (w X : World) (q O : Nat) (o : Obj) (kv : Value) (Ks : List Kv) (l : Bs) : Prop where
  t : X.heap[O]? = some o
  k : VKids X w.heap.size 28 (fun b => w.heap.size ≤ b ∧ b ≠ O) kv Ks
  s : kv.ownBlock ≠ some O
  a : At X q l
  tc : Touch q w X
theorem KI.touch {w X X' : World} {q O : Nat} {o : Obj} {kv : Value} {Ks : List Kv} {l l' : Bs} (h : KI w X q O o kv Ks l) (hq : q < w.heap.size) (hO : w.heap.size ≤ O) (ht : Touch q X X') (ha : At X' q l') : KI w X' q O o kv Ks l' :=
  ⟨(ht.block _ (blk_lt h.t) (by omega)).trans h.t, h.k.move ht.size (fun k hk => by have := h.k.own.lt k hk; exact ht.block k this.2 (by omega)) (fun b hb hlt _ => ⟨hb, ht.block b hlt (by have := hb.1; omega)⟩), h.s, ha, h.tc.trans ht⟩
theorem KI.below {w X X' : World} {q O : Nat} {o : Obj} {kv : Value} {Ks : List Kv} {l : Bs} (h : KI w X q O o kv Ks l) (hq : q < w.heap.size) (hO : w.heap.size ≤ O) (hb : Below X.heap.size X X') : KI w X' q O o kv Ks l :=
  h.touch hq hO (Touch.of_below hb) (at_below h.a hb)
theorem KI.slice {w X : World} {q O : Nat} {o : Obj} {kv : Value} {Ks : List Kv} {l : Bs} (h : KI w X q O o kv Ks l) : ∃ a c, kv = .slice a Ks.length c := by
  obtain ⟨a, c, h2, _⟩ := own_slice h.k.own
  exact ⟨a, c, h2⟩
theorem KI.push {w X : World} {q O : Nat} {o : Obj} {kv : Value} {Ks : List Kv} {l : Bs} (h : KI w X q O o kv Ks l) (hq : q < w.heap.size) (U : Vl) (a2 : Option Addr) (n2 c2 : Nat)
    (lo : Nat) (hlo : O < lo) (hlk : ∀ k, kv.ownBlock = some k → k < lo) (hR : Vd X (fun b => lo ≤ b) U (.slice a2 n2 c2)) (hO : w.heap.size ≤ O) (hl : Ks.length ≤ 3000) :
    ∃ ao cap Y, (Builtin.append_ #[26, 26] 26 #[kv, .slice (some ⟨X.heap.size, 0, none⟩) 1 1]).run Tryz.prog (X.alloc (.cells #[i64 U.kind, i64 U.num, str U.s, .slice a2 n2 c2] 28)) = .ok (.slice ao (Ks.length + 1) cap) Y ∧ KI w Y q O o (.slice ao (Ks.length + 1) cap) (Ks ++ [(U, .slice a2 n2 c2)]) l ∧ (∀ k, k < X.heap.size → some k ≠ kv.ownBlock → Y.heap[k]? = X.heap[k]?) := by
  have hz := h.tc.size
  obtain ⟨ao, cap, Y, p1, p2, p3, p4, p5⟩ := push_val vunder22 vinfo24 h.k U a2 n2 c2 (hR.mono (fun b hb _ => ⟨⟨by omega, by omega⟩, fun e => by have := hlk b e.symm; omega⟩)) hl hz
  have hOl := blk_lt h.t
  have hql := h.a.lt
  have hqn : some q ≠ kv.ownBlock := fun e => by have := (h.k.own.lt q e.symm).1; omega
  refine ⟨ao, cap, Y, p1, ⟨(p4 O hOl (fun e => h.s e.symm)).trans h.t, p2, ?_, (p4 q hql hqn).trans h.a, ⟨p3.below.os.trans h.tc.os, p3.below.tape.trans h.tc.tape, p3.below.output.trans h.tc.output, Nat.le_trans hz p3.size, fun k hk hkq => (p3.below.block k hk).trans (h.tc.block k hk hkq)⟩⟩, p4⟩
  rcases p5 with p5 | p5
  · rw [p5]; exact h.s
  · rw [p5]; intro e; cases e; omega
def stepL (g : Bs → Option (List Vl × Bs)) : Option (Vl × Bs) → Option (List Vl × Bs)
  | none => none
  | some (v, r) => match g r with
    | none => none
    | some (l, q) => some (v :: l, q)
theorem rdL_step (rec : Ty → Bs → Option (Vl × Bs)) (T : Ty) (i m : Nat) (b : Bs) : rdL rec T i (m + 1) b = stepL (rdL rec T (i + 1) m) (rec (kidT T i) b) := by
  rw [rdL]
  cases rec (kidT T i) b <;> rfl
theorem joinL_step (g : Bs → Option (List Vl × Bs)) (a : List Vl) (v : Vl) (r : Bs) : joinL a (stepL g (some (v, r))) = joinL (a ++ [v]) (g r) := by
  show joinL a (match g r with | none => none | some (l, q) => some (v :: l, q)) = _
  cases g r with
  | none => rfl
  | some x => obtain ⟨l, q⟩ := x; simp [joinL]
def CutK (wr : World) (q KB : Nat) (b : Value) (wx : World) : Option (Vl × Bs) → Prop
  | none => b = .bool false ∧ Touch q wr wx
  | some (U, r) => b = .bool true ∧ ∃ a c, Touch q wr wx ∧ At wx q r ∧ wx.heap[KB]? = some (vO U (.slice a U.kids.length c)) ∧ Vd wx (fun b => wr.heap.size ≤ b) U (.slice a U.kids.length c)
set_option maxHeartbeats 6400000 in
theorem kids_3 (f : Nat) (ih : ∀ (T : Ty), T.depth ≤ f → T.formed = true → ∀ (w : World) (q : Nat) (l : Bs) (nv kv : Value), At w q l → Rd w (fun b => b ≠ q) T nv kv → Calls Tryz.prog 51 #[tk q, tyV T.kind T.num nv kv] w (VOk q w (rdV f T l)))
    (w : World) (q m : Nat) (c : UInt8) (r0 : Bs) (tn : Int) (T : Ty) (an at_ : Option Addr) (ln cn lt_ ct : Nat) (h : At w q (c :: r0)) (hc : c.toNat = m) (hTk : T.kind = 3) (hTn : T.num = tn) (hTf : T.formed = true) (hd : T.depth ≤ f + 1) (h3 : T.kind = 3 → 0 < T.kids.length) (h4 : T.kind ≠ 3 → m = T.kids.length)
    (hR : Rd w (fun b => b ≠ q) T (.slice an ln cn) (.slice at_ lt_ ct)) : Calls Tryz.prog 72 #[tk q, .agg #[i64 3, i64 tn, .slice an ln cn, .slice at_ lt_ ct]] w (KOk q w 3 (rdL (rdV f) T 0 m r0)) := by
  have hq := h.lt
  have hm : m < 256 := by rw [← hc]; exact UInt8.toNat_lt c
  have hb0 := below_one w (tyO 3 tn (.slice an ln cn) (.slice at_ lt_ ct))
  have HIh := hid ih
  have HTk := hid hTk
  have HTn := hid hTn
  have HTf := hid hTf
  have HD := hid hd
  have H3 := hid h3
  have H4 := hid h4
  have HRd := hid hR
  have HA0 := hid (at_below h hb0)
  have HN := hid (num_yes _ q 1 m (c :: r0) r0 HA0.out (by rw [rdN_one, hc]))
  obtain ⟨X0, hX0⟩ : ∃ x, x = rdL (rdV f) T 0 m r0 := ⟨_, rfl⟩
  have HX0 := hid hX0
  rw [← hX0]
  have hz := zero28
  clear h hc ih hTk hTn hTf hd h3 h4 hR hX0
  go_enter Tryz.func72, Tryz.ntmps72
  go_wp2_with fail
  refine HN.out.mono ?_
  rintro e w1 ⟨rfl, hw⟩
  have HI1 : Hid (KI w w1 q w.heap.size (tyO 3 tn (.slice an ln cn) (.slice at_ lt_ ct)) (.slice none 0 0) [] r0) := by
    have ht := At.touch (w.alloc (tyO 3 tn (.slice an ln cn) (.slice at_ lt_ ct))) q r0
    have ha := HA0.out.set r0
    rw [← hw] at ht ha
    exact ⟨(ht.block _ (by simp) (by omega)).trans (heap_last w _), VKids.nil _ _ _ _, by simp [Value.ownBlock], ha, (Touch.of_below hb0).trans ht⟩
  have x0 := blk_cell HI1.out.t 0
  have x3 := blk_cell HI1.out.t 3
  clear hw HN HA0 hb0
  go_wp2_with fail
  go_loopw [32, 8] (fun i v wr => ∃ (k : Nat) (Ks : List Kv) (lr : Bs), k ≤ m ∧ i = i64 k ∧ Ks.length = k ∧ Hid (KI w wr q w.heap.size (tyO 3 tn (.slice an ln cn) (.slice at_ lt_ ct)) v Ks lr) ∧ Hid (X0 = joinL (Ks.map (·.1)) (rdL (rdV f) T k (m - k) lr))) (fun i _ _ => m - (intOf i).toNat)
  case atStart => exact ⟨0, [], r0, by omega, rfl, rfl, HI1, by show _ = _; rw [HX0.out, Nat.sub_zero]; cases rdL (rdV f) T 0 m r0 <;> rfl⟩
  case round =>
    obtain ⟨k, Ks, lr, hk, rfl, hKl, HI, HE⟩ := hrel
    obtain ⟨ua, uc, rfl⟩ := HI.out.slice
    rw [hKl] at HI ⊢
    have HKL := hid hKl
    clear hKl
    by_cases hlt2 : k < m
    · have hkI : (k : Int) < m := by omega
      have hk4 : T.kind ≠ 3 → k < T.kids.length := fun e => by have := H4.out e; omega
      have hkd := kid_depth (T := T) (i := k) H3.out hk4
      have HKd : Hid ((kidT T k).depth ≤ f) := by have := HD.out; show _ ≤ _; omega
      have HKf := hid (kidT_formed HTf.out k H3.out hk4)
      have HK4 := hid hk4
      obtain ⟨res, hres⟩ : ∃ res, res = rdV f (kidT T k) lr := ⟨_, rfl⟩
      have HE2 : Hid (X0 = joinL (Ks.map (·.1)) (stepL (rdL (rdV f) T (k + 1) (m - (k + 1))) res)) := by
        have h := HE.out
        have e : m - k = (m - (k + 1)) + 1 := by omega
        rw [e, rdL_step, ← hres] at h
        exact h
      have HQr := hid (Nat.lt_of_lt_of_le hq HI.out.tc.size)
      have HOr : Hid (w.heap.size < wr.heap.size) := blk_lt HI.out.t
      have HC44 : Hid (∀ V, Touch q wr V → Calls Tryz.prog 41 #[.agg #[i64 3, i64 tn, .slice an ln cn, .slice at_ lt_ ct], i64 k] V fun e w' => ∃ a1 c1 a2 c2, e = .returned (.agg #[i64 (kidT T k).kind, i64 (kidT T k).num, .slice a1 (kidT T k).names.length c1, .slice a2 (kidT T k).kids.length c2]) ∧ Below V.heap.size V w' ∧ Rd w' (fun b => b ≠ q) (kidT T k) (.slice a1 (kidT T k).names.length c1) (.slice a2 (kidT T k).kids.length c2)) := fun V hV => by
        have := wbelow_ok T k V (fun b => b ≠ q) _ _ ((HRd.out.touch HI.out.tc).touch hV) H3.out HK4.out
        rw [HTk.out, HTn.out] at this
        exact this
      have HC35 : Hid (∀ V a1 c1 a2 c2, At V q lr → Rd V (fun b => b ≠ q) (kidT T k) (.slice a1 (kidT T k).names.length c1) (.slice a2 (kidT T k).kids.length c2) → Calls Tryz.prog 51 #[tk q, .agg #[i64 (kidT T k).kind, i64 (kidT T k).num, .slice a1 (kidT T k).names.length c1, .slice a2 (kidT T k).kids.length c2]] V (VOk q V res)) := fun V a1 c1 a2 c2 hA hRR => by
        rw [hres]
        exact HIh.out (kidT T k) HKd.out HKf.out V q lr _ _ hA hRR
      clear hres hkd hk4 HE
      generalize kidT T k = TK at *
      have t0 := blk_cell HI.out.t 0
      have t1 := blk_cell HI.out.t 1
      have t2 := blk_cell HI.out.t 2
      have t3 := blk_cell HI.out.t 3
      have HC1 := hid (HC44.out wr (Touch.refl q wr))
      go_wp2_with fail
      refine HC1.out.mono ?_
      rintro e w2 ⟨a1, c1, a2, c2, rfl, hb2, hrd2⟩
      have HC2 := hid (HC35.out w2 a1 c1 a2 c2 (at_below HI.out.a hb2) hrd2)
      have HB2 := hid hb2
      clear hb2 hrd2 HC1 HC44 HC35 t0 t1 t2 t3
      go_wp2_with fail
      refine HC2.out.mono ?_
      clear HC2
      cases res with
      | none =>
        rintro e w3 ⟨⟨k9, n9, t9, a9, m9, c9, rfl⟩, ht3⟩
        have HT3 : Hid (Touch q w w3) := HI.out.tc.trans ((Touch.of_below HB2.out).trans ht3)
        clear ht3
        have hx : X0 = none := by rw [HE2.out]; rfl
        have HX := hid hx
        clear hx
        go_wp2_with fail
        go_ret2
        rw [HX.out]
        exact ⟨rfl, HT3.out.alloc _⟩
      | some x =>
        obtain ⟨U, r9⟩ := x
        rintro e w3 ⟨a9, c9, rfl, ha3, ht3, hv3⟩
        have HB3 := hid (below_one w3 (vO U (.slice a9 U.kids.length c9)))
        have HK3 := hid (heap_last w3 (vO U (.slice a9 U.kids.length c9)))
        have hsz : (w3.alloc (vO U (.slice a9 U.kids.length c9))).heap.size = w3.heap.size + 1 := by simp
        have hI3 := (HI.out.below hq (Nat.le_refl _) HB2.out).touch hq (Nat.le_refl _) ht3 ha3
        have hlo : w.heap.size < w2.heap.size := Nat.lt_of_lt_of_le HOr.out HB2.out.size
        have hlk : ∀ b, (Value.slice ua k uc).ownBlock = some b → b < w2.heap.size := fun b hb => Nat.lt_of_lt_of_le (HI.out.k.own.lt b hb).2 HB2.out.size
        obtain ⟨ao, cap, Y, hrun, hIY, _⟩ := (hI3.below hq (Nat.le_refl _) HB3.out).push hq U a9 _ c9 w2.heap.size hlo hlk (hv3.under HB3.out) (Nat.le_refl _) (by rw [HKL.out]; omega)
        rw [HKL.out, hsz] at hrun
        rw [HKL.out] at hIY
        have HRUN := hid hrun
        have HIY := hid hIY
        have HXn : Hid (X0 = joinL ((Ks ++ [((U, Value.slice a9 U.kids.length c9) : Kv)]).map (·.1)) (rdL (rdV f) T (k + 1) (m - (k + 1)) r9)) := by show _ = _; rw [HE2.out, joinL_step, List.map_append]; rfl
        have hKl2 : (Ks ++ [((U, Value.slice a9 U.kids.length c9) : Kv)]).length = k + 1 := by rw [List.length_append, HKL.out]; rfl
        have HKL2 := hid hKl2
        have k0 := blk_cell HK3.out 0
        have k1 := blk_cell HK3.out 1
        have k2 := blk_cell HK3.out 2
        have k3 := blk_cell HK3.out 3
        clear hrun hIY hI3 hlo hlk hsz ha3 ht3 hv3 hKl2
        go_wp2_with (at_builtin; refine wpList_app_run rfl (.tmp 45) (.tmp 47) 26 rfl _ _ rfl rfl 26 rfl _ _ HRUN.out ?_)
        exact ⟨⟨k + 1, _, r9, by omega, by go_num, HKL2.out, HIY, HXn⟩, by simp [intOf]; omega⟩
    · have hkm : k = m := by omega
      subst hkm
      have hx : X0 = some (Ks.map (·.1), lr) := by rw [HE.out, Nat.sub_self]; simp [joinL, rdL]
      have HX := hid hx
      clear hx
      go_wp2_with fail
      go_ret2
      rw [HX.out]
      have hl : (Ks.map (·.1)).length = k := by rw [List.length_map, HKL.out]
      refine ⟨ua, uc, by rw [hl]; rfl, HI.out.a, HI.out.tc, ?_⟩
      rw [hl]
      exact HI.out.k.rd (Nat.zero_le _) (fun b hb _ => hb.1) (fun b hb => (HI.out.k.own.lt b hb).1)
set_option maxHeartbeats 6400000 in
theorem kids_4 (f : Nat) (ih : ∀ (T : Ty), T.depth ≤ f → T.formed = true → ∀ (w : World) (q : Nat) (l : Bs) (nv kv : Value), At w q l → Rd w (fun b => b ≠ q) T nv kv → Calls Tryz.prog 51 #[tk q, tyV T.kind T.num nv kv] w (VOk q w (rdV f T l)))
    (w : World) (q m : Nat) (c : UInt8) (r0 : Bs) (tn : Int) (T : Ty) (an at_ : Option Addr) (ln cn ct : Nat) (h : At w q (c :: r0)) (hc : c.toNat = m) (hTk : T.kind = 4) (hTn : T.num = tn) (hTf : T.formed = true) (hd : T.depth ≤ f + 1) (h3 : T.kind = 3 → 0 < T.kids.length) (h4 : T.kind ≠ 3 → m = T.kids.length)
    (hR : Rd w (fun b => b ≠ q) T (.slice an ln cn) (.slice at_ m ct)) : Calls Tryz.prog 72 #[tk q, .agg #[i64 4, i64 tn, .slice an ln cn, .slice at_ m ct]] w (KOk q w 4 (rdL (rdV f) T 0 m r0)) := by
  have hq := h.lt
  have hm : m < 256 := by rw [← hc]; exact UInt8.toNat_lt c
  have hb0 := below_one w (tyO 4 tn (.slice an ln cn) (.slice at_ m ct))
  have HIh := hid ih
  have HTk := hid hTk
  have HTn := hid hTn
  have HTf := hid hTf
  have HD := hid hd
  have H3 := hid h3
  have H4 := hid h4
  have HRd := hid hR
  have HA0 := hid (at_below h hb0)
  have HN := hid (num_yes _ q 1 m (c :: r0) r0 HA0.out (by rw [rdN_one, hc]))
  obtain ⟨X0, hX0⟩ : ∃ x, x = rdL (rdV f) T 0 m r0 := ⟨_, rfl⟩
  have HX0 := hid hX0
  rw [← hX0]
  have hz := zero28
  clear h hc ih hTk hTn hTf hd h3 h4 hR hX0
  go_enter Tryz.func72, Tryz.ntmps72
  go_wp2_with fail
  refine HN.out.mono ?_
  rintro e w1 ⟨rfl, hw⟩
  have HI1 : Hid (KI w w1 q w.heap.size (tyO 4 tn (.slice an ln cn) (.slice at_ m ct)) (.slice none 0 0) [] r0) := by
    have ht := At.touch (w.alloc (tyO 4 tn (.slice an ln cn) (.slice at_ m ct))) q r0
    have ha := HA0.out.set r0
    rw [← hw] at ht ha
    exact ⟨(ht.block _ (by simp) (by omega)).trans (heap_last w _), VKids.nil _ _ _ _, by simp [Value.ownBlock], ha, (Touch.of_below hb0).trans ht⟩
  have x0 := blk_cell HI1.out.t 0
  have x3 := blk_cell HI1.out.t 3
  clear hw HN HA0 hb0
  go_wp2_with fail
  go_loopw [32, 8] (fun i v wr => ∃ (k : Nat) (Ks : List Kv) (lr : Bs), k ≤ m ∧ i = i64 k ∧ Ks.length = k ∧ Hid (KI w wr q w.heap.size (tyO 4 tn (.slice an ln cn) (.slice at_ m ct)) v Ks lr) ∧ Hid (X0 = joinL (Ks.map (·.1)) (rdL (rdV f) T k (m - k) lr))) (fun i _ _ => m - (intOf i).toNat)
  case atStart => exact ⟨0, [], r0, by omega, rfl, rfl, HI1, by show _ = _; rw [HX0.out, Nat.sub_zero]; cases rdL (rdV f) T 0 m r0 <;> rfl⟩
  case round =>
    obtain ⟨k, Ks, lr, hk, rfl, hKl, HI, HE⟩ := hrel
    obtain ⟨ua, uc, rfl⟩ := HI.out.slice
    rw [hKl] at HI ⊢
    have HKL := hid hKl
    clear hKl
    by_cases hlt2 : k < m
    · have hkI : (k : Int) < m := by omega
      have hk4 : T.kind ≠ 3 → k < T.kids.length := fun e => by have := H4.out e; omega
      have hkd := kid_depth (T := T) (i := k) H3.out hk4
      have HKd : Hid ((kidT T k).depth ≤ f) := by have := HD.out; show _ ≤ _; omega
      have HKf := hid (kidT_formed HTf.out k H3.out hk4)
      have HK4 := hid hk4
      obtain ⟨res, hres⟩ : ∃ res, res = rdV f (kidT T k) lr := ⟨_, rfl⟩
      have HE2 : Hid (X0 = joinL (Ks.map (·.1)) (stepL (rdL (rdV f) T (k + 1) (m - (k + 1))) res)) := by
        have h := HE.out
        have e : m - k = (m - (k + 1)) + 1 := by omega
        rw [e, rdL_step, ← hres] at h
        exact h
      have HQr := hid (Nat.lt_of_lt_of_le hq HI.out.tc.size)
      have HOr : Hid (w.heap.size < wr.heap.size) := blk_lt HI.out.t
      have HC44 : Hid (∀ V, Touch q wr V → Calls Tryz.prog 41 #[.agg #[i64 4, i64 tn, .slice an ln cn, .slice at_ m ct], i64 k] V fun e w' => ∃ a1 c1 a2 c2, e = .returned (.agg #[i64 (kidT T k).kind, i64 (kidT T k).num, .slice a1 (kidT T k).names.length c1, .slice a2 (kidT T k).kids.length c2]) ∧ Below V.heap.size V w' ∧ Rd w' (fun b => b ≠ q) (kidT T k) (.slice a1 (kidT T k).names.length c1) (.slice a2 (kidT T k).kids.length c2)) := fun V hV => by
        have := wbelow_ok T k V (fun b => b ≠ q) _ _ ((HRd.out.touch HI.out.tc).touch hV) H3.out HK4.out
        rw [HTk.out, HTn.out] at this
        exact this
      have HC35 : Hid (∀ V a1 c1 a2 c2, At V q lr → Rd V (fun b => b ≠ q) (kidT T k) (.slice a1 (kidT T k).names.length c1) (.slice a2 (kidT T k).kids.length c2) → Calls Tryz.prog 51 #[tk q, .agg #[i64 (kidT T k).kind, i64 (kidT T k).num, .slice a1 (kidT T k).names.length c1, .slice a2 (kidT T k).kids.length c2]] V (VOk q V res)) := fun V a1 c1 a2 c2 hA hRR => by
        rw [hres]
        exact HIh.out (kidT T k) HKd.out HKf.out V q lr _ _ hA hRR
      clear hres hkd hk4 HE
      generalize kidT T k = TK at *
      have t0 := blk_cell HI.out.t 0
      have t1 := blk_cell HI.out.t 1
      have t2 := blk_cell HI.out.t 2
      have t3 := blk_cell HI.out.t 3
      have HC1 := hid (HC44.out wr (Touch.refl q wr))
      go_wp2_with fail
      refine HC1.out.mono ?_
      rintro e w2 ⟨a1, c1, a2, c2, rfl, hb2, hrd2⟩
      have HC2 := hid (HC35.out w2 a1 c1 a2 c2 (at_below HI.out.a hb2) hrd2)
      have HB2 := hid hb2
      clear hb2 hrd2 HC1 HC44 HC35 t0 t1 t2 t3
      go_wp2_with fail
      refine HC2.out.mono ?_
      clear HC2
      cases res with
      | none =>
        rintro e w3 ⟨⟨k9, n9, t9, a9, m9, c9, rfl⟩, ht3⟩
        have HT3 : Hid (Touch q w w3) := HI.out.tc.trans ((Touch.of_below HB2.out).trans ht3)
        clear ht3
        have hx : X0 = none := by rw [HE2.out]; rfl
        have HX := hid hx
        clear hx
        go_wp2_with fail
        go_ret2
        rw [HX.out]
        exact ⟨rfl, HT3.out.alloc _⟩
      | some x =>
        obtain ⟨U, r9⟩ := x
        rintro e w3 ⟨a9, c9, rfl, ha3, ht3, hv3⟩
        have HB3 := hid (below_one w3 (vO U (.slice a9 U.kids.length c9)))
        have HK3 := hid (heap_last w3 (vO U (.slice a9 U.kids.length c9)))
        have hsz : (w3.alloc (vO U (.slice a9 U.kids.length c9))).heap.size = w3.heap.size + 1 := by simp
        have hI3 := (HI.out.below hq (Nat.le_refl _) HB2.out).touch hq (Nat.le_refl _) ht3 ha3
        have hlo : w.heap.size < w2.heap.size := Nat.lt_of_lt_of_le HOr.out HB2.out.size
        have hlk : ∀ b, (Value.slice ua k uc).ownBlock = some b → b < w2.heap.size := fun b hb => Nat.lt_of_lt_of_le (HI.out.k.own.lt b hb).2 HB2.out.size
        obtain ⟨ao, cap, Y, hrun, hIY, _⟩ := (hI3.below hq (Nat.le_refl _) HB3.out).push hq U a9 _ c9 w2.heap.size hlo hlk (hv3.under HB3.out) (Nat.le_refl _) (by rw [HKL.out]; omega)
        rw [HKL.out, hsz] at hrun
        rw [HKL.out] at hIY
        have HRUN := hid hrun
        have HIY := hid hIY
        have HXn : Hid (X0 = joinL ((Ks ++ [((U, Value.slice a9 U.kids.length c9) : Kv)]).map (·.1)) (rdL (rdV f) T (k + 1) (m - (k + 1)) r9)) := by show _ = _; rw [HE2.out, joinL_step, List.map_append]; rfl
        have hKl2 : (Ks ++ [((U, Value.slice a9 U.kids.length c9) : Kv)]).length = k + 1 := by rw [List.length_append, HKL.out]; rfl
        have HKL2 := hid hKl2
        have k0 := blk_cell HK3.out 0
        have k1 := blk_cell HK3.out 1
        have k2 := blk_cell HK3.out 2
        have k3 := blk_cell HK3.out 3
        clear hrun hIY hI3 hlo hlk hsz ha3 ht3 hv3 hKl2
        go_wp2_with (at_builtin; refine wpList_app_run rfl (.tmp 45) (.tmp 47) 26 rfl _ _ rfl rfl 26 rfl _ _ HRUN.out ?_)
        exact ⟨⟨k + 1, _, r9, by omega, by go_num, HKL2.out, HIY, HXn⟩, by simp [intOf]; omega⟩
    · have hkm : k = m := by omega
      subst hkm
      have hx : X0 = some (Ks.map (·.1), lr) := by rw [HE.out, Nat.sub_self]; simp [joinL, rdL]
      have HX := hid hx
      clear hx
      go_wp2_with fail
      go_ret2
      rw [HX.out]
      have hl : (Ks.map (·.1)).length = k := by rw [List.length_map, HKL.out]
      refine ⟨ua, uc, by rw [hl]; rfl, HI.out.a, HI.out.tc, ?_⟩
      rw [hl]
      exact HI.out.k.rd (Nat.zero_le _) (fun b hb _ => hb.1) (fun b hb => (HI.out.k.own.lt b hb).1)
end Go.Proofs.YtihbbgcpdgnhoaaGreatDoor
namespace Go.Proofs.YtihbbgcpdgnhoaaGreatDoor
open Go.ChangeShapes Go.WideShapes Go.ChangeAt Go.RowKit Go.Deep
attribute [local go_sem ↓] Go.wp_at_zero Go.wp_at_succ
set_option maxRecDepth 100000

set_option maxHeartbeats 1600000 in
theorem kids_short (w : World) (q : Nat) (l : Bs) (k tn : Int) (an at_ : Option Addr) (ln cn lt_ ct : Nat) (h : At w q l) (hl : l.length < 1) : Calls Tryz.prog 72 #[tk q, .agg #[i64 k, i64 tn, .slice an ln cn, .slice at_ lt_ ct]] w (KNo q w) := by
  have hb0 := below_one w (tyO k tn (.slice an ln cn) (.slice at_ lt_ ct))
  have HB0 := hid hb0
  have HN := hid (num_no _ q 1 l (at_below h hb0) hl)
  clear h hb0 hl
  go_enter Tryz.func72, Tryz.ntmps72
  go_wp2_with fail
  refine HN.out.mono ?_
  rintro e w1 ⟨rfl, hw⟩
  subst hw
  go_wp2_with fail
  go_ret2
  exact ⟨rfl, Touch.of_below HB0.out⟩
set_option maxHeartbeats 1600000 in
theorem kids_count (w : World) (q m : Nat) (c : UInt8) (r : Bs) (tn : Int) (an at_ : Option Addr) (ln cn lt_ ct : Nat) (h : At w q (c :: r)) (hc : c.toNat = m) (hm : m ≠ lt_) : Calls Tryz.prog 72 #[tk q, .agg #[i64 4, i64 tn, .slice an ln cn, .slice at_ lt_ ct]] w (KNo q w) := by
  have hb0 := below_one w (tyO 4 tn (.slice an ln cn) (.slice at_ lt_ ct))
  have HB0 := hid hb0
  have hq := h.lt
  have HA0 := hid (at_below h hb0)
  have HN := hid (num_yes _ q 1 m (c :: r) r HA0.out (by rw [rdN_one, hc]))
  have hmI : ¬ (m : Int) = (lt_ : Int) := by omega
  have hmb : ((m : Int) != (lt_ : Int)) = true := by rw [bne, beq_false_of_ne hmI]; rfl
  clear h hb0 hc hm
  go_enter Tryz.func72, Tryz.ntmps72
  go_wp2_with fail
  refine HN.out.mono ?_
  rintro e w1 ⟨rfl, hw⟩
  have ht := At.touch (w.alloc (tyO 4 tn (.slice an ln cn) (.slice at_ lt_ ct))) q r
  rw [← hw] at ht
  have HT : Hid (Touch q w w1) := (Touch.of_below HB0.out).trans ht
  have HO : Hid (w1.heap[w.heap.size]? = some (tyO 4 tn (.slice an ln cn) (.slice at_ lt_ ct))) := (ht.block _ (by simp) (by omega)).trans (heap_last w _)
  have x0 := blk_cell HO.out 0
  have x3 := blk_cell HO.out 3
  clear hw ht
  go_wp2_with fail
  go_ret2
  exact ⟨rfl, HT.out⟩
theorem rdN_none {k : Nat} {l : Bs} (h1 : 1 ≤ k) (h4 : k ≤ 4) (h : rdN k l = none) : l.length < k := by
  unfold rdN at h
  split at h
  · cases h
  · omega
def mapK (k : Int) : Option (List Vl × Bs) → Option (Vl × Bs)
  | none => none
  | some (L, p) => some (.mk k 0 [] L, p)
set_option maxHeartbeats 3200000 in
theorem val_3_any (w : World) (q : Nat) (c : UInt8) (r : Bs) (tn : Int) (an at_ : Option Addr) (ln cn lt_ ct : Nat) (X : Option (List Vl × Bs)) (h : At w q (c :: r)) (hc : c.toNat = 3) (hK : ∀ V, Touch q w V → At V q r → Calls Tryz.prog 72 #[tk q, .agg #[i64 3, i64 tn, .slice an ln cn, .slice at_ lt_ ct]] V (KOk q V 3 X)) : Calls Tryz.prog 51 #[tk q, .agg #[i64 3, i64 tn, .slice an ln cn, .slice at_ lt_ ct]] w (VOk q w (mapK 3 X)) := by
  obtain ⟨HZa, HRa, hb0⟩ := two_boxes w (.cells #[i64 3, i64 tn, .slice an ln cn, .slice at_ lt_ ct] 25) z28
  have HZ := hid HZa
  have HR := hid HRa
  have HB0 := hid hb0
  have hz := zero28
  have hq := h.lt
  have HA0 := hid (at_below h hb0)
  have HK := hid hK
  have HN := hid (num_yes _ q 1 3 (c :: r) r HA0.out (by rw [rdN_one, hc]))
  clear HZa HRa hb0 h hc hK
  go_enter Tryz.func51, Tryz.ntmps51
  go_wp2_with fail
  refine HN.out.mono ?_
  rintro e w1 ⟨rfl, hw⟩
  have ht := At.touch ((w.alloc (.cells #[i64 3, i64 tn, .slice an ln cn, .slice at_ lt_ ct] 25)).alloc z28) q r
  have ha := HA0.out.set r
  rw [← hw] at ht ha
  have HZ1 := hid ((ht.block _ (blk_lt HZ.out) (by omega)).trans HZ.out)
  have HR1 := hid ((ht.block _ (blk_lt HR.out) (by omega)).trans HR.out)
  have HT1 : Hid (Touch q w w1) := (Touch.of_below HB0.out).trans ht
  have HO1 := hid (heap_last w1 (.cells #[i64 3, i64 0, str [], .slice none 0 0] 28))
  have HA1 := hid (at_below ha (below_one w1 (.cells #[i64 3, i64 0, str [], .slice none 0 0] 28)))
  have HZ1' := hid (blk_alloc HZ1.out (.cells #[i64 3, i64 0, str [], .slice none 0 0] 28))
  have HR1' := hid (blk_alloc HR1.out (.cells #[i64 3, i64 0, str [], .slice none 0 0] 28))
  have HT1' : Hid (Touch q w (w1.alloc (.cells #[i64 3, i64 0, str [], .slice none 0 0] 28))) := HT1.out.alloc _
  have hsz1 : (w1.alloc (.cells #[i64 3, i64 0, str [], .slice none 0 0] 28)).heap.size = w1.heap.size + 1 := by simp
  have hRl := blk_lt HR1.out
  have hZl := blk_lt HZ1.out
  have x0 := blk_cell HZ1.out 0
  have x1 := blk_cell HZ1.out 1
  have x2 := blk_cell HZ1.out 2
  have x3 := blk_cell HZ1.out 3
  have HC := hid (HK.out _ HT1'.out HA1.out)
  clear hw ht ha HN HK
  go_wp2_with fail
  refine HC.out.mono ?_
  clear HC
  cases X with
  | none =>
    rintro e w3 ⟨rfl, ht⟩
    have HR3 : Hid (w3.heap[w.heap.size + 1]? = some z28) := (ht.block _ (blk_lt HR1'.out) (by omega)).trans HR1'.out
    have HO3 : Hid (w3.heap[w1.heap.size]? = some (.cells #[i64 3, i64 0, str [], .slice none 0 0] 28)) := (ht.block _ (blk_lt HO1.out) (by omega)).trans HO1.out
    have HT3 : Hid (Touch q w w3) := HT1'.out.trans ht
    clear ht x0 x1 x2 x3 HR1 HR1' HZ1 HZ1' HO1 HA1 HT1 HT1' HA0 HB0
    have o0 := blk_cell HO3.out 0
    have o1 := blk_cell HO3.out 1
    have o2 := blk_cell HO3.out 2
    have o3 := blk_cell HO3.out 3
    have ofz := blk_frozen HO3.out
    have r0 := blk_cell HR3.out 0
    have r1 := blk_cell HR3.out 1
    have r2 := blk_cell HR3.out 2
    have r3 := blk_cell HR3.out 3
    have rf := blk_frozen HR3.out
    have hne : w.heap.size + 1 ≠ w1.heap.size := by omega
    go_wp2_with fail
    exact bodyPost_ret (results_cell Tryz.results51 rfl rfl (vload28 (set4' ((Below.heap_setCell w3 ⟨w1.heap.size, 3, none⟩ _ _ hne).trans HR3.out) _ _ _ _))) rfl ⟨⟨_, _, _, _, _, _, rfl⟩, touch4 (Touch.setNew (p := ⟨w1.heap.size, 3, none⟩) HT3.out (by show w.heap.size ≤ w1.heap.size; omega) _) (by omega) _ _ _ _⟩
  | some y =>
    obtain ⟨L, p⟩ := y
    rintro e w3 ⟨a9, c9, rfl, ha, ht, hv⟩
    have HR3 : Hid (w3.heap[w.heap.size + 1]? = some z28) := (ht.block _ (blk_lt HR1'.out) (by omega)).trans HR1'.out
    have HO3 : Hid (w3.heap[w1.heap.size]? = some (.cells #[i64 3, i64 0, str [], .slice none 0 0] 28)) := (ht.block _ (blk_lt HO1.out) (by omega)).trans HO1.out
    have HT3 : Hid (Touch q w w3) := HT1'.out.trans ht
    have HA3 := hid ha
    have HV3 : Hid (Vd w3 (fun b => w1.heap.size + 1 ≤ b) (.mk 3 0 [] L) (.slice a9 L.length c9)) := by rw [hsz1] at hv; exact hv
    clear ht ha hv x0 x1 x2 x3 HR1 HR1' HZ1 HZ1' HO1 HA1 HT1 HT1' HA0 HB0
    have o0 := blk_cell HO3.out 0
    have o1 := blk_cell HO3.out 1
    have o2 := blk_cell HO3.out 2
    have o3 := blk_cell HO3.out 3
    have ofz := blk_frozen HO3.out
    have r0 := blk_cell HR3.out 0
    have r1 := blk_cell HR3.out 1
    have r2 := blk_cell HR3.out 2
    have r3 := blk_cell HR3.out 3
    have rf := blk_frozen HR3.out
    have hne : w.heap.size + 1 ≠ w1.heap.size := by omega
    go_wp2_with fail
    refine bodyPost_ret (results_cell Tryz.results51 rfl rfl (vload28 (set4' ((Below.heap_setCell w3 ⟨w1.heap.size, 3, none⟩ _ _ hne).trans HR3.out) _ _ _ _))) rfl ⟨a9, c9, rfl, ?_, touch4 (Touch.setNew (p := ⟨w1.heap.size, 3, none⟩) HT3.out (by show w.heap.size ≤ w1.heap.size; omega) _) (by omega) _ _ _ _, ?_⟩
    · exact at4 ((Below.heap_setCell w3 ⟨w1.heap.size, 3, none⟩ _ _ (by show q ≠ w1.heap.size; omega)).trans HA3.out) (by omega) _ _ _ _
    · refine HV3.out.move (by simp [World.setCell]) (fun b hb _ => ⟨by omega, ?_⟩)
      have e1 : b ≠ w.heap.size + 1 := by omega
      have e2 : b ≠ w1.heap.size := by omega
      rw [Below.heap_setCell _ _ _ _ (show b ≠ w.heap.size + 1 from e1), Below.heap_setCell _ _ _ _ (show b ≠ w.heap.size + 1 from e1), Below.heap_setCell _ _ _ _ (show b ≠ w.heap.size + 1 from e1), Below.heap_setCell _ _ _ _ (show b ≠ w.heap.size + 1 from e1), Below.heap_setCell _ _ _ _ (show b ≠ w1.heap.size from e2)]
set_option maxHeartbeats 3200000 in
theorem val_4_any (w : World) (q : Nat) (c : UInt8) (r : Bs) (tn : Int) (an at_ : Option Addr) (ln cn lt_ ct : Nat) (X : Option (List Vl × Bs)) (h : At w q (c :: r)) (hc : c.toNat = 4) (hK : ∀ V, Touch q w V → At V q r → Calls Tryz.prog 72 #[tk q, .agg #[i64 4, i64 tn, .slice an ln cn, .slice at_ lt_ ct]] V (KOk q V 4 X)) : Calls Tryz.prog 51 #[tk q, .agg #[i64 4, i64 tn, .slice an ln cn, .slice at_ lt_ ct]] w (VOk q w (mapK 4 X)) := by
  obtain ⟨HZa, HRa, hb0⟩ := two_boxes w (.cells #[i64 4, i64 tn, .slice an ln cn, .slice at_ lt_ ct] 25) z28
  have HZ := hid HZa
  have HR := hid HRa
  have HB0 := hid hb0
  have hz := zero28
  have hq := h.lt
  have HA0 := hid (at_below h hb0)
  have HK := hid hK
  have HN := hid (num_yes _ q 1 4 (c :: r) r HA0.out (by rw [rdN_one, hc]))
  clear HZa HRa hb0 h hc hK
  go_enter Tryz.func51, Tryz.ntmps51
  go_wp2_with fail
  refine HN.out.mono ?_
  rintro e w1 ⟨rfl, hw⟩
  have ht := At.touch ((w.alloc (.cells #[i64 4, i64 tn, .slice an ln cn, .slice at_ lt_ ct] 25)).alloc z28) q r
  have ha := HA0.out.set r
  rw [← hw] at ht ha
  have HZ1 := hid ((ht.block _ (blk_lt HZ.out) (by omega)).trans HZ.out)
  have HR1 := hid ((ht.block _ (blk_lt HR.out) (by omega)).trans HR.out)
  have HT1 : Hid (Touch q w w1) := (Touch.of_below HB0.out).trans ht
  have HO1 := hid (heap_last w1 (.cells #[i64 4, i64 0, str [], .slice none 0 0] 28))
  have HA1 := hid (at_below ha (below_one w1 (.cells #[i64 4, i64 0, str [], .slice none 0 0] 28)))
  have HZ1' := hid (blk_alloc HZ1.out (.cells #[i64 4, i64 0, str [], .slice none 0 0] 28))
  have HR1' := hid (blk_alloc HR1.out (.cells #[i64 4, i64 0, str [], .slice none 0 0] 28))
  have HT1' : Hid (Touch q w (w1.alloc (.cells #[i64 4, i64 0, str [], .slice none 0 0] 28))) := HT1.out.alloc _
  have hsz1 : (w1.alloc (.cells #[i64 4, i64 0, str [], .slice none 0 0] 28)).heap.size = w1.heap.size + 1 := by simp
  have hRl := blk_lt HR1.out
  have hZl := blk_lt HZ1.out
  have x0 := blk_cell HZ1.out 0
  have x1 := blk_cell HZ1.out 1
  have x2 := blk_cell HZ1.out 2
  have x3 := blk_cell HZ1.out 3
  have HC := hid (HK.out _ HT1'.out HA1.out)
  clear hw ht ha HN HK
  go_wp2_with fail
  refine HC.out.mono ?_
  clear HC
  cases X with
  | none =>
    rintro e w3 ⟨rfl, ht⟩
    have HR3 : Hid (w3.heap[w.heap.size + 1]? = some z28) := (ht.block _ (blk_lt HR1'.out) (by omega)).trans HR1'.out
    have HO3 : Hid (w3.heap[w1.heap.size]? = some (.cells #[i64 4, i64 0, str [], .slice none 0 0] 28)) := (ht.block _ (blk_lt HO1.out) (by omega)).trans HO1.out
    have HT3 : Hid (Touch q w w3) := HT1'.out.trans ht
    clear ht x0 x1 x2 x3 HR1 HR1' HZ1 HZ1' HO1 HA1 HT1 HT1' HA0 HB0
    have o0 := blk_cell HO3.out 0
    have o1 := blk_cell HO3.out 1
    have o2 := blk_cell HO3.out 2
    have o3 := blk_cell HO3.out 3
    have ofz := blk_frozen HO3.out
    have r0 := blk_cell HR3.out 0
    have r1 := blk_cell HR3.out 1
    have r2 := blk_cell HR3.out 2
    have r3 := blk_cell HR3.out 3
    have rf := blk_frozen HR3.out
    have hne : w.heap.size + 1 ≠ w1.heap.size := by omega
    go_wp2_with fail
    exact bodyPost_ret (results_cell Tryz.results51 rfl rfl (vload28 (set4' ((Below.heap_setCell w3 ⟨w1.heap.size, 3, none⟩ _ _ hne).trans HR3.out) _ _ _ _))) rfl ⟨⟨_, _, _, _, _, _, rfl⟩, touch4 (Touch.setNew (p := ⟨w1.heap.size, 3, none⟩) HT3.out (by show w.heap.size ≤ w1.heap.size; omega) _) (by omega) _ _ _ _⟩
  | some y =>
    obtain ⟨L, p⟩ := y
    rintro e w3 ⟨a9, c9, rfl, ha, ht, hv⟩
    have HR3 : Hid (w3.heap[w.heap.size + 1]? = some z28) := (ht.block _ (blk_lt HR1'.out) (by omega)).trans HR1'.out
    have HO3 : Hid (w3.heap[w1.heap.size]? = some (.cells #[i64 4, i64 0, str [], .slice none 0 0] 28)) := (ht.block _ (blk_lt HO1.out) (by omega)).trans HO1.out
    have HT3 : Hid (Touch q w w3) := HT1'.out.trans ht
    have HA3 := hid ha
    have HV3 : Hid (Vd w3 (fun b => w1.heap.size + 1 ≤ b) (.mk 4 0 [] L) (.slice a9 L.length c9)) := by rw [hsz1] at hv; exact hv
    clear ht ha hv x0 x1 x2 x3 HR1 HR1' HZ1 HZ1' HO1 HA1 HT1 HT1' HA0 HB0
    have o0 := blk_cell HO3.out 0
    have o1 := blk_cell HO3.out 1
    have o2 := blk_cell HO3.out 2
    have o3 := blk_cell HO3.out 3
    have ofz := blk_frozen HO3.out
    have r0 := blk_cell HR3.out 0
    have r1 := blk_cell HR3.out 1
    have r2 := blk_cell HR3.out 2
    have r3 := blk_cell HR3.out 3
    have rf := blk_frozen HR3.out
    have hne : w.heap.size + 1 ≠ w1.heap.size := by omega
    go_wp2_with fail
    refine bodyPost_ret (results_cell Tryz.results51 rfl rfl (vload28 (set4' ((Below.heap_setCell w3 ⟨w1.heap.size, 3, none⟩ _ _ hne).trans HR3.out) _ _ _ _))) rfl ⟨a9, c9, rfl, ?_, touch4 (Touch.setNew (p := ⟨w1.heap.size, 3, none⟩) HT3.out (by show w.heap.size ≤ w1.heap.size; omega) _) (by omega) _ _ _ _, ?_⟩
    · exact at4 ((Below.heap_setCell w3 ⟨w1.heap.size, 3, none⟩ _ _ (by show q ≠ w1.heap.size; omega)).trans HA3.out) (by omega) _ _ _ _
    · refine HV3.out.move (by simp [World.setCell]) (fun b hb _ => ⟨by omega, ?_⟩)
      have e1 : b ≠ w.heap.size + 1 := by omega
      have e2 : b ≠ w1.heap.size := by omega
      rw [Below.heap_setCell _ _ _ _ (show b ≠ w.heap.size + 1 from e1), Below.heap_setCell _ _ _ _ (show b ≠ w.heap.size + 1 from e1), Below.heap_setCell _ _ _ _ (show b ≠ w.heap.size + 1 from e1), Below.heap_setCell _ _ _ _ (show b ≠ w.heap.size + 1 from e1), Below.heap_setCell _ _ _ _ (show b ≠ w1.heap.size from e2)]
def kidsR (f : Nat) (T : Ty) (r : Bs) : Option (List Vl × Bs) := match rdN 1 r with
  | none => none
  | some (m, q) => if T.kind = 4 ∧ m ≠ T.kids.length then none else rdL (rdV f) T 0 m q
theorem rdV_kids (f : Nat) (T : Ty) (c : UInt8) (r : Bs) (hc : (c.toNat : Int) = T.kind) (h1 : T.kind ≠ 1) (h2 : T.kind ≠ 2) : rdV (f + 1) T (c :: r) = mapK T.kind (kidsR f T r) := by
  rw [rdV, rdN_one]
  simp only []
  rw [if_neg (by simp [hc]), if_neg h1, if_neg h2]
  unfold kidsR
  cases rdN 1 r with
  | none => rfl
  | some x =>
    obtain ⟨m, q⟩ := x
    simp only []
    by_cases h : T.kind = 4 ∧ m ≠ T.kids.length
    · rw [if_pos h, if_pos h]; rfl
    · rw [if_neg h, if_neg h]
      cases rdL (rdV f) T 0 m q <;> rfl
theorem kids_ok (f : Nat) (ih : ∀ (T : Ty), T.depth ≤ f → T.formed = true → ∀ (w : World) (q : Nat) (l : Bs) (nv kv : Value), At w q l → Rd w (fun b => b ≠ q) T nv kv → Calls Tryz.prog 51 #[tk q, tyV T.kind T.num nv kv] w (VOk q w (rdV f T l)))
    (w : World) (q : Nat) (l : Bs) (T : Ty) (an at_ : Option Addr) (ln cn ct : Nat) (h : At w q l) (hTk : T.kind = 3 ∨ T.kind = 4) (hTf : T.formed = true) (hd : T.depth ≤ f + 1) (hR : Rd w (fun b => b ≠ q) T (.slice an ln cn) (.slice at_ T.kids.length ct)) : Calls Tryz.prog 72 #[tk q, .agg #[i64 T.kind, i64 T.num, .slice an ln cn, .slice at_ T.kids.length ct]] w (KOk q w T.kind (kidsR f T l)) := by
  unfold kidsR
  cases l with
  | nil => exact kids_short w q [] _ _ _ _ _ _ _ _ h (by simp)
  | cons c r =>
    rw [rdN_one]
    simp only []
    rcases hTk with h3 | h4
    · have hn := node_3 hTf h3
      rw [if_neg (by omega)]
      have := kids_3 f ih w q c.toNat c r T.num T an at_ ln cn _ ct h rfl h3 rfl hTf hd (fun _ => by omega) (fun e => absurd h3 e) hR
      rw [h3]
      exact this
    · by_cases hm : c.toNat = T.kids.length
      · rw [if_neg (fun e => e.2 hm)]
        have := kids_4 f ih w q c.toNat c r T.num T an at_ ln cn ct h rfl h4 rfl hTf hd (fun e => by omega) (fun _ => hm) (by rw [hm]; exact hR)
        rw [h4]
        rw [hm] at this ⊢
        exact this
      · rw [if_pos ⟨h4, hm⟩]
        have := kids_count w q c.toNat c r T.num an at_ ln cn _ ct h rfl hm
        rw [h4]
        exact this
theorem value_ok : ∀ (f : Nat) (T : Ty), T.depth ≤ f → T.formed = true → ∀ (w : World) (q : Nat) (l : Bs) (nv kv : Value), At w q l → Rd w (fun b => b ≠ q) T nv kv → Calls Tryz.prog 51 #[tk q, tyV T.kind T.num nv kv] w (VOk q w (rdV f T l))
  | 0, T, hd, _ => by cases T; simp only [Ty.depth] at hd; omega
  | f + 1, T, hd, hf => by
    intro w q l nv kv h hR
    obtain ⟨an, cn, rfl, at_, ct, rfl⟩ := hR.form
    show Calls Tryz.prog 51 #[tk q, .agg #[i64 T.kind, i64 T.num, .slice an T.names.length cn, .slice at_ T.kids.length ct]] w _
    cases l with
    | nil => exact val_short w q [] _ _ _ _ _ _ _ _ h (by simp)
    | cons c r =>
      by_cases hc : (c.toNat : Int) = T.kind
      · rcases node_kind hf with h1 | h2 | h3 | h4
        · rw [rdV, rdN_one]
          simp only []
          rw [if_neg (by simp [hc]), if_pos h1]
          rw [h1] at hc ⊢
          have hc1 : c.toNat = 1 := by omega
          rcases node_1 hf h1 with hn | hn | hn
          · rw [hn]
            show Calls _ _ _ _ (VOk q w (match rdN 1 r with | none => none | some (n, q) => some (.mk 1 n [] [], q)))
            cases hr : rdN 1 r with
            | none => exact val_1_8_no w q c r _ _ _ _ _ _ h hc1 (rdN_none (by omega) (by omega) hr)
            | some x =>
              obtain ⟨n, r2⟩ := x
              exact val_1_8_yes w q n c r r2 _ _ _ _ _ _ h hc1 hr
          · rw [hn]
            show Calls _ _ _ _ (VOk q w (match rdN 2 r with | none => none | some (n, q) => some (.mk 1 n [] [], q)))
            cases hr : rdN 2 r with
            | none => exact val_1_16_no w q c r _ _ _ _ _ _ h hc1 (rdN_none (by omega) (by omega) hr)
            | some x =>
              obtain ⟨n, r2⟩ := x
              exact val_1_16_yes w q n c r r2 _ _ _ _ _ _ h hc1 hr
          · rw [hn]
            show Calls _ _ _ _ (VOk q w (match rdN 4 r with | none => none | some (n, q) => some (.mk 1 n [] [], q)))
            cases hr : rdN 4 r with
            | none => exact val_1_32_no w q c r _ _ _ _ _ _ h hc1 (rdN_none (by omega) (by omega) hr)
            | some x =>
              obtain ⟨n, r2⟩ := x
              exact val_1_32_yes w q n c r r2 _ _ _ _ _ _ h hc1 hr
        · rw [rdV, rdN_one]
          simp only []
          rw [if_neg (by simp [hc]), if_neg (by omega), if_pos h2]
          rw [h2] at hc ⊢
          have hc2 : c.toNat = 2 := by omega
          cases hr : rdC 1 r with
          | none => exact val_2_no w q c r _ _ _ _ _ _ _ h hc2 hr
          | some x =>
            obtain ⟨t, r2⟩ := x
            have ht : t.length ≤ 100000 := by
              cases r with
              | nil => simp [rdC, rdN] at hr
              | cons d r3 =>
                unfold rdC at hr
                rw [rdN_one] at hr
                simp only [] at hr
                split at hr
                · simp only [Option.some.injEq, Prod.mk.injEq] at hr
                  obtain ⟨rfl, rfl⟩ := hr
                  have := UInt8.toNat_lt d
                  rw [List.length_take]
                  omega
                · cases hr
            exact val_2_yes w q c r t r2 _ _ _ _ _ _ _ h hc2 hr ht
        · rw [rdV_kids f T c r hc (by omega) (by omega)]
          have hk := fun V ht ha => kids_ok f (value_ok f) V q r T an at_ _ cn ct ha (.inl h3) hf hd (hR.touch ht)
          rw [h3] at hc hk ⊢
          exact val_3_any w q c r _ _ _ _ _ _ _ _ h (by omega) hk
        · rw [rdV_kids f T c r hc (by omega) (by omega)]
          have hk := fun V ht ha => kids_ok f (value_ok f) V q r T an at_ _ cn ct ha (.inr h4) hf hd (hR.touch ht)
          rw [h4] at hc hk ⊢
          exact val_4_any w q c r _ _ _ _ _ _ _ _ h (by omega) hk
      · rw [rdV, rdN_one]
        simp only []
        rw [if_pos hc]
        exact val_tag w q c r _ _ _ _ _ _ _ _ h hc
end Go.Proofs.YtihbbgcpdgnhoaaGreatDoor
namespace Go.Proofs.YtihbbgcpdgnhoaaGreatDoor
open Go.ChangeShapes Go.WideShapes Go.ChangeAt Go.RowKit Go.Deep
attribute [local go_sem ↓] Go.wp_at_zero Go.wp_at_succ
set_option maxRecDepth 100000

theorem zero30 (w : World) : (zeroValue 30).run Tryz.prog w = .ok (.agg #[i64 0, i64 0, i64 0, .slice none 0 0, .slice none 0 0, i64 0, i64 0, str [], .slice none 0 0]) w := by kernel_rfl
abbrev z30 : Obj := .cells #[i64 0, i64 0, i64 0, .slice none 0 0, .slice none 0 0, i64 0, i64 0, str [], .slice none 0 0] 30
theorem vload30 {W : World} {b : Nat} {v : Int} {T : Ty} {V : Vl} {nv tv kv : Value} (h : W.heap[b]? = some (stC v T V nv tv kv)) : (loadVar 30 ⟨b, 0, none⟩).run Tryz.prog W = .ok (stV v T V nv tv kv) W := by
  refine run_loadVar_mid _ _ 0 30 [i64 v, i64 T.kind, i64 T.num, nv, tv, i64 V.kind, i64 V.num, str V.s, kv] _ (fun j u hu => ?_) Tryz.underlying30 rfl (by kernel_rfl)
  rw [Nat.zero_add, cell_of_row _ _ _ _ 30 (0, 0) h]
  simpa using hu
theorem set9 {V : World} {b : Nat} {x0 x1 x2 x3 x4 x5 x6 x7 x8 : Value} {t : TypeId} (h : V.heap[b]? = some (.cells #[x0, x1, x2, x3, x4, x5, x6, x7, x8] t)) (p0 p1 p2 p3 p4 p5 p6 p7 p8 : Value) : (((((((((V.setCell ⟨b, 0, none⟩ p0).setCell ⟨b, 1, none⟩ p1).setCell ⟨b, 2, none⟩ p2).setCell ⟨b, 3, none⟩ p3).setCell ⟨b, 4, none⟩ p4).setCell ⟨b, 5, none⟩ p5).setCell ⟨b, 6, none⟩ p6).setCell ⟨b, 7, none⟩ p7).setCell ⟨b, 8, none⟩ p8).heap[b]? = some (.cells #[p0, p1, p2, p3, p4, p5, p6, p7, p8] t) := by
  have h0 : (V.setCell ⟨b, 0, none⟩ p0).heap[b]? = some (.cells #[p0, x1, x2, x3, x4, x5, x6, x7, x8] t) := heap_setCell_same _ b 0 _ t p0 h
  have h1 : ((V.setCell ⟨b, 0, none⟩ p0).setCell ⟨b, 1, none⟩ p1).heap[b]? = some (.cells #[p0, p1, x2, x3, x4, x5, x6, x7, x8] t) := heap_setCell_same _ b 1 _ t p1 h0
  have h2 : (((V.setCell ⟨b, 0, none⟩ p0).setCell ⟨b, 1, none⟩ p1).setCell ⟨b, 2, none⟩ p2).heap[b]? = some (.cells #[p0, p1, p2, x3, x4, x5, x6, x7, x8] t) := heap_setCell_same _ b 2 _ t p2 h1
  have h3 : ((((V.setCell ⟨b, 0, none⟩ p0).setCell ⟨b, 1, none⟩ p1).setCell ⟨b, 2, none⟩ p2).setCell ⟨b, 3, none⟩ p3).heap[b]? = some (.cells #[p0, p1, p2, p3, x4, x5, x6, x7, x8] t) := heap_setCell_same _ b 3 _ t p3 h2
  have h4 : (((((V.setCell ⟨b, 0, none⟩ p0).setCell ⟨b, 1, none⟩ p1).setCell ⟨b, 2, none⟩ p2).setCell ⟨b, 3, none⟩ p3).setCell ⟨b, 4, none⟩ p4).heap[b]? = some (.cells #[p0, p1, p2, p3, p4, x5, x6, x7, x8] t) := heap_setCell_same _ b 4 _ t p4 h3
  have h5 : ((((((V.setCell ⟨b, 0, none⟩ p0).setCell ⟨b, 1, none⟩ p1).setCell ⟨b, 2, none⟩ p2).setCell ⟨b, 3, none⟩ p3).setCell ⟨b, 4, none⟩ p4).setCell ⟨b, 5, none⟩ p5).heap[b]? = some (.cells #[p0, p1, p2, p3, p4, p5, x6, x7, x8] t) := heap_setCell_same _ b 5 _ t p5 h4
  have h6 : (((((((V.setCell ⟨b, 0, none⟩ p0).setCell ⟨b, 1, none⟩ p1).setCell ⟨b, 2, none⟩ p2).setCell ⟨b, 3, none⟩ p3).setCell ⟨b, 4, none⟩ p4).setCell ⟨b, 5, none⟩ p5).setCell ⟨b, 6, none⟩ p6).heap[b]? = some (.cells #[p0, p1, p2, p3, p4, p5, p6, x7, x8] t) := heap_setCell_same _ b 6 _ t p6 h5
  have h7 : ((((((((V.setCell ⟨b, 0, none⟩ p0).setCell ⟨b, 1, none⟩ p1).setCell ⟨b, 2, none⟩ p2).setCell ⟨b, 3, none⟩ p3).setCell ⟨b, 4, none⟩ p4).setCell ⟨b, 5, none⟩ p5).setCell ⟨b, 6, none⟩ p6).setCell ⟨b, 7, none⟩ p7).heap[b]? = some (.cells #[p0, p1, p2, p3, p4, p5, p6, p7, x8] t) := heap_setCell_same _ b 7 _ t p7 h6
  have h8 : (((((((((V.setCell ⟨b, 0, none⟩ p0).setCell ⟨b, 1, none⟩ p1).setCell ⟨b, 2, none⟩ p2).setCell ⟨b, 3, none⟩ p3).setCell ⟨b, 4, none⟩ p4).setCell ⟨b, 5, none⟩ p5).setCell ⟨b, 6, none⟩ p6).setCell ⟨b, 7, none⟩ p7).setCell ⟨b, 8, none⟩ p8).heap[b]? = some (.cells #[p0, p1, p2, p3, p4, p5, p6, p7, p8] t) := heap_setCell_same _ b 8 _ t p8 h7
  exact h8
theorem touch9 {q R : Nat} {w V : World} (h : Touch q w V) (hR : w.heap.size ≤ R) (p0 p1 p2 p3 p4 p5 p6 p7 p8 : Value) : Touch q w (((((((((V.setCell ⟨R, 0, none⟩ p0).setCell ⟨R, 1, none⟩ p1).setCell ⟨R, 2, none⟩ p2).setCell ⟨R, 3, none⟩ p3).setCell ⟨R, 4, none⟩ p4).setCell ⟨R, 5, none⟩ p5).setCell ⟨R, 6, none⟩ p6).setCell ⟨R, 7, none⟩ p7).setCell ⟨R, 8, none⟩ p8) :=
  (Touch.setNew (p := ⟨R, 8, none⟩) (Touch.setNew (p := ⟨R, 7, none⟩) (Touch.setNew (p := ⟨R, 6, none⟩) (Touch.setNew (p := ⟨R, 5, none⟩) (Touch.setNew (p := ⟨R, 4, none⟩) (Touch.setNew (p := ⟨R, 3, none⟩) (Touch.setNew (p := ⟨R, 2, none⟩) (Touch.setNew (p := ⟨R, 1, none⟩) (Touch.setNew (p := ⟨R, 0, none⟩) h hR p0) hR p1) hR p2) hR p3) hR p4) hR p5) hR p6) hR p7) hR p8)
theorem at9 {q R : Nat} {V : World} (hR : q ≠ R) (p0 p1 p2 p3 p4 p5 p6 p7 p8 : Value) : (((((((((V.setCell ⟨R, 0, none⟩ p0).setCell ⟨R, 1, none⟩ p1).setCell ⟨R, 2, none⟩ p2).setCell ⟨R, 3, none⟩ p3).setCell ⟨R, 4, none⟩ p4).setCell ⟨R, 5, none⟩ p5).setCell ⟨R, 6, none⟩ p6).setCell ⟨R, 7, none⟩ p7).setCell ⟨R, 8, none⟩ p8).heap[q]? = V.heap[q]? := by
  rw [Below.heap_setCell _ _ _ _ hR, Below.heap_setCell _ _ _ _ hR, Below.heap_setCell _ _ _ _ hR, Below.heap_setCell _ _ _ _ hR, Below.heap_setCell _ _ _ _ hR, Below.heap_setCell _ _ _ _ hR, Below.heap_setCell _ _ _ _ hR, Below.heap_setCell _ _ _ _ hR, Below.heap_setCell _ _ _ _ hR]
def SNo (q : Nat) (w : World) (e : Ending) (w' : World) : Prop := (∃ v T V a1 n1 c1 a2 n2 c2 a3 n3 c3, e = .returned (.tuple #[stV v T V (.slice a1 n1 c1) (.slice a2 n2 c2) (.slice a3 n3 c3), .bool false])) ∧ Touch q w w'
def SYes (q : Nat) (w : World) (v : Nat) (T : Ty) (V : Vl) (r : Bs) (e : Ending) (w' : World) : Prop := ∃ a1 c1 a2 c2 a3 c3, e = .returned (.tuple #[stV v T V (.slice a1 T.names.length c1) (.slice a2 T.kids.length c2) (.slice a3 V.kids.length c3), .bool true]) ∧ At w' q r ∧ Touch q w w' ∧ Rd w' (fun b => w.heap.size ≤ b) T (.slice a1 T.names.length c1) (.slice a2 T.kids.length c2) ∧ Vd w' (fun b => w.heap.size ≤ b) V (.slice a3 V.kids.length c3)
def SOk (q : Nat) (w : World) : Option ((Nat × Ty × Vl) × Bs) → Ending → World → Prop
  | none => SNo q w
  | some ((v, T, V), r) => SYes q w v T V r
def mapS (v : Nat) (T : Ty) : Option (Vl × Bs) → Option ((Nat × Ty × Vl) × Bs)
  | none => none
  | some (V, r) => some ((v, T, V), r)
theorem ml_touch {w w' : World} {q : Nat} (h : Ml w) (hq : q ≠ 1) (ht : Touch q w w') : Ml w' := by
  obtain ⟨m, h2⟩ := h
  exact ⟨m, by rw [ht.cell (p := ⟨1, 0, none⟩) (World.block_lt_of_cell? w _ h2) (fun e => hq e.symm)]; exact h2⟩
theorem rdC2_len {b t r : Bs} (h : rdC 2 b = some (t, r)) : t.length ≤ 65535 := by
  unfold rdC at h
  split at h
  · cases h
  · rename_i n r1 hn
    split at h
    · simp only [Option.some.injEq, Prod.mk.injEq] at h
      obtain ⟨rfl, rfl⟩ := h
      unfold rdN at hn
      split at hn
      · simp only [Option.some.injEq, Prod.mk.injEq] at hn
        obtain ⟨hn, rfl⟩ := hn
        have hlt := nm_lt (b.take 2)
        have hle : (256 : Nat) ^ (b.take 2).length ≤ 256 ^ 2 := Nat.pow_le_pow_right (by omega) (by rw [List.length_take]; omega)
        have e2 : (256 : Nat) ^ 2 = 65536 := rfl
        rw [List.length_take]
        omega
      · cases hn
    · cases h
set_option maxHeartbeats 6400000 in
theorem state_ok (w : World) (q : Nat) (l : Bs) (h : At w q l) (hq1 : q ≠ 1) (hM : Ml w) : Calls Tryz.prog 29 #[tk q] w (SOk q w (rdS l)) := by
  have hb0 := below_one w z30
  have hq := h.lt
  have hz := zero30
  have hz25 := zero28
  have HR0 := hid (heap_last w z30)
  have HA0 := hid (at_below h hb0)
  have HT0 : Hid (Touch q w (w.alloc z30)) := Touch.of_below hb0
  have HM := hid hM
  have HQ1 := hid hq1
  obtain ⟨X0, hX0⟩ : ∃ x, x = rdS l := ⟨_, rfl⟩
  have HX0 := hid hX0
  rw [← hX0]
  clear h hb0 hM hq1 hX0
  by_cases hl : l.length < 2
  · have HN := hid (take_no _ q 2 l HA0.out hl)
    have hx : X0 = none := by
      rw [HX0.out]
      match l, hl with
      | [], _ => rfl
      | [_], _ => rfl
    have HX := hid hx
    clear hx hl HX0
    go_enter Tryz.func29, Tryz.ntmps29
    go_wp2_with fail
    refine HN.out.mono ?_
    rintro e w1 ⟨rfl, hw⟩
    subst hw
    have r0 := blk_cell HR0.out 0
    have r1 := blk_cell HR0.out 1
    have r2 := blk_cell HR0.out 2
    have r3 := blk_cell HR0.out 3
    have r4 := blk_cell HR0.out 4
    have r5 := blk_cell HR0.out 5
    have r6 := blk_cell HR0.out 6
    have r7 := blk_cell HR0.out 7
    have r8 := blk_cell HR0.out 8
    have rf := blk_frozen HR0.out
    go_wp2_with fail
    rw [HX.out]
    exact bodyPost_ret (results_cell Tryz.results29 rfl rfl (vload30 (v := 0) (T := .mk 0 0 [] []) (V := .mk 0 0 [] []) HR0.out)) rfl ⟨⟨0, .mk 0 0 [] [], .mk 0 0 [] [], _, _, _, _, _, _, _, _, _, rfl⟩, HT0.out⟩
  · obtain ⟨a, c, b1, rfl⟩ : ∃ a c b1, l = a :: c :: b1 := by
      match l, hl with
      | [], h => simp at h
      | [_], h => simp at h
      | a :: c :: b1, _ => exact ⟨a, c, b1, rfl⟩
    have HN := hid (take_yes _ q 2 (a :: c :: b1) HA0.out (by simp))
    have et : (a :: c :: b1).take 2 = [a, c] := by simp
    have ed : (a :: c :: b1).drop 2 = b1 := by simp
    rw [et, ed] at HN
    clear hl et ed
    go_enter Tryz.func29, Tryz.ntmps29
    go_wp2_with fail
    refine HN.out.mono ?_
    rintro e w1 ⟨rfl, hw⟩
    have ht := At.touch (w.alloc z30) q b1
    have ha := HA0.out.set b1
    rw [← hw] at ht ha
    have HR1 : Hid (w1.heap[w.heap.size]? = some z30) := (ht.block _ (blk_lt HR0.out) (by omega)).trans HR0.out
    have HT1 : Hid (Touch q w w1) := HT0.out.trans ht
    have HA1 := hid ha
    clear hw ht ha HN
    by_cases hac : a = 105 ∧ c = 109
    · obtain ⟨rfl, rfl⟩ := hac
      cases hN : rdN 1 b1 with
      | none =>
        have hx : X0 = none := by rw [HX0.out, rdS, if_pos ⟨rfl, rfl⟩, hN]
        have HX := hid hx
        have HN := hid (num_no w1 q 1 b1 HA1.out (rdN_none (by omega) (by omega) hN))
        clear hx hN HX0
        go_wp2_with fail
        refine HN.out.mono ?_
        rintro e w2 ⟨rfl, hw⟩
        replace hw := hw.symm
        subst hw
        have r0 := blk_cell HR1.out 0
        have r1 := blk_cell HR1.out 1
        have r2 := blk_cell HR1.out 2
        have r3 := blk_cell HR1.out 3
        have r4 := blk_cell HR1.out 4
        have r5 := blk_cell HR1.out 5
        have r6 := blk_cell HR1.out 6
        have r7 := blk_cell HR1.out 7
        have r8 := blk_cell HR1.out 8
        have rf := blk_frozen HR1.out
        go_wp2_with fail
        rw [HX.out]
        exact bodyPost_ret (results_cell Tryz.results29 rfl rfl (vload30 (v := 0) (T := .mk 0 0 [] []) (V := .mk 0 0 [] []) (set9 HR1.out _ _ _ _ _ _ _ _ _))) rfl ⟨⟨0, .mk 0 0 [] [], .mk 0 0 [] [], _, _, _, _, _, _, _, _, _, rfl⟩, touch9 HT1.out (Nat.le_refl _) _ _ _ _ _ _ _ _ _⟩
      | some x =>
        obtain ⟨v, b2⟩ := x
        have HN := hid (num_yes w1 q 1 v b1 b2 HA1.out hN)
        go_wp2_with fail
        refine HN.out.mono ?_
        rintro e w2 ⟨rfl, hw⟩
        have ht := At.touch w1 q b2
        have ha := HA1.out.set b2
        rw [← hw] at ht ha
        have HR2 : Hid (w2.heap[w.heap.size]? = some z30) := (ht.block _ (blk_lt HR1.out) (by omega)).trans HR1.out
        have HT2 : Hid (Touch q w w2) := HT1.out.trans ht
        have HA2 := hid ha
        clear hw ht ha HN
        cases hC : rdC 2 b2 with
        | none =>
          have hx : X0 = none := by rw [HX0.out, rdS, if_pos ⟨rfl, rfl⟩, hN]; simp only [hC]
          have HX := hid hx
          have HN := hid (cnt_no w2 q 2 b2 HA2.out (by omega) (by omega) hC)
          clear hx hN hC HX0
          go_wp2_with fail
          refine HN.out.mono ?_
          rintro e w3 ⟨rfl, ht⟩
          have HR3 : Hid (w3.heap[w.heap.size]? = some z30) := (ht.block _ (blk_lt HR2.out) (by omega)).trans HR2.out
          have HT3 : Hid (Touch q w w3) := HT2.out.trans ht
          clear ht
          have r0 := blk_cell HR3.out 0
          have r1 := blk_cell HR3.out 1
          have r2 := blk_cell HR3.out 2
          have r3 := blk_cell HR3.out 3
          have r4 := blk_cell HR3.out 4
          have r5 := blk_cell HR3.out 5
          have r6 := blk_cell HR3.out 6
          have r7 := blk_cell HR3.out 7
          have r8 := blk_cell HR3.out 8
          have rf := blk_frozen HR3.out
          go_wp2_with fail
          rw [HX.out]
          exact bodyPost_ret (results_cell Tryz.results29 rfl rfl (vload30 (v := 0) (T := .mk 0 0 [] []) (V := .mk 0 0 [] []) (set9 HR3.out _ _ _ _ _ _ _ _ _))) rfl ⟨⟨0, .mk 0 0 [] [], .mk 0 0 [] [], _, _, _, _, _, _, _, _, _, rfl⟩, touch9 HT3.out (Nat.le_refl _) _ _ _ _ _ _ _ _ _⟩
        | some x =>
          obtain ⟨t, b3⟩ := x
          have htl := rdC2_len hC
          have HN := hid (cnt_yes w2 q 2 b2 t b3 HA2.out hC)
          go_wp2_with fail
          refine HN.out.mono ?_
          rintro e w3 ⟨rfl, ha, ht⟩
          have HR3 : Hid (w3.heap[w.heap.size]? = some z30) := (ht.block _ (blk_lt HR2.out) (by omega)).trans HR2.out
          have HT3 : Hid (Touch q w w3) := HT2.out.trans ht
          have HA3 := hid ha
          have HP := hid (parse_ok t w3 (by omega) (ml_touch HM.out HQ1.out HT3.out))
          clear ht ha HN
          go_wp2_with fail
          refine HP.out.mono ?_
          rintro e w4 ⟨a1, n1, c1, a2, n2, c2, rfl, hb4, hrd4⟩
          have HR4 := hid (blk_below HR3.out hb4)
          have HT4 : Hid (Touch q w w4) := HT3.out.trans (Touch.of_below hb4)
          have HA4 := hid (at_below HA3.out hb4)
          have HRd4 := hid hrd4
          have HS3 := hid HT3.out.size
          clear hb4 hrd4 HP
          have HR5 := hid (blk_alloc HR4.out (.cells #[i64 (parT t).kind, i64 (parT t).num, .slice a1 n1 c1, .slice a2 n2 c2] 25))
          have HT5 : Hid (Touch q w (w4.alloc (.cells #[i64 (parT t).kind, i64 (parT t).num, .slice a1 n1 c1, .slice a2 n2 c2] 25))) := HT4.out.alloc _
          have HB5 := hid (heap_last w4 (.cells #[i64 (parT t).kind, i64 (parT t).num, .slice a1 n1 c1, .slice a2 n2 c2] 25))
          have HA5 := hid (at_below HA4.out (below_one w4 (.cells #[i64 (parT t).kind, i64 (parT t).num, .slice a1 n1 c1, .slice a2 n2 c2] 25)))
          have HRd5 := hid (HRd4.out.under (below_one w4 (.cells #[i64 (parT t).kind, i64 (parT t).num, .slice a1 n1 c1, .slice a2 n2 c2] 25)))
          have HTB : Hid (w.heap.size < w4.heap.size ∧ q < w4.heap.size) := ⟨blk_lt HR4.out, HA4.out.lt⟩
          have HQ3 : Hid (q < w3.heap.size) := HA3.out.lt
          have HL3 : Hid (w.heap.size < w3.heap.size) := blk_lt HR3.out
          clear HR4 HT4 HA4 HRd4 HR3 HT3 HA3
          go_upto_region 11 with fail
          generalize w4.alloc (.cells #[i64 (parT t).kind, i64 (parT t).num, .slice a1 n1 c1, .slice a2 n2 c2] 25) = w5 at *
          obtain ⟨TB, hTB⟩ : ∃ TB, TB = w4.heap.size := ⟨_, rfl⟩
          rw [← hTB] at HB5 HTB ⊢
          clear hTB
          cases hP : parseF t with
          | none =>
            obtain ⟨e1, e2⟩ := parse_4 hP
            have hx : X0 = none := by rw [HX0.out, rdS, if_pos ⟨rfl, rfl⟩, hN]; simp only [hC]; rw [hP]
            have HX := hid hx
            rw [e2]
            clear hx hN hC hP HX0 e1 e2
            have r0 := blk_cell HR5.out 0
            have r1 := blk_cell HR5.out 1
            have r2 := blk_cell HR5.out 2
            have r3 := blk_cell HR5.out 3
            have r4 := blk_cell HR5.out 4
            have r5 := blk_cell HR5.out 5
            have r6 := blk_cell HR5.out 6
            have r7 := blk_cell HR5.out 7
            have r8 := blk_cell HR5.out 8
            have rf := blk_frozen HR5.out
            go_wp2_with fail
            rw [HX.out]
            exact bodyPost_ret (results_cell Tryz.results29 rfl rfl (vload30 (v := 0) (T := .mk 0 0 [] []) (V := .mk 0 0 [] []) (set9 HR5.out _ _ _ _ _ _ _ _ _))) rfl ⟨⟨0, .mk 0 0 [] [], .mk 0 0 [] [], _, _, _, _, _, _, _, _, _, rfl⟩, touch9 HT5.out (Nat.le_refl _) _ _ _ _ _ _ _ _ _⟩
          | some T =>
            obtain ⟨e1, e2⟩ := parse_0 hP
            rw [e1] at HRd5 HB5
            rw [e1, e2]
            have ⟨hfm, hd⟩ := right_formed (parseF_back hP).1
            have hfo := HRd5.out.form
            obtain ⟨an', cn', ee1, at', ct', ee2⟩ := hfo
            cases ee1
            cases ee2
            have HRq : Hid (Rd w5 (fun b => b ≠ q) T (.slice a1 T.names.length c1) (.slice a2 T.kids.length c2)) := HRd5.out.mono (fun b hb _ => by have := HQ3.out; omega)
            have HC := hid (value_ok 6 T hd hfm w5 q b3 _ _ HA5.out HRq.out)
            have HXe : Hid (X0 = mapS v T (rdV 6 T b3)) := by show _ = _; rw [HX0.out, rdS, if_pos ⟨rfl, rfl⟩, hN]; simp only [hC]; rw [hP]; simp only []; cases rdV 6 T b3 <;> rfl
            obtain ⟨res, hres⟩ : ∃ res, res = rdV 6 T b3 := ⟨_, rfl⟩
            rw [← hres] at HC HXe
            clear hres hN hC hP HX0 e1 e2 hfm hd
            have y0 := blk_cell HB5.out 0
            have y1 := blk_cell HB5.out 1
            have y2 := blk_cell HB5.out 2
            have y3 := blk_cell HB5.out 3
            go_wp2_with fail
            refine HC.out.mono ?_
            clear HC y0 y1 y2 y3
            cases res with
            | none =>
              rintro e w6 ⟨⟨k9, n9, t9, a9, m9, c9, rfl⟩, ht⟩
              have HX : Hid (X0 = none) := HXe.out
              have HR6 : Hid (w6.heap[w.heap.size]? = some z30) := (ht.block _ (blk_lt HR5.out) (by omega)).trans HR5.out
              have HB6 := hid ((ht.block _ (blk_lt HB5.out) (by have := HTB.out; omega)).trans HB5.out)
              have HT6 : Hid (Touch q w w6) := HT5.out.trans ht
              have HR7 := hid (blk_alloc HR6.out (.cells #[i64 k9, i64 n9, str t9, .slice a9 m9 c9] 28))
              have HB7 := hid (blk_alloc HB6.out (.cells #[i64 k9, i64 n9, str t9, .slice a9 m9 c9] 28))
              have HV7 := hid (heap_last w6 (.cells #[i64 k9, i64 n9, str t9, .slice a9 m9 c9] 28))
              have HT7 : Hid (Touch q w (w6.alloc (.cells #[i64 k9, i64 n9, str t9, .slice a9 m9 c9] 28))) := HT6.out.alloc _
              clear ht HRd5 HRq HXe
              clear HR6 HB6 HT6 HR5 HB5 HT5 HA5
              go_upto_region 14 with fail
              generalize w6.alloc (.cells #[i64 k9, i64 n9, str t9, .slice a9 m9 c9] 28) = w7 at *
              obtain ⟨VB, hVB⟩ : ∃ VB, VB = w6.heap.size := ⟨_, rfl⟩
              rw [← hVB] at HV7 ⊢
              clear hVB
              have r0 := blk_cell HR7.out 0
              have r1 := blk_cell HR7.out 1
              have r2 := blk_cell HR7.out 2
              have r3 := blk_cell HR7.out 3
              have r4 := blk_cell HR7.out 4
              have r5 := blk_cell HR7.out 5
              have r6 := blk_cell HR7.out 6
              have r7 := blk_cell HR7.out 7
              have r8 := blk_cell HR7.out 8
              have rf := blk_frozen HR7.out
              have y0 := blk_cell HB7.out 0
              have y1 := blk_cell HB7.out 1
              have y2 := blk_cell HB7.out 2
              have y3 := blk_cell HB7.out 3
              have v0 := blk_cell HV7.out 0
              have v1 := blk_cell HV7.out 1
              have v2 := blk_cell HV7.out 2
              have v3 := blk_cell HV7.out 3
              go_wp2_with fail
              rw [HX.out]
              exact bodyPost_ret (results_cell Tryz.results29 rfl rfl (vload30 (v := (v : Nat)) (T := T) (V := .mk k9 n9 t9 []) (set9 HR7.out _ _ _ _ _ _ _ _ _))) rfl ⟨⟨(v : Nat), T, .mk k9 n9 t9 [], _, _, _, _, _, _, _, _, _, rfl⟩, touch9 HT7.out (Nat.le_refl _) _ _ _ _ _ _ _ _ _⟩
            | some x =>
              obtain ⟨V, r⟩ := x
              rintro e w6 ⟨a9, c9, rfl, ha, ht, hv⟩
              have HX : Hid (X0 = some ((v, T, V), r)) := HXe.out
              have HR6 : Hid (w6.heap[w.heap.size]? = some z30) := (ht.block _ (blk_lt HR5.out) (by omega)).trans HR5.out
              have HB6 := hid ((ht.block _ (blk_lt HB5.out) (by have := HTB.out; omega)).trans HB5.out)
              have HT6 : Hid (Touch q w w6) := HT5.out.trans ht
              have HR7 := hid (blk_alloc HR6.out (vO V (.slice a9 V.kids.length c9)))
              have HB7 := hid (blk_alloc HB6.out (vO V (.slice a9 V.kids.length c9)))
              have HV7 := hid (heap_last w6 (vO V (.slice a9 V.kids.length c9)))
              have HT7 : Hid (Touch q w (w6.alloc (vO V (.slice a9 V.kids.length c9)))) := HT6.out.alloc _
              have HA7 := hid (at_below ha (below_one w6 (vO V (.slice a9 V.kids.length c9))))
              have HVd7 : Hid (Vd (w6.alloc (vO V (.slice a9 V.kids.length c9))) (fun b => w.heap.size < b) V (.slice a9 V.kids.length c9)) := (hv.under (below_one w6 (vO V (.slice a9 V.kids.length c9)))).mono (fun b hb _ => by have := blk_lt HR5.out; omega)
              have HRd7 : Hid (Rd (w6.alloc (vO V (.slice a9 V.kids.length c9))) (fun b => w.heap.size < b) T (.slice a1 T.names.length c1) (.slice a2 T.kids.length c2)) := by
                have h6 : Rd w6 (fun b => w3.heap.size ≤ b) T (.slice a1 T.names.length c1) (.slice a2 T.kids.length c2) := HRd5.out.move ht.size (fun b hb hlt => ⟨hb, ht.block b hlt (by have := HQ3.out; omega)⟩)
                exact (h6.under (below_one w6 (vO V (.slice a9 V.kids.length c9)))).mono (fun b hb _ => by have := HL3.out; omega)
              clear ha ht hv HRd5 HRq HXe
              clear HR6 HB6 HT6 HR5 HB5 HT5 HA5
              go_upto_region 14 with fail
              generalize w6.alloc (vO V (.slice a9 V.kids.length c9)) = w7 at *
              obtain ⟨VB, hVB⟩ : ∃ VB, VB = w6.heap.size := ⟨_, rfl⟩
              rw [← hVB] at HV7 ⊢
              clear hVB
              have r0 := blk_cell HR7.out 0
              have r1 := blk_cell HR7.out 1
              have r2 := blk_cell HR7.out 2
              have r3 := blk_cell HR7.out 3
              have r4 := blk_cell HR7.out 4
              have r5 := blk_cell HR7.out 5
              have r6 := blk_cell HR7.out 6
              have r7 := blk_cell HR7.out 7
              have r8 := blk_cell HR7.out 8
              have rf := blk_frozen HR7.out
              have y0 := blk_cell HB7.out 0
              have y1 := blk_cell HB7.out 1
              have y2 := blk_cell HB7.out 2
              have y3 := blk_cell HB7.out 3
              have v0 := blk_cell HV7.out 0
              have v1 := blk_cell HV7.out 1
              have v2 := blk_cell HV7.out 2
              have v3 := blk_cell HV7.out 3
              go_wp2_with fail
              rw [HX.out]
              refine bodyPost_ret (results_cell Tryz.results29 rfl rfl (vload30 (v := (v : Nat)) (T := T) (V := V) (set9 HR7.out _ _ _ _ _ _ _ _ _))) rfl ⟨a1, c1, a2, c2, a9, c9, rfl, ?_, touch9 HT7.out (Nat.le_refl _) _ _ _ _ _ _ _ _ _, ?_, ?_⟩
              · exact (at9 (by omega) _ _ _ _ _ _ _ _ _).trans HA7.out
              · exact HRd7.out.move (by simp [World.setCell]) (fun b hb _ => ⟨by omega, at9 (by omega) _ _ _ _ _ _ _ _ _⟩)
              · exact HVd7.out.move (by simp [World.setCell]) (fun b hb _ => ⟨by omega, at9 (by omega) _ _ _ _ _ _ _ _ _⟩)
    · have hx : X0 = none := by rw [HX0.out, rdS, if_neg hac]
      have HX := hid hx
      have hne : (!a == 105 || !c == 109) = true := by
        rw [Bool.or_eq_true]
        by_cases h1 : a = 105
        · exact .inr (by simpa using fun h => hac ⟨h1, h⟩)
        · exact .inl (by simpa using h1)
      clear hx hac HX0
      have r0 := blk_cell HR1.out 0
      have r1 := blk_cell HR1.out 1
      have r2 := blk_cell HR1.out 2
      have r3 := blk_cell HR1.out 3
      have r4 := blk_cell HR1.out 4
      have r5 := blk_cell HR1.out 5
      have r6 := blk_cell HR1.out 6
      have r7 := blk_cell HR1.out 7
      have r8 := blk_cell HR1.out 8
      have rf := blk_frozen HR1.out
      go_wp2_with fail
      rw [HX.out]
      exact bodyPost_ret (results_cell Tryz.results29 rfl rfl (vload30 (v := 0) (T := .mk 0 0 [] []) (V := .mk 0 0 [] []) (set9 HR1.out _ _ _ _ _ _ _ _ _))) rfl ⟨⟨0, .mk 0 0 [] [], .mk 0 0 [] [], _, _, _, _, _, _, _, _, _, rfl⟩, touch9 HT1.out (Nat.le_refl _) _ _ _ _ _ _ _ _ _⟩
end Go.Proofs.YtihbbgcpdgnhoaaGreatDoor
namespace Go.Proofs.YtihbbgcpdgnhoaaGreatDoor
open Go.ChangeShapes Go.WideShapes Go.ChangeAt Go.RowKit Go.Deep
attribute [local go_sem ↓] Go.wp_at_zero Go.wp_at_succ
set_option maxRecDepth 100000

theorem rdN_len {k n : Nat} {b r : Bs} (h : rdN k b = some (n, r)) : r.length + 1 ≤ b.length := by
  unfold rdN at h
  split at h
  · simp only [Option.some.injEq, Prod.mk.injEq] at h
    obtain ⟨_, rfl⟩ := h
    rw [List.length_drop]
    omega
  · cases h
theorem rdC_len {k : Nat} {b t r : Bs} (h : rdC k b = some (t, r)) : r.length + 1 ≤ b.length := by
  unfold rdC at h
  split at h
  · cases h
  · rename_i n r1 hn
    have := rdN_len hn
    split at h
    · simp only [Option.some.injEq, Prod.mk.injEq] at h
      obtain ⟨_, rfl⟩ := h
      rw [List.length_drop]
      omega
    · cases h
theorem rdL_size {f : Nat} (ih : ∀ (V : Vl) (T : Ty) (b r : Bs), rdV f T b = some (V, r) → V.size + r.length ≤ b.length) (T : Ty) :
    ∀ (m i : Nat) (b r : Bs) (l : List Vl), rdL (rdV f) T i m b = some (l, r) → sizeL l + r.length ≤ b.length
  | 0, i, b, r, l, h => by
    simp only [rdL, Option.some.injEq, Prod.mk.injEq] at h
    obtain ⟨rfl, rfl⟩ := h
    simp [sizeL]
  | m + 1, i, b, r, l, h => by
    rw [rdL] at h
    split at h
    · cases h
    · rename_i v r1 hv
      split at h
      · cases h
      · rename_i l1 r2 hl
        simp only [Option.some.injEq, Prod.mk.injEq] at h
        obtain ⟨rfl, rfl⟩ := h
        have h1 := ih _ _ _ _ hv
        have h2 := rdL_size ih T m (i + 1) _ _ _ hl
        show v.size + sizeL l1 + r2.length ≤ b.length
        omega
theorem rdV_size : ∀ (f : Nat) (V : Vl) (T : Ty) (b r : Bs), rdV f T b = some (V, r) → V.size + r.length ≤ b.length
  | 0, V, T, b, r, h => by simp [rdV] at h
  | f + 1, V, T, b, r, h => by
    rw [rdV] at h
    split at h
    · cases h
    · rename_i tag r1 h1
      have e1 := rdN_len h1
      split at h
      · cases h
      · split at h
        · split at h
          · cases h
          · rename_i n q h2
            have e2 := rdN_len h2
            simp only [Option.some.injEq, Prod.mk.injEq] at h
            obtain ⟨rfl, rfl⟩ := h
            simp only [Vl.size, sizeL]
            omega
        · split at h
          · split at h
            · cases h
            · rename_i t q h2
              have e2 := rdC_len h2
              simp only [Option.some.injEq, Prod.mk.injEq] at h
              obtain ⟨rfl, rfl⟩ := h
              simp only [Vl.size, sizeL]
              omega
          · split at h
            · cases h
            · rename_i m q h2
              have e2 := rdN_len h2
              split at h
              · cases h
              · split at h
                · cases h
                · rename_i l p h3
                  have e3 := rdL_size (rdV_size f) T _ _ _ _ _ h3
                  simp only [Option.some.injEq, Prod.mk.injEq] at h
                  obtain ⟨rfl, rfl⟩ := h
                  simp only [Vl.size]
                  omega
theorem rdS_size {b r : Bs} {v : Nat} {T : Ty} {V : Vl} (h : rdS b = some ((v, T, V), r)) : V.size ≤ b.length := by
  unfold rdS at h
  split at h
  · split at h
    · split at h
      · cases h
      · rename_i hv
        split at h
        · cases h
        · rename_i ht
          split at h
          · cases h
          · split at h
            · cases h
            · rename_i hV
              simp only [Option.some.injEq, Prod.mk.injEq] at h
              obtain ⟨⟨rfl, rfl, rfl⟩, rfl⟩ := h
              have e1 := rdN_len hv
              have e2 := rdC_len ht
              have e3 := rdV_size 6 _ _ _ _ hV
              simp only [List.length_cons]
              omega
    · cases h
  · cases h
/-- What Read reads. -/
def rdR (b : Bs) : Option (Nat × Ty × Vl) := match rdS b with
  | some ((v, T, V), []) => if fitsB V T = true then some (v, T, V) else none
  | _ => none
abbrev zS : Value := .agg #[i64 0, i64 0, i64 0, .slice none 0 0, .slice none 0 0, i64 0, i64 0, str [], .slice none 0 0]
def RNo (E : Int) (w : World) (e : Ending) (w' : World) : Prop := e = .returned (.tuple #[zS, i64 E]) ∧ Below w.heap.size w w'
def RYes (w : World) (v : Nat) (T : Ty) (V : Vl) (e : Ending) (w' : World) : Prop := ∃ a1 c1 a2 c2 a3 c3, e = .returned (.tuple #[stV v T V (.slice a1 T.names.length c1) (.slice a2 T.kids.length c2) (.slice a3 V.kids.length c3), i64 0]) ∧ Below w.heap.size w w' ∧ Rd w' (fun b => w.heap.size ≤ b) T (.slice a1 T.names.length c1) (.slice a2 T.kids.length c2) ∧ Vd w' (fun b => w.heap.size ≤ b) V (.slice a3 V.kids.length c3)
def ROk (w : World) : Option (Nat × Ty × Vl) → Ending → World → Prop
  | none => RNo 4 w
  | some (v, T, V) => RYes w v T V
set_option maxHeartbeats 800000 in
theorem wread_long (w : World) (l : Bs) (hl : 6000 < l.length) : Calls Tryz.prog 13 #[str l] w (RNo 2 w) := by
  have hz := zero30
  have HR0 := hid (heap_last w z30)
  have HB0 := hid (below_one w z30)
  have hs := bsize l
  have hI : (6000 : Int) < l.length := by omega
  clear hl
  go_enter Tryz.func13, Tryz.ntmps13
  go_wp2_with fail
  exact bodyPost_ret (results_cell Tryz.results13 rfl rfl (vload30 (v := 0) (T := .mk 0 0 [] []) (V := .mk 0 0 [] []) HR0.out)) rfl ⟨rfl, HB0.out⟩
set_option maxHeartbeats 6400000 in
theorem wread_ok (w : World) (l : Bs) (hl : l.length ≤ 6000) (hM : Ml w) : Calls Tryz.prog 13 #[str l] w (ROk w (rdR l)) := by
  have hz := zero30
  have h1lt : 1 < w.heap.size := by obtain ⟨m, hm⟩ := hM; exact World.block_lt_of_cell? w _ hm
  obtain ⟨HRa, HQa, hb0⟩ := two_boxes w z30 (.cells #[str l] 78)
  have HR0 := hid HRa
  have HQ0 := hid HQa
  have HB0 := hid hb0
  have HC := hid (state_ok _ (w.heap.size + 1) l HQ0.out (by omega) (hM.below hb0))
  have hs := bsize l
  have hI : ¬ (6000 : Int) < l.length := by omega
  obtain ⟨X0, hX0⟩ : ∃ x, x = rdR l := ⟨_, rfl⟩
  rw [← hX0]
  have HX0 := hid hX0
  have HL := hid hl
  clear HRa HQa hb0 hM h1lt hX0 hl
  go_enter Tryz.func13, Tryz.ntmps13
  go_wp2_with fail
  refine HC.out.mono ?_
  clear HC
  obtain ⟨res, hres⟩ : ∃ res, res = rdS l := ⟨_, rfl⟩
  rw [← hres]
  cases res with
  | none =>
    rintro e w1 ⟨⟨v, T, V, a1, n1, c1, a2, n2, c2, a3, n3, c3, rfl⟩, ht⟩
    have hx : X0 = none := by rw [HX0.out]; unfold rdR; rw [← hres]
    have HX := hid hx
    have HR1 : Hid (w1.heap[w.heap.size]? = some z30) := (ht.block _ (blk_lt HR0.out) (by omega)).trans HR0.out
    have HT1 : Hid (Touch (w.heap.size + 1) w w1) := (Touch.of_below HB0.out).trans ht
    have HR3 := hid (blk_alloc HR1.out (stC v T V (.slice a1 n1 c1) (.slice a2 n2 c2) (.slice a3 n3 c3)))
    have HT3 : Hid (Touch (w.heap.size + 1) w (w1.alloc (stC v T V (.slice a1 n1 c1) (.slice a2 n2 c2) (.slice a3 n3 c3)))) := HT1.out.alloc _
    clear ht hx hres HX0 HR1 HT1 HR0 HQ0 HB0
    go_upto_region 5 with fail
    generalize w1.alloc (stC v T V (.slice a1 n1 c1) (.slice a2 n2 c2) (.slice a3 n3 c3)) = w3 at *
    have r0 := blk_cell HR3.out 0
    have r1 := blk_cell HR3.out 1
    have r2 := blk_cell HR3.out 2
    have r3 := blk_cell HR3.out 3
    have r4 := blk_cell HR3.out 4
    have r5 := blk_cell HR3.out 5
    have r6 := blk_cell HR3.out 6
    have r7 := blk_cell HR3.out 7
    have r8 := blk_cell HR3.out 8
    have rf := blk_frozen HR3.out
    go_wp2_with fail
    rw [HX.out]
    exact bodyPost_ret (results_cell Tryz.results13 rfl rfl (vload30 (v := 0) (T := .mk 0 0 [] []) (V := .mk 0 0 [] []) (set9 HR3.out _ _ _ _ _ _ _ _ _))) rfl ⟨rfl, (touch9 HT3.out (Nat.le_refl _) _ _ _ _ _ _ _ _ _).below (Nat.le_succ _) (Nat.le_refl _)⟩
  | some x =>
    obtain ⟨⟨v, T, V⟩, r⟩ := x
    rintro e w1 ⟨a1, c1, a2, c2, a3, c3, rfl, ha, ht, hrd, hvd⟩
    have hsz : V.size ≤ 100000 := by have := rdS_size hres.symm; have := HL.out; omega
    have HR1 : Hid (w1.heap[w.heap.size]? = some z30) := (ht.block _ (blk_lt HR0.out) (by omega)).trans HR0.out
    have HT1 : Hid (Touch (w.heap.size + 1) w w1) := (Touch.of_below HB0.out).trans ht
    have hlo : w.heap.size < ((w.alloc z30).alloc (.cells #[str l] 78)).heap.size := blk_lt HR0.out
    have HR2 := hid (blk_alloc HR1.out (stC v T V (.slice a1 T.names.length c1) (.slice a2 T.kids.length c2) (.slice a3 V.kids.length c3)))
    have HT2 : Hid (Touch (w.heap.size + 1) w (w1.alloc (stC v T V (.slice a1 T.names.length c1) (.slice a2 T.kids.length c2) (.slice a3 V.kids.length c3)))) := HT1.out.alloc _
    have HA2 := hid (at_below ha (below_one w1 (stC v T V (.slice a1 T.names.length c1) (.slice a2 T.kids.length c2) (.slice a3 V.kids.length c3))))
    have HS2 := hid (heap_last w1 (stC v T V (.slice a1 T.names.length c1) (.slice a2 T.kids.length c2) (.slice a3 V.kids.length c3)))
    have HRd2 := hid ((hrd.under (below_one w1 (stC v T V (.slice a1 T.names.length c1) (.slice a2 T.kids.length c2) (.slice a3 V.kids.length c3)))).mono (S' := fun b => w.heap.size < b) (fun b hb _ => by omega))
    have HVd2 := hid ((hvd.under (below_one w1 (stC v T V (.slice a1 T.names.length c1) (.slice a2 T.kids.length c2) (.slice a3 V.kids.length c3)))).mono (S' := fun b => w.heap.size < b) (fun b hb _ => by omega))
    clear ha ht hrd hvd HR1 HT1 HR0 HQ0 HB0 hlo
    go_upto_region 5 with fail
    generalize w1.alloc (stC v T V (.slice a1 T.names.length c1) (.slice a2 T.kids.length c2) (.slice a3 V.kids.length c3)) = w2 at *
    obtain ⟨SB, hSB⟩ : ∃ SB, SB = w1.heap.size := ⟨_, rfl⟩
    rw [← hSB] at HS2 ⊢
    clear hSB
    have q0 := blk_cell HA2.out 0
    have s0 := blk_cell HS2.out 0
    have s1 := blk_cell HS2.out 1
    have s2 := blk_cell HS2.out 2
    have s3 := blk_cell HS2.out 3
    have s4 := blk_cell HS2.out 4
    have s5 := blk_cell HS2.out 5
    have s6 := blk_cell HS2.out 6
    have s7 := blk_cell HS2.out 7
    have s8 := blk_cell HS2.out 8
    by_cases hr : r = []
    · subst hr
      have HF := hid (fits_ok V T w2 _ _ _ _ _ HVd2.out HRd2.out hsz)
      have hx : X0 = if fitsB V T = true then some (v, T, V) else none := by rw [HX0.out]; unfold rdR; rw [← hres]
      have HX := hid hx
      clear hx hres HX0 hsz
      go_wp2_with fail
      refine HF.out.mono ?_
      rintro e w4 ⟨rfl, hb4⟩
      have HR3 := hid (blk_below HR2.out hb4)
      have HT3 : Hid (Touch (w.heap.size + 1) w w4) := HT2.out.trans (Touch.of_below hb4)
      have HS4 := hid (blk_below HS2.out hb4)
      have HRd4 := hid (HRd2.out.under hb4)
      have HVd4 := hid (HVd2.out.under hb4)
      clear hb4 HF q0 s0 s1 s2 s3 s4 s5 s6 s7 s8 HR2 HT2 HS2 HRd2 HVd2 HA2
      have r0 := blk_cell HR3.out 0
      have r1 := blk_cell HR3.out 1
      have r2 := blk_cell HR3.out 2
      have r3 := blk_cell HR3.out 3
      have r4 := blk_cell HR3.out 4
      have r5 := blk_cell HR3.out 5
      have r6 := blk_cell HR3.out 6
      have r7 := blk_cell HR3.out 7
      have r8 := blk_cell HR3.out 8
      have rf := blk_frozen HR3.out
      cases hf : fitsB V T
      · have HX2 : Hid (X0 = none) := by show _ = _; rw [HX.out, hf]; rfl
        clear hf
        go_wp2_with fail
        rw [HX2.out]
        exact bodyPost_ret (results_cell Tryz.results13 rfl rfl (vload30 (v := 0) (T := .mk 0 0 [] []) (V := .mk 0 0 [] []) (set9 HR3.out _ _ _ _ _ _ _ _ _))) rfl ⟨rfl, (touch9 HT3.out (Nat.le_refl _) _ _ _ _ _ _ _ _ _).below (Nat.le_succ _) (Nat.le_refl _)⟩
      · have HX2 : Hid (X0 = some (v, T, V)) := by show _ = _; rw [HX.out, hf]; rfl
        clear hf
        have s0 := blk_cell HS4.out 0
        have s1 := blk_cell HS4.out 1
        have s2 := blk_cell HS4.out 2
        have s3 := blk_cell HS4.out 3
        have s4 := blk_cell HS4.out 4
        have s5 := blk_cell HS4.out 5
        have s6 := blk_cell HS4.out 6
        have s7 := blk_cell HS4.out 7
        have s8 := blk_cell HS4.out 8
        go_wp2_with fail
        rw [HX2.out]
        refine bodyPost_ret (results_cell Tryz.results13 rfl rfl (vload30 (v := (v : Nat)) (T := T) (V := V) (set9 HR3.out _ _ _ _ _ _ _ _ _))) rfl ⟨a1, c1, a2, c2, a3, c3, rfl, (touch9 HT3.out (Nat.le_refl _) _ _ _ _ _ _ _ _ _).below (Nat.le_succ _) (Nat.le_refl _), ?_, ?_⟩
        · exact HRd4.out.move (by simp [World.setCell]) (fun b hb _ => ⟨by omega, at9 (by omega) _ _ _ _ _ _ _ _ _⟩)
        · exact HVd4.out.move (by simp [World.setCell]) (fun b hb _ => ⟨by omega, at9 (by omega) _ _ _ _ _ _ _ _ _⟩)
    · have hx : X0 = none := by
        rw [HX0.out]; unfold rdR; rw [← hres]
        cases r with
        | nil => exact absurd rfl hr
        | cons => rfl
      have HX := hid hx
      obtain ⟨d, r', rfl⟩ : ∃ d r', r = d :: r' := by
        cases r with
        | nil => exact absurd rfl hr
        | cons d r' => exact ⟨d, r', rfl⟩
      have HR3 := HR2
      have HT3 := HT2
      clear hx hres HX0 hr
      have r0 := blk_cell HR3.out 0
      have r1 := blk_cell HR3.out 1
      have r2 := blk_cell HR3.out 2
      have r3 := blk_cell HR3.out 3
      have r4 := blk_cell HR3.out 4
      have r5 := blk_cell HR3.out 5
      have r6 := blk_cell HR3.out 6
      have r7 := blk_cell HR3.out 7
      have r8 := blk_cell HR3.out 8
      have rf := blk_frozen HR3.out
      go_wp2_with fail
      rw [HX.out]
      exact bodyPost_ret (results_cell Tryz.results13 rfl rfl (vload30 (v := 0) (T := .mk 0 0 [] []) (V := .mk 0 0 [] []) (set9 HR3.out _ _ _ _ _ _ _ _ _))) rfl ⟨rfl, (touch9 HT3.out (Nat.le_refl _) _ _ _ _ _ _ _ _ _).below (Nat.le_succ _) (Nat.le_refl _)⟩
end Go.Proofs.YtihbbgcpdgnhoaaGreatDoor
namespace Go.Proofs.YtihbbgcpdgnhoaaGreatDoor
open Go.ChangeShapes Go.WideShapes Go.ChangeAt Go.RowKit Go.Deep
attribute [local go_sem ↓] Go.wp_at_zero Go.wp_at_succ
set_option maxRecDepth 100000

/-- What begins tells. -/
def begB (a b : Bs) : Bool := decide (b.length ≤ a.length) && (a.take b.length == b)
end Go.Proofs.YtihbbgcpdgnhoaaGreatDoor
namespace Go.Proofs.YtihbbgcpdgnhoaaGreatDoor
open Go.ChangeShapes Go.WideShapes Go.ChangeAt Go.RowKit Go.Deep
attribute [local go_sem ↓] Go.wp_at_zero Go.wp_at_succ
set_option maxRecDepth 100000

def T16 : Ty := .mk 1 16 [] []
def V300 : Vl := .mk 1 300 [] []
def B300 : Bs := [105, 109, 1, 0, 3, 105, 49, 54, 1, 1, 44]
theorem stO_300 : stO (1 : Nat) T16 V300 = B300 := by decide +kernel
theorem stE_300 : stE (1 : Nat) T16 V300 = 0 := by decide +kernel
theorem rdR_300 : rdR B300 = some (1, T16, V300) := by
  have h : rdS (stB 1 T16 V300 ++ []) = some ((1, T16, V300), []) := rdS_fwd 1 T16 V300 [] (by omega) (by decide +kernel) (by decide +kernel) (by unfold fitV; decide +kernel)
  have e : stB 1 T16 V300 ++ [] = B300 := by decide +kernel
  rw [e] at h
  unfold rdR
  rw [h]
  exact if_pos (by decide +kernel)
set_option maxHeartbeats 6400000 in
theorem word_ok (w : World) (hP : Pw w) (hM : Ml w) : Calls Tryz.prog 6 #[] w fun e w' => e = .returned (.bool true) ∧ Below w.heap.size w w' := by
  have HC8 : Hid (∀ W, Pw W → Calls Tryz.prog 8 #[.agg #[i64 1, i64 1, i64 16, .slice none 0 0, .slice none 0 0, i64 1, i64 300, str [], .slice none 0 0]] W fun e w' => e = .returned (.tuple #[str B300, i64 0]) ∧ Below W.heap.size W w') := fun W hW => by
    have := bytes8_ok 1 T16 V300 W (fun _ => True) (fun _ => True) _ _ _ (Vd.leaf W _ 1 300 [] (by simp) none 0) (Rd.leaf W _ 1 16) hW (by decide +kernel) (by omega)
    rw [stO_300, stE_300] at this
    exact this
  have HC16 : Hid (∀ W, Pw W → Calls Tryz.prog 10 #[.agg #[i64 1, i64 1, i64 16, .slice none 0 0, .slice none 0 0, i64 1, i64 300, str [], .slice none 0 0]] W fun e w' => e = .returned (.tuple #[i64 (11 : Nat), i64 0]) ∧ Below W.heap.size W w') := fun W hW => by
    have := size_ok 1 T16 V300 W (fun _ => True) (fun _ => True) _ _ _ (Vd.leaf W _ 1 300 [] (by simp) none 0) (Rd.leaf W _ 1 16) hW (by decide +kernel) (by omega)
    rw [stO_300, stE_300] at this
    exact this
  have HC9 : Hid (∀ W, Ml W → Calls Tryz.prog 13 #[str B300] W fun e w' => ∃ a1 c1 a2 c2 a3 c3, e = .returned (.tuple #[.agg #[i64 1, i64 1, i64 16, .slice a1 0 c1, .slice a2 0 c2, i64 1, i64 300, str [], .slice a3 0 c3], i64 0]) ∧ Below W.heap.size W w') := fun W hW => by
    have := wread_ok W B300 (by decide) hW
    rw [rdR_300] at this
    refine this.mono ?_
    rintro e w' ⟨a1, c1, a2, c2, a3, c3, rfl, hb, _, _⟩
    exact ⟨a1, c1, a2, c2, a3, c3, rfl, hb⟩
  have HP := hid hP
  have HM := hid hM
  have HX := hid (heap_last w (.cells #[i64 1, i64 1, i64 16, .slice none 0 0, .slice none 0 0, i64 1, i64 300, str [], .slice none 0 0] 30))
  have HB0 := hid (below_one w (.cells #[i64 1, i64 1, i64 16, .slice none 0 0, .slice none 0 0, i64 1, i64 300, str [], .slice none 0 0] 30))
  have HP0 := hid (hP.below HB0.out)
  have HC8' := hid (HC8.out _ HP0.out)
  clear hP hM
  go_enter Tryz.func6, Tryz.ntmps6
  go_wp2_with fail
  refine HC8'.out.mono ?_
  rintro e w1 ⟨rfl, hb1⟩
  have HX1 := hid (blk_below HX.out hb1)
  have HB1 : Hid (Below w.heap.size w w1) := HB0.out.trans (hb1.mono HB0.out.size)
  have HC9' := hid (HC9.out w1 (HM.out.below HB1.out))
  clear hb1 HC8' HC8 HC9 HB0 HX HP0
  have hBs : str B300 = .string ⟨#[105, 109, 1, 0, 3, 105, 49, 54, 1, 1, 44]⟩ := rfl
  go_wp2_with fail
  refine HC9'.out.mono ?_
  rintro e w2 ⟨a1, c1, a2, c2, a3, c3, rfl, hb2⟩
  have HX2 := hid (blk_below HX1.out hb2)
  have HB2 : Hid (Below w.heap.size w w2) := HB1.out.trans (hb2.mono HB1.out.size)
  have HX3 := hid (blk_alloc HX2.out (.cells #[i64 1, i64 1, i64 16, .slice a1 0 c1, .slice a2 0 c2, i64 1, i64 300, str [], .slice a3 0 c3] 30))
  have HY3 := hid (heap_last w2 (.cells #[i64 1, i64 1, i64 16, .slice a1 0 c1, .slice a2 0 c2, i64 1, i64 300, str [], .slice a3 0 c3] 30))
  have HB3 : Hid (Below w.heap.size w (w2.alloc (.cells #[i64 1, i64 1, i64 16, .slice a1 0 c1, .slice a2 0 c2, i64 1, i64 300, str [], .slice a3 0 c3] 30))) := HB2.out.trans ((below_one w2 _).mono HB2.out.size)
  have HC16' := hid (HC16.out _ (HP.out.below HB3.out))
  clear hb2 HC9' HC16 HX1 HX2 HB1 HB2
  go_upto_region 4 with fail
  generalize w2.alloc (.cells #[i64 1, i64 1, i64 16, .slice a1 0 c1, .slice a2 0 c2, i64 1, i64 300, str [], .slice a3 0 c3] 30) = w3 at *
  obtain ⟨TB, hTB⟩ : ∃ TB, TB = w2.heap.size := ⟨_, rfl⟩
  rw [← hTB] at HY3 ⊢
  clear hTB
  have x0 := blk_cell HX3.out 0
  have x1 := blk_cell HX3.out 1
  have x2 := blk_cell HX3.out 2
  have x3 := blk_cell HX3.out 3
  have x4 := blk_cell HX3.out 4
  have x5 := blk_cell HX3.out 5
  have x6 := blk_cell HX3.out 6
  have x7 := blk_cell HX3.out 7
  have x8 := blk_cell HX3.out 8
  go_wp2_with fail
  refine HC16'.out.mono ?_
  rintro e w4 ⟨rfl, hb4⟩
  have HY4 := hid (blk_below HY3.out hb4)
  have HB4 : Hid (Below w.heap.size w w4) := HB3.out.trans (hb4.mono HB3.out.size)
  clear hb4 HC16' x0 x1 x2 x3 x4 x5 x6 x7 x8
  have y0 := blk_cell HY4.out 0
  have y1 := blk_cell HY4.out 1
  have y2 := blk_cell HY4.out 2
  have y3 := blk_cell HY4.out 3
  have y4 := blk_cell HY4.out 4
  have y5 := blk_cell HY4.out 5
  have y6 := blk_cell HY4.out 6
  have y7 := blk_cell HY4.out 7
  have y8 := blk_cell HY4.out 8
  go_wp2_with fail
  go_ret
  exact ⟨rfl, HB4.out⟩
end Go.Proofs.YtihbbgcpdgnhoaaGreatDoor
