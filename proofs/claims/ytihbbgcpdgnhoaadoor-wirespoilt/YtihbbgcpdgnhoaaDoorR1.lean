/- take, number, counted; no statement is proved in this text. -/
import Derived.Test.YtihbbgcpdgnhoaaDoorW4
namespace Go.Proofs.YtihbbgcpdgnhoaaDoor
open Go.ChangeShapes Go.WideShapes Go.ChangeAt Go.RowKit Go.Deep
attribute [local go_sem ↓] Go.wp_at_zero Go.wp_at_succ
set_option maxRecDepth 100000

abbrev tk (q : Nat) : Value := .func (.func 21) #[pq q] #[]
/-- Block q has the bytes that are left. -/
def At (w : World) (q : Nat) (l : Bs) : Prop := w.heap[q]? = some (.cells #[str l] 65)
theorem At.lt {w : World} {q : Nat} {l : Bs} (h : At w q l) : q < w.heap.size := blk_lt h
theorem At.set {w : World} {q : Nat} {l : Bs} (h : At w q l) (r : Bs) : At (w.setCell ⟨q, 0, none⟩ (str r)) q r := heap_setCell_same w q 0 #[str l] 65 (str r) h
theorem At.touch (w : World) (q : Nat) (r : Bs) : Touch q w (w.setCell ⟨q, 0, none⟩ (str r)) := Touch.setCell (p := ⟨q, 0, none⟩) (Touch.refl q w) rfl _
theorem at_below {w w' : World} {q : Nat} {l : Bs} (h : At w q l) (hb : Below w.heap.size w w') : At w' q l := blk_below h hb
theorem bsize (l : Bs) : (⟨l.toArray⟩ : ByteArray).size = l.length := by show l.toArray.size = _; simp
set_option maxHeartbeats 800000 in
theorem take_no (w : World) (q n : Nat) (l : Bs) (h : At w q l) (hn : l.length < n) : Calls Tryd.prog 21 #[pq q, i64 (n : Nat)] w fun e w' => e = .returned (.tuple #[str [], .bool false]) ∧ w' = w := by
  have c0 : w.cell? ⟨q, 0, none⟩ = some (str l) := blk_cell h 0
  have hs := bsize l
  have hI : (l.length : Int) < n := by omega
  clear h
  go_enter Tryd.func21, Tryd.ntmps21
  go_wp2_with fail
  go_ret2
  exact ⟨rfl, rfl⟩
theorem slice_pre (l : Bs) (n : Nat) : (⟨l.toArray⟩ : ByteArray).extract 0 n = ⟨(l.take n).toArray⟩ := by
  apply ByteArray.ext
  simp
theorem slice_suf (l : Bs) (n : Nat) : (⟨l.toArray⟩ : ByteArray).extract n l.length = ⟨(l.drop n).toArray⟩ := by
  apply ByteArray.ext
  simp
  exact List.take_of_length_le (by simp)
set_option maxHeartbeats 800000 in
theorem take_yes (w : World) (q n : Nat) (l : Bs) (h : At w q l) (hn : n ≤ l.length) : Calls Tryd.prog 21 #[pq q, i64 (n : Nat)] w fun e w' => e = .returned (.tuple #[str (l.take n), .bool true]) ∧ w' = w.setCell ⟨q, 0, none⟩ (str (l.drop n)) := by
  have c0 : w.cell? ⟨q, 0, none⟩ = some (str l) := blk_cell h 0
  have f0 : w.frozen? ⟨q, 0, none⟩ = false := blk_frozen h 0
  have hs := bsize l
  have hI : ¬ (l.length : Int) < n := by omega
  have e1 := slice_pre l n
  have e2 := slice_suf l n
  clear h
  go_enter Tryd.func21, Tryd.ntmps21
  go_wp2_with fail
  go_ret2
  exact ⟨rfl, rfl⟩
set_option maxHeartbeats 800000 in
theorem num_no (w : World) (q k : Nat) (l : Bs) (h : At w q l) (hk : l.length < k) : Calls Tryd.prog 32 #[tk q, i64 (k : Nat)] w fun e w' => e = .returned (.tuple #[i64 0, .bool false]) ∧ w' = w := by
  have HT := hid (take_no w q k l h hk)
  have HN := hid (num_arg w ⟨([] : Bs).toArray⟩ (.inl (by rw [bsize]; simp)))
  clear h hk
  go_enter Tryd.func32, Tryd.ntmps32
  go_wp2_with fail
  refine HT.out.mono ?_
  rintro e w1 ⟨rfl, hw⟩
  replace hw := hw.symm
  subst hw
  go_wp2_with fail
  refine HN.out.mono ?_
  rintro e w2 ⟨rfl, hw⟩
  replace hw := hw.symm
  subst hw
  go_wp2_with fail
  go_ret2
  exact ⟨rfl, rfl⟩
set_option maxHeartbeats 800000 in
theorem num_yes (w : World) (q k n : Nat) (l r : Bs) (h : At w q l) (hr : rdN k l = some (n, r)) : Calls Tryd.prog 32 #[tk q, i64 (k : Nat)] w fun e w' => e = .returned (.tuple #[i64 (n : Nat), .bool true]) ∧ w' = w.setCell ⟨q, 0, none⟩ (str r) := by
  unfold rdN at hr
  split at hr
  · rename_i hk
    simp only [Option.some.injEq, Prod.mk.injEq] at hr
    obtain ⟨hn, rfl⟩ := hr
    have HT := hid (take_yes w q k l h hk.2.2)
    have hsz : (⟨(l.take k).toArray⟩ : ByteArray).size = k := by rw [bsize, List.length_take]; omega
    have HN := hid fun W => num_ok W ⟨(l.take k).toArray⟩ (by rw [hsz]; exact hk.1) (by rw [hsz]; exact hk.2.1)
    have hlt := nm_lt (l.take k)
    have hle : (256 : Nat) ^ (l.take k).length ≤ 256 ^ 4 := Nat.pow_le_pow_right (by omega) (by rw [List.length_take]; omega)
    have e4 : (256 : Nat) ^ 4 = 4294967296 := rfl
    have hd : (⟨(l.take k).toArray⟩ : ByteArray).data.toList = l.take k := by simp
    rw [hd] at HN
    rw [hn] at hlt HN
    have hnI : (n : Int) < 4294967296 := by omega
    generalize l.take k = X at *
    clear hn hlt hle hd hsz hk h
    go_enter Tryd.func32, Tryd.ntmps32
    go_wp2_with fail
    refine HT.out.mono ?_
    rintro e w1 ⟨rfl, hw⟩
    have HW := hid hw
    clear hw
    go_wp2_with fail
    refine (HN.out w1).mono ?_
    rintro e w2 ⟨rfl, hw⟩
    replace hw := hw.symm
    subst hw
    go_wp2_with fail
    go_ret2
    exact ⟨rfl, HW.out⟩
  · cases hr
set_option maxHeartbeats 800000 in
theorem cnt_yes (w : World) (q k : Nat) (l t r : Bs) (h : At w q l) (hr : rdC k l = some (t, r)) : Calls Tryd.prog 33 #[tk q, i64 (k : Nat)] w fun e w' => e = .returned (.tuple #[str t, .bool true]) ∧ At w' q r ∧ Touch q w w' := by
  unfold rdC at hr
  split at hr
  · cases hr
  · rename_i n r1 hn
    split at hr
    · rename_i hle
      simp only [Option.some.injEq, Prod.mk.injEq] at hr
      obtain ⟨rfl, rfl⟩ := hr
      have HN := hid (num_yes w q k n l r1 h hn)
      have HT := hid (take_yes _ q n r1 (h.set r1) hle)
      have HA := hid (((h.set r1).set (r1.drop n)))
      have HTo := hid ((At.touch w q r1).trans (At.touch (w.setCell ⟨q, 0, none⟩ (str r1)) q (r1.drop n)))
      generalize r1.take n = X at *
      generalize r1.drop n = Y at *
      clear h hn hle
      go_enter Tryd.func33, Tryd.ntmps33
      go_wp2_with fail
      refine HN.out.mono ?_
      rintro e w1 ⟨rfl, hw⟩
      subst hw
      go_wp2_with fail
      refine HT.out.mono ?_
      rintro e w2 ⟨rfl, hw⟩
      subst hw
      go_wp2_with fail
      go_ret2
      exact ⟨rfl, HA.out, HTo.out⟩
    · cases hr
set_option maxHeartbeats 800000 in
theorem cnt_no (w : World) (q k : Nat) (l : Bs) (h : At w q l) (h1 : 1 ≤ k) (h4 : k ≤ 4) (hr : rdC k l = none) : Calls Tryd.prog 33 #[tk q, i64 (k : Nat)] w fun e w' => e = .returned (.tuple #[str [], .bool false]) ∧ Touch q w w' := by
  unfold rdC at hr
  split at hr
  · rename_i hn
    have hlt : l.length < k := by
      unfold rdN at hn
      split at hn
      · cases hn
      · omega
    have HN := hid (num_no w q k l h hlt)
    clear h hr hn hlt
    go_enter Tryd.func33, Tryd.ntmps33
    go_wp2_with fail
    refine HN.out.mono ?_
    rintro e w1 ⟨rfl, hw⟩
    replace hw := hw.symm
    subst hw
    go_wp2_with fail
    go_ret2
    exact ⟨rfl, Touch.refl _ _⟩
  · rename_i n r1 hn
    split at hr
    · cases hr
    · rename_i hle
      have HN := hid (num_yes w q k n l r1 h hn)
      have HT := hid (take_no _ q n r1 (h.set r1) (by omega))
      have HTo := hid (At.touch w q r1)
      clear h hr hn hle
      go_enter Tryd.func33, Tryd.ntmps33
      go_wp2_with fail
      refine HN.out.mono ?_
      rintro e w1 ⟨rfl, hw⟩
      subst hw
      go_wp2_with fail
      refine HT.out.mono ?_
      rintro e w2 ⟨rfl, hw⟩
      subst hw
      go_wp2_with fail
      go_ret2
      exact ⟨rfl, HTo.out⟩
end Go.Proofs.YtihbbgcpdgnhoaaDoor
