/- imagoref15's Field: its contract; TypesFields' walk; no statement is proved in this text. -/
import Derived.Test.YteecjilknembdaaDoorLaid
import Derived.Test.YteecjilknembdaaDoorSm
import Derived.Test.YteecjilknembdaaDoorRs
namespace Go.Proofs.YteecjilknembdaaDoor
open Go.ChangeShapes Go.WideShapes Go.ChangeAt Go.RowKit Go.Deep
attribute [local go_sem ↓] Go.wp_at_zero Go.wp_at_succ

theorem idx_hit (l : List Bs) (x : Bs) (i : Nat) (h : i < l.length) (hx : l[i] = x) (hne : ∀ m (_h1 : m < i) (h2 : m < l.length), l[m] ≠ x) : Lib.idxOfS (l.map ba) (ba x) = i := by
  have := Lib.idxOfS_hit (l.map ba) l.length i (ba x) h (by simp) (by
      rw [List.getD_eq_getElem?_getD, List.getElem?_map, List.getElem?_eq_getElem h, hx]
      rfl) (fun j hj => by
      rw [List.getD_eq_getElem?_getD, List.getElem?_map, List.getElem?_eq_getElem (by omega)]
      intro e
      exact hne j hj (by omega) (ba_inj e))
  rw [List.take_of_length_le (by simp)] at this
  exact this
theorem idx_miss (l : List Bs) (x : Bs) (hne : ∀ m (h2 : m < l.length), l[m] ≠ x) : Lib.idxOfS (l.map ba) (ba x) = -1 := by
  have := Lib.idxOfS_miss (l.map ba) l.length (ba x) (fun j hj => by
      rw [List.getD_eq_getElem?_getD, List.getElem?_map, List.getElem?_eq_getElem hj]
      intro e
      exact hne j hj (ba_inj e))
  rw [List.take_of_length_le (by simp)] at this
  exact this
set_option maxRecDepth 100000 in
set_option maxHeartbeats 3200000 in
theorem rfield_in (k n : Int) (names : List Bs) (kids : List Ty) (x : Bs) (w : World) (S : Nat → Prop) (nv kv : Value) (hR : Rd w S (.mk k n names kids) nv kv) : Calls Tryd.prog 20 #[tyV k n nv kv, str x] w fun e w' => e = .returned (i64 (fieldF (.mk k n names kids) x)) ∧ Below w.heap.size w w' := by
  obtain ⟨ANS, hA⟩ : ∃ ANS, ANS = fieldF (.mk k n names kids) x := ⟨_, rfl⟩
  have HA : Hid (ANS = if k = 4 then Lib.idxOfS (names.map ba) (ba x) else -1) := hA
  rw [← hA]
  clear hA
  have HRd : Hid (Rd w S (.mk k n names kids) nv kv) := hR
  obtain ⟨⟨an, cn, rfl, hnl, hz1, hz2⟩, hkl, ak, ck, rfl, hz3⟩ := hR.kid
  clear hz1 hz2 hz3
  unfold maxLen at hnl hkl
  have HX : Hid ((w.alloc (.cells #[i64 k, i64 n, .slice an names.length cn, .slice ak kids.length ck] 37)).heap[w.heap.size]? = some (.cells #[i64 k, i64 n, .slice an names.length cn, .slice ak kids.length ck] 37)) := heap_last w _
  have HBV : Hid (Below w.heap.size w (w.alloc (.cells #[i64 k, i64 n, .slice an names.length cn, .slice ak kids.length ck] 37))) := below_one w _
  clear hR 
  go_enter Tryd.func20, Tryd.ntmps20
  go_upto_region 1 with fail
  obtain ⟨Z, hZ⟩ : ∃ Z, Z = w.heap.size := ⟨_, rfl⟩
  rw [← hZ] at HX ⊢
  generalize w.alloc (.cells #[i64 k, i64 n, .slice an names.length cn, .slice ak kids.length ck] 37) = V at *
  have y0 : V.cell? ⟨Z, 0, none⟩ = some (i64 k) := blk_cell HX.out 0
  have y1 : V.cell? ⟨Z, 1, none⟩ = some (i64 n) := blk_cell HX.out 1
  have y2 : V.cell? ⟨Z, 2, none⟩ = some (.slice an names.length cn) := blk_cell HX.out 2
  have y3 : V.cell? ⟨Z, 3, none⟩ = some (.slice ak kids.length ck) := blk_cell HX.out 3
  have hZV : Z < V.heap.size := blk_lt HX.out
  have HZ := hid hZ
  clear hZ
  go_wp2_with fail
  go_loopw [10] (fun u wr => ∃ (i : Nat), i ≤ names.length ∧ u = i64 i ∧ Hid (k = 4 → ∀ m (h1 : m < i) (h2 : m < names.length), names[m] ≠ x) ∧ Hid (wr.heap[Z]? = some (.cells #[i64 k, i64 n, .slice an names.length cn, .slice ak kids.length ck] 37)) ∧ Hid (Below w.heap.size w wr)) (fun u _ => names.length - (intOf u).toNat)
  case atStart => exact ⟨0, by omega, rfl, by intro _ m h1; omega, HX, HBV⟩
  case round =>
    obtain ⟨i, hi, rfl, HN, HXr, HB⟩ := hrel
    clear y0 y1 y2 y3 hZV
    by_cases hlt : i < names.length
    · obtain ⟨ao1, cp1, he1, hat1⟩ := (HRd.out.under HB.out).kid.1.at
      cases he1
      obtain ⟨b1, o1, rfl, hb1, cA⟩ := hat1 i hlt
      obtain ⟨y, hy⟩ : ∃ y, y = names[i] := ⟨_, rfl⟩
      rw [← hy] at cA
      have z0 : wr.cell? ⟨Z, 0, none⟩ = some (i64 k) := blk_cell HXr.out 0
      have HYe := hid hy
      clear hy hat1
      by_cases hk : k = 4
      · have e1 : (k == 4) = true := by simpa using hk
        by_cases hxy : y = x
        · have q2 : (y == x) = true := by simpa using hxy
          have HF : Hid (ANS = i) := by show _ = _; rw [HA.out, if_pos hk]; exact idx_hit names x i hlt (by rw [← HYe.out]; exact hxy) (HN.out hk)
          have HK := hid hk
          clear hk hxy
          go_wp2_with fail
          go_ret
          exact ⟨by rw [HF.out]; rfl, HB.out⟩
        · have q2 : (y == x) = false := by simpa using hxy
          have HN2 : Hid (k = 4 → ∀ m (h1 : m < i + 1) (h2 : m < names.length), names[m] ≠ x) := by
            intro h4 m h1 h2
            by_cases e : m = i
            · subst e; rw [← HYe.out]; exact hxy
            · exact HN.out h4 m (by omega) h2
          have HK := hid hk
          clear hk hxy
          go_wp2_with fail
          exact ⟨⟨i + 1, by omega, by go_num, HN2, HXr, HB⟩, by simp [intOf]; omega⟩
      · have e1 : (k == 4) = false := by simpa using hk
        have HN2 : Hid (k = 4 → ∀ m (h1 : m < i + 1) (h2 : m < names.length), names[m] ≠ x) := fun h4 => absurd h4 hk
        have HK := hid hk
        clear hk
        go_wp2_with fail
        exact ⟨⟨i + 1, by omega, by go_num, HN2, HXr, HB⟩, by simp [intOf]; omega⟩
    · have HF : Hid (ANS = -1) := by
        show _ = _
        rw [HA.out]
        by_cases hk : k = 4
        · rw [if_pos hk]; exact idx_miss names x (fun m h2 => HN.out hk m (by omega) h2)
        · rw [if_neg hk]
      go_wp2_with fail
      go_ret
      exact ⟨by rw [HF.out]; rfl, HB.out⟩
theorem rfield_ok (T : Ty) (x : Bs) (w : World) (S : Nat → Prop) (nv kv : Value) (hR : Rd w S T nv kv) : Calls Tryd.prog 20 #[tyV T.kind T.num nv kv, str x] w fun e w' => e = .returned (i64 (fieldF T x)) ∧ Below w.heap.size w w' := by
  obtain ⟨k, n, names, kids⟩ := T
  exact rfield_in k n names kids x w S nv kv hR
end Go.Proofs.YteecjilknembdaaDoor
