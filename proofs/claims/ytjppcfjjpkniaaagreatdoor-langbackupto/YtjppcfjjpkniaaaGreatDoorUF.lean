/- Texts Lc Ld Le Sd Ln Bk Lk Lr in one; no statement is proved in this text. -/
import Derived.Test.YtjppcfjjpkniaaaGreatDoorUE
import Derived.Lib.ParseIntBCases
namespace Go.Proofs.YtjppcfjjpkniaaaGreatDoor
open Go.ChangeShapes Go.WideShapes Go.ChangeAt Go.RowKit Go.Deep
attribute [local go_sem ↓] Go.wp_at_zero Go.wp_at_succ
set_option maxRecDepth 100000

/-! ### The number that a word is -/
abbrev dgf (n : Nat) (c : UInt8) : Nat := 10 * n + (c.toNat - 48)
theorem fold_ge : ∀ (l : Bs) (a : Nat), a ≤ l.foldl dgf a
  | [], a => Nat.le_refl _
  | c :: r, a => by
    have := fold_ge r (dgf a c)
    simp only [List.foldl_cons]
    have : a ≤ dgf a c := by unfold dgf; omega
    omega
theorem pum_ok (M : Nat) (hM : M ≤ 1844674407370955161) : ∀ (l : Bs) (a : Nat), a ≤ M → ((l.all isDig = true ∧ l.foldl dgf a ≤ M) → Lib.parseUintM M a l = .ok (l.foldl dgf a)) ∧ (¬ (l.all isDig = true ∧ l.foldl dgf a ≤ M) → ∀ u, Lib.parseUintM M a l ≠ .ok u)
  | [], a, ha => ⟨fun _ => rfl, fun h => absurd ⟨rfl, ha⟩ h⟩
  | c :: r, a, ha => by
    have hg := fold_ge r (dgf a c)
    have e : dgf a c = a * 10 + (c.toNat - 48) := by unfold dgf; omega
    unfold Lib.parseUintM
    rw [List.all_cons, List.foldl_cons]
    by_cases hd : 48 ≤ c.toNat ∧ c.toNat ≤ 57
    · have hd2 : isDig c = true := by unfold isDig; simp [hd.1, hd.2]
      rw [if_pos hd, if_neg (by omega), hd2, Bool.true_and]
      by_cases hm : M < a * 10 + (c.toNat - 48)
      · rw [if_pos hm]
        exact ⟨fun h => absurd h.2 (by omega), fun _ u h => by cases h⟩
      · rw [if_neg hm, ← e]
        exact pum_ok M hM r (dgf a c) (by omega)
    · have hd2 : isDig c = false := by
        unfold isDig
        rw [← Bool.decide_and]
        simp only [decide_eq_false_iff_not]
        exact hd
      rw [if_neg hd, hd2]
      exact ⟨fun h => by simp at h, fun _ u h => by cases h⟩
theorem num_yes {x : Bs} {n : Nat} (h : numW x = some n) : x.length ≤ 10 ∧ Lib.parseUintB 32 x = .ok n ∧ n ≤ 4294967295 := by
  unfold numW at h
  split at h
  · rename_i hh
    obtain ⟨h1, h2, h3, h4⟩ := hh
    cases h
    refine ⟨h1, ?_, h4⟩
    unfold Lib.parseUintB
    rw [if_neg h2]
    exact (pum_ok 4294967295 (by omega) x 0 (by omega)).1 ⟨h3, h4⟩
  · cases h
theorem num_no {x : Bs} (h : numW x = none) (hx : x.length ≤ 10) : ∀ u, Lib.parseUintB 32 x ≠ .ok u := by
  unfold numW at h
  split at h
  · cases h
  · rename_i hh
    intro u
    unfold Lib.parseUintB
    by_cases h2 : x = []
    · rw [if_pos h2]; intro h; cases h
    · rw [if_neg h2]
      exact (pum_ok 4294967295 (by omega) x 0 (by omega)).2 (fun e => hh ⟨hx, h2, e.1, e.2⟩) u
theorem numw_long {x : Bs} (hx : 10 < x.length) : numW x = none := by
  unfold numW
  rw [if_neg (fun e => by omega)]

/-! ### A statement that is read -/
abbrev nilS : Value := .slice none 0 0
abbrev sbO (o nm dst nv k n tn tk N bv : Value) : Obj := .cells #[o, nm, dst, nv, k, n, tn, tk, N, bv] 51
abbrev ptS (S off : Nat) : Value := .pointer (some ⟨S, off, none⟩)
section
variable {S : Nat} {o nm dst nv k n tn tk N bv : Value} {w : World}
theorem sb1 (hS : w.heap[S]? = some (sbO o nm dst nv k n tn tk N bv)) (x : Value) : (w.setCell ⟨S, 1, none⟩ x).heap[S]? = some (sbO o x dst nv k n tn tk N bv) := by
  have := heap_setCell_same w S 1 _ 51 x hS
  simpa using this
theorem sb2 (hS : w.heap[S]? = some (sbO o nm dst nv k n tn tk N bv)) (x : Value) : (w.setCell ⟨S, 2, none⟩ x).heap[S]? = some (sbO o nm x nv k n tn tk N bv) := by
  have := heap_setCell_same w S 2 _ 51 x hS
  simpa using this
theorem sb3 (hS : w.heap[S]? = some (sbO o nm dst nv k n tn tk N bv)) (x : Value) : (w.setCell ⟨S, 3, none⟩ x).heap[S]? = some (sbO o nm dst x k n tn tk N bv) := by
  have := heap_setCell_same w S 3 _ 51 x hS
  simpa using this
theorem sb4 (hS : w.heap[S]? = some (sbO o nm dst nv k n tn tk N bv)) (x : Value) : (w.setCell ⟨S, 4, none⟩ x).heap[S]? = some (sbO o nm dst nv x n tn tk N bv) := by
  have := heap_setCell_same w S 4 _ 51 x hS
  simpa using this
theorem sb5 (hS : w.heap[S]? = some (sbO o nm dst nv k n tn tk N bv)) (x : Value) : (w.setCell ⟨S, 5, none⟩ x).heap[S]? = some (sbO o nm dst nv k x tn tk N bv) := by
  have := heap_setCell_same w S 5 _ 51 x hS
  simpa using this
theorem sb6 (hS : w.heap[S]? = some (sbO o nm dst nv k n tn tk N bv)) (x : Value) : (w.setCell ⟨S, 6, none⟩ x).heap[S]? = some (sbO o nm dst nv k n x tk N bv) := by
  have := heap_setCell_same w S 6 _ 51 x hS
  simpa using this
theorem sb7 (hS : w.heap[S]? = some (sbO o nm dst nv k n tn tk N bv)) (x : Value) : (w.setCell ⟨S, 7, none⟩ x).heap[S]? = some (sbO o nm dst nv k n tn x N bv) := by
  have := heap_setCell_same w S 7 _ 51 x hS
  simpa using this
theorem sb8 (hS : w.heap[S]? = some (sbO o nm dst nv k n tn tk N bv)) (x : Value) : (w.setCell ⟨S, 8, none⟩ x).heap[S]? = some (sbO o nm dst nv k n tn tk x bv) := by
  have := heap_setCell_same w S 8 _ 51 x hS
  simpa using this
theorem sb9 (hS : w.heap[S]? = some (sbO o nm dst nv k n tn tk N bv)) (x : Value) : (w.setCell ⟨S, 9, none⟩ x).heap[S]? = some (sbO o nm dst nv k n tn tk N x) := by
  have := heap_setCell_same w S 9 _ 51 x hS
  simpa using this
theorem ts (w : World) (S j : Nat) (x : Value) : Touch S w (w.setCell ⟨S, j, none⟩ x) := (Touch.refl S w).setCell (p := ⟨S, j, none⟩) rfl _
end
set_option maxHeartbeats 1600000 in
theorem name1_ok {S KB : Nat} {o nm dst nv k n tn tk N bv : Value} (x : Bs) (w : World) (hS : w.heap[S]? = some (sbO o nm dst nv k n tn tk N bv)) (hK : w.heap[KB]? = some (.cells #[ptS S 1] 126)) (hx : x.length ≤ maxLen) :
    Calls Tryz.prog 80 #[str x, pq KB] w fun e w' => e = .returned (.bool (nameB x)) ∧ w'.heap[S]? = some (sbO o (str x) dst nv k n tn tk N bv) ∧ Touch S w w' := by
  have HN := hid fun w => name_ok x w hx
  have c0 := blk_cell hK 0
  have s1 := blk_cell hS 1
  have f1 := blk_frozen hS 1
  have H1 := hid (sb1 hS (str x))
  have H2 := hid (ts w S 1 (str x))
  clear hS hK
  go_enter Tryz.func80, Tryz.ntmps80
  go_wp2_with fail
  refine (HN.out _).mono ?_
  rintro e w1 ⟨rfl, rfl⟩
  go_wp2_with fail
  go_ret
  exact ⟨rfl, H1.out, H2.out⟩
set_option maxHeartbeats 1600000 in
theorem name2_ok {S KB : Nat} {o nm dst nv k n tn tk N bv : Value} (x : Bs) (w : World) (hS : w.heap[S]? = some (sbO o nm dst nv k n tn tk N bv)) (hK : w.heap[KB]? = some (.cells #[ptS S 2] 126)) (hx : x.length ≤ maxLen) :
    Calls Tryz.prog 80 #[str x, pq KB] w fun e w' => e = .returned (.bool (nameB x)) ∧ w'.heap[S]? = some (sbO o nm (str x) nv k n tn tk N bv) ∧ Touch S w w' := by
  have HN := hid fun w => name_ok x w hx
  have c0 := blk_cell hK 0
  have s1 := blk_cell hS 2
  have f1 := blk_frozen hS 2
  have H1 := hid (sb2 hS (str x))
  have H2 := hid (ts w S 2 (str x))
  clear hS hK
  go_enter Tryz.func80, Tryz.ntmps80
  go_wp2_with fail
  refine (HN.out _).mono ?_
  rintro e w1 ⟨rfl, rfl⟩
  go_wp2_with fail
  go_ret
  exact ⟨rfl, H1.out, H2.out⟩
set_option maxHeartbeats 3200000 in
theorem type1_ok {S KB : Nat} {o nm dst nv k n tn tk N bv : Value} (x : Bs) (w : World) (he : Env w) (hS : w.heap[S]? = some (sbO o nm dst nv k n tn tk N bv)) (hK : w.heap[KB]? = some (.cells #[ptS S 4] 128)) (hx : x.length ≤ 30000000) :
    Calls Tryz.prog 81 #[str x, pq KB] w fun e w' => e = .returned (.bool (parseF x).isSome) ∧ (∃ a1 n1 c1 a2 n2 c2, w'.heap[S]? = some (sbO o nm dst nv (i64 (parT x).kind) (i64 (parT x).num) (.slice a1 n1 c1) (.slice a2 n2 c2) N bv) ∧ Rd w' (fun b => w.heap.size ≤ b) (parT x) (.slice a1 n1 c1) (.slice a2 n2 c2)) ∧ Touch S w w' := by
  have HP := parse_ok x w hx he.ml
  unfold ParOk at HP
  have HE : Hid ((parE x == 0) = (parseF x).isSome) := by
    show _ = _
    unfold parE
    cases (parseF x).isSome <;> rfl
  generalize (parseF x).isSome = BB at *
  generalize parE x = E at *
  generalize parT x = PT at *
  have HP := hid HP
  have HS := hid hS
  have HK := hid hK
  clear hS hK he hx
  go_enter Tryz.func81, Tryz.ntmps81
  go_wp2_with fail
  refine HP.out.mono ?_
  rintro e w1 ⟨a1, n1, c1, a2, n2, c2, rfl, hb, hr⟩
  have HSlt := hid (blk_lt HS.out)
  have HKlt := hid (blk_lt HK.out)
  have HS1 := hid (blk_below HS.out hb)
  have HK1 := hid (blk_below HK.out hb)
  have HT1 : Hid (Touch S w w1) := Touch.of_below hb
  have HZ : Hid (w.heap.size ≤ w1.heap.size) := hb.size
  have HR1 := hid hr
  clear HP hb hr HS HK
  go_upto_region 2 with fail
  have HS2 := hid (blk_alloc HS1.out (.cells #[Value.int IntKind.i64 PT.kind, Value.int IntKind.i64 PT.num, Value.slice a1 n1 c1, Value.slice a2 n2 c2] 49))
  have HK2 := hid (blk_alloc HK1.out (.cells #[Value.int IntKind.i64 PT.kind, Value.int IntKind.i64 PT.num, Value.slice a1 n1 c1, Value.slice a2 n2 c2] 49))
  have HL2 := hid (heap_last w1 (.cells #[Value.int IntKind.i64 PT.kind, Value.int IntKind.i64 PT.num, Value.slice a1 n1 c1, Value.slice a2 n2 c2] 49))
  have HT2 : Hid (Touch S w (w1.alloc (.cells #[Value.int IntKind.i64 PT.kind, Value.int IntKind.i64 PT.num, Value.slice a1 n1 c1, Value.slice a2 n2 c2] 49))) := HT1.out.alloc _
  have HR2 : Hid (Rd (w1.alloc (.cells #[Value.int IntKind.i64 PT.kind, Value.int IntKind.i64 PT.num, Value.slice a1 n1 c1, Value.slice a2 n2 c2] 49)) (fun b => w.heap.size ≤ b) PT (Value.slice a1 n1 c1) (Value.slice a2 n2 c2)) := HR1.out.under (below_one w1 _)
  obtain ⟨Y, hY⟩ : ∃ Y, Y = w1.heap.size := ⟨_, rfl⟩
  have HYe : Hid (w.heap.size ≤ Y) := by show _ ≤ _; rw [hY]; exact HZ.out
  rw [← hY] at HL2 ⊢
  clear hY HS1 HK1 HT1 HR1 HZ
  generalize w1.alloc (.cells #[Value.int IntKind.i64 PT.kind, Value.int IntKind.i64 PT.num, Value.slice a1 n1 c1, Value.slice a2 n2 c2] 49) = V at *
  have k0 := blk_cell HK2.out 0
  have l0 := blk_cell HL2.out 0
  have l1 := blk_cell HL2.out 1
  have l2 := blk_cell HL2.out 2
  have l3 := blk_cell HL2.out 3
  have s4 := blk_cell HS2.out 4
  have s5 := blk_cell HS2.out 5
  have s6 := blk_cell HS2.out 6
  have s7 := blk_cell HS2.out 7
  have f4 := blk_frozen HS2.out 4
  have f5 := blk_frozen HS2.out 5
  have f6 := blk_frozen HS2.out 6
  have f7 := blk_frozen HS2.out 7
  have H1 := hid (sb7 (sb6 (sb5 (sb4 HS2.out (i64 PT.kind)) (i64 PT.num)) (.slice a1 n1 c1)) (.slice a2 n2 c2))
  have H2 : Hid (Touch S w ((((V.setCell ⟨S, 4, none⟩ (i64 PT.kind)).setCell ⟨S, 5, none⟩ (i64 PT.num)).setCell ⟨S, 6, none⟩ (.slice a1 n1 c1)).setCell ⟨S, 7, none⟩ (.slice a2 n2 c2))) :=
    (((HT2.out.setCell (p := ⟨S, 4, none⟩) rfl _).setCell (p := ⟨S, 5, none⟩) rfl _).setCell (p := ⟨S, 6, none⟩) rfl _).setCell (p := ⟨S, 7, none⟩) rfl _
  have H3 : Hid (Rd ((((V.setCell ⟨S, 4, none⟩ (i64 PT.kind)).setCell ⟨S, 5, none⟩ (i64 PT.num)).setCell ⟨S, 6, none⟩ (.slice a1 n1 c1)).setCell ⟨S, 7, none⟩ (.slice a2 n2 c2)) (fun b => w.heap.size ≤ b) PT (.slice a1 n1 c1) (.slice a2 n2 c2)) := by
    have ht : Touch S V ((((V.setCell ⟨S, 4, none⟩ (i64 PT.kind)).setCell ⟨S, 5, none⟩ (i64 PT.num)).setCell ⟨S, 6, none⟩ (.slice a1 n1 c1)).setCell ⟨S, 7, none⟩ (.slice a2 n2 c2)) :=
      ((((Touch.refl S V).setCell (p := ⟨S, 4, none⟩) rfl _).setCell (p := ⟨S, 5, none⟩) rfl _).setCell (p := ⟨S, 6, none⟩) rfl _).setCell (p := ⟨S, 7, none⟩) rfl _
    exact HR2.out.move ht.size fun b hb hlt => ⟨hb, ht.block b hlt (by have := HSlt.out; have hb' : w.heap.size ≤ b := hb; omega)⟩
  clear HS2 HK2 HL2 HT2 HR2
  go_wp2_with fail
  go_ret
  exact ⟨by rw [← HE.out]; rfl, ⟨a1, n1, c1, a2, n2, c2, H1.out, H3.out⟩, H2.out⟩
theorem below_bw (w : World) (s : ByteArray) : Below w.heap.size w (Lib.bytesWorld w 5 s) :=
  ⟨rfl, rfl, rfl, by rw [Lib.bytesWorld_size]; omega, fun k hk => Lib.bytesWorld_at_old w 5 s k hk⟩
theorem uint_ok (x : Bs) (w : World) (he : Env w) (hx : x.length ≤ 10) : Calls Tryz.prog 84 #[str x, .int .i64 10, .int .i64 32] w fun e w' => (∃ (u : Nat) (v : Value), e = .returned (.tuple #[.int .u64 u, v]) ∧ u ≤ 4294967295 ∧ ((v = .nilIface ∧ numW x = some u) ∨ (∃ t p, v = .iface t p) ∧ numW x = none)) ∧ Below w.heap.size w w' := by
  have hz : (⟨x.toArray⟩ : ByteArray).size = x.length := bz x
  cases hn : numW x with
  | some n =>
    obtain ⟨h1, h2, h3⟩ := num_yes hn
    refine (Tryz.strconv_ParseUint_10_at32_ok ⟨x.toArray⟩ (by rw [hz]; omega) n h2 w).mono ?_
    rintro e w' ⟨rfl, hw⟩
    refine ⟨⟨n, _, rfl, h3, Or.inl ⟨rfl, rfl⟩⟩, ?_⟩
    rcases hw with rfl | rfl
    · exact Below.refl _ _
    · exact below_bw _ _
  | none =>
    cases hp : Lib.parseUintB 32 x with
    | ok u => exact absurd hp (num_no hn hx u)
    | «syntax» =>
      obtain ⟨tp, p, hv⟩ := he.es
      refine (Tryz.strconv_ParseUint_10_at32_syntax_var ⟨x.toArray⟩ (by rw [hz]; omega) hp tp p w hv).mono ?_
      rintro e w' ⟨M, rfl, _, _, hb⟩
      exact ⟨⟨0, _, rfl, by omega, Or.inr ⟨⟨_, _, rfl⟩, rfl⟩⟩, hb⟩
    | range =>
      obtain ⟨tp, p, hv⟩ := he.er
      refine (Tryz.strconv_ParseUint_10_at32_range_var ⟨x.toArray⟩ (by rw [hz]; omega) hp tp p w hv).mono ?_
      rintro e w' ⟨M, rfl, _, _, hb⟩
      exact ⟨⟨4294967295, _, rfl, by omega, Or.inr ⟨⟨_, _, rfl⟩, rfl⟩⟩, hb⟩
set_option maxHeartbeats 3200000 in
theorem num1_ok {S KB : Nat} {o nm dst nv k n tn tk N bv : Value} (x : Bs) (w : World) (he : Env w) (hS : w.heap[S]? = some (sbO o nm dst nv k n tn tk N bv)) (hN : ∃ z, N = i64 z) (hK : w.heap[KB]? = some (.cells #[ptS S 8] 130)) (hx : x.length ≤ 30000000) :
    Calls Tryz.prog 83 #[str x, pq KB] w fun e w' => e = .returned (.bool (numW x).isSome) ∧ (∃ z : Int, w'.heap[S]? = some (sbO o nm dst nv k n tn tk (i64 z) bv) ∧ ∀ u, numW x = some u → z = u) ∧ Touch S w w' := by
  by_cases hl : 10 < x.length
  · obtain ⟨z, rfl⟩ := hN
    rw [numw_long hl]
    have HS := hid hS
    have hz : (⟨x.toArray⟩ : ByteArray).size = x.length := bz x
    have HX : Hid ((10 : Int) < ((⟨x.toArray⟩ : ByteArray).size : Int)) := by show _ < _; rw [hz]; omega
    clear hS hK he
    go_enter Tryz.func83, Tryz.ntmps83
    go_wp2_with fail
    go_ret
    exact ⟨rfl, ⟨z, HS.out, fun u h => by cases h⟩, Touch.refl S w⟩
  · have HU := hid (uint_ok x w he (by omega))
    have HS := hid hS
    have HK := hid hK
    clear hS hK he hN
    go_enter Tryz.func83, Tryz.ntmps83
    go_wp2_with fail
    refine HU.out.mono ?_
    rintro e w1 ⟨⟨u, v, rfl, hu, hv⟩, hb⟩
    have HS1 := hid (blk_below HS.out hb)
    have HK1 := hid (blk_below HK.out hb)
    have HT1 : Hid (Touch S w w1) := Touch.of_below hb
    clear HU HS HK hb
    have k0 := blk_cell HK1.out 0
    have s8 := blk_cell HS1.out 8
    have f8 := blk_frozen HS1.out 8
    have H1 := hid (sb8 HS1.out (i64 (u : Nat)))
    have H2 : Hid (Touch S w (w1.setCell ⟨S, 8, none⟩ (i64 (u : Nat)))) := HT1.out.setCell (p := ⟨S, 8, none⟩) rfl _
    have hu0 : (0 : Int) ≤ (u : Int) := by omega
    have hu1 : (u : Int) ≤ 4294967295 := by omega
    clear HS1 HK1 HT1 hu
    rcases hv with ⟨rfl, hn⟩ | ⟨⟨t, p, rfl⟩, hn⟩
    · have HN := hid hn
      clear hn
      go_wp2_with fail
      go_ret
      exact ⟨by rw [HN.out]; rfl, ⟨_, H1.out, fun u' h => by rw [HN.out] at h; cases h; rfl⟩, H2.out⟩
    · have HN := hid hn
      clear hn
      go_wp2_with fail
      go_ret
      exact ⟨by rw [HN.out]; rfl, ⟨_, H1.out, fun u' h => by rw [HN.out] at h; cases h⟩, H2.out⟩

/-! ### What makes them -/
theorem mk61 (S j : Nat) (w : World) : Calls Tryz.prog 61 #[ptS S j] w fun e w' => e = .returned (.func (.func 80) #[] #[pq w.heap.size]) ∧ w' = w.alloc (.cells #[ptS S j] 126) := by
  go_enter Tryz.func61, Tryz.ntmps61
  go_wp2_with fail
  go_ret
  exact ⟨rfl, rfl⟩
theorem mk62 (S j : Nat) (w : World) : Calls Tryz.prog 62 #[ptS S j] w fun e w' => e = .returned (.func (.func 81) #[] #[pq w.heap.size]) ∧ w' = w.alloc (.cells #[ptS S j] 128) := by
  go_enter Tryz.func62, Tryz.ntmps62
  go_wp2_with fail
  go_ret
  exact ⟨rfl, rfl⟩
theorem mk63 (S j : Nat) (w : World) : Calls Tryz.prog 63 #[ptS S j] w fun e w' => e = .returned (.func (.func 83) #[] #[pq w.heap.size]) ∧ w' = w.alloc (.cells #[ptS S j] 130) := by
  go_enter Tryz.func63, Tryz.ntmps63
  go_wp2_with fail
  go_ret
  exact ⟨rfl, rfl⟩
/-- A must's function. -/
def MuV (w : World) (lo S : Nat) : Mu → Value → Prop
  | .nm, v => ∃ KB, v = .func (.func 80) #[] #[pq KB] ∧ lo ≤ KB ∧ w.heap[KB]? = some (.cells #[ptS S 1] 126)
  | .dst, v => ∃ KB, v = .func (.func 80) #[] #[pq KB] ∧ lo ≤ KB ∧ w.heap[KB]? = some (.cells #[ptS S 2] 126)
  | .ty, v => ∃ KB, v = .func (.func 81) #[] #[pq KB] ∧ lo ≤ KB ∧ w.heap[KB]? = some (.cells #[ptS S 4] 128)
  | .num, v => ∃ KB, v = .func (.func 83) #[] #[pq KB] ∧ lo ≤ KB ∧ w.heap[KB]? = some (.cells #[ptS S 8] 130)
theorem MuV.move {w w' : World} {lo S : Nat} {m : Mu} {v : Value} (h : MuV w lo S m v) (hk : ∀ k, lo ≤ k → k < w.heap.size → w'.heap[k]? = w.heap[k]?) : MuV w' lo S m v := by
  cases m <;> (obtain ⟨KB, h1, h2, h3⟩ := h; exact ⟨KB, h1, h2, (hk KB h2 (blk_lt h3)).trans h3⟩)
/-- The musts' row. -/
def MuL (w : World) (lo S : Nat) (l : List Mu) (v : Value) : Prop := ∃ b, v = .slice (some ⟨b, 0, none⟩) l.length l.length ∧ lo ≤ b ∧ b < w.heap.size ∧ ∀ i m, l[i]? = some m → ∃ u, w.cell? ⟨b, i, none⟩ = some u ∧ MuV w lo S m u
theorem MuL.move {w w' : World} {lo S : Nat} {l : List Mu} {v : Value} (h : MuL w lo S l v) (hz : w.heap.size ≤ w'.heap.size) (hk : ∀ k, lo ≤ k → k < w.heap.size → w'.heap[k]? = w.heap[k]?) : MuL w' lo S l v := by
  obtain ⟨b, h1, h2, h3, h4⟩ := h
  refine ⟨b, h1, h2, by omega, fun i m hm => ?_⟩
  obtain ⟨u, h5, h6⟩ := h4 i m hm
  exact ⟨u, by rw [World.cell?_of_block (w := w) (hk b h2 h3)]; exact h5, h6.move hk⟩
def MusOk (w : World) (S : Nat) (l : List Mu) (e : Ending) (w' : World) : Prop := (∃ v, e = .returned v ∧ MuL w' w.heap.size S l v) ∧ Below w.heap.size w w'
theorem MusOk.drew {w w' : World} {S : Nat} {l : List Mu} {e : Ending} (h : MusOk w S l e w') : MusOk w S l e w'.drew := by
  obtain ⟨⟨v, he, hv⟩, hb⟩ := h
  exact ⟨⟨v, he, hv.move (Nat.le_refl _) fun _ _ _ => rfl⟩, hb.os, hb.tape, hb.output, hb.size, hb.block⟩
theorem heap_alloc2 (w : World) (a b : Obj) : ((w.alloc a).alloc b).heap[w.heap.size]? = some a := by
  rw [Below.heap_alloc _ _ _ (by simp)]; exact heap_last w a
theorem heap_alloc3 (w : World) (a b c : Obj) : (((w.alloc a).alloc b).alloc c).heap[w.heap.size]? = some a := by
  rw [Below.heap_alloc _ _ _ (by simp; omega)]; exact heap_alloc2 w a b
theorem heap_alloc4 (w : World) (a b c d : Obj) : ((((w.alloc a).alloc b).alloc c).alloc d).heap[w.heap.size]? = some a := by
  rw [Below.heap_alloc _ _ _ (by simp; omega)]; exact heap_alloc3 w a b c
theorem sz_alloc (w : World) (a : Obj) : (w.alloc a).heap.size = w.heap.size + 1 := by simp
abbrev fv (f KB : Nat) : Value := .func (.func f) #[] #[pq KB]
theorem mus_e1 (w : World) (S : Nat) : MusOk w S [.nm] (.returned (.slice (some ⟨w.heap.size + 1, 0, none⟩) 1 1)) ((w.alloc (.cells #[ptS S 1] 126)).alloc (.cells #[fv 80 w.heap.size] 110)) := by
  have h1 := heap_last (w.alloc (.cells #[ptS S 1] 126)) (.cells #[fv 80 w.heap.size] 110)
  have h0 := heap_alloc2 w (.cells #[ptS S 1] 126) (.cells #[fv 80 w.heap.size] 110)
  rw [sz_alloc] at h1
  refine ⟨⟨_, rfl, _, rfl, by omega, blk_lt h1, fun i m hm => ?_⟩, ((Below.refl _ _).alloc (Nat.le_refl _) _).alloc (by rw [sz_alloc]; omega) _⟩
  match i, hm with
  | 0, hm => cases hm; exact ⟨_, blk_cell h1 0, _, rfl, Nat.le_refl _, h0⟩
  | n + 1, hm => simp at hm
theorem mus_e2 (w : World) (S : Nat) : MusOk w S [.nm, .dst] (.returned (.slice (some ⟨w.heap.size + 1 + 1, 0, none⟩) 2 2)) (((w.alloc (.cells #[ptS S 1] 126)).alloc (.cells #[ptS S 2] 126)).alloc (.cells #[fv 80 w.heap.size, fv 80 (w.heap.size + 1)] 110)) := by
  have h2 := heap_last ((w.alloc (.cells #[ptS S 1] 126)).alloc (.cells #[ptS S 2] 126)) (.cells #[fv 80 w.heap.size, fv 80 (w.heap.size + 1)] 110)
  have h1 := heap_alloc2 (w.alloc (.cells #[ptS S 1] 126)) (.cells #[ptS S 2] 126) (.cells #[fv 80 w.heap.size, fv 80 (w.heap.size + 1)] 110)
  have h0 := heap_alloc3 w (.cells #[ptS S 1] 126) (.cells #[ptS S 2] 126) (.cells #[fv 80 w.heap.size, fv 80 (w.heap.size + 1)] 110)
  rw [sz_alloc, sz_alloc] at h2
  rw [sz_alloc] at h1
  refine ⟨⟨_, rfl, _, rfl, by omega, blk_lt h2, fun i m hm => ?_⟩, (((Below.refl _ _).alloc (Nat.le_refl _) _).alloc (by rw [sz_alloc]; omega) _).alloc (by rw [sz_alloc, sz_alloc]; omega) _⟩
  match i, hm with
  | 0, hm => cases hm; exact ⟨_, blk_cell h2 0, _, rfl, Nat.le_refl _, h0⟩
  | 1, hm => cases hm; exact ⟨_, blk_cell h2 1, _, rfl, by omega, h1⟩
  | n + 2, hm => simp at hm
theorem mus_e4 (w : World) (S : Nat) : MusOk w S [.nm, .num] (.returned (.slice (some ⟨w.heap.size + 1 + 1, 0, none⟩) 2 2)) (((w.alloc (.cells #[ptS S 1] 126)).alloc (.cells #[ptS S 8] 130)).alloc (.cells #[fv 80 w.heap.size, fv 83 (w.heap.size + 1)] 110)) := by
  have h2 := heap_last ((w.alloc (.cells #[ptS S 1] 126)).alloc (.cells #[ptS S 8] 130)) (.cells #[fv 80 w.heap.size, fv 83 (w.heap.size + 1)] 110)
  have h1 := heap_alloc2 (w.alloc (.cells #[ptS S 1] 126)) (.cells #[ptS S 8] 130) (.cells #[fv 80 w.heap.size, fv 83 (w.heap.size + 1)] 110)
  have h0 := heap_alloc3 w (.cells #[ptS S 1] 126) (.cells #[ptS S 8] 130) (.cells #[fv 80 w.heap.size, fv 83 (w.heap.size + 1)] 110)
  rw [sz_alloc, sz_alloc] at h2
  rw [sz_alloc] at h1
  refine ⟨⟨_, rfl, _, rfl, by omega, blk_lt h2, fun i m hm => ?_⟩, (((Below.refl _ _).alloc (Nat.le_refl _) _).alloc (by rw [sz_alloc]; omega) _).alloc (by rw [sz_alloc, sz_alloc]; omega) _⟩
  match i, hm with
  | 0, hm => cases hm; exact ⟨_, blk_cell h2 0, _, rfl, Nat.le_refl _, h0⟩
  | 1, hm => cases hm; exact ⟨_, blk_cell h2 1, _, rfl, by omega, h1⟩
  | n + 2, hm => simp at hm
theorem mus_e3 (w : World) (S : Nat) : MusOk w S [.nm, .ty, .num] (.returned (.slice (some ⟨w.heap.size + 1 + 1 + 1, 0, none⟩) 3 3)) ((((w.alloc (.cells #[ptS S 1] 126)).alloc (.cells #[ptS S 4] 128)).alloc (.cells #[ptS S 8] 130)).alloc (.cells #[fv 80 w.heap.size, fv 81 (w.heap.size + 1), fv 83 (w.heap.size + 1 + 1)] 110)) := by
  have h3 := heap_last (((w.alloc (.cells #[ptS S 1] 126)).alloc (.cells #[ptS S 4] 128)).alloc (.cells #[ptS S 8] 130)) (.cells #[fv 80 w.heap.size, fv 81 (w.heap.size + 1), fv 83 (w.heap.size + 1 + 1)] 110)
  have h2 := heap_alloc2 ((w.alloc (.cells #[ptS S 1] 126)).alloc (.cells #[ptS S 4] 128)) (.cells #[ptS S 8] 130) (.cells #[fv 80 w.heap.size, fv 81 (w.heap.size + 1), fv 83 (w.heap.size + 1 + 1)] 110)
  have h1 := heap_alloc3 (w.alloc (.cells #[ptS S 1] 126)) (.cells #[ptS S 4] 128) (.cells #[ptS S 8] 130) (.cells #[fv 80 w.heap.size, fv 81 (w.heap.size + 1), fv 83 (w.heap.size + 1 + 1)] 110)
  have h0 := heap_alloc4 w (.cells #[ptS S 1] 126) (.cells #[ptS S 4] 128) (.cells #[ptS S 8] 130) (.cells #[fv 80 w.heap.size, fv 81 (w.heap.size + 1), fv 83 (w.heap.size + 1 + 1)] 110)
  rw [sz_alloc, sz_alloc, sz_alloc] at h3
  rw [sz_alloc, sz_alloc] at h2
  rw [sz_alloc] at h1
  refine ⟨⟨_, rfl, _, rfl, by omega, blk_lt h3, fun i m hm => ?_⟩, ((((Below.refl _ _).alloc (Nat.le_refl _) _).alloc (by rw [sz_alloc]; omega) _).alloc (by rw [sz_alloc, sz_alloc]; omega) _).alloc (by rw [sz_alloc, sz_alloc, sz_alloc]; omega) _⟩
  match i, hm with
  | 0, hm => cases hm; exact ⟨_, blk_cell h3 0, _, rfl, Nat.le_refl _, h0⟩
  | 1, hm => cases hm; exact ⟨_, blk_cell h3 1, _, rfl, by omega, h1⟩
  | 2, hm => cases hm; exact ⟨_, blk_cell h3 2, _, rfl, by omega, h2⟩
  | n + 3, hm => simp at hm
set_option maxHeartbeats 3200000 in
theorem mus_one {S : Nat} {o : Int} (w : World) (hS : w.cell? ⟨S, 0, none⟩ = some (i64 o)) (h1 : o ≠ 1) (h6 : o ≠ 6) (h3 : o ≠ 3) (h4 : o ≠ 4) : Calls Tryz.prog 44 #[pq S] w (MusOk w S [.nm]) := by
  have HE := hid (mus_e1 w S)
  go_enter Tryz.func44, Tryz.ntmps44
  go_wp2_with fail
  refine (mk61 _ _ _).mono ?_
  rintro e w1 ⟨rfl, rfl⟩
  go_wp2_with fail
  go_ret
  exact HE.out
set_option maxHeartbeats 3200000 in
theorem mus_two {S : Nat} {o : Int} (w : World) (hS : w.cell? ⟨S, 0, none⟩ = some (i64 o)) (h1 : o = 1 ∨ o = 6) : Calls Tryz.prog 44 #[pq S] w (MusOk w S [.nm, .dst]) := by
  have HE := hid (mus_e2 w S).drew
  rcases h1 with rfl | rfl
  · go_enter Tryz.func44, Tryz.ntmps44
    go_wp2_with fail
    go_region_with ((go_at_call 61; refine (mk61 _ _ _).mono ?_; rintro e w1 ⟨rfl, rfl⟩))
    go_wp2_with fail
    go_ret
    exact HE.out
  · go_enter Tryz.func44, Tryz.ntmps44
    go_wp2_with fail
    go_region_with ((go_at_call 61; refine (mk61 _ _ _).mono ?_; rintro e w1 ⟨rfl, rfl⟩))
    go_wp2_with fail
    go_ret
    exact HE.out
set_option maxHeartbeats 3200000 in
theorem mus_four {S : Nat} (w : World) (hS : w.cell? ⟨S, 0, none⟩ = some (i64 4)) : Calls Tryz.prog 44 #[pq S] w (MusOk w S [.nm, .num]) := by
  have HE := hid (mus_e4 w S).drew
  go_enter Tryz.func44, Tryz.ntmps44
  go_wp2_with fail
  go_region_with (first | (go_at_call 61; refine (mk61 _ _ _).mono ?_; rintro e w1 ⟨rfl, rfl⟩) | (go_at_call 63; refine (mk63 _ _ _).mono ?_; rintro e w1 ⟨rfl, rfl⟩))
  go_wp2_with fail
  go_ret
  exact HE.out
set_option maxHeartbeats 3200000 in
theorem mus_three {S : Nat} (w : World) (hS : w.cell? ⟨S, 0, none⟩ = some (i64 3)) : Calls Tryz.prog 44 #[pq S] w (MusOk w S [.nm, .ty, .num]) := by
  have HE := hid (mus_e3 w S).drew
  go_enter Tryz.func44, Tryz.ntmps44
  go_wp2_with fail
  go_region_with (first | (go_at_call 61; refine (mk61 _ _ _).mono ?_; rintro e w1 ⟨rfl, rfl⟩) | (go_at_call 63; refine (mk63 _ _ _).mono ?_; rintro e w1 ⟨rfl, rfl⟩) | (go_at_call 62; refine (mk62 _ _ _).mono ?_; rintro e w1 ⟨rfl, rfl⟩))
  go_wp2_with fail
  go_ret
  exact HE.out
theorem mus_ok {S o : Nat} (w : World) (hS : w.cell? ⟨S, 0, none⟩ = some (i64 (o : Int))) : Calls Tryz.prog 44 #[pq S] w (MusOk w S (muF o)) := by
  by_cases h1 : o = 1
  · subst h1; exact mus_two w hS (Or.inl rfl)
  by_cases h6 : o = 6
  · subst h6; exact mus_two w hS (Or.inr rfl)
  by_cases h3 : o = 3
  · subst h3; exact mus_three w hS
  by_cases h4 : o = 4
  · subst h4; exact mus_four w hS
  have e : muF o = [.nm] := by
    unfold muF
    split <;> first | omega | rfl
  rw [e]
  exact mus_one w hS (by omega) (by omega) (by omega) (by omega)
end Go.Proofs.YtjppcfjjpkniaaaGreatDoor
namespace Go.Proofs.YtjppcfjjpkniaaaGreatDoor
open Go.ChangeShapes Go.WideShapes Go.ChangeAt Go.RowKit Go.Deep
attribute [local go_sem ↓] Go.wp_at_zero Go.wp_at_succ
set_option maxRecDepth 100000

structure Pm where
  nm : Bs
  ds : Bs
  t : Ty
  num : Int
def Pm0 : Pm := ⟨[], [], ty0, 0⟩
def muB : Mu → Bs → Bool
  | .nm, x => nameB x
  | .dst, x => nameB x
  | .ty, x => (parseF x).isSome
  | .num, x => (numW x).isSome
def muS : Mu → Bs → Pm → Pm
  | .nm, x, c => { c with nm := x }
  | .dst, x, c => { c with ds := x }
  | .ty, x, c => { c with t := parT x }
  | .num, x, c => { c with num := ((numW x).getD 0 : Nat) }
def runM : List Mu → Bs → Pm → Option (Pm × Bs)
  | [], l, c => some (c, l)
  | m :: r, l, c => if muB m (wd l) = true then runM r (aft l) (muS m (wd l) c) else none
def finM (o : Nat) (c : Pm) (l : Bs) : Option Sm := if namesR o (wordsF l) = true then some (.mk o c.num c.nm c.ds (wordsF l) c.t []) else none
def finO (o : Nat) (r : Option (Pm × Bs)) : Option Sm := match r with
  | none => none
  | some (c, r) => finM o c r
theorem runM_nm (r : List Mu) (l : Bs) (c : Pm) : runM (.nm :: r) l c = if nameB (wd l) = true then runM r (aft l) { c with nm := wd l } else none := rfl
theorem runM_dst (r : List Mu) (l : Bs) (c : Pm) : runM (.dst :: r) l c = if nameB (wd l) = true then runM r (aft l) { c with ds := wd l } else none := rfl
theorem runM_ty (r : List Mu) (l : Bs) (c : Pm) : runM (.ty :: r) l c = if (parseF (wd l)).isSome = true then runM r (aft l) { c with t := parT (wd l) } else none := rfl
theorem runM_num (r : List Mu) (l : Bs) (c : Pm) : runM (.num :: r) l c = if (numW (wd l)).isSome = true then runM r (aft l) { c with num := ((numW (wd l)).getD 0 : Nat) } else none := rfl
theorem words_cases (l : Bs) : (l = [] ∧ wordsF l = [] ∧ wd l = []) ∨ wordsF l = wd l :: wordsF (aft l) := by
  by_cases h : l = []
  · subst h; exact Or.inl ⟨rfl, rfl, rfl⟩
  · exact Or.inr (wordsF_cons h)
theorem nameB_nil : nameB [] = false := by decide
theorem parseF_nil : parseF [] = none := by decide
theorem numW_nil : numW [] = none := by decide
theorem opF_nil : opF [] = 0 := by decide
theorem names_zero {o : Nat} (h : leastF o = 0) (ws : List Bs) : namesR o ws = decide (ws = []) := by
  unfold namesR
  rw [if_neg (by omega), if_pos h]
theorem run_one (o : Nat) (l : Bs) (h1 : o ≠ 1) (h6 : o ≠ 6) (h3 : o ≠ 3) (h4 : o ≠ 4) : readR o (wordsF l) = finO o (runM [.nm] l Pm0) := by
  have e : readR o (wordsF l) = match wordsF l with | a :: r => if nameB a = true ∧ namesR o r = true then some (.mk o 0 a [] r ty0 []) else none | _ => none := by
    unfold readR
    rw [if_neg (by omega), if_neg h3, if_neg h4]
    cases wordsF l <;> rfl
  rw [e]
  unfold finO
  rw [runM_nm]
  rcases words_cases l with ⟨_, h, hw⟩ | h
  · rw [h, hw, nameB_nil]; rfl
  · rw [h]
    simp only
    cases hn : nameB (wd l)
    · simp
    · simp [runM, finM, Pm0]
theorem run_two (o : Nat) (l : Bs) (h1 : o = 1 ∨ o = 6) : readR o (wordsF l) = finO o (runM [.nm, .dst] l Pm0) := by
  have e : readR o (wordsF l) = match wordsF l with | a :: b :: r => if nameB a = true ∧ nameB b = true ∧ namesR o r = true then some (.mk o 0 a b r ty0 []) else none | _ => none := by
    unfold readR
    rw [if_pos h1]
    rcases wordsF l with _ | ⟨a, _ | ⟨b, r⟩⟩ <;> rfl
  rw [e]
  unfold finO
  rw [runM_nm]
  rcases words_cases l with ⟨_, h, hw⟩ | h
  · rw [h, hw, nameB_nil]; rfl
  · rw [h]
    rw [runM_dst]
    rcases words_cases (aft l) with ⟨_, h, hw⟩ | h
    · rw [h, hw, nameB_nil]
      cases hn : nameB (wd l) <;> simp
    · rw [h]
      simp only
      cases hn : nameB (wd l)
      · simp
      · cases hn2 : nameB (wd (aft l))
        · simp
        · simp [runM, finM, Pm0]
theorem run_four (l : Bs) : readR 4 (wordsF l) = finO 4 (runM [.nm, .num] l Pm0) := by
  have e : readR 4 (wordsF l) = match wordsF l with | a :: c :: r => if nameB a = true ∧ r = [] then match numW c with | some n => some (.mk 4 n a [] [] ty0 []) | none => none else none | _ => none := by
    unfold readR
    rw [if_neg (by omega), if_neg (by omega), if_pos rfl]
    rcases wordsF l with _ | ⟨a, _ | ⟨b, r⟩⟩ <;> rfl
  rw [e]
  unfold finO
  rw [runM_nm]
  rcases words_cases l with ⟨_, h, hw⟩ | h
  · rw [h, hw, nameB_nil]; rfl
  · rw [h]
    rw [runM_num]
    rcases words_cases (aft l) with ⟨_, h, hw⟩ | h
    · rw [h, hw, numW_nil]
      cases hn : nameB (wd l) <;> simp
    · rw [h]
      simp only
      cases hn : nameB (wd l)
      · simp
      · cases hn2 : numW (wd (aft l))
        · simp
        · simp only [runM, finM, names_zero (o := 4) rfl, Pm0]
          by_cases h0 : wordsF (aft (aft l)) = []
          · simp [h0]
          · simp [h0]
theorem run_three (l : Bs) : readR 3 (wordsF l) = finO 3 (runM [.nm, .ty, .num] l Pm0) := by
  have e : readR 3 (wordsF l) = match wordsF l with | a :: b :: c :: r => if nameB a = true ∧ r = [] then match parseF b, numW c with | some t, some n => some (.mk 3 n a [] [] t []) | _, _ => none else none | _ => none := by
    unfold readR
    rw [if_neg (by omega), if_pos rfl]
    rcases wordsF l with _ | ⟨a, _ | ⟨b, _ | ⟨c, r⟩⟩⟩ <;> rfl
  rw [e]
  unfold finO
  rw [runM_nm]
  rcases words_cases l with ⟨_, h, hw⟩ | h
  · rw [h, hw, nameB_nil]; rfl
  · rw [h]
    rw [runM_ty]
    rcases words_cases (aft l) with ⟨_, h, hw⟩ | h
    · rw [h, hw, parseF_nil]
      cases hn : nameB (wd l) <;> simp
    · rw [h]
      rw [runM_num]
      rcases words_cases (aft (aft l)) with ⟨_, h, hw⟩ | h
      · rw [h, hw, numW_nil]
        cases hn : nameB (wd l) <;> cases hp : parseF (wd (aft l)) <;> simp
      · rw [h]
        simp only
        cases hn : nameB (wd l)
        · simp
        · cases hp : parseF (wd (aft l))
          · simp
          · cases hn2 : numW (wd (aft (aft l)))
            · simp
            · simp only [runM, finM, names_zero (o := 3) rfl, Pm0, parT, hp]
              by_cases h0 : wordsF (aft (aft (aft l))) = []
              · simp [h0]
              · simp [h0]
/-- A line's statement, word by word. -/
theorem readS_run (x : Bs) : readS (wordsF x) = if opF (wd x) = 0 then none else finO (opF (wd x)) (runM (muF (opF (wd x))) (aft x) Pm0) := by
  rcases words_cases x with ⟨_, h, hw⟩ | h
  · rw [h, hw, opF_nil]; rfl
  · rw [h]
    unfold readS
    simp only
    generalize opF (wd x) = o
    by_cases h0 : o = 0
    · rw [if_pos h0, if_pos h0]
    rw [if_neg h0, if_neg h0]
    by_cases h1 : o = 1
    · subst h1; exact run_two 1 _ (Or.inl rfl)
    by_cases h6 : o = 6
    · subst h6; exact run_two 6 _ (Or.inr rfl)
    by_cases h3 : o = 3
    · subst h3; exact run_three _
    by_cases h4 : o = 4
    · subst h4; exact run_four _
    have e : muF o = [.nm] := by
      unfold muF
      split <;> first | omega | rfl
    rw [e]
    exact run_one o _ h1 h6 h3 h4

/-! ### What is kept -/
abbrev zS : Obj := sbO (i64 0) (str []) (str []) nilS (i64 0) (i64 0) nilS nilS (i64 0) nilS
structure Lws (w : World) (q R S : Nat) : Prop where
  q : q < w.heap.size
  r : w.heap.size ≤ R
  s : w.heap.size ≤ S
  ne : R ≠ S
structure RdI (w wr : World) (q R S L o : Nat) (c : Pm) (l : Bs) (N : List Bs) (nv tn tk : Value) : Prop where
  hq : wr.heap[q]? = some (wdO l)
  hl : l.length ≤ L
  hR : wr.heap[R]? = some zS
  hS : wr.heap[S]? = some (sbO (i64 (o : Int)) (str c.nm) (str c.ds) nv (i64 c.t.kind) (i64 c.t.num) tn tk (i64 c.num) nilS)
  hr : Rd wr (fun b => w.heap.size ≤ b ∧ b ≠ R ∧ b ≠ S ∧ some b ≠ nv.ownBlock) c.t tn tk
  on : wr.ownsRow w.heap.size 9 1 nv N.length (N.map str)
  ns : ∀ x ∈ N, x.length ≤ maxLen
  tt : Touch q w wr
  sl : ∃ a1 n1 c1 a2 n2 c2, tn = .slice a1 n1 c1 ∧ tk = .slice a2 n2 c2
theorem nv_ne {wr : World} {lo S : Nat} {nv : Value} {N : List Bs} {C : Array Value} (on : wr.ownsRow lo 9 1 nv N.length (N.map str)) (hS : wr.heap[S]? = some (.cells C 51)) : nv.ownBlock ≠ some S := fun e => by
  obtain ⟨cur, h⟩ := own_tag on e
  rw [hS] at h
  cases h
theorem RdI.touch {w wr wr' : World} {q R S L o : Nat} {c : Pm} {l l2 : Bs} {N : List Bs} {nv tn tk : Value} (hw : Lws w q R S) (h : RdI w wr q R S L o c l N nv tn tk) (ht : Touch q wr wr') (hq : wr'.heap[q]? = some (wdO l2)) (hl : l2.length ≤ L) : RdI w wr' q R S L o c l2 N nv tn tk := by
  have h1 := hw.q
  have h2 := hw.r
  have h3 := hw.s
  refine ⟨hq, hl, ?_, ?_, ?_, own_keep1 h.on fun k hk => ht.block k (h.on.lt k hk).2 (by have := (h.on.lt k hk).1; omega), h.ns, h.tt.trans ht, h.sl⟩
  · rw [ht.block R (blk_lt h.hR) (by omega)]; exact h.hR
  · rw [ht.block S (blk_lt h.hS) (by omega)]; exact h.hS
  · exact h.hr.move ht.size fun b hb hlt => ⟨hb, ht.block b hlt (by have := hb.1; omega)⟩
theorem RdI.below {w wr wr' : World} {q R S L o : Nat} {c : Pm} {l : Bs} {N : List Bs} {nv tn tk : Value} (hw : Lws w q R S) (h : RdI w wr q R S L o c l N nv tn tk) (hb : Below wr.heap.size wr wr') : RdI w wr' q R S L o c l N nv tn tk :=
  h.touch hw (Touch.of_below hb) (blk_below h.hq hb) h.hl
/-- The statement's block changed. -/
theorem RdI.set {w wr wr' : World} {q R S L o : Nat} {c : Pm} {l : Bs} {N : List Bs} {nv tn tk : Value} (hw : Lws w q R S) (h : RdI w wr q R S L o c l N nv tn tk) (ht : Touch S wr wr') (c' : Pm) (tn' tk' : Value)
    (hS : wr'.heap[S]? = some (sbO (i64 (o : Int)) (str c'.nm) (str c'.ds) nv (i64 c'.t.kind) (i64 c'.t.num) tn' tk' (i64 c'.num) nilS)) (hr : Rd wr' (fun b => w.heap.size ≤ b ∧ b ≠ R ∧ b ≠ S ∧ some b ≠ nv.ownBlock) c'.t tn' tk') (hsl : ∃ a1 n1 c1 a2 n2 c2, tn' = .slice a1 n1 c1 ∧ tk' = .slice a2 n2 c2) : RdI w wr' q R S L o c' l N nv tn' tk' := by
  have h1 := hw.q
  have h2 := hw.r
  have h3 := hw.s
  have h4 := hw.ne
  have h5 := h.tt.size
  refine ⟨?_, h.hl, ?_, hS, hr, own_keep1 h.on fun k hk => ht.block k (h.on.lt k hk).2 (fun e => nv_ne h.on h.hS (by rw [hk, e])), h.ns, ?_, hsl⟩
  · rw [ht.block q (blk_lt h.hq) (by omega)]; exact h.hq
  · rw [ht.block R (blk_lt h.hR) h4]; exact h.hR
  · exact ⟨ht.os.trans h.tt.os, ht.tape.trans h.tt.tape, ht.output.trans h.tt.output, Nat.le_trans h5 ht.size, fun k hk hkq => (ht.block k (by omega) (by omega)).trans (h.tt.block k hk hkq)⟩
/-- A call of a function that has a body goes into it. -/
theorem enter_fn {f : FuncId} {fn : Func} (hf : Tryz.prog.funcs[f]? = some fn) (hn : fn.name ≠ "runtime.NumGoroutine") (hb : fn.body.isSome = true) (args : Array Value) (w : World) : (callFunc f args).run Tryz.prog w = .ok (.enter f args) w := by
  obtain ⟨c, hc⟩ := Option.isSome_iff_exists.1 hb
  simp [callFunc, hf, hn, hc]
theorem enter_mu (f : Nat) (h : f = 80 ∨ f = 81 ∨ f = 83) (args : Array Value) (w : World) : (callFunc f args).run Tryz.prog w = .ok (.enter f args) w := by
  rcases h with rfl | rfl | rfl
  · exact enter_fn Tryz.func80 (by decide) (by kernel_rfl) args w
  · exact enter_fn Tryz.func81 (by decide) (by kernel_rfl) args w
  · exact enter_fn Tryz.func83 (by decide) (by kernel_rfl) args w
/-- A word is asked. -/
theorem must_ok {w wr : World} {q R S L o lo : Nat} {c : Pm} {l : Bs} {tn tk u : Value} {m : Mu} (hw : Lws w q R S) (h : RdI w wr q R S L o c l [] nilS tn tk) (hm : MuV wr lo S m u) (he : Env wr) (x : Bs) (hx : x.length ≤ 30000000) :
    ∃ f KB, u = .func (.func f) #[] #[pq KB] ∧ (f = 80 ∨ f = 81 ∨ f = 83) ∧ Calls Tryz.prog f #[str x, pq KB] wr fun e w' => e = .returned (.bool (muB m x)) ∧ ∃ c' tn' tk', (muB m x = true → c' = muS m x c) ∧ RdI w w' q R S L o c' l [] nilS tn' tk' ∧ Touch S wr w' := by
  have mv : ∀ w', Touch S wr w' → Rd w' (fun b => w.heap.size ≤ b ∧ b ≠ R ∧ b ≠ S ∧ some b ≠ nilS.ownBlock) c.t tn tk := fun w' ht => h.hr.move ht.size fun b hb hlt => ⟨hb, ht.block b hlt hb.2.2.1⟩
  cases m with
  | nm =>
    obtain ⟨KB, rfl, _, hK⟩ := hm
    refine ⟨80, KB, rfl, Or.inl rfl, (name1_ok x wr h.hS hK (by unfold maxLen; omega)).mono ?_⟩
    rintro e w' ⟨rfl, hS, ht⟩
    exact ⟨rfl, _, tn, tk, fun _ => rfl, h.set hw ht { c with nm := x } tn tk hS (mv _ ht) h.sl, ht⟩
  | dst =>
    obtain ⟨KB, rfl, _, hK⟩ := hm
    refine ⟨80, KB, rfl, Or.inl rfl, (name2_ok x wr h.hS hK (by unfold maxLen; omega)).mono ?_⟩
    rintro e w' ⟨rfl, hS, ht⟩
    exact ⟨rfl, _, tn, tk, fun _ => rfl, h.set hw ht { c with ds := x } tn tk hS (mv _ ht) h.sl, ht⟩
  | ty =>
    obtain ⟨KB, rfl, _, hK⟩ := hm
    refine ⟨81, KB, rfl, Or.inr (Or.inl rfl), (type1_ok x wr he h.hS hK hx).mono ?_⟩
    rintro e w' ⟨rfl, ⟨a1, n1, c1, a2, n2, c2, hS, hr⟩, ht⟩
    refine ⟨rfl, _, _, _, fun _ => rfl, h.set hw ht { c with t := parT x } _ _ hS (hr.mono fun b hb hlt => ?_) ⟨_, _, _, _, _, _, rfl, rfl⟩, ht⟩
    have h1 := blk_lt h.hR
    have h2 := blk_lt h.hS
    have h3 := h.tt.size
    exact ⟨by omega, by omega, by omega, by simp [Value.ownBlock]⟩
  | num =>
    obtain ⟨KB, rfl, _, hK⟩ := hm
    refine ⟨83, KB, rfl, Or.inr (Or.inr rfl), (num1_ok x wr he h.hS ⟨_, rfl⟩ hK hx).mono ?_⟩
    rintro e w' ⟨rfl, ⟨z, hS, hz⟩, ht⟩
    refine ⟨rfl, { c with num := z }, tn, tk, fun hb => ?_, h.set hw ht { c with num := z } tn tk hS (mv _ ht) h.sl, ht⟩
    have hb2 : (numW x).isSome = true := hb
    show (⟨c.nm, c.ds, c.t, z⟩ : Pm) = ⟨c.nm, c.ds, c.t, ((numW x).getD 0 : Nat)⟩
    cases hn : numW x with
    | none => rw [hn] at hb2; cases hb2
    | some n => rw [hz n hn]; rfl
/-- A name more, of very many. -/
theorem push_name2 {V : World} {lo : Nat} {nv : Value} {l : List Bs} (h : V.ownsRow lo 9 1 nv l.length (l.map str)) (x : Bs) (hl : l.length ≤ 3000000) (hlo : lo ≤ V.heap.size) :
    ∃ ao cap w', (Builtin.append_ #[46, 46] 46 #[nv, .slice (some ⟨V.heap.size, 0, none⟩) 1 1]).run Tryz.prog (V.alloc (.cells #[str x] 9)) = .ok (.slice ao (l.length + 1) cap) w' ∧ w'.ownsRow lo 9 1 (.slice ao (l.length + 1) cap) (l ++ [x]).length ((l ++ [x]).map str) ∧ Fr lo [9] V w' ∧ (∀ k, k < V.heap.size → some k ≠ nv.ownBlock → w'.heap[k]? = V.heap[k]?) ∧ ((Value.slice ao (l.length + 1) cap).ownBlock = nv.ownBlock ∨ (Value.slice ao (l.length + 1) cap).ownBlock = some (V.heap.size + 1)) := by
  obtain ⟨ao, cap, w', h1, h2, h3⟩ := app_far (te := 9) under22 info9 rfl (by omega) (by omega) h [str x] rfl (fun u hu => by rw [List.mem_singleton.1 hu]; rfl) hl hlo
  exact ⟨ao, cap, w', h1, by simpa using h2, h3⟩
theorem rd_push {w X : World} {q R S L o : Nat} {c : Pm} {l : Bs} {N : List Bs} {nv tn tk : Value} (hw : Lws w q R S) (h : RdI w X q R S L o c l N nv tn tk) (x : Bs) (hx : x.length ≤ maxLen) (hN : N.length ≤ 3000000) :
    ∃ ao cap Y, (Builtin.append_ #[46, 46] 46 #[nv, .slice (some ⟨X.heap.size, 0, none⟩) 1 1]).run Tryz.prog (X.alloc (.cells #[str x] 9)) = .ok (.slice ao (N.length + 1) cap) Y ∧ Y.heap[S]? = some (sbO (i64 (o : Int)) (str c.nm) (str c.ds) nv (i64 c.t.kind) (i64 c.t.num) tn tk (i64 c.num) nilS) ∧
      RdI w (Y.setCell ⟨S, 3, none⟩ (.slice ao (N.length + 1) cap)) q R S L o c l (N ++ [x]) (.slice ao (N.length + 1) cap) tn tk := by
  have h1 := hw.q
  have h2 := hw.r
  have h3 := hw.s
  have h4 := hw.ne
  have h5 := h.tt.size
  obtain ⟨ao, cap, Y, g1, g2, g3, g4, g5⟩ := push_name2 h.on x hN h5
  have eS := g3.kept _ _ h.hS (by rfl)
  have eR := g3.kept _ _ h.hR (by rfl)
  have eq := g3.kept _ _ h.hq (by rfl)
  have ht := ts Y S 3 (.slice ao (N.length + 1) cap)
  have hne := nv_ne g2 eS
  refine ⟨ao, cap, Y, g1, eS, ?_, h.hl, ?_, sb3 eS _, ?_, ?_, ?_, ?_, h.sl⟩
  · rw [ht.block q (blk_lt eq) (by omega)]; exact eq
  · rw [ht.block R (blk_lt eR) h4]; exact eR
  · refine h.hr.move (Nat.le_trans g3.size ht.size) fun b hb hlt => ⟨⟨hb.1, hb.2.1, hb.2.2.1, ?_⟩, ?_⟩
    · rcases g5 with g5 | g5
      · rw [g5]; exact hb.2.2.2
      · rw [g5]; intro e; cases e; omega
    · rw [ht.block b (by have := g3.size; omega) hb.2.2.1]
      exact g4 b hlt hb.2.2.2
  · exact own_keep1 g2 fun k hk => ht.block k (g2.lt k hk).2 (fun e => hne (by rw [hk, e]))
  · intro y hy
    rcases List.mem_append.1 hy with hy | hy
    · exact h.ns y hy
    · rw [List.mem_singleton.1 hy]; exact hx
  · have hs := g3.size
    have hs2 := ht.size
    refine ⟨ht.os.trans (g3.below.os.trans h.tt.os), ht.tape.trans (g3.below.tape.trans h.tt.tape), ht.output.trans (g3.below.output.trans h.tt.output), by omega, fun k hk hkq => ?_⟩
    rw [ht.block k (by omega) (by omega), g3.below.block k hk]
    exact h.tt.block k hk hkq
theorem namesR_no {o : Nat} {ws : List Bs} (h : leastF o = 0) (hw : ws ≠ []) : namesR o ws = false := by
  rw [names_zero h]; simp [hw]
theorem namesR_bad {o : Nat} {ws : List Bs} {x : Bs} (h : leastF o ≠ 0) (hx : x ∈ ws) (hb : nameB x = false) : namesR o ws = false := by
  unfold namesR
  by_cases hl : ws.length < leastF o
  · rw [if_pos hl]
  · rw [if_neg hl, if_neg h, List.all_eq_false]
    exact ⟨x, hx, by rw [hb]; simp⟩
theorem namesR_end {o : Nat} {ws : List Bs} (h : ws = [] ∨ leastF o ≠ 0) (hx : ∀ x ∈ ws, nameB x = true) : namesR o ws = decide (leastF o ≤ ws.length) := by
  unfold namesR
  by_cases hl : ws.length < leastF o
  · rw [if_pos hl]; simp; omega
  · rw [if_neg hl]
    have : decide (leastF o ≤ ws.length) = true := by simp; omega
    rw [this]
    by_cases h0 : leastF o = 0
    · rw [if_pos h0]
      rcases h with h | h
      · simp [h]
      · exact absurd h0 h
    · rw [if_neg h0, List.all_eq_true]
      exact hx
end Go.Proofs.YtjppcfjjpkniaaaGreatDoor
namespace Go.Proofs.YtjppcfjjpkniaaaGreatDoor
open Go.ChangeShapes Go.WideShapes Go.ChangeAt Go.RowKit Go.Deep
attribute [local go_sem ↓] Go.wp_at_zero Go.wp_at_succ
set_option maxRecDepth 100000

abbrev stV (o nm dst nv k n tn tk N bv : Value) : Value := .agg #[o, nm, dst, nv, k, n, tn, tk, N, bv]
theorem vload51 {W : World} {b : Nat} {o nm dst nv k n tn tk N bv : Value} (h : W.heap[b]? = some (sbO o nm dst nv k n tn tk N bv)) : (loadVar 51 ⟨b, 0, none⟩).run Tryz.prog W = .ok (stV o nm dst nv k n tn tk N bv) W := by
  refine run_loadVar_mid _ _ 0 51 [o, nm, dst, nv, k, n, tn, tk, N, bv] _ (fun j u hu => ?_) Tryz.underlying51 rfl (by kernel_rfl)
  rw [Nat.zero_add, cell_of_row _ _ _ _ 51 (0, 0) h]
  simpa using hu
theorem sb0 {S : Nat} {o nm dst nv k n tn tk N bv : Value} {w : World} (hS : w.heap[S]? = some (sbO o nm dst nv k n tn tk N bv)) (x : Value) : (w.setCell ⟨S, 0, none⟩ x).heap[S]? = some (sbO x nm dst nv k n tn tk N bv) := by
  have := heap_setCell_same w S 0 _ 51 x hS
  simpa using this
/-- All of a statement's block is written. -/
abbrev setS (w : World) (S : Nat) (o nm dst nv k n tn tk N bv : Value) : World :=
  ((((((((((w.setCell ⟨S, 0, none⟩ o).setCell ⟨S, 1, none⟩ nm).setCell ⟨S, 2, none⟩ dst).setCell ⟨S, 3, none⟩ nv).setCell ⟨S, 4, none⟩ k).setCell ⟨S, 5, none⟩ n).setCell ⟨S, 6, none⟩ tn).setCell ⟨S, 7, none⟩ tk).setCell ⟨S, 8, none⟩ N).setCell ⟨S, 9, none⟩ bv)
theorem setS_at {S : Nat} {o nm dst nv k n tn tk N bv : Value} {w : World} (hS : w.heap[S]? = some (sbO o nm dst nv k n tn tk N bv)) (o' nm' dst' nv' k' n' tn' tk' N' bv' : Value) : (setS w S o' nm' dst' nv' k' n' tn' tk' N' bv').heap[S]? = some (sbO o' nm' dst' nv' k' n' tn' tk' N' bv') :=
  sb9 (sb8 (sb7 (sb6 (sb5 (sb4 (sb3 (sb2 (sb1 (sb0 hS _) _) _) _) _) _) _) _) _) _
theorem setS_touch (w : World) (S : Nat) (o nm dst nv k n tn tk N bv : Value) : Touch S w (setS w S o nm dst nv k n tn tk N bv) :=
  ((((((((((Touch.refl S w).setCell (p := ⟨S, 0, none⟩) rfl _).setCell (p := ⟨S, 1, none⟩) rfl _).setCell (p := ⟨S, 2, none⟩) rfl _).setCell (p := ⟨S, 3, none⟩) rfl _).setCell (p := ⟨S, 4, none⟩) rfl _).setCell (p := ⟨S, 5, none⟩) rfl _).setCell (p := ⟨S, 6, none⟩) rfl _).setCell (p := ⟨S, 7, none⟩) rfl _).setCell (p := ⟨S, 8, none⟩) rfl _).setCell (p := ⟨S, 9, none⟩) rfl _
theorem hdrew (w : World) : w.drew.heap = w.heap := rfl
theorem setS_st {R S : Nat} {w : World} {O : Obj} (hS : w.heap[S]? = some O) (hne : S ≠ R) (o nm dst nv k n tn tk N bv : Value) : (setS w R o nm dst nv k n tn tk N bv).drew.heap[S]? = some O := by
  rw [hdrew, (setS_touch w R o nm dst nv k n tn tk N bv).block S (blk_lt hS) hne]
  exact hS
theorem setS_ld {S : Nat} {o nm dst nv k n tn tk N bv : Value} {w : World} (hS : w.heap[S]? = some (sbO o nm dst nv k n tn tk N bv)) (o' nm' dst' nv' k' n' tn' tk' N' bv' : Value) :
    (loadVar 51 ⟨S, 0, none⟩).run Tryz.prog (setS w S o' nm' dst' nv' k' n' tn' tk' N' bv').drew = .ok (stV o' nm' dst' nv' k' n' tn' tk' N' bv') (setS w S o' nm' dst' nv' k' n' tn' tk' N' bv').drew := by
  have h := setS_at hS o' nm' dst' nv' k' n' tn' tk' N' bv'
  generalize setS w S o' nm' dst' nv' k' n' tn' tk' N' bv' = W at *
  exact vload51 (by rw [hdrew]; exact h)
/-- The facts that a store into a statement's block asks. -/
structure Sfs (w : World) (S : Nat) (o nm dst nv k n tn tk N bv : Value) : Prop where
  c0 : w.cell? ⟨S, 0, none⟩ = some o
  c1 : w.cell? ⟨S, 1, none⟩ = some nm
  c2 : w.cell? ⟨S, 2, none⟩ = some dst
  c3 : w.cell? ⟨S, 3, none⟩ = some nv
  c4 : w.cell? ⟨S, 4, none⟩ = some k
  c5 : w.cell? ⟨S, 5, none⟩ = some n
  c6 : w.cell? ⟨S, 6, none⟩ = some tn
  c7 : w.cell? ⟨S, 7, none⟩ = some tk
  c8 : w.cell? ⟨S, 8, none⟩ = some N
  c9 : w.cell? ⟨S, 9, none⟩ = some bv
  f0 : w.frozen? ⟨S, 0, none⟩ = false
  f1 : w.frozen? ⟨S, 1, none⟩ = false
  f2 : w.frozen? ⟨S, 2, none⟩ = false
  f3 : w.frozen? ⟨S, 3, none⟩ = false
  f4 : w.frozen? ⟨S, 4, none⟩ = false
  f5 : w.frozen? ⟨S, 5, none⟩ = false
  f6 : w.frozen? ⟨S, 6, none⟩ = false
  f7 : w.frozen? ⟨S, 7, none⟩ = false
  f8 : w.frozen? ⟨S, 8, none⟩ = false
  f9 : w.frozen? ⟨S, 9, none⟩ = false
theorem sfs {S : Nat} {o nm dst nv k n tn tk N bv : Value} {w : World} (h : w.heap[S]? = some (sbO o nm dst nv k n tn tk N bv)) : Sfs w S o nm dst nv k n tn tk N bv :=
  ⟨blk_cell h 0, blk_cell h 1, blk_cell h 2, blk_cell h 3, blk_cell h 4, blk_cell h 5, blk_cell h 6, blk_cell h 7, blk_cell h 8, blk_cell h 9, blk_frozen h 0, blk_frozen h 1, blk_frozen h 2, blk_frozen h 3, blk_frozen h 4, blk_frozen h 5, blk_frozen h 6, blk_frozen h 7, blk_frozen h 8, blk_frozen h 9⟩
/-- What read answers. -/
def RdOk (w : World) (q : Nat) (res : Option Sm) (e : Ending) (w' : World) : Prop :=
  (match res with
    | some (.mk op num nm ds names ty _) => ∃ nv tn tk, e = .returned (.tuple #[stV (i64 op) (str nm) (str ds) nv (i64 ty.kind) (i64 ty.num) tn tk (i64 num) nilS, .bool true]) ∧ Strs w' (fun b => w.heap.size ≤ b) nv names ∧ Rd w' (fun b => w.heap.size ≤ b) ty tn tk
    | none => ∃ o nm ds a1 m1 c1 k n a2 m2 c2 a3 m3 c3 N, e = .returned (.tuple #[stV (i64 o) (str nm) (str ds) (.slice a1 m1 c1) (i64 k) (i64 n) (.slice a2 m2 c2) (.slice a3 m3 c3) (i64 N) nilS, .bool false])) ∧ Touch q w w' ∧ ∃ l, w'.heap[q]? = some (wdO l)
theorem RdOk.drew {w w' : World} {q : Nat} {res : Option Sm} {e : Ending} (h : RdOk w q res e w') : RdOk w q res e w'.drew := by
  obtain ⟨h1, h2, h3⟩ := h
  refine ⟨?_, h2.drew, h3⟩
  cases res with
  | none => exact h1
  | some s =>
    cases s
    obtain ⟨nv, tn, tk, e1, e2, e3⟩ := h1
    exact ⟨nv, tn, tk, e1, e2.move (Nat.le_refl _) fun _ hb _ => ⟨hb, rfl⟩, e3.move (Nat.le_refl _) fun _ hb _ => ⟨hb, rfl⟩⟩
/-- Where a line is wrong. -/
theorem lread_no {w X : World} {q R : Nat} {l : Bs} (hR : w.heap.size ≤ R) (ht : Touch q w X) (hq : X.heap[q]? = some (wdO l)) (hne : q ≠ R) : RdOk w q none (.returned (.tuple #[stV (i64 0) (str []) (str []) nilS (i64 0) (i64 0) nilS nilS (i64 0) nilS, .bool false])) (setS X R (i64 0) (str []) (str []) nilS (i64 0) (i64 0) nilS nilS (i64 0) nilS) := by
  have h1 := setS_touch X R (i64 0) (str []) (str []) nilS (i64 0) (i64 0) nilS nilS (i64 0) nilS
  have h2 := ht.size
  refine ⟨⟨_, _, _, _, _, _, _, _, _, _, _, _, _, _, _, rfl⟩, ⟨h1.os.trans ht.os, h1.tape.trans ht.tape, h1.output.trans ht.output, Nat.le_trans h2 h1.size, fun k hk hq => (h1.block k (by omega) (by omega)).trans (ht.block k hk hq)⟩, l, ?_⟩
  rw [h1.block q (blk_lt hq) hne]; exact hq
/-- Where the last word is read. -/
theorem lread_fin {w X : World} {q R S L o LF : Nat} {c : Pm} {l : Bs} {N : List Bs} {nv tn tk : Value} {res : Option Sm} (hw : Lws w q R S) (h : RdI w X q R S L o c l N nv tn tk) (hr : res = if LF ≤ N.length then some (.mk o c.num c.nm c.ds N c.t []) else none) :
    RdOk w q res (.returned (.tuple #[stV (i64 (o : Int)) (str c.nm) (str c.ds) nv (i64 c.t.kind) (i64 c.t.num) tn tk (i64 c.num) nilS, .bool (decide (LF ≤ N.length))])) (setS X R (i64 (o : Int)) (str c.nm) (str c.ds) nv (i64 c.t.kind) (i64 c.t.num) tn tk (i64 c.num) nilS) := by
  have h1 := setS_touch X R (i64 (o : Int)) (str c.nm) (str c.ds) nv (i64 c.t.kind) (i64 c.t.num) tn tk (i64 c.num) nilS
  have h2 := h.tt.size
  have h3 := hw.r
  have ht : Touch q w (setS X R (i64 (o : Int)) (str c.nm) (str c.ds) nv (i64 c.t.kind) (i64 c.t.num) tn tk (i64 c.num) nilS) := ⟨h1.os.trans h.tt.os, h1.tape.trans h.tt.tape, h1.output.trans h.tt.output, Nat.le_trans h2 h1.size, fun k hk hq => (h1.block k (by omega) (by omega)).trans (h.tt.block k hk hq)⟩
  have hqq : ∃ l, (setS X R (i64 (o : Int)) (str c.nm) (str c.ds) nv (i64 c.t.kind) (i64 c.t.num) tn tk (i64 c.num) nilS).heap[q]? = some (wdO l) := ⟨l, by rw [h1.block q (blk_lt h.hq) (by have := hw.q; omega)]; exact h.hq⟩
  subst hr
  by_cases hl : LF ≤ N.length
  · rw [if_pos hl]
    have hd : decide (LF ≤ N.length) = true := by simp; omega
    rw [hd]
    refine ⟨⟨nv, tn, tk, rfl, ?_, ?_⟩, ht, hqq⟩
    · have hs : Strs X (fun b => w.heap.size ≤ b ∧ b ≠ R) nv N := own_strs h.on h.ns fun b hb => ⟨(h.on.lt b hb).1, fun e => nv_ne h.on h.hR (by rw [hb, e])⟩
      exact hs.move h1.size fun b hb hlt => ⟨hb.1, h1.block b hlt hb.2⟩
    · exact h.hr.move h1.size fun b hb hlt => ⟨hb.1, h1.block b hlt hb.2.1⟩
  · rw [if_neg hl]
    have hd : decide (LF ≤ N.length) = false := by simp; omega
    rw [hd]
    obtain ⟨an, cn, rfl, _⟩ := own_slice h.on
    obtain ⟨b1, b2, b3, b4, b5, b6, rfl, rfl⟩ := h.sl
    exact ⟨⟨_, _, _, _, _, _, _, _, _, _, _, _, _, _, _, rfl⟩, ht, hqq⟩
set_option maxHeartbeats 12800000 in
theorem lread_ok {B q : Nat} (x : Bs) (w : World) (hg : Gl B w) (hB : B ≤ q) (hq : w.heap[q]? = some (wdO x)) (hx : x.length ≤ 3000000) : Calls Tryz.prog 33 #[.func (.func 34) #[pq q] #[]] w (RdOk w q (readS (wordsF x))) := by
  obtain ⟨L, hL⟩ : ∃ L, L = x.length := ⟨_, rfl⟩
  have hL5 : L ≤ 3000000 := by omega
  have HLe := hid hL
  have HRn := hid (readS_run x)
  have HG := hid hg
  have HQ0 : Hid ((w.alloc zS).heap[q]? = some (wdO x)) := blk_alloc hq _
  have HR0 : Hid ((w.alloc zS).heap[w.heap.size]? = some zS) := heap_last w _
  have HG0 : Hid (Gl B (w.alloc zS)) := hg.under (below_one w _)
  have HT0 : Hid (Touch q w (w.alloc zS)) := (Touch.refl q w).alloc _
  have HQL := hid (blk_lt hq)
  have HTK := hid (take_ok x _ HG0.out (by omega) HQ0.out)
  have HLa := hid (aft_len x)
  have HTa := hid (trm_aft x)
  generalize readS (wordsF x) = res at *
  generalize wd x = w0 at *
  generalize aft x = l0 at *
  clear hg hq hL hx
  go_enter Tryz.func33, Tryz.ntmps33
  go_upto_region 1 with fail
  obtain ⟨R, hR⟩ : ∃ R, R = w.heap.size := ⟨_, rfl⟩
  have HRe : Hid (w.heap.size ≤ R) := by show _ ≤ _; omega
  rw [← hR] at HR0 ⊢
  clear hR
  generalize w.alloc zS = V at *
  go_wp2_with fail
  refine HTK.out.mono ?_
  rintro e w1 ⟨rfl, hq1, ht1⟩
  have HQ1 := hid hq1
  have HT1 : Hid (Touch q w w1) := HT0.out.trans ht1
  have HG1 : Hid (Gl B w1) := HG0.out.touch ht1 hB
  have HR1 : Hid (w1.heap[R]? = some zS) := by show _ = _; rw [ht1.block R (blk_lt HR0.out) (by have := HQL.out; have := HRe.out; omega)]; exact HR0.out
  clear HTK hq1 ht1
  go_wp2_with fail
  refine (opOf_ok w0 w1 HG1.out.env).mono ?_
  rintro e w1' ⟨rfl, rfl⟩
  generalize hop : opF w0 = o at *
  have hop9 : o ≤ 9 := by rw [← hop]; exact opF_le w0
  clear hop
  go_upto_region 2 with fail
  have HS1 : Hid ((w1'.alloc (sbO (i64 (o : Int)) (str []) (str []) nilS (i64 0) (i64 0) nilS nilS (i64 0) nilS)).heap[w1'.heap.size]? = some (sbO (i64 (o : Int)) (str []) (str []) nilS (i64 0) (i64 0) nilS nilS (i64 0) nilS)) := heap_last w1' _
  have HW : Hid (Lws w q R w1'.heap.size) := ⟨HQL.out, HRe.out, HT1.out.size, by have := blk_lt HR1.out; omega⟩
  have HI1 : Hid (RdI w (w1'.alloc (sbO (i64 (o : Int)) (str []) (str []) nilS (i64 0) (i64 0) nilS nilS (i64 0) nilS)) q R w1'.heap.size L o Pm0 l0 [] nilS nilS nilS) :=
    ⟨blk_alloc HQ1.out _, by rw [HLe.out]; exact HLa.out, blk_alloc HR1.out _, HS1.out, .mk (kids := []) 0 0 (fun _ => undef) (fun _ => undef) ⟨none, 0, rfl, Nat.zero_le _, ⟨Nat.le_refl _, fun x hx => by cases hx⟩, Or.inl rfl⟩ (Nat.zero_le _) (Or.inl rfl) (fun i T hT => by simp at hT) (fun i T hT => by simp at hT), ⟨rfl, Or.inl ⟨rfl, rfl⟩⟩, (fun x hx => by cases hx), HT1.out.alloc _, ⟨_, _, _, _, _, _, rfl, rfl⟩⟩
  obtain ⟨S, hS⟩ : ∃ S, S = w1'.heap.size := ⟨_, rfl⟩
  rw [← hS] at HW HI1 ⊢
  have HG2 : Hid (Gl B (w1'.alloc (sbO (i64 (o : Int)) (str []) (str []) nilS (i64 0) (i64 0) nilS nilS (i64 0) nilS))) := HG1.out.under (below_one w1' _)
  clear HS1 hS
  generalize w1'.alloc (sbO (i64 (o : Int)) (str []) (str []) nilS (i64 0) (i64 0) nilS nilS (i64 0) nilS) = V1 at *
  clear HQ1 HR1 HT1 HG1 HT0 HG0 HR0 HQ0
  have s0 := blk_cell HI1.out.hS 0
  have hoI : (0 : Int) ≤ (o : Int) := by omega
  by_cases h0 : o = 0
  · subst h0
    have HRes : Hid (res = none) := HRn.out
    clear HRn
    have HTX := hid HI1.out.tt
    have HQX := hid HI1.out.hq
    obtain ⟨rc0, rc1, rc2, rc3, rc4, rc5, rc6, rc7, rc8, rc9, rf0, rf1, rf2, rf3, rf4, rf5, rf6, rf7, rf8, rf9⟩ := sfs HI1.out.hR
    have HRX := hid HI1.out.hR
    clear HI1
    go_wp2_with fail
    refine bodyPost_ret (v := .tuple #[stV (i64 0) (str []) (str []) nilS (i64 0) (i64 0) nilS nilS (i64 0) nilS, .bool false]) (results_cell Tryz.results33 rfl rfl (vload51 (setS_at HRX.out _ _ _ _ _ _ _ _ _ _))) rfl ?_
    rw [HRes.out]
    exact lread_no HRe.out HTX.out HQX.out (by have := HQL.out; have := HRe.out; omega)
  · have HO1 : Hid (1 ≤ o) := by show _ ≤ _; omega
    have hoz : ((o : Int) == 0) = false := by
      have : (o : Int) ≠ 0 := by omega
      simpa using this
    have HRs : Hid (res = finO o (runM (muF o) l0 Pm0)) := by
      show _ = _
      rw [HRn.out, if_neg h0]
    have HMU := hid (mus_ok V1 (S := S) (o := o) (blk_cell HI1.out.hS 0))
    have hms3 : (muF o).length ≤ 3 := by unfold muF; split <;> simp
    generalize muF o = ms at *
    clear HRn h0
    go_wp2_with fail
    refine HMU.out.mono ?_
    rintro e w2 ⟨⟨mv, rfl, hml⟩, hb⟩
    have HML := hid hml
    obtain ⟨mb, rfl, _⟩ := hml
    have HI2 := hid (HI1.out.below HW.out hb)
    have HLO : Hid (q < V1.heap.size ∧ S < V1.heap.size ∧ V1.heap.size ≤ w2.heap.size) := ⟨blk_lt HI1.out.hq, blk_lt HI1.out.hS, hb.size⟩
    obtain ⟨lo, hlo⟩ : ∃ lo, lo = V1.heap.size := ⟨_, rfl⟩
    rw [← hlo] at HML HLO
    clear hlo hb HMU HI1 HG2 s0
    go_wp2_with fail
    go_loopw [19] (fun u wr => ∃ (i : Nat) (c : Pm) (l : Bs) (tn tk : Value), i ≤ ms.length ∧ u = i64 i ∧ Hid (RdI w wr q R S L o c l [] nilS tn tk) ∧ Hid (MuL wr lo S ms (.slice (some ⟨mb, 0, none⟩) ms.length ms.length)) ∧ Hid (Trm l) ∧ Hid (res = finO o (runM (ms.drop i) l c))) (fun u _ => ms.length - (intOf u).toNat)
    case atStart => exact ⟨0, Pm0, l0, nilS, nilS, by omega, rfl, HI2, HML, HTa, HRs⟩
    case round =>
      obtain ⟨i, c, l, tn, tk, hi, rfl, HI, HMr, HTl, HRr⟩ := hrel
      by_cases hlt : i < ms.length
      · obtain ⟨mb', e1, hlo1, hblt, hcell⟩ := HMr.out
        cases e1
        obtain ⟨u, x1, hu⟩ := hcell i _ (List.getElem?_eq_getElem hlt)
        have HU := hid hu
        have HRr2 : Hid (res = if muB ms[i] (wd l) = true then finO o (runM (ms.drop (i + 1)) (aft l) (muS ms[i] (wd l) c)) else none) := by
          show _ = _
          rw [HRr.out, List.drop_eq_getElem_cons hlt]
          show finO o (if muB ms[i] (wd l) = true then _ else none) = _
          split <;> rfl
        have HTK := hid (take_ok l wr (HG.out.touch HI.out.tt hB) (by have := HI.out.hl; omega) HI.out.hq)
        have HLa2 := hid (aft_len l)
        have HLw2 := hid (wd_len l)
        have HTa2 := hid (trm_aft l)
        generalize ms[i] = m at *
        generalize wd l = x1w at *
        generalize aft l = l2 at *
        clear hu hcell HRr hlo1 hblt
        go_wp2_with fail
        refine HTK.out.mono ?_
        rintro e w3 ⟨rfl, hq3, ht3⟩
        have HI3 := hid (HI.out.touch HW.out ht3 hq3 (by have := HI.out.hl; have := HLa2.out; omega))
        have hkk : ∀ k, lo ≤ k → k < wr.heap.size → w3.heap[k]? = wr.heap[k]? := fun k h1 h2 => ht3.block k h2 (by have := HLO.out.1; omega)
        have HM3 := hid (HMr.out.move ht3.size hkk)
        have HG3 : Hid (Gl B w3) := HG.out.touch HI3.out.tt hB
        obtain ⟨f, KB, rfl, hf, hcall⟩ := must_ok HW.out HI3.out (HU.out.move hkk) HG3.out.env x1w (by have := HLw2.out; have := HI.out.hl; omega)
        have HCA := hid hcall
        clear hcall hq3 ht3 hkk HTK HU HI
        have HFf := hid hf
        have HLt : Hid (i + 1 ≤ ms.length) := hlt
        clear hf
        go_wp2_with fail
        rw [enter_mu f HFf.out, Oper.upon_enter]
        refine HCA.out.mono ?_
        rintro e w4 ⟨rfl, c', tn', tk', hc', HI4', ht4⟩
        have HIX := hid HI4'
        have HM4 : Hid (MuL w4 lo S ms (.slice (some ⟨mb, 0, none⟩) ms.length ms.length)) := HM3.out.move ht4.size fun k h1 h2 => ht4.block k h2 (by have := HLO.out.2.1; omega)
        clear HI4' ht4 HCA HM3
        by_cases hbb : muB m x1w = true
        · have HRr3 : Hid (res = finO o (runM (ms.drop (i + 1)) l2 c')) := by show _ = _; rw [HRr2.out, if_pos hbb, hc' hbb]
          rw [hbb]
          clear hc' hbb HRr2
          go_wp2_with fail
          exact ⟨⟨i + 1, c', l2, tn', tk', HLt.out, by go_num, HIX, HM4, HTa2, HRr3⟩, by have := HLt.out; simp [intOf]; omega⟩
        · have HRes : Hid (res = none) := by show _ = _; rw [HRr2.out, if_neg hbb]
          have hbf : muB m x1w = false := by simpa using hbb
          rw [hbf]
          clear hc' hbb HRr2 hbf
          have HTX := hid HIX.out.tt
          have HQX := hid HIX.out.hq
          obtain ⟨rc0, rc1, rc2, rc3, rc4, rc5, rc6, rc7, rc8, rc9, rf0, rf1, rf2, rf3, rf4, rf5, rf6, rf7, rf8, rf9⟩ := sfs HIX.out.hR
          have HRX := hid HIX.out.hR
          clear HIX
          go_wp2_with fail
          refine bodyPost_ret (v := .tuple #[stV (i64 0) (str []) (str []) nilS (i64 0) (i64 0) nilS nilS (i64 0) nilS, .bool false]) (results_cell Tryz.results33 rfl rfl (vload51 (setS_at HRX.out _ _ _ _ _ _ _ _ _ _))) rfl ?_
          rw [HRes.out]
          exact lread_no HRe.out HTX.out HQX.out (by have := HQL.out; have := HRe.out; omega)
      · have he : i = ms.length := by omega
        have HRf : Hid (res = finM o c l) := by show _ = _; rw [HRr.out, he, List.drop_length]; rfl
        clear he HRr HMr
        clear HRs HML HI2
        obtain ⟨ta1, tn1, tc1, ta2, tn2, tc2, rfl, rfl⟩ := HI.out.sl
        have y0 := blk_cell HI.out.hS 0
        have y1 := forms_least (HG.out.touch HI.out.tt hB).env o HO1.out hop9
        have HTK := hid (take_ok l wr (HG.out.touch HI.out.tt hB) (by have := HI.out.hl; omega) HI.out.hq)
        have HLa2 := hid (aft_len l)
        go_wp2_with fail
        refine HTK.out.mono ?_
        rintro e w3 ⟨rfl, hq3, ht3⟩
        have HI3 := hid (HI.out.touch HW.out ht3 hq3 (by have := HI.out.hl; have := HLa2.out; omega))
        have HLl : Hid (l.length ≤ L) := HI.out.hl
        clear hq3 ht3 HTK HI y0 y1 HLa2
        have hlf : ((leastF o : Nat) : Int) = ((leastF o : Nat) : Int) := rfl
        have hlf2 : leastF o ≤ 2 := by unfold leastF; split <;> omega
        obtain ⟨LF, hLF⟩ : ∃ LF, LF = leastF o := ⟨_, rfl⟩
        have HLF := hid hLF
        rw [← hLF] at hlf2 ⊢
        clear hlf hLF
        go_upto_region 12 with fail
        have HLg : Hid (l.length ≤ 3000000) := by show _ ≤ _; have := HLl.out; omega
        have HWc : Hid (wordsF l = [] ++ wordsF l) := by show _ = _; rfl
        have HN0 : Hid (∀ x ∈ ([] : List Bs), nameB x = true) := fun x hx => by cases hx
        have HN1 : Hid (([] : List Bs) = [] ∨ LF ≠ 0) := Or.inl rfl
        clear HLa HTa HLO
        go_loopg [8] (l.length) (fun g v wr2 => ∃ (l' : Bs) (N : List Bs) (nv : Value), v = str (wd l') ∧ l'.length ≤ g ∧ g ≤ 3000000 ∧ Hid (RdI w wr2 q R S L o c (aft l') N nv (.slice ta1 tn1 tc1) (.slice ta2 tn2 tc2)) ∧ Hid (Trm l') ∧ Hid (wordsF l = N ++ wordsF l') ∧ Hid (∀ x ∈ N, nameB x = true) ∧ Hid (N = [] ∨ LF ≠ 0))
        case atStart => exact ⟨l, [], nilS, rfl, Nat.le_refl _, HLg.out, HI3, HTl, HWc, HN0, HN1⟩
        case round =>
          obtain ⟨l', N, nv, rfl, hg1, hg2, HIr, HTr, HWr, HNr, HNz⟩ := hrel
          have HAl := hid (aft_len l')
          have HTa2 := hid (trm_aft l')
          have HXl := hid (wd_len l')
          by_cases hl0 : l' = []
          · subst hl0
            have HWf : Hid (wordsF l = N) := by show _ = _; rw [HWr.out, wordsF_nil, List.append_nil]
            have HRes : Hid (res = if LF ≤ N.length then some (.mk o c.num c.nm c.ds N c.t []) else none) := by
              show _ = _
              rw [HRf.out]
              unfold finM
              rw [HWf.out, namesR_end (by rw [← HLF.out]; exact HNz.out) HNr.out, HLF.out]
              simp
            obtain ⟨an, cn, rfl, _⟩ := own_slice HIr.out.on
            have HId := hid (HIr.out.below HW.out (wr' := wr.drew) ⟨rfl, rfl, rfl, Nat.le_refl _, fun _ _ => rfl⟩)
            have HSX : Hid ((fun W => W.heap[S]? = some (sbO (i64 (o : Int)) (str c.nm) (str c.ds) (.slice an N.length cn) (i64 c.t.kind) (i64 c.t.num) (.slice ta1 tn1 tc1) (.slice ta2 tn2 tc2) (i64 c.num) nilS)) wr.drew) := HId.out.hS
            have HRwr : Hid (wr.heap[R]? = some zS) := HIr.out.hR
            have HST := hid (setS_st HIr.out.hS (fun e => HW.out.ne e.symm) (i64 (o : Int)) (str c.nm) (str c.ds) (.slice an N.length cn) (i64 c.t.kind) (i64 c.t.num) (.slice ta1 tn1 tc1) (.slice ta2 tn2 tc2) (i64 c.num) nilS)
            have HLV := hid (setS_ld HIr.out.hR (i64 (o : Int)) (str c.nm) (str c.ds) (.slice an N.length cn) (i64 c.t.kind) (i64 c.t.num) (.slice ta1 tn1 tc1) (.slice ta2 tn2 tc2) (i64 c.num) nilS)
            have HFN := hid (lread_fin HW.out HIr.out HRes.out).drew
            have hwn : wd ([] : Bs) = [] := rfl
            rw [hwn]
            clear hwn HIr HWr HNr HNz HXl HAl HTa2 HTr
            go_upto_region 17 with fail
            refine wp_region_noPanic ?_
            refine wp_region_last (fun W => W.heap[S]? = some (sbO (i64 (o : Int)) (str c.nm) (str c.ds) (.slice an N.length cn) (i64 c.t.kind) (i64 c.t.num) (.slice ta1 tn1 tc1) (.slice ta2 tn2 tc2) (i64 c.num) nilS)) 7 (by kernel_rfl) ?_
            refine wpL_take 0 55 (stV (i64 (o : Int)) (str c.nm) (str c.ds) (.slice an N.length cn) (i64 c.t.kind) (i64 c.t.num) (.slice ta1 tn1 tc1) (.slice ta2 tn2 tc2) (i64 c.num) nilS) [] rfl rfl (by kernel_rfl) (by decide) (by kernel_rfl) (by kernel_rfl) (by kernel_rfl) (fun _ _ _ h => h) HSX.out (by rfl) (fun W hW => by have d0 := blk_cell hW 0; have d1 := blk_cell hW 1; have d2 := blk_cell hW 2; have d3 := blk_cell hW 3; have d4 := blk_cell hW 4; have d5 := blk_cell hW 5; have d6 := blk_cell hW 6; have d7 := blk_cell hW 7; have d8 := blk_cell hW 8; have d9 := blk_cell hW 9; go_simp) ?_
            simp only [Act.put, List.setIfInBounds_toArray, List.set_cons_zero, List.set_cons_succ]
            refine wpL_take 1 56 (ptS S 3) [] rfl rfl (by kernel_rfl) (by decide) (by kernel_rfl) (by kernel_rfl) (by kernel_rfl) (fun _ _ _ h => h) HSX.out (by rfl) (fun W hW => by go_simp) ?_
            simp only [Act.put, List.setIfInBounds_toArray, List.set_cons_zero, List.set_cons_succ]
            refine wpL_take 2 57 (.slice an N.length cn) [] rfl rfl (by kernel_rfl) (by decide) (by kernel_rfl) (by kernel_rfl) (by kernel_rfl) (fun _ _ _ h => h) HSX.out (by rfl) (fun W hW => by have d0 := blk_cell hW 0; have d1 := blk_cell hW 1; have d2 := blk_cell hW 2; have d3 := blk_cell hW 3; have d4 := blk_cell hW 4; have d5 := blk_cell hW 5; have d6 := blk_cell hW 6; have d7 := blk_cell hW 7; have d8 := blk_cell hW 8; have d9 := blk_cell hW 9; go_simp) ?_
            simp only [Act.put, List.setIfInBounds_toArray, List.set_cons_zero, List.set_cons_succ]
            refine wpL_take 3 58 (i64 (N.length : Int)) [] rfl rfl (by kernel_rfl) (by decide) (by kernel_rfl) (by kernel_rfl) (by kernel_rfl) (fun _ _ _ h => h) HSX.out (by rfl) (fun W hW => by go_simp) ?_
            simp only [Act.put, List.setIfInBounds_toArray, List.set_cons_zero, List.set_cons_succ]
            refine wpL_take 4 59 (i64 (LF : Int)) [] rfl rfl (by kernel_rfl) (by decide) (by kernel_rfl) (by kernel_rfl) (by kernel_rfl) (fun _ _ _ h => h) HSX.out (by rfl) (fun W hW => by go_simp) ?_
            simp only [Act.put, List.setIfInBounds_toArray, List.set_cons_zero, List.set_cons_succ]
            refine wpL_take 5 60 (.bool (decide ((LF : Int) ≤ (N.length : Int)))) [] rfl rfl (by kernel_rfl) (by decide) (by kernel_rfl) (by kernel_rfl) (by kernel_rfl) (fun _ _ _ h => h) HSX.out (by rfl) (fun W hW => by go_simp) ?_
            simp only [Act.put, List.setIfInBounds_toArray, List.set_cons_zero, List.set_cons_succ]
            obtain ⟨rc0, rc1, rc2, rc3, rc4, rc5, rc6, rc7, rc8, rc9, rf0, rf1, rf2, rf3, rf4, rf5, rf6, rf7, rf8, rf9⟩ := sfs HRwr.out
            refine wpL_one 6 rfl (by kernel_rfl) (by rfl) (fun K hK => ?_)
            go_simp
            refine hK.out _ _ (fun _ => HST.out) ?_
            clear hK K
            refine wpL_one 7 rfl (by kernel_rfl) (by rfl) (fun K hK => ?_)
            go_simp
            refine hK.out _ _ (fun h => absurd rfl h) ?_
            clear hK K
            refine wpL_done (by kernel_rfl) ?_
            refine NoPanic.normal ?_
            go_wp2_with fail
            refine bodyPost_ret (results_cell Tryz.results33 rfl rfl HLV.out) rfl HFN.out
          · have hXn : wd l' ≠ [] := wd_ne HTr.out hl0
            have HWs : Hid (wordsF l' = wd l' :: wordsF (aft l')) := wordsF_cons hl0
            have HAlt : Hid ((aft l').length < l'.length) := aft_lt hl0
            have HXm : Hid (wd l' ∈ wordsF l) := by show _ ∈ _; rw [HWr.out, HWs.out]; simp
            have hXe : (wd l').isEmpty = false := by cases h : wd l' <;> simp_all
            have HNl : Hid (N.length + (wordsF l').length ≤ 3000000) := by
              show _ ≤ _
              have h1 := wordsF_len _ l (Nat.le_refl _)
              have h2 := congrArg List.length HWr.out
              rw [List.length_append] at h2
              have := HLg.out
              omega
            generalize wd l' = X at *
            generalize aft l' = l2 at *
            by_cases hz : LF = 0
            · have HRes : Hid (res = none) := by
                show _ = _
                rw [HRf.out]
                unfold finM
                rw [namesR_no (by rw [← HLF.out]; exact hz) (fun e => by have := HXm.out; rw [e] at this; cases this)]
                rfl
              subst hz
              clear hXn
              have HTX := hid HIr.out.tt
              have HQX := hid HIr.out.hq
              obtain ⟨rc0, rc1, rc2, rc3, rc4, rc5, rc6, rc7, rc8, rc9, rf0, rf1, rf2, rf3, rf4, rf5, rf6, rf7, rf8, rf9⟩ := sfs HIr.out.hR
              have HRX := hid HIr.out.hR
              clear HIr
              go_wp2_with fail
              refine bodyPost_ret (v := .tuple #[stV (i64 0) (str []) (str []) nilS (i64 0) (i64 0) nilS nilS (i64 0) nilS, .bool false]) (results_cell Tryz.results33 rfl rfl (vload51 (setS_at HRX.out _ _ _ _ _ _ _ _ _ _))) rfl ?_
              rw [HRes.out]
              exact lread_no HRe.out HTX.out HQX.out (by have := HQL.out; have := HRe.out; omega)
            · have hzb : ((LF : Int) == 0) = false := by
                have : (LF : Int) ≠ 0 := by omega
                simpa using this
              have HLz : Hid (leastF o ≠ 0) := by show _ ≠ _; rw [← HLF.out]; exact hz
              have HXb : Hid (X.length ≤ maxLen) := by show _ ≤ _; unfold maxLen; have := HXl.out; omega
              clear hz hXn
              by_cases hb : nameB X = true
              · obtain ⟨ao, cap, Y, hrun, hS5, hI5⟩ := rd_push HW.out HIr.out X HXb.out (by have := HNl.out; omega)
                obtain ⟨an, cn, rfl, _⟩ := own_slice HIr.out.on
                have HRUN := hid hrun
                have HI5 := hid hI5
                have HNb := hid hb
                have x3 := blk_cell HIr.out.hS 3
                have y3 := blk_cell hS5 3
                have yf := blk_frozen hS5 3
                clear hrun hS5 hI5
                go_wp2_with fail
                refine (name_ok X _ HXb.out).mono ?_
                rintro e w5 ⟨rfl, rfl⟩
                rw [hb]
                go_simp
                go_upto_region 13 with (at_builtin; refine wpList_app_run rfl (.tmp 50) (.tmp 52) 46 rfl _ _ rfl rfl 46 rfl _ _ HRUN.out ?_)
                generalize Y.setCell ⟨S, 3, none⟩ (.slice ao (N.length + 1) cap) = Y2 at *
                clear x3 y3 yf HRUN HIr
                have HTK := hid (take_ok l2 Y2 (HG.out.touch HI5.out.tt hB) (by have := HI5.out.hl; omega) HI5.out.hq)
                have HLa3 := hid (aft_len l2)
                have HWr6 : Hid (wordsF l = (N ++ [X]) ++ wordsF l2) := by show _ = _; rw [HWr.out, HWs.out]; simp
                have HNr6 : Hid (∀ x ∈ N ++ [X], nameB x = true) := fun y hy => by
                  rcases List.mem_append.1 hy with hy | hy
                  · exact HNr.out y hy
                  · rw [List.mem_singleton.1 hy]; exact HNb.out
                have HNz6 : Hid (N ++ [X] = [] ∨ LF ≠ 0) := Or.inr (by rw [HLF.out]; exact HLz.out)
                go_wp2_with fail
                refine HTK.out.mono ?_
                rintro e w6 ⟨rfl, hq6, ht6⟩
                have HI6 := hid (HI5.out.touch HW.out ht6 hq6 (by have := HI5.out.hl; have := HLa3.out; omega))
                clear hq6 ht6 HTK HI5
                go_wp2_with fail
                go_roundg l2.length
                case measure => have := HAlt.out; omega
                case rel => exact ⟨l2, N ++ [X], _, rfl, Nat.le_refl _, by have := HAlt.out; omega, HI6, HTa2, HWr6, HNr6, HNz6⟩
              · have HRes : Hid (res = none) := by
                  show _ = _
                  rw [HRf.out]
                  unfold finM
                  rw [namesR_bad HLz.out HXm.out (by simpa using hb)]
                  rfl
                have hbf : nameB X = false := by simpa using hb
                clear hb
                go_wp2_with fail
                refine (name_ok X _ HXb.out).mono ?_
                rintro e w5 ⟨rfl, rfl⟩
                rw [hbf]
                go_simp
                have HTX := hid HIr.out.tt
                have HQX := hid HIr.out.hq
                obtain ⟨rc0, rc1, rc2, rc3, rc4, rc5, rc6, rc7, rc8, rc9, rf0, rf1, rf2, rf3, rf4, rf5, rf6, rf7, rf8, rf9⟩ := sfs HIr.out.hR
                have HRX := hid HIr.out.hR
                clear HIr
                go_wp2_with fail
                refine bodyPost_ret (v := .tuple #[stV (i64 0) (str []) (str []) nilS (i64 0) (i64 0) nilS nilS (i64 0) nilS, .bool false]) (results_cell Tryz.results33 rfl rfl (vload51 (setS_at HRX.out _ _ _ _ _ _ _ _ _ _))) rfl ?_
                rw [HRes.out]
                exact lread_no HRe.out HTX.out HQX.out (by have := HQL.out; have := HRe.out; omega)
end Go.Proofs.YtjppcfjjpkniaaaGreatDoor
namespace Go.Proofs.YtjppcfjjpkniaaaGreatDoor
open Go.ChangeShapes Go.WideShapes Go.ChangeAt Go.RowKit Go.Deep
attribute [local go_sem ↓] Go.wp_at_zero Go.wp_at_succ
set_option maxRecDepth 100000

structure SV where
  nv : Value
  tn : Value
  tk : Value
  bv : Value
abbrev sc (s : Sm) (v : SV) : List Value := [i64 s.op, str s.nm, str s.dst, v.nv, i64 s.ty.kind, i64 s.ty.num, v.tn, v.tk, i64 s.num, v.bv]
/-- A statement that reads as s, in blocks of S. -/
inductive Sd (w : World) (S : Nat → Prop) : Sm → SV → Prop where
  | mk {op n : Int} {nm dst : Bs} {names : List Bs} {t : Ty} {body : List Sm} {nv tn tk : Value} {ao : Option Addr} {cap : Nat} (b off : Nat) (vs : Nat → SV) (hn : Strs w S nv names) (ht : Rd w S t tn tk) (hl : body.length ≤ maxLen)
      (ha : body = [] ∨ (ao = some ⟨b, off, none⟩ ∧ S b ∧ b < w.heap.size))
      (hc : ∀ i s, body[i]? = some s → w.rangeAt b (off + i * 10) (sc s (vs i)))
      (hr : ∀ i s, body[i]? = some s → Sd w S s (vs i)) : Sd w S (.mk op n nm dst names t body) ⟨nv, tn, tk, .slice ao body.length cap⟩
/-- A row of statements that reads as l. -/
def Sds (w : World) (S : Nat → Prop) (l : List Sm) (bv : Value) : Prop :=
  ∃ ao cap, bv = .slice ao l.length cap ∧ l.length ≤ maxLen ∧ (l = [] ∨ ∃ b off, ao = some ⟨b, off, none⟩ ∧ S b ∧ b < w.heap.size ∧ ∀ i s, l[i]? = some s → ∃ v, w.rangeAt b (off + i * 10) (sc s v) ∧ Sd w S s v)
theorem Sd.move {w w' : World} {S S' : Nat → Prop} {s : Sm} {v : SV} (h : Sd w S s v) (hz : w.heap.size ≤ w'.heap.size) (hk : ∀ b, S b → b < w.heap.size → S' b ∧ w'.heap[b]? = w.heap[b]?) : Sd w' S' s v := by
  induction h with
  | mk b off vs hn ht hl ha hc _ ih =>
    refine .mk b off vs (hn.move hz hk) (ht.move hz hk) hl ?_ ?_ ih
    · rcases ha with ha | ⟨h1, h2, h3⟩
      · exact Or.inl ha
      · exact Or.inr ⟨h1, (hk b h2 h3).1, by omega⟩
    · intro i T hT
      rcases ha with ha | ⟨h1, h2, h3⟩
      · subst ha; simp at hT
      · exact range_keep (hc i T hT) (hk b h2 h3).2
theorem Sds.move {w w' : World} {S S' : Nat → Prop} {l : List Sm} {bv : Value} (h : Sds w S l bv) (hz : w.heap.size ≤ w'.heap.size) (hk : ∀ b, S b → b < w.heap.size → S' b ∧ w'.heap[b]? = w.heap[b]?) : Sds w' S' l bv := by
  obtain ⟨ao, cap, rfl, hl, h⟩ := h
  refine ⟨ao, cap, rfl, hl, ?_⟩
  rcases h with h | ⟨b, off, rfl, hb, hlt, h⟩
  · exact Or.inl h
  · refine Or.inr ⟨b, off, rfl, (hk b hb hlt).1, by omega, fun i s hs => ?_⟩
    obtain ⟨v, h1, h2⟩ := h i s hs
    exact ⟨v, range_keep h1 (hk b hb hlt).2, h2.move hz hk⟩
theorem Sd.parts {w : World} {S : Nat → Prop} {s : Sm} {v : SV} (h : Sd w S s v) : Strs w S v.nv s.names ∧ Rd w S s.ty v.tn v.tk ∧ Sds w S s.body v.bv := by
  cases h with
  | mk b off vs hn ht hl ha hc hr =>
    refine ⟨hn, ht, _, _, rfl, hl, ?_⟩
    rcases ha with ha | ⟨h1, h2, h3⟩
    · exact Or.inl ha
    · exact Or.inr ⟨b, off, h1, h2, h3, fun i s hs => ⟨vs i, hc i s hs, hr i s hs⟩⟩
theorem Sd.of {w : World} {S : Nat → Prop} {op n : Int} {nm dst : Bs} {names : List Bs} {t : Ty} {body : List Sm} {nv tn tk bv : Value} (hn : Strs w S nv names) (ht : Rd w S t tn tk) (hb : Sds w S body bv) : Sd w S (.mk op n nm dst names t body) ⟨nv, tn, tk, bv⟩ := by
  obtain ⟨ao, cap, rfl, hl, h⟩ := hb
  rcases h with rfl | ⟨b, off, rfl, h1, h2, h3⟩
  · exact .mk (body := []) 0 0 (fun _ => ⟨undef, undef, undef, undef⟩) hn ht hl (Or.inl rfl) (fun i s hs => by simp at hs) (fun i s hs => by simp at hs)
  · have : ∀ i, ∃ v : SV, ∀ s, body[i]? = some s → w.rangeAt b (off + i * 10) (sc s v) ∧ Sd w S s v := fun i => by
      cases hi : body[i]? with
      | none => exact ⟨⟨undef, undef, undef, undef⟩, fun s hs => by cases hs⟩
      | some s =>
        obtain ⟨v, hv⟩ := h3 i s hi
        exact ⟨v, fun s' hs => by cases hs; exact hv⟩
    obtain ⟨vs, hvs⟩ := Classical.axiomOfChoice this
    exact .mk b off vs hn ht hl (Or.inr ⟨rfl, h1, h2⟩) (fun i s hs => (hvs i s hs).1) (fun i s hs => (hvs i s hs).2)
theorem Sds.nil (w : World) (S : Nat → Prop) : Sds w S [] nilS := ⟨none, 0, rfl, Nat.zero_le _, Or.inl rfl⟩
theorem Sds.under {w w' : World} {S : Nat → Prop} {l : List Sm} {bv : Value} (h : Sds w S l bv) (hb : Below w.heap.size w w') : Sds w' S l bv := h.move hb.size fun b hS hlt => ⟨hS, hb.block b hlt⟩
theorem Sd.under {w w' : World} {S : Nat → Prop} {s : Sm} {v : SV} (h : Sd w S s v) (hb : Below w.heap.size w w') : Sd w' S s v := h.move hb.size fun b hS hlt => ⟨hS, hb.block b hlt⟩
theorem Sds.mono {w : World} {S S' : Nat → Prop} {l : List Sm} {bv : Value} (h : Sds w S l bv) (hs : ∀ b, S b → b < w.heap.size → S' b) : Sds w S' l bv := h.move (Nat.le_refl _) fun b hS hlt => ⟨hs b hS hlt, rfl⟩
theorem Sd.mono {w : World} {S S' : Nat → Prop} {s : Sm} {v : SV} (h : Sd w S s v) (hs : ∀ b, S b → b < w.heap.size → S' b) : Sd w S' s v := h.move (Nat.le_refl _) fun b hS hlt => ⟨hs b hS hlt, rfl⟩
theorem Strs.form {w : World} {S : Nat → Prop} {v : Value} {l : List Bs} (h : Strs w S v l) : ∃ a c, v = .slice a l.length c := by obtain ⟨a, c, h, _⟩ := h; exact ⟨a, c, h⟩
theorem Rd.form2 {w : World} {S : Nat → Prop} {T : Ty} {nv kv : Value} (h : Rd w S T nv kv) : (∃ a n c, nv = .slice a n c) ∧ ∃ a n c, kv = .slice a n c := by
  cases h with
  | mk b off nvs kvs hn hl ha hc hr =>
    obtain ⟨a, c, h⟩ := hn.form
    exact ⟨⟨a, _, c, h⟩, _, _, _, rfl⟩
theorem Sds.form {w : World} {S : Nat → Prop} {l : List Sm} {v : Value} (h : Sds w S l v) : ∃ a c, v = .slice a l.length c := by obtain ⟨a, c, h, _⟩ := h; exact ⟨a, c, h⟩
theorem Sd.form {w : World} {S : Nat → Prop} {s : Sm} {v : SV} (h : Sd w S s v) : ∃ a1 c1 a2 n2 c2 a3 n3 c3 a4 c4, v = ⟨.slice a1 s.names.length c1, .slice a2 n2 c2, .slice a3 n3 c3, .slice a4 s.body.length c4⟩ := by
  obtain ⟨h1, h2, h3⟩ := h.parts
  obtain ⟨a1, c1, e1⟩ := h1.form
  obtain ⟨⟨a2, n2, c2, e2⟩, a3, n3, c3, e3⟩ := h2.form2
  obtain ⟨a4, c4, e4⟩ := h3.form
  refine ⟨a1, c1, a2, n2, c2, a3, n3, c3, a4, c4, ?_⟩
  cases v
  simp only at e1 e2 e3 e4
  rw [e1, e2, e3, e4]
/-- What is at a statement's place. -/
theorem Sds.at {w : World} {S : Nat → Prop} {l : List Sm} {bv : Value} (h : Sds w S l bv) : ∃ ao cap, bv = .slice ao l.length cap ∧ l.length ≤ maxLen ∧ ∀ k (hk : k < l.length), ∃ b off v, ao = some ⟨b, off, none⟩ ∧ S b ∧ b < w.heap.size ∧ w.rangeAt b (off + k * 10) (sc l[k] v) ∧ Sd w S l[k] v := by
  obtain ⟨ao, cap, rfl, hl, h⟩ := h
  refine ⟨ao, cap, rfl, hl, fun k hk => ?_⟩
  rcases h with rfl | ⟨b, off, rfl, h1, h2, h3⟩
  · simp at hk
  · obtain ⟨v, h4, h5⟩ := h3 k _ (List.getElem?_eq_getElem hk)
    exact ⟨b, off, v, rfl, h1, h2, h4, h5⟩

/-! ### Rows that grow -/
abbrev Kst : Type := Sm × SV
def kss (Ks : List Kst) : List Value := Ks.flatMap fun x => sc x.1 x.2
theorem kss_app (a b : List Kst) : kss (a ++ b) = kss a ++ kss b := by simp [kss]
theorem kss_len : ∀ a : List Kst, (kss a).length = a.length * 10
  | [] => rfl
  | x :: r => by
    have := kss_len r
    simp only [kss, List.flatMap_cons, List.length_append, List.length_cons, List.length_nil] at this ⊢
    omega
theorem kss_get : ∀ (Ks : List Kst) (i j : Nat) (x : Kst), Ks[i]? = some x → j < 10 → (kss Ks)[i * 10 + j]? = (sc x.1 x.2)[j]?
  | [], i, _, _, h, _ => by simp at h
  | y :: r, 0, j, x, h, hj => by
    simp at h
    subst h
    simp only [kss, List.flatMap_cons, Nat.zero_mul, Nat.zero_add]
    rw [List.getElem?_append_left (by simpa using hj)]
  | y :: r, i + 1, j, x, h, hj => by
    have ih := kss_get r i j x (by simpa using h) hj
    simp only [kss, List.flatMap_cons] at ih ⊢
    rw [List.getElem?_append_right (by simp; omega)]
    rw [← ih]
    congr 1
    simp
    omega
/-- A row of statements that grows: own, and what hangs below it stands elsewhere. -/
structure StmR (V : World) (lo : Nat) (Av : Nat → Prop) (bv : Value) (Ks : List Kst) : Prop where
  own : V.ownsRow lo 51 10 bv Ks.length (kss Ks)
  sub : ∀ x ∈ Ks, Sd V (fun b => Av b ∧ some b ≠ bv.ownBlock) x.1 x.2
theorem StmR.nil (V : World) (lo : Nat) (Av : Nat → Prop) : StmR V lo Av nilS [] := ⟨⟨rfl, Or.inl ⟨rfl, rfl⟩⟩, fun x hx => by cases hx⟩
theorem StmR.move {V V' : World} {lo : Nat} {Av Av' : Nat → Prop} {bv : Value} {Ks : List Kst} (h : StmR V lo Av bv Ks) (hz : V.heap.size ≤ V'.heap.size) (ho : ∀ k, bv.ownBlock = some k → V'.heap[k]? = V.heap[k]?) (hk : ∀ b, Av b → b < V.heap.size → some b ≠ bv.ownBlock → Av' b ∧ V'.heap[b]? = V.heap[b]?) : StmR V' lo Av' bv Ks :=
  ⟨own_keep1 h.own ho, fun x hx => (h.sub x hx).move hz fun b hb hlt => ⟨⟨(hk b hb.1 hlt hb.2).1, hb.2⟩, (hk b hb.1 hlt hb.2).2⟩⟩
/-- The row as it is read. -/
theorem StmR.sds {V : World} {lo : Nat} {Av S : Nat → Prop} {bv : Value} {Ks : List Kst} (h : StmR V lo Av bv Ks) (hS : ∀ b, Av b → b < V.heap.size → S b) (ho : ∀ b, bv.ownBlock = some b → S b) : Sds V S (Ks.map (·.1)) bv := by
  have hl : (Ks.map (·.1)).length = Ks.length := by simp
  rcases h.own.2 with ⟨hv, h0⟩ | ⟨g, cap, cur, hv, hb, hg, hc1, hc2, _, _⟩
  · subst hv
    have : Ks = [] := List.eq_nil_of_length_eq_zero h0
    subst this
    exact Sds.nil _ _
  · subst hv
    refine ⟨_, cap, by rw [hl], by rw [hl]; omega, Or.inr ⟨g, 0, rfl, ho g rfl, blk_lt hg, fun i s hs => ?_⟩⟩
    rw [List.getElem?_map] at hs
    obtain ⟨x, h2, rfl⟩ := Option.map_eq_some_iff.1 hs
    have hi := (List.getElem?_eq_some_iff.1 h2).1
    refine ⟨x.2, fun j v hv => ?_, (h.sub x (List.mem_of_getElem? h2)).mono fun b hb hlt => hS b hb.1 hlt⟩
    have hj : j < 10 := by have := (List.getElem?_eq_some_iff.1 hv).1; simpa using this
    rw [Nat.zero_add, h.own.cellAt (i * 10 + j) (by omega), kss_get Ks i j x h2 hj]
    exact hv
theorem under51s : Tryz.prog.underlying 23 = some (.slice 51) := Tryz.underlying23
theorem info51 : (Tryz.prog.info? 51).map (fun i => (i.zero, i.size, i.bytes)) = some (some (.agg #[i64 0, str [], str [], nilS, i64 0, i64 0, nilS, nilS, i64 0, nilS]), 10, 160) := by kernel_rfl
/-- A statement more. -/
theorem push_stm {V : World} {lo : Nat} {Av : Nat → Prop} {bv : Value} {Ks : List Kst} (h : StmR V lo Av bv Ks) (s : Sm) (v : SV) (hR : Sd V (fun b => Av b ∧ some b ≠ bv.ownBlock) s v) (hl : Ks.length ≤ 3000000) (hlo : lo ≤ V.heap.size) :
    ∃ ao cap w', (Builtin.append_ #[23, 23] 23 #[bv, .slice (some ⟨V.heap.size, 0, none⟩) 1 1]).run Tryz.prog (V.alloc (.cells (sc s v).toArray 51)) = .ok (.slice ao (Ks.length + 1) cap) w' ∧ StmR w' lo Av (.slice ao (Ks.length + 1) cap) (Ks ++ [(s, v)]) ∧ Fr lo [51] V w' ∧ (∀ k, k < V.heap.size → some k ≠ bv.ownBlock → w'.heap[k]? = V.heap[k]?) ∧ ((Value.slice ao (Ks.length + 1) cap).ownBlock = bv.ownBlock ∨ (Value.slice ao (Ks.length + 1) cap).ownBlock = some (V.heap.size + 1)) := by
  obtain ⟨a1, c1, a2, n2, c2, a3, n3, c3, a4, c4, rfl⟩ := hR.form
  obtain ⟨ao, cap, w', h1, h2, h3, h4, h5⟩ := app_far (te := 51) under51s info51 rfl (by omega) (by omega) h.own (sc s ⟨.slice a1 s.names.length c1, .slice a2 n2 c2, .slice a3 n3 c3, .slice a4 s.body.length c4⟩) rfl (fun u hu => by
    simp only [List.mem_cons, List.not_mem_nil, or_false] at hu
    rcases hu with rfl | rfl | rfl | rfl | rfl | rfl | rfl | rfl | rfl | rfl <;> rfl) hl hlo
  have hmv : ∀ x : Kst, Sd V (fun b => Av b ∧ some b ≠ bv.ownBlock) x.1 x.2 → Sd w' (fun b => Av b ∧ some b ≠ (Value.slice ao (Ks.length + 1) cap).ownBlock) x.1 x.2 := fun x hx => hx.move h3.size fun b hb hlt => ⟨⟨hb.1, by
    rcases h5 with h5 | h5
    · rw [h5]; exact hb.2
    · rw [h5]; intro e; cases e; omega⟩, h4 b hlt hb.2⟩
  refine ⟨ao, cap, w', h1, ⟨?_, ?_⟩, h3, h4, h5⟩
  · rw [List.length_append, kss_app]
    exact h2
  · intro x hx
    rcases List.mem_append.1 hx with hx | hx
    · exact hmv x (h.sub x hx)
    · rw [List.mem_singleton.1 hx]; exact hmv (s, _) hR
end Go.Proofs.YtjppcfjjpkniaaaGreatDoor
namespace Go.Proofs.YtjppcfjjpkniaaaGreatDoor
open Go.ChangeShapes Go.WideShapes Go.ChangeAt Go.RowKit Go.Deep
attribute [local go_sem ↓] Go.wp_at_zero Go.wp_at_succ
set_option maxRecDepth 100000

def nxt : List Bs → Nat → Option (Bs × List Bs) × Nat
  | [], n => (none, n)
  | x :: rs, n => if x = [] then nxt rs (n + 1) else (some (x, rs), n + 1)
theorem nxt_cons (x : Bs) (rs : List Bs) (n : Nat) : nxt (x :: rs) n = if x = [] then nxt rs (n + 1) else (some (x, rs), n + 1) := rfl
theorem linesM_step (l : Bs) : linesM l true = lineT (l.takeWhile (fun b => b != 10)) :: linesM (l.dropWhile (fun b => b != 10)).tail (decide (10 ∈ l)) := by
  unfold linesM
  rw [if_pos rfl, lns_cut]
  by_cases h : (10 : UInt8) ∈ l
  · rw [if_pos h]
    simp [h]
  · rw [if_neg h]
    simp [h, tw_all 10 l h]
theorem linesM_no (l : Bs) : linesM l false = [] := rfl
theorem lineT_len (l : Bs) : (lineT l).length ≤ l.length := by
  unfold lineT semi
  have h1 := trimL_len (l.takeWhile (fun b => b != 59))
  have h2 := (List.takeWhile_sublist (fun b => b != 59) (l := l)).length_le
  omega
abbrev rdO (left : Bs) (more : Bool) (line cnt : Int) : Obj := .cells #[str left, .bool more, i64 line, i64 cnt] 53
theorem rdO0 {w : World} {q : Nat} {a b c d : Value} (h : w.heap[q]? = some (.cells #[a, b, c, d] 53)) (x : Value) : (w.setCell ⟨q, 0, none⟩ x).heap[q]? = some (.cells #[x, b, c, d] 53) := by
  have := heap_setCell_same w q 0 _ 53 x h
  simpa using this
theorem rdO1 {w : World} {q : Nat} {a b c d : Value} (h : w.heap[q]? = some (.cells #[a, b, c, d] 53)) (x : Value) : (w.setCell ⟨q, 1, none⟩ x).heap[q]? = some (.cells #[a, x, c, d] 53) := by
  have := heap_setCell_same w q 1 _ 53 x h
  simpa using this
theorem rdO2 {w : World} {q : Nat} {a b c d : Value} (h : w.heap[q]? = some (.cells #[a, b, c, d] 53)) (x : Value) : (w.setCell ⟨q, 2, none⟩ x).heap[q]? = some (.cells #[a, b, x, d] 53) := by
  have := heap_setCell_same w q 2 _ 53 x h
  simpa using this
theorem rdO3 {w : World} {q : Nat} {a b c d : Value} (h : w.heap[q]? = some (.cells #[a, b, c, d] 53)) (x : Value) : (w.setCell ⟨q, 3, none⟩ x).heap[q]? = some (.cells #[a, b, c, x] 53) := by
  have := heap_setCell_same w q 3 _ 53 x h
  simpa using this
/-- What next answers, and leaves. -/
def NxOk (w : World) (q : Nat) (cnt : Int) (L : Nat) (res : Option (Bs × List Bs) × Nat) (e : Ending) (w' : World) : Prop :=
  (∃ left more, left.length ≤ L ∧ w'.heap[q]? = some (rdO left more (res.2 : Nat) cnt) ∧ (match res.1 with
    | none => linesM left more = [] ∧ e = .returned (.tuple #[.agg #[str []], .bool false])
    | some (x, rs) => linesM left more = rs ∧ x ≠ [] ∧ x.length ≤ L ∧ e = .returned (.tuple #[.agg #[str x], .bool true]))) ∧ Touch q w w'
theorem tw_len2 (p : UInt8 → Bool) (l : Bs) : (l.takeWhile p).length ≤ l.length ∧ (l.dropWhile p).tail.length ≤ l.length := tw_le p l
set_option maxHeartbeats 6400000 in
theorem next_ok {B q : Nat} (left : Bs) (more : Bool) (line : Nat) (cnt : Int) (w : World) (hg : Gl B w) (hB : B ≤ q) (hq : w.heap[q]? = some (rdO left more (line : Nat) cnt)) (hl : left.length ≤ 3000000) (hn : line + (linesM left more).length ≤ 30000000) :
    Calls Tryz.prog 31 #[pq q] w (NxOk w q cnt left.length (nxt (linesM left more) line)) := by
  obtain ⟨res, hres⟩ : ∃ res, res = nxt (linesM left more) line := ⟨_, rfl⟩
  have HRes := hid hres
  rw [← hres]
  clear hres
  have HL : Hid (left.length ≤ left.length) := Nat.le_refl _
  have hL5 := hl
  obtain ⟨L, hL⟩ : ∃ L, L = left.length := ⟨_, rfl⟩
  rw [← hL] at hL5 ⊢
  have HLe : Hid (left.length ≤ L) := by show _ ≤ _; omega
  have HN := hid hn
  have HG := hid hg
  have HQ0 : Hid ((w.alloc (wdO [])).heap[q]? = some (rdO left more (line : Nat) cnt)) := blk_alloc hq _
  have HR0 : Hid ((w.alloc (wdO [])).heap[w.heap.size]? = some (wdO [])) := heap_last w _
  have HT0 : Hid (Touch q w (w.alloc (wdO []))) := (Touch.refl q w).alloc _
  have HQL := hid (blk_lt hq)
  clear hg hq hl hn hL HL
  go_enter Tryz.func31, Tryz.ntmps31
  go_upto_region 1 with fail
  obtain ⟨R, hR⟩ : ∃ R, R = w.heap.size := ⟨_, rfl⟩
  have HRe : Hid (w.heap.size ≤ R) := by show _ ≤ _; omega
  rw [← hR] at HR0 ⊢
  clear hR
  generalize w.alloc (wdO []) = V at *
  go_loopg [3] ((linesM left more).length) (fun g v wr => ∃ (lf : Bs) (mo : Bool) (n : Nat), v = .bool false ∧ (linesM lf mo).length ≤ g ∧ lf.length ≤ L ∧ n + g ≤ 30000000 ∧ Hid (wr.heap[q]? = some (rdO lf mo (n : Nat) cnt)) ∧ Hid (wr.heap[R]? = some (wdO [])) ∧ Hid (res = nxt (linesM lf mo) n) ∧ Hid (Touch q w wr))
  case atStart => exact ⟨left, more, line, rfl, Nat.le_refl _, HLe.out, HN.out, HQ0, HR0, HRes, HT0⟩
  case round =>
    obtain ⟨lf, mo, n, rfl, hg1, hg2, hg3, HQ, HR, HRs, HT⟩ := hrel
    have q1 := blk_cell HQ.out 1
    have hn0 : (0 : Int) ≤ (n : Int) := by omega
    have hn1 : (n : Int) ≤ 30000000 := by omega
    cases mo with
    | false =>
      have HE : Hid (res = (none, n)) := HRs.out
      have HTX := hid ((HT.out.setNew (p := ⟨R, 0, none⟩) HRe.out (str [])))
      have HQX : Hid ((wr.setCell ⟨R, 0, none⟩ (str [])).heap[q]? = some (rdO lf false (n : Nat) cnt)) := by
        show _ = _
        rw [Below.heap_setCell _ _ _ _ (by have := HQL.out; have := HRe.out; show q ≠ R; omega)]; exact HQ.out
      have HRX : Hid ((wr.setCell ⟨R, 0, none⟩ (str [])).heap[R]? = some (wdO [])) := by
        have := heap_setCell_same wr R 0 _ 83 (str []) HR.out
        simpa using hid this
      have r0 := blk_cell HR.out 0
      have rf := blk_frozen HR.out 0
      clear HRs
      go_wp2_with fail
      refine bodyPost_ret (results_cell Tryz.results31 rfl rfl (vload83 HRX.out)) rfl ?_
      rw [HE.out]
      exact ⟨⟨lf, false, hg2, HQX.out, rfl, rfl⟩, HTX.out⟩
    | true =>
      have HRs2 : Hid (res = nxt (lineT (lf.takeWhile (fun b => b != 10)) :: linesM (lf.dropWhile (fun b => b != 10)).tail (decide (10 ∈ lf))) n) := by show _ = _; rw [← linesM_step]; exact HRs.out
      have HLN : Hid ((linesM (lf.dropWhile (fun b => b != 10)).tail (decide (10 ∈ lf))).length + 1 ≤ (linesM lf true).length) := by show _ ≤ _; rw [linesM_step]; exact Nat.le_refl _
      have HG1 : Hid (Gl B wr) := HG.out.touch HT.out hB
      have HC := hid (lcut_ok 10 lf wr (by omega) HG1.out.env)
      have HTL := hid (tw_len2 (fun b => b != 10) lf)
      generalize lf.takeWhile (fun b => b != 10) = l1 at *
      generalize (lf.dropWhile (fun b => b != 10)).tail = l2 at *
      generalize decide (10 ∈ lf) = m2 at *
      have q0 := blk_cell HQ.out 0
      clear HRs
      go_wp2_with fail
      refine HC.out.mono ?_
      rintro e w1 ⟨rfl, hb⟩
      have HQ1 := hid (blk_below HQ.out hb)
      have HR1 := hid (blk_below HR.out hb)
      have HT1 : Hid (Touch q w w1) := HT.out.trans (Touch.of_below hb)
      have HG2 : Hid (Gl B w1) := HG1.out.under hb
      have y0 := blk_cell HQ1.out 0
      have y1 := blk_cell HQ1.out 1
      have z0 := blk_frozen HQ1.out 0
      have z1 := blk_frozen HQ1.out 1
      have HQ2 := hid (rdO1 (rdO0 HQ1.out (str l2)) (.bool m2))
      have HT2 : Hid (Touch q w1 ((w1.setCell ⟨q, 0, none⟩ (str l2)).setCell ⟨q, 1, none⟩ (.bool m2))) := ((Touch.refl q w1).setCell (p := ⟨q, 0, none⟩) rfl _).setCell (p := ⟨q, 1, none⟩) rfl _
      clear hb HC q0 q1 HQ HR HT HG1
      go_upto_region 4 with fail
      have HRq : Hid (R ≠ q) := by show _ ≠ _; have := HQL.out; have := HRe.out; omega
      have HR2 : Hid (((w1.setCell ⟨q, 0, none⟩ (str l2)).setCell ⟨q, 1, none⟩ (.bool m2)).heap[R]? = some (wdO [])) := by show _ = _; rw [HT2.out.block R (blk_lt HR1.out) HRq.out]; exact HR1.out
      have HT3 : Hid (Touch q w ((w1.setCell ⟨q, 0, none⟩ (str l2)).setCell ⟨q, 1, none⟩ (.bool m2))) := HT1.out.trans HT2.out
      have HG3 : Hid (Gl B ((w1.setCell ⟨q, 0, none⟩ (str l2)).setCell ⟨q, 1, none⟩ (.bool m2))) := HG2.out.touch HT2.out hB
      clear y0 y1 z0 z1 HT2 HT1 HG2 HQ1 HR1
      generalize (w1.setCell ⟨q, 0, none⟩ (str l2)).setCell ⟨q, 1, none⟩ (.bool m2) = V2 at *
      have y2 := blk_cell HQ2.out 2
      have z2 := blk_frozen HQ2.out 2
      have HQ4 := hid (rdO2 HQ2.out (i64 ((n + 1 : Nat) : Int)))
      have HT4 : Hid (Touch q V2 (V2.setCell ⟨q, 2, none⟩ (i64 ((n + 1 : Nat) : Int)))) := (Touch.refl q V2).setCell (p := ⟨q, 2, none⟩) rfl _
      have HR4 : Hid ((V2.setCell ⟨q, 2, none⟩ (i64 ((n + 1 : Nat) : Int))).heap[R]? = some (wdO [])) := by show _ = _; rw [HT4.out.block R (blk_lt HR2.out) HRq.out]; exact HR2.out
      have HT5 : Hid (Touch q w (V2.setCell ⟨q, 2, none⟩ (i64 ((n + 1 : Nat) : Int)))) := HT3.out.trans HT4.out
      have HG5 : Hid (Gl B (V2.setCell ⟨q, 2, none⟩ (i64 ((n + 1 : Nat) : Int)))) := HG3.out.touch HT4.out hB
      have he1 : ((n + 1 : Nat) : Int) = (n : Int) + 1 := by omega
      rw [he1] at HQ4 HT4 HR4 HT5 HG5
      clear HT4 HT3 HG3 HR2 HQ2
      go_upto_region 5 with fail
      clear y2 z2
      generalize V2.setCell ⟨q, 2, none⟩ (i64 ((n : Int) + 1)) = V3 at *
      have HS := hid (split_ok l1 V3 HG5.out.env (by have := HTL.out.1; omega))
      have HXl := hid (lineT_len l1)
      generalize lineT l1 = x at *
      go_wp2_with fail
      refine HS.out.mono ?_
      rintro e w4 ⟨rfl, hb⟩
      have HQ6 := hid (blk_below HQ4.out (hb.trans ((below_one w4 (wdO x)).mono hb.size)))
      have HR6 := hid (blk_below HR4.out (hb.trans ((below_one w4 (wdO x)).mono hb.size)))
      have HT6 : Hid (Touch q w (w4.alloc (wdO x))) := HT5.out.trans (Touch.of_below (hb.trans ((below_one w4 (wdO x)).mono hb.size)))
      have HY6 : Hid ((w4.alloc (wdO x)).heap[w4.heap.size]? = some (wdO x)) := heap_last w4 _
      clear hb HS HQ4 HR4 HT5 HG5
      go_upto_region 6 with fail
      obtain ⟨Y, hY⟩ : ∃ Y, Y = w4.heap.size := ⟨_, rfl⟩
      rw [← hY] at HY6 ⊢
      clear hY
      generalize w4.alloc (wdO x) = V4 at *
      have c0 := blk_cell HY6.out 0
      by_cases hx : x = []
      · subst hx
        have HRs3 : Hid (res = nxt (linesM l2 m2) (n + 1)) := by show _ = _; rw [HRs2.out, nxt_cons, if_pos rfl]
        clear HRs2
        go_wp2_with fail
        go_roundg ((linesM l2 m2).length)
        case measure => have := HLN.out; omega
        case rel => exact ⟨l2, m2, n + 1, rfl, Nat.le_refl _, by have := HTL.out.2; omega, by have := HLN.out; omega, HQ6, HR6, HRs3, HT6⟩
      · have HE : Hid (res = (some (x, linesM l2 m2), n + 1)) := by show _ = _; rw [HRs2.out, nxt_cons, if_neg hx]
        have hxe : x.isEmpty = false := by cases x with | nil => exact absurd rfl hx | cons => rfl
        have HXn := hid hx
        have HTX := hid ((HT6.out.setNew (p := ⟨R, 0, none⟩) HRe.out (str x)))
        have HQX : Hid ((V4.setCell ⟨R, 0, none⟩ (str x)).heap[q]? = some (rdO l2 m2 ((n : Int) + 1) cnt)) := by
          show _ = _
          rw [Below.heap_setCell _ _ _ _ (by show q ≠ R; exact fun e => HRq.out e.symm)]; exact HQ6.out
        have HRX : Hid ((V4.setCell ⟨R, 0, none⟩ (str x)).heap[R]? = some (wdO x)) := by
          have := heap_setCell_same V4 R 0 _ 83 (str x) HR6.out
          simpa using hid this
        have r0 := blk_cell HR6.out 0
        have rf := blk_frozen HR6.out 0
        clear hx
        go_wp2_with fail
        refine bodyPost_ret (results_cell Tryz.results31 rfl rfl (vload83 HRX.out)) rfl ?_
        rw [HE.out]
        exact ⟨⟨l2, m2, by have := HTL.out.2; omega, HQX.out, rfl, HXn.out, by have := HXl.out; have := HTL.out.1; omega, rfl⟩, HTX.out⟩
def xO : Option (Bs × List Bs) → Bs
  | none => []
  | some (x, _) => x
def rsO : Option (Bs × List Bs) → List Bs
  | none => []
  | some (_, rs) => rs
theorem next_ok2 {B q : Nat} (left : Bs) (more : Bool) (line cnt : Nat) (w : World) (hg : Gl B w) (hB : B ≤ q) (hq : w.heap[q]? = some (rdO left more (line : Nat) (cnt : Nat))) (hl : left.length ≤ 3000000) (hn : line + (linesM left more).length ≤ 30000000) {nx : Option (Bs × List Bs)} {n : Nat} (hx : nxt (linesM left more) line = (nx, n)) :
    Calls Tryz.prog 31 #[pq q] w fun e w' => e = .returned (.tuple #[.agg #[str (xO nx)], .bool nx.isSome]) ∧ (∃ lf mo, lf.length ≤ left.length ∧ w'.heap[q]? = some (rdO lf mo (n : Nat) (cnt : Nat)) ∧ linesM lf mo = rsO nx) ∧ (xO nx).length ≤ left.length ∧ Touch q w w' := by
  refine (next_ok left more line (cnt : Int) w hg hB hq hl hn).mono ?_
  rw [hx]
  cases nx with
  | none =>
    rintro e w' ⟨⟨lf, mo, h1, h2, h3, rfl⟩, ht⟩
    exact ⟨rfl, ⟨lf, mo, h1, h2, h3⟩, by simp [xO], ht⟩
  | some z =>
    obtain ⟨x, rs⟩ := z
    rintro e w' ⟨⟨lf, mo, h1, h2, h3, h4, h5, rfl⟩, ht⟩
    exact ⟨rfl, ⟨lf, mo, h1, h2, h3⟩, h5, ht⟩
end Go.Proofs.YtjppcfjjpkniaaaGreatDoor
namespace Go.Proofs.YtjppcfjjpkniaaaGreatDoor
open Go.ChangeShapes Go.WideShapes Go.ChangeAt Go.RowKit Go.Deep
set_option maxRecDepth 100000

def blkR (rows : List Bs) (i line cnt : Nat) : Rs := blk (rows.length + 1) rows i line cnt
def stepS (rd : Option Sm) (rs : List Bs) (i n cnt : Nat) : Rs := match rd with
  | none => .bad n
  | some s => if 60 < cnt + 1 then .bad n
    else if s.op = 5 then
      if i = 4 then .bad n
      else match blkR rs (i + 1) n (cnt + 1) with
        | .bad k => .bad k
        | .ok B rs' n' cnt' => (blkR rs' i n' cnt').cons (s.withBody B)
    else (blkR rs i n (cnt + 1)).cons s
def stepR (x : Bs) (rs : List Bs) (i n cnt : Nat) : Rs :=
  if wordsF x = [wEnd] then (if 0 < i then .ok [] rs n cnt else .bad n) else stepS (readS (wordsF x)) rs i n cnt
theorem blkR_cons (x : Bs) (rs : List Bs) (i line cnt : Nat) : blkR (x :: rs) i line cnt = if x = [] then blkR rs i (line + 1) cnt else stepR x rs i (line + 1) cnt := by
  unfold blkR stepR stepS
  rw [List.length_cons, blk_cons]
  by_cases hx : x = []
  · rw [if_pos hx, if_pos hx]
  rw [if_neg hx, if_neg hx]
  by_cases hw : wordsF x = [wEnd]
  · rw [if_pos hw, if_pos hw]
  rw [if_neg hw, if_neg hw]
  cases hr : readS (wordsF x) with
  | none => rfl
  | some s =>
    simp only
    unfold blkR
    cases hB : blk (rs.length + 1) rs (i + 1) (line + 1) (cnt + 1) with
    | bad k => rfl
    | ok B rs' n' cnt' =>
      have h1 := (blk_rest _ _ _ _ _ _ _ _ _ hB).1
      simp only
      rw [blk_more (rs.length + 1) (rs'.length + 1) rs' i n' cnt' (by omega) (by omega)]
def nxtR (i cnt : Nat) : Option (Bs × List Bs) × Nat → Rs
  | (none, n) => if i = 0 then .ok [] [] n cnt else .bad n
  | (some (x, rs), n) => stepR x rs i n cnt
theorem blkR_nxt (i cnt : Nat) : ∀ (rows : List Bs) (line : Nat), blkR rows i line cnt = nxtR i cnt (nxt rows line)
  | [], line => rfl
  | x :: rs, line => by
    rw [blkR_cons, nxt_cons]
    by_cases hx : x = []
    · rw [if_pos hx, if_pos hx]; exact blkR_nxt i cnt rs (line + 1)
    · rw [if_neg hx, if_neg hx]; rfl
theorem nxt_some : ∀ (rows : List Bs) (n : Nat) (x : Bs) (rs : List Bs) (n' : Nat), nxt rows n = (some (x, rs), n') → x ≠ [] ∧ n' + rs.length = n + rows.length ∧ rs.length < rows.length
  | [], n, x, rs, n', h => by cases h
  | y :: r, n, x, rs, n', h => by
    rw [nxt_cons] at h
    by_cases hy : y = []
    · rw [if_pos hy] at h
      have := nxt_some r (n + 1) x rs n' h
      simp only [List.length_cons]
      exact ⟨this.1, by omega, by omega⟩
    · rw [if_neg hy] at h
      cases h
      simp only [List.length_cons]
      exact ⟨hy, by omega, by omega⟩
theorem nxt_none : ∀ (rows : List Bs) (n n' : Nat), nxt rows n = (none, n') → n' = n + rows.length
  | [], n, n', h => by cases h; rfl
  | y :: r, n, n', h => by
    rw [nxt_cons] at h
    by_cases hy : y = []
    · rw [if_pos hy] at h
      have := nxt_none r (n + 1) n' h
      simp only [List.length_cons]; omega
    · rw [if_neg hy] at h; cases h
theorem pre_snoc (s : Sm) (m : List Sm) (r : Rs) : (r.cons s).pre m = r.pre (m ++ [s]) := by cases r <;> simp [Rs.cons, Rs.pre]
structure BkI (w wr : World) (q Y X L : Nat) (lf : Bs) (mo : Bool) (n cnt : Nat) (xw : Bs) (bv : Value) (Ks : List Kst) : Prop where
  hq : wr.heap[q]? = some (rdO lf mo (n : Nat) (cnt : Nat))
  hl : lf.length ≤ L
  hY : wr.heap[Y]? = some (wdO xw)
  yl : w.heap.size ≤ Y
  ql : q < w.heap.size
  xl : w.heap.size ≤ X
  xs : X < wr.heap.size
  ox : bv.ownBlock ≠ some X
  st : StmR wr w.heap.size (fun b => w.heap.size ≤ b ∧ b ≠ Y ∧ b ≠ X) bv Ks
  tt : Touch q w wr
section
variable {w wr wr' : World} {q Y X L : Nat} {lf : Bs} {mo : Bool} {n cnt : Nat} {xw : Bs} {bv : Value} {Ks : List Kst}
theorem bv_ne {lo : Nat} {Av : Nat → Prop} (h : StmR wr lo Av bv Ks) (hY : wr.heap[Y]? = some (wdO xw)) : bv.ownBlock ≠ some Y := fun e => by
  obtain ⟨cur, hc⟩ := own_tag h.own e
  rw [hY] at hc
  cases hc
theorem BkI.below (h : BkI w wr q Y X L lf mo n cnt xw bv Ks) (hb : Below wr.heap.size wr wr') : BkI w wr' q Y X L lf mo n cnt xw bv Ks :=
  ⟨blk_below h.hq hb, h.hl, blk_below h.hY hb, h.yl, h.ql, h.xl, by have := h.xs; have := hb.size; omega, h.ox, h.st.move hb.size (fun k hk => hb.block k (h.st.own.lt k hk).2) fun b hb1 hlt _ => ⟨hb1, hb.block b hlt⟩, h.tt.trans (Touch.of_below hb)⟩
theorem BkI.onY (h : BkI w wr q Y X L lf mo n cnt xw bv Ks) (ht : Touch Y wr wr') {x' : Bs} (hY : wr'.heap[Y]? = some (wdO x')) : BkI w wr' q Y X L lf mo n cnt x' bv Ks := by
  have h1 := h.yl
  have h2 := h.ql
  have h3 := h.tt.size
  refine ⟨?_, h.hl, hY, h.yl, h.ql, h.xl, by have := h.xs; have := ht.size; omega, h.ox, h.st.move ht.size (fun k hk => ht.block k (h.st.own.lt k hk).2 (fun e => bv_ne h.st h.hY (by rw [hk, e]))) fun b hb1 hlt _ => ⟨hb1, ht.block b hlt hb1.2.1⟩, ?_⟩
  · rw [ht.block q (blk_lt h.hq) (by omega)]; exact h.hq
  · exact ⟨ht.os.trans h.tt.os, ht.tape.trans h.tt.tape, ht.output.trans h.tt.output, Nat.le_trans h3 ht.size, fun k hk hkq => (ht.block k (by omega) (by omega)).trans (h.tt.block k hk hkq)⟩
theorem BkI.onX (h : BkI w wr q Y X L lf mo n cnt xw bv Ks) (ht : Touch X wr wr') (hne : X ≠ Y) : BkI w wr' q Y X L lf mo n cnt xw bv Ks := by
  have h1 := h.xl
  have h2 := h.ql
  have h3 := h.tt.size
  refine ⟨?_, h.hl, ?_, h.yl, h.ql, h.xl, by have := h.xs; have := ht.size; omega, h.ox, h.st.move ht.size (fun k hk => ht.block k (h.st.own.lt k hk).2 (fun e => h.ox (by rw [hk, e]))) fun b hb1 hlt _ => ⟨hb1, ht.block b hlt hb1.2.2⟩, ?_⟩
  · rw [ht.block q (blk_lt h.hq) (by omega)]; exact h.hq
  · rw [ht.block Y (blk_lt h.hY) hne.symm]; exact h.hY
  · exact ⟨ht.os.trans h.tt.os, ht.tape.trans h.tt.tape, ht.output.trans h.tt.output, Nat.le_trans h3 ht.size, fun k hk hkq => (ht.block k (by omega) (by omega)).trans (h.tt.block k hk hkq)⟩
theorem BkI.onq (h : BkI w wr q Y X L lf mo n cnt xw bv Ks) (ht : Touch q wr wr') {lf' : Bs} {mo' : Bool} {n' cnt' : Nat} (hq : wr'.heap[q]? = some (rdO lf' mo' (n' : Nat) (cnt' : Nat))) (hl : lf'.length ≤ L) : BkI w wr' q Y X L lf' mo' n' cnt' xw bv Ks := by
  have h1 := h.yl
  have h2 := h.ql
  refine ⟨hq, hl, ?_, h.yl, h.ql, h.xl, by have := h.xs; have := ht.size; omega, h.ox, h.st.move ht.size (fun k hk => ht.block k (h.st.own.lt k hk).2 (by have := (h.st.own.lt k hk).1; omega)) fun b hb1 hlt _ => ⟨hb1, ht.block b hlt (by have := hb1.1; omega)⟩, h.tt.trans ht⟩
  rw [ht.block Y (blk_lt h.hY) (by omega)]; exact h.hY
/-- A new box for words. -/
theorem BkI.newY (h : BkI w wr q Y X L lf mo n cnt xw bv Ks) (x' : Bs) : BkI w (wr.alloc (wdO x')) q wr.heap.size X L lf mo n cnt x' bv Ks := by
  have h3 := h.tt.size
  have hb := below_one wr (wdO x')
  exact ⟨blk_below h.hq hb, h.hl, heap_last wr _, h3, h.ql, h.xl, by have := h.xs; have := hb.size; omega, h.ox, h.st.move hb.size (fun k hk => hb.block k (h.st.own.lt k hk).2) fun b hb1 hlt _ => ⟨⟨hb1.1, by omega, hb1.2.2⟩, hb.block b hlt⟩, h.tt.trans (Touch.of_below hb)⟩
/-- A new box besides. -/
theorem BkI.newX (h : BkI w wr q Y X L lf mo n cnt xw bv Ks) (o : Obj) : BkI w (wr.alloc o) q Y wr.heap.size L lf mo n cnt xw bv Ks := by
  have h3 := h.tt.size
  have hb := below_one wr o
  exact ⟨blk_below h.hq hb, h.hl, blk_below h.hY hb, h.yl, h.ql, h3, by rw [sz_alloc]; omega, fun e => by have := (h.st.own.lt _ e).2; omega, h.st.move hb.size (fun k hk => hb.block k (h.st.own.lt k hk).2) fun b hb1 hlt _ => ⟨⟨hb1.1, hb1.2.1, by omega⟩, hb.block b hlt⟩, h.tt.trans (Touch.of_below hb)⟩
/-- A statement more. -/
theorem BkI.push (h : BkI w wr q Y X L lf mo n cnt xw bv Ks) (s : Sm) (v : SV) (hR : Sd wr (fun b => (w.heap.size ≤ b ∧ b ≠ Y ∧ b ≠ X) ∧ some b ≠ bv.ownBlock) s v) (hl : Ks.length ≤ 3000000) :
    ∃ ao cap w', (Builtin.append_ #[23, 23] 23 #[bv, .slice (some ⟨wr.heap.size, 0, none⟩) 1 1]).run Tryz.prog (wr.alloc (.cells (sc s v).toArray 51)) = .ok (.slice ao (Ks.length + 1) cap) w' ∧ BkI w w' q Y X L lf mo n cnt xw (.slice ao (Ks.length + 1) cap) (Ks ++ [(s, v)]) := by
  have h3 := h.tt.size
  obtain ⟨ao, cap, w', h1, h2, h4, h5, h6⟩ := push_stm h.st s v hR hl h3
  have hs := h4.size
  refine ⟨ao, cap, w', h1, h4.kept _ _ h.hq (by rfl), h.hl, h4.kept _ _ h.hY (by rfl), h.yl, h.ql, h.xl, by have := h.xs; omega, ?_, h2, ?_⟩
  · rcases h6 with h6 | h6
    · rw [h6]; exact h.ox
    · rw [h6]; intro e; cases e; have := h.xs; omega
  · refine ⟨h4.below.os.trans h.tt.os, h4.below.tape.trans h.tt.tape, h4.below.output.trans h.tt.output, by omega, fun k hk hkq => ?_⟩
    rw [h4.below.block k hk]
    exact h.tt.block k hk hkq
end
end Go.Proofs.YtjppcfjjpkniaaaGreatDoor
namespace Go.Proofs.YtjppcfjjpkniaaaGreatDoor
open Go.ChangeShapes Go.WideShapes Go.ChangeAt Go.RowKit Go.Deep
attribute [local go_sem ↓] Go.wp_at_zero Go.wp_at_succ
set_option maxRecDepth 100000

/-- What block answers, and leaves. -/
def BlkOk (w : World) (q L : Nat) (r : Rs) (e : Ending) (w' : World) : Prop :=
  (match r with
    | .ok l rest n cnt => ∃ a c, e = .returned (.tuple #[.slice a l.length c, .bool true]) ∧ Sds w' (fun k => w.heap.size ≤ k) l (.slice a l.length c) ∧ ∃ left more, left.length ≤ L ∧ w'.heap[q]? = some (rdO left more (n : Nat) (cnt : Nat)) ∧ linesM left more = rest
    | .bad k => ∃ a n c, e = .returned (.tuple #[.slice a n c, .bool false]) ∧ ∃ left more cnt, w'.heap[q]? = some (rdO left more (k : Nat) cnt)) ∧ Touch q w w'
theorem blk_bad_end {w V : World} {q L k : Nat} {lf : Bs} {mo : Bool} {c : Int} {a : Option Addr} {n m : Nat} (hq : V.heap[q]? = some (rdO lf mo (k : Nat) c)) (ht : Touch q w V) : BlkOk w q L (.bad k) (.returned (.tuple #[.slice a n m, .bool false])) V := ⟨⟨a, n, m, rfl, lf, mo, c, hq⟩, ht⟩
theorem bk_sds {w wr : World} {q Y X L : Nat} {lf : Bs} {mo : Bool} {n cnt : Nat} {xw : Bs} {bv : Value} {Ks : List Kst} (h : BkI w wr q Y X L lf mo n cnt xw bv Ks) : Sds wr (fun b => w.heap.size ≤ b) (Ks.map (·.1)) bv :=
  h.st.sds (fun _b hb _ => hb.1) fun b hb => (h.st.own.lt b hb).1
theorem pre_bad (m : List Sm) (k : Nat) : (Rs.bad k).pre m = .bad k := rfl
theorem pre_ok (m l : List Sm) (r : List Bs) (a b : Nat) : (Rs.ok l r a b).pre m = .ok (m ++ l) r a b := rfl
theorem nxtR_some (i cnt n : Nat) (x : Bs) (rs : List Bs) : nxtR i cnt (some (x, rs), n) = stepR x rs i n cnt := rfl
theorem nxtR_none (i cnt n : Nat) : nxtR i cnt (none, n) = if i = 0 then .ok [] [] n cnt else .bad n := rfl
theorem blkR_cnt {rows : List Bs} {i n cnt n' cnt' : Nat} {B : List Sm} {rs' : List Bs} (h : blkR rows i n cnt = .ok B rs' n' cnt') (hc : cnt ≤ 60) : cnt ≤ cnt' ∧ cnt' ≤ 60 ∧ rs'.length ≤ rows.length ∧ n' + rs'.length = n + rows.length := by
  have h1 := blk_cnt _ _ _ _ _ _ _ _ _ h
  have h2 := blk_rest _ _ _ _ _ _ _ _ _ h
  exact ⟨by omega, h1.2.2 hc, h2.1, h2.2.2⟩
set_option maxHeartbeats 25600000 in
theorem block_in {B q : Nat} (i : Nat) (hi : i ≤ 4) (ih : i < 4 → ∀ (left : Bs) (more : Bool) (n cnt L : Nat) (w : World), Gl B w → w.heap[q]? = some (rdO left more (n : Nat) (cnt : Nat)) → left.length ≤ L → L ≤ 3000000 → n + (linesM left more).length ≤ 30000000 → cnt ≤ 60 → Calls Tryz.prog 18 #[pq q, i64 ((i : Int) + 1)] w (BlkOk w q L (blkR (linesM left more) (i + 1) n cnt)))
    (left : Bs) (more : Bool) (n cnt L : Nat) (w : World) (hg : Gl B w) (hB : B ≤ q) (hq : w.heap[q]? = some (rdO left more (n : Nat) (cnt : Nat))) (hl : left.length ≤ L) (hL : L ≤ 3000000) (hn : n + (linesM left more).length ≤ 30000000) (hc : cnt ≤ 60) :
    Calls Tryz.prog 18 #[pq q, i64 (i : Int)] w (BlkOk w q L (blkR (linesM left more) i n cnt)) := by
  obtain ⟨RES, hRES⟩ : ∃ RES, RES = blkR (linesM left more) i n cnt := ⟨_, rfl⟩
  have HRs := hid hRES
  rw [← hRES]
  clear hRES
  have HG := hid hg
  have HIH := hid ih
  have HRs1 : Hid (RES = nxtR i cnt (nxt (linesM left more) n)) := by show _ = _; rw [HRs.out, blkR_nxt]
  have HQL := hid (blk_lt hq)
  have hi0 : (0 : Int) ≤ (i : Int) := by omega
  have hi4 : (i : Int) ≤ 4 := by omega
  have HRN := hid hn
  obtain ⟨nx, n1, hnx⟩ : ∃ nx n1, nxt (linesM left more) n = (nx, n1) := ⟨_, _, rfl⟩
  have HNX := hid (next_ok2 left more n cnt w hg hB hq (by omega) hn hnx)
  have HNM : Hid ((rsO nx).length + (if nx.isSome = true then 1 else 0) ≤ (linesM left more).length ∧ n1 + (rsO nx).length ≤ n + (linesM left more).length) := by
    show _ ∧ _
    cases nx with
    | none => have := nxt_none _ _ _ hnx; simp only [rsO]; simp; omega
    | some z => obtain ⟨x, rs⟩ := z; have := nxt_some _ _ _ _ _ hnx; simp only [rsO]; simp; exact ⟨this.2.2, by omega⟩
  rw [hnx] at HRs1
  have hxn : ∀ x rs, nx = some (x, rs) → x ≠ [] := fun x rs h => (nxt_some _ _ _ _ _ (h ▸ hnx)).1
  have HXN := hid hxn
  clear hg hq hn ih HRs hxn hnx
  generalize linesM left more = rows at *
  go_enter Tryz.func18, Tryz.ntmps18
  go_wp2_with fail
  refine HNX.out.mono ?_
  rintro e w1 ⟨rfl, ⟨lf, mo, hlf, hq1, hls⟩, hxl, ht⟩
  have HB1 : Hid (BkI w (w1.alloc (wdO (xO nx))) q w1.heap.size w1.heap.size L lf mo n1 cnt (xO nx) nilS []) :=
    ⟨blk_alloc hq1 _, by omega, heap_last w1 _, ht.size, HQL.out, ht.size, by rw [sz_alloc]; omega, by simp [Value.ownBlock], StmR.nil _ _ _, ht.alloc _⟩
  have HLS : Hid (linesM lf mo = rsO nx) := hls
  have HXL : Hid ((xO nx).length ≤ 3000000) := by show _ ≤ _; omega
  have HRs2 : Hid (RES = (nxtR i cnt (nx, n1)).pre (([] : List Kst).map (·.1))) := by show _ = _; rw [HRs1.out]; exact (pre_nil _).symm
  clear hlf hq1 hls hxl ht HNX HRs1
  go_upto_region 3 with fail
  obtain ⟨Y, hY⟩ : ∃ Y, Y = w1.heap.size := ⟨_, rfl⟩
  rw [← hY] at HB1 ⊢
  clear hY
  generalize w1.alloc (wdO (xO nx)) = V1 at *
  go_loopg [6, 7, 8] ((rsO nx).length + (if nx.isSome = true then 1 else 0)) (fun g v u t wr => ∃ (nx : Option (Bs × List Bs)) (n cnt : Nat) (lf : Bs) (mo : Bool) (Y X : Nat) (av : Option Addr) (cv : Nat) (Ks : List Kst), v = .slice av Ks.length cv ∧ u = pq Y ∧ t = .bool nx.isSome ∧ (rsO nx).length + (if nx.isSome = true then 1 else 0) ≤ g ∧ n + (rsO nx).length ≤ 30000000 ∧ cnt ≤ 60 ∧ Ks.length ≤ cnt ∧ Hid (BkI w wr q Y X L lf mo n cnt (xO nx) (.slice av Ks.length cv) Ks) ∧ Hid (linesM lf mo = rsO nx) ∧ Hid ((xO nx).length ≤ 3000000) ∧ Hid (∀ x rs, nx = some (x, rs) → x ≠ []) ∧ Hid (RES = (nxtR i cnt (nx, n)).pre (Ks.map (·.1))))
  case atStart => exact ⟨nx, n1, cnt, lf, mo, Y, Y, none, 0, [], rfl, rfl, rfl, Nat.le_refl _, by have := HNM.out.2; have := HRN.out; omega, hc, Nat.zero_le _, HB1, HLS, HXL, HXN, HRs2⟩
  case round =>
    clear HB1 HLS HXL HXN HRs2 HNM HRN
    clear hc hl
    obtain ⟨nx, n, cnt, lf, mo, Y, X, av, cv, Ks, rfl, rfl, rfl, hg1, hg2, hc, hk, HI, HLS, HXL, HXN, HRs⟩ := hrel
    cases nx with
    | none =>
      have HRE : Hid (RES = (if i = 0 then Rs.ok [] [] n cnt else .bad n).pre (Ks.map (·.1))) := HRs.out
      have HSD := hid (bk_sds HI.out)
      have hks : (Ks.map (·.1)).length = Ks.length := by simp
      by_cases h0 : i = 0
      · subst h0
        have HRf : Hid (RES = .ok (Ks.map (·.1)) [] n cnt) := by show _ = _; rw [HRE.out, if_pos rfl, pre_ok, List.append_nil]
        clear HRE HRs
        go_wp2_with fail
        go_ret2
        rw [HRf.out]
        refine ⟨⟨av, cv, by rw [hks]; rfl, by rw [hks]; exact HSD.out, lf, mo, HI.out.hl, HI.out.hq, HLS.out⟩, HI.out.tt⟩
      · have HRf : Hid (RES = .bad n) := by show _ = _; rw [HRE.out, if_neg h0, pre_bad]
        have hib : ((i : Int) == 0) = false := by
          have : (i : Int) ≠ 0 := by omega
          simpa using this
        clear HRE HRs h0
        go_wp2_with fail
        go_ret2
        rw [HRf.out]
        exact blk_bad_end HI.out.hq HI.out.tt
    | some z =>
      obtain ⟨x, rs⟩ := z
      have HXn : Hid (x ≠ []) := HXN.out x rs rfl
      have HXl : Hid (x.length ≤ 3000000) := HXL.out
      have HLs : Hid (linesM lf mo = rs) := HLS.out
      have HRs1 : Hid (RES = (stepR x rs i n cnt).pre (Ks.map (·.1))) := HRs.out
      have hg1 : rs.length + 1 ≤ gk := hg1
      have hg2 : n + rs.length ≤ 30000000 := hg2
      have HI : Hid (BkI w wr q Y X L lf mo n cnt x (.slice av Ks.length cv) Ks) := HI
      clear HXN HXL HLS HRs
      have HG1 : Hid (Gl B wr) := HG.out.touch HI.out.tt hB
      have y0 := blk_cell HI.out.hY 0
      have HEN := hid (end_ok x wr HG1.out.env (by have := HXl.out; omega))
      go_wp2_with fail
      refine HEN.out.mono ?_
      rintro e w2 ⟨rfl, hb2⟩
      have HI2 := hid (HI.out.below hb2)
      clear hb2 HEN HI HG1 y0
      by_cases hw : wordsF x = [wEnd]
      · have hd : decide (wordsF x = [wEnd]) = true := by simp [hw]
        rw [hd]
        have HRE : Hid (RES = (if 0 < i then Rs.ok [] rs n cnt else .bad n).pre (Ks.map (·.1))) := by show _ = _; rw [HRs1.out]; unfold stepR; rw [if_pos hw]
        have HSD := hid (bk_sds HI2.out)
        have hks : (Ks.map (·.1)).length = Ks.length := by simp
        clear HRs1 hw hd
        by_cases h0 : 0 < i
        · have HRf : Hid (RES = .ok (Ks.map (·.1)) rs n cnt) := by show _ = _; rw [HRE.out, if_pos h0, pre_ok, List.append_nil]
          have hib : (0 : Int) < (i : Int) := by omega
          clear HRE
          go_simp
          go_wp2_with fail
          go_ret2
          rw [HRf.out]
          refine ⟨⟨av, cv, by rw [hks]; rfl, by rw [hks]; exact HSD.out, lf, mo, HI2.out.hl, HI2.out.hq, HLs.out⟩, HI2.out.tt⟩
        · have HRf : Hid (RES = .bad n) := by show _ = _; rw [HRE.out, if_neg h0, pre_bad]
          clear HRE
          obtain rfl : i = 0 := by omega
          go_simp
          go_wp2_with fail
          go_ret2
          rw [HRf.out]
          exact blk_bad_end HI2.out.hq HI2.out.tt
      · have hd : decide (wordsF x = [wEnd]) = false := by simp [hw]
        rw [hd]
        have HG2 : Hid (Gl B w2) := HG.out.touch HI2.out.tt hB
        have HRD := hid (lread_ok (B := B) (q := Y) x w2 HG2.out (by have := HI2.out.yl; have := HI2.out.ql; omega) HI2.out.hY HXl.out)
        have HRs2 : Hid (RES = (stepS (readS (wordsF x)) rs i n cnt).pre (Ks.map (·.1))) := by show _ = _; rw [HRs1.out]; unfold stepR; rw [if_neg hw]
        have HRB : Hid (∀ s, readS (wordsF x) = some s → s.body = []) := fun s h => readS_body h
        clear HRs1 hw hd HG2
        generalize readS (wordsF x) = rd at *
        go_simp
        go_wp2_with fail
        refine HRD.out.mono ?_
        cases rd with
        | none =>
          have HRf : Hid (RES = .bad n) := HRs2.out
          rintro e w3 ⟨⟨o', nm', ds', a1, m1, c1, k', m', a2, m2, c2, a3, m3, c3, N', rfl⟩, ht3, l3, hy3⟩
          have HI3 := hid ((HI2.out.onY ht3 hy3).below (below_one w3 (sbO (i64 o') (str nm') (str ds') (.slice a1 m1 c1) (i64 k') (i64 m') (.slice a2 m2 c2) (.slice a3 m3 c3) (i64 N') nilS)))
          clear ht3 hy3 HRD HRs2
          go_upto_region 8 with fail
          generalize w3.alloc (sbO (i64 o') (str nm') (str ds') (.slice a1 m1 c1) (i64 k') (i64 m') (.slice a2 m2 c2) (.slice a3 m3 c3) (i64 N') nilS) = V at *
          have q3 := blk_cell HI3.out.hq 3
          have qf := blk_frozen HI3.out.hq 3
          have hc0 : (0 : Int) ≤ (cnt : Int) := by omega
          have hc6 : (cnt : Int) ≤ 60 := by omega
          have HQ4 := hid (rdO3 HI3.out.hq (i64 ((cnt : Int) + 1)))
          have HT4 : Hid (Touch q w (V.setCell ⟨q, 3, none⟩ (i64 ((cnt : Int) + 1)))) := HI3.out.tt.trans ((Touch.refl q V).setCell (p := ⟨q, 3, none⟩) rfl _)
          clear HI3
          go_wp2_with fail
          go_ret2
          rw [HRf.out]
          exact blk_bad_end HQ4.out HT4.out
        | some s =>
          obtain ⟨op, num, nm, ds, names, ty, body⟩ := s
          obtain rfl : body = [] := HRB.out _ rfl
          have HRs3 : Hid (RES = (if 60 < cnt + 1 then Rs.bad n
            else if op = 5 then
              if i = 4 then .bad n
              else match blkR rs (i + 1) n (cnt + 1) with
                | .bad k => .bad k
                | .ok B rs' n' cnt' => (blkR rs' i n' cnt').cons (.mk op num nm ds names ty B)
            else (blkR rs i n (cnt + 1)).cons (.mk op num nm ds names ty [])).pre (Ks.map Prod.fst)) := HRs2.out
          rintro e w3 ⟨⟨nv, tn, tk, rfl, hns, hty⟩, ht3, l3, hy3⟩
          obtain ⟨a1, c1, rfl⟩ := hns.form
          obtain ⟨⟨a2, n2, c2, rfl⟩, a3, n3, c3, rfl⟩ := hty.form2
          have HI3 := hid (HI2.out.onY ht3 hy3)
          have HI4 := hid (HI3.out.newX (sbO (i64 op) (str nm) (str ds) (.slice a1 names.length c1) (i64 ty.kind) (i64 ty.num) (.slice a2 n2 c2) (.slice a3 n3 c3) (i64 num) nilS))
          have HSB4 : Hid ((w3.alloc (sbO (i64 op) (str nm) (str ds) (.slice a1 names.length c1) (i64 ty.kind) (i64 ty.num) (.slice a2 n2 c2) (.slice a3 n3 c3) (i64 num) nilS)).heap[w3.heap.size]? = some (sbO (i64 op) (str nm) (str ds) (.slice a1 names.length c1) (i64 ty.kind) (i64 ty.num) (.slice a2 n2 c2) (.slice a3 n3 c3) (i64 num) nilS)) := heap_last w3 _
          have hav : ∀ b, w2.heap.size ≤ b → b < w3.heap.size → ((w.heap.size ≤ b ∧ b ≠ Y ∧ b ≠ w3.heap.size) ∧ some b ≠ (Value.slice av Ks.length cv).ownBlock) := fun b h1 h2 => by
            have e1 := blk_lt HI2.out.hY
            have e2 := HI2.out.tt.size
            exact ⟨⟨by omega, by omega, by omega⟩, fun e => by have := (HI2.out.st.own.lt b e.symm).2; omega⟩
          have HSD4 : Hid (Strs (w3.alloc (sbO (i64 op) (str nm) (str ds) (.slice a1 names.length c1) (i64 ty.kind) (i64 ty.num) (.slice a2 n2 c2) (.slice a3 n3 c3) (i64 num) nilS)) (fun b => (w.heap.size ≤ b ∧ b ≠ Y ∧ b ≠ w3.heap.size) ∧ some b ≠ (Value.slice av Ks.length cv).ownBlock) (.slice a1 names.length c1) names ∧ Rd (w3.alloc (sbO (i64 op) (str nm) (str ds) (.slice a1 names.length c1) (i64 ty.kind) (i64 ty.num) (.slice a2 n2 c2) (.slice a3 n3 c3) (i64 num) nilS)) (fun b => (w.heap.size ≤ b ∧ b ≠ Y ∧ b ≠ w3.heap.size) ∧ some b ≠ (Value.slice av Ks.length cv).ownBlock) ty (.slice a2 n2 c2) (.slice a3 n3 c3)) :=
            ⟨hns.move (below_one w3 _).size fun b hb hlt => ⟨hav b hb hlt, (below_one w3 _).block b hlt⟩, hty.move (below_one w3 _).size fun b hb hlt => ⟨hav b hb hlt, (below_one w3 _).block b hlt⟩⟩
          have HXY : Hid (w3.heap.size ≠ Y) := by show _ ≠ _; have := blk_lt HI3.out.hY; omega
          clear ht3 hy3 HRD HRs2 hns hty hav HRB HI3
          go_upto_region 8 with fail
          obtain ⟨X4, hX4⟩ : ∃ X4, X4 = w3.heap.size := ⟨_, rfl⟩
          rw [← hX4] at HI4 HSB4 HXY HSD4 ⊢
          clear hX4
          generalize w3.alloc (sbO (i64 op) (str nm) (str ds) (.slice a1 names.length c1) (i64 ty.kind) (i64 ty.num) (.slice a2 n2 c2) (.slice a3 n3 c3) (i64 num) nilS) = V at *
          have q3 := blk_cell HI4.out.hq 3
          have qf := blk_frozen HI4.out.hq 3
          have hc0 : (0 : Int) ≤ (cnt : Int) := by omega
          have hc6 : (cnt : Int) ≤ 60 := by omega
          have HT4 := hid (ts V q 3 (i64 ((cnt + 1 : Nat) : Int)))
          have HI5 := hid (HI4.out.onq HT4.out (rdO3 HI4.out.hq (i64 ((cnt + 1 : Nat) : Int))) HI4.out.hl)
          have hXq : Hid (X4 ≠ q) := by show _ ≠ _; have := HI4.out.xl; have := HI4.out.ql; omega
          have HSB5 : Hid ((V.setCell ⟨q, 3, none⟩ (i64 ((cnt + 1 : Nat) : Int))).heap[X4]? = some (sbO (i64 op) (str nm) (str ds) (.slice a1 names.length c1) (i64 ty.kind) (i64 ty.num) (.slice a2 n2 c2) (.slice a3 n3 c3) (i64 num) nilS)) := by show _ = _; rw [HT4.out.block X4 (blk_lt HSB4.out) hXq.out]; exact HSB4.out
          have HSD5 : Hid (Strs (V.setCell ⟨q, 3, none⟩ (i64 ((cnt + 1 : Nat) : Int))) (fun b => (w.heap.size ≤ b ∧ b ≠ Y ∧ b ≠ X4) ∧ some b ≠ (Value.slice av Ks.length cv).ownBlock) (.slice a1 names.length c1) names ∧ Rd (V.setCell ⟨q, 3, none⟩ (i64 ((cnt + 1 : Nat) : Int))) (fun b => (w.heap.size ≤ b ∧ b ≠ Y ∧ b ≠ X4) ∧ some b ≠ (Value.slice av Ks.length cv).ownBlock) ty (.slice a2 n2 c2) (.slice a3 n3 c3)) :=
            ⟨HSD4.out.1.move HT4.out.size fun b hb hlt => ⟨hb, HT4.out.block b hlt (by have := HI4.out.ql; have := hb.1.1; omega)⟩, HSD4.out.2.move HT4.out.size fun b hb hlt => ⟨hb, HT4.out.block b hlt (by have := HI4.out.ql; have := hb.1.1; omega)⟩⟩
          have he1 : ((cnt + 1 : Nat) : Int) = (cnt : Int) + 1 := by omega
          have HI5q := hid HI5.out.hq
          rw [he1] at HSB5 HSD5 HI5 HI5q
          clear HT4 HI4 HSB4 HSD4 he1
          go_upto_region 9 with fail
          clear q3 qf
          generalize V.setCell ⟨q, 3, none⟩ (i64 ((cnt : Int) + 1)) = V5 at *
          have q5 := blk_cell HI5q.out 3
          by_cases h60 : 60 < cnt + 1
          · have HRf : Hid (RES = .bad n) := by show _ = _; rw [HRs3.out, if_pos h60, pre_bad]
            have hcI : (60 : Int) < (cnt : Int) + 1 := by omega
            clear HRs3 h60
            go_wp2_with fail
            go_ret2
            rw [HRf.out]
            exact blk_bad_end HI5q.out HI5.out.tt
          · have hcI : ¬ (60 : Int) < (cnt : Int) + 1 := by omega
            have hcI2 : (cnt : Int) + 1 ≤ 60 := by omega
            have s0 := blk_cell HSB5.out 0
            by_cases h5 : op = 5
            · subst h5
              by_cases h4 : i = 4
              · have HRf : Hid (RES = .bad n) := by show _ = _; rw [HRs3.out, if_neg h60, if_pos rfl, if_pos h4, pre_bad]
                subst h4
                clear HRs3 h60
                go_wp2_with fail
                go_ret2
                rw [HRf.out]
                exact blk_bad_end HI5q.out HI5.out.tt
              · have HRs4 : Hid (RES = (match blkR rs (i + 1) n (cnt + 1) with
                  | .bad k => Rs.bad k
                  | .ok B rs' n' cnt' => (blkR rs' i n' cnt').cons (.mk 5 num nm ds names ty B)).pre (Ks.map Prod.fst)) := by show _ = _; rw [HRs3.out, if_neg h60, if_pos rfl, if_neg h4]
                have hib : ((i : Int) == 4) = false := by
                  have : (i : Int) ≠ 4 := by omega
                  simpa using this
                have HCA := hid (HIH.out (by omega) lf mo n (cnt + 1) L V5 (HG.out.touch HI5.out.tt hB) (by rw [show ((cnt + 1 : Nat) : Int) = (cnt : Int) + 1 from by omega]; exact HI5q.out) HI5.out.hl hL (by rw [HLs.out]; omega) (by omega))
                have HLR : Hid (linesM lf mo = rs) := HLs.out
                rw [HLs.out] at HCA
                have HBC : Hid (∀ B rs' n' cnt', blkR rs (i + 1) n (cnt + 1) = .ok B rs' n' cnt' → cnt + 1 ≤ cnt' ∧ cnt' ≤ 60 ∧ rs'.length ≤ rs.length ∧ n' + rs'.length = n + rs.length) := fun B rs' n' cnt' h => blkR_cnt h (by omega)
                clear HRs3 h60
                generalize blkR rs (i + 1) n (cnt + 1) = RB at *
                go_wp2_with fail
                refine HCA.out.mono ?_
                cases RB with
                | bad k =>
                  have HRf : Hid (RES = .bad k) := HRs4.out
                  rintro e w6 ⟨⟨ab, nb, cb, rfl, lf6, mo6, cnt6, hq6⟩, ht6⟩
                  have HSB6 : Hid (w6.heap[X4]? = some (sbO (i64 5) (str nm) (str ds) (.slice a1 names.length c1) (i64 ty.kind) (i64 ty.num) (.slice a2 n2 c2) (.slice a3 n3 c3) (i64 num) nilS)) := by show _ = _; rw [ht6.block X4 (blk_lt HSB5.out) hXq.out]; exact HSB5.out
                  have x9 := blk_cell HSB6.out 9
                  have xf9 := blk_frozen HSB6.out 9
                  have HQ7 : Hid ((w6.setCell ⟨X4, 9, none⟩ (.slice ab nb cb)).heap[q]? = some (rdO lf6 mo6 (k : Nat) cnt6)) := by show _ = _; rw [(ts w6 X4 9 _).block q (blk_lt hq6) (fun e => hXq.out e.symm)]; exact hq6
                  have HT7 : Hid (Touch q w (w6.setCell ⟨X4, 9, none⟩ (.slice ab nb cb))) := (HI5.out.tt.trans ht6).setNew (p := ⟨X4, 9, none⟩) HI5.out.xl _
                  clear hq6 ht6 HCA HRs4
                  go_wp2_with fail
                  go_ret2
                  rw [HRf.out]
                  exact blk_bad_end HQ7.out HT7.out
                | ok Bd rs6 n6 cnt6 =>
                  have HRs5 : Hid (RES = (blkR rs6 i n6 cnt6).pre (Ks.map Prod.fst ++ [.mk 5 num nm ds names ty Bd])) := by show _ = _; rw [← pre_snoc]; exact HRs4.out
                  obtain ⟨hcn1, hcn2, hrs6, hns6⟩ := HBC.out _ _ _ _ rfl
                  have HL6 : Hid (rs6.length + 1 ≤ gk ∧ n6 + rs6.length ≤ 30000000) := ⟨by omega, by omega⟩
                  rintro e w6 ⟨⟨ab, cb, rfl, hsds, lf6, mo6, hlf6, hq6, hls6⟩, ht6⟩
                  have HLS6 : Hid (linesM lf6 mo6 = rs6) := hls6
                  have HI6 := hid (HI5.out.onq ht6 hq6 hlf6)
                  have HSB6 : Hid (w6.heap[X4]? = some (sbO (i64 5) (str nm) (str ds) (.slice a1 names.length c1) (i64 ty.kind) (i64 ty.num) (.slice a2 n2 c2) (.slice a3 n3 c3) (i64 num) nilS)) := by show _ = _; rw [ht6.block X4 (blk_lt HSB5.out) hXq.out]; exact HSB5.out
                  have HT7 := hid (ts w6 X4 9 (.slice ab Bd.length cb))
                  have HI7 := hid (HI6.out.onX HT7.out HXY.out)
                  have HSB7 := hid (sb9 HSB6.out (.slice ab Bd.length cb))
                  have hmv : ∀ b, ((w.heap.size ≤ b ∧ b ≠ Y ∧ b ≠ X4) ∧ some b ≠ (Value.slice av Ks.length cv).ownBlock) → b < V5.heap.size → (w6.setCell ⟨X4, 9, none⟩ (.slice ab Bd.length cb)).heap[b]? = V5.heap[b]? := fun b hb hlt => by
                    rw [HT7.out.block b (by have := ht6.size; omega) hb.1.2.2]
                    exact ht6.block b hlt (by have := HI5.out.ql; have := hb.1.1; omega)
                  have HSD7 : Hid (Sd (w6.setCell ⟨X4, 9, none⟩ (.slice ab Bd.length cb)) (fun b => (w.heap.size ≤ b ∧ b ≠ Y ∧ b ≠ X4) ∧ some b ≠ (Value.slice av Ks.length cv).ownBlock) (.mk 5 num nm ds names ty Bd) ⟨.slice a1 names.length c1, .slice a2 n2 c2, .slice a3 n3 c3, .slice ab Bd.length cb⟩) := by
                    refine Sd.of (HSD5.out.1.move (Nat.le_trans ht6.size HT7.out.size) fun b hb hlt => ⟨hb, hmv b hb hlt⟩) (HSD5.out.2.move (Nat.le_trans ht6.size HT7.out.size) fun b hb hlt => ⟨hb, hmv b hb hlt⟩) (hsds.move HT7.out.size fun b hb hlt => ?_)
                    have e1 := HI5.out.xs
                    have e2 := blk_lt HI5.out.hY
                    have e3 := HI5.out.tt.size
                    have hb' : V5.heap.size ≤ b := hb
                    exact ⟨⟨⟨by omega, by omega, by omega⟩, fun e => by have := (HI5.out.st.own.lt b e.symm).2; omega⟩, HT7.out.block b hlt (by omega)⟩
                  have x9 := blk_cell HSB6.out 9
                  have xf9 := blk_frozen HSB6.out 9
                  clear hsds hq6 hls6 ht6 hmv HCA HRs4 HT7 HI6 HSB6 HSD5 HSB5 HI5 HI5q
                  go_upto_region 15 with fail
                  generalize w6.setCell ⟨X4, 9, none⟩ (.slice ab Bd.length cb) = V7 at *
                  clear x9 xf9
                  have hkl : Ks.length ≤ 3000000 := by omega
                  obtain ⟨ao8, cap8, w8, hrun, hI8⟩ := HI7.out.push (.mk 5 num nm ds names ty Bd) ⟨.slice a1 names.length c1, .slice a2 n2 c2, .slice a3 n3 c3, .slice ab Bd.length cb⟩ HSD7.out hkl
                  have HRUN : Hid ((Builtin.append_ #[23, 23] 23 #[.slice av Ks.length cv, .slice (some ⟨(V7).heap.size, 0, none⟩) 1 1]).run Tryz.prog ((V7).alloc (sbO (i64 5) (str nm) (str ds) (.slice a1 names.length c1) (i64 ty.kind) (i64 ty.num) (.slice a2 n2 c2) (.slice a3 n3 c3) (i64 num) (.slice ab Bd.length cb))) = .ok (.slice ao8 (Ks.length + 1) cap8) w8) := hrun
                  have HI8 := hid hI8
                  obtain ⟨t0, t1, t2, t3, t4, t5, t6, t7, t8, t9, _, _, _, _, _, _, _, _, _, _⟩ := sfs HSB7.out
                  clear hrun hI8 hkl
                  go_upto_region 18 with (at_builtin; refine wpList_app_run rfl (.tmp 63) (.tmp 65) 23 rfl _ _ rfl rfl 23 rfl _ _ HRUN.out ?_)
                  clear t0 t1 t2 t3 t4 t5 t6 t7 t8 t9 HRUN HSB7 HSD7
                  have y8 := blk_cell HI8.out.hY 0
                  have HI9 := hid (HI8.out.newY l3)
                  go_upto_region 4 with fail
                  clear y8 HI8
                  obtain ⟨Y9, hY9⟩ : ∃ Y9, Y9 = w8.heap.size := ⟨_, rfl⟩
                  rw [← hY9] at HI9 ⊢
                  clear hY9
                  generalize w8.alloc (wdO l3) = w9 at *
                  obtain ⟨nx9, n9, hnx9⟩ : ∃ nx n1, nxt (rs6) n6 = (nx, n1) := ⟨_, _, rfl⟩
                  have HNX9 := hid (next_ok2 (nx := nx9) (n := n9) lf6 mo6 n6 (cnt6) w9 (HG.out.touch HI9.out.tt hB) hB HI9.out.hq (by have := HI9.out.hl; omega) (by rw [HLS6.out]; have := HL6.out; omega) (by rw [HLS6.out]; exact hnx9))
                  have HNM9 : Hid ((rsO nx9).length + (if nx9.isSome = true then 1 else 0) ≤ (rs6).length ∧ n9 + (rsO nx9).length ≤ n6 + (rs6).length) := by
                    show _ ∧ _
                    cases nx9 with
                    | none => have := nxt_none _ _ _ hnx9; simp only [rsO]; simp; omega
                    | some z => obtain ⟨x, rs⟩ := z; have := nxt_some _ _ _ _ _ hnx9; simp only [rsO]; simp; exact ⟨this.2.2, by omega⟩
                  have HRs9 : Hid (RES = (nxtR i (cnt6) (nx9, n9)).pre ((Ks ++ [(((.mk 5 num nm ds names ty Bd), ⟨.slice a1 names.length c1, .slice a2 n2 c2, .slice a3 n3 c3, .slice ab Bd.length cb⟩) : Kst)]).map (·.1))) := by show _ = _; rw [HRs5.out, blkR_nxt, hnx9, List.map_append]; rfl
                  have HXN9 : Hid (∀ x rs, nx9 = some (x, rs) → x ≠ []) := fun x rs h => (nxt_some _ _ _ _ _ (h ▸ hnx9)).1
                  have HLE9 := hid HL6.out
                  clear hnx9 HRs5
                  go_wp2_with fail
                  refine HNX9.out.mono ?_
                  rintro e w10 ⟨rfl, ⟨lf9, mo9, hlf9, hq9, hls9⟩, hxl9, ht9⟩
                  have HI10 := hid (HI9.out.onq ht9 hq9 (by have := HI9.out.hl; omega))
                  have HLS9 : Hid (linesM lf9 mo9 = rsO nx9) := hls9
                  have HXL9 : Hid ((xO nx9).length ≤ 3000000) := by show _ ≤ _; have := HI9.out.hl; omega
                  have y10 := blk_cell HI10.out.hY 0
                  have yf10 := blk_frozen HI10.out.hY 0
                  have HY11 : Hid ((w10.setCell ⟨Y9, 0, none⟩ (str (xO nx9))).heap[Y9]? = some (wdO (xO nx9))) := by
                    have := heap_setCell_same w10 Y9 0 _ 83 (str (xO nx9)) HI10.out.hY
                    simpa using hid this
                  have HI11 := hid (HI10.out.onY (ts w10 Y9 0 (str (xO nx9))) HY11.out)
                  clear hlf9 hq9 hls9 hxl9 ht9 HI9 HI10 HY11 HNX9
                  go_wp2_with fail
                  have hkl9 : (Ks ++ [(((.mk 5 num nm ds names ty Bd), ⟨.slice a1 names.length c1, .slice a2 n2 c2, .slice a3 n3 c3, .slice ab Bd.length cb⟩) : Kst)]).length = Ks.length + 1 := by simp
                  rw [← hkl9] at HI11
                  go_roundg ((rsO nx9).length + (if nx9.isSome = true then 1 else 0))
                  case measure => have h1 := HNM9.out; have h2 := HLE9.out; omega
                  case rel => exact ⟨nx9, n9, cnt6, lf9, mo9, Y9, X4, ao8, cap8, _, by rw [hkl9], rfl, rfl, Nat.le_refl _, by have h1 := HNM9.out; have h2 := HLE9.out; omega, by omega, by rw [hkl9]; omega, HI11, HLS9, HXL9, HXN9, HRs9⟩
            · have HRs4 : Hid (RES = (blkR rs i n (cnt + 1)).pre (Ks.map Prod.fst ++ [.mk op num nm ds names ty []])) := by show _ = _; rw [← pre_snoc, HRs3.out, if_neg h60, if_neg h5]
              have hob : (op == 5) = false := by simpa using h5
              have HSD7 : Hid (Sd V5 (fun b => (w.heap.size ≤ b ∧ b ≠ Y ∧ b ≠ X4) ∧ some b ≠ (Value.slice av Ks.length cv).ownBlock) (.mk op num nm ds names ty []) ⟨.slice a1 names.length c1, .slice a2 n2 c2, .slice a3 n3 c3, nilS⟩) := Sd.of HSD5.out.1 HSD5.out.2 (Sds.nil _ _)
              have HL6 : Hid (rs.length + 1 ≤ gk ∧ n + rs.length ≤ 30000000) := ⟨hg1, hg2⟩
              have HI7 : Hid (BkI w V5 q Y X4 L lf mo n (cnt + 1) l3 (.slice av Ks.length cv) Ks) := by exact HI5.out
              clear HRs3 h5 HSD5 HI5
              have hkl : Ks.length ≤ 3000000 := by omega
              obtain ⟨ao8, cap8, w8, hrun, hI8⟩ := HI7.out.push (.mk op num nm ds names ty []) ⟨.slice a1 names.length c1, .slice a2 n2 c2, .slice a3 n3 c3, nilS⟩ HSD7.out hkl
              have HRUN : Hid ((Builtin.append_ #[23, 23] 23 #[.slice av Ks.length cv, .slice (some ⟨(V5).heap.size, 0, none⟩) 1 1]).run Tryz.prog ((V5).alloc (sbO (i64 op) (str nm) (str ds) (.slice a1 names.length c1) (i64 ty.kind) (i64 ty.num) (.slice a2 n2 c2) (.slice a3 n3 c3) (i64 num) nilS)) = .ok (.slice ao8 (Ks.length + 1) cap8) w8) := hrun
              have HI8 := hid hI8
              obtain ⟨t0, t1, t2, t3, t4, t5, t6, t7, t8, t9, _, _, _, _, _, _, _, _, _, _⟩ := sfs HSB5.out
              clear hrun hI8 hkl
              go_upto_region 18 with (at_builtin; refine wpList_app_run rfl (.tmp 63) (.tmp 65) 23 rfl _ _ rfl rfl 23 rfl _ _ HRUN.out ?_)
              clear t0 t1 t2 t3 t4 t5 t6 t7 t8 t9 HRUN HSB5 HSD7
              have y8 := blk_cell HI8.out.hY 0
              have HI9 := hid (HI8.out.newY l3)
              go_upto_region 4 with fail
              clear y8 HI8
              obtain ⟨Y9, hY9⟩ : ∃ Y9, Y9 = w8.heap.size := ⟨_, rfl⟩
              rw [← hY9] at HI9 ⊢
              clear hY9
              generalize w8.alloc (wdO l3) = w9 at *
              obtain ⟨nx9, n9, hnx9⟩ : ∃ nx n1, nxt (rs) n = (nx, n1) := ⟨_, _, rfl⟩
              have HNX9 := hid (next_ok2 (nx := nx9) (n := n9) lf mo n (cnt + 1) w9 (HG.out.touch HI9.out.tt hB) hB HI9.out.hq (by have := HI9.out.hl; omega) (by rw [HLs.out]; have := HL6.out; omega) (by rw [HLs.out]; exact hnx9))
              have HNM9 : Hid ((rsO nx9).length + (if nx9.isSome = true then 1 else 0) ≤ (rs).length ∧ n9 + (rsO nx9).length ≤ n + (rs).length) := by
                show _ ∧ _
                cases nx9 with
                | none => have := nxt_none _ _ _ hnx9; simp only [rsO]; simp; omega
                | some z => obtain ⟨x, rs⟩ := z; have := nxt_some _ _ _ _ _ hnx9; simp only [rsO]; simp; exact ⟨this.2.2, by omega⟩
              have HRs9 : Hid (RES = (nxtR i (cnt + 1) (nx9, n9)).pre ((Ks ++ [(((.mk op num nm ds names ty []), ⟨.slice a1 names.length c1, .slice a2 n2 c2, .slice a3 n3 c3, nilS⟩) : Kst)]).map (·.1))) := by show _ = _; rw [HRs4.out, blkR_nxt, hnx9, List.map_append]; rfl
              have HXN9 : Hid (∀ x rs, nx9 = some (x, rs) → x ≠ []) := fun x rs h => (nxt_some _ _ _ _ _ (h ▸ hnx9)).1
              have HLE9 := hid HL6.out
              clear hnx9 HRs4
              go_wp2_with fail
              refine HNX9.out.mono ?_
              rintro e w10 ⟨rfl, ⟨lf9, mo9, hlf9, hq9, hls9⟩, hxl9, ht9⟩
              have HI10 := hid (HI9.out.onq ht9 hq9 (by have := HI9.out.hl; omega))
              have HLS9 : Hid (linesM lf9 mo9 = rsO nx9) := hls9
              have HXL9 : Hid ((xO nx9).length ≤ 3000000) := by show _ ≤ _; have := HI9.out.hl; omega
              have y10 := blk_cell HI10.out.hY 0
              have yf10 := blk_frozen HI10.out.hY 0
              have HY11 : Hid ((w10.setCell ⟨Y9, 0, none⟩ (str (xO nx9))).heap[Y9]? = some (wdO (xO nx9))) := by
                have := heap_setCell_same w10 Y9 0 _ 83 (str (xO nx9)) HI10.out.hY
                simpa using hid this
              have HI11 := hid (HI10.out.onY (ts w10 Y9 0 (str (xO nx9))) HY11.out)
              clear hlf9 hq9 hls9 hxl9 ht9 HI9 HI10 HY11 HNX9
              go_wp2_with fail
              have hkl9 : (Ks ++ [(((.mk op num nm ds names ty []), ⟨.slice a1 names.length c1, .slice a2 n2 c2, .slice a3 n3 c3, nilS⟩) : Kst)]).length = Ks.length + 1 := by simp
              rw [← hkl9] at HI11
              go_roundg ((rsO nx9).length + (if nx9.isSome = true then 1 else 0))
              case measure => have h1 := HNM9.out; have h2 := HLE9.out; omega
              case rel => exact ⟨nx9, n9, cnt + 1, lf9, mo9, Y9, X4, ao8, cap8, _, by rw [hkl9], rfl, rfl, Nat.le_refl _, by have h1 := HNM9.out; have h2 := HLE9.out; omega, by omega, by rw [hkl9]; omega, HI11, HLS9, HXL9, HXN9, HRs9⟩
end Go.Proofs.YtjppcfjjpkniaaaGreatDoor
namespace Go.Proofs.YtjppcfjjpkniaaaGreatDoor
open Go.ChangeShapes Go.WideShapes Go.ChangeAt Go.RowKit Go.Deep
attribute [local go_sem ↓] Go.wp_at_zero Go.wp_at_succ
set_option maxRecDepth 100000

theorem block_ok {B q : Nat} (hB : B ≤ q) : ∀ (d i : Nat), i + d = 4 → ∀ (left : Bs) (more : Bool) (n cnt L : Nat) (w : World), Gl B w → w.heap[q]? = some (rdO left more (n : Nat) (cnt : Nat)) → left.length ≤ L → L ≤ 3000000 → n + (linesM left more).length ≤ 30000000 → cnt ≤ 60 → Calls Tryz.prog 18 #[pq q, i64 (i : Int)] w (BlkOk w q L (blkR (linesM left more) i n cnt))
  | 0, i, hd, left, more, n, cnt, L, w, hg, hq, hl, hL, hn, hc => block_in i (by omega) (fun h => by omega) left more n cnt L w hg hB hq hl hL hn hc
  | d + 1, i, hd, left, more, n, cnt, L, w, hg, hq, hl, hL, hn, hc => by
    have ih := block_ok hB d (i + 1) (by omega)
    have e : ((i + 1 : Nat) : Int) = (i : Int) + 1 := by omega
    rw [e] at ih
    exact block_in i (by omega) (fun _ => ih) left more n cnt L w hg hB hq hl hL hn hc
theorem parseR_blkR (text : Bs) : parseR text = match blkR (linesM text true) 0 0 0 with
    | .bad k => ([], k)
    | .ok l _ _ _ => (l, 0) := by
  unfold parseR blkR linesM
  rw [if_pos rfl, List.length_map]
  rfl
set_option maxHeartbeats 6400000 in
theorem lparse_ok (text : Bs) (w : World) (he : Env w) (hl : text.length ≤ 3000000) : Calls Tryz.prog 9 #[str text] w fun e w' => (∃ a c, e = .returned (.tuple #[.slice a (parseR text).1.length c, i64 ((parseR text).2 : Nat)]) ∧ Sds w' (fun k => w.heap.size ≤ k) (parseR text).1 (.slice a (parseR text).1.length c)) ∧ Below w.heap.size w w' := by
  have hn : (linesM text true).length ≤ 3000001 := by
    have := lns_len text
    unfold linesM
    rw [if_pos rfl, List.length_map]
    omega
  have hg : Gl w.heap.size (w.alloc (rdO text true 0 0)) := (Gl.max he).below (below_one w _)
  have HBK := hid (block_ok (B := w.heap.size) (q := w.heap.size) (Nat.le_refl _) 4 0 rfl text true 0 0 text.length (w.alloc (rdO text true 0 0)) hg (heap_last w _) (Nat.le_refl _) hl (by omega) (by omega))
  have HPR := hid (parseR_blkR text)
  have HB0 : Hid (Below w.heap.size w (w.alloc (rdO text true 0 0))) := below_one w _
  generalize blkR (linesM text true) 0 0 0 = R at *
  generalize parseR text = P at *
  clear hg hn he hl
  go_enter Tryz.func9, Tryz.ntmps9
  go_upto_region 2 with fail
  obtain ⟨q, hq⟩ : ∃ q, q = w.heap.size := ⟨_, rfl⟩
  have HQe : Hid (w.heap.size ≤ q) := by show _ ≤ _; omega
  have HBK2 : Hid (Calls Tryz.prog 18 #[pq q, i64 ((0 : Nat) : Int)] (w.alloc (rdO text true 0 0)) (BlkOk (w.alloc (rdO text true 0 0)) q text.length R)) := by rw [hq]; exact HBK
  rw [← hq]
  clear hq HBK
  generalize w.alloc (rdO text true 0 0) = V at *
  go_wp2_with fail
  refine HBK2.out.mono ?_
  cases R with
  | bad k =>
    have HP : Hid (P = ([], k)) := HPR.out
    rintro e w1 ⟨⟨a, n, c, rfl, lf, mo, cnt, hq1⟩, ht⟩
    have q2 := blk_cell hq1 2
    have HB1 : Hid (Below w.heap.size w w1) := HB0.out.trans (ht.below HQe.out HB0.out.size)
    clear hq1 ht HPR HBK2 HB0
    go_simp
    go_wp2_with fail
    go_quiet (fail)
    go_wp2_with fail
    go_ret2
    rw [HP.out]
    exact ⟨⟨none, 0, rfl, Sds.nil _ _⟩, ⟨HB1.out.os, HB1.out.tape, HB1.out.output, HB1.out.size, HB1.out.block⟩⟩
  | ok l rest n cnt =>
    have HP : Hid (P = (l, 0)) := HPR.out
    rintro e w1 ⟨⟨a, c, rfl, hs, lf, mo, hlf, hq1, hls⟩, ht⟩
    have HB1 : Hid (Below w.heap.size w w1) := HB0.out.trans (ht.below HQe.out HB0.out.size)
    have HS1 : Hid (Sds w1 (fun k => w.heap.size ≤ k) l (.slice a l.length c)) := hs.mono fun b hb _ => Nat.le_trans HB0.out.size hb
    clear hs hlf hq1 hls ht HPR HBK2 HB0
    go_simp
    go_wp2_with fail
    go_ret2
    rw [HP.out]
    exact ⟨⟨a, c, rfl, HS1.out⟩, HB1.out⟩
end Go.Proofs.YtjppcfjjpkniaaaGreatDoor
