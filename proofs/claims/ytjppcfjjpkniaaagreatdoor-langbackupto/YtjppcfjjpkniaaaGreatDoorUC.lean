/- Texts Ra Ev Nu Ord2 in one; no statement is proved in this text. -/
import Derived.Test.YtjppcfjjpkniaaaGreatDoorUB
import Derived.Test.YtjppcfjjpkniaaaGreatDoorUA
namespace Go.Proofs.YtjppcfjjpkniaaaGreatDoor
open Go.ChangeShapes Go.WideShapes Go.ChangeAt Go.RowKit Go.Deep
attribute [local go_sem ↓] Go.wp_at_zero Go.wp_at_succ

abbrev ba (l : Bs) : ByteArray := ⟨l.toArray⟩
theorem ba_inj {a b : Bs} (h : ba a = ba b) : a = b := by
  have h1 : a.toArray = b.toArray := congrArg ByteArray.data h
  have h2 := congrArg Array.toList h1
  simpa using h2
theorem bas_mem {l : List Bs} {x : Bs} : ba x ∈ l.map ba ↔ x ∈ l := by
  constructor
  · intro h
    obtain ⟨y, hy, e⟩ := List.mem_map.1 h
    rw [← ba_inj e]; exact hy
  · intro h; exact List.mem_map.2 ⟨x, h, rfl⟩
theorem cont_eq (l : List Bs) (n : Nat) (x : Bs) : Lib.containsS ((l.map ba).take n) (ba x) = (l.take n).contains x := by
  rw [Bool.eq_iff_iff, Lib.containsS_iff, ← List.map_take, bas_mem, List.contains_iff_mem]
theorem bas_cells {w : World} {b off : Nat} {l : List Bs} (h : ∀ i x, l[i]? = some x → w.cell? ⟨b, off + i, none⟩ = some (str x)) : ∀ j, j < (l.map ba).length → w.cell? ⟨b, off + j, none⟩ = some (.string ((l.map ba).getD j ByteArray.empty)) := fun j hj => by
  have hj' : j < l.length := by simpa using hj
  rw [h j _ (List.getElem?_eq_getElem hj')]
  simp [List.getD_eq_getElem?_getD, hj']
theorem Strs.cells {w : World} {S : Nat → Prop} {v : Value} {l : List Bs} (h : Strs w S v l) : ∃ ao cap, v = .slice ao l.length cap ∧ l.length ≤ cap ∧ (l = [] ∨ ∃ b off, ao = some ⟨b, off, none⟩ ∧ b < w.heap.size ∧ ∀ i x, l[i]? = some x → w.cell? ⟨b, off + i, none⟩ = some (str x)) := by
  obtain ⟨ao, cap, rfl, _, h2, h3⟩ := h
  refine ⟨ao, cap, rfl, h2.1, ?_⟩
  rcases h3 with h3 | ⟨b, off, h4, _, h5, h6⟩
  · exact Or.inl h3
  · exact Or.inr ⟨b, off, h4, h5, h6⟩
theorem namesTo_snoc (l : List Bs) (k : Nat) (h : k < l.length) : namesTo l (k + 1) = (namesTo l k && (nameB l[k] && !(l.take k).contains l[k])) := by
  unfold namesTo
  rw [List.range_succ, List.all_append]
  simp only [List.all_cons, List.all_nil, Bool.and_true, getD_at l k h]
theorem namesTo_le (l : List Bs) (k : Nat) : ∀ n, k ≤ n → namesTo l k = false → namesTo l n = false := by
  intro n hn h
  unfold namesTo at h ⊢
  rw [List.all_eq_false] at h ⊢
  obtain ⟨x, hx, hp⟩ := h
  exact ⟨x, List.mem_range.2 (by have := List.mem_range.1 hx; omega), hp⟩
set_option maxRecDepth 100000 in
set_option maxHeartbeats 3200000 in
theorem areNames_ok (l : List Bs) (w : World) (S : Nat → Prop) (v : Value) (hS : Strs w S v l) : Calls Tryz.prog 126 #[v] w fun e w' => e = .returned (.bool (namesTo l l.length)) ∧ w' = w := by
  have hsz : ∀ x ∈ l, x.length ≤ maxLen := by obtain ⟨_, _, _, _, h, _⟩ := hS; exact h.2
  have hl : l.length ≤ maxLen := by obtain ⟨_, _, _, h, _, _⟩ := hS; exact h
  obtain ⟨ao, cap, rfl, hcap, hC⟩ := hS.cells
  unfold maxLen at hl
  have HSZ := hid hsz
  have HC := hid hC
  obtain ⟨B, hB⟩ : ∃ B, B = namesTo l l.length := ⟨_, rfl⟩
  have HBe := hid hB
  rw [← hB]
  clear hB hS hsz hC
  go_enter Tryz.func126, Tryz.ntmps126
  go_wp2_with fail
  go_loop [7] (fun u => ∃ i : Nat, i ≤ l.length ∧ u = i64 i ∧ Hid (namesTo l i = true)) (fun u => l.length - (intOf u).toNat)
  case atStart => exact ⟨0, by omega, rfl, by show _ = _; rfl⟩
  case round =>
    obtain ⟨i, hi, rfl, HT⟩ := hrel
    by_cases hlt : i < l.length
    · obtain ⟨b, off, rfl, hblt, hcs⟩ : ∃ b off, ao = some ⟨b, off, none⟩ ∧ b < w.heap.size ∧ ∀ i x, l[i]? = some x → w.cell? ⟨b, off + i, none⟩ = some (str x) := by
        rcases HC.out with h | h
        · subst h; simp at hlt
        · exact h
      have cI := hcs i _ (List.getElem?_eq_getElem hlt)
      obtain ⟨x, hx⟩ : ∃ x, x = l[i] := ⟨_, rfl⟩
      rw [← hx] at cI
      have hxs : x.length ≤ maxLen := by rw [hx]; exact HSZ.out _ (List.getElem_mem hlt)
      have HNM : Hid (Calls Tryz.prog 45 #[str x] w fun e w' => e = .returned (.bool (nameB x)) ∧ w' = w) := name_ok x w hxs
      have HCT : Hid (Calls Tryz.prog 135 #[.slice (some ⟨b, off, none⟩) i cap, str x] w fun e w' => e = .returned (.bool ((l.take i).contains x)) ∧ w' = w) := by
        have := Tryz.slices_Contains_string b off i cap (l.map ba) (ba x) w (by simp; omega) (by omega) (bas_cells hcs)
        rw [cont_eq] at this
        exact this
      have hstep : namesTo l (i + 1) = (nameB x && !(l.take i).contains x) := by rw [namesTo_snoc l i hlt, HT.out, ← hx]; rfl
      have HST := hid hstep
      have HNO : Hid (namesTo l (i + 1) = false → B = false) := fun h => by rw [HBe.out]; exact namesTo_le l (i + 1) _ (by omega) h
      generalize (l.take i).contains x = C1 at *
      generalize nameB x = C2 at *
      have hcI : (i : Int) ≤ cap := by omega
      clear hx hxs hcs hstep
      cases C2 with
      | false =>
        have HF : Hid (B = false) := HNO.out (by rw [HST.out]; rfl)
        go_wp2_with fail
        refine HNM.out.mono ?_
        rintro e v1 ⟨rfl, hv⟩
        replace hv := hv.symm
        subst hv
        go_wp2_with fail
        go_ret
        exact ⟨by rw [HF.out]; rfl, rfl⟩
      | true =>
        go_wp2_with fail
        refine HNM.out.mono ?_
        rintro e v1 ⟨rfl, hv⟩
        replace hv := hv.symm
        subst hv
        go_wp2_with fail
        refine HCT.out.mono ?_
        rintro e v1 ⟨rfl, hv⟩
        replace hv := hv.symm
        subst hv
        cases C1 with
        | true =>
          have HF : Hid (B = false) := HNO.out (by rw [HST.out]; rfl)
          go_wp2_with fail
          go_ret
          exact ⟨by rw [HF.out]; rfl, rfl⟩
        | false =>
          have HT2 : Hid (namesTo l (i + 1) = true) := by show _ = _; rw [HST.out]; rfl
          go_wp2_with fail
          go_round
          case rel => exact ⟨i + 1, by omega, by go_num, HT2⟩
          case measure => simp [intOf]; omega
    · have HF : Hid (B = true) := by
        show _ = _
        rw [HBe.out]
        have : i = l.length := by omega
        rw [← this]; exact HT.out
      go_wp2_with fail
      go_ret
      exact ⟨by rw [HF.out]; rfl, rfl⟩
set_option maxRecDepth 100000 in
set_option maxHeartbeats 6400000 in
theorem rightAlone_ok (k n : Int) (names : List Bs) (kids : List Ty) (w : World) (S : Nat → Prop) (nv kv : Value) (hR : Rd w S (.mk k n names kids) nv kv) :
    Calls Tryz.prog 110 #[tyV k n nv kv] w fun e w' => e = .returned (.bool (nodeB k n names kids.length)) ∧ Below w.heap.size w w' := by
  obtain ⟨R, hRe⟩ : ∃ R, R = nodeB k n names kids.length := ⟨_, rfl⟩
  have HRe := hid hRe
  rw [← hRe]
  clear hRe
  have HRd : Hid (Rd w S (.mk k n names kids) nv kv) := hR
  obtain ⟨⟨an, cn, rfl, hnl, hz1, hz2⟩, hkl, ak, ck, rfl, hz3⟩ := hR.kid
  clear hz1 hz2 hz3
  unfold maxLen at hnl hkl
  have HX : Hid ((w.alloc (.cells #[i64 k, i64 n, .slice an names.length cn, .slice ak kids.length ck] 49)).heap[w.heap.size]? = some (.cells #[i64 k, i64 n, .slice an names.length cn, .slice ak kids.length ck] 49)) := heap_last w _
  have HBV : Hid (Below w.heap.size w (w.alloc (.cells #[i64 k, i64 n, .slice an names.length cn, .slice ak kids.length ck] 49))) := below_one w _
  clear hR 
  go_enter Tryz.func110, Tryz.ntmps110
  go_upto_region 1 with fail
  obtain ⟨Z, hZ⟩ : ∃ Z, Z = w.heap.size := ⟨_, rfl⟩
  rw [← hZ] at HX ⊢
  generalize w.alloc (.cells #[i64 k, i64 n, .slice an names.length cn, .slice ak kids.length ck] 49) = V at *
  have y0 : V.cell? ⟨Z, 0, none⟩ = some (i64 k) := blk_cell HX.out 0
  have y1 : V.cell? ⟨Z, 1, none⟩ = some (i64 n) := blk_cell HX.out 1
  have y2 : V.cell? ⟨Z, 2, none⟩ = some (.slice an names.length cn) := blk_cell HX.out 2
  have y3 : V.cell? ⟨Z, 3, none⟩ = some (.slice ak kids.length ck) := blk_cell HX.out 3
  have hZV : Z < V.heap.size := blk_lt HX.out
  have HZ := hid hZ
  clear hZ
  have HTW : Hid (Calls Tryz.prog 126 #[.slice an names.length cn] V fun e w' => e = .returned (.bool (namesTo names names.length)) ∧ w' = V) := areNames_ok names V S _ (HRd.out.under (HZ.out ▸ HBV.out)).kid.1
  unfold nodeB at HRe
  generalize namesTo names names.length = TW at *
  generalize hNl : names.length = NL at *
  generalize hKl : kids.length = KL at *
  clear hNl hKl HRd
  by_cases k1 : k = 1
  · subst k1
    by_cases b8 : n = 8
    · subst b8
      by_cases a1 : NL = 0
      · subst a1
        by_cases a2 : KL = 0
        · subst a2
          have HV : Hid (R = true) := by show _ = _; rw [HRe.out]; simp
          clear HRe
          go_wp2_with fail
          go_ret
          exact ⟨by rw [HV.out]; rfl, HBV.out⟩
        · have a2I : ((KL : Int) == 0) = false := by simp; omega
          have HV : Hid (R = false) := by show _ = _; rw [HRe.out]; simp [a2]
          clear HRe
          go_wp2_with fail
          go_ret
          exact ⟨by rw [HV.out]; rfl, HBV.out⟩
      · have a1I : ¬ (NL : Int) = 0 := by omega
        have HV : Hid (R = false) := by show _ = _; rw [HRe.out]; simp [a1]
        clear HRe
        go_wp2_with fail
        go_ret
        exact ⟨by rw [HV.out]; rfl, HBV.out⟩
    by_cases b16 : n = 16
    · subst b16
      by_cases a1 : NL = 0
      · subst a1
        by_cases a2 : KL = 0
        · subst a2
          have HV : Hid (R = true) := by show _ = _; rw [HRe.out]; simp
          clear HRe
          go_wp2_with fail
          go_ret
          exact ⟨by rw [HV.out]; rfl, HBV.out⟩
        · have a2I : ((KL : Int) == 0) = false := by simp; omega
          have HV : Hid (R = false) := by show _ = _; rw [HRe.out]; simp [a2]
          clear HRe
          go_wp2_with fail
          go_ret
          exact ⟨by rw [HV.out]; rfl, HBV.out⟩
      · have a1I : ¬ (NL : Int) = 0 := by omega
        have HV : Hid (R = false) := by show _ = _; rw [HRe.out]; simp [a1]
        clear HRe
        go_wp2_with fail
        go_ret
        exact ⟨by rw [HV.out]; rfl, HBV.out⟩
    by_cases b32 : n = 32
    · subst b32
      by_cases a1 : NL = 0
      · subst a1
        by_cases a2 : KL = 0
        · subst a2
          have HV : Hid (R = true) := by show _ = _; rw [HRe.out]; simp
          clear HRe
          go_wp2_with fail
          go_ret
          exact ⟨by rw [HV.out]; rfl, HBV.out⟩
        · have a2I : ((KL : Int) == 0) = false := by simp; omega
          have HV : Hid (R = false) := by show _ = _; rw [HRe.out]; simp [a2]
          clear HRe
          go_wp2_with fail
          go_ret
          exact ⟨by rw [HV.out]; rfl, HBV.out⟩
      · have a1I : ¬ (NL : Int) = 0 := by omega
        have HV : Hid (R = false) := by show _ = _; rw [HRe.out]; simp [a1]
        clear HRe
        go_wp2_with fail
        go_ret
        exact ⟨by rw [HV.out]; rfl, HBV.out⟩
    have e8 : (n == 8) = false := by simpa using b8
    have e16 : (n == 16) = false := by simpa using b16
    have e32 : (n == 32) = false := by simpa using b32
    have HV : Hid (R = false) := by show _ = _; rw [HRe.out]; simp [b8, b16, b32]
    clear HRe
    go_wp2_with fail
    go_ret
    exact ⟨by rw [HV.out]; rfl, HBV.out⟩
  by_cases k2 : k = 2
  · subst k2
    by_cases b1 : 0 ≤ n
    · have c1 : decide (0 ≤ n) = true := by simpa using b1
      by_cases b2 : n ≤ 255
      · have c2 : decide (n ≤ 255) = true := by simpa using b2
        by_cases a1 : NL = 0
        · subst a1
          by_cases a2 : KL = 0
          · subst a2
            have HV : Hid (R = true) := by show _ = _; rw [HRe.out]; simp [b1, b2]
            clear HRe
            go_wp2_with fail
            go_ret
            exact ⟨by rw [HV.out]; rfl, HBV.out⟩
          · have a2I : ((KL : Int) == 0) = false := by simp; omega
            have HV : Hid (R = false) := by show _ = _; rw [HRe.out]; simp [a2]
            clear HRe
            go_wp2_with fail
            go_ret
            exact ⟨by rw [HV.out]; rfl, HBV.out⟩
        · have a1I : ¬ (NL : Int) = 0 := by omega
          have HV : Hid (R = false) := by show _ = _; rw [HRe.out]; simp [a1]
          clear HRe
          go_wp2_with fail
          go_ret
          exact ⟨by rw [HV.out]; rfl, HBV.out⟩
      · have c2 : decide (n ≤ 255) = false := by simpa using b2
        have HV : Hid (R = false) := by show _ = _; rw [HRe.out]; simp [c2]
        clear HRe
        go_wp2_with fail
        go_ret
        exact ⟨by rw [HV.out]; rfl, HBV.out⟩
    · have c1 : decide (0 ≤ n) = false := by simpa using b1
      have HV : Hid (R = false) := by show _ = _; rw [HRe.out]; simp [c1]
      clear HRe
      go_wp2_with fail
      go_ret
      exact ⟨by rw [HV.out]; rfl, HBV.out⟩
  by_cases k3 : k = 3
  · subst k3
    by_cases b1 : 0 ≤ n
    · have c1 : decide (0 ≤ n) = true := by simpa using b1
      by_cases b2 : n ≤ 96
      · have c2 : decide (n ≤ 96) = true := by simpa using b2
        by_cases a1 : NL = 0
        · subst a1
          by_cases a2 : KL = 1
          · subst a2
            have HV : Hid (R = true) := by show _ = _; rw [HRe.out]; simp [b1, b2]
            clear HRe
            go_wp2_with fail
            go_ret
            exact ⟨by rw [HV.out]; rfl, HBV.out⟩
          · have a2I : ((KL : Int) == 1) = false := by simp; omega
            have HV : Hid (R = false) := by show _ = _; rw [HRe.out]; simp [a2]
            clear HRe
            go_wp2_with fail
            go_ret
            exact ⟨by rw [HV.out]; rfl, HBV.out⟩
        · have a1I : ¬ (NL : Int) = 0 := by omega
          have HV : Hid (R = false) := by show _ = _; rw [HRe.out]; simp [a1]
          clear HRe
          go_wp2_with fail
          go_ret
          exact ⟨by rw [HV.out]; rfl, HBV.out⟩
      · have c2 : decide (n ≤ 96) = false := by simpa using b2
        have HV : Hid (R = false) := by show _ = _; rw [HRe.out]; simp [c2]
        clear HRe
        go_wp2_with fail
        go_ret
        exact ⟨by rw [HV.out]; rfl, HBV.out⟩
    · have c1 : decide (0 ≤ n) = false := by simpa using b1
      have HV : Hid (R = false) := by show _ = _; rw [HRe.out]; simp [c1]
      clear HRe
      go_wp2_with fail
      go_ret
      exact ⟨by rw [HV.out]; rfl, HBV.out⟩
  by_cases k4 : k = 4
  · subst k4
    by_cases b1 : n = 0
    · subst b1
      by_cases a1 : 1 ≤ KL
      · have a1I : decide (1 ≤ (KL : Int)) = true := by simpa using (by omega : 1 ≤ (KL : Int))
        by_cases a2 : KL ≤ 12
        · have a2I : decide ((KL : Int) ≤ 12) = true := by simpa using (by omega : (KL : Int) ≤ 12)
          by_cases a3 : NL = KL
          · subst a3
            cases TW with
            | true =>
              have HV : Hid (R = true) := by show _ = _; rw [HRe.out]; simp [a1, a2]
              clear HRe
              go_wp2_with fail
              refine HTW.out.mono ?_
              rintro e w9 ⟨rfl, hv⟩
              replace hv := hv.symm
              subst hv
              go_wp2_with fail
              go_ret
              exact ⟨by rw [HV.out]; rfl, HBV.out⟩
            | false =>
              have HV : Hid (R = false) := by show _ = _; rw [HRe.out]; simp
              clear HRe
              go_wp2_with fail
              refine HTW.out.mono ?_
              rintro e w9 ⟨rfl, hv⟩
              replace hv := hv.symm
              subst hv
              go_wp2_with fail
              go_ret
              exact ⟨by rw [HV.out]; rfl, HBV.out⟩
          · have a3I : ¬ (NL : Int) = KL := by omega
            have HV : Hid (R = false) := by show _ = _; rw [HRe.out]; simp [a3]
            clear HRe
            go_wp2_with fail
            go_ret
            exact ⟨by rw [HV.out]; rfl, HBV.out⟩
        · have a2I : ¬ (KL : Int) ≤ 12 := by omega
          have HV : Hid (R = false) := by show _ = _; rw [HRe.out]; simp [a2]
          clear HRe
          go_wp2_with fail
          go_ret
          exact ⟨by rw [HV.out]; rfl, HBV.out⟩
      · have a1I : ¬ 1 ≤ (KL : Int) := by omega
        have HV : Hid (R = false) := by show _ = _; rw [HRe.out]; simp [a1]
        clear HRe
        go_wp2_with fail
        go_ret
        exact ⟨by rw [HV.out]; rfl, HBV.out⟩
    · have HV : Hid (R = false) := by show _ = _; rw [HRe.out]; simp [b1]
      clear HRe
      go_wp2_with fail
      go_ret
      exact ⟨by rw [HV.out]; rfl, HBV.out⟩
  have HV : Hid (R = false) := by show _ = _; rw [HRe.out]; simp [k1, k2, k3, k4]
  clear HRe
  go_wp2_with fail
  go_ret
  exact ⟨by rw [HV.out]; rfl, HBV.out⟩
end Go.Proofs.YtjppcfjjpkniaaaGreatDoor
namespace Go.Proofs.YtjppcfjjpkniaaaGreatDoor
open Go.ChangeShapes Go.WideShapes Go.ChangeAt Go.RowKit Go.Deep
attribute [local go_sem ↓] Go.wp_at_zero Go.wp_at_succ

abbrev f1 (c : Nat) : Value := .func (.func 108) #[] #[pq c]
set_option maxRecDepth 100000 in
set_option maxHeartbeats 3200000 in
theorem ask1_ok (T : Ty) (w : World) (S : Nat → Prop) (nv kv : Value) (hR : Rd w S T nv kv) (c : Nat) (m d : Int) (hc : w.heap[c]? = some (.cells #[i64 m] 3)) (hm : 0 ≤ m) (hm2 : m ≤ 1000) : Calls Tryz.prog 108 #[tyV T.kind T.num nv kv, i64 d, pq c] w fun e w' => e = .returned (.bool (decide (d ≤ 6) && decide (m + 1 ≤ 100))) ∧ w'.heap[c]? = some (.cells #[i64 (m + 1)] 3) ∧ Touch c w w' := by
  obtain ⟨an, cn, rfl, ak, ck, rfl⟩ := hR.form
  clear hR
  have hclt := blk_lt hc
  have HC : Hid ((w.alloc (.cells #[i64 T.kind, i64 T.num, .slice an T.names.length cn, .slice ak T.kids.length ck] 49)).heap[c]? = some (.cells #[i64 m] 3)) := blk_alloc hc _
  have HT : Hid (Touch c w (w.alloc (.cells #[i64 T.kind, i64 T.num, .slice an T.names.length cn, .slice ak T.kids.length ck] 49))) := (Touch.refl _ _).alloc _
  clear hc
  go_enter Tryz.func108, Tryz.ntmps108
  go_upto_region 1 with fail
  generalize w.alloc (.cells #[i64 T.kind, i64 T.num, .slice an T.names.length cn, .slice ak T.kids.length ck] 49) = V at *
  have yq : V.cell? ⟨c, 0, none⟩ = some (i64 m) := blk_cell HC.out 0
  have fq : V.frozen? ⟨c, 0, none⟩ = false := blk_frozen HC.out 0
  have HC1 : Hid ((V.setCell ⟨c, 0, none⟩ (i64 (m + 1))).heap[c]? = some (.cells #[i64 (m + 1)] 3)) := set1 HC.out _
  have HT1 : Hid (Touch c w (V.setCell ⟨c, 0, none⟩ (i64 (m + 1)))) := HT.out.setCell rfl _
  go_upto_region 2 with fail
  generalize V.setCell ⟨c, 0, none⟩ (i64 (m + 1)) = U at *
  have y0 : U.cell? ⟨c, 0, none⟩ = some (i64 (m + 1)) := blk_cell HC1.out 0
  by_cases h1 : d ≤ 6
  · go_wp2_with fail
    go_ret
    exact ⟨by simp [h1], HC1.out, HT1.out⟩
  · have h1' : decide (d ≤ 6) = false := by simpa using h1
    go_wp2_with fail
    go_ret
    exact ⟨by simp, HC1.out, HT1.out⟩
set_option maxRecDepth 100000 in
set_option maxHeartbeats 3200000 in
theorem ask2_ok (T : Ty) (w : World) (S : Nat → Prop) (nv kv : Value) (hR : Rd w S T nv kv) (d : Int) : Calls Tryz.prog 109 #[tyV T.kind T.num nv kv, i64 d] w fun e w' => e = .returned (.bool (nodeB T.kind T.num T.names T.kids.length)) ∧ Below w.heap.size w w' := by
  obtain ⟨k, n, names, kids⟩ := T
  simp only [Ty.kind, Ty.num, Ty.names, Ty.kids]
  have HRd : Hid (Rd w S (.mk k n names kids) nv kv) := hR
  obtain ⟨⟨an, cn, rfl, hnl, hz1, hz2⟩, hkl, ak, ck, rfl, hz3⟩ := hR.kid
  clear hz1 hz2 hz3
  unfold maxLen at hnl hkl
  have HX : Hid ((w.alloc (.cells #[i64 k, i64 n, .slice an names.length cn, .slice ak kids.length ck] 49)).heap[w.heap.size]? = some (.cells #[i64 k, i64 n, .slice an names.length cn, .slice ak kids.length ck] 49)) := heap_last w _
  have HBV : Hid (Below w.heap.size w (w.alloc (.cells #[i64 k, i64 n, .slice an names.length cn, .slice ak kids.length ck] 49))) := below_one w _
  clear hR 
  go_enter Tryz.func109, Tryz.ntmps109
  go_upto_region 1 with fail
  obtain ⟨Z, hZ⟩ : ∃ Z, Z = w.heap.size := ⟨_, rfl⟩
  rw [← hZ] at HX ⊢
  generalize w.alloc (.cells #[i64 k, i64 n, .slice an names.length cn, .slice ak kids.length ck] 49) = V at *
  have y0 : V.cell? ⟨Z, 0, none⟩ = some (i64 k) := blk_cell HX.out 0
  have y1 : V.cell? ⟨Z, 1, none⟩ = some (i64 n) := blk_cell HX.out 1
  have y2 : V.cell? ⟨Z, 2, none⟩ = some (.slice an names.length cn) := blk_cell HX.out 2
  have y3 : V.cell? ⟨Z, 3, none⟩ = some (.slice ak kids.length ck) := blk_cell HX.out 3
  have hZV : Z < V.heap.size := blk_lt HX.out
  have HZ := hid hZ
  clear hZ
  have HRA : Hid (Calls Tryz.prog 110 #[tyV k n (.slice an names.length cn) (.slice ak kids.length ck)] V fun e w' => e = .returned (.bool (nodeB k n names kids.length)) ∧ Below V.heap.size V w') := rightAlone_ok k n names kids V S _ _ (HRd.out.under (HZ.out ▸ HBV.out))
  go_wp2_with fail
  refine HRA.out.mono ?_
  rintro e w3 ⟨rfl, hb3⟩
  have HB3 : Hid (Below w.heap.size w w3) := HBV.out.trans (hb3.mono HBV.out.size)
  clear hb3
  go_wp2_with fail
  go_ret
  exact ⟨rfl, HB3.out⟩
def shB (c d : Int) (T : Ty) : Bool := decide (c + T.count ≤ 100 ∧ d + T.depth ≤ 7)
def EvOk (w : World) (c : Nat) (m d : Int) (T : Ty) (e : Ending) (w' : World) : Prop :=
  ∃ m' : Int, e = .returned (.bool (shB m d T)) ∧ w'.heap[c]? = some (.cells #[i64 m'] 3) ∧ Touch c w w' ∧ (shB m d T = true → m' = m + T.count)
set_option maxRecDepth 100000 in
set_option maxHeartbeats 6400000 in
theorem ev1_in (k n : Int) (names : List Bs) (kids : List Ty) (w : World) (nv kv : Value) (c : Nat) (m d : Int) (hR : Rd w (fun b => b ≠ c) (.mk k n names kids) nv kv) (hc : w.heap[c]? = some (.cells #[i64 m] 3)) (hm : 0 ≤ m) (hm2 : m ≤ 100) (hd : 0 ≤ d) (hd2 : d ≤ 7)
    (hih : ∀ T ∈ kids, ∀ (w : World) (nv kv : Value) (m d : Int), Rd w (fun b => b ≠ c) T nv kv → w.heap[c]? = some (.cells #[i64 m] 3) → 0 ≤ m → m ≤ 100 → 0 ≤ d → d ≤ 7 → Calls Tryz.prog 107 #[tyV T.kind T.num nv kv, i64 d, f1 c] w (EvOk w c m d T)) :
    Calls Tryz.prog 107 #[tyV k n nv kv, i64 d, f1 c] w (EvOk w c m d (.mk k n names kids)) := by
  have HIH := hid hih
  have hclt := blk_lt hc
  have HC : Hid ((w.alloc (.cells #[i64 k, i64 n, nv, kv] 49)).heap[c]? = some (.cells #[i64 m] 3)) := blk_alloc hc _
  obtain ⟨R, hRe⟩ : ∃ R, R = shB m d (.mk k n names kids) := ⟨_, rfl⟩
  have HRe := hid hRe
  unfold EvOk
  rw [← hRe]
  clear hRe
  have HRd : Hid (Rd w (fun b => b ≠ c) (.mk k n names kids) nv kv) := hR
  obtain ⟨⟨an, cn, rfl, hnl, hz1, hz2⟩, hkl, ak, ck, rfl, hz3⟩ := hR.kid
  clear hz1 hz2 hz3
  unfold maxLen at hnl hkl
  have HX : Hid ((w.alloc (.cells #[i64 k, i64 n, .slice an names.length cn, .slice ak kids.length ck] 49)).heap[w.heap.size]? = some (.cells #[i64 k, i64 n, .slice an names.length cn, .slice ak kids.length ck] 49)) := heap_last w _
  have HBV : Hid (Below w.heap.size w (w.alloc (.cells #[i64 k, i64 n, .slice an names.length cn, .slice ak kids.length ck] 49))) := below_one w _
  clear hR hih hc
  go_enter Tryz.func107, Tryz.ntmps107
  go_upto_region 1 with fail
  obtain ⟨Z, hZ⟩ : ∃ Z, Z = w.heap.size := ⟨_, rfl⟩
  rw [← hZ] at HX ⊢
  generalize w.alloc (.cells #[i64 k, i64 n, .slice an names.length cn, .slice ak kids.length ck] 49) = V at *
  have y0 : V.cell? ⟨Z, 0, none⟩ = some (i64 k) := blk_cell HX.out 0
  have y1 : V.cell? ⟨Z, 1, none⟩ = some (i64 n) := blk_cell HX.out 1
  have y2 : V.cell? ⟨Z, 2, none⟩ = some (.slice an names.length cn) := blk_cell HX.out 2
  have y3 : V.cell? ⟨Z, 3, none⟩ = some (.slice ak kids.length ck) := blk_cell HX.out 3
  have hZV : Z < V.heap.size := blk_lt HX.out
  have HZ := hid hZ
  clear hZ
  have HTV : Hid (Touch c w V) := by
    show Touch c w V
    exact Touch.of_below HBV.out
  have HA1 : Hid (Calls Tryz.prog 108 #[tyV k n (.slice an names.length cn) (.slice ak kids.length ck), i64 d, pq c] V fun e w' => e = .returned (.bool (decide (d ≤ 6) && decide (m + 1 ≤ 100))) ∧ w'.heap[c]? = some (.cells #[i64 (m + 1)] 3) ∧ Touch c V w') :=
    ask1_ok (.mk k n names kids) V _ _ _ (HRd.out.under (HZ.out ▸ HBV.out)) c m d HC.out hm (by omega)
  generalize hQ : (decide (d ≤ 6) && decide (m + 1 ≤ 100)) = Q0 at *
  have HQ := hid hQ
  clear hQ
  go_wp2_with fail
  refine HA1.out.mono ?_
  rintro e w1 ⟨rfl, hc1, ht1⟩
  have HC1 := hid hc1
  have HT1 : Hid (Touch c w w1) := HTV.out.trans ht1
  have HX1 : Hid (w1.heap[Z]? = some (.cells #[i64 k, i64 n, .slice an names.length cn, .slice ak kids.length ck] 49)) := by
    show _ = _
    rw [ht1.block Z hZV (by have := HZ.out; omega)]; exact HX.out
  clear hc1 ht1 y0 y1 y2 y3 HA1
  have y3 : w1.cell? ⟨Z, 3, none⟩ = some (.slice ak kids.length ck) := blk_cell HX1.out 3
  cases Q0 with
  | false =>
    have HF : Hid (R = false) := by
      show _ = _
      rw [HRe.out]
      unfold shB
      refine decide_eq_false (fun h => ?_)
      simp only [Ty.count, Ty.depth] at h
      have hq := HQ.out
      rw [decide_eq_true (show d ≤ 6 by omega), decide_eq_true (show m + 1 ≤ 100 by omega)] at hq
      cases hq
    go_wp2_with fail
    go_ret
    exact ⟨m + 1, by rw [HF.out]; rfl, HC1.out, HT1.out, fun h => by rw [HF.out] at h; cases h⟩
  | true =>
    have hq := HQ.out
    simp only [Bool.and_eq_true, decide_eq_true_eq] at hq
    obtain ⟨hd6, hm100⟩ := hq
    go_wp2_with fail
    go_loopw [17] (fun u wr => ∃ (i : Nat) (m1 : Int), i ≤ kids.length ∧ u = i64 i ∧ 0 ≤ m1 ∧ m1 ≤ 100 ∧ Hid (m1 = m + 1 + countL (kids.take i)) ∧ Hid (d + 1 + depthL (kids.take i) ≤ 7) ∧ Hid (wr.heap[c]? = some (.cells #[i64 m1] 3)) ∧ Hid (Touch c w wr)) (fun u _ => kids.length - (intOf u).toNat)
    case atStart => exact ⟨0, m + 1, by omega, rfl, by omega, by omega, by show _ = _; simp [countL], by show _ ≤ _; simp [depthL]; omega, HC1, HT1⟩
    case round =>
      obtain ⟨i, m1, hi, rfl, hm1, hm12, HM, HD, HCr, HTr⟩ := hrel
      by_cases hlt : i < kids.length
      · clear y3
        obtain ⟨_, _, ak1, ck1, he, hkid⟩ := (HRd.out.touch HTr.out).kid
        cases he
        obtain ⟨b, off, nv2, kv2, rfl, hbS, hblt, hr, hrd⟩ := hkid i hlt
        obtain ⟨T, hT⟩ : ∃ T, T = kids[i] := ⟨_, rfl⟩
        rw [← hT] at hr hrd
        have HTm : Hid (T ∈ kids) := by show _; rw [hT]; exact List.getElem_mem hlt
        have HTe : Hid (T = kids[i]) := hT
        have c0 : wr.cell? ⟨b, off + i * 4, none⟩ = some (i64 T.kind) := hr 0 _ rfl
        have c1 : wr.cell? ⟨b, off + i * 4 + 1, none⟩ = some (i64 T.num) := hr 1 _ rfl
        have c2 : wr.cell? ⟨b, off + i * 4 + 2, none⟩ = some nv2 := hr 2 _ rfl
        have c3 : wr.cell? ⟨b, off + i * 4 + 3, none⟩ = some kv2 := hr 3 _ rfl
        obtain ⟨an2, cn2, rfl, ak2, ck2, rfl⟩ := hrd.form
        have HX2 : Hid ((wr.alloc (.cells #[i64 T.kind, i64 T.num, .slice an2 T.names.length cn2, .slice ak2 T.kids.length ck2] 49)).heap[wr.heap.size]? = some (.cells #[i64 T.kind, i64 T.num, .slice an2 T.names.length cn2, .slice ak2 T.kids.length ck2] 49)) := heap_last wr _
        have HBX : Hid (Below wr.heap.size wr (wr.alloc (.cells #[i64 T.kind, i64 T.num, .slice an2 T.names.length cn2, .slice ak2 T.kids.length ck2] 49))) := below_one wr _
        have HRT : Hid (Rd (wr.alloc (.cells #[i64 T.kind, i64 T.num, .slice an2 T.names.length cn2, .slice ak2 T.kids.length ck2] 49)) _ T (.slice an2 T.names.length cn2) (.slice ak2 T.kids.length ck2)) := hrd.under HBX.out
        clear hT hr hrd hkid hbS
        go_upto_region 6 with fail
        obtain ⟨Y, hY⟩ : ∃ Y, Y = wr.heap.size := ⟨_, rfl⟩
        rw [← hY] at HX2 ⊢
        generalize wr.alloc (.cells #[i64 T.kind, i64 T.num, .slice an2 T.names.length cn2, .slice ak2 T.kids.length ck2] 49) = X at *
        have z0 : X.cell? ⟨Y, 0, none⟩ = some (i64 T.kind) := blk_cell HX2.out 0
        have z1 : X.cell? ⟨Y, 1, none⟩ = some (i64 T.num) := blk_cell HX2.out 1
        have z2 : X.cell? ⟨Y, 2, none⟩ = some (.slice an2 T.names.length cn2) := blk_cell HX2.out 2
        have z3 : X.cell? ⟨Y, 3, none⟩ = some (.slice ak2 T.kids.length ck2) := blk_cell HX2.out 3
        have hYX : Y < X.heap.size := blk_lt HX2.out
        have HY := hid hY
        clear c0 c1 c2 c3 hY
        have HCX : Hid (X.heap[c]? = some (.cells #[i64 m1] 3)) := blk_below HCr.out HBX.out
        have HTX : Hid (Touch c w X) := HTr.out.trans (Touch.of_below HBX.out)
        have HCT : Hid (countL (kids.take (i + 1)) = countL (kids.take i) + T.count) := by show _ = _; rw [HTe.out]; exact take_countL kids i hlt
        have HDT : Hid (depthL (kids.take (i + 1)) = max (depthL (kids.take i)) T.depth) := by show _ = _; rw [HTe.out]; exact take_depthL kids i hlt
        have HCA : Hid (Calls Tryz.prog 107 #[tyV T.kind T.num (.slice an2 T.names.length cn2) (.slice ak2 T.kids.length ck2), i64 (d + 1), f1 c] X (EvOk X c m1 (d + 1) T)) := HIH.out T HTm.out X _ _ m1 (d + 1) HRT.out HCX.out hm1 hm12 (by omega) (by omega)
        go_wp2_with fail
        refine HCA.out.mono ?_
        rintro e w3 ⟨m2, rfl, hc3, ht3, hf3⟩
        have HC3 := hid hc3
        have HT3 : Hid (Touch c w w3) := HTX.out.trans ht3
        have HF3 := hid hf3
        clear hc3 ht3 hf3
        generalize hE : shB m1 (d + 1) T = E at *
        have HE := hid hE
        clear hE
        cases E with
        | false =>
          have HF : Hid (R = false) := by
            show _ = _
            rw [HRe.out]
            unfold shB
            refine decide_eq_false (fun h => ?_)
            simp only [Ty.count, Ty.depth] at h
            have he := HE.out
            have h1 := countL_take kids (i + 1)
            have h2 := depthL_mem HTm.out
            have h3 := HCT.out
            have h4 := HM.out
            unfold shB at he
            rw [decide_eq_true (show m1 + T.count ≤ 100 ∧ d + 1 + T.depth ≤ 7 by omega)] at he
            cases he
          go_wp2_with fail
          go_ret
          exact ⟨m2, by rw [HF.out]; rfl, HC3.out, HT3.out, fun h => by rw [HF.out] at h; cases h⟩
        | true =>
          have he := HE.out
          unfold shB at he
          simp only [decide_eq_true_eq] at he
          have hm2e := HF3.out rfl
          have HM2 : Hid (m2 = m + 1 + countL (kids.take (i + 1))) := by show _ = _; rw [hm2e, HCT.out, HM.out]; omega
          have HD2 : Hid (d + 1 + depthL (kids.take (i + 1)) ≤ 7) := by show _ ≤ _; rw [HDT.out]; have := HD.out; omega
          have hm20 : 0 ≤ m2 := by omega
          have hm21 : m2 ≤ 100 := by omega
          clear he hm2e
          go_wp2_with fail
          exact ⟨⟨i + 1, m2, by omega, by go_num, hm20, hm21, HM2, HD2, HC3, HT3⟩, by simp [intOf]; omega⟩
      · have he : i = kids.length := by omega
        have hM := HM.out
        have hD := HD.out
        rw [he, List.take_of_length_le (Nat.le_refl _)] at hM hD
        have HF : Hid (R = true) := by
          show _ = _
          rw [HRe.out]
          unfold shB
          refine decide_eq_true ?_
          simp only [Ty.count, Ty.depth]
          omega
        have HM3 : Hid (m1 = m + (Ty.mk k n names kids).count) := by show _ = _; simp only [Ty.count]; omega
        clear he hM hD
        go_wp2_with fail
        go_ret
        exact ⟨m1, by rw [HF.out]; rfl, HCr.out, HTr.out, fun _ => HM3.out⟩
theorem ev1_ok : ∀ (M : Nat) (T : Ty), T.count ≤ M → ∀ (w : World) (nv kv : Value) (c : Nat) (m d : Int), Rd w (fun b => b ≠ c) T nv kv → w.heap[c]? = some (.cells #[i64 m] 3) → 0 ≤ m → m ≤ 100 → 0 ≤ d → d ≤ 7 → Calls Tryz.prog 107 #[tyV T.kind T.num nv kv, i64 d, f1 c] w (EvOk w c m d T)
  | 0, T, hM, _, _, _, _, _, _, _, _, _, _, _, _ => by have := count_pos T; omega
  | M + 1, .mk k n names kids, hM, w, nv, kv, c, m, d, hR, hc, hm, hm2, hd, hd2 => by
    simp only [Ty.count] at hM
    exact ev1_in k n names kids w nv kv c m d hR hc hm hm2 hd hd2 (fun T hT w nv kv m d hR hc hm hm2 hd hd2 => ev1_ok M T (by have := countL_mem hT; omega) w nv kv c m d hR hc hm hm2 hd hd2)
set_option maxRecDepth 100000 in
set_option maxHeartbeats 3200000 in
theorem ev2_in (k n : Int) (names : List Bs) (kids : List Ty) (w : World) (S : Nat → Prop) (nv kv : Value) (d : Int) (hR : Rd w S (.mk k n names kids) nv kv) (hd : 0 ≤ d) (hd2 : d ≤ 30000000)
    (hih : ∀ T ∈ kids, ∀ (w : World) (nv kv : Value), Rd w S T nv kv → Calls Tryz.prog 107 #[tyV T.kind T.num nv kv, i64 (d + 1), .func (.func 109) #[] #[]] w fun e w' => e = .returned (.bool T.formed) ∧ Below w.heap.size w w') :
    Calls Tryz.prog 107 #[tyV k n nv kv, i64 d, .func (.func 109) #[] #[]] w fun e w' => e = .returned (.bool (Ty.mk k n names kids).formed) ∧ Below w.heap.size w w' := by
  have HIH := hid hih
  obtain ⟨R, hRe⟩ : ∃ R, R = (Ty.mk k n names kids).formed := ⟨_, rfl⟩
  have HRe : Hid (R = (nodeB k n names kids.length && formedL kids)) := by show _ = _; rw [hRe, Ty.formed]
  rw [← hRe]
  clear hRe
  have HRd : Hid (Rd w S (.mk k n names kids) nv kv) := hR
  obtain ⟨⟨an, cn, rfl, hnl, hz1, hz2⟩, hkl, ak, ck, rfl, hz3⟩ := hR.kid
  clear hz1 hz2 hz3
  unfold maxLen at hnl hkl
  have HX : Hid ((w.alloc (.cells #[i64 k, i64 n, .slice an names.length cn, .slice ak kids.length ck] 49)).heap[w.heap.size]? = some (.cells #[i64 k, i64 n, .slice an names.length cn, .slice ak kids.length ck] 49)) := heap_last w _
  have HBV : Hid (Below w.heap.size w (w.alloc (.cells #[i64 k, i64 n, .slice an names.length cn, .slice ak kids.length ck] 49))) := below_one w _
  clear hR hih
  go_enter Tryz.func107, Tryz.ntmps107
  go_upto_region 1 with fail
  obtain ⟨Z, hZ⟩ : ∃ Z, Z = w.heap.size := ⟨_, rfl⟩
  rw [← hZ] at HX ⊢
  generalize w.alloc (.cells #[i64 k, i64 n, .slice an names.length cn, .slice ak kids.length ck] 49) = V at *
  have y0 : V.cell? ⟨Z, 0, none⟩ = some (i64 k) := blk_cell HX.out 0
  have y1 : V.cell? ⟨Z, 1, none⟩ = some (i64 n) := blk_cell HX.out 1
  have y2 : V.cell? ⟨Z, 2, none⟩ = some (.slice an names.length cn) := blk_cell HX.out 2
  have y3 : V.cell? ⟨Z, 3, none⟩ = some (.slice ak kids.length ck) := blk_cell HX.out 3
  have hZV : Z < V.heap.size := blk_lt HX.out
  have HZ := hid hZ
  clear hZ
  have HA2 : Hid (Calls Tryz.prog 109 #[tyV k n (.slice an names.length cn) (.slice ak kids.length ck), i64 d] V fun e w' => e = .returned (.bool (nodeB k n names kids.length)) ∧ Below V.heap.size V w') := ask2_ok (.mk k n names kids) V S _ _ (HRd.out.under (HZ.out ▸ HBV.out)) d
  generalize hQ : nodeB k n names kids.length = Q0 at *
  clear hQ
  go_wp2_with fail
  refine HA2.out.mono ?_
  rintro e w1 ⟨rfl, hb1⟩
  have HB1 : Hid (Below w.heap.size w w1) := HBV.out.trans (hb1.mono HBV.out.size)
  have HX1 : Hid (w1.heap[Z]? = some (.cells #[i64 k, i64 n, .slice an names.length cn, .slice ak kids.length ck] 49)) := blk_below HX.out hb1
  clear hb1 y0 y1 y2 y3 HA2
  have y3 : w1.cell? ⟨Z, 3, none⟩ = some (.slice ak kids.length ck) := blk_cell HX1.out 3
  cases Q0 with
  | false =>
    have HF : Hid (R = false) := by show _ = _; rw [HRe.out]; rfl
    go_wp2_with fail
    go_ret
    exact ⟨by rw [HF.out]; rfl, HB1.out⟩
  | true =>
    go_wp2_with fail
    go_loopw [17] (fun u wr => ∃ (i : Nat), i ≤ kids.length ∧ u = i64 i ∧ Hid (formedL (kids.take i) = true) ∧ Hid (Below w.heap.size w wr)) (fun u _ => kids.length - (intOf u).toNat)
    case atStart => exact ⟨0, by omega, rfl, by show _ = _; simp [formedL], HB1⟩
    case round =>
      obtain ⟨i, hi, rfl, HM, HB⟩ := hrel
      by_cases hlt : i < kids.length
      · clear y3
        obtain ⟨_, _, ak1, ck1, he, hkid⟩ := (HRd.out.under HB.out).kid
        cases he
        obtain ⟨b, off, nv2, kv2, rfl, hbS, hblt, hr, hrd⟩ := hkid i hlt
        obtain ⟨T, hT⟩ : ∃ T, T = kids[i] := ⟨_, rfl⟩
        rw [← hT] at hr hrd
        have HTm : Hid (T ∈ kids) := by show _; rw [hT]; exact List.getElem_mem hlt
        have HTe : Hid (T = kids[i]) := hT
        have c0 : wr.cell? ⟨b, off + i * 4, none⟩ = some (i64 T.kind) := hr 0 _ rfl
        have c1 : wr.cell? ⟨b, off + i * 4 + 1, none⟩ = some (i64 T.num) := hr 1 _ rfl
        have c2 : wr.cell? ⟨b, off + i * 4 + 2, none⟩ = some nv2 := hr 2 _ rfl
        have c3 : wr.cell? ⟨b, off + i * 4 + 3, none⟩ = some kv2 := hr 3 _ rfl
        obtain ⟨an2, cn2, rfl, ak2, ck2, rfl⟩ := hrd.form
        have HX2 : Hid ((wr.alloc (.cells #[i64 T.kind, i64 T.num, .slice an2 T.names.length cn2, .slice ak2 T.kids.length ck2] 49)).heap[wr.heap.size]? = some (.cells #[i64 T.kind, i64 T.num, .slice an2 T.names.length cn2, .slice ak2 T.kids.length ck2] 49)) := heap_last wr _
        have HBX : Hid (Below wr.heap.size wr (wr.alloc (.cells #[i64 T.kind, i64 T.num, .slice an2 T.names.length cn2, .slice ak2 T.kids.length ck2] 49))) := below_one wr _
        have HRT : Hid (Rd (wr.alloc (.cells #[i64 T.kind, i64 T.num, .slice an2 T.names.length cn2, .slice ak2 T.kids.length ck2] 49)) _ T (.slice an2 T.names.length cn2) (.slice ak2 T.kids.length ck2)) := hrd.under HBX.out
        clear hT hr hrd hkid hbS
        go_upto_region 6 with fail
        obtain ⟨Y, hY⟩ : ∃ Y, Y = wr.heap.size := ⟨_, rfl⟩
        rw [← hY] at HX2 ⊢
        generalize wr.alloc (.cells #[i64 T.kind, i64 T.num, .slice an2 T.names.length cn2, .slice ak2 T.kids.length ck2] 49) = X at *
        have z0 : X.cell? ⟨Y, 0, none⟩ = some (i64 T.kind) := blk_cell HX2.out 0
        have z1 : X.cell? ⟨Y, 1, none⟩ = some (i64 T.num) := blk_cell HX2.out 1
        have z2 : X.cell? ⟨Y, 2, none⟩ = some (.slice an2 T.names.length cn2) := blk_cell HX2.out 2
        have z3 : X.cell? ⟨Y, 3, none⟩ = some (.slice ak2 T.kids.length ck2) := blk_cell HX2.out 3
        have hYX : Y < X.heap.size := blk_lt HX2.out
        have HY := hid hY
        clear c0 c1 c2 c3 hY
        go_wp2_with fail
        refine (HIH.out T HTm.out X _ _ HRT.out).mono ?_
        rintro e w3 ⟨rfl, hb3⟩
        have hbb := HBX.out.trans (hb3.mono HBX.out.size)
        have HB3 : Hid (Below w.heap.size w w3) := HB.out.trans (hbb.mono HB.out.size)
        have htc : formedL (kids.take (i + 1)) = (formedL (kids.take i) && T.formed) := by rw [HTe.out]; exact take_formedL kids i hlt
        have HTc := hid htc
        generalize hE : T.formed = E at *
        have HE := hid hE
        clear htc hb3 hbb hE
        cases E with
        | false =>
          have HF : Hid (R = false) := by
            show _ = _
            rw [HRe.out]
            cases hf : formedL kids with
            | false => rfl
            | true => have := formedL_mem hf HTm.out; rw [HE.out] at this; cases this
          go_wp2_with fail
          go_ret
          exact ⟨by rw [HF.out]; rfl, HB3.out⟩
        | true =>
          have HM2 : Hid (formedL (kids.take (i + 1)) = true) := by show _ = _; rw [HTc.out, HM.out]; rfl
          go_wp2_with fail
          exact ⟨⟨i + 1, by omega, by go_num, HM2, HB3⟩, by simp [intOf]; omega⟩
      · have HF : Hid (R = true) := by
          show _ = _
          have := HM.out
          rw [List.take_of_length_le (by omega)] at this
          rw [HRe.out, this]; rfl
        go_wp2_with fail
        go_ret
        exact ⟨by rw [HF.out]; rfl, HB.out⟩
theorem ev2_ok : ∀ (M : Nat) (T : Ty), T.count ≤ M → ∀ (w : World) (S : Nat → Prop) (nv kv : Value) (d : Int), Rd w S T nv kv → 0 ≤ d → d + T.depth ≤ 30000000 → Calls Tryz.prog 107 #[tyV T.kind T.num nv kv, i64 d, .func (.func 109) #[] #[]] w fun e w' => e = .returned (.bool T.formed) ∧ Below w.heap.size w w'
  | 0, T, hM, _, _, _, _, _, _, _, _ => by have := count_pos T; omega
  | M + 1, .mk k n names kids, hM, w, S, nv, kv, d, hR, hd, hd2 => by
    simp only [Ty.count] at hM
    simp only [Ty.depth] at hd2
    exact ev2_in k n names kids w S nv kv d hR hd (by omega) (fun T hT w nv kv hR => ev2_ok M T (by have := countL_mem hT; omega) w S nv kv (d + 1) hR (by omega) (by have := depthL_mem hT; omega))
set_option maxRecDepth 100000 in
set_option maxHeartbeats 3200000 in
theorem check_ok (T : Ty) (w : World) (S : Nat → Prop) (nv kv : Value) (hR : Rd w S T nv kv) : Calls Tryz.prog 92 #[tyV T.kind T.num nv kv] w fun e w' => e = .returned (i64 T.err) ∧ Below w.heap.size w w' := by
  obtain ⟨E0, hE0⟩ : ∃ E0, E0 = T.err := ⟨_, rfl⟩
  have HE0 := hid hE0
  rw [← hE0]
  clear hE0
  have HS1 : Hid (∀ W, Below w.heap.size w W → ∀ c, w.heap.size ≤ c → W.heap[c]? = some (.cells #[i64 0] 3) → Calls Tryz.prog 107 #[tyV T.kind T.num nv kv, i64 1, f1 c] W (EvOk W c 0 1 T)) := fun W hW c hc hcc => ev1_ok T.count T (Nat.le_refl _) W nv kv c 0 1 ((hR.mono (S' := fun b => b ≠ c) (fun b _ hb => by omega)).move hW.size (fun b hb hlt => ⟨hb, hW.block b hlt⟩)) hcc (by omega) (by omega) (by omega) (by omega)
  have HS2 : Hid (∀ W, Below w.heap.size w W → T.depth ≤ 6 → Calls Tryz.prog 107 #[tyV T.kind T.num nv kv, i64 1, .func (.func 109) #[] #[]] W fun e w' => e = .returned (.bool T.formed) ∧ Below W.heap.size W w') := fun W hW hd => ev2_ok T.count T (Nat.le_refl _) W S nv kv 1 (hR.under hW) (by omega) (by omega)
  obtain ⟨an, cn, rfl, ak, ck, rfl⟩ := hR.form
  have HX : Hid ((w.alloc (.cells #[i64 T.kind, i64 T.num, .slice an T.names.length cn, .slice ak T.kids.length ck] 49)).heap[w.heap.size]? = some (.cells #[i64 T.kind, i64 T.num, .slice an T.names.length cn, .slice ak T.kids.length ck] 49)) := heap_last w _
  have HBV : Hid (Below w.heap.size w (w.alloc (.cells #[i64 T.kind, i64 T.num, .slice an T.names.length cn, .slice ak T.kids.length ck] 49))) := below_one w _
  clear hR
  go_enter Tryz.func92, Tryz.ntmps92
  go_upto_region 1 with fail
  obtain ⟨Z, hZ⟩ : ∃ Z, Z = w.heap.size := ⟨_, rfl⟩
  rw [← hZ] at HX ⊢
  generalize w.alloc (.cells #[i64 T.kind, i64 T.num, .slice an T.names.length cn, .slice ak T.kids.length ck] 49) = V at *
  have hZV : Z < V.heap.size := blk_lt HX.out
  have HC : Hid ((V.alloc (.cells #[i64 0] 3)).heap[V.heap.size]? = some (.cells #[i64 0] 3)) := heap_last V _
  have HX1 : Hid ((V.alloc (.cells #[i64 0] 3)).heap[Z]? = some (.cells #[i64 T.kind, i64 T.num, .slice an T.names.length cn, .slice ak T.kids.length ck] 49)) := blk_alloc HX.out _
  have HB1 : Hid (Below w.heap.size w (V.alloc (.cells #[i64 0] 3))) := HBV.out.trans ((below_one V _).mono HBV.out.size)
  have HZ := hid hZ
  clear hZ
  go_upto_region 2 with fail
  obtain ⟨c, hc⟩ : ∃ c, c = V.heap.size := ⟨_, rfl⟩
  rw [← hc] at HC hZV ⊢
  have hcl : w.heap.size ≤ c := by have := HZ.out; omega
  generalize V.alloc (.cells #[i64 0] 3) = U at *
  have y0 : U.cell? ⟨Z, 0, none⟩ = some (i64 T.kind) := blk_cell HX1.out 0
  have y1 : U.cell? ⟨Z, 1, none⟩ = some (i64 T.num) := blk_cell HX1.out 1
  have y2 : U.cell? ⟨Z, 2, none⟩ = some (.slice an T.names.length cn) := blk_cell HX1.out 2
  have y3 : U.cell? ⟨Z, 3, none⟩ = some (.slice ak T.kids.length ck) := blk_cell HX1.out 3
  have HCA : Hid (Calls Tryz.prog 107 #[tyV T.kind T.num (.slice an T.names.length cn) (.slice ak T.kids.length ck), i64 1, f1 c] U (EvOk U c 0 1 T)) := HS1.out U HB1.out c hcl HC.out
  have hZU : Z < U.heap.size := blk_lt HX1.out
  have HZc : Hid (Z ≠ c) := by show Z ≠ c; omega
  clear hc HS1
  go_wp2_with fail
  refine HCA.out.mono ?_
  rintro e w3 ⟨m2, rfl, hc3, ht3, hf3⟩
  have HX3 : Hid (w3.heap[Z]? = some (.cells #[i64 T.kind, i64 T.num, .slice an T.names.length cn, .slice ak T.kids.length ck] 49)) := by show _ = _; rw [ht3.block Z hZU HZc.out]; exact HX1.out
  have HB3 : Hid (Below w.heap.size w w3) := HB1.out.trans (ht3.below hcl HB1.out.size)
  clear hc3 ht3 hf3 y0 y1 y2 y3
  have y0 : w3.cell? ⟨Z, 0, none⟩ = some (i64 T.kind) := blk_cell HX3.out 0
  have y1 : w3.cell? ⟨Z, 1, none⟩ = some (i64 T.num) := blk_cell HX3.out 1
  have y2 : w3.cell? ⟨Z, 2, none⟩ = some (.slice an T.names.length cn) := blk_cell HX3.out 2
  have y3 : w3.cell? ⟨Z, 3, none⟩ = some (.slice ak T.kids.length ck) := blk_cell HX3.out 3
  generalize hE : shB 0 1 T = E at *
  have HE := hid hE
  clear hE
  cases E with
  | false =>
    have HF : Hid (E0 = 2) := by
      show _ = _
      rw [HE0.out]
      unfold Ty.err
      refine if_neg (fun h => ?_)
      have he := HE.out
      unfold shB at he
      rw [decide_eq_true (by omega)] at he
      cases he
    go_wp2_with fail
    go_ret
    exact ⟨by rw [HF.out]; rfl, HB3.out⟩
  | true =>
    have he := HE.out
    unfold shB at he
    simp only [decide_eq_true_eq] at he
    have HCB : Hid (Calls Tryz.prog 107 #[tyV T.kind T.num (.slice an T.names.length cn) (.slice ak T.kids.length ck), i64 1, .func (.func 109) #[] #[]] w3 fun e w' => e = .returned (.bool T.formed) ∧ Below w3.heap.size w3 w') := HS2.out w3 HB3.out (by omega)
    have HF : Hid (E0 = if T.formed = true then 0 else 4) := by
      show _ = _
      rw [HE0.out]
      unfold Ty.err
      exact if_pos (by omega)
    generalize T.formed = F at *
    clear he HS2
    go_wp2_with fail
    refine HCB.out.mono ?_
    rintro e w4 ⟨rfl, hb4⟩
    have HB4 : Hid (Below w.heap.size w w4) := HB3.out.trans (hb4.mono HB3.out.size)
    clear hb4
    cases F with
    | false =>
      go_wp2_with fail
      go_ret
      exact ⟨by rw [HF.out]; rfl, HB4.out⟩
    | true =>
      go_wp2_with fail
      go_ret
      exact ⟨by rw [HF.out]; rfl, HB4.out⟩
end Go.Proofs.YtjppcfjjpkniaaaGreatDoor
namespace Go.Proofs.YtjppcfjjpkniaaaGreatDoor
open Go.ChangeShapes Go.WideShapes Go.ChangeAt Go.RowKit Go.Deep
attribute [local go_sem ↓] Go.wp_at_zero Go.wp_at_succ

theorem trim_hit (c : UInt8) (r : Bs) : Lib.trimPrefix (c :: r) [c] = r ∧ Lib.hasPrefix (c :: r) [c] = true := by
  constructor <;> simp [Lib.trimPrefix, Lib.hasPrefix]
theorem trim_miss (c : UInt8) (l : Bs) (h : ∀ r, l ≠ c :: r) : Lib.trimPrefix l [c] = l ∧ Lib.hasPrefix l [c] = false := by
  have : [c].isPrefixOf l = false := by
    cases l with
    | nil => rfl
    | cons b r =>
      have : c ≠ b := fun e => h r (by rw [e])
      simp [List.isPrefixOf, this]
  constructor
  · simp [Lib.trimPrefix, Lib.hasPrefix, this]
  · simp [Lib.hasPrefix, this]
theorem cutp (l m : Bs) (w : World) : Calls Tryz.prog 131 #[str l, str m] w fun e w' => e = .returned (.tuple #[str (Lib.trimPrefix l m), .bool (Lib.hasPrefix l m)]) ∧ w' = w := by
  have := Tryz.strings_CutPrefix ⟨l.toArray⟩ ⟨m.toArray⟩ w
  simpa using this
set_option maxRecDepth 100000 in
set_option maxHeartbeats 3200000 in
theorem take_any (w : World) (q : Nat) (l : Bs) (c : UInt8) (l' : Bs) (B : Bool) (h1 : Lib.trimPrefix l [c] = l') (h2 : Lib.hasPrefix l [c] = B) (hq : w.heap[q]? = some (.cells #[str l] 170)) : Calls Tryz.prog 114 #[pq q, str [c]] w fun e w' => e = .returned (.bool B) ∧ w'.heap[q]? = some (.cells #[str l'] 170) ∧ Touch q w w' := by
  have HC : Hid (Calls Tryz.prog 131 #[str l, str [c]] w fun e w' => e = .returned (.tuple #[str l', .bool B]) ∧ w' = w) := by have := cutp l [c] w; rw [h1, h2] at this; exact this
  have HQ := hid hq
  have y0 : w.cell? ⟨q, 0, none⟩ = some (str l) := blk_cell hq 0
  have f0 : w.frozen? ⟨q, 0, none⟩ = false := blk_frozen hq 0
  have HQ1 : Hid ((w.setCell ⟨q, 0, none⟩ (str l')).heap[q]? = some (.cells #[str l'] 170)) := set1 hq _
  have HT1 : Hid (Touch q w (w.setCell ⟨q, 0, none⟩ (str l'))) := hid ((Touch.refl q w).setCell rfl _)
  clear hq h1 h2
  go_enter Tryz.func114, Tryz.ntmps114
  go_wp2_with fail
  refine HC.out.mono ?_
  rintro e v1 ⟨rfl, hv⟩
  replace hv := hv.symm
  subst hv
  go_wp2_with fail
  go_ret
  exact ⟨rfl, HQ1.out, HT1.out⟩
theorem take_hit (w : World) (q : Nat) (c : UInt8) (r : Bs) (hq : w.heap[q]? = some (.cells #[str (c :: r)] 170)) : Calls Tryz.prog 114 #[pq q, str [c]] w fun e w' => e = .returned (.bool true) ∧ w'.heap[q]? = some (.cells #[str r] 170) ∧ Touch q w w' :=
  take_any w q _ c _ _ (trim_hit c r).1 (trim_hit c r).2 hq
theorem take_miss (w : World) (q : Nat) (c : UInt8) (l : Bs) (h : ∀ r, l ≠ c :: r) (hq : w.heap[q]? = some (.cells #[str l] 170)) : Calls Tryz.prog 114 #[pq q, str [c]] w fun e w' => e = .returned (.bool false) ∧ w'.heap[q]? = some (.cells #[str l] 170) ∧ Touch q w w' :=
  take_any w q _ c _ _ (trim_miss c l h).1 (trim_miss c l h).2 hq
theorem tw_len (p : UInt8 → Bool) : ∀ (l : Bs) (k : Nat), (∀ c ∈ l.take k, p c = true) → k ≤ l.length → k ≤ (l.takeWhile p).length
  | _, 0, _, _ => Nat.zero_le _
  | [], k + 1, _, h => by simp at h
  | b :: l, k + 1, hp, h => by
    have hb := hp b (by simp)
    rw [List.takeWhile_cons, if_pos hb, List.length_cons]
    have := tw_len p l k (fun c hc => hp c (by rw [List.take_succ_cons]; exact List.mem_cons_of_mem _ hc)) (by simpa using h)
    omega
theorem tw_stop (p : UInt8 → Bool) : ∀ (l : Bs) (k : Nat) (h : k < l.length), p l[k] = false → (l.takeWhile p).length ≤ k
  | b :: l, 0, _, hp => by
    have : p b = false := hp
    rw [List.takeWhile_cons, this]; simp
  | b :: l, k + 1, h, hp => by
    have := tw_stop p l k (by simpa using h) hp
    rw [List.takeWhile_cons]
    split
    · simp; omega
    · simp
theorem digs_end (l : Bs) (k : Nat) (hp : ∀ c ∈ l.take k, isDig c = true) (hk : k ≤ 3) (hl : k ≤ l.length) (he : k = 3 ∨ k = l.length ∨ ∃ h : k < l.length, isDig l[k] = false) : digs3 l = l.take k := by
  have h1 := tw_len isDig l k hp hl
  unfold digs3
  rcases he with rfl | rfl | ⟨h, hd⟩
  · exact (tw_pre isDig l 3 h1).symm
  · have h2 : (l.takeWhile isDig).length ≤ l.length := by have := congrArg List.length (List.takeWhile_append_dropWhile (p := isDig) (l := l)); rw [List.length_append] at this; omega
    have h3 := tw_pre isDig l l.length h1
    rw [List.take_of_length_le (by omega), h3, List.take_of_length_le (by omega)]
  · have h2 := tw_stop isDig l k h hd
    rw [List.take_of_length_le (by omega), tw_pre isDig l k h1, List.take_of_length_le (by omega)]
theorem valD_snoc (d : Bs) (c : UInt8) : valD (d ++ [c]) = 10 * valD d + (c.toNat - 48) := by simp [valD, List.foldl_append]
theorem valD_lt : ∀ (k : Nat) (d : Bs), d.length ≤ k → (∀ c ∈ d, isDig c = true) → valD d < 10 ^ k := by
  intro k
  induction k with
  | zero => 
    intro d hd _
    have hd0 : d = [] := List.eq_nil_of_length_eq_zero (by omega)
    subst hd0
    decide
  | succ k ih =>
    intro d hd hp
    rcases List.eq_nil_or_concat d with rfl | ⟨d', c, rfl⟩
    · have : 0 < 10 ^ (k + 1) := Nat.pow_pos (by omega)
      simpa [valD] using this
    · rw [List.concat_eq_append] at hd hp ⊢
      rw [valD_snoc]
      have h1 := ih d' (by simp at hd; omega) (fun c hc => hp c (by simp [hc]))
      have hc := hp c (by simp)
      simp only [isDig, Bool.and_eq_true, decide_eq_true_eq] at hc
      rw [Nat.pow_succ]; omega
theorem dig_of {c : UInt8} (h : (48 : Int) ≤ c.toNat) (h2 : (c.toNat : Int) ≤ 57) : isDig c = true := by
  unfold isDig; rw [decide_eq_true (show 48 ≤ c.toNat by omega), decide_eq_true (show c.toNat ≤ 57 by omega)]; rfl
theorem dig_no {c : UInt8} (h : ¬ ((48 : Int) ≤ c.toNat) ∨ ¬ ((c.toNat : Int) ≤ 57)) : isDig c = false := by
  unfold isDig
  rcases h with h | h
  · rw [decide_eq_false (show ¬ 48 ≤ c.toNat by omega)]; rfl
  · rw [decide_eq_false (show ¬ c.toNat ≤ 57 by omega)]; simp
theorem get_at (s : ByteArray) (k : Nat) (_h : k < s.size) (h' : k < s.data.toList.length) : s.data.toList[k] = s[k] := rfl
theorem hasp0 (l : Bs) (w : World) : Calls Tryz.prog 132 #[str l, str [48]] w fun e w' => e = .returned (.bool (l.head? == some 48)) ∧ w' = w := by
  have := Tryz.strings_HasPrefix ⟨l.toArray⟩ ⟨#[48]⟩ w
  have e : Lib.hasPrefix l [48] = (l.head? == some 48) := by
    unfold Lib.hasPrefix
    cases l with
    | nil => rfl
    | cons b r =>
      show ((48 : UInt8) == b && true) = (some b == some 48)
      rw [Bool.and_true]
      by_cases e : b = 48
      · subst e; rfl
      · have e1 : ((48 : UInt8) == b) = false := by simpa using fun h : 48 = b => e h.symm
        have e2 : (some b == some (48 : UInt8)) = false := by simpa using e
        rw [e1, e2]
  simpa [e] using this
theorem fin1 (v k : Nat) (H : Bool) (h : 1 < k) : Ending.returned (.tuple #[i64 (v : Nat), .bool ((k : Int) == 1 || !H)]) = .returned (.tuple #[i64 (v : Nat), .bool (decide (k = 1) || (decide (1 < k) && !H))]) := by
  have e1 : ((k : Int) == 1) = false := by simp; omega
  rw [e1, decide_eq_false (show ¬ k = 1 by omega), decide_eq_true h]
  simp
theorem fin2 (v k : Nat) (H : Bool) (h : ¬ 1 < k) : Ending.returned (.tuple #[i64 (v : Nat), .bool ((k : Int) == 1)]) = .returned (.tuple #[i64 (v : Nat), .bool (decide (k = 1) || (decide (1 < k) && !H))]) := by
  rw [decide_eq_false h]
  by_cases e : k = 1
  · subst e; rfl
  · have e1 : ((k : Int) == 1) = false := by simp; omega
    rw [e1, decide_eq_false e]
    simp
theorem fin3 (v k : Nat) (H : Bool) (h : k = 1) : Ending.returned (.tuple #[i64 (v : Nat), .bool true]) = .returned (.tuple #[i64 (v : Nat), .bool (decide (k = 1) || (decide (1 < k) && !H))]) := by rw [decide_eq_true h]; rfl
theorem fin4 (v k : Nat) (H : Bool) (h : 1 < k) : Ending.returned (.tuple #[i64 (v : Nat), .bool (!H)]) = .returned (.tuple #[i64 (v : Nat), .bool (decide (k = 1) || (decide (1 < k) && !H))]) := by
  rw [decide_eq_false (show ¬ k = 1 by omega), decide_eq_true h]; simp
theorem fin5 (v k : Nat) (H : Bool) (h : k < 1) : Ending.returned (.tuple #[i64 (v : Nat), .bool false]) = .returned (.tuple #[i64 (v : Nat), .bool (decide (k = 1) || (decide (1 < k) && !H))]) := by
  rw [decide_eq_false (show ¬ k = 1 by omega), decide_eq_false (show ¬ 1 < k by omega)]; simp
set_option maxRecDepth 100000 in
set_option maxHeartbeats 6400000 in
theorem number_s (w : World) (q : Nat) (s : ByteArray) (hs : s.size ≤ 30000000) (hq : w.heap[q]? = some (.cells #[.string s] 170)) : Calls Tryz.prog 115 #[pq q] w fun e w' => e = .returned (.tuple #[i64 (valD (digs3 s.data.toList) : Nat), .bool (numOk (digs3 s.data.toList))]) ∧ w'.heap[q]? = some (.cells #[str (s.data.toList.drop (digs3 s.data.toList).length)] 170) ∧ Touch q w w' := by
  have hlen : s.data.toList.length = s.size := Array.length_toList
  have HL := hid hlen
  have HQ := hid hq
  have y0 : w.cell? ⟨q, 0, none⟩ = some (.string s) := blk_cell hq 0
  have f0 : w.frozen? ⟨q, 0, none⟩ = false := blk_frozen hq 0
  have HH : Hid (Calls Tryz.prog 132 #[.string s, str [48]] w fun e w' => e = .returned (.bool (s.data.toList.head? == some 48)) ∧ w' = w) := hasp0 s.data.toList w
  generalize hH : (s.data.toList.head? == some 48) = H0 at *
  have HHe := hid hH
  obtain ⟨D, hD⟩ : ∃ D, D = digs3 s.data.toList := ⟨_, rfl⟩
  have HD := hid hD
  rw [← hD]
  clear hq hlen hH hD
  go_enter Tryz.func115, Tryz.ntmps115
  go_wp2_with fail
  go_loop [4, 5] (fun a u => ∃ k : Nat, k ≤ 3 ∧ k ≤ s.size ∧ u = i64 k ∧ a = i64 (valD (s.data.toList.take k) : Nat) ∧ Hid (∀ c ∈ s.data.toList.take k, isDig c = true)) (fun _ u => 4 - (intOf u).toNat)
  case atStart => exact ⟨0, by omega, by omega, rfl, rfl, by intro c hc; simp at hc⟩
  case round =>
    obtain ⟨k, hk3, hks, rfl, rfl, HA⟩ := hrel
    have hv : valD (s.data.toList.take k) < 1000 := by
      have := valD_lt 3 (s.data.toList.take k) (by rw [List.length_take]; omega) HA.out
      simpa using this
    by_cases hgo : k < s.size ∧ k < 3 ∧ ∃ h : k < s.size, (48 : Int) ≤ s[k].toNat ∧ (s[k].toNat : Int) ≤ 57
    · obtain ⟨h1, h2, _, h3, h4⟩ := hgo
      have HA2 : Hid (∀ c ∈ s.data.toList.take (k + 1), isDig c = true) := by
        intro c hc
        rw [take_snoc s k h1] at hc
        rcases List.mem_append.1 hc with hc | hc
        · exact HA.out c hc
        · rw [List.mem_singleton.1 hc]; exact dig_of h3 h4
      have HV2 : Hid (valD (s.data.toList.take (k + 1)) = 10 * valD (s.data.toList.take k) + (s[k].toNat - 48)) := by show _ = _; rw [take_snoc s k h1, valD_snoc]
      generalize valD (s.data.toList.take k) = v0 at *
      go_wp2_with fail
      go_round
      case rel => exact ⟨k + 1, by omega, by omega, by go_num, by rw [HV2.out]; go_num, HA2⟩
      case measure => simp [intOf]; omega
    · have HE : Hid (D = s.data.toList.take k) := by
        show _ = _
        rw [HD.out]
        refine digs_end _ k HA.out hk3 (by have := HL.out; omega) ?_
        by_cases e1 : k = 3
        · exact Or.inl e1
        · by_cases e2 : k = s.size
          · exact Or.inr (Or.inl (by have := HL.out; omega))
          · refine Or.inr (Or.inr ⟨by have := HL.out; omega, ?_⟩)
            have hks2 : k < s.size := by omega
            rw [get_at s k hks2]
            refine dig_no ?_
            by_cases e3 : (48 : Int) ≤ s[k].toNat
            · exact Or.inr (fun e4 => hgo ⟨hks2, by omega, hks2, e3, e4⟩)
            · exact Or.inl e3
      have HDl : Hid (D.length = k) := by show _ = _; rw [HE.out, List.length_take]; have := HL.out; omega
      have HQ1 : Hid ((w.setCell ⟨q, 0, none⟩ (str (s.data.toList.drop k))).heap[q]? = some (.cells #[str (s.data.toList.drop k)] 170)) := set1 HQ.out _
      have HT1 : Hid (Touch q w (w.setCell ⟨q, 0, none⟩ (str (s.data.toList.drop k)))) := hid ((Touch.refl q w).setCell rfl _)
      have HOK : Hid (numOk D = (decide (k = 1) || (decide (1 < k) && !H0))) := by
        show _ = _
        unfold numOk
        rw [HDl.out]
        by_cases e : 1 < k
        · have : D.head? = s.data.toList.head? := by rw [HE.out, List.head?_take]; simp; omega
          rw [this, HHe.out]
        · rw [decide_eq_false e]; simp
      have HVD : Hid (valD D = valD (s.data.toList.take k)) := by show _ = _; rw [HE.out]
      have HDR : Hid (s.data.toList.drop D.length = s.data.toList.drop k) := by show _ = _; rw [HDl.out]
      have hsl : (s.extract k s.size) = ⟨(s.data.toList.drop k).toArray⟩ := by
        apply ByteArray.ext
        rw [ByteArray.data_extract]
        have h1 : s.size = s.data.size := rfl
        rw [h1]
        apply Array.toList_inj.1
        rw [Array.toList_extract, List.extract_eq_take_drop]
        rw [List.take_of_length_le (by rw [List.length_drop, Array.length_toList]; omega)]
      generalize valD (s.data.toList.take k) = v0 at *
      generalize s.data.toList.drop k = DR at *
      by_cases g1 : k < s.size
      · by_cases g2 : k < 3
        · by_cases g3 : (48 : Int) ≤ s[k].toNat
          · have g4 : ¬ (s[k].toNat : Int) ≤ 57 := fun g4 => hgo ⟨g1, g2, g1, g3, g4⟩
            have HGO := hid hgo
            clear hgo
            go_wp2_with fail
            refine HH.out.mono ?_
            rintro e v1 ⟨rfl, hv1⟩
            replace hv1 := hv1.symm
            subst hv1
            go_wp2_with fail
            all_goals
              go_ret2
              refine ⟨?_, by rw [HDR.out]; exact HQ1.out, HT1.out⟩
              rw [HVD.out, HOK.out]
              first | exact fin1 v0 k H0 (by omega) | exact fin2 v0 k H0 (by omega) | exact fin3 v0 k H0 (by omega) | exact fin4 v0 k H0 (by omega) | exact fin5 v0 k H0 (by omega)
          · have HGO := hid hgo
            clear hgo
            go_wp2_with fail
            refine HH.out.mono ?_
            rintro e v1 ⟨rfl, hv1⟩
            replace hv1 := hv1.symm
            subst hv1
            go_wp2_with fail
            all_goals
              go_ret2
              refine ⟨?_, by rw [HDR.out]; exact HQ1.out, HT1.out⟩
              rw [HVD.out, HOK.out]
              first | exact fin1 v0 k H0 (by omega) | exact fin2 v0 k H0 (by omega) | exact fin3 v0 k H0 (by omega) | exact fin4 v0 k H0 (by omega) | exact fin5 v0 k H0 (by omega)
        · have HGO := hid hgo
          clear hgo
          go_wp2_with fail
          refine HH.out.mono ?_
          rintro e v1 ⟨rfl, hv1⟩
          replace hv1 := hv1.symm
          subst hv1
          go_wp2_with fail
          all_goals
            go_ret2
            refine ⟨?_, by rw [HDR.out]; exact HQ1.out, HT1.out⟩
            rw [HVD.out, HOK.out]
            first | exact fin1 v0 k H0 (by omega) | exact fin2 v0 k H0 (by omega) | exact fin3 v0 k H0 (by omega) | exact fin4 v0 k H0 (by omega) | exact fin5 v0 k H0 (by omega)
      · have HGO := hid hgo
        clear hgo
        go_wp2_with fail
        refine HH.out.mono ?_
        rintro e v1 ⟨rfl, hv1⟩
        replace hv1 := hv1.symm
        subst hv1
        go_wp2_with fail
        all_goals
          go_ret2
          refine ⟨?_, by rw [HDR.out]; exact HQ1.out, HT1.out⟩
          rw [HVD.out, HOK.out]
          first | exact fin1 v0 k H0 (by omega) | exact fin2 v0 k H0 (by omega) | exact fin3 v0 k H0 (by omega) | exact fin4 v0 k H0 (by omega) | exact fin5 v0 k H0 (by omega)
theorem number_ok (w : World) (q : Nat) (l : Bs) (hs : l.length ≤ 30000000) (hq : w.heap[q]? = some (.cells #[str l] 170)) : Calls Tryz.prog 115 #[pq q] w fun e w' => e = .returned (.tuple #[i64 (valD (digs3 l) : Nat), .bool (numOk (digs3 l))]) ∧ w'.heap[q]? = some (.cells #[str (l.drop (digs3 l).length)] 170) ∧ Touch q w w' :=
  number_s w q ⟨l.toArray⟩ (by simpa [ByteArray.size] using hs) hq
end Go.Proofs.YtjppcfjjpkniaaaGreatDoor
namespace Go.Proofs.YtjppcfjjpkniaaaGreatDoor

theorem wpL_skip {P : Program} {ops : Array Oper} {Q : Exit → Act → World → Prop} {md : Region.Mode} {S : World → Prop} {z : Nat} (i d : Nat) (p : List Nat) {oi : Oper} {fuel : Nat} {listed : Array Bool} {a : Act} {w : World} (hi : ops[i]? = some oi) (hd : oi.dst = some d) (hp : anc md ops (i :: (p ++ [z])) = true) (hiz : i ≠ z)
    (hs : Region.noSelect ops = true) (hf : Region.free md ops listed i = true) (hr : (Region.ready md ops listed).contains i = true)
    (hQ : ∀ c a w, Q (.panic c) (a.put (some d) undef) w → Q (.panic c) a w) (hS : S w) (hw : Region.wanted oi (yielded ops a.tmps) = false)
    (h : wpL P md ops Q S z fuel (listed.setIfInBounds i true) (a.put (some d) undef) w) : wpL P md ops Q S z (fuel + 1) listed a w := fun hc =>
  have hr' : i ∈ Region.ready md ops listed := by simpa using hr
  wpAnyL_first hp hiz hi (Region.noSelect_spec hs) (by rw [hd]; exact hQ) fuel listed a w hc (Region.free_spec hi hf) hr' (Or.inr ⟨hw, rfl⟩) hS (by rw [hd]; exact h (hc.step hr'))
end Go.Proofs.YtjppcfjjpkniaaaGreatDoor
