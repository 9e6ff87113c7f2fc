/- types' areNames and rightAlone: their contracts; no statement is proved in this text. -/
import Derived.Test.YtihbbgcpdgnhoaaGreatDoorFmd
import Derived.Test.YtihbbgcpdgnhoaaGreatDoorShelf
namespace Go.Proofs.YtihbbgcpdgnhoaaGreatDoor
open Go.ChangeShapes Go.WideShapes Go.ChangeAt Go.RowKit Go.Deep
attribute [local go_sem ↓] Go.wp_at_zero Go.wp_at_succ

abbrev ba (l : Bs) : ByteArray := ⟨l.toArray⟩
theorem ba_inj {a b : Bs} (h : ba a = ba b) : a = b := by
  have h1 : a.toArray = b.toArray := congrArg ByteArray.data h
  have h2 := congrArg Array.toList h1
  simpa using h2
theorem bas_mem {l : List Bs} {x : Bs} : ba x ∈ l.map ba ↔ x ∈ l := by
  constructor
  · intro h
    obtain ⟨y, hy, e⟩ := List.mem_map.1 h
    rw [← ba_inj e]; exact hy
  · intro h; exact List.mem_map.2 ⟨x, h, rfl⟩
theorem cont_eq (l : List Bs) (n : Nat) (x : Bs) : Lib.containsS ((l.map ba).take n) (ba x) = (l.take n).contains x := by
  rw [Bool.eq_iff_iff, Lib.containsS_iff, ← List.map_take, bas_mem, List.contains_iff_mem]
theorem bas_cells {w : World} {b off : Nat} {l : List Bs} (h : ∀ i x, l[i]? = some x → w.cell? ⟨b, off + i, none⟩ = some (str x)) : ∀ j, j < (l.map ba).length → w.cell? ⟨b, off + j, none⟩ = some (.string ((l.map ba).getD j ByteArray.empty)) := fun j hj => by
  have hj' : j < l.length := by simpa using hj
  rw [h j _ (List.getElem?_eq_getElem hj')]
  simp [List.getD_eq_getElem?_getD, hj']
theorem Strs.cells {w : World} {S : Nat → Prop} {v : Value} {l : List Bs} (h : Strs w S v l) : ∃ ao cap, v = .slice ao l.length cap ∧ l.length ≤ cap ∧ (l = [] ∨ ∃ b off, ao = some ⟨b, off, none⟩ ∧ b < w.heap.size ∧ ∀ i x, l[i]? = some x → w.cell? ⟨b, off + i, none⟩ = some (str x)) := by
  obtain ⟨ao, cap, rfl, _, h2, h3⟩ := h
  refine ⟨ao, cap, rfl, h2.1, ?_⟩
  rcases h3 with h3 | ⟨b, off, h4, _, h5, h6⟩
  · exact Or.inl h3
  · exact Or.inr ⟨b, off, h4, h5, h6⟩
theorem namesTo_snoc (l : List Bs) (k : Nat) (h : k < l.length) : namesTo l (k + 1) = (namesTo l k && (nameB l[k] && !(l.take k).contains l[k])) := by
  unfold namesTo
  rw [List.range_succ, List.all_append]
  simp only [List.all_cons, List.all_nil, Bool.and_true, getD_at l k h]
theorem namesTo_le (l : List Bs) (k : Nat) : ∀ n, k ≤ n → namesTo l k = false → namesTo l n = false := by
  intro n hn h
  unfold namesTo at h ⊢
  rw [List.all_eq_false] at h ⊢
  obtain ⟨x, hx, hp⟩ := h
  exact ⟨x, List.mem_range.2 (by have := List.mem_range.1 hx; omega), hp⟩
set_option maxRecDepth 100000 in
set_option maxHeartbeats 3200000 in
theorem areNames_ok (l : List Bs) (w : World) (S : Nat → Prop) (v : Value) (hS : Strs w S v l) : Calls Tryz.prog 76 #[v] w fun e w' => e = .returned (.bool (namesTo l l.length)) ∧ w' = w := by
  have hsz : ∀ x ∈ l, x.length ≤ maxLen := by obtain ⟨_, _, _, _, h, _⟩ := hS; exact h.2
  have hl : l.length ≤ maxLen := by obtain ⟨_, _, _, h, _, _⟩ := hS; exact h
  obtain ⟨ao, cap, rfl, hcap, hC⟩ := hS.cells
  unfold maxLen at hl
  have HSZ := hid hsz
  have HC := hid hC
  obtain ⟨B, hB⟩ : ∃ B, B = namesTo l l.length := ⟨_, rfl⟩
  have HBe := hid hB
  rw [← hB]
  clear hB hS hsz hC
  go_enter Tryz.func76, Tryz.ntmps76
  go_wp2_with fail
  go_loop [7] (fun u => ∃ i : Nat, i ≤ l.length ∧ u = i64 i ∧ Hid (namesTo l i = true)) (fun u => l.length - (intOf u).toNat)
  case atStart => exact ⟨0, by omega, rfl, by show _ = _; rfl⟩
  case round =>
    obtain ⟨i, hi, rfl, HT⟩ := hrel
    by_cases hlt : i < l.length
    · obtain ⟨b, off, rfl, hblt, hcs⟩ : ∃ b off, ao = some ⟨b, off, none⟩ ∧ b < w.heap.size ∧ ∀ i x, l[i]? = some x → w.cell? ⟨b, off + i, none⟩ = some (str x) := by
        rcases HC.out with h | h
        · subst h; simp at hlt
        · exact h
      have cI := hcs i _ (List.getElem?_eq_getElem hlt)
      obtain ⟨x, hx⟩ : ∃ x, x = l[i] := ⟨_, rfl⟩
      rw [← hx] at cI
      have hxs : x.length ≤ maxLen := by rw [hx]; exact HSZ.out _ (List.getElem_mem hlt)
      have HNM : Hid (Calls Tryz.prog 86 #[str x] w fun e w' => e = .returned (.bool (nameB x)) ∧ w' = w) := name_ok x w hxs
      have HCT : Hid (Calls Tryz.prog 87 #[.slice (some ⟨b, off, none⟩) i cap, str x] w fun e w' => e = .returned (.bool ((l.take i).contains x)) ∧ w' = w) := by
        have := Tryz.slices_Contains_string b off i cap (l.map ba) (ba x) w (by simp; omega) (by omega) (bas_cells hcs)
        rw [cont_eq] at this
        exact this
      have hstep : namesTo l (i + 1) = (nameB x && !(l.take i).contains x) := by rw [namesTo_snoc l i hlt, HT.out, ← hx]; rfl
      have HST := hid hstep
      have HNO : Hid (namesTo l (i + 1) = false → B = false) := fun h => by rw [HBe.out]; exact namesTo_le l (i + 1) _ (by omega) h
      generalize (l.take i).contains x = C1 at *
      generalize nameB x = C2 at *
      have hcI : (i : Int) ≤ cap := by omega
      clear hx hxs hcs hstep
      cases C2 with
      | false =>
        have HF : Hid (B = false) := HNO.out (by rw [HST.out]; rfl)
        go_wp2_with fail
        refine HNM.out.mono ?_
        rintro e v1 ⟨rfl, hv⟩
        replace hv := hv.symm
        subst hv
        go_wp2_with fail
        go_ret
        exact ⟨by rw [HF.out]; rfl, rfl⟩
      | true =>
        go_wp2_with fail
        refine HNM.out.mono ?_
        rintro e v1 ⟨rfl, hv⟩
        replace hv := hv.symm
        subst hv
        go_wp2_with fail
        refine HCT.out.mono ?_
        rintro e v1 ⟨rfl, hv⟩
        replace hv := hv.symm
        subst hv
        cases C1 with
        | true =>
          have HF : Hid (B = false) := HNO.out (by rw [HST.out]; rfl)
          go_wp2_with fail
          go_ret
          exact ⟨by rw [HF.out]; rfl, rfl⟩
        | false =>
          have HT2 : Hid (namesTo l (i + 1) = true) := by show _ = _; rw [HST.out]; rfl
          go_wp2_with fail
          go_round
          case rel => exact ⟨i + 1, by omega, by go_num, HT2⟩
          case measure => simp [intOf]; omega
    · have HF : Hid (B = true) := by
        show _ = _
        rw [HBe.out]
        have : i = l.length := by omega
        rw [← this]; exact HT.out
      go_wp2_with fail
      go_ret
      exact ⟨by rw [HF.out]; rfl, rfl⟩
set_option maxRecDepth 100000 in
set_option maxHeartbeats 6400000 in
theorem rightAlone_ok (k n : Int) (names : List Bs) (kids : List Ty) (w : World) (S : Nat → Prop) (nv kv : Value) (hR : Rd w S (.mk k n names kids) nv kv) :
    Calls Tryz.prog 58 #[tyV k n nv kv] w fun e w' => e = .returned (.bool (nodeB k n names kids.length)) ∧ Below w.heap.size w w' := by
  obtain ⟨R, hRe⟩ : ∃ R, R = nodeB k n names kids.length := ⟨_, rfl⟩
  have HRe := hid hRe
  rw [← hRe]
  clear hRe
  have HRd : Hid (Rd w S (.mk k n names kids) nv kv) := hR
  obtain ⟨⟨an, cn, rfl, hnl, hz1, hz2⟩, hkl, ak, ck, rfl, hz3⟩ := hR.kid
  clear hz1 hz2 hz3
  unfold maxLen at hnl hkl
  have HX : Hid ((w.alloc (.cells #[i64 k, i64 n, .slice an names.length cn, .slice ak kids.length ck] 25)).heap[w.heap.size]? = some (.cells #[i64 k, i64 n, .slice an names.length cn, .slice ak kids.length ck] 25)) := heap_last w _
  have HBV : Hid (Below w.heap.size w (w.alloc (.cells #[i64 k, i64 n, .slice an names.length cn, .slice ak kids.length ck] 25))) := below_one w _
  clear hR 
  go_enter Tryz.func58, Tryz.ntmps58
  go_upto_region 1 with fail
  obtain ⟨Z, hZ⟩ : ∃ Z, Z = w.heap.size := ⟨_, rfl⟩
  rw [← hZ] at HX ⊢
  generalize w.alloc (.cells #[i64 k, i64 n, .slice an names.length cn, .slice ak kids.length ck] 25) = V at *
  have y0 : V.cell? ⟨Z, 0, none⟩ = some (i64 k) := blk_cell HX.out 0
  have y1 : V.cell? ⟨Z, 1, none⟩ = some (i64 n) := blk_cell HX.out 1
  have y2 : V.cell? ⟨Z, 2, none⟩ = some (.slice an names.length cn) := blk_cell HX.out 2
  have y3 : V.cell? ⟨Z, 3, none⟩ = some (.slice ak kids.length ck) := blk_cell HX.out 3
  have hZV : Z < V.heap.size := blk_lt HX.out
  have HZ := hid hZ
  clear hZ
  have HTW : Hid (Calls Tryz.prog 76 #[.slice an names.length cn] V fun e w' => e = .returned (.bool (namesTo names names.length)) ∧ w' = V) := areNames_ok names V S _ (HRd.out.under (HZ.out ▸ HBV.out)).kid.1
  unfold nodeB at HRe
  generalize namesTo names names.length = TW at *
  generalize hNl : names.length = NL at *
  generalize hKl : kids.length = KL at *
  clear hNl hKl HRd
  by_cases k1 : k = 1
  · subst k1
    by_cases b8 : n = 8
    · subst b8
      by_cases a1 : NL = 0
      · subst a1
        by_cases a2 : KL = 0
        · subst a2
          have HV : Hid (R = true) := by show _ = _; rw [HRe.out]; simp
          clear HRe
          go_wp2_with fail
          go_ret
          exact ⟨by rw [HV.out]; rfl, HBV.out⟩
        · have a2I : ((KL : Int) == 0) = false := by simp; omega
          have HV : Hid (R = false) := by show _ = _; rw [HRe.out]; simp [a2]
          clear HRe
          go_wp2_with fail
          go_ret
          exact ⟨by rw [HV.out]; rfl, HBV.out⟩
      · have a1I : ¬ (NL : Int) = 0 := by omega
        have HV : Hid (R = false) := by show _ = _; rw [HRe.out]; simp [a1]
        clear HRe
        go_wp2_with fail
        go_ret
        exact ⟨by rw [HV.out]; rfl, HBV.out⟩
    by_cases b16 : n = 16
    · subst b16
      by_cases a1 : NL = 0
      · subst a1
        by_cases a2 : KL = 0
        · subst a2
          have HV : Hid (R = true) := by show _ = _; rw [HRe.out]; simp
          clear HRe
          go_wp2_with fail
          go_ret
          exact ⟨by rw [HV.out]; rfl, HBV.out⟩
        · have a2I : ((KL : Int) == 0) = false := by simp; omega
          have HV : Hid (R = false) := by show _ = _; rw [HRe.out]; simp [a2]
          clear HRe
          go_wp2_with fail
          go_ret
          exact ⟨by rw [HV.out]; rfl, HBV.out⟩
      · have a1I : ¬ (NL : Int) = 0 := by omega
        have HV : Hid (R = false) := by show _ = _; rw [HRe.out]; simp [a1]
        clear HRe
        go_wp2_with fail
        go_ret
        exact ⟨by rw [HV.out]; rfl, HBV.out⟩
    by_cases b32 : n = 32
    · subst b32
      by_cases a1 : NL = 0
      · subst a1
        by_cases a2 : KL = 0
        · subst a2
          have HV : Hid (R = true) := by show _ = _; rw [HRe.out]; simp
          clear HRe
          go_wp2_with fail
          go_ret
          exact ⟨by rw [HV.out]; rfl, HBV.out⟩
        · have a2I : ((KL : Int) == 0) = false := by simp; omega
          have HV : Hid (R = false) := by show _ = _; rw [HRe.out]; simp [a2]
          clear HRe
          go_wp2_with fail
          go_ret
          exact ⟨by rw [HV.out]; rfl, HBV.out⟩
      · have a1I : ¬ (NL : Int) = 0 := by omega
        have HV : Hid (R = false) := by show _ = _; rw [HRe.out]; simp [a1]
        clear HRe
        go_wp2_with fail
        go_ret
        exact ⟨by rw [HV.out]; rfl, HBV.out⟩
    have e8 : (n == 8) = false := by simpa using b8
    have e16 : (n == 16) = false := by simpa using b16
    have e32 : (n == 32) = false := by simpa using b32
    have HV : Hid (R = false) := by show _ = _; rw [HRe.out]; simp [b8, b16, b32]
    clear HRe
    go_wp2_with fail
    go_ret
    exact ⟨by rw [HV.out]; rfl, HBV.out⟩
  by_cases k2 : k = 2
  · subst k2
    by_cases b1 : 0 ≤ n
    · have c1 : decide (0 ≤ n) = true := by simpa using b1
      by_cases b2 : n ≤ 255
      · have c2 : decide (n ≤ 255) = true := by simpa using b2
        by_cases a1 : NL = 0
        · subst a1
          by_cases a2 : KL = 0
          · subst a2
            have HV : Hid (R = true) := by show _ = _; rw [HRe.out]; simp [b1, b2]
            clear HRe
            go_wp2_with fail
            go_ret
            exact ⟨by rw [HV.out]; rfl, HBV.out⟩
          · have a2I : ((KL : Int) == 0) = false := by simp; omega
            have HV : Hid (R = false) := by show _ = _; rw [HRe.out]; simp [a2]
            clear HRe
            go_wp2_with fail
            go_ret
            exact ⟨by rw [HV.out]; rfl, HBV.out⟩
        · have a1I : ¬ (NL : Int) = 0 := by omega
          have HV : Hid (R = false) := by show _ = _; rw [HRe.out]; simp [a1]
          clear HRe
          go_wp2_with fail
          go_ret
          exact ⟨by rw [HV.out]; rfl, HBV.out⟩
      · have c2 : decide (n ≤ 255) = false := by simpa using b2
        have HV : Hid (R = false) := by show _ = _; rw [HRe.out]; simp [c2]
        clear HRe
        go_wp2_with fail
        go_ret
        exact ⟨by rw [HV.out]; rfl, HBV.out⟩
    · have c1 : decide (0 ≤ n) = false := by simpa using b1
      have HV : Hid (R = false) := by show _ = _; rw [HRe.out]; simp [c1]
      clear HRe
      go_wp2_with fail
      go_ret
      exact ⟨by rw [HV.out]; rfl, HBV.out⟩
  by_cases k3 : k = 3
  · subst k3
    by_cases b1 : 0 ≤ n
    · have c1 : decide (0 ≤ n) = true := by simpa using b1
      by_cases b2 : n ≤ 96
      · have c2 : decide (n ≤ 96) = true := by simpa using b2
        by_cases a1 : NL = 0
        · subst a1
          by_cases a2 : KL = 1
          · subst a2
            have HV : Hid (R = true) := by show _ = _; rw [HRe.out]; simp [b1, b2]
            clear HRe
            go_wp2_with fail
            go_ret
            exact ⟨by rw [HV.out]; rfl, HBV.out⟩
          · have a2I : ((KL : Int) == 1) = false := by simp; omega
            have HV : Hid (R = false) := by show _ = _; rw [HRe.out]; simp [a2]
            clear HRe
            go_wp2_with fail
            go_ret
            exact ⟨by rw [HV.out]; rfl, HBV.out⟩
        · have a1I : ¬ (NL : Int) = 0 := by omega
          have HV : Hid (R = false) := by show _ = _; rw [HRe.out]; simp [a1]
          clear HRe
          go_wp2_with fail
          go_ret
          exact ⟨by rw [HV.out]; rfl, HBV.out⟩
      · have c2 : decide (n ≤ 96) = false := by simpa using b2
        have HV : Hid (R = false) := by show _ = _; rw [HRe.out]; simp [c2]
        clear HRe
        go_wp2_with fail
        go_ret
        exact ⟨by rw [HV.out]; rfl, HBV.out⟩
    · have c1 : decide (0 ≤ n) = false := by simpa using b1
      have HV : Hid (R = false) := by show _ = _; rw [HRe.out]; simp [c1]
      clear HRe
      go_wp2_with fail
      go_ret
      exact ⟨by rw [HV.out]; rfl, HBV.out⟩
  by_cases k4 : k = 4
  · subst k4
    by_cases b1 : n = 0
    · subst b1
      by_cases a1 : 1 ≤ KL
      · have a1I : decide (1 ≤ (KL : Int)) = true := by simpa using (by omega : 1 ≤ (KL : Int))
        by_cases a2 : KL ≤ 12
        · have a2I : decide ((KL : Int) ≤ 12) = true := by simpa using (by omega : (KL : Int) ≤ 12)
          by_cases a3 : NL = KL
          · subst a3
            cases TW with
            | true =>
              have HV : Hid (R = true) := by show _ = _; rw [HRe.out]; simp [a1, a2]
              clear HRe
              go_wp2_with fail
              refine HTW.out.mono ?_
              rintro e w9 ⟨rfl, hv⟩
              replace hv := hv.symm
              subst hv
              go_wp2_with fail
              go_ret
              exact ⟨by rw [HV.out]; rfl, HBV.out⟩
            | false =>
              have HV : Hid (R = false) := by show _ = _; rw [HRe.out]; simp
              clear HRe
              go_wp2_with fail
              refine HTW.out.mono ?_
              rintro e w9 ⟨rfl, hv⟩
              replace hv := hv.symm
              subst hv
              go_wp2_with fail
              go_ret
              exact ⟨by rw [HV.out]; rfl, HBV.out⟩
          · have a3I : ¬ (NL : Int) = KL := by omega
            have HV : Hid (R = false) := by show _ = _; rw [HRe.out]; simp [a3]
            clear HRe
            go_wp2_with fail
            go_ret
            exact ⟨by rw [HV.out]; rfl, HBV.out⟩
        · have a2I : ¬ (KL : Int) ≤ 12 := by omega
          have HV : Hid (R = false) := by show _ = _; rw [HRe.out]; simp [a2]
          clear HRe
          go_wp2_with fail
          go_ret
          exact ⟨by rw [HV.out]; rfl, HBV.out⟩
      · have a1I : ¬ 1 ≤ (KL : Int) := by omega
        have HV : Hid (R = false) := by show _ = _; rw [HRe.out]; simp [a1]
        clear HRe
        go_wp2_with fail
        go_ret
        exact ⟨by rw [HV.out]; rfl, HBV.out⟩
    · have HV : Hid (R = false) := by show _ = _; rw [HRe.out]; simp [b1]
      clear HRe
      go_wp2_with fail
      go_ret
      exact ⟨by rw [HV.out]; rfl, HBV.out⟩
  have HV : Hid (R = false) := by show _ = _; rw [HRe.out]; simp [k1, k2, k3, k4]
  clear HRe
  go_wp2_with fail
  go_ret
  exact ⟨by rw [HV.out]; rfl, HBV.out⟩
end Go.Proofs.YtihbbgcpdgnhoaaGreatDoor
