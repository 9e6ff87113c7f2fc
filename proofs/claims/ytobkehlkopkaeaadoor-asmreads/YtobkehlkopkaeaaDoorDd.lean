/- The document's words of a line; no statement is proved in this text. -/
import Derived.Test.YtobkehlkopkaeaaDoorDc
import Derived.Test.YtobkehlkopkaeaaDoorSplit2
namespace Go.Proofs.YtobkehlkopkaeaaDoor
open Go.ChangeShapes Go.WideShapes Go.ChangeAt Go.RowKit
set_option maxRecDepth 100000

theorem sl_lk (w : World) (s : ByteArray) (j k : Nat) (hj : j ≤ k) (h : k ≤ s.size) : (Instr.slice 9 (.string s) (some (i64 j)) (some (i64 k)) none).run Tryd.prog w = .ok (str ((s.data.toList.drop j).take (k - j))) w := by
  have h1 : (0 : Int) ≤ (k : Int) := by omega
  have h2 : (k : Int) ≤ s.size := by omega
  have h3 : (0 : Int) ≤ j := by omega
  have e : (k : Int).toNat = k := by omega
  have hb := run_sliceBound (P := Tryd.prog) w .i64 (j : Int) k .sliceB h3 (by omega)
  have hx : s.extract j k = ⟨((s.data.toList.drop j).take (k - j)).toArray⟩ := by
    apply ByteArray.ext
    rw [ByteArray.data_extract]
    apply Array.ext'
    simp [List.extract_eq_take_drop]
  simp [Instr.slice, run_underlying Tryd.underlying9, Instr.sliceBounds, run_sliceBound, h1, h2, e]
  rw [hb]
  simp [hx]
theorem sl_one (s : ByteArray) (k : Nat) (h : k < s.size) (W : World) : (Instr.slice 9 (.string s) (some (.int .i64 (k : Int))) (some (.int .i64 ((k : Int) + 1))) none).run Tryd.prog W = .ok (.string ⟨#[s[k]]⟩) W := by
  have h1 := sl_lk W s k (k + 1) (by omega) (by omega)
  have h2 : (s.data.toList.drop k).take (k + 1 - k) = [s[k]] := by
    rw [List.drop_eq_getElem_cons (by simpa using h), show k + 1 - k = 1 by omega]; rfl
  rw [h2] at h1
  exact h1
theorem wdS_end (w : Bs) : wdS [] w = if w = [] then [] else [w] := by unfold wdS; rfl
theorem wdS_cons (c : UInt8) (r w : Bs) : wdS (c :: r) w = if c = 59 then (if w = [] then [] else [w]) else if isSp c = true then (if w = [] then wdS r [] else w :: wdS r []) else wdS r (w ++ [c]) := by
  conv => lhs; unfold wdS
theorem d_drop (s : ByteArray) (k : Nat) (h : k < s.size) : s.data.toList.drop k = s[k] :: s.data.toList.drop (k + 1) := by
  have hk : k < s.data.toList.length := by rw [Array.length_toList]; exact h
  rw [List.drop_eq_getElem_cons hk]
  rfl
theorem ba_app (a b : Bs) : (⟨a.toArray⟩ : ByteArray) ++ ⟨b.toArray⟩ = ⟨(a ++ b).toArray⟩ := by
  apply ByteArray.ext
  simp
theorem in_ne {c d : UInt8} (h : c ≠ d) {k : Int} (hk : (d.toNat : Int) = k) : ((c.toNat : Int) == k) = false := by
  subst hk
  have : c.toNat ≠ d.toNat := fun e => h (by rw [← UInt8.toNat_inj]; exact e)
  have h2 : (c.toNat : Int) ≠ (d.toNat : Int) := by omega
  simpa using h2
theorem isSp_yes {c : UInt8} (h : c = 32 ∨ c = 9) : isSp c = true := by rcases h with rfl | rfl <;> decide
theorem isSp_no {c : UInt8} (h : c ≠ 32) (h2 : c ≠ 9) : isSp c = false := by
  simp [isSp, sp, h, h2]
set_option maxHeartbeats 6400000 in
theorem rwords_s (s : ByteArray) (w : World) (hs : s.size ≤ 1000000) : Calls Tryd.prog 52 #[.string s] w fun e w' => ∃ v, e = .returned v ∧ w'.ownsRow w.heap.size 9 1 v (wdL s.data.toList).length ((wdL s.data.toList).map str) ∧ Below w.heap.size w w' := by
  have HL : Hid (s.data.toList.length = s.size) := Array.length_toList
  obtain ⟨RES, hRES⟩ : ∃ RES, RES = wdL s.data.toList := ⟨_, rfl⟩
  have HR0 : Hid (RES = ([] : List Bs) ++ wdS (s.data.toList.drop 0) []) := hRES
  rw [← hRES]
  clear hRES
  go_enter Tryd.func52, Tryd.ntmps52
  go_wp2_with fail
  go_loopg [3, 4, 5] s.size (fun g v xv iv wr => ∃ (i : Nat) (ws : List Bs) (x : Bs), s.size - i ≤ g ∧ i ≤ s.size ∧ iv = i64 i ∧ xv = str x ∧ x.length ≤ i ∧ ws.length ≤ i ∧ Hid (RES = ws ++ wdS (s.data.toList.drop i) x) ∧ Hid (wr.ownsRow w.heap.size 9 1 v ws.length (ws.map str)) ∧ Hid (Below w.heap.size w wr))
  case atStart => exact ⟨0, [], [], by omega, by omega, rfl, rfl, Nat.le_refl _, Nat.le_refl _, HR0, World.ownsRow_nil _ _ _ _, Below.refl _ _⟩
  case round =>
    obtain ⟨i, ws, x, hg, hi, rfl, rfl, hxi, hwi, HR, HO, HB⟩ := hrel
    have hz := HB.out.size
    obtain ⟨ao, cap, rfl, _, _⟩ := own_words HO.out
    by_cases hend : i = s.size
    · have hlt : ¬ (i : Int) < (s.size : Int) := by omega
      have HR2 : Hid (RES = ws ++ wdS [] x) := by
        show _ = _
        rw [HR.out, List.drop_eq_nil_of_le (by rw [HL.out]; omega)]
      clear HR hend
      by_cases hx : x = []
      · subst hx
        have HE : Hid (RES = ws) := by show _ = _; rw [HR2.out]; simp [wdS_end]
        go_wp2_with fail
        go_ret
        exact ⟨_, rfl, by rw [HE.out]; exact HO.out, HB.out⟩
      · have hx2 : x.isEmpty = false := by simp [hx]
        have HE : Hid (RES = ws ++ [x]) := by show _ = _; rw [HR2.out, wdS_end, if_neg hx]
        clear hx HR2
        go_wp2_with (at_builtin; refine app28 rfl (.tmp 43) (.tmp 45) rfl w.heap.size _ ws.length _ rfl (HO.out.alloc _) _ _ _ rfl (one_at9 rfl _) (by omega) (by simp <;> omega) ?_; intro v4 w4 ho4 hb4; have HO4 : Hid (w4.ownsRow w.heap.size 9 1 v4 (ws.length + 1) (ws.map str ++ [str x])) := ho4; have HB4 : Hid (Below w.heap.size w w4) := (HB.out.alloc hz _).trans hb4; clear ho4 hb4)
        go_ret
        exact ⟨_, rfl, by rw [HE.out, List.map_append, List.length_append]; exact HO4.out, HB4.out⟩
    · have hlt : i < s.size := by omega
      have HR2 : Hid (RES = ws ++ wdS (s[i] :: s.data.toList.drop (i + 1)) x) := by
        show _ = _
        rw [HR.out, d_drop s i hlt]
      have hsl := sl_one s i hlt
      clear HR hend
      by_cases h59 : s[i] = 59
      · have hc1 : ((s[i].toNat : Int) == 59) = true := by rw [h59]; rfl
        have HR3 : Hid (RES = ws ++ (if x = [] then [] else [x])) := by show _ = _; rw [HR2.out, wdS_cons, if_pos h59]
        clear HR2 h59
        by_cases hx : x = []
        · subst hx
          have HE : Hid (RES = ws) := by show _ = _; rw [HR3.out]; simp
          go_wp2_with fail
          go_ret
          exact ⟨_, rfl, by rw [HE.out]; exact HO.out, HB.out⟩
        · have hx2 : x.isEmpty = false := by simp [hx]
          have HE : Hid (RES = ws ++ [x]) := by show _ = _; rw [HR3.out, if_neg hx]
          clear hx HR3
          go_wp2_with (at_builtin; refine app28 rfl (.tmp 43) (.tmp 45) rfl w.heap.size _ ws.length _ rfl (HO.out.alloc _) _ _ _ rfl (one_at9 rfl _) (by omega) (by simp <;> omega) ?_; intro v4 w4 ho4 hb4; have HO4 : Hid (w4.ownsRow w.heap.size 9 1 v4 (ws.length + 1) (ws.map str ++ [str x])) := ho4; have HB4 : Hid (Below w.heap.size w w4) := (HB.out.alloc hz _).trans hb4; clear ho4 hb4)
          go_ret
          exact ⟨_, rfl, by rw [HE.out, List.map_append, List.length_append]; exact HO4.out, HB4.out⟩
      · have hc1 : ((s[i].toNat : Int) == 59) = false := in_ne h59 rfl
        by_cases hsp : s[i] = 32 ∨ s[i] = 9
        · have HR3 : Hid (RES = ws ++ (if x = [] then wdS (s.data.toList.drop (i + 1)) [] else x :: wdS (s.data.toList.drop (i + 1)) [])) := by show _ = _; rw [HR2.out, wdS_cons, if_neg h59, if_pos (isSp_yes hsp)]
          have HC : (((s[i].toNat : Int) != 32) = false) ∨ ((((s[i].toNat : Int) != 32) = true) ∧ ((s[i].toNat : Int) != 9) = false) := by
            rcases hsp with h | h
            · left; rw [h]; rfl
            · right; rw [h]; exact ⟨rfl, rfl⟩
          clear HR2 h59 hsp
          by_cases hx : x = []
          · subst hx
            have HE : Hid (RES = ws ++ wdS (s.data.toList.drop (i + 1)) []) := by show _ = _; rw [HR3.out]; simp
            clear HR3
            rcases HC with hc2 | ⟨hc2, hc3⟩
            · go_wp2_with fail
              go_roundg (s.size - (i + 1))
              case measure => omega
              case rel => exact ⟨i + 1, ws, [], by omega, by omega, by go_num, rfl, by simp, by omega, HE, HO, HB⟩
            · go_wp2_with fail
              go_roundg (s.size - (i + 1))
              case measure => omega
              case rel => exact ⟨i + 1, ws, [], by omega, by omega, by go_num, rfl, by simp, by omega, HE, HO, HB⟩
          · have hx2 : x.isEmpty = false := by simp [hx]
            have HE : Hid (RES = (ws ++ [x]) ++ wdS (s.data.toList.drop (i + 1)) []) := by show _ = _; rw [HR3.out, if_neg hx]; simp
            clear HR3 hx
            rcases HC with hc2 | ⟨hc2, hc3⟩
            · go_wp2_with (at_builtin; refine app28 rfl (.tmp 37) (.tmp 39) rfl w.heap.size _ ws.length _ rfl (HO.out.alloc _) _ _ _ rfl (one_at9 rfl _) (by omega) (by simp <;> omega) ?_; intro v4 w4 ho4 hb4; have HO4 : Hid (w4.ownsRow w.heap.size 9 1 v4 (ws.length + 1) (ws.map str ++ [str x])) := ho4; have HB4 : Hid (Below w.heap.size w w4) := (HB.out.alloc hz _).trans hb4; clear ho4 hb4)
              go_roundg (s.size - (i + 1))
              case measure => omega
              case rel => exact ⟨i + 1, ws ++ [x], [], by omega, by omega, by go_num, rfl, by simp, by simp; omega, HE, by rw [List.map_append, List.length_append]; exact HO4, HB4⟩
            · go_wp2_with (at_builtin; refine app28 rfl (.tmp 37) (.tmp 39) rfl w.heap.size _ ws.length _ rfl (HO.out.alloc _) _ _ _ rfl (one_at9 rfl _) (by omega) (by simp <;> omega) ?_; intro v4 w4 ho4 hb4; have HO4 : Hid (w4.ownsRow w.heap.size 9 1 v4 (ws.length + 1) (ws.map str ++ [str x])) := ho4; have HB4 : Hid (Below w.heap.size w w4) := (HB.out.alloc hz _).trans hb4; clear ho4 hb4)
              go_roundg (s.size - (i + 1))
              case measure => omega
              case rel => exact ⟨i + 1, ws ++ [x], [], by omega, by omega, by go_num, rfl, by simp, by simp; omega, HE, by rw [List.map_append, List.length_append]; exact HO4, HB4⟩
        · have h32 : s[i] ≠ 32 := fun h => hsp (Or.inl h)
          have h9 : s[i] ≠ 9 := fun h => hsp (Or.inr h)
          have hc2 : ((s[i].toNat : Int) != 32) = true := (by rw [bne, in_ne h32 (k := 32) rfl]; rfl)
          have hc3 : ((s[i].toNat : Int) != 9) = true := (by rw [bne, in_ne h9 (k := 9) rfl]; rfl)
          have HE : Hid (RES = ws ++ wdS (s.data.toList.drop (i + 1)) (x ++ [s[i]])) := by
            show _ = _; rw [HR2.out, wdS_cons, if_neg h59, isSp_no h32 h9, if_neg (by simp)]
          have HSX : Hid (Value.string ((⟨x.toArray⟩ : ByteArray) ++ (⟨#[s[i]]⟩ : ByteArray)) = str (x ++ [s[i]])) := by
            show Value.string _ = Value.string _
            rw [show (⟨#[s[i]]⟩ : ByteArray) = ⟨([s[i]] : Bs).toArray⟩ from rfl, ba_app]
          have hxs : (⟨x.toArray⟩ : ByteArray).size ≤ 1000000 := by show x.toArray.size ≤ _; simp; omega
          clear HR2 h59 hsp h32 h9
          go_wp2_with fail
          go_roundg (s.size - (i + 1))
          case measure => omega
          case rel => exact ⟨i + 1, ws, x ++ [s[i]], by omega, by omega, by go_num, HSX.out, by simp; omega, by omega, HE, HO, HB⟩
end Go.Proofs.YtobkehlkopkaeaaDoor
