/- Texts Qt Qu in one; no statement is proved in this text. -/
import Derived.Test.YtjppcfjjpkniaaaGreatDoorMQ
import Derived.Test.YtjppcfjjpkniaaaGreatDoorMN
namespace Go.Proofs.YtjppcfjjpkniaaaGreatDoor
open Go.ChangeShapes Go.WideShapes Go.ChangeAt Go.RowKit Go.Deep
attribute [local go_sem ↓] Go.wp_at_zero Go.wp_at_succ
set_option maxRecDepth 100000

theorem in_ne {c d : UInt8} (h : c ≠ d) {k : Int} (hk : (d.toNat : Int) = k) : ((c.toNat : Int) == k) = false := by
  subst hk
  have : c.toNat ≠ d.toNat := fun e => h (by rw [← UInt8.toNat_inj]; exact e)
  have h2 : (c.toNat : Int) ≠ (d.toNat : Int) := by omega
  simpa using h2
theorem RwI.form {w X : World} {ov cv : Value} {D : List (List Bs × Value)} {cur : List Bs} (h : RwI w X ov D cur cv) : ∃ g oc, ov = .slice (some ⟨g, 0, none⟩) (D.length + 1) oc := by
  rcases h.own.2 with ⟨_, h0⟩ | ⟨g, oc, cu, hv, _⟩
  · omega
  exact ⟨g, oc, hv⟩
set_option maxHeartbeats 3200000 in
theorem rows_s (s : ByteArray) (w : World) (hs : s.size ≤ 90000) : Calls Tryz.prog 20 #[.string s] w fun e w' => (∃ v, e = .returned v ∧ Rws w' (fun k => w.heap.size ≤ k) v ((lns s.data.toList).map rowF)) ∧ Below w.heap.size w w' := by
  have hlen : s.data.toList.length = s.size := Array.length_toList
  have HL := hid hlen
  obtain ⟨res, hres⟩ : ∃ res, res = (lns s.data.toList).map rowF := ⟨_, rfl⟩
  have HR0 : Hid ((0 ≤ s.size ∧ res = ([] : List (List Bs × Value)).map (·.1) ++ qscan (s.data.toList.drop 0) [] [] false) ∨ (0 = s.size + 1 ∧ res = ([] : List (List Bs × Value)).map (·.1) ++ [[]])) := Or.inl ⟨by omega, by rw [hres, List.drop_zero, qrows_eq]; rfl⟩
  rw [← hres]
  have HI0 := hid (rw_start w)
  clear hlen hres
  go_enter Tryz.func20, Tryz.ntmps20
  go_upto_region 5 with fail
  go_loopg [3, 4, 5, 6] (s.size + 1) (fun g ov wv nv iv X => ∃ (i : Nat) (D : List (List Bs × Value)) (cur : List Bs) (cv : Value) (x : Bs) (nt : Bool), s.size + 1 - i ≤ g ∧ wv = str x ∧ nv = .bool nt ∧ iv = .int .i64 i ∧ x.length ≤ i ∧ cur.length ≤ i ∧ D.length ≤ i ∧ Hid (RwI w X ov D cur cv) ∧ Hid ((i ≤ s.size ∧ res = D.map (·.1) ++ qscan (s.data.toList.drop i) cur x nt) ∨ (i = s.size + 1 ∧ res = D.map (·.1) ++ [cur])))
  case atStart => exact ⟨0, [], [], nilS, [], false, by omega, rfl, rfl, rfl, by simp, by simp, by simp, HI0, HR0⟩
  case round =>
    obtain ⟨i, D, cur, cv, x, nt, hg, rfl, rfl, rfl, hxi, hci, hDi, HI, HR⟩ := hrel
    obtain ⟨g1, oc1, rfl⟩ := HI.out.form
    by_cases hend : i ≤ s.size
    ·
      by_cases hlast : i = s.size
      · have hib : ((i : Int) == (s.size : Int)) = true := by rw [hlast]; simp
        have hil : ¬ (i : Int) < (s.size : Int) := by omega
        have HRel0 : Hid (res = D.map (·.1) ++ [qfl cur x]) := by
          rcases HR.out with ⟨_, h⟩ | ⟨h, _⟩
          · rw [List.drop_eq_nil_of_le (by rw [HL.out]; omega)] at h; exact h
          · omega
        have HLast := hid hlast
        clear HR hlast
        by_cases hx : x = []
        · subst hx
          have hx1 : ((⟨([] : Bs).toArray⟩ : ByteArray) == ⟨#[]⟩) = true := by decide
          have HRel : Hid ((i + 1 ≤ s.size ∧ res = (D).map (·.1) ++ qscan (s.data.toList.drop (i + 1)) cur [] nt) ∨ (i + 1 = s.size + 1 ∧ res = (D).map (·.1) ++ [cur])) := by
            refine Or.inr ⟨by first | omega | (have := HLast.out; omega), ?_⟩
            rw [HRel0.out]; simp [qfl, *]
          go_wp2_with fail
          go_roundg (s.size + 1 - (i + 1))
          case measure => omega
          case rel => exact ⟨i + 1, D, cur, cv, [], nt, by omega, rfl, rfl, by go_num, by simp, by omega, by omega, HI, HRel⟩
        · have hx1 : ((⟨x.toArray⟩ : ByteArray) == ⟨#[]⟩) = false := by
            rw [show (⟨#[]⟩ : ByteArray) = ⟨([] : Bs).toArray⟩ from rfl, ba_beq]; simp [hx]
          have hx2 : x.isEmpty = false := by simp [hx]
          have HRel : Hid ((i + 1 ≤ s.size ∧ res = (D).map (·.1) ++ qscan (s.data.toList.drop (i + 1)) (cur ++ [x]) [] nt) ∨ (i + 1 = s.size + 1 ∧ res = (D).map (·.1) ++ [(cur ++ [x])])) := by
            refine Or.inr ⟨by first | omega | (have := HLast.out; omega), ?_⟩
            rw [HRel0.out]; simp [qfl, *]
          obtain ⟨g0, oc, hov, hg0, hcell, ao, cap, w', hrun, hcell', hfr, hI⟩ := HI.out.word x (by unfold maxLen; omega) (by omega)
          cases hov
          have HRUN := hid hrun
          have HI2 := hid hI
          clear hrun hI hg0 HI
          go_upto_region 12 with (at_builtin; refine wpList_app_run rfl (.tmp 54) (.tmp 56) 46 rfl _ _ rfl rfl 46 rfl _ _ HRUN.out ?_)
          clear HRUN hcell hcell' hfr
          generalize w'.setCell ⟨g1, D.length, none⟩ (.slice ao (cur.length + 1) cap) = X2 at *
          go_wp2_with fail
          go_roundg (s.size + 1 - (i + 1))
          case measure => omega
          case rel => exact ⟨i + 1, D, (cur ++ [x]), (.slice ao (cur.length + 1) cap), [], nt, by omega, rfl, rfl, by go_num, by simp, by simp; omega, by omega, HI2, HRel⟩
      · have hlt : i < s.size := by omega
        have hib : ((i : Int) == (s.size : Int)) = false := by
          have : (i : Int) ≠ s.size := by omega
          simpa using this
        have HRel0 : Hid (res = D.map (·.1) ++ qscan (s[i] :: s.data.toList.drop (i + 1)) cur x nt) := by
          rcases HR.out with ⟨_, h⟩ | ⟨h, _⟩
          · rw [List.drop_eq_getElem_cons (by rw [HL.out]; exact hlt)] at h; exact h
          · omega
        have hsl := sl_one s i hlt
        clear HR hlast
        by_cases h10 : s[i] = 10
        · have hc1 : ((s[i].toNat : Int) == 10) = true := by rw [h10]; rfl
          have HRel1 : Hid (res = D.map (·.1) ++ (qfl cur x :: qscan (s.data.toList.drop (i + 1)) [] [] false)) := by
            show _ = _
            rw [HRel0.out]
            simp only [qscan, h10, if_true]
          clear HRel0 h10
          by_cases hx : x = []
          · subst hx
            have hx1 : ((⟨([] : Bs).toArray⟩ : ByteArray) == ⟨#[]⟩) = true := by decide
            have HRel : Hid ((i + 1 ≤ s.size ∧ res = ((D ++ [(cur, cv)])).map (·.1) ++ qscan (s.data.toList.drop (i + 1)) [] [] false) ∨ (i + 1 = s.size + 1 ∧ res = ((D ++ [(cur, cv)])).map (·.1) ++ [[]])) := by
              refine Or.inl ⟨by first | omega | (have := HLast.out; omega), ?_⟩
              rw [HRel1.out]; simp [qfl, *]
            obtain ⟨aw, cw, w2, hrun, hI⟩ := HI.out.row (by omega)
            have HRUN := hid hrun
            have HI3 := hid hI
            clear hrun hI
            go_upto_region 18 with (at_builtin; refine wpList_app_run rfl (.tmp 82) (.tmp 84) 59 rfl _ _ rfl rfl 59 rfl _ _ HRUN.out ?_)
            clear HRUN
            go_wp2_with fail
            go_roundg (s.size + 1 - (i + 1))
            case measure => omega
            case rel => exact ⟨i + 1, (D ++ [(cur, cv)]), [], nilS, [], false, by omega, rfl, rfl, by go_num, by simp, by simp, by simp; omega, HI3, HRel⟩
          · have hx1 : ((⟨x.toArray⟩ : ByteArray) == ⟨#[]⟩) = false := by
              rw [show (⟨#[]⟩ : ByteArray) = ⟨([] : Bs).toArray⟩ from rfl, ba_beq]; simp [hx]
            have hx2 : x.isEmpty = false := by simp [hx]
            have HRel : Hid ((i + 1 ≤ s.size ∧ res = ((D ++ [(cur ++ [x], nilS)])).map (·.1) ++ qscan (s.data.toList.drop (i + 1)) [] [] false) ∨ (i + 1 = s.size + 1 ∧ res = ((D ++ [(cur ++ [x], nilS)])).map (·.1) ++ [[]])) := by
              refine Or.inl ⟨by first | omega | (have := HLast.out; omega), ?_⟩
              rw [HRel1.out]; simp [qfl, *]
            obtain ⟨g0, oc, hov, hg0, hcell, ao, cap, w', hrun, hcell', hfr, hI⟩ := HI.out.word x (by unfold maxLen; omega) (by omega)
            cases hov
            have HRUN := hid hrun
            have HI2 := hid hI
            clear hrun hI hg0 HI
            go_upto_region 12 with (at_builtin; refine wpList_app_run rfl (.tmp 54) (.tmp 56) 46 rfl _ _ rfl rfl 46 rfl _ _ HRUN.out ?_)
            clear HRUN hcell hcell' hfr
            generalize w'.setCell ⟨g1, D.length, none⟩ (.slice ao (cur.length + 1) cap) = X2 at *
            obtain ⟨aw, cw, w2, hrun, hI⟩ := HI2.out.row (by omega)
            have HRUN := hid hrun
            have HI3 := hid hI
            clear hrun hI
            go_upto_region 18 with (at_builtin; refine wpList_app_run rfl (.tmp 82) (.tmp 84) 59 rfl _ _ rfl rfl 59 rfl _ _ HRUN.out ?_)
            clear HRUN
            go_wp2_with fail
            go_roundg (s.size + 1 - (i + 1))
            case measure => omega
            case rel => exact ⟨i + 1, (D ++ [(cur ++ [x], .slice ao (cur.length + 1) cap)]), [], nilS, [], false, by omega, rfl, rfl, by go_num, by simp, by simp, by simp; omega, HI3, (by show _ ∨ _; simpa using HRel.out)⟩
        · have hc1 := i10 h10
          by_cases h32 : s[i] = 32
          · have hc2 : ((s[i].toNat : Int) == 32) = true := by rw [h32]; rfl
            have hc3 : ((s[i].toNat : Int) == 59) = false := by rw [h32]; rfl
            have HRel1 : Hid (res = D.map (·.1) ++ qscan (s.data.toList.drop (i + 1)) (qfl cur x) [] nt) := by
              show _ = _
              rw [HRel0.out]
              simp [qscan, h32]
            clear HRel0 h10 h32
            by_cases hx : x = []
            · subst hx
              have hx1 : ((⟨([] : Bs).toArray⟩ : ByteArray) == ⟨#[]⟩) = true := by decide
              have HRel : Hid ((i + 1 ≤ s.size ∧ res = (D).map (·.1) ++ qscan (s.data.toList.drop (i + 1)) cur [] nt) ∨ (i + 1 = s.size + 1 ∧ res = (D).map (·.1) ++ [cur])) := by
                refine Or.inl ⟨by first | omega | (have := HLast.out; omega), ?_⟩
                rw [HRel1.out]; simp [qfl, *]
              go_wp2_with fail
              go_roundg (s.size + 1 - (i + 1))
              case measure => omega
              case rel => exact ⟨i + 1, D, cur, cv, [], nt, by omega, rfl, rfl, by go_num, by simp, by omega, by omega, HI, HRel⟩
            · have hx1 : ((⟨x.toArray⟩ : ByteArray) == ⟨#[]⟩) = false := by
                rw [show (⟨#[]⟩ : ByteArray) = ⟨([] : Bs).toArray⟩ from rfl, ba_beq]; simp [hx]
              have hx2 : x.isEmpty = false := by simp [hx]
              have HRel : Hid ((i + 1 ≤ s.size ∧ res = (D).map (·.1) ++ qscan (s.data.toList.drop (i + 1)) (cur ++ [x]) [] nt) ∨ (i + 1 = s.size + 1 ∧ res = (D).map (·.1) ++ [(cur ++ [x])])) := by
                refine Or.inl ⟨by first | omega | (have := HLast.out; omega), ?_⟩
                rw [HRel1.out]; simp [qfl, *]
              obtain ⟨g0, oc, hov, hg0, hcell, ao, cap, w', hrun, hcell', hfr, hI⟩ := HI.out.word x (by unfold maxLen; omega) (by omega)
              cases hov
              have HRUN := hid hrun
              have HI2 := hid hI
              clear hrun hI hg0 HI
              go_upto_region 12 with (at_builtin; refine wpList_app_run rfl (.tmp 54) (.tmp 56) 46 rfl _ _ rfl rfl 46 rfl _ _ HRUN.out ?_)
              clear HRUN hcell hcell' hfr
              generalize w'.setCell ⟨g1, D.length, none⟩ (.slice ao (cur.length + 1) cap) = X2 at *
              go_wp2_with fail
              go_roundg (s.size + 1 - (i + 1))
              case measure => omega
              case rel => exact ⟨i + 1, D, (cur ++ [x]), (.slice ao (cur.length + 1) cap), [], nt, by omega, rfl, rfl, by go_num, by simp, by simp; omega, by omega, HI2, HRel⟩
          · have hc2 : ((s[i].toNat : Int) == 32) = false := in_ne h32 rfl
            by_cases h59 : s[i] = 59
            · have hc3 : ((s[i].toNat : Int) == 59) = true := by rw [h59]; rfl
              have HRel1 : Hid (res = D.map (·.1) ++ qscan (s.data.toList.drop (i + 1)) (qfl cur x) [] true) := by
                show _ = _
                rw [HRel0.out]
                simp [qscan, h59]
              clear HRel0 h10 h32 h59
              by_cases hx : x = []
              · subst hx
                have hx1 : ((⟨([] : Bs).toArray⟩ : ByteArray) == ⟨#[]⟩) = true := by decide
                have HRel : Hid ((i + 1 ≤ s.size ∧ res = (D).map (·.1) ++ qscan (s.data.toList.drop (i + 1)) cur [] true) ∨ (i + 1 = s.size + 1 ∧ res = (D).map (·.1) ++ [cur])) := by
                  refine Or.inl ⟨by first | omega | (have := HLast.out; omega), ?_⟩
                  rw [HRel1.out]; simp [qfl, *]
                go_wp2_with fail
                go_roundg (s.size + 1 - (i + 1))
                case measure => omega
                case rel => exact ⟨i + 1, D, cur, cv, [], true, by omega, rfl, rfl, by go_num, by simp, by omega, by omega, HI, HRel⟩
              · have hx1 : ((⟨x.toArray⟩ : ByteArray) == ⟨#[]⟩) = false := by
                  rw [show (⟨#[]⟩ : ByteArray) = ⟨([] : Bs).toArray⟩ from rfl, ba_beq]; simp [hx]
                have hx2 : x.isEmpty = false := by simp [hx]
                have HRel : Hid ((i + 1 ≤ s.size ∧ res = (D).map (·.1) ++ qscan (s.data.toList.drop (i + 1)) (cur ++ [x]) [] true) ∨ (i + 1 = s.size + 1 ∧ res = (D).map (·.1) ++ [(cur ++ [x])])) := by
                  refine Or.inl ⟨by first | omega | (have := HLast.out; omega), ?_⟩
                  rw [HRel1.out]; simp [qfl, *]
                obtain ⟨g0, oc, hov, hg0, hcell, ao, cap, w', hrun, hcell', hfr, hI⟩ := HI.out.word x (by unfold maxLen; omega) (by omega)
                cases hov
                have HRUN := hid hrun
                have HI2 := hid hI
                clear hrun hI hg0 HI
                go_upto_region 12 with (at_builtin; refine wpList_app_run rfl (.tmp 54) (.tmp 56) 46 rfl _ _ rfl rfl 46 rfl _ _ HRUN.out ?_)
                clear HRUN hcell hcell' hfr
                generalize w'.setCell ⟨g1, D.length, none⟩ (.slice ao (cur.length + 1) cap) = X2 at *
                go_wp2_with fail
                go_roundg (s.size + 1 - (i + 1))
                case measure => omega
                case rel => exact ⟨i + 1, D, (cur ++ [x]), (.slice ao (cur.length + 1) cap), [], true, by omega, rfl, rfl, by go_num, by simp, by simp; omega, by omega, HI2, HRel⟩
            · have hc3 : ((s[i].toNat : Int) == 59) = false := in_ne h59 rfl
              cases nt with
              | true =>
                have HRel1 : Hid (res = D.map (·.1) ++ qscan (s.data.toList.drop (i + 1)) (qfl cur x) [] true) := by
                  show _ = _
                  rw [HRel0.out]
                  simp [qscan, h10, h32, h59]
                clear HRel0 h10 h32 h59
                by_cases hx : x = []
                · subst hx
                  have hx1 : ((⟨([] : Bs).toArray⟩ : ByteArray) == ⟨#[]⟩) = true := by decide
                  have HRel : Hid ((i + 1 ≤ s.size ∧ res = (D).map (·.1) ++ qscan (s.data.toList.drop (i + 1)) cur [] true) ∨ (i + 1 = s.size + 1 ∧ res = (D).map (·.1) ++ [cur])) := by
                    refine Or.inl ⟨by first | omega | (have := HLast.out; omega), ?_⟩
                    rw [HRel1.out]; simp [qfl, *]
                  go_wp2_with fail
                  go_roundg (s.size + 1 - (i + 1))
                  case measure => omega
                  case rel => exact ⟨i + 1, D, cur, cv, [], true, by omega, rfl, rfl, by go_num, by simp, by omega, by omega, HI, HRel⟩
                · have hx1 : ((⟨x.toArray⟩ : ByteArray) == ⟨#[]⟩) = false := by
                    rw [show (⟨#[]⟩ : ByteArray) = ⟨([] : Bs).toArray⟩ from rfl, ba_beq]; simp [hx]
                  have hx2 : x.isEmpty = false := by simp [hx]
                  have HRel : Hid ((i + 1 ≤ s.size ∧ res = (D).map (·.1) ++ qscan (s.data.toList.drop (i + 1)) (cur ++ [x]) [] true) ∨ (i + 1 = s.size + 1 ∧ res = (D).map (·.1) ++ [(cur ++ [x])])) := by
                    refine Or.inl ⟨by first | omega | (have := HLast.out; omega), ?_⟩
                    rw [HRel1.out]; simp [qfl, *]
                  obtain ⟨g0, oc, hov, hg0, hcell, ao, cap, w', hrun, hcell', hfr, hI⟩ := HI.out.word x (by unfold maxLen; omega) (by omega)
                  cases hov
                  have HRUN := hid hrun
                  have HI2 := hid hI
                  clear hrun hI hg0 HI
                  go_upto_region 12 with (at_builtin; refine wpList_app_run rfl (.tmp 54) (.tmp 56) 46 rfl _ _ rfl rfl 46 rfl _ _ HRUN.out ?_)
                  clear HRUN hcell hcell' hfr
                  generalize w'.setCell ⟨g1, D.length, none⟩ (.slice ao (cur.length + 1) cap) = X2 at *
                  go_wp2_with fail
                  go_roundg (s.size + 1 - (i + 1))
                  case measure => omega
                  case rel => exact ⟨i + 1, D, (cur ++ [x]), (.slice ao (cur.length + 1) cap), [], true, by omega, rfl, rfl, by go_num, by simp, by simp; omega, by omega, HI2, HRel⟩
              | false =>
                have HRel1 : Hid ((i + 1 ≤ s.size ∧ res = D.map (·.1) ++ qscan (s.data.toList.drop (i + 1)) cur (x ++ [s[i]]) false) ∨ (i + 1 = s.size + 1 ∧ res = D.map (·.1) ++ [cur])) := by
                  refine Or.inl ⟨by omega, ?_⟩
                  rw [HRel0.out]
                  simp [qscan, h10, h32, h59]
                clear HRel0 h10 h32 h59
                have HSX : Hid (Value.string ((⟨x.toArray⟩ : ByteArray) ++ (⟨#[s[i]]⟩ : ByteArray)) = str (x ++ [s[i]])) := by
                  show Value.string _ = Value.string _
                  rw [show (⟨#[s[i]]⟩ : ByteArray) = ⟨([s[i]] : Bs).toArray⟩ from rfl, ba_append]
                have hxs : (⟨x.toArray⟩ : ByteArray).size ≤ 100000 := by show x.toArray.size ≤ _; simp; omega
                go_wp2_with fail
                go_roundg (s.size + 1 - (i + 1))
                case measure => omega
                case rel => exact ⟨i + 1, D, cur, cv, x ++ [s[i]], false, by omega, HSX.out, rfl, by go_num, by simp; omega, by omega, by omega, HI, HRel1⟩
    · have hi1 : i = s.size + 1 := by
        rcases HR.out with ⟨h, _⟩ | ⟨h, _⟩ <;> omega
      have hgt : ¬ (i : Int) ≤ (s.size : Int) := by omega
      have HF : Hid (res = D.map (·.1) ++ [cur]) := by
        rcases HR.out with ⟨h, _⟩ | ⟨_, h⟩
        · omega
        · exact h
      go_wp2_with fail
      go_ret
      exact ⟨⟨_, rfl, by rw [HF.out]; exact HI.out.rws⟩, HI.out.bel⟩
end Go.Proofs.YtjppcfjjpkniaaaGreatDoor
namespace Go.Proofs.YtjppcfjjpkniaaaGreatDoor
open Go.ChangeShapes Go.WideShapes Go.ChangeAt Go.RowKit Go.Deep
set_option maxRecDepth 100000

abbrev rO (L a c d : Value) : Obj := .cells #[L, a, c, d] 57
theorem rb0 {S : Nat} {L a c d : Value} {w : World} (hS : w.heap[S]? = some (rO L a c d)) (x : Value) : (w.setCell ⟨S, 0, none⟩ x).heap[S]? = some (rO x a c d) := by
  have := heap_setCell_same w S 0 _ 57 x hS
  simpa using this
theorem rb1 {S : Nat} {L a c d : Value} {w : World} (hS : w.heap[S]? = some (rO L a c d)) (x : Value) : (w.setCell ⟨S, 1, none⟩ x).heap[S]? = some (rO L x c d) := by
  have := heap_setCell_same w S 1 _ 57 x hS
  simpa using this
theorem rb2 {S : Nat} {L a c d : Value} {w : World} (hS : w.heap[S]? = some (rO L a c d)) (x : Value) : (w.setCell ⟨S, 2, none⟩ x).heap[S]? = some (rO L a x d) := by
  have := heap_setCell_same w S 2 _ 57 x hS
  simpa using this
theorem rb3 {S : Nat} {L a c d : Value} {w : World} (hS : w.heap[S]? = some (rO L a c d)) (x : Value) : (w.setCell ⟨S, 3, none⟩ x).heap[S]? = some (rO L a c x) := by
  have := heap_setCell_same w S 3 _ 57 x hS
  simpa using this
abbrev setR (w : World) (S : Nat) (L a c d : Value) : World := (((w.setCell ⟨S, 0, none⟩ L).setCell ⟨S, 1, none⟩ a).setCell ⟨S, 2, none⟩ c).setCell ⟨S, 3, none⟩ d
theorem setR_at {S : Nat} {L a c d : Value} {w : World} (hS : w.heap[S]? = some (rO L a c d)) (L' a' c' d' : Value) : (setR w S L' a' c' d').heap[S]? = some (rO L' a' c' d') := rb3 (rb2 (rb1 (rb0 hS _) _) _) _
theorem setR_touch (w : World) (S : Nat) (L a c d : Value) : Touch S w (setR w S L a c d) := ((((Touch.refl S w).setCell (p := ⟨S, 0, none⟩) rfl _).setCell (p := ⟨S, 1, none⟩) rfl _).setCell (p := ⟨S, 2, none⟩) rfl _).setCell (p := ⟨S, 3, none⟩) rfl _
theorem setR_below {a w : World} {B S : Nat} (h : Below B a w) (hS : B ≤ S) (L t c d : Value) : Below B a (setR w S L t c d) := (((h.setCell (p := ⟨S, 0, none⟩) hS _).setCell (p := ⟨S, 1, none⟩) hS _).setCell (p := ⟨S, 2, none⟩) hS _).setCell (p := ⟨S, 3, none⟩) hS _
theorem vload57 {W : World} {b : Nat} {L a c d : Value} (h : W.heap[b]? = some (rO L a c d)) : (loadVar 57 ⟨b, 0, none⟩).run Tryz.prog W = .ok (.agg #[L, a, c, d]) W := by
  refine run_loadVar_mid _ _ 0 57 [L, a, c, d] _ (fun j u hu => ?_) Tryz.underlying57 rfl (by kernel_rfl)
  rw [Nat.zero_add, cell_of_row _ _ _ _ 57 (0, 0) h]
  simpa using hu
structure Lfs (w : World) (S : Nat) (L a c d : Value) : Prop where
  c0 : w.cell? ⟨S, 0, none⟩ = some L
  c1 : w.cell? ⟨S, 1, none⟩ = some a
  c2 : w.cell? ⟨S, 2, none⟩ = some c
  c3 : w.cell? ⟨S, 3, none⟩ = some d
  f0 : w.frozen? ⟨S, 0, none⟩ = false
  f1 : w.frozen? ⟨S, 1, none⟩ = false
  f2 : w.frozen? ⟨S, 2, none⟩ = false
  f3 : w.frozen? ⟨S, 3, none⟩ = false
theorem lfs {S : Nat} {L a c d : Value} {w : World} (h : w.heap[S]? = some (rO L a c d)) : Lfs w S L a c d :=
  ⟨blk_cell h 0, blk_cell h 1, blk_cell h 2, blk_cell h 3, blk_frozen h 0, blk_frozen h 1, blk_frozen h 2, blk_frozen h 3⟩
abbrev zR : Obj := rO nilS (i64 0) (i64 0) (i64 0)
/-- What list answers. -/
def LsOk (w : World) (S : Nat → Prop) (len i : Nat) (r : Rs) (e : Ending) (w' : World) : Prop :=
  (match r with
    | .ok l _ n cnt => ∃ a c m, (if i = 0 then m = n else m + 1 = n) ∧ e = .returned (.agg #[.slice a l.length c, i64 (m : Nat), i64 (cnt : Nat), i64 0]) ∧ Sds w' (fun k => S k ∨ w.heap.size ≤ k) l (.slice a l.length c)
    | .bad k => e = .returned (.agg #[nilS, i64 0, i64 0, i64 (k : Nat)]) ∨ (0 < i ∧ k = len ∧ ∃ a n c, ∃ ct : Nat, e = .returned (.agg #[.slice a n c, i64 (len : Nat), i64 (ct : Nat), i64 0]))) ∧ Below w.heap.size w w'
/-- The rows' cells. -/
def RwC (w : World) (S : Nat → Prop) (rb off : Nat) (W : List (List Bs)) : Prop := ∀ i ws, W[i]? = some ws → ∃ u, w.cell? ⟨rb, off + i, none⟩ = some u ∧ Strs w S u ws
structure LsI (w wr : World) (Q R : Nat) (S : Nat → Prop) (rb off : Nat) (W : List (List Bs)) (Lv bv : Value) (n cnt : Nat) (Ks : List Kst) : Prop where
  hQ : wr.heap[Q]? = some (rO Lv (i64 (n : Nat)) (i64 (cnt : Nat)) (i64 0))
  hR : wr.heap[R]? = some zR
  qr : Q ≠ R
  ql : w.heap.size ≤ Q
  rl : w.heap.size ≤ R
  st : StmE wr w.heap.size (fun b => (S b ∨ w.heap.size ≤ b) ∧ b ≠ Q ∧ b ≠ R) bv Ks
  rows : RwC wr S rb off W
  sb : S rb
  sl : ∀ k, S k → k < w.heap.size
  bel : Below w.heap.size w wr
section
variable {w wr wr' : World} {Q R rb off n cnt : Nat} {S : Nat → Prop} {W : List (List Bs)} {Lv bv : Value} {Ks : List Kst}
theorem bv_ne57 {lo b : Nat} {Av : Nat → Prop} {L a c d : Value} (h : StmE wr lo Av bv Ks) (hY : wr.heap[b]? = some (rO L a c d)) : bv.ownBlock ≠ some b := fun e => by
  obtain ⟨cur, hc⟩ := own_tag h.own e
  rw [hY] at hc
  cases hc
theorem RwC.move (h : RwC wr S rb off W) (hb : S rb) (hl : rb < wr.heap.size) (hz : wr.heap.size ≤ wr'.heap.size) (hk : ∀ b, S b → b < wr.heap.size → wr'.heap[b]? = wr.heap[b]?) : RwC wr' S rb off W := fun i ws hi => by
  obtain ⟨u, h1, h2⟩ := h i ws hi
  refine ⟨u, ?_, h2.move hz fun b h3 h4 => ⟨h3, hk b h3 h4⟩⟩
  have h5 : wr'.heap[rb]? = wr.heap[rb]? := hk rb hb hl
  rw [World.cell?_of_block (w := wr) h5]; exact h1
theorem LsI.below (h : LsI w wr Q R S rb off W Lv bv n cnt Ks) (hb : Below wr.heap.size wr wr') : LsI w wr' Q R S rb off W Lv bv n cnt Ks :=
  ⟨blk_below h.hQ hb, blk_below h.hR hb, h.qr, h.ql, h.rl, h.st.move hb.size (fun k hk => hb.block k (h.st.own.lt k hk).2) fun b h1 h2 _ => ⟨h1, hb.block b h2⟩, h.rows.move h.sb (Nat.lt_of_lt_of_le (h.sl _ h.sb) h.bel.size) hb.size fun b _ h4 => hb.block b h4, h.sb, h.sl, h.bel.trans (hb.mono h.bel.size)⟩
theorem LsI.onQ (h : LsI w wr Q R S rb off W Lv bv n cnt Ks) (ht : Touch Q wr wr') {Lv' : Value} {n' cnt' : Nat} (hQ : wr'.heap[Q]? = some (rO Lv' (i64 (n' : Nat)) (i64 (cnt' : Nat)) (i64 0))) : LsI w wr' Q R S rb off W Lv' bv n' cnt' Ks :=
  ⟨hQ, by rw [ht.block R (blk_lt h.hR) h.qr.symm]; exact h.hR, h.qr, h.ql, h.rl, h.st.move ht.size (fun k hk => ht.block k (h.st.own.lt k hk).2 (fun e => bv_ne57 h.st h.hQ (by rw [hk, e]))) fun b h1 h2 _ => ⟨h1, ht.block b h2 h1.2.1⟩,
    h.rows.move h.sb (Nat.lt_of_lt_of_le (h.sl _ h.sb) h.bel.size) ht.size fun b h3 h4 => ht.block b h4 (fun e => by have h1 := h.sl b h3; have h2 := h.ql; omega), h.sb, h.sl, h.bel.trans (ht.below h.ql h.bel.size)⟩
/-- A store into a block that is new since. -/
theorem LsI.onX (h : LsI w wr Q R S rb off W Lv bv n cnt Ks) {X : Nat} (hX : wr.heap.size ≤ X) {V V' : World} (hV : Below wr.heap.size wr V) (ht : Touch X V V') : LsI w V' Q R S rb off W Lv bv n cnt Ks :=
  h.below (hV.trans (ht.below hX hV.size))
/-- A statement more. -/
theorem LsI.push (h : LsI w wr Q R S rb off W Lv bv n cnt Ks) (s : Sm) (v : SV) (hs : Sd wr (fun b => ((S b ∨ w.heap.size ≤ b) ∧ b ≠ Q ∧ b ≠ R) ∧ some b ≠ bv.ownBlock) s v) (hl : Ks.length ≤ 100000) :
    ∃ ao cap w', (Builtin.append_ #[26, 26] 26 #[bv, .slice (some ⟨wr.heap.size, 0, none⟩) 1 1]).run Tryz.prog (wr.alloc (.cells (sc s v).toArray 66)) = .ok (.slice ao (Ks.length + 1) cap) w' ∧ LsI w w' Q R S rb off W Lv (.slice ao (Ks.length + 1) cap) n cnt (Ks ++ [(s, v)]) := by
  have h3 := h.bel.size
  obtain ⟨ao, cap, w', h1, h2, h4, h5, h6⟩ := push_ste h.st s v hs hl h3
  refine ⟨ao, cap, w', h1, h4.kept _ _ h.hQ (by rfl), h4.kept _ _ h.hR (by rfl), h.qr, h.ql, h.rl, h2, h.rows.move h.sb (Nat.lt_of_lt_of_le (h.sl _ h.sb) h3) h4.size fun b hb hlt => h5 b hlt (fun e => ?_), h.sb, h.sl, h.bel.trans h4.below⟩
  have := (h.st.own.lt b e.symm).1
  have := h.sl b hb
  omega
/-- A bad line ends the reading. -/
theorem ls_bad {len i : Nat} (h : LsI w wr Q R S rb off W Lv bv n cnt Ks) (k : Nat) : LsOk w S len i (.bad k) (.returned (.agg #[nilS, i64 0, i64 0, i64 (k : Nat)])) (setR wr R nilS (i64 0) (i64 0) (i64 (k : Nat))) :=
  ⟨Or.inl rfl, setR_below h.bel h.rl _ _ _ _⟩
theorem ls_late {len i : Nat} {a : Option Addr} {m c : Nat} (h : LsI w wr Q R S rb off W Lv bv n cnt Ks) (hi : 0 < i) : LsOk w S len i (.bad len) (.returned (.agg #[.slice a m c, i64 (len : Nat), i64 (cnt : Nat), i64 0])) (setR wr R (.slice a m c) (i64 (len : Nat)) (i64 (cnt : Nat)) (i64 0)) :=
  ⟨Or.inr ⟨hi, rfl, a, m, c, _, rfl⟩, setR_below h.bel h.rl _ _ _ _⟩
/-- What was read. -/
theorem ls_ok {len i m n' : Nat} {rest : List Bs} {a : Option Addr} {c : Nat} (h : LsI w wr Q R S rb off W Lv (.slice a Ks.length c) n cnt Ks) (hm : if i = 0 then m = n' else m + 1 = n') : LsOk w S len i (.ok (Ks.map (·.1)) rest n' cnt) (.returned (.agg #[.slice a Ks.length c, i64 (m : Nat), i64 (cnt : Nat), i64 0])) (setR wr R (.slice a Ks.length c) (i64 (m : Nat)) (i64 (cnt : Nat)) (i64 0)) := by
  have hl : (Ks.map (·.1)).length = Ks.length := by simp
  have ht := setR_touch wr R (.slice a Ks.length c) (i64 (m : Nat)) (i64 (cnt : Nat)) (i64 0)
  refine ⟨⟨a, c, m, hm, by rw [hl], ?_⟩, setR_below h.bel h.rl _ _ _ _⟩
  rw [hl]
  have h1 : Sds wr (fun b => (S b ∨ w.heap.size ≤ b) ∧ b ≠ R) (Ks.map (·.1)) (.slice a Ks.length c) := h.st.sds (fun b hb _ => ⟨hb.1, hb.2.2⟩) fun b hb => ⟨Or.inr (h.st.own.lt b hb).1, fun e => bv_ne57 h.st h.hR (by rw [hb, e])⟩
  exact h1.move ht.size fun b hb hlt => ⟨hb.1, ht.block b hlt hb.2⟩
end
end Go.Proofs.YtjppcfjjpkniaaaGreatDoor
