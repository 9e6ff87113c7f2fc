/- imagoref03.Flat: its contract; no statement is proved in this text. -/
import Derived.Test.YtdgofhhpgmpgjaaFlat
import Derived.Test.YtdgofhhpgmpgjaaRefRuns
namespace Go.Proofs.Ytdgofhhpgmpgjaa
open Go.ChangeShapes Go.WideShapes Go.ChangeAt Go.RowKit Go.Deep

set_option maxRecDepth 100000 in
set_option maxHeartbeats 4000000 in
theorem rflat_ok (w : World) (ao : Option Addr) (cap : Nat) (rs : List Rn) (hI : RSl w ao rs) (hlen : rs.length ≤ 300) (hwf : ∀ r ∈ rs, wfR r) :
    Calls Try.prog 13 #[.slice ao rs.length cap] w fun e w' => Below w.heap.size w w' ∧ ∃ v, e = .returned (.tuple #[v, i64 (flE rs)]) ∧ w'.ownsRow w.heap.size 3 1 v (flL rs).length (icells (flL rs)) := by
  obtain ⟨i3, hi, hz, hs, hby⟩ := info_parts info3x
  have HI3 : Hid (Try.prog.info? 3 = some i3) := hi
  have HBy : Hid (i3.bytes = 8) := hby
  have HI : Hid (RSl w ao rs) := hI
  have HW : Hid (∀ r ∈ rs, wfR r) := hwf
  clear hI hi hwf
  have hN : ∃ n, rs.length = n := ⟨_, rfl⟩
  obtain ⟨n, hN⟩ := hN
  rw [hN] at hlen ⊢
  have HN : Hid (rs.length = n) := hN
  clear hN
  go_enter Try.func13, Try.ntmps13
  go_wp2_with fail
  go_loopw [12] (fun i wr => ∃ (k : Nat), k ≤ n ∧ i = i64 k ∧ Below w.heap.size w wr ∧ Hid (allR (rs.take k))) (fun i _ => n - (intOf i).toNat)
  case atStart => exact ⟨0, by omega, rfl, Below.refl _ _, fun x hx => by simp at hx⟩
  case round =>
    obtain ⟨k, hk, rfl, hb, HK⟩ := hrel
    by_cases hlt : k < n
    · have hkl : k < rs.length := by rw [HN.out]; exact hlt
      obtain ⟨b, off, rfl, hbl, c0, c1⟩ := (HI.out.below hb).at hkl
      have hwk := HW.out _ (List.getElem_mem hkl)
      have hE : ∃ f l, rs[k] = (f, l) := ⟨_, _, rfl⟩
      obtain ⟨f, l, hE⟩ := hE
      rw [hE] at c0 c1 hwk
      have HE : Hid (rs[k] = (f, l)) := hE
      have HB : Hid (Below w.heap.size w wr) := hb
      obtain ⟨⟨wf1, wf2⟩, wl1, wl2⟩ := hwk
      simp only at wf1 wf2 wl1 wl2
      clear hb hE
      by_cases hr : rOk (f, l)
      · have h0 : 0 ≤ f := hr.1
        have h1 : 1 ≤ l := hr.2.1
        have h2 : l ≤ 64 - f := hr.2.2
        go_wp2_with fail
        exact ⟨⟨k + 1, by omega, by go_num, HB.out.alloc HB.out.size _, allR_take HK.out hkl (by rw [HE.out]; exact hr)⟩, by simp [intOf]; omega⟩
      · have hno : ¬ allR rs := fun h => hr (by rw [← HE.out]; exact h _ (List.getElem_mem hkl))
        have hE1 : flE rs = 1 := if_neg hno
        have hL1 : flL rs = [] := if_neg (fun h => hno h.1)
        have h5 : f < 0 ∨ (0 ≤ f ∧ 63 < f) ∨ (0 ≤ f ∧ f ≤ 63 ∧ l < 1) ∨ (0 ≤ f ∧ f ≤ 63 ∧ 1 ≤ l ∧ 64 < l) ∨ (0 ≤ f ∧ f ≤ 63 ∧ 1 ≤ l ∧ l ≤ 64 ∧ 64 < f + l) := by
          unfold rOk at hr; simp only at hr; omega
        rcases h5 with h5 | ⟨h5, h6⟩ | ⟨h5, h6, h7⟩ | ⟨h5, h6, h7, h8⟩ | ⟨h5, h6, h7, h8, h9⟩
        all_goals (
          go_wp2_with fail
          go_ret2
          exact ⟨HB.out.alloc HB.out.size _, .slice none 0 0, by first | rfl | (rw [hE1]; rfl), by first | exact World.ownsRow_nil _ _ _ _ | (rw [hL1]; exact World.ownsRow_nil _ _ _ _)⟩)
    · obtain rfl : k = n := by omega
      have hTk : rs.take k = rs := by rw [← HN.out]; simp
      rw [hTk] at HK
      have HB : Hid (Below w.heap.size w wr) := hb
      clear hb hTk
      have hall : Hid (allR rs) := HK
      go_wp2_with fail
      go_loopw [6, 45] (fun u i wr2 => ∃ (k2 : Nat) (v : Value), v = u ∧ k2 ≤ k ∧ i = i64 k2 ∧ wr2.ownsRow w.heap.size 3 1 v (flatF (rs.take k2)).length (icells (flatF (rs.take k2))) ∧ (flatF (rs.take k2)).length ≤ 1000 ∧ Below w.heap.size w wr2) (fun _ i _ => k - (intOf i).toNat)
      case atStart => exact ⟨0, _, rfl, by omega, rfl, World.ownsRow_nil _ _ _ _, by simp [flatF], HB.out⟩
      case round =>
        obtain ⟨k2, v, rfl, hk2, rfl, ho, hthou, hb⟩ := hrel
        generalize wr = wr2 at *
        by_cases hlt : k2 < k
        · have hkl : k2 < rs.length := by rw [HN.out]; exact hlt
          obtain ⟨b, off, rfl, hbl, c0, c1⟩ := (HI.out.below hb).at hkl
          have hr := hall.out _ (List.getElem_mem hkl)
          have hE : ∃ f l, rs[k2] = (f, l) := ⟨_, _, rfl⟩
          obtain ⟨f, l, hE⟩ := hE
          rw [hE] at c0 c1 hr
          obtain ⟨h0, h1, h2⟩ := hr
          simp only at h0 h1 h2
          obtain ⟨L, rfl⟩ : ∃ L : Nat, l = L := ⟨l.toNat, by omega⟩
          have HB2 : Hid (Below w.heap.size w wr2) := hb
          have HO2 : Hid (wr2.ownsRow w.heap.size 3 1 v (flatF (rs.take k2)).length (icells (flatF (rs.take k2)))) := ho
          have HF : Hid (flatF (rs.take (k2 + 1)) = flatF (rs.take k2) ++ oneF (f, (L : Int))) := (by rw [flat_take hkl, hE] : flatF (rs.take (k2 + 1)) = flatF (rs.take k2) ++ oneF (f, (L : Int)))
          have HM : Hid ((flatF (rs.take (k2 + 1))).length ≤ (flatF rs).length) := flat_mono rs (k2 + 1)
          clear hb ho hE
          generalize flatF (rs.take k2) = A at *
          have hblk : ∀ o, ((wr2.alloc o).heap[wr2.heap.size]? = some o) := fun o => heap_last wr2 o
          go_wp2_with fail
          go_loopw [6, 9] (fun u i w3 => ∃ (j : Nat) (v : Value), v = u ∧ j ≤ L ∧ i = i64 j ∧ w3.ownsRow w.heap.size 3 1 v (A ++ oneF (f, (j : Int))).length (icells (A ++ oneF (f, (j : Int)))) ∧ Below w.heap.size w w3 ∧ w3.heap[wr2.heap.size]? = some (.cells #[i64 f, i64 L] 28 (0, 0))) (fun _ i _ => L - (intOf i).toNat)
          case atStart => exact ⟨0, v, rfl, by omega, rfl, by
            have e : A ++ oneF (f, ((0 : Nat) : Int)) = A := by simp [oneF]
            rw [e]; exact HO2.out.alloc _, HB2.out.alloc HB2.out.size _, hblk _⟩
          case round =>
            obtain ⟨j, v, rfl, hj, rfl, ho3, hb3, hk3⟩ := hrel
            generalize wr = w3 at *
            obtain ⟨d0, d1⟩ := two_cells hk3
            by_cases hjl : j < L
            · have hnl : (A ++ oneF (f, (j : Int))).length = A.length + j := by rw [List.length_append, oneF_len]; simp
              have HO3 : Hid (w3.ownsRow w.heap.size 3 1 v (A ++ oneF (f, (j : Int))).length (icells (A ++ oneF (f, (j : Int))))) := ho3
              have HB3 : Hid (Below w.heap.size w w3) := hb3
              have HK3 : Hid (w3.heap[wr2.heap.size]? = some (.cells #[i64 f, i64 L] 28 (0, 0))) := hk3
              clear ho3 hb3 hk3
              go_wp2_with (at_builtin; refine wpList_append_own _ rfl (.tmp 55) (.tmp 60) 22 rfl w.heap.size 3 i3 (.int .i64 0) 1 8 under22 HI3.out hz hs HBy.out rfl (by omega) v _ _ rfl (HO3.out.alloc _) ⟨_, 0, none⟩ 1 1 [i64 (f + j)] rfl rfl (new_one _ _ _) (by simp [Value.oneCell']) (by unfold maxLen; omega) (by omega) (by have := HB3.out.size; simp; omega) ?_; intro v' w4 ho4 hg4 _; have HO4 : Hid (w4.ownsRow w.heap.size 3 1 v' (A ++ oneF (f, ((j + 1 : Nat) : Int))).length (icells (A ++ oneF (f, ((j + 1 : Nat) : Int))))) := own_next ho4 rfl; have HB4 : Hid (Below w.heap.size w w4) := HB3.out.trans (below_grown HO3.out HB3.out.size hg4); have HK4 : Hid (w4.heap[wr2.heap.size]? = some (.cells #[i64 f, i64 L] 28 (0, 0))) := kept_block HO3.out hg4 HK3.out (by decide); clear ho4 hg4)
              exact ⟨⟨j + 1, _, rfl, by omega, by go_num, HO4.out, HB4.out, HK4.out⟩, by simp [intOf]; omega⟩
            · obtain rfl : j = L := by omega
              rw [← HF.out] at ho3
              have HO3 : Hid (w3.ownsRow w.heap.size 3 1 v (flatF (rs.take (k2 + 1))).length (icells (flatF (rs.take (k2 + 1))))) := ho3
              have HB3 : Hid (Below w.heap.size w w3) := hb3
              obtain ⟨ao3, cap3, rfl, _⟩ := own_slice ho3
              clear ho3 hb3 hk3
              have hM := HM.out
              by_cases hmuch : (flatF (rs.take (k2 + 1))).length ≤ 1000
              · generalize hm : (flatF (rs.take (k2 + 1))).length = m at *
                have Hm : Hid ((flatF (rs.take (k2 + 1))).length = m) := hm
                clear hm
                go_wp2_with fail
                exact ⟨⟨k2 + 1, _, rfl, by omega, by go_num, by rw [Hm.out]; exact HO3.out, by rw [Hm.out]; exact hmuch, HB3.out⟩, by simp [intOf]; omega⟩
              · have hmuch2 : ¬ (flatF rs).length ≤ 1000 := by omega
                have hE1 : flE rs = 2 := by unfold flE; rw [if_pos HK.out, if_neg hmuch2]
                have hL1 : flL rs = [] := by unfold flL; rw [if_neg (fun h => hmuch2 h.2)]
                generalize (flatF (rs.take (k2 + 1))).length = m at *
                go_wp2_with fail
                go_ret2
                exact ⟨HB3.out, .slice none 0 0, by first | rfl | (rw [hE1]; rfl), by first | exact World.ownsRow_nil _ _ _ _ | (rw [hL1]; exact World.ownsRow_nil _ _ _ _)⟩
        · obtain rfl : k2 = k := by omega
          have hTk : rs.take k2 = rs := by rw [← HN.out]; simp
          rw [hTk] at ho hthou
          have hE1 : flE rs = 0 := by unfold flE; rw [if_pos HK.out, if_pos hthou]
          have hL1 : flL rs = flatF rs := by unfold flL; rw [if_pos ⟨HK.out, hthou⟩]
          have HB2 : Hid (Below w.heap.size w wr2) := hb
          have HO2 : Hid (wr2.ownsRow w.heap.size 3 1 v (flatF rs).length (icells (flatF rs))) := ho
          clear hb ho hTk hthou
          go_wp2_with fail
          go_ret2
          exact ⟨HB2.out, v, by first | rfl | (rw [hE1]; rfl), by first | exact HO2.out | (rw [hL1]; exact HO2.out)⟩
end Go.Proofs.Ytdgofhhpgmpgjaa
