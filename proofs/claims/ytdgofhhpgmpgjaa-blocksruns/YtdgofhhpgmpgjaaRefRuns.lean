/- imagoref03.Runs, imagolaw03.same and imagoplain.Ints: their contracts; no statement is proved in this text. -/
import Derived.Test.YtdgofhhpgmpgjaaRuns
namespace Go.Proofs.Ytdgofhhpgmpgjaa
open Go.ChangeShapes Go.WideShapes Go.ChangeAt Go.RowKit Go.Deep

theorem info28x : (Try.prog.info? 28).map (fun i => (i.zero, i.size, i.bytes)) = some (some (.agg #[.int .i64 0, .int .i64 0]), 2, 16) := by kernel_rfl
theorem under25 : Try.prog.underlying 25 = some (.slice 28) := by kernel_rfl

theorem ext_off2 (xs : List Int) (j : Nat) (hj : j + 1 < xs.length) (h : ¬ (0 < xs[j + 1] ∧ xs[j + 1] < 64 ∧ xs[j + 1] - 1 = xs[j])) : ext xs (j + 1) = j + 1 := by
  rw [ext_succ xs j (by omega), drop_cons xs (j + 1) hj, cont, if_neg h]
theorem ext_on2 (xs : List Int) (j : Nat) (hj : j + 1 < xs.length) (h : 0 < xs[j + 1] ∧ xs[j + 1] < 64 ∧ xs[j + 1] - 1 = xs[j]) : ext xs (j + 1 + 1) = ext xs (j + 1) := by
  rw [ext_succ xs j (by omega), ext_succ xs (j + 1) hj, drop_cons xs (j + 1) hj, cont, if_pos h]
  omega
theorem ext_le (xs : List Int) (i : Nat) (h : i < xs.length) : ext xs (i + 1) ≤ xs.length := by
  rw [ext_succ xs i h]
  have := cont_le xs[i] (xs.drop (i + 1))
  simp at this
  omega

theorem rr_len (xs : List Int) (k n : Nat) (h : xs.length = n) : (runF (xs.take (ext xs k))).length ≤ n := by
  have h1 := runF_len (xs.take (ext xs k))
  have h2 : (xs.take (ext xs k)).length ≤ xs.length := by rw [List.length_take]; omega
  omega
theorem rr_next (xs : List Int) (k j : Nat) (hk : k < xs.length) (hoff : ¬ ∃ h0 : 0 < k, xs[k - 1] = xs[k] - 1) (x V : Int) (hx : xs[k] = x) (hX : ext xs (j + 1) = ext xs (k + 1)) (hXe : ext xs (j + 1) = j + 1) (hV : V = (j : Int) + 1 - k) :
    runF (xs.take (ext xs (k + 1))) = runF (xs.take (ext xs k)) ++ [(x, V)] := by
  have h0 : ∀ h0 : 0 < k, xs[k - 1] ≠ xs[k] - 1 := fun h e => hoff ⟨h, e⟩
  have e1 := ext_succ xs k hk
  rw [ext_off xs k hk h0, e1, run_off xs k hk h0, hx]
  rw [hx] at e1
  have : V = 1 + ((cont x (xs.drop (k + 1)) : Nat) : Int) := by omega
  rw [this]

set_option maxRecDepth 100000 in
set_option maxHeartbeats 4000000 in
theorem rruns_ok (w : World) (ao : Option Addr) (cap : Nat) (xs : List Int) (hI : ISl w ao xs) (hlen : xs.length ≤ 300) :
    Calls Try.prog 11 #[.slice ao xs.length cap] w fun e w' => Below w.heap.size w w' ∧ ∃ v, e = .returned (.tuple #[v, i64 (runE xs)]) ∧ w'.ownsRow w.heap.size 28 2 v (runL xs).length (rcells (runL xs)) := by
  obtain ⟨i28, hi, hz, hs, hby⟩ := info_parts info28x
  have HI28 : Hid (Try.prog.info? 28 = some i28) := hi
  have HI : Hid (ISl w ao xs) := hI
  clear hI hi
  have hN : ∃ n, xs.length = n := ⟨_, rfl⟩
  obtain ⟨n, hN⟩ := hN
  rw [hN] at hlen ⊢
  have HN : Hid (xs.length = n) := hN
  clear hN
  go_enter Try.func11, Try.ntmps11
  go_wp2_with fail
  go_loopw [4, 10] (fun u i wr => ∃ (k : Nat) (v : Value), v = u ∧ k ≤ n ∧ i = i64 k ∧ wr.ownsRow w.heap.size 28 2 v (runF (xs.take (ext xs k))).length (rcells (runF (xs.take (ext xs k)))) ∧ Below w.heap.size w wr ∧ Hid (allOk (xs.take k))) (fun _ i _ => n - (intOf i).toNat)
  case atStart => exact ⟨0, _, rfl, by omega, rfl, World.ownsRow_nil _ _ _ _, Below.refl _ _, fun x hx => by simp at hx⟩
  case round =>
    obtain ⟨k, v, rfl, hk, rfl, ho, hb, HK⟩ := hrel
    by_cases hlt : k < n
    · have hkl : k < xs.length := by rw [HN.out]; exact hlt
      obtain ⟨b, off, rfl, hbl, c0⟩ := (HI.out.below hb).at hkl
      have hE : ∃ x, xs[k] = x := ⟨_, rfl⟩
      obtain ⟨x, hE⟩ := hE
      rw [hE] at c0
      have HE : Hid (xs[k] = x) := hE
      have HB : Hid (Below w.heap.size w wr) := hb
      have HO : Hid (wr.ownsRow w.heap.size 28 2 v (runF (xs.take (ext xs k))).length (rcells (runF (xs.take (ext xs k))))) := ho
      clear hb ho hE
      by_cases hx : okN x
      · have h0 : 0 ≤ x := hx.1
        have h1 : x < 64 := hx.2
        by_cases hon : ∃ h0 : 0 < k, xs[k - 1] = xs[k] - 1
        · obtain ⟨hk0, hp⟩ := hon
          obtain ⟨k', rfl⟩ : ∃ k', k = k' + 1 := ⟨k - 1, by omega⟩
          obtain ⟨b2, off2, hbo, _, c1⟩ := (HI.out.below HB.out).at (show k' < xs.length by omega)
          cases hbo
          have hp' : xs[k'] = x - 1 := by rw [← HE.out]; exact hp
          rw [hp'] at c1
          have HT : Hid (allOk (xs.take (k' + 1 + 1))) := take_ok HK.out hkl (by rw [HE.out]; exact hx)
          have HX : Hid (ext xs (k' + 1 + 1) = ext xs (k' + 1)) := ext_on xs (k' + 1) hkl (by omega) (by rw [HE.out]; exact hx) (HK.out _ (by
            rw [List.mem_iff_getElem]; exact ⟨k', by simp; omega, by simp⟩)) hp
          clear hp hp' hk0
          go_wp2_with fail
          exact ⟨⟨k' + 1 + 1, _, rfl, by omega, by go_num, by rw [HX.out]; exact HO.out, HB.out, HT.out⟩, by simp [intOf]; omega⟩
        · have HT : Hid (allOk (xs.take (k + 1))) := take_ok HK.out hkl (by rw [HE.out]; exact hx)
          by_cases hk0 : k = 0
          · have hkb : decide ((0 : Int) < (k : Int)) = false := decide_eq_false (by omega)
            have hkp : ¬ (0 : Int) < (k : Int) := by omega
            clear hk0
            go_wp2_with fail
            go_loopw [7] (fun u w2 => ∃ j m : Nat, k ≤ j ∧ j + 1 ≤ n ∧ u = .int .i64 ((j : Int) + 1) ∧ Hid (ext xs (j + 1) = ext xs (k + 1)) ∧ w2 = wr.drewN m) (fun u _ => n - (intOf u).toNat)
            case atStart => exact ⟨k, 0, Nat.le_refl _, by omega, by first | rfl | go_num, rfl, rfl⟩
            case round =>
              obtain ⟨j, m, hKj, hjn, rfl, HXj, rfl⟩ := hrel
              have hnx : j + 1 < n → ∃ (hj : j + 1 < xs.length) (y p : Int), xs[j + 1] = y ∧ xs[j] = p ∧ wr.cell? ⟨b, off + (j + 1), none⟩ = some (i64 y) ∧ wr.cell? ⟨b, off + j, none⟩ = some (i64 p) := fun hj => by
                have hj' : j + 1 < xs.length := by rw [HN.out]; exact hj
                obtain ⟨b2, off2, hbo, _, c2⟩ := (HI.out.below HB.out).at hj'
                cases hbo
                obtain ⟨b2, off2, hbo, _, c3⟩ := (HI.out.below HB.out).at (show j < xs.length by omega)
                cases hbo
                exact ⟨hj', _, _, rfl, rfl, c2, c3⟩
              by_cases hgo : ∃ hj : j + 1 < xs.length, 0 < xs[j + 1] ∧ xs[j + 1] < 64 ∧ xs[j + 1] - 1 = xs[j]
              · obtain ⟨hj', hc⟩ := hgo
                have hj : j + 1 < n := by rw [← HN.out]; exact hj'
                obtain ⟨_, y, p, hy, hp, c2, c3⟩ := hnx hj
                have HX2 : Hid (ext xs (j + 1 + 1) = ext xs (k + 1)) := (ext_on2 xs j hj' hc).trans HXj.out
                rw [hy, hp] at hc
                obtain ⟨g1, g2, g3⟩ := hc
                have g4 : (y - 1 == p) = true := by simpa using g3
                have hjI : (j : Int) + 1 < (n : Int) := by omega
                have hjb : decide ((j : Int) + 1 < (n : Int)) = true := decide_eq_true hjI
                have g1b : decide (0 < y) = true := decide_eq_true g1
                have g2b : decide (y < 64) = true := decide_eq_true g2
                clear hy hp hnx
                go_wp2_with fail
                go_quiet (fail)
                go_wp2_with fail
                exact ⟨⟨j + 1, _, by omega, by omega, by first | rfl | go_num, HX2.out, rfl⟩, by simp [intOf]; omega⟩
              · have HXe : Hid (ext xs (j + 1) = j + 1) := by
                  by_cases hj : j + 1 < xs.length
                  · exact ext_off2 xs j hj (fun h => hgo ⟨hj, h⟩)
                  · have : j + 1 = xs.length := by rw [HN.out] at hj ⊢; omega
                    rw [this]; exact ext_end xs
                have h5 : decide ((j : Int) + 1 < n) = false ∨ (((j : Int) + 1 < n ∧ decide ((j : Int) + 1 < n) = true) ∧ ∃ y p : Int, wr.cell? ⟨b, off + (j + 1), none⟩ = some (i64 y) ∧ wr.cell? ⟨b, off + j, none⟩ = some (i64 p) ∧ (decide (0 < y) = false ∨ ((0 < y ∧ decide (0 < y) = true) ∧ (decide (y < 64) = false ∨ ((y < 64 ∧ decide (y < 64) = true) ∧ (y - 1 == p) = false))))) := by
                  by_cases hj : j + 1 < n
                  · obtain ⟨hj', y, p, hy, hp, c2, c3⟩ := hnx hj
                    refine Or.inr ⟨⟨by omega, decide_eq_true (by omega)⟩, y, p, c2, c3, ?_⟩
                    have hc : ¬ (0 < y ∧ y < 64 ∧ y - 1 = p) := fun h => hgo ⟨hj', by rw [hy, hp]; exact h⟩
                    by_cases g1 : 0 < y
                    · by_cases g2 : y < 64
                      · exact Or.inr ⟨⟨g1, decide_eq_true g1⟩, Or.inr ⟨⟨g2, decide_eq_true g2⟩, by simp; omega⟩⟩
                      · exact Or.inr ⟨⟨g1, decide_eq_true g1⟩, Or.inl (decide_eq_false g2)⟩
                    · exact Or.inl (decide_eq_false g1)
                  · exact Or.inl (decide_eq_false (by omega))
                clear hnx hgo
                have hrl := rr_len xs k n HN.out
                rcases h5 with h5 | ⟨⟨hj, hjb⟩, y, p, c2, c3, h5 | ⟨⟨h6, h6b⟩, h5 | ⟨⟨h7, h7b⟩, h5⟩⟩⟩
                all_goals (
                  go_wp2_with fail
                  go_quiet (fail)
                  go_wp2_with (at_builtin; refine wpList_append_own _ rfl (.tmp 68) (.tmp 74) 25 rfl w.heap.size 28 i28 (.agg #[.int .i64 0, .int .i64 0]) 2 16 under25 HI28.out hz hs hby rfl (by omega) v _ _ rfl ((show (wr.drewN _).ownsRow w.heap.size 28 2 v _ _ from HO.out).alloc _) ⟨_, 0, none⟩ 1 1 [i64 x, i64 _] rfl rfl (new_two _ _ _ _) (by simp [Value.oneCell']) (by unfold maxLen; omega) (by omega) (by have := HB.out.size; simp; omega) ?_; intro v' w2 ho2 hg2 _; have HO2 : Hid (w2.ownsRow w.heap.size 28 2 v' _ _) := ho2; have HB2 : Hid (Below w.heap.size w w2) := HB.out.trans (below_of_drewN (below_grown (w := wr.drewN _) HO.out HB.out.size hg2)); clear ho2 hg2)
                  exact ⟨⟨k + 1, _, rfl, by omega, by first | rfl | go_num, by rw [rr_next xs k j hkl hon x _ HE.out HXj.out HXe.out rfl, List.length_append, rcells_app]; exact HO2.out, HB2.out, HT.out⟩, by simp [intOf]; omega⟩)
          · obtain ⟨k', rfl⟩ : ∃ k', k = k' + 1 := ⟨k - 1, by omega⟩
            obtain ⟨b2, off2, hbo, _, c1⟩ := (HI.out.below HB.out).at (show k' < xs.length by omega)
            cases hbo
            have hpx : ∃ p, xs[k'] = p := ⟨_, rfl⟩
            obtain ⟨p0, hpx⟩ := hpx
            rw [hpx] at c1
            have hne : (p0 == x - 1) = false := by
              have : ¬ p0 = x - 1 := fun e => hon ⟨by omega, by
                show xs[k' + 1 - 1] = _
                rw [HE.out, ← e, ← hpx]; rfl⟩
              simpa using this
            have HPX : Hid (xs[k'] = p0) := hpx
            clear hpx hk0
            go_wp2_with fail
            go_loopw [7] (fun u w2 => ∃ j m : Nat, (k' + 1) ≤ j ∧ j + 1 ≤ n ∧ u = .int .i64 ((j : Int) + 1) ∧ Hid (ext xs (j + 1) = ext xs ((k' + 1) + 1)) ∧ w2 = wr.drewN m) (fun u _ => n - (intOf u).toNat)
            case atStart => exact ⟨(k' + 1), 0, Nat.le_refl _, by omega, by first | rfl | go_num, rfl, rfl⟩
            case round =>
              obtain ⟨j, m, hKj, hjn, rfl, HXj, rfl⟩ := hrel
              have hnx : j + 1 < n → ∃ (hj : j + 1 < xs.length) (y p : Int), xs[j + 1] = y ∧ xs[j] = p ∧ wr.cell? ⟨b, off + (j + 1), none⟩ = some (i64 y) ∧ wr.cell? ⟨b, off + j, none⟩ = some (i64 p) := fun hj => by
                have hj' : j + 1 < xs.length := by rw [HN.out]; exact hj
                obtain ⟨b2, off2, hbo, _, c2⟩ := (HI.out.below HB.out).at hj'
                cases hbo
                obtain ⟨b2, off2, hbo, _, c3⟩ := (HI.out.below HB.out).at (show j < xs.length by omega)
                cases hbo
                exact ⟨hj', _, _, rfl, rfl, c2, c3⟩
              by_cases hgo : ∃ hj : j + 1 < xs.length, 0 < xs[j + 1] ∧ xs[j + 1] < 64 ∧ xs[j + 1] - 1 = xs[j]
              · obtain ⟨hj', hc⟩ := hgo
                have hj : j + 1 < n := by rw [← HN.out]; exact hj'
                obtain ⟨_, y, p, hy, hp, c2, c3⟩ := hnx hj
                have HX2 : Hid (ext xs (j + 1 + 1) = ext xs ((k' + 1) + 1)) := (ext_on2 xs j hj' hc).trans HXj.out
                rw [hy, hp] at hc
                obtain ⟨g1, g2, g3⟩ := hc
                have g4 : (y - 1 == p) = true := by simpa using g3
                have hjI : (j : Int) + 1 < (n : Int) := by omega
                have hjb : decide ((j : Int) + 1 < (n : Int)) = true := decide_eq_true hjI
                have g1b : decide (0 < y) = true := decide_eq_true g1
                have g2b : decide (y < 64) = true := decide_eq_true g2
                clear hy hp hnx
                go_wp2_with fail
                go_quiet (fail)
                go_wp2_with fail
                exact ⟨⟨j + 1, _, by omega, by omega, by first | rfl | go_num, HX2.out, rfl⟩, by simp [intOf]; omega⟩
              · have HXe : Hid (ext xs (j + 1) = j + 1) := by
                  by_cases hj : j + 1 < xs.length
                  · exact ext_off2 xs j hj (fun h => hgo ⟨hj, h⟩)
                  · have : j + 1 = xs.length := by rw [HN.out] at hj ⊢; omega
                    rw [this]; exact ext_end xs
                have h5 : decide ((j : Int) + 1 < n) = false ∨ (((j : Int) + 1 < n ∧ decide ((j : Int) + 1 < n) = true) ∧ ∃ y p : Int, wr.cell? ⟨b, off + (j + 1), none⟩ = some (i64 y) ∧ wr.cell? ⟨b, off + j, none⟩ = some (i64 p) ∧ (decide (0 < y) = false ∨ ((0 < y ∧ decide (0 < y) = true) ∧ (decide (y < 64) = false ∨ ((y < 64 ∧ decide (y < 64) = true) ∧ (y - 1 == p) = false))))) := by
                  by_cases hj : j + 1 < n
                  · obtain ⟨hj', y, p, hy, hp, c2, c3⟩ := hnx hj
                    refine Or.inr ⟨⟨by omega, decide_eq_true (by omega)⟩, y, p, c2, c3, ?_⟩
                    have hc : ¬ (0 < y ∧ y < 64 ∧ y - 1 = p) := fun h => hgo ⟨hj', by rw [hy, hp]; exact h⟩
                    by_cases g1 : 0 < y
                    · by_cases g2 : y < 64
                      · exact Or.inr ⟨⟨g1, decide_eq_true g1⟩, Or.inr ⟨⟨g2, decide_eq_true g2⟩, by simp; omega⟩⟩
                      · exact Or.inr ⟨⟨g1, decide_eq_true g1⟩, Or.inl (decide_eq_false g2)⟩
                    · exact Or.inl (decide_eq_false g1)
                  · exact Or.inl (decide_eq_false (by omega))
                clear hnx hgo
                have hrl := rr_len xs (k' + 1) n HN.out
                rcases h5 with h5 | ⟨⟨hj, hjb⟩, y, p, c2, c3, h5 | ⟨⟨h6, h6b⟩, h5 | ⟨⟨h7, h7b⟩, h5⟩⟩⟩
                all_goals (
                  go_wp2_with fail
                  go_quiet (fail)
                  go_wp2_with (at_builtin; refine wpList_append_own _ rfl (.tmp 68) (.tmp 74) 25 rfl w.heap.size 28 i28 (.agg #[.int .i64 0, .int .i64 0]) 2 16 under25 HI28.out hz hs hby rfl (by omega) v _ _ rfl ((show (wr.drewN _).ownsRow w.heap.size 28 2 v _ _ from HO.out).alloc _) ⟨_, 0, none⟩ 1 1 [i64 x, i64 _] rfl rfl (new_two _ _ _ _) (by simp [Value.oneCell']) (by unfold maxLen; omega) (by omega) (by have := HB.out.size; simp; omega) ?_; intro v' w2 ho2 hg2 _; have HO2 : Hid (w2.ownsRow w.heap.size 28 2 v' _ _) := ho2; have HB2 : Hid (Below w.heap.size w w2) := HB.out.trans (below_of_drewN (below_grown (w := wr.drewN _) HO.out HB.out.size hg2)); clear ho2 hg2)
                  exact ⟨⟨(k' + 1) + 1, _, rfl, by omega, by first | rfl | go_num, by rw [rr_next xs (k' + 1) j hkl hon x _ HE.out HXj.out HXe.out rfl, List.length_append, rcells_app]; exact HO2.out, HB2.out, HT.out⟩, by simp [intOf]; omega⟩)
      · have hno : ¬ allOk xs := fun h => hx (by rw [← HE.out]; exact h _ (List.getElem_mem hkl))
        have hE1 : runE xs = 1 := if_neg hno
        have hL1 : runL xs = [] := if_neg hno
        by_cases h0 : x < 0
        · go_wp2_with fail
          go_ret2
          exact ⟨HB.out, .slice none 0 0, by first | rfl | (rw [hE1]; rfl), by first | exact World.ownsRow_nil _ _ _ _ | (rw [hL1]; exact World.ownsRow_nil _ _ _ _)⟩
        · have h1 : 64 ≤ x := by unfold okN at hx; omega
          go_wp2_with fail
          go_ret2
          exact ⟨HB.out, .slice none 0 0, by first | rfl | (rw [hE1]; rfl), by first | exact World.ownsRow_nil _ _ _ _ | (rw [hL1]; exact World.ownsRow_nil _ _ _ _)⟩
    · obtain rfl : k = n := by omega
      have hT : xs.take k = xs := by rw [← HN.out]; simp
      have hX : ext xs k = k := by rw [← HN.out]; exact ext_end xs
      rw [hX, hT] at ho
      rw [hT] at HK
      have hE1 : runE xs = 0 := if_pos HK.out
      have hL1 : runL xs = runF xs := if_pos HK.out
      have HB : Hid (Below w.heap.size w wr) := hb
      have HO : Hid (wr.ownsRow w.heap.size 28 2 v (runF xs).length (rcells (runF xs))) := ho
      clear hb ho
      go_wp2_with fail
      go_ret2
      exact ⟨HB.out, v, by first | rfl | (rw [hE1]; rfl), by first | exact HO.out | (rw [hL1]; exact HO.out)⟩
end Go.Proofs.Ytdgofhhpgmpgjaa
