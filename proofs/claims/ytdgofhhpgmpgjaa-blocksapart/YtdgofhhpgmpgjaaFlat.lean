/- blocks.Flat and imagoref03.Flat: their contracts; no statement is proved in this text. -/
import Derived.Test.YtdgofhhpgmpgjaaRuns
namespace Go.Proofs.Ytdgofhhpgmpgjaa
open Go.ChangeShapes Go.WideShapes Go.ChangeAt Go.RowKit Go.Deep

theorem info3x : (Try.prog.info? 3).map (fun i => (i.zero, i.size, i.bytes)) = some (some (.int .i64 0), 1, 8) := by kernel_rfl
theorem under22 : Try.prog.underlying 22 = some (.slice 3) := by kernel_rfl
theorem new_one (w : World) (v : Value) (t : TypeId) : ∀ j u, [v][j]? = some u → (w.alloc (.cells #[v] t)).cell? ((⟨w.heap.size, 0, none⟩ : Addr).add j) = some u := by
  intro j u hu
  rw [Addr.add_mid, Nat.zero_add]
  exact new_cell _ _ _ _ _ (by simpa using hu)

/-- A block of another type is no owned row. -/
theorem kept_block {w w2 : World} {o : Obj} {base : Nat} {e : TypeId} {size n : Nat} {v : Value} {xs : List Value} (hown : w.ownsRow base e size v n xs) (hg : (w.alloc o).grownBy w2 v.ownBlock) {B : Nat} {C : Array Value} {t : TypeId} (hB : w.heap[B]? = some (.cells C t (0, 0))) (ht : t ≠ e) : w2.heap[B]? = some (.cells C t (0, 0)) := by
  have hlt := (Array.getElem?_eq_some_iff.1 hB).1
  have hne : some B ≠ v.ownBlock := fun h => by
    rcases hown.2 with ⟨rfl, _⟩ | ⟨g, cap, cur, rfl, _, hg', _⟩
    · cases h
    · have : B = g := by simpa [Value.ownBlock] using h
      subst this
      rw [hB] at hg'
      simp only [Option.some.injEq, Obj.cells.injEq] at hg'
      exact ht hg'.2.1
  rw [hg.block B (by simp; omega) hne, Below.heap_alloc _ _ _ hlt]
  exact hB

def rOk (r : Rn) : Prop := 0 ≤ r.1 ∧ 1 ≤ r.2 ∧ r.2 ≤ 64 - r.1
instance (r : Rn) : Decidable (rOk r) := by unfold rOk; infer_instance
def allR (rs : List Rn) : Prop := ∀ r ∈ rs, rOk r
instance (rs : List Rn) : Decidable (allR rs) := by unfold allR; infer_instance
def wfR (r : Rn) : Prop := (-9223372036854775808 ≤ r.1 ∧ r.1 ≤ 9223372036854775807) ∧ -9223372036854775808 ≤ r.2 ∧ r.2 ≤ 9223372036854775807
def flE (rs : List Rn) : Int := if allR rs then (if (flatF rs).length ≤ 1000 then 0 else 2) else 1
def flL (rs : List Rn) : List Int := if allR rs ∧ (flatF rs).length ≤ 1000 then flatF rs else []

theorem flat_take {rs : List Rn} {k : Nat} (hk : k < rs.length) : flatF (rs.take (k + 1)) = flatF (rs.take k) ++ oneF rs[k] := by
  rw [← List.take_append_getElem hk, flatF_app, flatF_one]
theorem flat_take_len {rs : List Rn} {k : Nat} (hk : k < rs.length) (h : rOk rs[k]) : ((flatF (rs.take (k + 1))).length : Int) = (flatF (rs.take k)).length + rs[k].2 := by
  rw [flat_take hk, List.length_append, oneF_len]
  unfold rOk at h
  omega
theorem allR_take {rs : List Rn} {k : Nat} (h : allR (rs.take k)) (hk : k < rs.length) (hx : rOk rs[k]) : allR (rs.take (k + 1)) := by
  intro x hm
  rw [← List.take_append_getElem hk] at hm
  rcases List.mem_append.1 hm with hm | hm
  · exact h x hm
  · simp at hm; subst hm; exact hx
theorem flat_le : ∀ (rs : List Rn), allR rs → (flatF rs).length ≤ 64 * rs.length
  | [], _ => by simp [flatF]
  | r :: rs, h => by
    have h1 := flat_le rs (fun x hx => h x (by simp [hx]))
    have h2 := h r (by simp)
    have e : flatF (r :: rs) = oneF r ++ flatF rs := by simp [flatF]
    rw [e, List.length_append, oneF_len, List.length_cons]
    unfold rOk at h2
    omega
theorem flat_mono (rs : List Rn) (k : Nat) : (flatF (rs.take k)).length ≤ (flatF rs).length := by
  have e : flatF rs = flatF (rs.take k) ++ flatF (rs.drop k) := by rw [← flatF_app, List.take_append_drop]
  rw [e, List.length_append]; omega

set_option maxHeartbeats 400000 in
theorem right_ok (w : World) (f l : Int) (hw : wfR (f, l)) : Calls Try.prog 33 #[.agg #[i64 f, i64 l]] w fun e w' => e = .returned (.bool (decide (rOk (f, l)))) ∧ Below w.heap.size w w' := by
  obtain ⟨⟨hf1, hf2⟩, hl1, hl2⟩ := hw
  have hb : ∀ o, Below w.heap.size w (w.alloc o) := fun o => (Below.refl _ _).alloc (Nat.le_refl _) o
  by_cases h0 : 0 ≤ f
  · by_cases h1 : 1 ≤ l
    · go_enter Try.func33, Try.ntmps33
      go_wp2_with fail
      go_ret
      refine ⟨?_, hb _⟩
      simp [rOk, h0, h1]
    · go_enter Try.func33, Try.ntmps33
      go_wp2_with fail
      go_ret
      refine ⟨?_, hb _⟩
      simp [rOk]
      exact decide_eq_false (by omega)
  · go_enter Try.func33, Try.ntmps33
    go_wp2_with fail
    go_ret
    refine ⟨?_, hb _⟩
    simp [rOk]
    exact decide_eq_false (by omega)

/-- Blocks of one row of two. -/
theorem two_cells {w : World} {B : Nat} {u v : Value} {t : TypeId} (h : w.heap[B]? = some (.cells #[u, v] t (0, 0))) : w.cell? ⟨B, 0, none⟩ = some u ∧ w.cell? ⟨B, 1, none⟩ = some v := by
  rw [cell_of_row w B 0 _ t (0, 0) h, cell_of_row w B 1 _ t (0, 0) h]
  exact ⟨rfl, rfl⟩

theorem flat_next (A : List Int) (f : Int) (j : Nat) : A ++ oneF (f, ((j + 1 : Nat) : Int)) = (A ++ oneF (f, (j : Int))) ++ [f + j] := by
  rw [show ((j + 1 : Nat) : Int) = (j : Int) + 1 by omega, oneF_succ f j (by omega), List.append_assoc]
theorem own_next {w : World} {base : Nat} {v : Value} {A : List Int} {f : Int} {j n : Nat} (h : w.ownsRow base 3 1 v (n + 1) (icells (A ++ oneF (f, (j : Int))) ++ [i64 (f + j)])) (hn : n = (A ++ oneF (f, (j : Int))).length) : w.ownsRow base 3 1 v (A ++ oneF (f, ((j + 1 : Nat) : Int))).length (icells (A ++ oneF (f, ((j + 1 : Nat) : Int)))) := by
  rw [flat_next, icells_app, List.length_append, ← hn]
  exact h

set_option maxRecDepth 100000 in
set_option maxHeartbeats 4000000 in
theorem flat_ok (w : World) (ao : Option Addr) (cap : Nat) (rs : List Rn) (hI : RSl w ao rs) (hlen : rs.length ≤ 300) (hwf : ∀ r ∈ rs, wfR r) :
    Calls Try.prog 12 #[.slice ao rs.length cap] w fun e w' => Below w.heap.size w w' ∧ ∃ v, e = .returned (.tuple #[v, i64 (flE rs)]) ∧ w'.ownsRow w.heap.size 3 1 v (flL rs).length (icells (flL rs)) := by
  obtain ⟨i3, hi, hz, hs, hby⟩ := info_parts info3x
  have HI3 : Hid (Try.prog.info? 3 = some i3) := hi
  have HBy : Hid (i3.bytes = 8) := hby
  have HI : Hid (RSl w ao rs) := hI
  have HW : Hid (∀ r ∈ rs, wfR r) := hwf
  clear hI hi hwf
  have hN : ∃ n, rs.length = n := ⟨_, rfl⟩
  obtain ⟨n, hN⟩ := hN
  rw [hN] at hlen ⊢
  have HN : Hid (rs.length = n) := hN
  clear hN
  go_enter Try.func12, Try.ntmps12
  go_wp2_with fail
  go_loopw [4, 13] (fun t i wr => ∃ (k T : Nat), k ≤ n ∧ i = i64 k ∧ t = i64 T ∧ T = (flatF (rs.take k)).length ∧ T ≤ 64 * k ∧ Below w.heap.size w wr ∧ Hid (allR (rs.take k))) (fun _ i _ => n - (intOf i).toNat)
  case atStart => exact ⟨0, 0, by omega, rfl, rfl, rfl, by omega, Below.refl _ _, fun x hx => by simp at hx⟩
  case round =>
    obtain ⟨k, T, hk, rfl, rfl, hT, hT64, hb, HK⟩ := hrel
    by_cases hlt : k < n
    · have hkl : k < rs.length := by rw [HN.out]; exact hlt
      obtain ⟨b, off, rfl, hbl, c0, c1⟩ := (HI.out.below hb).at hkl
      have hwk := HW.out _ (List.getElem_mem hkl)
      have hE : ∃ f l, rs[k] = (f, l) := ⟨_, _, rfl⟩
      obtain ⟨f, l, hE⟩ := hE
      rw [hE] at c0 c1 hwk
      have HE : Hid (rs[k] = (f, l)) := hE
      have HB : Hid (Below w.heap.size w wr) := hb
      have HT : Hid (T = (flatF (rs.take k)).length) := hT
      have HWK : Hid (wfR (f, l)) := hwk
      clear hb hE hT hwk
      by_cases hr : rOk (f, l)
      · have hd : decide (rOk (f, l)) = true := decide_eq_true hr
        have h0 : 0 ≤ f := hr.1
        have h1 : 1 ≤ l := hr.2.1
        have h2 : l ≤ 64 - f := hr.2.2
        go_wp2_with fail
        refine (right_ok _ f l HWK.out).mono ?_
        rintro e w2 ⟨he, hb2⟩
        rw [hd] at he
        subst he
        have hblk : w2.heap[wr.heap.size]? = some (.cells #[i64 f, i64 l] 27 (0, 0)) := (hb2.block _ (by simp)).trans (heap_last wr _)
        obtain ⟨d0, d1⟩ := two_cells hblk
        have HB2 : Hid (Below w.heap.size w w2) := (HB.out.alloc HB.out.size _).trans (hb2.mono (by have := HB.out.size; simp; omega))
        have hlen2 := flat_take_len hkl (by rw [HE.out]; exact hr)
        rw [HE.out, ← HT.out] at hlen2
        have HL2 : Hid (((flatF (rs.take (k + 1))).length : Int) = (T : Int) + l) := hlen2
        clear hb2 hlen2 hblk
        go_wp2_with fail
        exact ⟨⟨k + 1, (flatF (rs.take (k + 1))).length, by omega, by go_num, by rw [HL2.out], rfl, by have := HL2.out; omega, HB2.out, allR_take HK.out hkl (by rw [HE.out]; exact hr)⟩, by simp [intOf]; omega⟩
      · have hno : ¬ allR rs := fun h => hr (by rw [← HE.out]; exact h _ (List.getElem_mem hkl))
        have hE1 : flE rs = 1 := if_neg hno
        have hL1 : flL rs = [] := if_neg (fun h => hno h.1)
        have hd : decide (rOk (f, l)) = false := decide_eq_false hr
        go_wp2_with fail
        refine (right_ok _ f l HWK.out).mono ?_
        rintro e w2 ⟨he, hb2⟩
        rw [hd] at he
        subst he
        have HB2 : Hid (Below w.heap.size w w2) := (HB.out.alloc HB.out.size _).trans (hb2.mono (by have := HB.out.size; simp; omega))
        clear hb2
        go_wp2_with fail
        go_ret2
        exact ⟨HB2.out, .slice none 0 0, by first | rfl | (rw [hE1]; rfl), by first | exact World.ownsRow_nil _ _ _ _ | (rw [hL1]; exact World.ownsRow_nil _ _ _ _)⟩
    · obtain rfl : k = n := by omega
      have hTk : rs.take k = rs := by rw [← HN.out]; simp
      rw [hTk] at hT HK
      have HB : Hid (Below w.heap.size w wr) := hb
      have HT : Hid (T = (flatF rs).length) := hT
      clear hb hT hTk
      by_cases hlong : T ≤ 1000
      · have hE1 : flE rs = 0 := by unfold flE; rw [if_pos HK.out, if_pos (by rw [← HT.out]; exact hlong)]
        have hL1 : flL rs = flatF rs := by unfold flL; rw [if_pos ⟨HK.out, by rw [← HT.out]; exact hlong⟩]
        have hall : Hid (allR rs) := HK
        go_wp2_with (at_make; refine wpList_make_own _ rfl _ _ 22 rfl w.heap.size 3 i3 (.int .i64 0) 1 under22 HI3.out hz hs .i64 .i64 _ T rfl rfl rfl (by rw [HBy.out]; omega) (by unfold maxLen; omega) HB.out.size ?_; intro w0 hown0 hgrow0; have HO0 : Hid (w0.ownsRow w.heap.size 3 1 (.slice (some ⟨wr.heap.size, 0, none⟩) 0 T) 0 []) := hown0; have HB0 : Hid (Below w.heap.size w w0) := HB.out.grown hgrow0 HB.out.size (fun r hr => by cases hr); clear hown0 hgrow0)
        go_loopw [7, 31] (fun u i wr2 => ∃ (k2 : Nat) (v : Value), v = u ∧ k2 ≤ k ∧ i = i64 k2 ∧ wr2.ownsRow w.heap.size 3 1 v (flatF (rs.take k2)).length (icells (flatF (rs.take k2))) ∧ Below w.heap.size w wr2) (fun _ i _ => k - (intOf i).toNat)
        case atStart => exact ⟨0, _, rfl, by omega, rfl, HO0.out, HB0.out⟩
        case round =>
          obtain ⟨k2, v, rfl, hk2, rfl, ho, hb⟩ := hrel
          generalize wr = wr2 at *
          by_cases hlt : k2 < k
          · have hkl : k2 < rs.length := by rw [HN.out]; exact hlt
            obtain ⟨b, off, rfl, hbl, c0, c1⟩ := (HI.out.below hb).at hkl
            have hr := hall.out _ (List.getElem_mem hkl)
            have hE : ∃ f l, rs[k2] = (f, l) := ⟨_, _, rfl⟩
            obtain ⟨f, l, hE⟩ := hE
            rw [hE] at c0 c1 hr
            obtain ⟨h0, h1, h2⟩ := hr
            simp only at h0 h1 h2
            obtain ⟨L, rfl⟩ : ∃ L : Nat, l = L := ⟨l.toNat, by omega⟩
            have hmono := flat_mono rs (k2 + 1)
            rw [flat_take hkl, hE, ← HT.out, List.length_append, oneF_len] at hmono
            simp only [Int.toNat_natCast] at hmono
            have HE : Hid (rs[k2] = (f, (L : Int))) := hE
            have HB2 : Hid (Below w.heap.size w wr2) := hb
            have HO2 : Hid (wr2.ownsRow w.heap.size 3 1 v (flatF (rs.take k2)).length (icells (flatF (rs.take k2)))) := ho
            have HF : Hid (flatF (rs.take (k2 + 1)) = flatF (rs.take k2) ++ oneF (f, (L : Int))) := (by rw [flat_take hkl, hE] : flatF (rs.take (k2 + 1)) = flatF (rs.take k2) ++ oneF (f, (L : Int)))
            clear hb ho hE
            generalize flatF (rs.take k2) = A at *
            have hblk : ∀ o, ((wr2.alloc o).heap[wr2.heap.size]? = some o) := fun o => heap_last wr2 o
            go_wp2_with fail
            go_loopw [7, 37] (fun u i w3 => ∃ (j : Nat) (v : Value), v = u ∧ j ≤ L ∧ i = i64 j ∧ w3.ownsRow w.heap.size 3 1 v (A ++ oneF (f, (j : Int))).length (icells (A ++ oneF (f, (j : Int)))) ∧ Below w.heap.size w w3 ∧ w3.heap[wr2.heap.size]? = some (.cells #[i64 f, i64 L] 27 (0, 0))) (fun _ i _ => L - (intOf i).toNat)
            case atStart => exact ⟨0, v, rfl, by omega, rfl, by
              have e : A ++ oneF (f, ((0 : Nat) : Int)) = A := by simp [oneF]
              rw [e]; exact HO2.out.alloc _, HB2.out.alloc HB2.out.size _, hblk _⟩
            case round =>
              obtain ⟨j, v, rfl, hj, rfl, ho3, hb3, hk3⟩ := hrel
              generalize wr = w3 at *
              obtain ⟨d0, d1⟩ := two_cells hk3
              by_cases hjl : j < L
              · have hnl : (A ++ oneF (f, (j : Int))).length = A.length + j := by rw [List.length_append, oneF_len]; simp
                have HO3 : Hid (w3.ownsRow w.heap.size 3 1 v (A ++ oneF (f, (j : Int))).length (icells (A ++ oneF (f, (j : Int))))) := ho3
                have HB3 : Hid (Below w.heap.size w w3) := hb3
                have HK3 : Hid (w3.heap[wr2.heap.size]? = some (.cells #[i64 f, i64 L] 27 (0, 0))) := hk3
                clear ho3 hb3 hk3
                go_wp2_with (at_builtin; refine wpList_append_own _ rfl (.tmp 40) (.tmp 45) 22 rfl w.heap.size 3 i3 (.int .i64 0) 1 8 under22 HI3.out hz hs HBy.out rfl (by omega) v _ _ rfl (HO3.out.alloc _) ⟨_, 0, none⟩ 1 1 [i64 (f + j)] rfl rfl (new_one _ _ _) (by simp [Value.oneCell']) (by unfold maxLen; omega) (by omega) (by have := HB3.out.size; simp; omega) ?_; intro v' w4 ho4 hg4 _; have HO4 : Hid (w4.ownsRow w.heap.size 3 1 v' (A ++ oneF (f, ((j + 1 : Nat) : Int))).length (icells (A ++ oneF (f, ((j + 1 : Nat) : Int))))) := own_next ho4 rfl; have HB4 : Hid (Below w.heap.size w w4) := HB3.out.trans (below_grown HO3.out HB3.out.size hg4); have HK4 : Hid (w4.heap[wr2.heap.size]? = some (.cells #[i64 f, i64 L] 27 (0, 0))) := kept_block HO3.out hg4 HK3.out (by decide); clear ho4 hg4)
                exact ⟨⟨j + 1, _, rfl, by omega, by go_num, HO4.out, HB4.out, HK4.out⟩, by simp [intOf]; omega⟩
              · obtain rfl : j = L := by omega
                rw [← HF.out] at ho3
                have HO3 : Hid (w3.ownsRow w.heap.size 3 1 v (flatF (rs.take (k2 + 1))).length (icells (flatF (rs.take (k2 + 1))))) := ho3
                have HB3 : Hid (Below w.heap.size w w3) := hb3
                clear ho3 hb3 hk3
                go_wp2_with fail
                exact ⟨⟨k2 + 1, _, rfl, by omega, by go_num, HO3.out, HB3.out⟩, by simp [intOf]; omega⟩
          · obtain rfl : k2 = k := by omega
            have hTk : rs.take k2 = rs := by rw [← HN.out]; simp
            rw [hTk] at ho
            have HB2 : Hid (Below w.heap.size w wr2) := hb
            have HO2 : Hid (wr2.ownsRow w.heap.size 3 1 v (flatF rs).length (icells (flatF rs))) := ho
            clear hb ho hTk
            go_wp2_with fail
            go_ret2
            exact ⟨HB2.out, v, by first | rfl | (rw [hE1]; rfl), by first | exact HO2.out | (rw [hL1]; exact HO2.out)⟩
      · have hE1 : flE rs = 2 := by unfold flE; rw [if_pos HK.out, if_neg (by rw [← HT.out]; exact hlong)]
        have hL1 : flL rs = [] := by unfold flL; rw [if_neg (fun h => hlong (by rw [HT.out]; exact h.2))]
        go_wp2_with fail
        go_ret2
        exact ⟨HB.out, .slice none 0 0, by first | rfl | (rw [hE1]; rfl), by first | exact World.ownsRow_nil _ _ _ _ | (rw [hL1]; exact World.ownsRow_nil _ _ _ _)⟩
end Go.Proofs.Ytdgofhhpgmpgjaa
