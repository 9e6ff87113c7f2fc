/- blocks.goOn and blocks.Runs: their contracts; no statement is proved in this text. -/
import Derived.Test.YtdgofhhpgmpgjaaBase
import Derived.Test.YtdgofhhpgmpgjaaPure
namespace Go.Proofs.Ytdgofhhpgmpgjaa
open Go.ChangeShapes Go.WideShapes Go.ChangeAt Go.RowKit Go.Deep

theorem info27x : (Try.prog.info? 27).map (fun i => (i.zero, i.size, i.bytes)) = some (some (.agg #[.int .i64 0, .int .i64 0]), 2, 16) := by kernel_rfl
theorem under23 : Try.prog.underlying 23 = some (.slice 27) := by kernel_rfl

theorem new_two (w : World) (u v : Value) (t : TypeId) : ∀ j x, [u, v][j]? = some x → (w.alloc (.cells #[u, v] t)).cell? ((⟨w.heap.size, 0, none⟩ : Addr).add j) = some x := by
  intro j x hx
  rw [Addr.add_mid, Nat.zero_add]
  exact new_cell _ _ _ _ _ (by simpa using hx)

/-- A world that differs by an owned row, and by what is new. -/
theorem below_grown {w w2 : World} {o : Obj} {base : Nat} {v : Value} {e : TypeId} {size n : Nat} {xs : List Value} (hown : w.ownsRow base e size v n xs) (hb : base ≤ w.heap.size) (hg : (w.alloc o).grownBy w2 v.ownBlock) : Below base w w2 :=
  ((Below.refl _ _).alloc hb o).grown hg (by simp; omega) (fun r hr => (hown.lt r hr).1)

set_option maxHeartbeats 800000 in
theorem goOn_empty (w : World) (base : Nat) (v : Value) (x : Int) (hown : w.ownsRow base 27 2 v 0 []) (hb : base ≤ w.heap.size) :
    Calls Try.prog 32 #[v, i64 x] w fun e w' => ∃ v', e = .returned v' ∧ w'.ownsRow base 27 2 v' 1 (rcells [(x, 1)]) ∧ Below base w w' := by
  obtain ⟨i27, hi, hz, hs, hby⟩ := info_parts info27x
  obtain ⟨ao, cap, rfl, _⟩ := own_slice hown
  have HO : Hid (w.ownsRow base 27 2 (.slice ao 0 cap) 0 []) := hown
  have HI : Hid (Try.prog.info? 27 = some i27) := hi
  clear hown hi
  go_enter Try.func32, Try.ntmps32
  go_wp2_with fail
  go_quiet (fail)
  go_wp2_with (at_builtin; refine wpList_append_own _ rfl (.tmp 26) (.tmp 29) 23 rfl base 27 i27 (.agg #[.int .i64 0, .int .i64 0]) 2 16 under23 HI.out hz hs hby rfl (by omega) _ 0 [] rfl ((show (w.drewN nq).ownsRow base 27 2 (.slice ao 0 cap) 0 [] from HO.out).alloc _) ⟨_, 0, none⟩ 1 1 [i64 x, i64 1] rfl rfl (new_two _ _ _ _) (by simp [Value.oneCell']) (by unfold maxLen; omega) (by omega) (by simp; omega) ?_; intro v' w2 ho2 hg2 _; have HO2 : Hid (w2.ownsRow base 27 2 v' (0 + 1) ([] ++ [i64 x, i64 1])) := ho2; have HG2 : Hid (World.grownBy _ w2 _) := hg2; clear ho2 hg2)
  go_ret
  exact ⟨_, rfl, HO2.out, below_of_drewN (below_grown (w := w.drewN nq) HO.out hb HG2.out)⟩

set_option maxHeartbeats 800000 in
theorem goOn_other (w : World) (base g cap : Nat) (rs : List Rn) (f l x : Int) (hown : w.ownsRow base 27 2 (.slice (some ⟨g, 0, none⟩) (rs.length + 1) cap) (rs.length + 1) (rcells (rs ++ [(f, l)]))) (hb : base ≤ w.heap.size)
    (hf : 0 ≤ f ∧ f < 64) (hl : 1 ≤ l ∧ l ≤ 1000) (hn : rs.length ≤ 1000) (hne : (f + l != x) = true) :
    Calls Try.prog 32 #[.slice (some ⟨g, 0, none⟩) (rs.length + 1) cap, i64 x] w fun e w' => ∃ v', e = .returned v' ∧ w'.ownsRow base 27 2 v' (rs.length + 2) (rcells ((rs ++ [(f, l)]) ++ [(x, 1)])) ∧ Below base w w' := by
  obtain ⟨i27, hi, hz, hs, hby⟩ := info_parts info27x
  have hget := rcells_get (rs ++ [(f, l)]) rs.length (f, l) (by simp)
  have c0 : w.cell? ⟨g, rs.length * 2, none⟩ = some (i64 f) := by rw [hown.cellAt _ (by omega)]; exact hget.1
  have c1 : w.cell? ⟨g, rs.length * 2 + 1, none⟩ = some (i64 l) := by rw [hown.cellAt _ (by omega)]; exact hget.2
  have HO : Hid (w.ownsRow base 27 2 (.slice (some ⟨g, 0, none⟩) (rs.length + 1) cap) (rs.length + 1) (rcells (rs ++ [(f, l)]))) := hown
  have HI : Hid (Try.prog.info? 27 = some i27) := hi
  have happ : rcells ((rs ++ [(f, l)]) ++ [(x, 1)]) = rcells (rs ++ [(f, l)]) ++ [i64 x, i64 1] := rcells_app _ _
  rw [happ]
  clear hown hi hget happ
  generalize rcells (rs ++ [(f, l)]) = C at *
  generalize rs.length = n at *
  have hd : decide ((n : Int) < 0) = false := decide_eq_false (by omega)
  go_enter Try.func32, Try.ntmps32
  go_wp2_with fail
  go_quiet (fail)
  go_wp2_with (at_builtin; refine wpList_append_own _ rfl (.tmp 26) (.tmp 29) 23 rfl base 27 i27 (.agg #[.int .i64 0, .int .i64 0]) 2 16 under23 HI.out hz hs hby rfl (by omega) _ (n + 1) C rfl ((show (w.drewN nq).ownsRow base 27 2 (.slice (some ⟨g, 0, none⟩) (n + 1) cap) (n + 1) C from HO.out).alloc _) ⟨_, 0, none⟩ 1 1 [i64 x, i64 1] rfl rfl (new_two _ _ _ _) (by simp [Value.oneCell']) (by unfold maxLen; omega) (by omega) (by simp; omega) ?_; intro v' w2 ho2 hg2 _; have HO2 : Hid (w2.ownsRow base 27 2 v' (n + 1 + 1) (C ++ [i64 x, i64 1])) := ho2; have HG2 : Hid (World.grownBy _ w2 _) := hg2; clear ho2 hg2)
  go_ret
  exact ⟨_, rfl, HO2.out, below_of_drewN (below_grown (w := w.drewN nq) HO.out hb HG2.out)⟩

set_option maxHeartbeats 800000 in
theorem goOn_same (w : World) (base g cap : Nat) (rs : List Rn) (f l x : Int) (hown : w.ownsRow base 27 2 (.slice (some ⟨g, 0, none⟩) (rs.length + 1) cap) (rs.length + 1) (rcells (rs ++ [(f, l)])))
    (hf : 0 ≤ f ∧ f < 64) (hl : 1 ≤ l ∧ l ≤ 1000) (hn : rs.length ≤ 1000) (hne : (f + l != x) = false) :
    Calls Try.prog 32 #[.slice (some ⟨g, 0, none⟩) (rs.length + 1) cap, i64 x] w fun e w' => ∃ v', e = .returned v' ∧ w'.ownsRow base 27 2 v' (rs.length + 1) (rcells (rs ++ [(f, l + 1)])) ∧ Below base w w' := by
  have hget := rcells_get (rs ++ [(f, l)]) rs.length (f, l) (by simp)
  have c0 : w.cell? ⟨g, rs.length * 2, none⟩ = some (i64 f) := by rw [hown.cellAt _ (by omega)]; exact hget.1
  have c1 : w.cell? ⟨g, rs.length * 2 + 1, none⟩ = some (i64 l) := by rw [hown.cellAt _ (by omega)]; exact hget.2
  have f1 : w.frozen? ⟨g, rs.length * 2 + 1, none⟩ = false := hown.frozenAt _
  have hgb : base ≤ g := (hown.lt g rfl).1
  have hst : ∀ u, (w.setCell ⟨g, rs.length * 2 + 1, none⟩ u).ownsRow base 27 2 (.slice (some ⟨g, 0, none⟩) (rs.length + 1) cap) (rs.length + 1) ((rcells (rs ++ [(f, l)])).set (rs.length * 2 + 1) u) := fun u => (hown.stored _ u).1
  have e1 : (rcells (rs ++ [(f, l)])).set (rs.length * 2 + 1) (i64 (l + 1)) = rcells (rs ++ [(f, l + 1)]) := by
    rw [rcells_app, rcells_app, List.set_append, if_neg (by rw [rcells_len]; omega)]
    congr 1
    rw [rcells_len, show rs.length * 2 + 1 - rs.length * 2 = 1 by omega]
    rfl
  have hst1 := hst (i64 (l + 1))
  rw [e1] at hst1
  have HST : Hid ((w.setCell ⟨g, rs.length * 2 + 1, none⟩ (i64 (l + 1))).ownsRow base 27 2 (.slice (some ⟨g, 0, none⟩) (rs.length + 1) cap) (rs.length + 1) (rcells (rs ++ [(f, l + 1)]))) := hst1
  clear hown hget hst hst1 e1
  generalize rcells (rs ++ [(f, l + 1)]) = C at *
  generalize rs.length = n at *
  have hd : decide ((n : Int) < 0) = false := decide_eq_false (by omega)
  go_enter Try.func32, Try.ntmps32
  go_wp2_with fail
  go_quiet (fail)
  go_wp2_with fail
  go_ret
  exact ⟨_, rfl, HST.out, below_of_drewN ((Below.refl _ _).setCell hgb _)⟩

/-- A number behind the runs. -/
theorem goOn_ok (w : World) (base : Nat) (v : Value) (rs : List Rn) (x : Int) (hown : w.ownsRow base 27 2 v rs.length (rcells rs)) (hb : base ≤ w.heap.size) (hr : ∀ r ∈ rs, (0 ≤ r.1 ∧ r.1 < 64) ∧ 1 ≤ r.2 ∧ r.2 ≤ 1000) (hn : rs.length ≤ 1000) :
    Calls Try.prog 32 #[v, i64 x] w fun e w' => ∃ v', e = .returned v' ∧ w'.ownsRow base 27 2 v' (goOn rs x).length (rcells (goOn rs x)) ∧ Below base w w' := by
  rcases List.eq_nil_or_concat rs with rfl | ⟨rs, ⟨f, l⟩, rfl⟩
  · exact goOn_empty w base v x hown hb
  · rw [List.concat_eq_append] at *
    obtain ⟨hf, hl⟩ := hr (f, l) (by simp)
    rw [List.length_append] at hown hn
    obtain ⟨g, cap, rfl⟩ := own_form hown
    rw [goOn_snoc]
    have hn' : rs.length ≤ 1000 := by simp at hn; omega
    by_cases he : f + l = x
    · rw [if_pos he, List.length_append]
      exact goOn_same w base g cap rs f l x hown hf hl hn' (by simpa using he)
    · rw [if_neg he, List.length_append, List.length_append]
      exact goOn_other w base g cap rs f l x hown hb hf hl hn' (by simpa using he)

def runE (xs : List Int) : Int := if allOk xs then 0 else 1
def runL (xs : List Int) : List Rn := if allOk xs then runF xs else []
theorem take_ok {xs : List Int} {k : Nat} (h : allOk (xs.take k)) (hk : k < xs.length) (hx : okN xs[k]) : allOk (xs.take (k + 1)) := by
  intro x hm
  rw [← List.take_append_getElem hk] at hm
  rcases List.mem_append.1 hm with hm | hm
  · exact h x hm
  · simp at hm; subst hm; exact hx
theorem take_run {xs : List Int} {k : Nat} (hk : k < xs.length) : runF (xs.take (k + 1)) = goOn (runF (xs.take k)) xs[k] := by
  rw [← List.take_append_getElem hk, runF_snoc]
theorem runF_bounds {xs : List Int} (h : allOk xs) : ∀ r ∈ runF xs, (0 ≤ r.1 ∧ r.1 < 64) ∧ 1 ≤ r.2 ∧ r.2 ≤ 1000 := fun r hr => by
  have := runF_right h r hr
  omega

set_option maxHeartbeats 800000 in
theorem runs_ok (w : World) (ao : Option Addr) (cap : Nat) (xs : List Int) (hI : ISl w ao xs) (hlen : xs.length ≤ 300) :
    Calls Try.prog 10 #[.slice ao xs.length cap] w fun e w' => Below w.heap.size w w' ∧ ∃ v, e = .returned (.tuple #[v, i64 (runE xs)]) ∧ w'.ownsRow w.heap.size 27 2 v (runL xs).length (rcells (runL xs)) := by
  have HI : Hid (ISl w ao xs) := hI
  clear hI
  have hN : ∃ n, xs.length = n := ⟨_, rfl⟩
  obtain ⟨n, hN⟩ := hN
  rw [hN] at hlen ⊢
  have HN : Hid (xs.length = n) := hN
  clear hN
  go_enter Try.func10, Try.ntmps10
  go_wp2_with fail
  go_loopw [4, 9] (fun u i wr => ∃ (k : Nat) (v : Value), v = u ∧ k ≤ n ∧ i = i64 k ∧ wr.ownsRow w.heap.size 27 2 v (runF (xs.take k)).length (rcells (runF (xs.take k))) ∧ Below w.heap.size w wr ∧ Hid (allOk (xs.take k))) (fun _ i _ => n - (intOf i).toNat)
  case atStart => exact ⟨0, _, rfl, by omega, rfl, World.ownsRow_nil _ _ _ _, Below.refl _ _, fun x hx => by simp at hx⟩
  case round =>
    obtain ⟨k, v, rfl, hk, rfl, ho, hb, HK⟩ := hrel
    by_cases hlt : k < n
    · have hkl : k < xs.length := by rw [HN.out]; exact hlt
      obtain ⟨b, off, rfl, hbl, c0⟩ := (HI.out.below hb).at hkl
      have hE : ∃ x, xs[k] = x := ⟨_, rfl⟩
      obtain ⟨x, hE⟩ := hE
      rw [hE] at c0
      have HE : Hid (xs[k] = x) := hE
      have HB : Hid (Below w.heap.size w wr) := hb
      have HO : Hid (wr.ownsRow w.heap.size 27 2 v (runF (xs.take k)).length (rcells (runF (xs.take k)))) := ho
      clear hb ho hE
      by_cases hx : okN x
      · have h0 : 0 ≤ x := hx.1
        have h1 : x < 64 := hx.2
        go_wp2_with fail
        refine (goOn_ok wr w.heap.size v (runF (xs.take k)) x HO.out HB.out.size (runF_bounds HK.out) (by have := runF_len (xs.take k); simp at this; omega)).mono ?_
        rintro e w2 ⟨v', rfl, ho2, hb2⟩
        rw [← HE.out, ← take_run hkl] at ho2
        have HO2 : Hid (w2.ownsRow w.heap.size 27 2 v' (runF (xs.take (k + 1))).length (rcells (runF (xs.take (k + 1))))) := ho2
        have HB2 : Hid (Below w.heap.size w w2) := HB.out.trans hb2
        clear ho2 hb2
        go_wp2_with fail
        exact ⟨⟨k + 1, _, rfl, by omega, by go_num, HO2.out, HB2.out, take_ok HK.out hkl (by rw [HE.out]; exact hx)⟩, by simp [intOf]; omega⟩
      · have hno : ¬ allOk xs := fun h => hx (by rw [← HE.out]; exact h _ (List.getElem_mem hkl))
        have hE1 : runE xs = 1 := if_neg hno
        have hL1 : runL xs = [] := if_neg hno
        by_cases h0 : x < 0
        · go_wp2_with fail
          go_ret2
          exact ⟨HB.out, .slice none 0 0, by first | rfl | (rw [hE1]; rfl), by first | exact World.ownsRow_nil _ _ _ _ | (rw [hL1]; exact World.ownsRow_nil _ _ _ _)⟩
        · have h1 : 64 ≤ x := by unfold okN at hx; omega
          go_wp2_with fail
          go_ret2
          exact ⟨HB.out, .slice none 0 0, by first | rfl | (rw [hE1]; rfl), by first | exact World.ownsRow_nil _ _ _ _ | (rw [hL1]; exact World.ownsRow_nil _ _ _ _)⟩
    · obtain rfl : k = n := by omega
      have hT : xs.take k = xs := by rw [← HN.out]; simp
      rw [hT] at ho HK
      have hE1 : runE xs = 0 := if_pos HK.out
      have hL1 : runL xs = runF xs := if_pos HK.out
      have HB : Hid (Below w.heap.size w wr) := hb
      have HO : Hid (wr.ownsRow w.heap.size 27 2 v (runF xs).length (rcells (runF xs))) := ho
      clear hb ho
      go_wp2_with fail
      go_ret2
      exact ⟨HB.out, v, by first | rfl | (rw [hE1]; rfl), by first | exact HO.out | (rw [hL1]; exact HO.out)⟩
end Go.Proofs.Ytdgofhhpgmpgjaa
