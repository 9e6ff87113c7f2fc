/- imagoref04.Buffer's Put, and imagolaw04's ref: their contracts; no statement is proved in this text. -/
import Derived.Test.YtblhoaggonjhkaaRef2
namespace Go.Proofs.Ytblhoaggonjhkaa
open Go.ChangeShapes Go.WideShapes Go.ChangeAt Go.RowKit Go.Deep

theorem ocells_set : ∀ (L : Ls) (j : Nat) (q : K3 × En), j < L.length → (((((ocells L).set (j * 5) (i64 q.1.env)).set (j * 5 + 1) (i64 q.1.proc)).set (j * 5 + 2) (i64 q.1.page)).set (j * 5 + 3) (i64 q.2.frame)).set (j * 5 + 4) (.bool q.2.wr) = ocells (L.set j q)
  | a :: t, 0, q, _ => by simp [ocells]
  | a :: t, j + 1, q, h => by
    have ih := ocells_set t j q (by simpa using h)
    rw [show (j + 1) * 5 = j * 5 + 1 + 1 + 1 + 1 + 1 by omega]
    rw [show j * 5 + 1 + 1 + 1 + 1 + 1 + 1 = (j * 5 + 1) + 1 + 1 + 1 + 1 + 1 by omega, show j * 5 + 1 + 1 + 1 + 1 + 1 + 2 = (j * 5 + 2) + 1 + 1 + 1 + 1 + 1 by omega, show j * 5 + 1 + 1 + 1 + 1 + 1 + 3 = (j * 5 + 3) + 1 + 1 + 1 + 1 + 1 by omega, show j * 5 + 1 + 1 + 1 + 1 + 1 + 4 = (j * 5 + 4) + 1 + 1 + 1 + 1 + 1 by omega]
    simp only [ocells, List.set_cons_succ, ih]
theorem setL_at : ∀ (L : Ls) (j : Nat) (hj : j < L.length) (e : En), ND L → L.set j (L[j].1, e) = setL L L[j].1 e
  | a :: t, 0, _, e, nd => by
    obtain ⟨h1, _⟩ := nd_cons nd
    simp only [List.set_cons_zero, List.getElem_cons_zero, setL, List.map_cons, if_true]
    congr 1
    conv => lhs; rw [← List.map_id t]
    refine List.map_congr_left (fun q hq => ?_)
    rw [if_neg (h1 q hq)]
    rfl
  | a :: t, j + 1, hj, e, nd => by
    obtain ⟨h1, h2⟩ := nd_cons nd
    have ih := setL_at t j (by simpa using hj) e h2
    simp only [List.set_cons_succ, List.getElem_cons_succ, setL, List.map_cons]
    rw [if_neg (fun e' => h1 (t[j]'(by simpa using hj)) (List.getElem_mem _) e'.symm)]
    congr 1
theorem below_grown2 {w w2 : World} {o : Obj} {base : Nat} {v : Value} {e : TypeId} {size n : Nat} {xs : List Value} (hown : w.ownsRow base e size v n xs) (hb : base ≤ w.heap.size) (hg : (w.alloc o).grownBy w2 v.ownBlock) : Below base w w2 :=
  ((Below.refl _ _).alloc hb o).grown hg (by simp; omega) (fun r hr => (hown.lt r hr).1)
theorem keeps_sub (o : Obj) (h : keeps [29, 42] false o = true) : keeps [29] false o = true := by
  cases o with
  | cells C t f =>
    simp [keeps] at h ⊢
    exact h.1
  | _ => rfl
def rk (L : Ls) (k : Nat) : Ls := if L.length = 8 then (L.take k).tail else L.take k
theorem rk_end (L : Ls) : rk L L.length = roomL L := by simp [rk, roomL]
theorem rk_skip (L : Ls) (h : L.length = 8) : rk L 1 = rk L 0 := by
  unfold rk
  rw [if_pos h, if_pos h]
  cases L <;> simp
theorem rk_next (L : Ls) (k : Nat) (hk : k < L.length) (h : 0 < k ∨ L.length < 8) : rk L (k + 1) = rk L k ++ [L[k]] := by
  unfold rk
  split
  · rename_i h8
    rw [← List.take_append_getElem hk, List.tail_append_of_ne_nil]
    intro e
    have := congrArg List.length e
    rw [List.length_take, List.length_nil] at this
    omega
  · rw [← List.take_append_getElem hk]
theorem rk_len (L : Ls) (k : Nat) : (rk L k).length ≤ k := by
  unfold rk
  split
  · rw [List.length_tail, List.length_take]; omega
  · rw [List.length_take]; omega

/-- An entry of the row was put anew. -/
theorem put_at {w W : World} {base p g cap j : Nat} {L : Ls} {h m : Nat} {q : K3 × En} (h1 : w.heap[p]? = some (.cells #[.slice (some ⟨g, 0, none⟩) L.length cap, i64 h, i64 m] 29 (0, 0))) (ho : w.ownsRow base 42 5 (.slice (some ⟨g, 0, none⟩) L.length cap) L.length (ocells L)) (hbp : base ≤ p) (hb : Below w.heap.size w W) (hj : j < L.length) :
    Fr base [29, 42] false w (((((W.setCell ⟨g, j * 5, none⟩ (i64 q.1.env)).setCell ⟨g, j * 5 + 1, none⟩ (i64 q.1.proc)).setCell ⟨g, j * 5 + 2, none⟩ (i64 q.1.page)).setCell ⟨g, j * 5 + 3, none⟩ (i64 q.2.frame)).setCell ⟨g, j * 5 + 4, none⟩ (.bool q.2.wr)) ∧
    RBuf (((((W.setCell ⟨g, j * 5, none⟩ (i64 q.1.env)).setCell ⟨g, j * 5 + 1, none⟩ (i64 q.1.proc)).setCell ⟨g, j * 5 + 2, none⟩ (i64 q.1.page)).setCell ⟨g, j * 5 + 3, none⟩ (i64 q.2.frame)).setCell ⟨g, j * 5 + 4, none⟩ (.bool q.2.wr)) base p (L.set j q) h m := by
  have hplt := (Array.getElem?_eq_some_iff.1 h1).1
  have hgl := ho.lt g rfl
  have hgp : p ≠ g := fun e => by
    rcases ho.2 with ⟨hv, _⟩ | ⟨g', cp, cur, hv, _, hg', _⟩
    · cases hv
    · cases hv
      subst e
      rw [h1] at hg'
      simp only [Option.some.injEq, Obj.cells.injEq] at hg'
      exact absurd hg'.2.1 (by decide)
  have hgb : ∃ cur, w.heap[g]? = some (.cells cur 42 (0, 0)) := by
    rcases ho.2 with ⟨hv, _⟩ | ⟨g', cp, cur, hv, _, hg', _⟩
    · cases hv
    · cases hv; exact ⟨cur, hg'⟩
  obtain ⟨cur, hcur⟩ := hgb
  have hoW : W.ownsRow base 42 5 (.slice (some ⟨g, 0, none⟩) L.length cap) L.length (ocells L) := own_kept ho (fun b C hb' => (hb.block b (Array.getElem?_eq_some_iff.1 hb').1).trans hb')
  have t : Touch g w (((((W.setCell ⟨g, j * 5, none⟩ (i64 q.1.env)).setCell ⟨g, j * 5 + 1, none⟩ (i64 q.1.proc)).setCell ⟨g, j * 5 + 2, none⟩ (i64 q.1.page)).setCell ⟨g, j * 5 + 3, none⟩ (i64 q.2.frame)).setCell ⟨g, j * 5 + 4, none⟩ (.bool q.2.wr)) :=
    (touch_of_below hb).trans ((((((Touch.refl g W).setCell rfl _).setCell rfl _).setCell rfl _).setCell rfl _).setCell rfl _)
  have h5 := (((((hoW.stored (j * 5) (i64 q.1.env)).1.stored (j * 5 + 1) (i64 q.1.proc)).1.stored (j * 5 + 2) (i64 q.1.page)).1.stored (j * 5 + 3) (i64 q.2.frame)).1.stored (j * 5 + 4) (.bool q.2.wr)).1
  rw [ocells_set L j q hj] at h5
  refine ⟨Fr.of_touch t hcur (by simp [keeps]) hgl.1, ⟨_, (t.block p hplt hgp).trans h1, ?_⟩, hbp⟩
  rw [List.length_set]
  exact h5

set_option maxRecDepth 100000 in
set_option maxHeartbeats 2000000 in
theorem rput_ok {w : World} {base p : Nat} {L : Ls} {h m : Nat} (b : RBuf w base p L h m) (hl : L.length ≤ 8) (hbw : base ≤ w.heap.size) (nd : ND L) (q : K3 × En) :
    Calls Try.prog 20 #[.pointer (some ⟨p, 0, none⟩), oneV q] w fun e w' => e = .returned (.tuple #[]) ∧ Fr base [29, 42] false w w' ∧ RBuf w' base p (putL L q.1 q.2) h m := by
  obtain ⟨lv, h1, ho⟩ := b.ex
  have hplt := b.plt
  have hbp := b.bp
  have hb0 : Below w.heap.size w (w.alloc (.cells (oneA q) 42)) := (Below.refl _ _).alloc (Nat.le_refl _) _
  have HA : Hid (Calls Try.prog 22 #[.pointer (some ⟨p, 0, none⟩), oneV q] (w.alloc (.cells (oneA q) 42)) fun e w' => Below (w.alloc (.cells (oneA q) 42)).heap.size (w.alloc (.cells (oneA q) 42)) w' ∧ ∃ r, e = .returned (i64 r) ∧ AtR L q.1 r) := at_ok (b.below hb0) (by omega) q
  have HB0 : Hid (Below w.heap.size w (w.alloc (.cells (oneA q) 42))) := hb0
  have HX : Hid ((w.alloc (.cells (oneA q) 42)).heap[w.heap.size]? = some (.cells (oneA q) 42 (0, 0))) := heap_last w _
  have hsz : (w.alloc (.cells (oneA q) 42)).heap.size = w.heap.size + 1 := by simp
  obtain ⟨ao, cap, rfl, _⟩ := own_slice ho
  have H1 : Hid (w.heap[p]? = some (.cells #[.slice ao L.length cap, i64 h, i64 m] 29 (0, 0))) := h1
  have HO : Hid (w.ownsRow base 42 5 (.slice ao L.length cap) L.length (ocells L)) := ho
  have HND : Hid (ND L) := nd
  obtain ⟨i42, hi, hz, hs, hby⟩ := info_parts info42x
  have HI : Hid (Try.prog.info? 42 = some i42) := hi
  obtain ⟨M, hM⟩ : ∃ M, M = putL L q.1 q.2 := ⟨_, rfl⟩
  rw [← hM]
  have HMM : Hid (M = putL L q.1 q.2) := hM
  clear b h1 ho hb0 nd hi hM
  go_enter Try.func20, Try.ntmps20
  go_wp2_with fail
  refine HA.out.mono ?_
  rintro e w1 ⟨hb1, r, rfl, hr⟩
  rw [hsz] at hb1
  have hbw1 : Below w.heap.size w w1 := HB0.out.trans (hb1.mono (by omega))
  have HBW1 : Hid (Below w.heap.size w w1) := hbw1
  have hX1 := (hb1.block _ (by omega)).trans HX.out
  have HX1 : Hid (w1.heap[w.heap.size]? = some (.cells (oneA q) 42 (0, 0))) := hX1
  have hs1 : w.heap.size + 1 ≤ w1.heap.size := by have := hb1.size; rw [hsz] at this; exact this
  have hp1 := (hbw1.block p hplt).trans H1.out
  have HP1 : Hid (w1.heap[p]? = some (.cells #[.slice ao L.length cap, i64 h, i64 m] 29 (0, 0))) := hp1
  rcases hr with ⟨hnone, rfl⟩ | ⟨j, hj, rfl, hjk⟩
  · have HPN : Hid (M = roomL L ++ [q]) := (by rw [HMM.out, putL, hnone]; rfl : M = roomL L ++ [q])
    obtain ⟨⟨d0, _, _⟩, df⟩ := three_cells hp1
    have hN : ∃ n, L.length = n := ⟨_, rfl⟩
    obtain ⟨n, hN⟩ := hN
    have HN : Hid (L.length = n) := hN
    rw [hN] at hl d0
    clear hb1 hbw1 hX1 hp1 df hnone hN
    go_wp2_with fail
    go_loopw [5, 25] (fun u i wr => ∃ (k : Nat) (v : Value), v = u ∧ k ≤ n ∧ i = i64 k ∧ wr.ownsRow w1.heap.size 42 5 v (rk L k).length (ocells (rk L k)) ∧ Below w1.heap.size w1 wr) (fun _ i _ => n - (intOf i).toNat)
    case atStart => exact ⟨0, _, rfl, by omega, rfl, by
      have e0 : rk L 0 = [] := List.eq_nil_of_length_eq_zero (by have := rk_len L 0; omega)
      rw [e0]; exact World.ownsRow_nil _ _ _ _, Below.refl _ _⟩
    case round =>
      obtain ⟨k, v, rfl, hk, rfl, hov, hb⟩ := hrel
      have hs2 := hb.size
      have HB : Hid (Below w1.heap.size w1 wr) := hb
      have hwr : Below w.heap.size w wr := HBW1.out.trans (hb.mono (by omega))
      have hpr := (hb.block p (by have := HBW1.out.size; omega)).trans HP1.out
      obtain ⟨⟨e0, _, _⟩, ef⟩ := three_cells hpr
      rw [HN.out] at e0
      have hrl := rk_len L k
      by_cases hlt : k < n
      · have hkl : k < L.length := by rw [HN.out]; exact hlt
        have hor : wr.ownsRow base 42 5 (.slice ao L.length cap) L.length (ocells L) := own_kept HO.out (fun b C hb' => (hwr.block b (Array.getElem?_eq_some_iff.1 hb').1).trans hb')
        obtain ⟨g, rfl⟩ : ∃ g, ao = some ⟨g, 0, none⟩ := by
          rcases hor.2 with ⟨_, h0⟩ | ⟨g, cp, cur, hv, _⟩
          · omega
          · cases hv; exact ⟨g, rfl⟩
        obtain ⟨o0, o1, o2, o3, o4⟩ := own_one hor hkl
        have hE : ∃ x, L[k] = x := ⟨_, rfl⟩
        obtain ⟨x, hE⟩ := hE
        rw [hE] at o0 o1 o2 o3 o4
        have HE : Hid (L[k] = x) := hE
        have HOV : Hid (wr.ownsRow w1.heap.size 42 5 v (rk L k).length (ocells (rk L k))) := hov
        have hs3 : w1.heap.size ≤ (wr.alloc (.cells (oneA x) 42)).heap.size := by simp; omega
        have hplr : p < wr.heap.size := by have := HBW1.out.size; omega
        have hpa : ∀ o, (wr.alloc o).cell? ⟨p, 0, none⟩ = some (.slice (some ⟨g, 0, none⟩) n cap) := fun o => by rw [World.cell?_alloc_lt _ _ _ (by exact hplr)]; exact e0
        have ep := hpa (.cells (oneA x) 42)
        clear hb hwr hor hE hov hpr ef hpa
        by_cases hc : 0 < k ∨ n < 8
        · have HC : Hid (0 < k ∨ L.length < 8) := by rw [HN.out]; exact hc
          have hc2 : (0 : Int) < (k : Int) ∨ (¬ (0 : Int) < (k : Int) ∧ (n : Int) < 8) := by omega
          clear hc
          rcases hc2 with hc2 | ⟨hc2, hc3⟩
          all_goals (
            go_wp2_with (at_builtin; refine wpList_append_own _ rfl (.tmp 40) (.tmp 42) 27 rfl w1.heap.size 42 i42 (.agg #[.int .i64 0, .int .i64 0, .int .i64 0, .int .i64 0, .bool false]) 5 40 under27 HI.out hz hs hby rfl (by omega) v _ _ rfl ((HOV.out.alloc _).alloc _) ⟨wr.heap.size + 1, 0, none⟩ 1 1 (ocells [x]) rfl rfl (new_five_at _ _ _ (by simp)) (ocells_one [x]) (by unfold maxLen; omega) (by omega) (Nat.le_trans hs3 (by simp)) ?_; intro v' w3 ho3 hg3 _; have HO3 : Hid (w3.ownsRow w1.heap.size 42 5 v' (rk L (k + 1)).length (ocells (rk L (k + 1)))) := (by rw [rk_next L k hkl HC.out, HE.out]; exact own_snoc ho3 rfl : w3.ownsRow w1.heap.size 42 5 v' (rk L (k + 1)).length (ocells (rk L (k + 1)))); have HB3 : Hid (Below w1.heap.size w1 w3) := (HB.out.alloc hs2 _).trans (below_grown2 (HOV.out.alloc _) hs3 hg3); clear ho3 hg3)
            exact ⟨⟨k + 1, _, rfl, by omega, by go_num, HO3.out, HB3.out⟩, by simp [intOf]; omega⟩)
        · obtain rfl : k = 0 := by omega
          have h8 : L.length = 8 := by rw [HN.out]; omega
          have HS8 : Hid (rk L 1 = rk L 0) := rk_skip L h8
          have hn8 : n = 8 := by omega
          clear hc
          go_wp2_with fail
          exact ⟨⟨1, _, rfl, by omega, by go_num, by rw [HS8.out]; exact HOV.out.alloc _, HB.out.alloc hs2 _⟩, by simp [intOf]; omega⟩
      · obtain rfl : k = n := by omega
        have hRE : rk L k = roomL L := by rw [← HN.out]; exact rk_end L
        rw [hRE] at hov hrl
        have HOV : Hid (wr.ownsRow w1.heap.size 42 5 v (roomL L).length (ocells (roomL L))) := hov
        obtain ⟨y0, y1, y2, y3, y4⟩ := one_new ((hb.block _ (by omega)).trans HX1.out)
        clear hb hwr hov hRE hpr
        go_wp2_with (at_builtin; refine wpList_append_own _ rfl (.tmp 45) (.tmp 47) 27 rfl w1.heap.size 42 i42 (.agg #[.int .i64 0, .int .i64 0, .int .i64 0, .int .i64 0, .bool false]) 5 40 under27 HI.out hz hs hby rfl (by omega) v _ _ rfl (HOV.out.alloc _) ⟨_, 0, none⟩ 1 1 (ocells [q]) rfl rfl (new_five _ _) (ocells_one [q]) (by unfold maxLen; omega) (by omega) (by simp; omega) ?_; intro v' w3 ho3 hg3 _; have ho4 : w3.ownsRow w1.heap.size 42 5 v' (roomL L ++ [q]).length (ocells (roomL L ++ [q])) := own_snoc ho3 rfl; have HB3 : Hid (Below w1.heap.size w1 w3) := HB.out.trans (((Below.refl _ _).alloc hs2 _).grown hg3 (by simp; omega) (fun r hr => (HOV.out.lt r hr).1)); have hw3 : Below w.heap.size w w3 := HBW1.out.trans (HB3.out.mono (by omega)); have hp3 := (hw3.block p hplt).trans H1.out; have z0 := (three_cells hp3).1.1; have zf := (three_cells hp3).2 0; have HRA : Hid (Fr base [29] false w (w3.setCell ⟨p, 0, none⟩ v') ∧ RBuf (w3.setCell ⟨p, 0, none⟩ v') base p (roomL L ++ [q]) h m) := row_after H1.out hbp hbw hw3 (own_mono ho4 HBW1.out.size); rw [show (roomL L ++ [q]).length = (roomL L).length + 1 by simp] at ho4; obtain ⟨av, cv, rfl, _⟩ := own_slice ho4; clear ho3 hg3 ho4 hw3 hp3)
        go_end0
        refine ⟨rfl, HRA.out.1.mono keeps_sub, ?_⟩
        rw [HPN.out]
        exact HRA.out.2
  · have hsm : look L q.1 = some L[j].2 := by rw [← hjk]; exact look_some HND.out (List.getElem_mem hj)
    have HPN : Hid (M = L.set j q) := (by
      rw [HMM.out, putL, hsm]
      have := setL_at L j hj q.2 HND.out
      rw [hjk] at this
      exact this.symm : M = L.set j q)
    have hor : w1.ownsRow base 42 5 (.slice ao L.length cap) L.length (ocells L) := own_kept HO.out (fun b C hb' => (hbw1.block b (Array.getElem?_eq_some_iff.1 hb').1).trans hb')
    obtain ⟨g, rfl⟩ : ∃ g, ao = some ⟨g, 0, none⟩ := by
      rcases hor.2 with ⟨_, h0⟩ | ⟨g, cp, cur, hv, _⟩
      · omega
      · cases hv; exact ⟨g, rfl⟩
    obtain ⟨o0, o1, o2, o3, o4⟩ := own_one hor hj
    have q0 := hor.frozenAt (j * 5)
    have q1 := hor.frozenAt (j * 5 + 1)
    have q2 := hor.frozenAt (j * 5 + 2)
    have q3 := hor.frozenAt (j * 5 + 3)
    have q4 := hor.frozenAt (j * 5 + 4)
    obtain ⟨⟨d0, _, _⟩, df⟩ := three_cells hp1
    obtain ⟨y0, y1, y2, y3, y4⟩ := one_new hX1
    have HPA : Hid (Fr base [29, 42] false w (((((w1.drew.setCell ⟨g, j * 5, none⟩ (i64 q.1.env)).setCell ⟨g, j * 5 + 1, none⟩ (i64 q.1.proc)).setCell ⟨g, j * 5 + 2, none⟩ (i64 q.1.page)).setCell ⟨g, j * 5 + 3, none⟩ (i64 q.2.frame)).setCell ⟨g, j * 5 + 4, none⟩ (.bool q.2.wr)) ∧ RBuf (((((w1.drew.setCell ⟨g, j * 5, none⟩ (i64 q.1.env)).setCell ⟨g, j * 5 + 1, none⟩ (i64 q.1.proc)).setCell ⟨g, j * 5 + 2, none⟩ (i64 q.1.page)).setCell ⟨g, j * 5 + 3, none⟩ (i64 q.2.frame)).setCell ⟨g, j * 5 + 4, none⟩ (.bool q.2.wr)) base p (L.set j q) h m) := put_at H1.out HO.out hbp hbw1.drew hj
    have hjI : (j : Int) < (L.length : Int) := by omega
    clear hb1 hbw1 hX1 hp1 df hor hsm
    go_wp2_with fail
    go_region
    all_goals (
      go_wp2_with fail
      first | go_end0 | (refine bodyPost_ret (v := .tuple #[]) (by simp [results, Try.results20, go_sem]) rfl ?_)
      refine ⟨rfl, HPA.out.1, ?_⟩
      rw [HPN.out]
      exact HPA.out.2)

end Go.Proofs.Ytblhoaggonjhkaa
