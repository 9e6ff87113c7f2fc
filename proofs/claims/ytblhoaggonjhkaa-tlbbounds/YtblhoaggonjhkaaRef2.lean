/- imagoref04.Buffer's Get, wanted and Drop: their contracts; no statement is proved in this text. -/
import Derived.Test.YtblhoaggonjhkaaRef
namespace Go.Proofs.Ytblhoaggonjhkaa
open Go.ChangeShapes Go.WideShapes Go.ChangeAt Go.RowKit Go.Deep

/-- The header was written. -/
theorem rbuf_turn {w w' : World} {base p : Nat} {L : Ls} {h m h' m' : Nat} {lv : Value} (h1 : w.heap[p]? = some (.cells #[lv, i64 h, i64 m] 29 (0, 0))) (ho : w.ownsRow base 42 5 lv L.length (ocells L)) (bp : base ≤ p) (t : Touch p w w') (h2 : w'.heap[p]? = some (.cells #[lv, i64 h', i64 m'] 29 (0, 0))) : RBuf w' base p L h' m' :=
  ⟨⟨lv, h2, own_kept ho (fun b C hb => (t.block b (Array.getElem?_eq_some_iff.1 hb).1 (fun e => by
      subst e
      rw [h1] at hb
      simp only [Option.some.injEq, Obj.cells.injEq] at hb
      exact absurd hb.2.1 (by decide))).trans hb)⟩, bp⟩
theorem touch_of_below {p : Nat} {w w' : World} (h : Below w.heap.size w w') : Touch p w w' := ⟨h.os, h.tape, h.output, h.size, fun k hk _ => h.block k hk⟩

theorem at_there {L : Ls} {k : K3} {r : Int} (h : AtR L k r) (nd : ND L) : (0 ≤ r) = ((look L k).isSome = true) ∧ (look L k = none → r = -1) ∧ ∀ (j : Nat) (hj : j < L.length), r = j → look L k = some L[j].2 := by
  rcases h with ⟨h1, rfl⟩ | ⟨j, hj, rfl, hk⟩
  · refine ⟨by rw [h1]; simp, fun _ => rfl, fun j hj e => by omega⟩
  · have hl : look L k = some L[j].2 := by rw [← hk]; exact look_some nd (List.getElem_mem hj)
    refine ⟨by rw [hl]; simp, ?_, ?_⟩
    · intro e
      rw [hl] at e
      cases e
    · intro j' hj' e
      have : j = j' := by omega
      subst this
      exact hl

set_option maxRecDepth 100000 in
set_option maxHeartbeats 1000000 in
theorem rget_ok {w : World} {base p : Nat} {L : Ls} {h m : Nat} (b : RBuf w base p L h m) (hl : L.length ≤ 100) (nd : ND L) (q : K3 × En) (hh : h ≤ 100000) (hm : m ≤ 100000) :
    Calls Try.prog 13 #[.pointer (some ⟨p, 0, none⟩), oneV q] w fun e w' => Fr base [29] false w w' ∧ RBuf w' base p L (if (look L q.1).isSome = true then h + 1 else h) (if (look L q.1).isSome = true then m else m + 1) ∧ ∃ r, e = .returned (i64 r) ∧ AtR L q.1 r := by
  obtain ⟨lv, h1, ho⟩ := b.ex
  have hplt := b.plt
  have hbp := b.bp
  have hb0 : Below w.heap.size w (w.alloc (.cells (oneA q) 42)) := (Below.refl _ _).alloc (Nat.le_refl _) _
  have HA : Hid (Calls Try.prog 22 #[.pointer (some ⟨p, 0, none⟩), oneV q] (w.alloc (.cells (oneA q) 42)) fun e w' => Below (w.alloc (.cells (oneA q) 42)).heap.size (w.alloc (.cells (oneA q) 42)) w' ∧ ∃ r, e = .returned (i64 r) ∧ AtR L q.1 r) := at_ok (b.below hb0) hl q
  have HB0 : Hid (Below w.heap.size w (w.alloc (.cells (oneA q) 42))) := hb0
  have H1 : Hid (w.heap[p]? = some (.cells #[lv, i64 h, i64 m] 29 (0, 0))) := h1
  have HO : Hid (w.ownsRow base 42 5 lv L.length (ocells L)) := ho
  have HND : Hid (ND L) := nd
  obtain ⟨T, hTd⟩ : ∃ T, T = (look L q.1).isSome := ⟨_, rfl⟩
  rw [← hTd]
  have HTD : Hid (T = (look L q.1).isSome) := hTd
  clear b h1 ho hb0 nd hTd
  go_enter Try.func13, Try.ntmps13
  go_wp2_with fail
  refine HA.out.mono ?_
  rintro e w1 ⟨hb1, r, rfl, hr⟩
  have hbw : Below w.heap.size w w1 := HB0.out.trans (hb1.mono (by simp))
  have hp1 := (hbw.block p hplt).trans H1.out
  obtain ⟨⟨_, c1, c2⟩, cf⟩ := three_cells hp1
  have f1 := cf 1
  have f2 := cf 2
  obtain ⟨e1, _, _⟩ := at_there hr HND.out
  have HR : Hid (AtR L q.1 r) := hr
  have HT : Hid (∀ (j n h' m' : Nat), (#[lv, i64 h, i64 m] : Array Value).setIfInBounds j (i64 n) = #[lv, i64 h', i64 m'] → Fr base [29] false w (w1.setCell ⟨p, j, none⟩ (i64 n)) ∧ RBuf (w1.setCell ⟨p, j, none⟩ (i64 n)) base p L h' m') := fun j n h' m' hj => by
    have t : Touch p w (w1.setCell ⟨p, j, none⟩ (i64 n)) := (touch_of_below hbw).trans ((Touch.refl p w1).setCell rfl _)
    have h2 := set_block hp1 j (i64 n)
    rw [hj] at h2
    exact ⟨Fr.of_touch t H1.out (by simp [keeps]) hbp, rbuf_turn H1.out HO.out hbp t h2⟩
  clear hb1 hbw hp1 cf hr
  cases T
  · have hneg : r < 0 := by
      have : ¬ 0 ≤ r := by rw [e1, ← HTD.out]; simp
      omega
    clear e1
    go_wp2_with fail
    go_ret
    exact ⟨(HT.out 2 (m + 1) _ (m + 1) rfl).1, (HT.out 2 (m + 1) _ (m + 1) rfl).2, r, rfl, HR.out⟩
  · have hpos : 0 ≤ r := by rw [e1, ← HTD.out]
    clear e1
    go_wp2_with fail
    go_ret
    exact ⟨(HT.out 1 (h + 1) (h + 1) m rfl).1, (HT.out 1 (h + 1) (h + 1) m rfl).2, r, rfl, HR.out⟩

def wantF (what : Int) (q : K3 × En) : K3 × En → Bool := if what = 0 then isKey q.1 else if what = 1 then isProc q.1.env q.1.proc else if what = 2 then isEnv q.1.env else isFrame q.2.frame
abbrev wantA (what : Int) (q : K3 × En) : Array Value := #[i64 what, i64 q.1.env, i64 q.1.proc, i64 q.1.page, i64 q.2.frame, .bool q.2.wr]

set_option maxHeartbeats 800000 in
theorem wanted_ok (w : World) (what : Int) (q x : K3 × En) (hw : what = 0 ∨ what = 1 ∨ what = 2 ∨ what = 3) : Calls Try.prog 29 #[.agg (wantA what q), oneV x] w fun e w' => e = .returned (.bool (wantF what q x)) ∧ Below w.heap.size w w' := by
  have HB : Hid (Below w.heap.size w ((w.alloc (.cells (wantA what q) 60)).alloc (.cells (oneA x) 42))) := ((Below.refl _ _).alloc (Nat.le_refl _) _).alloc (by simp) _
  rcases hw with rfl | rfl | rfl | rfl
  · have hf : wantF 0 q x = decide (x.1 = q.1) := rfl
    rw [hf]
    go_enter Try.func29, Try.ntmps29
    go_wp2_with fail
    refine (is_ok _ x q).mono ?_
    rintro e w1 ⟨rfl, hb1⟩
    have HB1 : Hid (Below w.heap.size w w1) := HB.out.trans (hb1.mono (by simp; omega))
    clear hb1
    go_wp2_with fail
    go_ret
    exact ⟨rfl, HB1.out⟩
  · have hf : wantF 1 q x = (x.1.env == q.1.env && x.1.proc == q.1.proc) := rfl
    rw [hf]
    by_cases h1 : x.1.env = q.1.env
    · have x1 : (x.1.env == q.1.env) = true := by simpa using h1
      clear h1
      go_enter Try.func29, Try.ntmps29
      go_wp2_with fail
      go_ret
      exact ⟨by simp [x1], HB.out⟩
    · have x1 : (x.1.env == q.1.env) = false := by simpa using h1
      clear h1
      go_enter Try.func29, Try.ntmps29
      go_wp2_with fail
      go_ret
      exact ⟨by simp [x1], HB.out⟩
  · have hf : wantF 2 q x = (x.1.env == q.1.env) := rfl
    rw [hf]
    go_enter Try.func29, Try.ntmps29
    go_wp2_with fail
    go_ret
    exact ⟨rfl, HB.out⟩
  · have hf : wantF 3 q x = (x.2.frame == q.2.frame) := rfl
    rw [hf]
    go_enter Try.func29, Try.ntmps29
    go_wp2_with fail
    go_ret
    exact ⟨rfl, HB.out⟩

theorem info42x : (Try.prog.info? 42).map (fun i => (i.zero, i.size, i.bytes)) = some (some (.agg #[.int .i64 0, .int .i64 0, .int .i64 0, .int .i64 0, .bool false]), 5, 40) := by kernel_rfl
theorem under27 : Try.prog.underlying 27 = some (.slice 42) := by kernel_rfl
theorem new_five (w : World) (q : K3 × En) : ∀ j x, (ocells [q])[j]? = some x → (w.alloc (.cells (oneA q) 42)).cell? ((⟨w.heap.size, 0, none⟩ : Addr).add j) = some x := by
  intro j x hx
  rw [Addr.add_mid, Nat.zero_add]
  refine new_cell _ _ _ _ _ ?_
  rw [← hx]
  simp [ocells, oneA]
theorem new_five_at (w : World) (q : K3 × En) (B : Nat) (hB : B = w.heap.size) : ∀ j x, (ocells [q])[j]? = some x → (w.alloc (.cells (oneA q) 42)).cell? ((⟨B, 0, none⟩ : Addr).add j) = some x := by
  subst hB
  exact new_five w q
theorem own_snoc {w : World} {base n : Nat} {v : Value} {A : Ls} {q : K3 × En} (h : w.ownsRow base 42 5 v (n + 1) (ocells A ++ ocells [q])) (hn : n = A.length) : w.ownsRow base 42 5 v (A ++ [q]).length (ocells (A ++ [q])) := by
  rw [ocells_app, List.length_append, ← hn]
  exact h
/-- The row was put in. -/
theorem row_after {w wr : World} {base p : Nat} {M : Ls} {h m : Nat} {lv v : Value} (h1 : w.heap[p]? = some (.cells #[lv, i64 h, i64 m] 29 (0, 0))) (hbp : base ≤ p) (hbw : base ≤ w.heap.size) (hb : Below w.heap.size w wr) (hown : wr.ownsRow w.heap.size 42 5 v M.length (ocells M)) :
    Fr base [29] false w (wr.setCell ⟨p, 0, none⟩ v) ∧ RBuf (wr.setCell ⟨p, 0, none⟩ v) base p M h m := by
  have hplt := (Array.getElem?_eq_some_iff.1 h1).1
  have hp1 := (hb.block p hplt).trans h1
  have t : Touch p w (wr.setCell ⟨p, 0, none⟩ v) := (touch_of_below hb).trans ((Touch.refl p wr).setCell rfl _)
  refine ⟨Fr.of_touch t h1 (by simp [keeps]) hbp, ⟨v, set_block hp1 0 v, ?_⟩, hbp⟩
  refine own_kept (own_mono hown hbw) (fun b C hb' => ?_)
  rw [set_other (fun e => by
    subst e
    rw [hp1] at hb'
    simp only [Option.some.injEq, Obj.cells.injEq] at hb'
    exact absurd hb'.2.1 (by decide))]
  exact hb'

set_option maxRecDepth 100000 in
set_option maxHeartbeats 2000000 in
theorem rdrop_ok {w : World} {base p : Nat} {L : Ls} {h m : Nat} (b : RBuf w base p L h m) (hl : L.length ≤ 100) (hbw : base ≤ w.heap.size) (what : Int) (q : K3 × En) (hw : what = 0 ∨ what = 1 ∨ what = 2 ∨ what = 3) :
    Calls Try.prog 21 #[.pointer (some ⟨p, 0, none⟩), .agg (wantA what q)] w fun e w' => e = .returned (i64 ((L.length : Int) - (dropF (wantF what q) L).length)) ∧ Fr base [29] false w w' ∧ RBuf w' base p (dropF (wantF what q) L) h m := by
  have HF : Hid (∀ (W : World) (x : K3 × En), Calls Try.prog 29 #[.agg (wantA what q), oneV x] W fun e w' => e = .returned (.bool (wantF what q x)) ∧ Below W.heap.size W w') := fun W x => wanted_ok W what q x hw
  clear hw
  generalize wantF what q = f at *
  obtain ⟨lv, h1, ho⟩ := b.ex
  have hplt := b.plt
  have hbp := b.bp
  obtain ⟨i42, hi, hz, hs, hby⟩ := info_parts info42x
  have HI : Hid (Try.prog.info? 42 = some i42) := hi
  obtain ⟨ao, cap, rfl, _⟩ := own_slice ho
  have HO : Hid (w.ownsRow base 42 5 (.slice ao L.length cap) L.length (ocells L)) := ho
  have hN : ∃ n, L.length = n := ⟨_, rfl⟩
  obtain ⟨n, hN⟩ := hN
  have HN : Hid (L.length = n) := hN
  rw [hN] at hl h1 ⊢
  have H1 : Hid (w.heap[p]? = some (.cells #[.slice ao n cap, i64 h, i64 m] 29 (0, 0))) := h1
  have hb0 : Below w.heap.size w (w.alloc (.cells (wantA what q) 60)) := (Below.refl _ _).alloc (Nat.le_refl _) _
  have HX : Hid ((w.alloc (.cells (wantA what q) 60)).heap[w.heap.size]? = some (.cells (wantA what q) 60 (0, 0))) := heap_last w _
  have cA := (hb0.cell (p := ⟨p, 0, none⟩) hplt).trans (three_cells h1).1.1
  have HB0 : Hid (Below w.heap.size w (w.alloc (.cells (wantA what q) 60))) := hb0
  have hsz : (w.alloc (.cells (wantA what q) 60)).heap.size = w.heap.size + 1 := by simp
  clear b h1 ho hN hb0 hi
  go_enter Try.func21, Try.ntmps21
  go_wp2_with fail
  go_loopw [5, 14] (fun u i wr => ∃ (k : Nat) (v : Value), v = u ∧ k ≤ n ∧ i = i64 k ∧ wr.ownsRow (w.heap.size + 1) 42 5 v (dropF f (L.take k)).length (ocells (dropF f (L.take k))) ∧ Below (w.heap.size + 1) (w.alloc (.cells (wantA what q) 60)) wr) (fun _ i _ => n - (intOf i).toNat)
  case atStart => exact ⟨0, _, rfl, by omega, rfl, World.ownsRow_nil _ _ _ _, Below.refl _ _⟩
  case round =>
    obtain ⟨k, v, rfl, hk, rfl, hov, hb⟩ := hrel
    have hs1 := hb.size
    rw [hsz] at hs1
    have HB : Hid (Below (w.heap.size + 1) (w.alloc (.cells (wantA what q) 60)) wr) := hb
    have hw1 : Below w.heap.size w wr := HB0.out.trans (hb.mono (by omega))
    have HW1 : Hid (Below w.heap.size w wr) := hw1
    by_cases hlt : k < n
    · have hkl : k < L.length := by rw [HN.out]; exact hlt
      have hor : wr.ownsRow base 42 5 (.slice ao L.length cap) L.length (ocells L) := own_kept HO.out (fun b C hb' => (hw1.block b (Array.getElem?_eq_some_iff.1 hb').1).trans hb')
      obtain ⟨g, rfl⟩ : ∃ g, ao = some ⟨g, 0, none⟩ := by
        rcases hor.2 with ⟨_, h0⟩ | ⟨g, cp, cur, hv, _⟩
        · omega
        · cases hv; exact ⟨g, rfl⟩
      obtain ⟨o0, o1, o2, o3, o4⟩ := own_one hor hkl
      have hE : ∃ x, L[k] = x := ⟨_, rfl⟩
      obtain ⟨x, hE⟩ := hE
      rw [hE] at o0 o1 o2 o3 o4
      have HE : Hid (L[k] = x) := hE
      have hX2 := (hb.block _ (by omega)).trans HX.out
      have hbx : (wr.alloc (.cells (oneA x) 42)).heap[w.heap.size]? = some (.cells (wantA what q) 60 (0, 0)) := (Below.heap_alloc _ _ _ (by omega)).trans hX2
      have six : ∀ j v, (wantA what q)[j]? = some v → (wr.alloc (.cells (oneA x) 42)).cell? ⟨w.heap.size, j, none⟩ = some v := fun j v hv => by rw [cell_of_row _ _ j _ 60 (0, 0) hbx]; exact hv
      have y0 := six 0 _ rfl
      have y1 := six 1 _ rfl
      have y2 := six 2 _ rfl
      have y3 := six 3 _ rfl
      have y4 := six 4 _ rfl
      have y5 := six 5 _ rfl
      have HOV : Hid (wr.ownsRow (w.heap.size + 1) 42 5 v (dropF f (L.take k)).length (ocells (dropF f (L.take k)))) := hov
      have hX7 := heap_last wr (.cells (oneA x) 42)
      have HX7 : Hid ((wr.alloc (.cells (oneA x) 42)).heap[wr.heap.size]? = some (.cells (oneA x) 42 (0, 0))) := hX7
      have hdl : (dropF f (L.take k)).length ≤ k := by have := dropF_le f (L.take k); rw [List.length_take] at this; omega
      clear hb hE hor hw1 hX2 hbx six hov hX7
      go_wp2_with fail
      refine (HF.out _ x).mono ?_
      rintro e w2 ⟨rfl, hb2⟩
      have HB2 : Hid (Below (w.heap.size + 1) (w.alloc (.cells (wantA what q) 60)) w2) := (HB.out.alloc hs1 _).trans (hb2.mono (by simp; omega))
      have HOV2 : Hid (w2.ownsRow (w.heap.size + 1) 42 5 v (dropF f (L.take k)).length (ocells (dropF f (L.take k)))) := own_kept (HOV.out.alloc _) (fun b C hb' => (hb2.block b (Array.getElem?_eq_some_iff.1 hb').1).trans hb')
      obtain ⟨z0, z1, z2, z3, z4⟩ := one_new ((hb2.block _ (by simp)).trans HX7.out)
      have hs2 : w.heap.size + 1 ≤ w2.heap.size := by have := HB2.out.size; rw [hsz] at this; exact this
      clear hb2 y0 y1 y2 y3 y4 y5
      cases hfx : f x
      · have HFX : Hid (f x = false) := hfx
        clear hfx
        go_wp2_with (at_builtin; refine wpList_append_own _ rfl (.tmp 22) (.tmp 24) 27 rfl (w.heap.size + 1) 42 i42 (.agg #[.int .i64 0, .int .i64 0, .int .i64 0, .int .i64 0, .bool false]) 5 40 under27 HI.out hz hs hby rfl (by omega) v _ _ rfl (HOV2.out.alloc _) ⟨_, 0, none⟩ 1 1 (ocells [x]) rfl rfl (new_five _ _) (ocells_one [x]) (by unfold maxLen; omega) (by omega) (by simp; omega) ?_; intro v' w3 ho3 hg3 _; have HO3 : Hid (w3.ownsRow (w.heap.size + 1) 42 5 v' (dropF f (L.take (k + 1))).length (ocells (dropF f (L.take (k + 1))))) := (by rw [take_succ f L k hkl, HE.out, if_neg (by rw [HFX.out]; simp)]; exact own_snoc ho3 rfl : w3.ownsRow (w.heap.size + 1) 42 5 v' (dropF f (L.take (k + 1))).length (ocells (dropF f (L.take (k + 1))))); have HB3 : Hid (Below (w.heap.size + 1) (w.alloc (.cells (wantA what q) 60)) w3) := HB2.out.trans (((Below.refl _ _).alloc hs2 _).grown hg3 (by simp; omega) (fun r hr => (HOV2.out.lt r hr).1)); clear ho3 hg3)
        exact ⟨⟨k + 1, _, rfl, by omega, by go_num, HO3.out, HB3.out⟩, by simp [intOf]; omega⟩
      · have HFX : Hid (f x = true) := hfx
        clear hfx
        go_wp2_with fail
        exact ⟨⟨k + 1, _, rfl, by omega, by go_num, by rw [take_succ f L k hkl, HE.out, if_pos HFX.out]; exact HOV2.out, HB2.out⟩, by simp [intOf]; omega⟩
    · obtain rfl : k = n := by omega
      have hT : L.take k = L := by rw [← HN.out]; simp
      rw [hT] at hov
      have hp1 := (hw1.block p hplt).trans H1.out
      obtain ⟨⟨d0, _, _⟩, df⟩ := three_cells hp1
      have f0 := df 0
      have hra := row_after H1.out hbp hbw hw1 (own_mono hov (by omega))
      have hle := dropF_le f L
      rw [HN.out] at hle
      have hJ : ∃ J, (dropF f L).length = J := ⟨_, rfl⟩
      obtain ⟨J, hJ⟩ := hJ
      rw [hJ] at hov hle
      have HJ : Hid ((dropF f L).length = J) := hJ
      obtain ⟨ao5, cap5, rfl, _⟩ := own_slice hov
      have HRA : Hid (Fr base [29] false w (wr.setCell ⟨p, 0, none⟩ (.slice ao5 J cap5)) ∧ RBuf (wr.setCell ⟨p, 0, none⟩ (.slice ao5 J cap5)) base p (dropF f L) h m) := hra
      clear hov hb hw1 hp1 hra hJ df hT
      go_wp2_with fail
      go_ret
      exact ⟨by rw [HJ.out]; rfl, HRA.out⟩
end Go.Proofs.Ytblhoaggonjhkaa
