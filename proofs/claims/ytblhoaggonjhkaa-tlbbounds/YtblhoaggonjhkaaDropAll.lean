/- tlb.Buffer's dropAll with each of its four tests, and Drop, DropProc, DropEnv, DropFrame: their contracts; no statement is proved in this text. -/
import Derived.Test.YtblhoaggonjhkaaDrop0
namespace Go.Proofs.Ytblhoaggonjhkaa
open Go.ChangeShapes Go.WideShapes Go.ChangeAt Go.RowKit Go.Deep

theorem new_three (w : World) (a b c : Value) (t : TypeId) : ∀ j x, [a, b, c][j]? = some x → (w.alloc (.cells #[a, b, c] t)).cell? ((⟨w.heap.size, 0, none⟩ : Addr).add j) = some x := by
  intro j x hx
  rw [Addr.add_mid, Nat.zero_add]
  exact new_cell _ _ _ _ _ (by simpa using hx)
theorem own_mono {w : World} {base base' : Nat} {e : TypeId} {size : Nat} {v : Value} {n : Nat} {xs : List Value} (h : w.ownsRow base e size v n xs) (hb : base' ≤ base) : w.ownsRow base' e size v n xs := by
  refine ⟨h.1, ?_⟩
  rcases h.2 with h2 | ⟨g, cap, cur, h1, h2, h3⟩
  · exact Or.inl h2
  · exact Or.inr ⟨g, cap, cur, h1, Nat.le_trans hb h2, h3⟩
/-- A row that is new grew. -/
theorem Fr.grown {base : Nat} {ts : List TypeId} {mp : Bool} {w wr w2 : World} {o : Obj} {v : Value} {e : TypeId} {size n : Nat} {xs : List Value} (h : Fr base ts mp w wr) (hb : base ≤ w.heap.size) (hown : wr.ownsRow w.heap.size e size v n xs) (hg : (wr.alloc o).grownBy w2 v.ownBlock) : Fr base ts mp w w2 := by
  have hs := h.size
  refine ⟨((h.below.alloc (by omega) o).grown hg (by simp; omega) (fun r hr => by have := (hown.lt r hr).1; omega)), fun k ob hk ho => ?_⟩
  have hlt := (Array.getElem?_eq_some_iff.1 hk).1
  rw [hg.block k (by simp; omega) (fun e => by have := (hown.lt k e.symm).1; omega), Below.heap_alloc _ _ _ (by omega)]
  exact h.kept k ob hk ho
theorem map_grown {w w2 : World} {o : Obj} {bm : Nat} {M : Ls} {base : Nat} {v : Value} {e : TypeId} {size n : Nat} {xs : List Value} (h : MapIs w bm M) (hown : w.ownsRow base e size v n xs) (hg : (w.alloc o).grownBy w2 v.ownBlock) : MapIs w2 bm M := by
  have hlt := h.lt
  refine h.kept ?_
  obtain ⟨es, c, hb, _⟩ := h
  rw [hg.block bm (by simp; omega) (fun e' => by
    rcases hown.2 with ⟨rfl, _⟩ | ⟨g, cap, cur, rfl, _, hg', _⟩
    · cases e'
    · have : bm = g := by simpa [Value.ownBlock] using e'
      subst this
      rw [hb] at hg'
      cases hg'), Below.heap_alloc _ _ _ hlt]
theorem own_key {w : World} {base : Nat} {v : Value} {f : K3 × En → Bool} {L : Ls} {k n : Nat} (hk : k < L.length) {a : K3} {e : En} (hE : L[k] = (a, e)) (hf : f (a, e) = false) (h : w.ownsRow base 31 3 v (n + 1) (kcells (keysOf (dropF f (L.take k))) ++ [i64 a.env, i64 a.proc, i64 a.page])) (hn : n = (keysOf (dropF f (L.take k))).length) :
    w.ownsRow base 31 3 v (keysOf (dropF f (L.take (k + 1)))).length (kcells (keysOf (dropF f (L.take (k + 1))))) := by
  have e1 : keysOf (dropF f (L.take (k + 1))) = keysOf (dropF f (L.take k)) ++ [a] := by
    rw [take_succ f L k hk, hE, if_neg (by rw [hf]; simp)]
    simp [keysOf]
  rw [e1, kcells_app, List.length_append, ← hn]
  exact h
theorem dropF_le (f : K3 × En → Bool) (L : Ls) : (dropF f L).length ≤ L.length := (dropF_sub f L).length_le
theorem keysOf_len (L : Ls) : (keysOf L).length = L.length := by simp [keysOf]
/-- A buffer whose keys lie in a row from w0 on. -/
def BufN (w0 : Nat) (w : World) (base p : Nat) (L : Ls) (h m : Nat) : Prop := Buf w base p L (keysOf L) h m ∧ ∃ mv kv, w.heap[p]? = some (.cells #[mv, kv, i64 h, i64 m] 56 (0, 0)) ∧ w.ownsRow w0 31 3 kv (keysOf L).length (kcells (keysOf L))
theorem BufN.mono {w0 w1 : Nat} {w : World} {base p : Nat} {L : Ls} {h m : Nat} (b : BufN w0 w base p L h m) (hw : w1 ≤ w0) : BufN w1 w base p L h m := by
  obtain ⟨b1, mv, kv, h1, h2⟩ := b
  exact ⟨b1, mv, kv, h1, own_mono h2 hw⟩
/-- The keys are stored. -/
theorem drop_after {w wr : World} {base p : Nat} {M : Ls} {h m : Nat} {mv kv v : Value} (h1 : w.heap[p]? = some (.cells #[mv, kv, i64 h, i64 m] 56 (0, 0))) (hbp : base ≤ p) (hfr : Fr base [] true w wr) (hmv : MapV wr base mv M) (hown : wr.ownsRow w.heap.size 31 3 v (keysOf M).length (kcells (keysOf M))) (nd : ND M) (hb : base ≤ w.heap.size) :
    Fr base [56] true w (wr.setCell ⟨p, 1, none⟩ v) ∧ BufN w.heap.size (wr.setCell ⟨p, 1, none⟩ v) base p M h m := by
  have hpW := hfr.kept p _ h1 (by simp [keeps])
  have t : Touch p wr (wr.setCell ⟨p, 1, none⟩ v) := (Touch.refl p wr).setCell rfl v
  have f2 : Fr base [56] true wr (wr.setCell ⟨p, 1, none⟩ v) := Fr.of_touch t hpW (by simp [keeps]) hbp
  have hk : (wr.setCell ⟨p, 1, none⟩ v).ownsRow w.heap.size 31 3 v (keysOf M).length (kcells (keysOf M)) := own_kept hown (fun b C hb => (t.block b (Array.getElem?_eq_some_iff.1 hb).1 (fun e => by
      subst e
      rw [hpW] at hb
      simp only [Option.some.injEq, Obj.cells.injEq] at hb
      exact absurd hb.2.1 (by decide))).trans hb)
  refine ⟨(hfr.mono (fun o ho => by cases o <;> simp_all [keeps])).trans f2, ⟨⟨mv, v, set_block hpW 1 v, ?_, own_mono hk hb⟩, nd, hbp⟩, mv, v, set_block hpW 1 v, hk⟩
  exact hmv.kept (fun b es c hb => (t.block b (Array.getElem?_eq_some_iff.1 hb).1 (fun e => by subst e; rw [hpW] at hb; cases hb)).trans hb)

set_option maxRecDepth 100000 in
set_option maxHeartbeats 4000000 in
theorem dropAll_25 {w : World} {base p : Nat} {L : Ls} {h m : Nat} (b : Buf w base p L (keysOf L) h m) (hl : L.length ≤ 8) (hbw : base ≤ w.heap.size) (f : K3 × En → Bool) (B : Nat)
    (hcl : ∀ W, Fr base [] true w W → ∀ (a : K3) (e : En), Calls Try.prog 25 #[keyV a, entV e, .pointer (some ⟨B, 0, none⟩)] W fun e' w' => e' = .returned (.bool (f (a, e))) ∧ Below W.heap.size W w') :
    Calls Try.prog 24 #[.pointer (some ⟨p, 0, none⟩), .func (.func 25) #[] #[.pointer (some ⟨B, 0, none⟩)]] w fun e w' => e = .returned (i64 ((L.length : Int) - (dropF f L).length)) ∧ Fr base [56] true w w' ∧ BufN w.heap.size w' base p (dropF f L) h m := by
  obtain ⟨mv, kv, h1, hmv, ho⟩ := b.ex
  rw [keysOf_len] at ho
  obtain ⟨ao, cap, rfl, _⟩ := own_slice ho
  have HKS : Hid (KSl w ao (keysOf L)) := (own_keys ho).1
  have hplt := b.plt
  have HBP : Hid (base ≤ p) := b.bp
  have HND : Hid (ND L) := b.nd
  have hNe : ∃ n, L.length = n := ⟨_, rfl⟩
  obtain ⟨n, hNe⟩ := hNe
  rw [hNe] at hl h1 ⊢
  have HN : Hid (L.length = n) := hNe
  obtain ⟨⟨c0, c1, _, _⟩, _⟩ := four_cells h1
  obtain ⟨i31, hi, hz, hs, hby⟩ := info_parts info31x
  have HI : Hid (Try.prog.info? 31 = some i31) := hi
  have HBY : Hid (i31.bytes = 24) := hby
  have HCL : Hid (∀ W, Fr base [] true w W → ∀ (a : K3) (e : En), Calls Try.prog 25 #[keyV a, entV e, .pointer (some ⟨B, 0, none⟩)] W fun e' w' => e' = .returned (.bool (f (a, e))) ∧ Below W.heap.size W w') := hcl
  have H1 : Hid (w.heap[p]? = some (.cells #[mv, .slice ao n cap, i64 h, i64 m] 56 (0, 0))) := h1
  have HM : Hid (MapV w base mv L) := hmv
  clear hi hby hcl b h1 hmv ho hNe
  go_enter Try.func24, Try.ntmps24
  go_wp2_with (at_make; refine wpList_make_own _ rfl _ _ 37 rfl w.heap.size 31 i31 (.agg #[.int .i64 0, .int .i64 0, .int .i64 0]) 3 under37 HI.out hz hs .i64 .i64 _ 8 rfl rfl rfl (by rw [HBY.out]; omega) (by unfold maxLen; omega) (Nat.le_refl _) ?_; intro w0 hown0 hgrow0; have HO0 : Hid (w0.ownsRow w.heap.size 31 3 (.slice (some ⟨w.heap.size, 0, none⟩) 0 8) 0 []) := hown0; have HB0 : Hid (Below w.heap.size w w0) := (Below.refl _ _).grown hgrow0 (Nat.le_refl _) (fun r hr => by cases hr); have k1 := (HB0.out.cell (p := ⟨p, 1, none⟩) hplt).trans c1; clear hown0 hgrow0)
  go_loopw [5, 17] (fun u i wr => ∃ (k : Nat) (v : Value), v = u ∧ k ≤ n ∧ i = i64 k ∧ wr.ownsRow w.heap.size 31 3 v (keysOf (dropF f (L.take k))).length (kcells (keysOf (dropF f (L.take k)))) ∧ MapV wr base mv (midF f L k) ∧ Fr base [] true w wr) (fun _ i _ => n - (intOf i).toNat)
  case atStart => exact ⟨0, _, rfl, by omega, rfl, HO0.out, by rw [midF_zero]; exact HM.out.kept (fun b es c hb => (HB0.out.block b (Array.getElem?_eq_some_iff.1 hb).1).trans hb), Fr.of_below [] true HB0.out hbw⟩
  case round =>
    obtain ⟨k, v, rfl, hk, rfl, ho, hmv, hfr⟩ := hrel
    by_cases hlt : k < n
    · have hkl : k < L.length := by rw [HN.out]; exact hlt
      have hkk : k < (keysOf L).length := by rw [keysOf_len]; exact hkl
      obtain ⟨bk, rfl, _, x0, x1, x2⟩ := (HKS.out.kept (fun b C hb => hfr.kept b _ hb (by simp [keeps]))).at hkk
      have hE : ∃ a e, L[k] = (a, e) := ⟨_, _, rfl⟩
      obtain ⟨a, e, hE⟩ := hE
      have hka : (keysOf L)[k] = a := by simp [keysOf, hE]
      rw [hka] at x0 x1 x2
      have hmb : ∃ bm, mv = .map (some bm) ∧ base ≤ bm ∧ MapIs wr bm (midF f L k) := by
        rcases hmv with ⟨_, h0⟩ | h0
        · exfalso
          rw [midF_at f L k hkl] at h0
          have := congrArg List.length h0
          simp only [List.length_append, List.length_cons, List.length_nil] at this
          omega
        · exact h0
      obtain ⟨bm, rfl, hbm, hmi⟩ := hmb
      have HE : Hid (L[k] = (a, e)) := hE
      have hlook := look_mid f L k hkl HND.out
      rw [hE] at hlook
      have hpW := hfr.kept p _ H1.out (by simp [keeps])
      have hplt2 := (Array.getElem?_eq_some_iff.1 hpW).1
      have hba : Below wr.heap.size wr (wr.alloc (.cells #[i64 a.env, i64 a.proc, i64 a.page] 31)) := (Below.refl _ _).alloc (Nat.le_refl _) _
      have hmi1 : MapIs (wr.alloc (.cells #[i64 a.env, i64 a.proc, i64 a.page] 31)) bm (midF f L k) := hmi.kept (hba.block bm hmi.lt)
      have hlk : (Instr.lookup 54 (.map (some bm)) (keyV a) false).run Try.prog (wr.alloc (.cells #[i64 a.env, i64 a.proc, i64 a.page] 31)).drew = .ok (entV e) (wr.alloc (.cells #[i64 a.env, i64 a.proc, i64 a.page] 31)).drew := by
        have := (show MapIs (wr.alloc (.cells #[i64 a.env, i64 a.proc, i64 a.page] 31)).drew bm (midF f L k) from hmi1).lkup (nd_sub HND.out (midF_sub f L k)) a false
        rw [lookR, hlook] at this
        exact this
      have hp1 : (wr.alloc (.cells #[i64 a.env, i64 a.proc, i64 a.page] 31)).drew.cell? ⟨p, 0, none⟩ = some (.map (some bm)) := (hba.cell (p := ⟨p, 0, none⟩) hplt2).trans (four_cells hpW).1.1
      have hFr1 : Fr base [] true w (wr.alloc (.cells #[i64 a.env, i64 a.proc, i64 a.page] 31)).drew := (hfr.alloc (Nat.le_trans hbw hfr.size) _).drewN 1
      have hclk := HCL.out _ hFr1 a e
      have HO : Hid (wr.ownsRow w.heap.size 31 3 v (keysOf (dropF f (L.take k))).length (kcells (keysOf (dropF f (L.take k))))) := ho
      have HFR1 : Hid (Fr base [] true w (wr.alloc (.cells #[i64 a.env, i64 a.proc, i64 a.page] 31)).drew) := hFr1
      have HMI1 : Hid (MapIs (wr.alloc (.cells #[i64 a.env, i64 a.proc, i64 a.page] 31)) bm (midF f L k)) := hmi1
      have hx7 : (wr.alloc (.cells #[i64 a.env, i64 a.proc, i64 a.page] 31)).heap[wr.heap.size]? = some (.cells #[i64 a.env, i64 a.proc, i64 a.page] 31 (0, 0)) := heap_last wr _
      have HX7 : Hid ((wr.alloc (.cells #[i64 a.env, i64 a.proc, i64 a.page] 31)).heap[wr.heap.size]? = some (.cells #[i64 a.env, i64 a.proc, i64 a.page] 31 (0, 0))) := hx7
      have HPW : Hid (wr.heap[p]? = some (.cells #[.map (some bm), .slice (some ⟨bk, 0, none⟩) n cap, i64 h, i64 m] 56 (0, 0))) := hpW
      clear hx7 hmi1 hmi hFr1 ho hmv hfr hlook hE hka hba
      have hsz1 : (wr.alloc (.cells #[i64 a.env, i64 a.proc, i64 a.page] 31)).drew.heap.size = wr.heap.size + 1 := by simp
      have three : ∀ (W : World), W.heap[wr.heap.size]? = some (.cells #[i64 a.env, i64 a.proc, i64 a.page] 31 (0, 0)) → W.cell? ⟨wr.heap.size, 0, none⟩ = some (i64 a.env) ∧ W.cell? ⟨wr.heap.size, 1, none⟩ = some (i64 a.proc) ∧ W.cell? ⟨wr.heap.size, 2, none⟩ = some (i64 a.page) := fun W hW => by
        rw [cell_of_row W wr.heap.size 0 _ 31 (0, 0) hW, cell_of_row W wr.heap.size 1 _ 31 (0, 0) hW, cell_of_row W wr.heap.size 2 _ 31 (0, 0) hW]
        exact ⟨rfl, rfl, rfl⟩
      have H3 : Hid (∀ (W : World), W.heap[wr.heap.size]? = some (.cells #[i64 a.env, i64 a.proc, i64 a.page] 31 (0, 0)) → W.cell? ⟨wr.heap.size, 0, none⟩ = some (i64 a.env) ∧ W.cell? ⟨wr.heap.size, 1, none⟩ = some (i64 a.proc) ∧ W.cell? ⟨wr.heap.size, 2, none⟩ = some (i64 a.page)) := three
      have HS0 : Hid ((wr.alloc (.cells #[i64 a.env, i64 a.proc, i64 a.page] 31)).drew.cell? ⟨p, 0, none⟩ = some (.map (some bm)) ∧ (wr.alloc (.cells #[i64 a.env, i64 a.proc, i64 a.page] 31)).drew.cell? ⟨wr.heap.size, 0, none⟩ = some (i64 a.env) ∧ (wr.alloc (.cells #[i64 a.env, i64 a.proc, i64 a.page] 31)).drew.cell? ⟨wr.heap.size, 1, none⟩ = some (i64 a.proc) ∧ (wr.alloc (.cells #[i64 a.env, i64 a.proc, i64 a.page] 31)).drew.cell? ⟨wr.heap.size, 2, none⟩ = some (i64 a.page)) := ⟨hp1, three _ HX7.out⟩
      clear three
      cases hfa : f (a, e)
      · have HFA : Hid (f (a, e) = false) := hfa
        rw [hfa] at hclk
        clear hfa
        go_wp2_with fail
        go_region_held (fun w' => w'.cell? ⟨p, 0, none⟩ = some (.map (some bm)) ∧ w'.cell? ⟨wr.heap.size, 0, none⟩ = some (i64 a.env) ∧ w'.cell? ⟨wr.heap.size, 1, none⟩ = some (i64 a.proc) ∧ w'.cell? ⟨wr.heap.size, 2, none⟩ = some (i64 a.page)) (first | exact HS0.out | exact HS4.out)
          ((go_at_call 25; refine hclk.mono ?_; rintro e' w4 ⟨rfl, hb4⟩; have HS4 : Hid (w4.cell? ⟨p, 0, none⟩ = some (.map (some bm)) ∧ w4.cell? ⟨wr.heap.size, 0, none⟩ = some (i64 a.env) ∧ w4.cell? ⟨wr.heap.size, 1, none⟩ = some (i64 a.proc) ∧ w4.cell? ⟨wr.heap.size, 2, none⟩ = some (i64 a.page)) := ⟨(hb4.cell (by rw [hsz1]; show p < _; omega)).trans hp1, H3.out w4 ((hb4.block _ (by rw [hsz1]; omega)).trans HX7.out)⟩; have HB4 : Hid (Below (wr.alloc (.cells #[i64 a.env, i64 a.proc, i64 a.page] 31)).drew.heap.size (wr.alloc (.cells #[i64 a.env, i64 a.proc, i64 a.page] 31)).drew w4) := hb4; clear hb4))
        have hlt4 := HB4.out.size
        rw [hsz1] at hlt4
        have HO4 : Hid (w4.ownsRow w.heap.size 31 3 v (keysOf (dropF f (L.take k))).length (kcells (keysOf (dropF f (L.take k))))) := own_kept ((HO.out.alloc _).drew) (fun b C hb => (HB4.out.block b (Array.getElem?_eq_some_iff.1 hb).1).trans hb)
        have HFR4 : Hid (Fr base [] true w w4) := HFR1.out.trans (Fr.of_below [] true HB4.out (by rw [hsz1]; have := HFR1.out.size; rw [hsz1] at this; omega))
        have HMI4 : Hid (MapIs w4 bm (midF f L k)) := HMI1.out.kept (HB4.out.block bm HMI1.out.lt)
        have hkl2 : (keysOf (dropF f (L.take k))).length ≤ 8 := by rw [keysOf_len]; have := dropF_le f (L.take k); rw [List.length_take] at this; omega
        obtain ⟨y0, y1, y2, y3⟩ := HS4.out
        clear hclk hlk hp1
        go_wp2_with (at_builtin; refine wpList_append_own _ rfl (.tmp 35) (.tmp 37) 37 rfl w.heap.size 31 i31 (.agg #[.int .i64 0, .int .i64 0, .int .i64 0]) 3 24 under37 HI.out hz hs HBY.out rfl (by omega) v _ _ rfl (HO4.out.alloc _) ⟨_, 0, none⟩ 1 1 [i64 a.env, i64 a.proc, i64 a.page] rfl rfl (new_three _ _ _ _ _) (by simp [Value.oneCell']) (by unfold maxLen; omega) (by omega) (by have := HFR4.out.size; simp; omega) ?_; intro v' w5 ho5 hg5 _; have HO5 : Hid (w5.ownsRow w.heap.size 31 3 v' (keysOf (dropF f (L.take (k + 1)))).length (kcells (keysOf (dropF f (L.take (k + 1)))))) := own_key hkl HE.out HFA.out ho5 rfl; have HFR5 : Hid (Fr base [] true w w5) := HFR4.out.grown hbw HO4.out hg5; have HMI5 : Hid (MapIs w5 bm (midF f L k)) := map_grown HMI4.out HO4.out hg5; clear ho5 hg5)
        exact ⟨⟨k + 1, _, rfl, by omega, by go_num, HO5.out, by rw [midF_stay f L k hkl (by rw [HE.out]; exact HFA.out)]; exact Or.inr ⟨bm, rfl, hbm, HMI5.out⟩, HFR5.out⟩, by simp [intOf]; omega⟩
      · have HFA : Hid (f (a, e) = true) := hfa
        rw [hfa] at hclk
        clear hfa
        go_wp2_with fail
        go_region_held (fun w' => w'.cell? ⟨p, 0, none⟩ = some (.map (some bm)) ∧ w'.cell? ⟨wr.heap.size, 0, none⟩ = some (i64 a.env) ∧ w'.cell? ⟨wr.heap.size, 1, none⟩ = some (i64 a.proc) ∧ w'.cell? ⟨wr.heap.size, 2, none⟩ = some (i64 a.page)) (first | exact HS0.out | exact HS4.out)
          ((go_at_call 25; refine hclk.mono ?_; rintro e' w4 ⟨rfl, hb4⟩; have HS4 : Hid (w4.cell? ⟨p, 0, none⟩ = some (.map (some bm)) ∧ w4.cell? ⟨wr.heap.size, 0, none⟩ = some (i64 a.env) ∧ w4.cell? ⟨wr.heap.size, 1, none⟩ = some (i64 a.proc) ∧ w4.cell? ⟨wr.heap.size, 2, none⟩ = some (i64 a.page)) := ⟨(hb4.cell (by rw [hsz1]; show p < _; omega)).trans hp1, H3.out w4 ((hb4.block _ (by rw [hsz1]; omega)).trans HX7.out)⟩; have HB4 : Hid (Below (wr.alloc (.cells #[i64 a.env, i64 a.proc, i64 a.page] 31)).drew.heap.size (wr.alloc (.cells #[i64 a.env, i64 a.proc, i64 a.page] 31)).drew w4) := hb4; clear hb4))
        have hlt4 := HB4.out.size
        rw [hsz1] at hlt4
        have HO4 : Hid (w4.ownsRow w.heap.size 31 3 v (keysOf (dropF f (L.take k))).length (kcells (keysOf (dropF f (L.take k))))) := own_kept ((HO.out.alloc _).drew) (fun b C hb => (HB4.out.block b (Array.getElem?_eq_some_iff.1 hb).1).trans hb)
        have HFR4 : Hid (Fr base [] true w w4) := HFR1.out.trans (Fr.of_below [] true HB4.out (by rw [hsz1]; have := HFR1.out.size; rw [hsz1] at this; omega))
        have hMI4 : MapIs w4.drew bm (midF f L k) := HMI1.out.kept (HB4.out.block bm HMI1.out.lt)
        obtain ⟨w5, hdel, hmi5, ht5⟩ := hMI4.del (L' := midF f L (k + 1)) a (fun q => by have := midF_del f L k hkl HND.out (by rw [HE.out]; exact HFA.out) q; rw [HE.out] at this; exact this)
        have HMI5 : Hid (MapIs w5 bm (midF f L (k + 1))) := hmi5
        obtain ⟨es4, cl4, hes4, _⟩ := hMI4
        have HO5 : Hid (w5.ownsRow w.heap.size 31 3 v (keysOf (dropF f (L.take (k + 1)))).length (kcells (keysOf (dropF f (L.take (k + 1)))))) := by
          rw [take_succ f L k hkl, HE.out, if_pos HFA.out]
          exact own_kept (HO4.out.drew) (fun b C hb => (ht5.block b (Array.getElem?_eq_some_iff.1 hb).1 (fun e => by subst e; rw [hes4] at hb; cases hb)).trans hb)
        have HFR5 : Hid (Fr base [] true w w5) := (HFR4.out.drewN 1).trans (Fr.of_touch ht5 hes4 (by simp [keeps]) hbm)
        obtain ⟨y0, y1, y2, y3⟩ := HS4.out
        have z0 : w4.drew.cell? ⟨p, 0, none⟩ = some (.map (some bm)) := by simpa using y0
        have z1 : w4.drew.cell? ⟨wr.heap.size, 0, none⟩ = some (i64 a.env) := by simpa using y1
        have z2 : w4.drew.cell? ⟨wr.heap.size, 1, none⟩ = some (i64 a.proc) := by simpa using y2
        have z3 : w4.drew.cell? ⟨wr.heap.size, 2, none⟩ = some (i64 a.page) := by simpa using y3
        clear hclk hlk hp1 hmi5 ht5 hes4
        go_wp2_with fail
        go_region
        all_goals (
          go_wp2_with fail
          exact ⟨⟨k + 1, _, rfl, by omega, by go_num, HO5.out, Or.inr ⟨bm, rfl, hbm, HMI5.out⟩, HFR5.out⟩, by simp [intOf]; omega⟩)
    · obtain rfl : k = n := by omega
      have hT : L.take k = L := by rw [← HN.out]; simp
      have hM : midF f L k = dropF f L := by rw [← HN.out]; exact midF_end f L
      rw [hT] at ho
      rw [hM] at hmv
      have hpW := hfr.kept p _ H1.out (by simp [keeps])
      obtain ⟨⟨_, d1, _, _⟩, dfz⟩ := four_cells hpW
      have d1f := dfz 1
      have hDA := drop_after H1.out HBP.out hfr hmv ho (nd_sub HND.out (dropF_sub f L)) hbw
      rw [keysOf_len] at ho
      have hle := dropF_le f L
      rw [HN.out] at hle
      have hJ : ∃ J, (dropF f L).length = J := ⟨_, rfl⟩
      obtain ⟨J, hJ⟩ := hJ
      rw [hJ] at ho hle
      have HJ : Hid ((dropF f L).length = J) := hJ
      obtain ⟨ao5, cap5, rfl, _⟩ := own_slice ho
      have HDA : Hid (Fr base [56] true w (wr.setCell ⟨p, 1, none⟩ (.slice ao5 J cap5)) ∧ BufN w.heap.size (wr.setCell ⟨p, 1, none⟩ (.slice ao5 J cap5)) base p (dropF f L) h m) := hDA
      clear ho hmv hfr hDA hJ dfz hpW hT hM
      go_wp2_with fail
      go_ret
      exact ⟨by rw [HJ.out]; rfl, HDA.out⟩

set_option maxRecDepth 100000 in
set_option maxHeartbeats 4000000 in
theorem dropAll_26 {w : World} {base p : Nat} {L : Ls} {h m : Nat} (b : Buf w base p L (keysOf L) h m) (hl : L.length ≤ 8) (hbw : base ≤ w.heap.size) (f : K3 × En → Bool) (B C : Nat)
    (hcl : ∀ W, Fr base [] true w W → ∀ (a : K3) (e : En), Calls Try.prog 26 #[keyV a, entV e, .pointer (some ⟨B, 0, none⟩), .pointer (some ⟨C, 0, none⟩)] W fun e' w' => e' = .returned (.bool (f (a, e))) ∧ Below W.heap.size W w') :
    Calls Try.prog 24 #[.pointer (some ⟨p, 0, none⟩), .func (.func 26) #[] #[.pointer (some ⟨B, 0, none⟩), .pointer (some ⟨C, 0, none⟩)]] w fun e w' => e = .returned (i64 ((L.length : Int) - (dropF f L).length)) ∧ Fr base [56] true w w' ∧ BufN w.heap.size w' base p (dropF f L) h m := by
  obtain ⟨mv, kv, h1, hmv, ho⟩ := b.ex
  rw [keysOf_len] at ho
  obtain ⟨ao, cap, rfl, _⟩ := own_slice ho
  have HKS : Hid (KSl w ao (keysOf L)) := (own_keys ho).1
  have hplt := b.plt
  have HBP : Hid (base ≤ p) := b.bp
  have HND : Hid (ND L) := b.nd
  have hNe : ∃ n, L.length = n := ⟨_, rfl⟩
  obtain ⟨n, hNe⟩ := hNe
  rw [hNe] at hl h1 ⊢
  have HN : Hid (L.length = n) := hNe
  obtain ⟨⟨c0, c1, _, _⟩, _⟩ := four_cells h1
  obtain ⟨i31, hi, hz, hs, hby⟩ := info_parts info31x
  have HI : Hid (Try.prog.info? 31 = some i31) := hi
  have HBY : Hid (i31.bytes = 24) := hby
  have HCL : Hid (∀ W, Fr base [] true w W → ∀ (a : K3) (e : En), Calls Try.prog 26 #[keyV a, entV e, .pointer (some ⟨B, 0, none⟩), .pointer (some ⟨C, 0, none⟩)] W fun e' w' => e' = .returned (.bool (f (a, e))) ∧ Below W.heap.size W w') := hcl
  have H1 : Hid (w.heap[p]? = some (.cells #[mv, .slice ao n cap, i64 h, i64 m] 56 (0, 0))) := h1
  have HM : Hid (MapV w base mv L) := hmv
  clear hi hby hcl b h1 hmv ho hNe
  go_enter Try.func24, Try.ntmps24
  go_wp2_with (at_make; refine wpList_make_own _ rfl _ _ 37 rfl w.heap.size 31 i31 (.agg #[.int .i64 0, .int .i64 0, .int .i64 0]) 3 under37 HI.out hz hs .i64 .i64 _ 8 rfl rfl rfl (by rw [HBY.out]; omega) (by unfold maxLen; omega) (Nat.le_refl _) ?_; intro w0 hown0 hgrow0; have HO0 : Hid (w0.ownsRow w.heap.size 31 3 (.slice (some ⟨w.heap.size, 0, none⟩) 0 8) 0 []) := hown0; have HB0 : Hid (Below w.heap.size w w0) := (Below.refl _ _).grown hgrow0 (Nat.le_refl _) (fun r hr => by cases hr); have k1 := (HB0.out.cell (p := ⟨p, 1, none⟩) hplt).trans c1; clear hown0 hgrow0)
  go_loopw [5, 17] (fun u i wr => ∃ (k : Nat) (v : Value), v = u ∧ k ≤ n ∧ i = i64 k ∧ wr.ownsRow w.heap.size 31 3 v (keysOf (dropF f (L.take k))).length (kcells (keysOf (dropF f (L.take k)))) ∧ MapV wr base mv (midF f L k) ∧ Fr base [] true w wr) (fun _ i _ => n - (intOf i).toNat)
  case atStart => exact ⟨0, _, rfl, by omega, rfl, HO0.out, by rw [midF_zero]; exact HM.out.kept (fun b es c hb => (HB0.out.block b (Array.getElem?_eq_some_iff.1 hb).1).trans hb), Fr.of_below [] true HB0.out hbw⟩
  case round =>
    obtain ⟨k, v, rfl, hk, rfl, ho, hmv, hfr⟩ := hrel
    by_cases hlt : k < n
    · have hkl : k < L.length := by rw [HN.out]; exact hlt
      have hkk : k < (keysOf L).length := by rw [keysOf_len]; exact hkl
      obtain ⟨bk, rfl, _, x0, x1, x2⟩ := (HKS.out.kept (fun b C hb => hfr.kept b _ hb (by simp [keeps]))).at hkk
      have hE : ∃ a e, L[k] = (a, e) := ⟨_, _, rfl⟩
      obtain ⟨a, e, hE⟩ := hE
      have hka : (keysOf L)[k] = a := by simp [keysOf, hE]
      rw [hka] at x0 x1 x2
      have hmb : ∃ bm, mv = .map (some bm) ∧ base ≤ bm ∧ MapIs wr bm (midF f L k) := by
        rcases hmv with ⟨_, h0⟩ | h0
        · exfalso
          rw [midF_at f L k hkl] at h0
          have := congrArg List.length h0
          simp only [List.length_append, List.length_cons, List.length_nil] at this
          omega
        · exact h0
      obtain ⟨bm, rfl, hbm, hmi⟩ := hmb
      have HE : Hid (L[k] = (a, e)) := hE
      have hlook := look_mid f L k hkl HND.out
      rw [hE] at hlook
      have hpW := hfr.kept p _ H1.out (by simp [keeps])
      have hplt2 := (Array.getElem?_eq_some_iff.1 hpW).1
      have hba : Below wr.heap.size wr (wr.alloc (.cells #[i64 a.env, i64 a.proc, i64 a.page] 31)) := (Below.refl _ _).alloc (Nat.le_refl _) _
      have hmi1 : MapIs (wr.alloc (.cells #[i64 a.env, i64 a.proc, i64 a.page] 31)) bm (midF f L k) := hmi.kept (hba.block bm hmi.lt)
      have hlk : (Instr.lookup 54 (.map (some bm)) (keyV a) false).run Try.prog (wr.alloc (.cells #[i64 a.env, i64 a.proc, i64 a.page] 31)).drew = .ok (entV e) (wr.alloc (.cells #[i64 a.env, i64 a.proc, i64 a.page] 31)).drew := by
        have := (show MapIs (wr.alloc (.cells #[i64 a.env, i64 a.proc, i64 a.page] 31)).drew bm (midF f L k) from hmi1).lkup (nd_sub HND.out (midF_sub f L k)) a false
        rw [lookR, hlook] at this
        exact this
      have hp1 : (wr.alloc (.cells #[i64 a.env, i64 a.proc, i64 a.page] 31)).drew.cell? ⟨p, 0, none⟩ = some (.map (some bm)) := (hba.cell (p := ⟨p, 0, none⟩) hplt2).trans (four_cells hpW).1.1
      have hFr1 : Fr base [] true w (wr.alloc (.cells #[i64 a.env, i64 a.proc, i64 a.page] 31)).drew := (hfr.alloc (Nat.le_trans hbw hfr.size) _).drewN 1
      have hclk := HCL.out _ hFr1 a e
      have HO : Hid (wr.ownsRow w.heap.size 31 3 v (keysOf (dropF f (L.take k))).length (kcells (keysOf (dropF f (L.take k))))) := ho
      have HFR1 : Hid (Fr base [] true w (wr.alloc (.cells #[i64 a.env, i64 a.proc, i64 a.page] 31)).drew) := hFr1
      have HMI1 : Hid (MapIs (wr.alloc (.cells #[i64 a.env, i64 a.proc, i64 a.page] 31)) bm (midF f L k)) := hmi1
      have hx7 : (wr.alloc (.cells #[i64 a.env, i64 a.proc, i64 a.page] 31)).heap[wr.heap.size]? = some (.cells #[i64 a.env, i64 a.proc, i64 a.page] 31 (0, 0)) := heap_last wr _
      have HX7 : Hid ((wr.alloc (.cells #[i64 a.env, i64 a.proc, i64 a.page] 31)).heap[wr.heap.size]? = some (.cells #[i64 a.env, i64 a.proc, i64 a.page] 31 (0, 0))) := hx7
      have HPW : Hid (wr.heap[p]? = some (.cells #[.map (some bm), .slice (some ⟨bk, 0, none⟩) n cap, i64 h, i64 m] 56 (0, 0))) := hpW
      clear hx7 hmi1 hmi hFr1 ho hmv hfr hlook hE hka hba
      have hsz1 : (wr.alloc (.cells #[i64 a.env, i64 a.proc, i64 a.page] 31)).drew.heap.size = wr.heap.size + 1 := by simp
      have three : ∀ (W : World), W.heap[wr.heap.size]? = some (.cells #[i64 a.env, i64 a.proc, i64 a.page] 31 (0, 0)) → W.cell? ⟨wr.heap.size, 0, none⟩ = some (i64 a.env) ∧ W.cell? ⟨wr.heap.size, 1, none⟩ = some (i64 a.proc) ∧ W.cell? ⟨wr.heap.size, 2, none⟩ = some (i64 a.page) := fun W hW => by
        rw [cell_of_row W wr.heap.size 0 _ 31 (0, 0) hW, cell_of_row W wr.heap.size 1 _ 31 (0, 0) hW, cell_of_row W wr.heap.size 2 _ 31 (0, 0) hW]
        exact ⟨rfl, rfl, rfl⟩
      have H3 : Hid (∀ (W : World), W.heap[wr.heap.size]? = some (.cells #[i64 a.env, i64 a.proc, i64 a.page] 31 (0, 0)) → W.cell? ⟨wr.heap.size, 0, none⟩ = some (i64 a.env) ∧ W.cell? ⟨wr.heap.size, 1, none⟩ = some (i64 a.proc) ∧ W.cell? ⟨wr.heap.size, 2, none⟩ = some (i64 a.page)) := three
      have HS0 : Hid ((wr.alloc (.cells #[i64 a.env, i64 a.proc, i64 a.page] 31)).drew.cell? ⟨p, 0, none⟩ = some (.map (some bm)) ∧ (wr.alloc (.cells #[i64 a.env, i64 a.proc, i64 a.page] 31)).drew.cell? ⟨wr.heap.size, 0, none⟩ = some (i64 a.env) ∧ (wr.alloc (.cells #[i64 a.env, i64 a.proc, i64 a.page] 31)).drew.cell? ⟨wr.heap.size, 1, none⟩ = some (i64 a.proc) ∧ (wr.alloc (.cells #[i64 a.env, i64 a.proc, i64 a.page] 31)).drew.cell? ⟨wr.heap.size, 2, none⟩ = some (i64 a.page)) := ⟨hp1, three _ HX7.out⟩
      clear three
      cases hfa : f (a, e)
      · have HFA : Hid (f (a, e) = false) := hfa
        rw [hfa] at hclk
        clear hfa
        go_wp2_with fail
        go_region_held (fun w' => w'.cell? ⟨p, 0, none⟩ = some (.map (some bm)) ∧ w'.cell? ⟨wr.heap.size, 0, none⟩ = some (i64 a.env) ∧ w'.cell? ⟨wr.heap.size, 1, none⟩ = some (i64 a.proc) ∧ w'.cell? ⟨wr.heap.size, 2, none⟩ = some (i64 a.page)) (first | exact HS0.out | exact HS4.out)
          ((go_at_call 26; refine hclk.mono ?_; rintro e' w4 ⟨rfl, hb4⟩; have HS4 : Hid (w4.cell? ⟨p, 0, none⟩ = some (.map (some bm)) ∧ w4.cell? ⟨wr.heap.size, 0, none⟩ = some (i64 a.env) ∧ w4.cell? ⟨wr.heap.size, 1, none⟩ = some (i64 a.proc) ∧ w4.cell? ⟨wr.heap.size, 2, none⟩ = some (i64 a.page)) := ⟨(hb4.cell (by rw [hsz1]; show p < _; omega)).trans hp1, H3.out w4 ((hb4.block _ (by rw [hsz1]; omega)).trans HX7.out)⟩; have HB4 : Hid (Below (wr.alloc (.cells #[i64 a.env, i64 a.proc, i64 a.page] 31)).drew.heap.size (wr.alloc (.cells #[i64 a.env, i64 a.proc, i64 a.page] 31)).drew w4) := hb4; clear hb4))
        have hlt4 := HB4.out.size
        rw [hsz1] at hlt4
        have HO4 : Hid (w4.ownsRow w.heap.size 31 3 v (keysOf (dropF f (L.take k))).length (kcells (keysOf (dropF f (L.take k))))) := own_kept ((HO.out.alloc _).drew) (fun b C hb => (HB4.out.block b (Array.getElem?_eq_some_iff.1 hb).1).trans hb)
        have HFR4 : Hid (Fr base [] true w w4) := HFR1.out.trans (Fr.of_below [] true HB4.out (by rw [hsz1]; have := HFR1.out.size; rw [hsz1] at this; omega))
        have HMI4 : Hid (MapIs w4 bm (midF f L k)) := HMI1.out.kept (HB4.out.block bm HMI1.out.lt)
        have hkl2 : (keysOf (dropF f (L.take k))).length ≤ 8 := by rw [keysOf_len]; have := dropF_le f (L.take k); rw [List.length_take] at this; omega
        obtain ⟨y0, y1, y2, y3⟩ := HS4.out
        clear hclk hlk hp1
        go_wp2_with (at_builtin; refine wpList_append_own _ rfl (.tmp 35) (.tmp 37) 37 rfl w.heap.size 31 i31 (.agg #[.int .i64 0, .int .i64 0, .int .i64 0]) 3 24 under37 HI.out hz hs HBY.out rfl (by omega) v _ _ rfl (HO4.out.alloc _) ⟨_, 0, none⟩ 1 1 [i64 a.env, i64 a.proc, i64 a.page] rfl rfl (new_three _ _ _ _ _) (by simp [Value.oneCell']) (by unfold maxLen; omega) (by omega) (by have := HFR4.out.size; simp; omega) ?_; intro v' w5 ho5 hg5 _; have HO5 : Hid (w5.ownsRow w.heap.size 31 3 v' (keysOf (dropF f (L.take (k + 1)))).length (kcells (keysOf (dropF f (L.take (k + 1)))))) := own_key hkl HE.out HFA.out ho5 rfl; have HFR5 : Hid (Fr base [] true w w5) := HFR4.out.grown hbw HO4.out hg5; have HMI5 : Hid (MapIs w5 bm (midF f L k)) := map_grown HMI4.out HO4.out hg5; clear ho5 hg5)
        exact ⟨⟨k + 1, _, rfl, by omega, by go_num, HO5.out, by rw [midF_stay f L k hkl (by rw [HE.out]; exact HFA.out)]; exact Or.inr ⟨bm, rfl, hbm, HMI5.out⟩, HFR5.out⟩, by simp [intOf]; omega⟩
      · have HFA : Hid (f (a, e) = true) := hfa
        rw [hfa] at hclk
        clear hfa
        go_wp2_with fail
        go_region_held (fun w' => w'.cell? ⟨p, 0, none⟩ = some (.map (some bm)) ∧ w'.cell? ⟨wr.heap.size, 0, none⟩ = some (i64 a.env) ∧ w'.cell? ⟨wr.heap.size, 1, none⟩ = some (i64 a.proc) ∧ w'.cell? ⟨wr.heap.size, 2, none⟩ = some (i64 a.page)) (first | exact HS0.out | exact HS4.out)
          ((go_at_call 26; refine hclk.mono ?_; rintro e' w4 ⟨rfl, hb4⟩; have HS4 : Hid (w4.cell? ⟨p, 0, none⟩ = some (.map (some bm)) ∧ w4.cell? ⟨wr.heap.size, 0, none⟩ = some (i64 a.env) ∧ w4.cell? ⟨wr.heap.size, 1, none⟩ = some (i64 a.proc) ∧ w4.cell? ⟨wr.heap.size, 2, none⟩ = some (i64 a.page)) := ⟨(hb4.cell (by rw [hsz1]; show p < _; omega)).trans hp1, H3.out w4 ((hb4.block _ (by rw [hsz1]; omega)).trans HX7.out)⟩; have HB4 : Hid (Below (wr.alloc (.cells #[i64 a.env, i64 a.proc, i64 a.page] 31)).drew.heap.size (wr.alloc (.cells #[i64 a.env, i64 a.proc, i64 a.page] 31)).drew w4) := hb4; clear hb4))
        have hlt4 := HB4.out.size
        rw [hsz1] at hlt4
        have HO4 : Hid (w4.ownsRow w.heap.size 31 3 v (keysOf (dropF f (L.take k))).length (kcells (keysOf (dropF f (L.take k))))) := own_kept ((HO.out.alloc _).drew) (fun b C hb => (HB4.out.block b (Array.getElem?_eq_some_iff.1 hb).1).trans hb)
        have HFR4 : Hid (Fr base [] true w w4) := HFR1.out.trans (Fr.of_below [] true HB4.out (by rw [hsz1]; have := HFR1.out.size; rw [hsz1] at this; omega))
        have hMI4 : MapIs w4.drew bm (midF f L k) := HMI1.out.kept (HB4.out.block bm HMI1.out.lt)
        obtain ⟨w5, hdel, hmi5, ht5⟩ := hMI4.del (L' := midF f L (k + 1)) a (fun q => by have := midF_del f L k hkl HND.out (by rw [HE.out]; exact HFA.out) q; rw [HE.out] at this; exact this)
        have HMI5 : Hid (MapIs w5 bm (midF f L (k + 1))) := hmi5
        obtain ⟨es4, cl4, hes4, _⟩ := hMI4
        have HO5 : Hid (w5.ownsRow w.heap.size 31 3 v (keysOf (dropF f (L.take (k + 1)))).length (kcells (keysOf (dropF f (L.take (k + 1)))))) := by
          rw [take_succ f L k hkl, HE.out, if_pos HFA.out]
          exact own_kept (HO4.out.drew) (fun b C hb => (ht5.block b (Array.getElem?_eq_some_iff.1 hb).1 (fun e => by subst e; rw [hes4] at hb; cases hb)).trans hb)
        have HFR5 : Hid (Fr base [] true w w5) := (HFR4.out.drewN 1).trans (Fr.of_touch ht5 hes4 (by simp [keeps]) hbm)
        obtain ⟨y0, y1, y2, y3⟩ := HS4.out
        have z0 : w4.drew.cell? ⟨p, 0, none⟩ = some (.map (some bm)) := by simpa using y0
        have z1 : w4.drew.cell? ⟨wr.heap.size, 0, none⟩ = some (i64 a.env) := by simpa using y1
        have z2 : w4.drew.cell? ⟨wr.heap.size, 1, none⟩ = some (i64 a.proc) := by simpa using y2
        have z3 : w4.drew.cell? ⟨wr.heap.size, 2, none⟩ = some (i64 a.page) := by simpa using y3
        clear hclk hlk hp1 hmi5 ht5 hes4
        go_wp2_with fail
        go_region
        all_goals (
          go_wp2_with fail
          exact ⟨⟨k + 1, _, rfl, by omega, by go_num, HO5.out, Or.inr ⟨bm, rfl, hbm, HMI5.out⟩, HFR5.out⟩, by simp [intOf]; omega⟩)
    · obtain rfl : k = n := by omega
      have hT : L.take k = L := by rw [← HN.out]; simp
      have hM : midF f L k = dropF f L := by rw [← HN.out]; exact midF_end f L
      rw [hT] at ho
      rw [hM] at hmv
      have hpW := hfr.kept p _ H1.out (by simp [keeps])
      obtain ⟨⟨_, d1, _, _⟩, dfz⟩ := four_cells hpW
      have d1f := dfz 1
      have hDA := drop_after H1.out HBP.out hfr hmv ho (nd_sub HND.out (dropF_sub f L)) hbw
      rw [keysOf_len] at ho
      have hle := dropF_le f L
      rw [HN.out] at hle
      have hJ : ∃ J, (dropF f L).length = J := ⟨_, rfl⟩
      obtain ⟨J, hJ⟩ := hJ
      rw [hJ] at ho hle
      have HJ : Hid ((dropF f L).length = J) := hJ
      obtain ⟨ao5, cap5, rfl, _⟩ := own_slice ho
      have HDA : Hid (Fr base [56] true w (wr.setCell ⟨p, 1, none⟩ (.slice ao5 J cap5)) ∧ BufN w.heap.size (wr.setCell ⟨p, 1, none⟩ (.slice ao5 J cap5)) base p (dropF f L) h m) := hDA
      clear ho hmv hfr hDA hJ dfz hpW hT hM
      go_wp2_with fail
      go_ret
      exact ⟨by rw [HJ.out]; rfl, HDA.out⟩

set_option maxRecDepth 100000 in
set_option maxHeartbeats 4000000 in
theorem dropAll_27 {w : World} {base p : Nat} {L : Ls} {h m : Nat} (b : Buf w base p L (keysOf L) h m) (hl : L.length ≤ 8) (hbw : base ≤ w.heap.size) (f : K3 × En → Bool) (B : Nat)
    (hcl : ∀ W, Fr base [] true w W → ∀ (a : K3) (e : En), Calls Try.prog 27 #[keyV a, entV e, .pointer (some ⟨B, 0, none⟩)] W fun e' w' => e' = .returned (.bool (f (a, e))) ∧ Below W.heap.size W w') :
    Calls Try.prog 24 #[.pointer (some ⟨p, 0, none⟩), .func (.func 27) #[] #[.pointer (some ⟨B, 0, none⟩)]] w fun e w' => e = .returned (i64 ((L.length : Int) - (dropF f L).length)) ∧ Fr base [56] true w w' ∧ BufN w.heap.size w' base p (dropF f L) h m := by
  obtain ⟨mv, kv, h1, hmv, ho⟩ := b.ex
  rw [keysOf_len] at ho
  obtain ⟨ao, cap, rfl, _⟩ := own_slice ho
  have HKS : Hid (KSl w ao (keysOf L)) := (own_keys ho).1
  have hplt := b.plt
  have HBP : Hid (base ≤ p) := b.bp
  have HND : Hid (ND L) := b.nd
  have hNe : ∃ n, L.length = n := ⟨_, rfl⟩
  obtain ⟨n, hNe⟩ := hNe
  rw [hNe] at hl h1 ⊢
  have HN : Hid (L.length = n) := hNe
  obtain ⟨⟨c0, c1, _, _⟩, _⟩ := four_cells h1
  obtain ⟨i31, hi, hz, hs, hby⟩ := info_parts info31x
  have HI : Hid (Try.prog.info? 31 = some i31) := hi
  have HBY : Hid (i31.bytes = 24) := hby
  have HCL : Hid (∀ W, Fr base [] true w W → ∀ (a : K3) (e : En), Calls Try.prog 27 #[keyV a, entV e, .pointer (some ⟨B, 0, none⟩)] W fun e' w' => e' = .returned (.bool (f (a, e))) ∧ Below W.heap.size W w') := hcl
  have H1 : Hid (w.heap[p]? = some (.cells #[mv, .slice ao n cap, i64 h, i64 m] 56 (0, 0))) := h1
  have HM : Hid (MapV w base mv L) := hmv
  clear hi hby hcl b h1 hmv ho hNe
  go_enter Try.func24, Try.ntmps24
  go_wp2_with (at_make; refine wpList_make_own _ rfl _ _ 37 rfl w.heap.size 31 i31 (.agg #[.int .i64 0, .int .i64 0, .int .i64 0]) 3 under37 HI.out hz hs .i64 .i64 _ 8 rfl rfl rfl (by rw [HBY.out]; omega) (by unfold maxLen; omega) (Nat.le_refl _) ?_; intro w0 hown0 hgrow0; have HO0 : Hid (w0.ownsRow w.heap.size 31 3 (.slice (some ⟨w.heap.size, 0, none⟩) 0 8) 0 []) := hown0; have HB0 : Hid (Below w.heap.size w w0) := (Below.refl _ _).grown hgrow0 (Nat.le_refl _) (fun r hr => by cases hr); have k1 := (HB0.out.cell (p := ⟨p, 1, none⟩) hplt).trans c1; clear hown0 hgrow0)
  go_loopw [5, 17] (fun u i wr => ∃ (k : Nat) (v : Value), v = u ∧ k ≤ n ∧ i = i64 k ∧ wr.ownsRow w.heap.size 31 3 v (keysOf (dropF f (L.take k))).length (kcells (keysOf (dropF f (L.take k)))) ∧ MapV wr base mv (midF f L k) ∧ Fr base [] true w wr) (fun _ i _ => n - (intOf i).toNat)
  case atStart => exact ⟨0, _, rfl, by omega, rfl, HO0.out, by rw [midF_zero]; exact HM.out.kept (fun b es c hb => (HB0.out.block b (Array.getElem?_eq_some_iff.1 hb).1).trans hb), Fr.of_below [] true HB0.out hbw⟩
  case round =>
    obtain ⟨k, v, rfl, hk, rfl, ho, hmv, hfr⟩ := hrel
    by_cases hlt : k < n
    · have hkl : k < L.length := by rw [HN.out]; exact hlt
      have hkk : k < (keysOf L).length := by rw [keysOf_len]; exact hkl
      obtain ⟨bk, rfl, _, x0, x1, x2⟩ := (HKS.out.kept (fun b C hb => hfr.kept b _ hb (by simp [keeps]))).at hkk
      have hE : ∃ a e, L[k] = (a, e) := ⟨_, _, rfl⟩
      obtain ⟨a, e, hE⟩ := hE
      have hka : (keysOf L)[k] = a := by simp [keysOf, hE]
      rw [hka] at x0 x1 x2
      have hmb : ∃ bm, mv = .map (some bm) ∧ base ≤ bm ∧ MapIs wr bm (midF f L k) := by
        rcases hmv with ⟨_, h0⟩ | h0
        · exfalso
          rw [midF_at f L k hkl] at h0
          have := congrArg List.length h0
          simp only [List.length_append, List.length_cons, List.length_nil] at this
          omega
        · exact h0
      obtain ⟨bm, rfl, hbm, hmi⟩ := hmb
      have HE : Hid (L[k] = (a, e)) := hE
      have hlook := look_mid f L k hkl HND.out
      rw [hE] at hlook
      have hpW := hfr.kept p _ H1.out (by simp [keeps])
      have hplt2 := (Array.getElem?_eq_some_iff.1 hpW).1
      have hba : Below wr.heap.size wr (wr.alloc (.cells #[i64 a.env, i64 a.proc, i64 a.page] 31)) := (Below.refl _ _).alloc (Nat.le_refl _) _
      have hmi1 : MapIs (wr.alloc (.cells #[i64 a.env, i64 a.proc, i64 a.page] 31)) bm (midF f L k) := hmi.kept (hba.block bm hmi.lt)
      have hlk : (Instr.lookup 54 (.map (some bm)) (keyV a) false).run Try.prog (wr.alloc (.cells #[i64 a.env, i64 a.proc, i64 a.page] 31)).drew = .ok (entV e) (wr.alloc (.cells #[i64 a.env, i64 a.proc, i64 a.page] 31)).drew := by
        have := (show MapIs (wr.alloc (.cells #[i64 a.env, i64 a.proc, i64 a.page] 31)).drew bm (midF f L k) from hmi1).lkup (nd_sub HND.out (midF_sub f L k)) a false
        rw [lookR, hlook] at this
        exact this
      have hp1 : (wr.alloc (.cells #[i64 a.env, i64 a.proc, i64 a.page] 31)).drew.cell? ⟨p, 0, none⟩ = some (.map (some bm)) := (hba.cell (p := ⟨p, 0, none⟩) hplt2).trans (four_cells hpW).1.1
      have hFr1 : Fr base [] true w (wr.alloc (.cells #[i64 a.env, i64 a.proc, i64 a.page] 31)).drew := (hfr.alloc (Nat.le_trans hbw hfr.size) _).drewN 1
      have hclk := HCL.out _ hFr1 a e
      have HO : Hid (wr.ownsRow w.heap.size 31 3 v (keysOf (dropF f (L.take k))).length (kcells (keysOf (dropF f (L.take k))))) := ho
      have HFR1 : Hid (Fr base [] true w (wr.alloc (.cells #[i64 a.env, i64 a.proc, i64 a.page] 31)).drew) := hFr1
      have HMI1 : Hid (MapIs (wr.alloc (.cells #[i64 a.env, i64 a.proc, i64 a.page] 31)) bm (midF f L k)) := hmi1
      have hx7 : (wr.alloc (.cells #[i64 a.env, i64 a.proc, i64 a.page] 31)).heap[wr.heap.size]? = some (.cells #[i64 a.env, i64 a.proc, i64 a.page] 31 (0, 0)) := heap_last wr _
      have HX7 : Hid ((wr.alloc (.cells #[i64 a.env, i64 a.proc, i64 a.page] 31)).heap[wr.heap.size]? = some (.cells #[i64 a.env, i64 a.proc, i64 a.page] 31 (0, 0))) := hx7
      have HPW : Hid (wr.heap[p]? = some (.cells #[.map (some bm), .slice (some ⟨bk, 0, none⟩) n cap, i64 h, i64 m] 56 (0, 0))) := hpW
      clear hx7 hmi1 hmi hFr1 ho hmv hfr hlook hE hka hba
      have hsz1 : (wr.alloc (.cells #[i64 a.env, i64 a.proc, i64 a.page] 31)).drew.heap.size = wr.heap.size + 1 := by simp
      have three : ∀ (W : World), W.heap[wr.heap.size]? = some (.cells #[i64 a.env, i64 a.proc, i64 a.page] 31 (0, 0)) → W.cell? ⟨wr.heap.size, 0, none⟩ = some (i64 a.env) ∧ W.cell? ⟨wr.heap.size, 1, none⟩ = some (i64 a.proc) ∧ W.cell? ⟨wr.heap.size, 2, none⟩ = some (i64 a.page) := fun W hW => by
        rw [cell_of_row W wr.heap.size 0 _ 31 (0, 0) hW, cell_of_row W wr.heap.size 1 _ 31 (0, 0) hW, cell_of_row W wr.heap.size 2 _ 31 (0, 0) hW]
        exact ⟨rfl, rfl, rfl⟩
      have H3 : Hid (∀ (W : World), W.heap[wr.heap.size]? = some (.cells #[i64 a.env, i64 a.proc, i64 a.page] 31 (0, 0)) → W.cell? ⟨wr.heap.size, 0, none⟩ = some (i64 a.env) ∧ W.cell? ⟨wr.heap.size, 1, none⟩ = some (i64 a.proc) ∧ W.cell? ⟨wr.heap.size, 2, none⟩ = some (i64 a.page)) := three
      have HS0 : Hid ((wr.alloc (.cells #[i64 a.env, i64 a.proc, i64 a.page] 31)).drew.cell? ⟨p, 0, none⟩ = some (.map (some bm)) ∧ (wr.alloc (.cells #[i64 a.env, i64 a.proc, i64 a.page] 31)).drew.cell? ⟨wr.heap.size, 0, none⟩ = some (i64 a.env) ∧ (wr.alloc (.cells #[i64 a.env, i64 a.proc, i64 a.page] 31)).drew.cell? ⟨wr.heap.size, 1, none⟩ = some (i64 a.proc) ∧ (wr.alloc (.cells #[i64 a.env, i64 a.proc, i64 a.page] 31)).drew.cell? ⟨wr.heap.size, 2, none⟩ = some (i64 a.page)) := ⟨hp1, three _ HX7.out⟩
      clear three
      cases hfa : f (a, e)
      · have HFA : Hid (f (a, e) = false) := hfa
        rw [hfa] at hclk
        clear hfa
        go_wp2_with fail
        go_region_held (fun w' => w'.cell? ⟨p, 0, none⟩ = some (.map (some bm)) ∧ w'.cell? ⟨wr.heap.size, 0, none⟩ = some (i64 a.env) ∧ w'.cell? ⟨wr.heap.size, 1, none⟩ = some (i64 a.proc) ∧ w'.cell? ⟨wr.heap.size, 2, none⟩ = some (i64 a.page)) (first | exact HS0.out | exact HS4.out)
          ((go_at_call 27; refine hclk.mono ?_; rintro e' w4 ⟨rfl, hb4⟩; have HS4 : Hid (w4.cell? ⟨p, 0, none⟩ = some (.map (some bm)) ∧ w4.cell? ⟨wr.heap.size, 0, none⟩ = some (i64 a.env) ∧ w4.cell? ⟨wr.heap.size, 1, none⟩ = some (i64 a.proc) ∧ w4.cell? ⟨wr.heap.size, 2, none⟩ = some (i64 a.page)) := ⟨(hb4.cell (by rw [hsz1]; show p < _; omega)).trans hp1, H3.out w4 ((hb4.block _ (by rw [hsz1]; omega)).trans HX7.out)⟩; have HB4 : Hid (Below (wr.alloc (.cells #[i64 a.env, i64 a.proc, i64 a.page] 31)).drew.heap.size (wr.alloc (.cells #[i64 a.env, i64 a.proc, i64 a.page] 31)).drew w4) := hb4; clear hb4))
        have hlt4 := HB4.out.size
        rw [hsz1] at hlt4
        have HO4 : Hid (w4.ownsRow w.heap.size 31 3 v (keysOf (dropF f (L.take k))).length (kcells (keysOf (dropF f (L.take k))))) := own_kept ((HO.out.alloc _).drew) (fun b C hb => (HB4.out.block b (Array.getElem?_eq_some_iff.1 hb).1).trans hb)
        have HFR4 : Hid (Fr base [] true w w4) := HFR1.out.trans (Fr.of_below [] true HB4.out (by rw [hsz1]; have := HFR1.out.size; rw [hsz1] at this; omega))
        have HMI4 : Hid (MapIs w4 bm (midF f L k)) := HMI1.out.kept (HB4.out.block bm HMI1.out.lt)
        have hkl2 : (keysOf (dropF f (L.take k))).length ≤ 8 := by rw [keysOf_len]; have := dropF_le f (L.take k); rw [List.length_take] at this; omega
        obtain ⟨y0, y1, y2, y3⟩ := HS4.out
        clear hclk hlk hp1
        go_wp2_with (at_builtin; refine wpList_append_own _ rfl (.tmp 35) (.tmp 37) 37 rfl w.heap.size 31 i31 (.agg #[.int .i64 0, .int .i64 0, .int .i64 0]) 3 24 under37 HI.out hz hs HBY.out rfl (by omega) v _ _ rfl (HO4.out.alloc _) ⟨_, 0, none⟩ 1 1 [i64 a.env, i64 a.proc, i64 a.page] rfl rfl (new_three _ _ _ _ _) (by simp [Value.oneCell']) (by unfold maxLen; omega) (by omega) (by have := HFR4.out.size; simp; omega) ?_; intro v' w5 ho5 hg5 _; have HO5 : Hid (w5.ownsRow w.heap.size 31 3 v' (keysOf (dropF f (L.take (k + 1)))).length (kcells (keysOf (dropF f (L.take (k + 1)))))) := own_key hkl HE.out HFA.out ho5 rfl; have HFR5 : Hid (Fr base [] true w w5) := HFR4.out.grown hbw HO4.out hg5; have HMI5 : Hid (MapIs w5 bm (midF f L k)) := map_grown HMI4.out HO4.out hg5; clear ho5 hg5)
        exact ⟨⟨k + 1, _, rfl, by omega, by go_num, HO5.out, by rw [midF_stay f L k hkl (by rw [HE.out]; exact HFA.out)]; exact Or.inr ⟨bm, rfl, hbm, HMI5.out⟩, HFR5.out⟩, by simp [intOf]; omega⟩
      · have HFA : Hid (f (a, e) = true) := hfa
        rw [hfa] at hclk
        clear hfa
        go_wp2_with fail
        go_region_held (fun w' => w'.cell? ⟨p, 0, none⟩ = some (.map (some bm)) ∧ w'.cell? ⟨wr.heap.size, 0, none⟩ = some (i64 a.env) ∧ w'.cell? ⟨wr.heap.size, 1, none⟩ = some (i64 a.proc) ∧ w'.cell? ⟨wr.heap.size, 2, none⟩ = some (i64 a.page)) (first | exact HS0.out | exact HS4.out)
          ((go_at_call 27; refine hclk.mono ?_; rintro e' w4 ⟨rfl, hb4⟩; have HS4 : Hid (w4.cell? ⟨p, 0, none⟩ = some (.map (some bm)) ∧ w4.cell? ⟨wr.heap.size, 0, none⟩ = some (i64 a.env) ∧ w4.cell? ⟨wr.heap.size, 1, none⟩ = some (i64 a.proc) ∧ w4.cell? ⟨wr.heap.size, 2, none⟩ = some (i64 a.page)) := ⟨(hb4.cell (by rw [hsz1]; show p < _; omega)).trans hp1, H3.out w4 ((hb4.block _ (by rw [hsz1]; omega)).trans HX7.out)⟩; have HB4 : Hid (Below (wr.alloc (.cells #[i64 a.env, i64 a.proc, i64 a.page] 31)).drew.heap.size (wr.alloc (.cells #[i64 a.env, i64 a.proc, i64 a.page] 31)).drew w4) := hb4; clear hb4))
        have hlt4 := HB4.out.size
        rw [hsz1] at hlt4
        have HO4 : Hid (w4.ownsRow w.heap.size 31 3 v (keysOf (dropF f (L.take k))).length (kcells (keysOf (dropF f (L.take k))))) := own_kept ((HO.out.alloc _).drew) (fun b C hb => (HB4.out.block b (Array.getElem?_eq_some_iff.1 hb).1).trans hb)
        have HFR4 : Hid (Fr base [] true w w4) := HFR1.out.trans (Fr.of_below [] true HB4.out (by rw [hsz1]; have := HFR1.out.size; rw [hsz1] at this; omega))
        have hMI4 : MapIs w4.drew bm (midF f L k) := HMI1.out.kept (HB4.out.block bm HMI1.out.lt)
        obtain ⟨w5, hdel, hmi5, ht5⟩ := hMI4.del (L' := midF f L (k + 1)) a (fun q => by have := midF_del f L k hkl HND.out (by rw [HE.out]; exact HFA.out) q; rw [HE.out] at this; exact this)
        have HMI5 : Hid (MapIs w5 bm (midF f L (k + 1))) := hmi5
        obtain ⟨es4, cl4, hes4, _⟩ := hMI4
        have HO5 : Hid (w5.ownsRow w.heap.size 31 3 v (keysOf (dropF f (L.take (k + 1)))).length (kcells (keysOf (dropF f (L.take (k + 1)))))) := by
          rw [take_succ f L k hkl, HE.out, if_pos HFA.out]
          exact own_kept (HO4.out.drew) (fun b C hb => (ht5.block b (Array.getElem?_eq_some_iff.1 hb).1 (fun e => by subst e; rw [hes4] at hb; cases hb)).trans hb)
        have HFR5 : Hid (Fr base [] true w w5) := (HFR4.out.drewN 1).trans (Fr.of_touch ht5 hes4 (by simp [keeps]) hbm)
        obtain ⟨y0, y1, y2, y3⟩ := HS4.out
        have z0 : w4.drew.cell? ⟨p, 0, none⟩ = some (.map (some bm)) := by simpa using y0
        have z1 : w4.drew.cell? ⟨wr.heap.size, 0, none⟩ = some (i64 a.env) := by simpa using y1
        have z2 : w4.drew.cell? ⟨wr.heap.size, 1, none⟩ = some (i64 a.proc) := by simpa using y2
        have z3 : w4.drew.cell? ⟨wr.heap.size, 2, none⟩ = some (i64 a.page) := by simpa using y3
        clear hclk hlk hp1 hmi5 ht5 hes4
        go_wp2_with fail
        go_region
        all_goals (
          go_wp2_with fail
          exact ⟨⟨k + 1, _, rfl, by omega, by go_num, HO5.out, Or.inr ⟨bm, rfl, hbm, HMI5.out⟩, HFR5.out⟩, by simp [intOf]; omega⟩)
    · obtain rfl : k = n := by omega
      have hT : L.take k = L := by rw [← HN.out]; simp
      have hM : midF f L k = dropF f L := by rw [← HN.out]; exact midF_end f L
      rw [hT] at ho
      rw [hM] at hmv
      have hpW := hfr.kept p _ H1.out (by simp [keeps])
      obtain ⟨⟨_, d1, _, _⟩, dfz⟩ := four_cells hpW
      have d1f := dfz 1
      have hDA := drop_after H1.out HBP.out hfr hmv ho (nd_sub HND.out (dropF_sub f L)) hbw
      rw [keysOf_len] at ho
      have hle := dropF_le f L
      rw [HN.out] at hle
      have hJ : ∃ J, (dropF f L).length = J := ⟨_, rfl⟩
      obtain ⟨J, hJ⟩ := hJ
      rw [hJ] at ho hle
      have HJ : Hid ((dropF f L).length = J) := hJ
      obtain ⟨ao5, cap5, rfl, _⟩ := own_slice ho
      have HDA : Hid (Fr base [56] true w (wr.setCell ⟨p, 1, none⟩ (.slice ao5 J cap5)) ∧ BufN w.heap.size (wr.setCell ⟨p, 1, none⟩ (.slice ao5 J cap5)) base p (dropF f L) h m) := hDA
      clear ho hmv hfr hDA hJ dfz hpW hT hM
      go_wp2_with fail
      go_ret
      exact ⟨by rw [HJ.out]; rfl, HDA.out⟩

set_option maxRecDepth 100000 in
set_option maxHeartbeats 4000000 in
theorem dropAll_28 {w : World} {base p : Nat} {L : Ls} {h m : Nat} (b : Buf w base p L (keysOf L) h m) (hl : L.length ≤ 8) (hbw : base ≤ w.heap.size) (f : K3 × En → Bool) (B : Nat)
    (hcl : ∀ W, Fr base [] true w W → ∀ (a : K3) (e : En), Calls Try.prog 28 #[keyV a, entV e, .pointer (some ⟨B, 0, none⟩)] W fun e' w' => e' = .returned (.bool (f (a, e))) ∧ Below W.heap.size W w') :
    Calls Try.prog 24 #[.pointer (some ⟨p, 0, none⟩), .func (.func 28) #[] #[.pointer (some ⟨B, 0, none⟩)]] w fun e w' => e = .returned (i64 ((L.length : Int) - (dropF f L).length)) ∧ Fr base [56] true w w' ∧ BufN w.heap.size w' base p (dropF f L) h m := by
  obtain ⟨mv, kv, h1, hmv, ho⟩ := b.ex
  rw [keysOf_len] at ho
  obtain ⟨ao, cap, rfl, _⟩ := own_slice ho
  have HKS : Hid (KSl w ao (keysOf L)) := (own_keys ho).1
  have hplt := b.plt
  have HBP : Hid (base ≤ p) := b.bp
  have HND : Hid (ND L) := b.nd
  have hNe : ∃ n, L.length = n := ⟨_, rfl⟩
  obtain ⟨n, hNe⟩ := hNe
  rw [hNe] at hl h1 ⊢
  have HN : Hid (L.length = n) := hNe
  obtain ⟨⟨c0, c1, _, _⟩, _⟩ := four_cells h1
  obtain ⟨i31, hi, hz, hs, hby⟩ := info_parts info31x
  have HI : Hid (Try.prog.info? 31 = some i31) := hi
  have HBY : Hid (i31.bytes = 24) := hby
  have HCL : Hid (∀ W, Fr base [] true w W → ∀ (a : K3) (e : En), Calls Try.prog 28 #[keyV a, entV e, .pointer (some ⟨B, 0, none⟩)] W fun e' w' => e' = .returned (.bool (f (a, e))) ∧ Below W.heap.size W w') := hcl
  have H1 : Hid (w.heap[p]? = some (.cells #[mv, .slice ao n cap, i64 h, i64 m] 56 (0, 0))) := h1
  have HM : Hid (MapV w base mv L) := hmv
  clear hi hby hcl b h1 hmv ho hNe
  go_enter Try.func24, Try.ntmps24
  go_wp2_with (at_make; refine wpList_make_own _ rfl _ _ 37 rfl w.heap.size 31 i31 (.agg #[.int .i64 0, .int .i64 0, .int .i64 0]) 3 under37 HI.out hz hs .i64 .i64 _ 8 rfl rfl rfl (by rw [HBY.out]; omega) (by unfold maxLen; omega) (Nat.le_refl _) ?_; intro w0 hown0 hgrow0; have HO0 : Hid (w0.ownsRow w.heap.size 31 3 (.slice (some ⟨w.heap.size, 0, none⟩) 0 8) 0 []) := hown0; have HB0 : Hid (Below w.heap.size w w0) := (Below.refl _ _).grown hgrow0 (Nat.le_refl _) (fun r hr => by cases hr); have k1 := (HB0.out.cell (p := ⟨p, 1, none⟩) hplt).trans c1; clear hown0 hgrow0)
  go_loopw [5, 17] (fun u i wr => ∃ (k : Nat) (v : Value), v = u ∧ k ≤ n ∧ i = i64 k ∧ wr.ownsRow w.heap.size 31 3 v (keysOf (dropF f (L.take k))).length (kcells (keysOf (dropF f (L.take k)))) ∧ MapV wr base mv (midF f L k) ∧ Fr base [] true w wr) (fun _ i _ => n - (intOf i).toNat)
  case atStart => exact ⟨0, _, rfl, by omega, rfl, HO0.out, by rw [midF_zero]; exact HM.out.kept (fun b es c hb => (HB0.out.block b (Array.getElem?_eq_some_iff.1 hb).1).trans hb), Fr.of_below [] true HB0.out hbw⟩
  case round =>
    obtain ⟨k, v, rfl, hk, rfl, ho, hmv, hfr⟩ := hrel
    by_cases hlt : k < n
    · have hkl : k < L.length := by rw [HN.out]; exact hlt
      have hkk : k < (keysOf L).length := by rw [keysOf_len]; exact hkl
      obtain ⟨bk, rfl, _, x0, x1, x2⟩ := (HKS.out.kept (fun b C hb => hfr.kept b _ hb (by simp [keeps]))).at hkk
      have hE : ∃ a e, L[k] = (a, e) := ⟨_, _, rfl⟩
      obtain ⟨a, e, hE⟩ := hE
      have hka : (keysOf L)[k] = a := by simp [keysOf, hE]
      rw [hka] at x0 x1 x2
      have hmb : ∃ bm, mv = .map (some bm) ∧ base ≤ bm ∧ MapIs wr bm (midF f L k) := by
        rcases hmv with ⟨_, h0⟩ | h0
        · exfalso
          rw [midF_at f L k hkl] at h0
          have := congrArg List.length h0
          simp only [List.length_append, List.length_cons, List.length_nil] at this
          omega
        · exact h0
      obtain ⟨bm, rfl, hbm, hmi⟩ := hmb
      have HE : Hid (L[k] = (a, e)) := hE
      have hlook := look_mid f L k hkl HND.out
      rw [hE] at hlook
      have hpW := hfr.kept p _ H1.out (by simp [keeps])
      have hplt2 := (Array.getElem?_eq_some_iff.1 hpW).1
      have hba : Below wr.heap.size wr (wr.alloc (.cells #[i64 a.env, i64 a.proc, i64 a.page] 31)) := (Below.refl _ _).alloc (Nat.le_refl _) _
      have hmi1 : MapIs (wr.alloc (.cells #[i64 a.env, i64 a.proc, i64 a.page] 31)) bm (midF f L k) := hmi.kept (hba.block bm hmi.lt)
      have hlk : (Instr.lookup 54 (.map (some bm)) (keyV a) false).run Try.prog (wr.alloc (.cells #[i64 a.env, i64 a.proc, i64 a.page] 31)).drew = .ok (entV e) (wr.alloc (.cells #[i64 a.env, i64 a.proc, i64 a.page] 31)).drew := by
        have := (show MapIs (wr.alloc (.cells #[i64 a.env, i64 a.proc, i64 a.page] 31)).drew bm (midF f L k) from hmi1).lkup (nd_sub HND.out (midF_sub f L k)) a false
        rw [lookR, hlook] at this
        exact this
      have hp1 : (wr.alloc (.cells #[i64 a.env, i64 a.proc, i64 a.page] 31)).drew.cell? ⟨p, 0, none⟩ = some (.map (some bm)) := (hba.cell (p := ⟨p, 0, none⟩) hplt2).trans (four_cells hpW).1.1
      have hFr1 : Fr base [] true w (wr.alloc (.cells #[i64 a.env, i64 a.proc, i64 a.page] 31)).drew := (hfr.alloc (Nat.le_trans hbw hfr.size) _).drewN 1
      have hclk := HCL.out _ hFr1 a e
      have HO : Hid (wr.ownsRow w.heap.size 31 3 v (keysOf (dropF f (L.take k))).length (kcells (keysOf (dropF f (L.take k))))) := ho
      have HFR1 : Hid (Fr base [] true w (wr.alloc (.cells #[i64 a.env, i64 a.proc, i64 a.page] 31)).drew) := hFr1
      have HMI1 : Hid (MapIs (wr.alloc (.cells #[i64 a.env, i64 a.proc, i64 a.page] 31)) bm (midF f L k)) := hmi1
      have hx7 : (wr.alloc (.cells #[i64 a.env, i64 a.proc, i64 a.page] 31)).heap[wr.heap.size]? = some (.cells #[i64 a.env, i64 a.proc, i64 a.page] 31 (0, 0)) := heap_last wr _
      have HX7 : Hid ((wr.alloc (.cells #[i64 a.env, i64 a.proc, i64 a.page] 31)).heap[wr.heap.size]? = some (.cells #[i64 a.env, i64 a.proc, i64 a.page] 31 (0, 0))) := hx7
      have HPW : Hid (wr.heap[p]? = some (.cells #[.map (some bm), .slice (some ⟨bk, 0, none⟩) n cap, i64 h, i64 m] 56 (0, 0))) := hpW
      clear hx7 hmi1 hmi hFr1 ho hmv hfr hlook hE hka hba
      have hsz1 : (wr.alloc (.cells #[i64 a.env, i64 a.proc, i64 a.page] 31)).drew.heap.size = wr.heap.size + 1 := by simp
      have three : ∀ (W : World), W.heap[wr.heap.size]? = some (.cells #[i64 a.env, i64 a.proc, i64 a.page] 31 (0, 0)) → W.cell? ⟨wr.heap.size, 0, none⟩ = some (i64 a.env) ∧ W.cell? ⟨wr.heap.size, 1, none⟩ = some (i64 a.proc) ∧ W.cell? ⟨wr.heap.size, 2, none⟩ = some (i64 a.page) := fun W hW => by
        rw [cell_of_row W wr.heap.size 0 _ 31 (0, 0) hW, cell_of_row W wr.heap.size 1 _ 31 (0, 0) hW, cell_of_row W wr.heap.size 2 _ 31 (0, 0) hW]
        exact ⟨rfl, rfl, rfl⟩
      have H3 : Hid (∀ (W : World), W.heap[wr.heap.size]? = some (.cells #[i64 a.env, i64 a.proc, i64 a.page] 31 (0, 0)) → W.cell? ⟨wr.heap.size, 0, none⟩ = some (i64 a.env) ∧ W.cell? ⟨wr.heap.size, 1, none⟩ = some (i64 a.proc) ∧ W.cell? ⟨wr.heap.size, 2, none⟩ = some (i64 a.page)) := three
      have HS0 : Hid ((wr.alloc (.cells #[i64 a.env, i64 a.proc, i64 a.page] 31)).drew.cell? ⟨p, 0, none⟩ = some (.map (some bm)) ∧ (wr.alloc (.cells #[i64 a.env, i64 a.proc, i64 a.page] 31)).drew.cell? ⟨wr.heap.size, 0, none⟩ = some (i64 a.env) ∧ (wr.alloc (.cells #[i64 a.env, i64 a.proc, i64 a.page] 31)).drew.cell? ⟨wr.heap.size, 1, none⟩ = some (i64 a.proc) ∧ (wr.alloc (.cells #[i64 a.env, i64 a.proc, i64 a.page] 31)).drew.cell? ⟨wr.heap.size, 2, none⟩ = some (i64 a.page)) := ⟨hp1, three _ HX7.out⟩
      clear three
      cases hfa : f (a, e)
      · have HFA : Hid (f (a, e) = false) := hfa
        rw [hfa] at hclk
        clear hfa
        go_wp2_with fail
        go_region_held (fun w' => w'.cell? ⟨p, 0, none⟩ = some (.map (some bm)) ∧ w'.cell? ⟨wr.heap.size, 0, none⟩ = some (i64 a.env) ∧ w'.cell? ⟨wr.heap.size, 1, none⟩ = some (i64 a.proc) ∧ w'.cell? ⟨wr.heap.size, 2, none⟩ = some (i64 a.page)) (first | exact HS0.out | exact HS4.out)
          ((go_at_call 28; refine hclk.mono ?_; rintro e' w4 ⟨rfl, hb4⟩; have HS4 : Hid (w4.cell? ⟨p, 0, none⟩ = some (.map (some bm)) ∧ w4.cell? ⟨wr.heap.size, 0, none⟩ = some (i64 a.env) ∧ w4.cell? ⟨wr.heap.size, 1, none⟩ = some (i64 a.proc) ∧ w4.cell? ⟨wr.heap.size, 2, none⟩ = some (i64 a.page)) := ⟨(hb4.cell (by rw [hsz1]; show p < _; omega)).trans hp1, H3.out w4 ((hb4.block _ (by rw [hsz1]; omega)).trans HX7.out)⟩; have HB4 : Hid (Below (wr.alloc (.cells #[i64 a.env, i64 a.proc, i64 a.page] 31)).drew.heap.size (wr.alloc (.cells #[i64 a.env, i64 a.proc, i64 a.page] 31)).drew w4) := hb4; clear hb4))
        have hlt4 := HB4.out.size
        rw [hsz1] at hlt4
        have HO4 : Hid (w4.ownsRow w.heap.size 31 3 v (keysOf (dropF f (L.take k))).length (kcells (keysOf (dropF f (L.take k))))) := own_kept ((HO.out.alloc _).drew) (fun b C hb => (HB4.out.block b (Array.getElem?_eq_some_iff.1 hb).1).trans hb)
        have HFR4 : Hid (Fr base [] true w w4) := HFR1.out.trans (Fr.of_below [] true HB4.out (by rw [hsz1]; have := HFR1.out.size; rw [hsz1] at this; omega))
        have HMI4 : Hid (MapIs w4 bm (midF f L k)) := HMI1.out.kept (HB4.out.block bm HMI1.out.lt)
        have hkl2 : (keysOf (dropF f (L.take k))).length ≤ 8 := by rw [keysOf_len]; have := dropF_le f (L.take k); rw [List.length_take] at this; omega
        obtain ⟨y0, y1, y2, y3⟩ := HS4.out
        clear hclk hlk hp1
        go_wp2_with (at_builtin; refine wpList_append_own _ rfl (.tmp 35) (.tmp 37) 37 rfl w.heap.size 31 i31 (.agg #[.int .i64 0, .int .i64 0, .int .i64 0]) 3 24 under37 HI.out hz hs HBY.out rfl (by omega) v _ _ rfl (HO4.out.alloc _) ⟨_, 0, none⟩ 1 1 [i64 a.env, i64 a.proc, i64 a.page] rfl rfl (new_three _ _ _ _ _) (by simp [Value.oneCell']) (by unfold maxLen; omega) (by omega) (by have := HFR4.out.size; simp; omega) ?_; intro v' w5 ho5 hg5 _; have HO5 : Hid (w5.ownsRow w.heap.size 31 3 v' (keysOf (dropF f (L.take (k + 1)))).length (kcells (keysOf (dropF f (L.take (k + 1)))))) := own_key hkl HE.out HFA.out ho5 rfl; have HFR5 : Hid (Fr base [] true w w5) := HFR4.out.grown hbw HO4.out hg5; have HMI5 : Hid (MapIs w5 bm (midF f L k)) := map_grown HMI4.out HO4.out hg5; clear ho5 hg5)
        exact ⟨⟨k + 1, _, rfl, by omega, by go_num, HO5.out, by rw [midF_stay f L k hkl (by rw [HE.out]; exact HFA.out)]; exact Or.inr ⟨bm, rfl, hbm, HMI5.out⟩, HFR5.out⟩, by simp [intOf]; omega⟩
      · have HFA : Hid (f (a, e) = true) := hfa
        rw [hfa] at hclk
        clear hfa
        go_wp2_with fail
        go_region_held (fun w' => w'.cell? ⟨p, 0, none⟩ = some (.map (some bm)) ∧ w'.cell? ⟨wr.heap.size, 0, none⟩ = some (i64 a.env) ∧ w'.cell? ⟨wr.heap.size, 1, none⟩ = some (i64 a.proc) ∧ w'.cell? ⟨wr.heap.size, 2, none⟩ = some (i64 a.page)) (first | exact HS0.out | exact HS4.out)
          ((go_at_call 28; refine hclk.mono ?_; rintro e' w4 ⟨rfl, hb4⟩; have HS4 : Hid (w4.cell? ⟨p, 0, none⟩ = some (.map (some bm)) ∧ w4.cell? ⟨wr.heap.size, 0, none⟩ = some (i64 a.env) ∧ w4.cell? ⟨wr.heap.size, 1, none⟩ = some (i64 a.proc) ∧ w4.cell? ⟨wr.heap.size, 2, none⟩ = some (i64 a.page)) := ⟨(hb4.cell (by rw [hsz1]; show p < _; omega)).trans hp1, H3.out w4 ((hb4.block _ (by rw [hsz1]; omega)).trans HX7.out)⟩; have HB4 : Hid (Below (wr.alloc (.cells #[i64 a.env, i64 a.proc, i64 a.page] 31)).drew.heap.size (wr.alloc (.cells #[i64 a.env, i64 a.proc, i64 a.page] 31)).drew w4) := hb4; clear hb4))
        have hlt4 := HB4.out.size
        rw [hsz1] at hlt4
        have HO4 : Hid (w4.ownsRow w.heap.size 31 3 v (keysOf (dropF f (L.take k))).length (kcells (keysOf (dropF f (L.take k))))) := own_kept ((HO.out.alloc _).drew) (fun b C hb => (HB4.out.block b (Array.getElem?_eq_some_iff.1 hb).1).trans hb)
        have HFR4 : Hid (Fr base [] true w w4) := HFR1.out.trans (Fr.of_below [] true HB4.out (by rw [hsz1]; have := HFR1.out.size; rw [hsz1] at this; omega))
        have hMI4 : MapIs w4.drew bm (midF f L k) := HMI1.out.kept (HB4.out.block bm HMI1.out.lt)
        obtain ⟨w5, hdel, hmi5, ht5⟩ := hMI4.del (L' := midF f L (k + 1)) a (fun q => by have := midF_del f L k hkl HND.out (by rw [HE.out]; exact HFA.out) q; rw [HE.out] at this; exact this)
        have HMI5 : Hid (MapIs w5 bm (midF f L (k + 1))) := hmi5
        obtain ⟨es4, cl4, hes4, _⟩ := hMI4
        have HO5 : Hid (w5.ownsRow w.heap.size 31 3 v (keysOf (dropF f (L.take (k + 1)))).length (kcells (keysOf (dropF f (L.take (k + 1)))))) := by
          rw [take_succ f L k hkl, HE.out, if_pos HFA.out]
          exact own_kept (HO4.out.drew) (fun b C hb => (ht5.block b (Array.getElem?_eq_some_iff.1 hb).1 (fun e => by subst e; rw [hes4] at hb; cases hb)).trans hb)
        have HFR5 : Hid (Fr base [] true w w5) := (HFR4.out.drewN 1).trans (Fr.of_touch ht5 hes4 (by simp [keeps]) hbm)
        obtain ⟨y0, y1, y2, y3⟩ := HS4.out
        have z0 : w4.drew.cell? ⟨p, 0, none⟩ = some (.map (some bm)) := by simpa using y0
        have z1 : w4.drew.cell? ⟨wr.heap.size, 0, none⟩ = some (i64 a.env) := by simpa using y1
        have z2 : w4.drew.cell? ⟨wr.heap.size, 1, none⟩ = some (i64 a.proc) := by simpa using y2
        have z3 : w4.drew.cell? ⟨wr.heap.size, 2, none⟩ = some (i64 a.page) := by simpa using y3
        clear hclk hlk hp1 hmi5 ht5 hes4
        go_wp2_with fail
        go_region
        all_goals (
          go_wp2_with fail
          exact ⟨⟨k + 1, _, rfl, by omega, by go_num, HO5.out, Or.inr ⟨bm, rfl, hbm, HMI5.out⟩, HFR5.out⟩, by simp [intOf]; omega⟩)
    · obtain rfl : k = n := by omega
      have hT : L.take k = L := by rw [← HN.out]; simp
      have hM : midF f L k = dropF f L := by rw [← HN.out]; exact midF_end f L
      rw [hT] at ho
      rw [hM] at hmv
      have hpW := hfr.kept p _ H1.out (by simp [keeps])
      obtain ⟨⟨_, d1, _, _⟩, dfz⟩ := four_cells hpW
      have d1f := dfz 1
      have hDA := drop_after H1.out HBP.out hfr hmv ho (nd_sub HND.out (dropF_sub f L)) hbw
      rw [keysOf_len] at ho
      have hle := dropF_le f L
      rw [HN.out] at hle
      have hJ : ∃ J, (dropF f L).length = J := ⟨_, rfl⟩
      obtain ⟨J, hJ⟩ := hJ
      rw [hJ] at ho hle
      have HJ : Hid ((dropF f L).length = J) := hJ
      obtain ⟨ao5, cap5, rfl, _⟩ := own_slice ho
      have HDA : Hid (Fr base [56] true w (wr.setCell ⟨p, 1, none⟩ (.slice ao5 J cap5)) ∧ BufN w.heap.size (wr.setCell ⟨p, 1, none⟩ (.slice ao5 J cap5)) base p (dropF f L) h m) := hDA
      clear ho hmv hfr hDA hJ dfz hpW hT hM
      go_wp2_with fail
      go_ret
      exact ⟨by rw [HJ.out]; rfl, HDA.out⟩

theorem one_cell_of {w : World} {B : Nat} {u : Value} {t : TypeId} (h : w.heap[B]? = some (.cells #[u] t (0, 0))) : w.cell? ⟨B, 0, none⟩ = some u := by
  rw [cell_of_row w B 0 _ t (0, 0) h]; rfl
theorem Buf.alloc {w : World} {base p : Nat} {L : Ls} {ks : List K3} {h m : Nat} (b : Buf w base p L ks h m) (o : Obj) : Buf (w.alloc o) base p L ks h m := b.below ((Below.refl _ _).alloc (Nat.le_refl _) o)
theorem fr_alloc {base : Nat} {ts : List TypeId} {mp : Bool} {w w' : World} {o : Obj} (h : Fr base ts mp (w.alloc o) w') (hb : base ≤ w.heap.size) : Fr base ts mp w w' := (Fr.of_below ts mp ((Below.refl _ _).alloc (Nat.le_refl _) o) hb).trans h

def isKey (k : K3) (q : K3 × En) : Bool := decide (q.1 = k)
def isProc (x y : Int) (q : K3 × En) : Bool := q.1.env == x && q.1.proc == y
def isEnv (x : Int) (q : K3 × En) : Bool := q.1.env == x
def isFrame (x : Int) (q : K3 × En) : Bool := q.2.frame == x

set_option maxHeartbeats 800000 in
theorem drop_ok {w : World} {base p : Nat} {L : Ls} {h m : Nat} (b : Buf w base p L (keysOf L) h m) (hl : L.length ≤ 8) (hbw : base ≤ w.heap.size) (k : K3) :
    Calls Try.prog 16 #[.pointer (some ⟨p, 0, none⟩), keyV k] w fun e w' => e = .returned (.bool (decide (0 < (L.length : Int) - (dropF (isKey k) L).length))) ∧ Fr base [56] true w w' ∧ BufN w.heap.size w' base p (dropF (isKey k) L) h m := by
  have hblk : (w.alloc (.cells #[i64 k.env, i64 k.proc, i64 k.page] 31)).heap[w.heap.size]? = some (.cells #[i64 k.env, i64 k.proc, i64 k.page] 31 (0, 0)) := heap_last w _
  have hda := dropAll_25 (b.alloc (.cells #[i64 k.env, i64 k.proc, i64 k.page] 31)) hl (by simp; omega) (isKey k) w.heap.size (fun W hW a e => by
    have hB := hW.kept _ _ hblk (by simp [keeps])
    refine (cl_drop W a k e w.heap.size ?_ ?_ ?_).mono (fun e' w' h => h)
    · rw [cell_of_row W _ 0 _ 31 (0, 0) hB]; rfl
    · rw [cell_of_row W _ 1 _ 31 (0, 0) hB]; rfl
    · rw [cell_of_row W _ 2 _ 31 (0, 0) hB]; rfl)
  have HDA : Hid (Calls Try.prog 24 #[.pointer (some ⟨p, 0, none⟩), .func (.func 25) #[] #[.pointer (some ⟨w.heap.size, 0, none⟩)]] (w.alloc (.cells #[i64 k.env, i64 k.proc, i64 k.page] 31)) fun e w' => e = .returned (i64 ((L.length : Int) - (dropF (isKey k) L).length)) ∧ Fr base [56] true (w.alloc (.cells #[i64 k.env, i64 k.proc, i64 k.page] 31)) w' ∧ BufN (w.alloc (.cells #[i64 k.env, i64 k.proc, i64 k.page] 31)).heap.size w' base p (dropF (isKey k) L) h m) := hda
  clear hblk hda b
  generalize (L.length : Int) - (dropF (isKey k) L).length = D at *
  go_enter Try.func16, Try.ntmps16
  go_wp2_with fail
  refine HDA.out.mono ?_
  rintro e w1 ⟨rfl, hf, hb⟩
  have HF : Hid (Fr base [56] true w w1) := fr_alloc hf hbw
  have HB : Hid (BufN w.heap.size w1 base p (dropF (isKey k) L) h m) := hb.mono (by simp; try omega)
  clear hf hb HDA
  go_wp2_with fail
  go_ret
  exact ⟨rfl, HF.out, HB.out⟩

set_option maxHeartbeats 800000 in
theorem dropProc_ok {w : World} {base p : Nat} {L : Ls} {h m : Nat} (b : Buf w base p L (keysOf L) h m) (hl : L.length ≤ 8) (hbw : base ≤ w.heap.size) (x y : Int) :
    Calls Try.prog 17 #[.pointer (some ⟨p, 0, none⟩), i64 x, i64 y] w fun e w' => e = .returned (i64 ((L.length : Int) - (dropF (isProc x y) L).length)) ∧ Fr base [56] true w w' ∧ BufN w.heap.size w' base p (dropF (isProc x y) L) h m := by
  have h1 : ((w.alloc (.cells #[i64 x] 3)).alloc (.cells #[i64 y] 3)).heap[w.heap.size]? = some (.cells #[i64 x] 3 (0, 0)) := by
    rw [Below.heap_alloc _ _ _ (by simp)]; exact heap_last w _
  have h2 : ((w.alloc (.cells #[i64 x] 3)).alloc (.cells #[i64 y] 3)).heap[w.heap.size + 1]? = some (.cells #[i64 y] 3 (0, 0)) := by
    have e : (w.alloc (.cells #[i64 x] 3)).heap.size = w.heap.size + 1 := by simp
    rw [← e]; exact heap_last _ _
  have hda := dropAll_26 ((b.alloc (.cells #[i64 x] 3)).alloc (.cells #[i64 y] 3)) hl (by simp; omega) (isProc x y) w.heap.size (w.heap.size + 1) (fun W hW a e => by
    have hB := hW.kept _ _ h1 (by simp [keeps])
    have hC := hW.kept _ _ h2 (by simp [keeps])
    exact (cl_proc W a e x y _ _ (one_cell_of hB) (one_cell_of hC)).mono (fun e' w' h => h))
  have HDA : Hid (Calls Try.prog 24 #[.pointer (some ⟨p, 0, none⟩), .func (.func 26) #[] #[.pointer (some ⟨w.heap.size, 0, none⟩), .pointer (some ⟨w.heap.size + 1, 0, none⟩)]] ((w.alloc (.cells #[i64 x] 3)).alloc (.cells #[i64 y] 3)) fun e w' => e = .returned (i64 ((L.length : Int) - (dropF (isProc x y) L).length)) ∧ Fr base [56] true ((w.alloc (.cells #[i64 x] 3)).alloc (.cells #[i64 y] 3)) w' ∧ BufN ((w.alloc (.cells #[i64 x] 3)).alloc (.cells #[i64 y] 3)).heap.size w' base p (dropF (isProc x y) L) h m) := hda
  clear h1 h2 hda b
  generalize (L.length : Int) - (dropF (isProc x y) L).length = D at *
  go_enter Try.func17, Try.ntmps17
  go_wp2_with fail
  refine HDA.out.mono ?_
  rintro e w1 ⟨rfl, hf, hb⟩
  have HF : Hid (Fr base [56] true w w1) := fr_alloc (fr_alloc hf (by simp; omega)) hbw
  have HB : Hid (BufN w.heap.size w1 base p (dropF (isProc x y) L) h m) := hb.mono (by simp; try omega)
  clear hf hb HDA
  go_wp2_with fail
  go_ret
  exact ⟨rfl, HF.out, HB.out⟩

set_option maxHeartbeats 800000 in
theorem dropEnv_ok {w : World} {base p : Nat} {L : Ls} {h m : Nat} (b : Buf w base p L (keysOf L) h m) (hl : L.length ≤ 8) (hbw : base ≤ w.heap.size) (x : Int) :
    Calls Try.prog 18 #[.pointer (some ⟨p, 0, none⟩), i64 x] w fun e w' => e = .returned (i64 ((L.length : Int) - (dropF (isEnv x) L).length)) ∧ Fr base [56] true w w' ∧ BufN w.heap.size w' base p (dropF (isEnv x) L) h m := by
  have h1 : (w.alloc (.cells #[i64 x] 3)).heap[w.heap.size]? = some (.cells #[i64 x] 3 (0, 0)) := heap_last w _
  have hda := dropAll_27 (b.alloc (.cells #[i64 x] 3)) hl (by simp; omega) (isEnv x) w.heap.size (fun W hW a e => by
    have hB := hW.kept _ _ h1 (by simp [keeps])
    exact (cl_env W a e x _ (one_cell_of hB)).mono (fun e' w' h => h))
  have HDA : Hid (Calls Try.prog 24 #[.pointer (some ⟨p, 0, none⟩), .func (.func 27) #[] #[.pointer (some ⟨w.heap.size, 0, none⟩)]] (w.alloc (.cells #[i64 x] 3)) fun e w' => e = .returned (i64 ((L.length : Int) - (dropF (isEnv x) L).length)) ∧ Fr base [56] true (w.alloc (.cells #[i64 x] 3)) w' ∧ BufN (w.alloc (.cells #[i64 x] 3)).heap.size w' base p (dropF (isEnv x) L) h m) := hda
  clear h1 hda b
  generalize (L.length : Int) - (dropF (isEnv x) L).length = D at *
  go_enter Try.func18, Try.ntmps18
  go_wp2_with fail
  refine HDA.out.mono ?_
  rintro e w1 ⟨rfl, hf, hb⟩
  have HF : Hid (Fr base [56] true w w1) := fr_alloc hf hbw
  have HB : Hid (BufN w.heap.size w1 base p (dropF (isEnv x) L) h m) := hb.mono (by simp; try omega)
  clear hf hb HDA
  go_wp2_with fail
  go_ret
  exact ⟨rfl, HF.out, HB.out⟩

set_option maxHeartbeats 800000 in
theorem dropFrame_ok {w : World} {base p : Nat} {L : Ls} {h m : Nat} (b : Buf w base p L (keysOf L) h m) (hl : L.length ≤ 8) (hbw : base ≤ w.heap.size) (x : Int) :
    Calls Try.prog 19 #[.pointer (some ⟨p, 0, none⟩), i64 x] w fun e w' => e = .returned (i64 ((L.length : Int) - (dropF (isFrame x) L).length)) ∧ Fr base [56] true w w' ∧ BufN w.heap.size w' base p (dropF (isFrame x) L) h m := by
  have h1 : (w.alloc (.cells #[i64 x] 3)).heap[w.heap.size]? = some (.cells #[i64 x] 3 (0, 0)) := heap_last w _
  have hda := dropAll_28 (b.alloc (.cells #[i64 x] 3)) hl (by simp; omega) (isFrame x) w.heap.size (fun W hW a e => by
    have hB := hW.kept _ _ h1 (by simp [keeps])
    exact (cl_frame W a e x _ (one_cell_of hB)).mono (fun e' w' h => h))
  have HDA : Hid (Calls Try.prog 24 #[.pointer (some ⟨p, 0, none⟩), .func (.func 28) #[] #[.pointer (some ⟨w.heap.size, 0, none⟩)]] (w.alloc (.cells #[i64 x] 3)) fun e w' => e = .returned (i64 ((L.length : Int) - (dropF (isFrame x) L).length)) ∧ Fr base [56] true (w.alloc (.cells #[i64 x] 3)) w' ∧ BufN (w.alloc (.cells #[i64 x] 3)).heap.size w' base p (dropF (isFrame x) L) h m) := hda
  clear h1 hda b
  generalize (L.length : Int) - (dropF (isFrame x) L).length = D at *
  go_enter Try.func19, Try.ntmps19
  go_wp2_with fail
  refine HDA.out.mono ?_
  rintro e w1 ⟨rfl, hf, hb⟩
  have HF : Hid (Fr base [56] true w w1) := fr_alloc hf hbw
  have HB : Hid (BufN w.heap.size w1 base p (dropF (isFrame x) L) h m) := hb.mono (by simp; try omega)
  clear hf hb HDA
  go_wp2_with fail
  go_ret
  exact ⟨rfl, HF.out, HB.out⟩
end Go.Proofs.Ytblhoaggonjhkaa
