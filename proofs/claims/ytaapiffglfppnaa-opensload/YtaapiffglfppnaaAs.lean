/- apart of slots; no statement is proved in this text. -/
import Derived.Test.YtaapiffglfppnaaAp
import Derived.Test.YtaapiffglfppnaaDb
namespace Go.Proofs.Ytaapiffglfppnaa
open Go.ChangeShapes Go.WideShapes Go.ChangeAt Go.RowKit Go.Deep
attribute [local go_sem ↓] Go.wp_at_zero Go.wp_at_succ

abbrev skfn : Value := .func (.func 67) #[] #[]
abbrev plv (x : Sl3) : Value := .agg #[i64 x.1, i64 x.2.1]
theorem zero103 (w : World) : (zeroValue 103).run Try.prog w = .ok (.agg #[i64 0, i64 0]) w := by kernel_rfl
theorem load103 {W : World} {b : Nat} {p s : Int} (h : W.heap[b]? = some (.cells #[i64 p, i64 s] 103 (0, 0))) : (loadVar 103 ⟨b, 0, none⟩).run Try.prog W = .ok (.agg #[i64 p, i64 s]) W := by
  have c0 : W.cell? ⟨b, 0, none⟩ = some (i64 p) := blk_cell h 0
  have c1 : W.cell? ⟨b, 1, none⟩ = some (i64 s) := blk_cell h 1
  simp [go_sem, c0, c1]
set_option maxRecDepth 100000 in
set_option maxHeartbeats 800000 in
theorem skey_ok (w : World) (x : Sl3) : Calls Try.prog 67 #[lv x] w fun e w' => e = .returned (plv x) ∧ Below w.heap.size w w' := by
  have HB := hid ((below_one w (lO x 48)).alloc (by simp) (.cells #[i64 x.1, i64 x.2.1] 103))
  have hsz : (w.alloc (lO x 48)).heap.size = w.heap.size + 1 := by simp
  have HL : Hid (((w.alloc (lO x 48)).alloc (.cells #[i64 x.1, i64 x.2.1] 103)).heap[w.heap.size + 1]? = some (.cells #[i64 x.1, i64 x.2.1] 103)) := by
    have := heap_last (w.alloc (lO x 48)) (.cells #[i64 x.1, i64 x.2.1] 103)
    rw [hsz] at this
    exact this
  clear hsz
  have hz := zero103
  go_enter Try.func67, Try.ntmps67
  go_wp2_with fail
  exact bodyPost_ret (results_cell1 Try.results67 rfl (load103 HL.out)) rfl ⟨rfl, HB.out⟩
structure SqKs (b c d : Nat) (y x : Sl3) (W : World) : Prop where
  y : W.heap[b]? = some (lO y 48)
  k : W.heap[c]? = some (.cells #[skfn] 104)
  x : W.heap[d]? = some (lO x 48)
theorem SqKs.below {b c d : Nat} {y x : Sl3} {W W' : World} (h : SqKs b c d y x W) (hb : Below W.heap.size W W') : SqKs b c d y x W' := ⟨blk_below h.y hb, blk_below h.k hb, blk_below h.x hb⟩
set_option maxRecDepth 100000 in
set_option maxHeartbeats 3200000 in
theorem slike_ok (w : World) (c d : Nat) (y x : Sl3) (hc : w.heap[c]? = some (.cells #[skfn] 104)) (hd : w.heap[d]? = some (lO x 48)) : Calls Try.prog 74 #[lv y, pq c, pq d] w fun e w' => e = .returned (.bool (y.1 == x.1 && y.2.1 == x.2.1)) ∧ Below w.heap.size w w' := by
  have HS00 : Hid (SqKs w.heap.size c d y x (w.alloc (lO y 48))) := ⟨heap_last w _, blk_alloc hc _, blk_alloc hd _⟩
  have HB00 := hid (below_one w (lO y 48))
  have HK1 := hid (skey_ok (w.alloc (lO y 48)).drew y)
  have HK2 := hid fun W => skey_ok W x
  clear hc hd
  go_enter Try.func74, Try.ntmps74
  go_upto_region 1 with fail
  have HS0 : Hid (SqKs w.heap.size c d y x (w.alloc (lO y 48)).drew) := ⟨HS00.out.y, HS00.out.k, HS00.out.x⟩
  have HB0 : Hid (Below w.heap.size w (w.alloc (lO y 48)).drew) := HB00.out.drew
  refine wp_region_noPanic ?_
  refine wp_region_last (SqKs w.heap.size c d y x) 7 (by kernel_rfl) ?_
  refine wpL_take 0 5 (skfn) [] rfl rfl (by kernel_rfl) (by decide) (by kernel_rfl) (by kernel_rfl) (by kernel_rfl) (fun _ _ _ h => h) HS0.out (by rfl) (fun W hW => by obtain ⟨y0, y1, y2⟩ := three_cells hW.y; obtain ⟨x0, x1, x2⟩ := three_cells hW.x; have k0 := blk_cell hW.k 0; simp only [List.getElem?_toArray, List.getElem?_cons_zero] at k0; go_simp) ?_
  simp only [Act.put, List.setIfInBounds_toArray, List.set_cons_zero, List.set_cons_succ]
  refine wpL_take 1 6 (lv y) [] rfl rfl (by kernel_rfl) (by decide) (by kernel_rfl) (by kernel_rfl) (by kernel_rfl) (fun _ _ _ h => h) HS0.out (by rfl) (fun W hW => by obtain ⟨y0, y1, y2⟩ := three_cells hW.y; obtain ⟨x0, x1, x2⟩ := three_cells hW.x; have k0 := blk_cell hW.k 0; simp only [List.getElem?_toArray, List.getElem?_cons_zero] at k0; go_simp) ?_
  simp only [Act.put, List.setIfInBounds_toArray, List.set_cons_zero, List.set_cons_succ]
  refine wpL_take 3 8 (skfn) [] rfl rfl (by kernel_rfl) (by decide) (by kernel_rfl) (by kernel_rfl) (by kernel_rfl) (fun _ _ _ h => h) HS0.out (by rfl) (fun W hW => by obtain ⟨y0, y1, y2⟩ := three_cells hW.y; obtain ⟨x0, x1, x2⟩ := three_cells hW.x; have k0 := blk_cell hW.k 0; simp only [List.getElem?_toArray, List.getElem?_cons_zero] at k0; go_simp) ?_
  simp only [Act.put, List.setIfInBounds_toArray, List.set_cons_zero, List.set_cons_succ]
  refine wpL_take 4 9 (lv x) [] rfl rfl (by kernel_rfl) (by decide) (by kernel_rfl) (by kernel_rfl) (by kernel_rfl) (fun _ _ _ h => h) HS0.out (by rfl) (fun W hW => by obtain ⟨y0, y1, y2⟩ := three_cells hW.y; obtain ⟨x0, x1, x2⟩ := three_cells hW.x; have k0 := blk_cell hW.k 0; simp only [List.getElem?_toArray, List.getElem?_cons_zero] at k0; go_simp) ?_
  simp only [Act.put, List.setIfInBounds_toArray, List.set_cons_zero, List.set_cons_succ]
  refine wpL_one 2 rfl (by kernel_rfl) (by rfl) (fun K hK => ?_)
  go_simp
  refine HK1.out.mono ?_
  rintro e q1 ⟨rfl, hb⟩
  have HS1 : Hid (SqKs w.heap.size c d y x q1) := HS0.out.below hb
  have HB1 : Hid (Below w.heap.size w q1) := HB0.out.trans (hb.mono HB0.out.size)
  have HK3 := hid (HK2.out q1)
  clear hb HK1 HK2
  go_simp
  refine hK.out _ _ (fun _ => HS1.out) ?_
  clear hK K
  refine wpL_one 5 rfl (by kernel_rfl) (by rfl) (fun K hK => ?_)
  go_simp
  refine HK3.out.mono ?_
  rintro e q2 ⟨rfl, hb⟩
  have HS2 : Hid (SqKs w.heap.size c d y x q2) := HS1.out.below hb
  have HB2 : Hid (Below w.heap.size w q2) := HB1.out.trans (hb.mono HB1.out.size)
  clear hb HK3
  go_simp
  refine hK.out _ _ (fun _ => HS2.out) ?_
  clear hK K
  refine wpL_take 6 11 (.bool (y.1 == x.1 && y.2.1 == x.2.1)) [] rfl rfl (by kernel_rfl) (by decide) (by kernel_rfl) (by kernel_rfl) (by kernel_rfl) (fun _ _ _ h => h) HS2.out (by rfl) (fun W hW => by obtain ⟨y0, y1, y2⟩ := three_cells hW.y; obtain ⟨x0, x1, x2⟩ := three_cells hW.x; have k0 := blk_cell hW.k 0; simp only [List.getElem?_toArray, List.getElem?_cons_zero] at k0; go_simp; by_cases h1 : y.1 = x.1 <;> by_cases h2 : y.2.1 = x.2.1 <;> simp [h1, h2]) ?_
  simp only [Act.put, List.setIfInBounds_toArray, List.set_cons_zero, List.set_cons_succ]
  refine wpL_one 7 rfl (by kernel_rfl) (by rfl) (fun K hK => ?_)
  go_simp
  refine hK.out _ _ (fun h => absurd rfl h) ?_
  clear hK K
  refine wpL_done (by kernel_rfl) ?_
  refine NoPanic.normal ?_
  go_wp2_with fail
  go_ret
  exact ⟨rfl, HB2.out⟩
abbrev slfn (c d : Nat) : Value := .func (.func 74) #[] #[pq c, pq d]
set_option maxRecDepth 100000 in
set_option maxHeartbeats 1600000 in
theorem sidx_ok (w : World) (ao : Option Addr) (cap : Nat) (X : List Sl3) (c d : Nat) (f : Sl3 → Bool) (hX : X.length ≤ 1000) (hR : Rd3 w ao X) (hf : ∀ (W : World) (y : Sl3), y ∈ X → Below w.heap.size w W → Calls Try.prog 74 #[lv y, pq c, pq d] W fun e w' => e = .returned (.bool (f y)) ∧ Below W.heap.size W w') : Calls Try.prog 65 #[.slice ao X.length cap, slfn c d] w fun e w' => (∃ i : Int, e = .returned (i64 i) ∧ decide (0 ≤ i) = X.any f) ∧ Below w.heap.size w w' := by
  have HR := hid hR
  have HF := hid hf
  obtain ⟨N, hN⟩ : ∃ N, N = X.length := ⟨_, rfl⟩
  have HN := hid hN
  rw [← hN] at hX ⊢
  obtain ⟨Q, hQ⟩ : ∃ Q : Ending → Prop, Q = fun e => ∃ i : Int, e = .returned (i64 i) ∧ decide (0 ≤ i) = X.any f := ⟨_, rfl⟩
  have HQ : Hid (∀ i : Int, decide (0 ≤ i) = X.any f → Q (.returned (i64 i))) := fun i hi => by rw [hQ]; exact ⟨i, rfl, hi⟩
  suffices h : Calls Try.prog 65 #[.slice ao N cap, slfn c d] w fun e w' => Q e ∧ Below w.heap.size w w' by rw [hQ] at h; exact h
  clear hR hf hN hQ
  go_enter Try.func65, Try.ntmps65
  go_wp2_with fail
  go_loopw [8] (fun i wr => ∃ k : Nat, k ≤ N ∧ i = i64 k ∧ Hid ((X.take k).any f = false) ∧ Hid (Below w.heap.size w wr)) (fun i _ => N - (intOf i).toNat)
  case atStart => exact ⟨0, by omega, rfl, rfl, Below.refl _ _⟩
  case round =>
    obtain ⟨k, hk, rfl, HA, HB⟩ := hrel
    by_cases hlt : k < N
    · have hkI : (k : Int) < N := by omega
      obtain ⟨y, hy⟩ : ∃ y, X[k]? = some y := ⟨_, List.getElem?_eq_getElem (by rw [← HN.out]; exact hlt)⟩
      obtain ⟨g, o, rfl, hgl, c0, c1, c2⟩ := HR.out.below HB.out k y hy
      have HC := hid (HF.out wr y (List.mem_of_getElem? hy) HB.out)
      have hk0 : (0 : Int) ≤ k := by omega
      cases hfy : f y
      · rw [hfy] at HC
        have HA2 : Hid ((X.take (k + 1)).any f = false) := by
          rw [Hid, takeL hy, List.any_append, HA.out]
          simp [hfy]
        clear hy hfy
        go_wp2_with fail
        refine HC.out.mono ?_
        rintro e w2 ⟨rfl, hb2⟩
        have HB2 : Hid (Below w.heap.size w w2) := HB.out.trans (hb2.mono HB.out.size)
        clear hb2 HC
        go_wp2_with fail
        exact ⟨⟨k + 1, by omega, by go_num, HA2, HB2⟩, by simp [intOf]; omega⟩
      · rw [hfy] at HC
        have HA2 : Hid (decide ((0 : Int) ≤ k) = X.any f) := by
          rw [Hid, decide_eq_true hk0, eq_comm, List.any_eq_true]
          exact ⟨y, List.mem_of_getElem? hy, hfy⟩
        clear hy hfy
        go_wp2_with fail
        refine HC.out.mono ?_
        rintro e w2 ⟨rfl, hb2⟩
        have HB2 : Hid (Below w.heap.size w w2) := HB.out.trans (hb2.mono HB.out.size)
        clear hb2 HC
        go_wp2_with fail
        go_ret
        exact ⟨HQ.out _ HA2.out, HB2.out⟩
    · have HA2 : Hid (decide ((0 : Int) ≤ -1) = X.any f) := by
        have := HA.out
        rw [List.take_of_length_le (by rw [← HN.out]; omega)] at this
        rw [Hid, this]; rfl
      go_wp2_with fail
      go_ret
      exact ⟨HQ.out _ HA2.out, HB.out⟩
set_option maxRecDepth 100000 in
set_option maxHeartbeats 1600000 in
theorem scont_ok (w : World) (ao : Option Addr) (cap : Nat) (X : List Sl3) (c d : Nat) (f : Sl3 → Bool) (hX : X.length ≤ 1000) (hR : Rd3 w ao X) (hf : ∀ (W : World) (y : Sl3), y ∈ X → Below w.heap.size w W → Calls Try.prog 74 #[lv y, pq c, pq d] W fun e w' => e = .returned (.bool (f y)) ∧ Below W.heap.size W w') : Calls Try.prog 50 #[.slice ao X.length cap, slfn c d] w fun e w' => e = .returned (.bool (X.any f)) ∧ Below w.heap.size w w' := by
  have HI := hid (sidx_ok w ao cap X c d f hX hR hf)
  generalize X.any f = B at HI ⊢
  generalize X.length = N at HI ⊢
  clear hR hf hX
  go_enter Try.func50, Try.ntmps50
  go_wp2_with fail
  refine HI.out.mono ?_
  rintro e w2 ⟨⟨i, rfl, hi⟩, hb2⟩
  have HB2 := hid hb2
  have HI2 := hid hi
  clear hb2 HI
  clear hi
  go_wp2_with fail
  go_ret
  exact ⟨congrArg (fun b => Ending.returned (Value.bool b)) HI2.out, HB2.out⟩
def apSs (acc : List Sl3) (x : Sl3) : List Sl3 := if acc.any (fun y => y.1 == x.1 && y.2.1 == x.2.1) then acc else acc ++ [x]
def apLs (X : List Sl3) : List Sl3 := X.foldl apSs []
theorem apSs_len (acc : List Sl3) (x : Sl3) : (apSs acc x).length ≤ acc.length + 1 := by
  unfold apSs
  split <;> simp
theorem aps_len (X : List Sl3) : ∀ k, ((X.take k).foldl apSs []).length ≤ k
  | 0 => by simp
  | k + 1 => by
    cases h : X[k]? with
    | none =>
      have := aps_len X k
      have h1 : X.length ≤ k := List.getElem?_eq_none_iff.1 h
      rw [List.take_of_length_le (by omega)] at this ⊢
      omega
    | some e =>
      rw [takeL h, List.foldl_append]
      have := aps_len X k
      have := apSs_len ((X.take k).foldl apSs []) e
      simp only [List.foldl_cons, List.foldl_nil]
      omega
set_option maxRecDepth 100000 in
set_option maxHeartbeats 3200000 in
theorem sapart_ok (w : World) (ao : Option Addr) (cap : Nat) (X : List Sl3) (hX : X.length ≤ 100) (hR : Rd3 w ao X) : Calls Try.prog 66 #[.slice ao X.length cap, skfn] w fun e w' => GotL w w' e (apLs X) ∧ Below w.heap.size w w' := by
  have HR := hid (hR.below (below_one w (.cells #[skfn] 104)))
  have HK := hid (heap_last w (.cells #[skfn] 104))
  have HB0 := hid (below_one w (.cells #[skfn] 104))
  have HLE := hid (aps_len X)
  obtain ⟨w0, hw0⟩ : ∃ w0, w0 = w.alloc (.cells #[skfn] 104) := ⟨_, rfl⟩
  obtain ⟨c, hc⟩ : ∃ c, c = w.heap.size := ⟨_, rfl⟩
  rw [← hw0, ← hc] at HK
  rw [← hw0] at HR HB0
  have HCw := hid hc
  obtain ⟨N, hN⟩ : ∃ N, N = X.length := ⟨_, rfl⟩
  have HN := hid hN
  rw [← hN] at hX ⊢
  clear hR hN
  go_enter Try.func66, Try.ntmps66
  go_wp2_with fail
  rw [← hw0, ← hc]
  clear hw0 hc
  go_loopw [5, 11] (fun v i wr => ∃ (k n : Nat) (ao2 : Option Addr) (cap2 : Nat), k ≤ N ∧ n ≤ k ∧ i = i64 k ∧ v = .slice ao2 n cap2 ∧ Hid (n = ((X.take k).foldl apSs []).length ∧ wr.ownsRow w0.heap.size 48 3 (.slice ao2 n cap2) n (lcn ((X.take k).foldl apSs []))) ∧ Hid (Below w0.heap.size w0 wr)) (fun _ i _ => N - (intOf i).toNat)
  case atStart => exact ⟨0, 0, none, 0, by omega, by omega, rfl, rfl, ⟨rfl, World.ownsRow_nil _ _ _ _⟩, Below.refl _ _⟩
  case round =>
    obtain ⟨k, n, ao2, cap2, hk, hn, rfl, rfl, HO, HB⟩ := hrel
    by_cases hlt : k < N
    · have hkI : (k : Int) < N := by omega
      obtain ⟨x, hx⟩ : ∃ x, X[k]? = some x := ⟨_, List.getElem?_eq_getElem (by rw [← HN.out]; exact hlt)⟩
      obtain ⟨g, o, rfl, hgl, c0, c1, c2⟩ := HR.out.below HB.out k x hx
      have HU : Hid ((X.take (k + 1)).foldl apSs [] = apSs ((X.take k).foldl apSs []) x) := by rw [Hid, takeL hx, List.foldl_append]; rfl
      have HBV : Hid (Below w0.heap.size w0 (wr.alloc (lO x 48))) := HB.out.alloc HB.out.size _
      have HD := hid (heap_last wr (lO x 48))
      have HKV := hid (blk_below HK.out HBV.out)
      have HOV := hid (HO.out.2.alloc (lO x 48))
      obtain ⟨acc, hacc⟩ : ∃ acc, acc = (X.take k).foldl apSs [] := ⟨_, rfl⟩
      rw [← hacc] at HU HO HOV
      have HRa : Hid (Rd3 (wr.alloc (lO x 48)) ao2 acc) := Rd3.own (by rw [← HO.out.1]; exact HOV.out)
      have HC := hid (scont_ok (wr.alloc (lO x 48)) ao2 cap2 acc c wr.heap.size (fun y => y.1 == x.1 && y.2.1 == x.2.1) (by rw [← HO.out.1]; omega) HRa.out (fun W y _ hW => slike_ok W c wr.heap.size y x (blk_below HKV.out hW) (blk_below HD.out hW)))
      rw [← HO.out.1] at HC
      clear hx hacc
      cases ha : acc.any (fun y => y.1 == x.1 && y.2.1 == x.2.1)
      · rw [ha] at HC
        have HU2 : Hid ((X.take (k + 1)).foldl apSs [] = acc ++ [x]) := by rw [Hid, HU.out, apSs, ha]; rfl
        clear ha
        go_wp2_with fail
        refine HC.out.mono ?_
        rintro e w2 ⟨rfl, hb2⟩
        have HB2 : Hid (Below w0.heap.size w0 w2) := HBV.out.trans (hb2.mono HBV.out.size)
        have HD2 := hid (blk_below HD.out hb2)
        obtain ⟨d0, d1, d2⟩ := three_cells HD2.out
        have hdl := blk_lt HD2.out
        have ho2 := own_keep1 HOV.out (fun q hq => hb2.block q (HOV.out.lt q hq).2)
        obtain ⟨ao3, cap3, w3, hrun, hown3, hfr3, _, _⟩ := app_far (te := 48) uL iL rfl (by omega) (by omega) (V := w2) ho2 (lC x) rfl (lC_one _) (by omega) HB2.out.size
        have HRun : Hid ((Builtin.append_ #[45, 45] 45 #[.slice ao2 n cap2, .slice (some ⟨w2.heap.size, 0, none⟩) 1 1]).run Try.prog (w2.alloc (lO x 48)) = .ok (.slice ao3 (n + 1) cap3) w3) := hrun
        have HB3 : Hid (Below w0.heap.size w0 w3) := HB2.out.trans hfr3.below
        have HE : Hid (n + 1 = ((X.take (k + 1)).foldl apSs []).length ∧ w3.ownsRow w0.heap.size 48 3 (.slice ao3 (n + 1) cap3) (n + 1) (lcn ((X.take (k + 1)).foldl apSs []))) := by
          rw [HU2.out, lcn_app, lcn_one, List.length_append, ← HO.out.1]
          exact ⟨rfl, hown3⟩
        clear hb2 HC ho2 hrun hown3 hfr3
        go_wp2_with (at_builtin; refine wpList_app_run rfl (.tmp 20) (.tmp 22) 45 rfl _ _ rfl rfl 45 rfl _ _ HRun.out ?_)
        exact ⟨⟨k + 1, n + 1, ao3, cap3, by omega, by omega, by go_num, rfl, HE, HB3⟩, by simp [intOf]; omega⟩
      · rw [ha] at HC
        have HU2 : Hid ((X.take (k + 1)).foldl apSs [] = acc) := by rw [Hid, HU.out, apSs, ha]; rfl
        clear ha
        go_wp2_with fail
        refine HC.out.mono ?_
        rintro e w2 ⟨rfl, hb2⟩
        have HB2 : Hid (Below w0.heap.size w0 w2) := HBV.out.trans (hb2.mono HBV.out.size)
        have HE : Hid (n = ((X.take (k + 1)).foldl apSs []).length ∧ w2.ownsRow w0.heap.size 48 3 (.slice ao2 n cap2) n (lcn ((X.take (k + 1)).foldl apSs []))) := by
          rw [HU2.out]
          exact ⟨HO.out.1, own_keep1 HOV.out (fun q hq => hb2.block q (HOV.out.lt q hq).2)⟩
        clear hb2 HC
        go_wp2_with fail
        exact ⟨⟨k + 1, n, ao2, cap2, by omega, by omega, by go_num, rfl, HE, HB2⟩, by simp [intOf]; omega⟩
    · have hE : X.take k = X := List.take_of_length_le (by rw [← HN.out]; omega)
      rw [hE] at HO
      have HG : Hid (GotL w wr (.returned (.slice ao2 n cap2)) (apLs X)) := by
        refine ⟨ao2, cap2, by rw [HO.out.1]; rfl, ?_⟩
        have := HO.out.2
        rw [HO.out.1] at this
        exact own_low this HB0.out.size
      have HBz : Hid (Below w.heap.size w wr) := HB0.out.trans (HB.out.mono HB0.out.size)
      clear hE
      go_wp2_with fail
      go_ret
      exact ⟨HG.out, HBz.out⟩
end Go.Proofs.Ytaapiffglfppnaa
