/- those: the areas that are looked for; no statement is proved in this text. -/
import Derived.Test.YtlkcpjefgelcoaaCl
namespace Go.Proofs.Ytlkcpjefgelcoaa
open Go.ChangeShapes Go.WideShapes Go.ChangeAt Go.RowKit Go.Deep
attribute [local go_sem ↓] Go.wp_at_zero Go.wp_at_succ

theorem flt_yes {f : Ar → Bool} {L : List Ar} {k : Nat} {e : Ar} (h : L[k]? = some e) (hf : f e = true) : (L.take (k + 1)).filter f = (L.take k).filter f ++ [e] := by
  rw [take_last h, List.filter_append]
  simp [hf]
theorem flt_no {f : Ar → Bool} {L : List Ar} {k : Nat} {e : Ar} (h : L[k]? = some e) (hf : f e = false) : (L.take (k + 1)).filter f = (L.take k).filter f := by
  rw [take_last h, List.filter_append]
  simp [hf]
/-- What those answers. -/
def Got (w w' : World) (e : Ending) (M : List Ar) : Prop := ∃ ao cap, e = .returned (.slice ao M.length cap) ∧ w'.ownsRow w.heap.size 79 3 (.slice ao M.length cap) M.length (acn M)
set_option maxRecDepth 100000 in
set_option maxHeartbeats 3200000 in
theorem those27 (w : World) (base : Nat) (pv : Value) (L : List Ar) (h : Lv w base pv L) (hl : L.length ≤ 1000) (f : Ar → Bool) (hf : ∀ (W : World) (a : Ar), a ∈ L → Below w.heap.size w W → Calls Try.prog 49 #[av a] W fun e w' => e = .returned (.bool (f a)) ∧ Below W.heap.size W w') : Calls Try.prog 46 #[pv, .func (.func 49) #[] #[]] w fun e w' => Got w w' e (L.filter f) ∧ Below w.heap.size w w' := by
  rcases h with ⟨rfl, rfl⟩ | ⟨P, rfl, v, hlo, hbk, hown⟩
  · have HG : Hid (Got w w (.returned (.slice none 0 0)) []) := ⟨none, 0, rfl, World.ownsRow_nil _ _ _ _⟩
    clear hf hl
    go_enter Try.func46, Try.ntmps46
    go_wp2_with fail
    go_ret
    exact ⟨HG.out, Below.refl _ _⟩
  obtain ⟨ao, cap, rfl, _⟩ := own_slice hown
  have hcap := own_cap hown
  have HRd0 : Hid (Rd3 w ao L) := Rd3.own hown
  have b0 : w.cell? ⟨P, 0, none⟩ = some (.slice ao L.length cap) := blk_cell hbk 0
  have HF := hid hf
  obtain ⟨N, hN⟩ : ∃ N, N = L.length := ⟨_, rfl⟩
  have HN : Hid (N = L.length) := hN
  rw [← hN] at b0 hl hcap
  clear hbk hown hN hf
  go_enter Try.func46, Try.ntmps46
  go_wp2_with fail
  go_loopw [5, 15] (fun v i wr => ∃ (k n : Nat) (ao2 : Option Addr) (cap2 : Nat), k ≤ N ∧ n ≤ k ∧ i = i64 k ∧ v = .slice ao2 n cap2 ∧ Hid (n = ((L.take k).filter f).length ∧ wr.ownsRow w.heap.size 79 3 (.slice ao2 n cap2) n (acn ((L.take k).filter f))) ∧ Hid (Below w.heap.size w wr)) (fun _ i _ => N - (intOf i).toNat)
  case atStart => exact ⟨0, 0, none, 0, by omega, by omega, rfl, rfl, ⟨rfl, World.ownsRow_nil _ _ _ _⟩, Below.refl _ _⟩
  case round =>
    obtain ⟨k, n, ao2, cap2, hk, hn, rfl, rfl, HO, HB⟩ := hrel
    by_cases hlt : k < N
    · have hkI : (k : Int) < N := by omega
      obtain ⟨e, he⟩ : ∃ e, L[k]? = some e := ⟨_, List.getElem?_eq_getElem (by rw [← HN.out]; exact hlt)⟩
      obtain ⟨g, o, rfl, hgl, c0, c1, c2⟩ := HRd0.out.below HB.out k e he
      have HBV : Hid (Below w.heap.size w (wr.alloc (arO e 79))) := HB.out.alloc HB.out.size _
      have HC := hid (HF.out (wr.alloc (arO e 79)) e (List.mem_of_getElem? he) HBV.out)
      have HX := hid (heap_last wr (arO e 79))
      cases hfe : f e
      · rw [hfe] at HC
        have hE : ∀ W, Below (wr.alloc (arO e 79)).heap.size (wr.alloc (arO e 79)) W → n = ((L.take (k + 1)).filter f).length ∧ W.ownsRow w.heap.size 79 3 (.slice ao2 n cap2) n (acn ((L.take (k + 1)).filter f)) := fun W hW => by
          rw [flt_no he hfe]
          exact ⟨HO.out.1, own_keep1 (HO.out.2.alloc _) fun g hg => hW.block g ((HO.out.2.alloc _).lt g hg).2⟩
        have HE := hid hE
        clear he hfe hE
        go_wp2_with fail
        refine HC.out.mono ?_
        rintro e2 w2 ⟨rfl, hb2⟩
        have HB2 : Hid (Below w.heap.size w w2) := HBV.out.trans (hb2.mono HBV.out.size)
        have HE2 := hid (HE.out w2 hb2)
        clear hb2 HC HE
        go_wp2_with fail
        exact ⟨⟨k + 1, n, ao2, cap2, by omega, by omega, by go_num, rfl, HE2, HB2⟩, by simp [intOf]; omega⟩
      · rw [hfe] at HC
        have hE : ∀ W, Below (wr.alloc (arO e 79)).heap.size (wr.alloc (arO e 79)) W → ∃ ao3 cap3 w3, (Builtin.append_ #[48, 48] 48 #[.slice ao2 n cap2, .slice (some ⟨W.heap.size, 0, none⟩) 1 1]).run Try.prog (W.alloc (arO e 79)) = .ok (.slice ao3 (n + 1) cap3) w3 ∧ (n + 1 = ((L.take (k + 1)).filter f).length ∧ w3.ownsRow w.heap.size 79 3 (.slice ao3 (n + 1) cap3) (n + 1) (acn ((L.take (k + 1)).filter f))) ∧ Below w.heap.size w w3 := fun W hW => by
          have hbW : Below w.heap.size w W := HBV.out.trans (hW.mono HBV.out.size)
          have hoW : W.ownsRow w.heap.size 79 3 (.slice ao2 n cap2) n (acn ((L.take k).filter f)) := own_keep1 (HO.out.2.alloc _) fun g hg => hW.block g ((HO.out.2.alloc _).lt g hg).2
          obtain ⟨ao3, cap3, w3, hrun, hown3, hfr3, _, _⟩ := app_far (te := 79) under35 info42x rfl (by omega) (by omega) (V := W) hoW (aC e) rfl (aC_one _) (by omega) hbW.size
          refine ⟨ao3, cap3, w3, hrun, ?_, hbW.trans hfr3.below⟩
          rw [flt_yes he hfe, acn_app, acn_one, List.length_append, ← HO.out.1]
          exact ⟨rfl, hown3⟩
        have HE := hid hE
        clear he hfe hE
        go_wp2_with fail
        refine HC.out.mono ?_
        rintro e2 w2 ⟨rfl, hb2⟩
        obtain ⟨ao3, cap3, w3, hrun, he3, hb3⟩ := HE.out w2 hb2
        obtain ⟨y0, y1, y2⟩ := three_cells (blk_below HX.out hb2)
        have hx2 : wr.heap.size < w2.heap.size := blk_lt (blk_below HX.out hb2)
        have HRun := hid hrun
        have HE3 := hid he3
        have HB3 := hid hb3
        clear hb2 HC HE hrun he3 hb3
        go_wp2_with (at_builtin; refine wpList_app_run rfl (.tmp 22) (.tmp 24) 48 rfl _ _ rfl rfl 48 rfl _ _ HRun.out ?_)
        exact ⟨⟨k + 1, n + 1, ao3, cap3, by omega, by omega, by go_num, rfl, HE3, HB3⟩, by simp [intOf]; omega⟩
    · have hE : n = (L.filter f).length ∧ wr.ownsRow w.heap.size 79 3 (.slice ao2 n cap2) n (acn (L.filter f)) := by
        have := HO.out
        rw [List.take_of_length_le (by rw [← HN.out]; omega)] at this
        exact this
      have HG : Hid (Got w wr (.returned (.slice ao2 n cap2)) (L.filter f)) := by
        refine ⟨ao2, cap2, by rw [hE.1], ?_⟩
        have := hE.2
        rw [hE.1] at this
        exact this
      clear hE
      go_wp2_with fail
      go_ret
      exact ⟨HG.out, HB.out⟩
set_option maxRecDepth 100000 in
set_option maxHeartbeats 3200000 in
theorem those37 (w : World) (base : Nat) (pv : Value) (L : List Ar) (h : Lv w base pv L) (hl : L.length ≤ 1000) (c d : Nat) (f : Ar → Bool) (hf : ∀ (W : World) (a : Ar), a ∈ L → Below w.heap.size w W → Calls Try.prog 64 #[av a, pq c, pq d] W fun e w' => e = .returned (.bool (f a)) ∧ Below W.heap.size W w') : Calls Try.prog 46 #[pv, .func (.func 64) #[] #[pq c, pq d]] w fun e w' => Got w w' e (L.filter f) ∧ Below w.heap.size w w' := by
  rcases h with ⟨rfl, rfl⟩ | ⟨P, rfl, v, hlo, hbk, hown⟩
  · have HG : Hid (Got w w (.returned (.slice none 0 0)) []) := ⟨none, 0, rfl, World.ownsRow_nil _ _ _ _⟩
    clear hf hl
    go_enter Try.func46, Try.ntmps46
    go_wp2_with fail
    go_ret
    exact ⟨HG.out, Below.refl _ _⟩
  obtain ⟨ao, cap, rfl, _⟩ := own_slice hown
  have hcap := own_cap hown
  have HRd0 : Hid (Rd3 w ao L) := Rd3.own hown
  have b0 : w.cell? ⟨P, 0, none⟩ = some (.slice ao L.length cap) := blk_cell hbk 0
  have HF := hid hf
  obtain ⟨N, hN⟩ : ∃ N, N = L.length := ⟨_, rfl⟩
  have HN : Hid (N = L.length) := hN
  rw [← hN] at b0 hl hcap
  clear hbk hown hN hf
  go_enter Try.func46, Try.ntmps46
  go_wp2_with fail
  go_loopw [5, 15] (fun v i wr => ∃ (k n : Nat) (ao2 : Option Addr) (cap2 : Nat), k ≤ N ∧ n ≤ k ∧ i = i64 k ∧ v = .slice ao2 n cap2 ∧ Hid (n = ((L.take k).filter f).length ∧ wr.ownsRow w.heap.size 79 3 (.slice ao2 n cap2) n (acn ((L.take k).filter f))) ∧ Hid (Below w.heap.size w wr)) (fun _ i _ => N - (intOf i).toNat)
  case atStart => exact ⟨0, 0, none, 0, by omega, by omega, rfl, rfl, ⟨rfl, World.ownsRow_nil _ _ _ _⟩, Below.refl _ _⟩
  case round =>
    obtain ⟨k, n, ao2, cap2, hk, hn, rfl, rfl, HO, HB⟩ := hrel
    by_cases hlt : k < N
    · have hkI : (k : Int) < N := by omega
      obtain ⟨e, he⟩ : ∃ e, L[k]? = some e := ⟨_, List.getElem?_eq_getElem (by rw [← HN.out]; exact hlt)⟩
      obtain ⟨g, o, rfl, hgl, c0, c1, c2⟩ := HRd0.out.below HB.out k e he
      have HBV : Hid (Below w.heap.size w (wr.alloc (arO e 79))) := HB.out.alloc HB.out.size _
      have HC := hid (HF.out (wr.alloc (arO e 79)) e (List.mem_of_getElem? he) HBV.out)
      have HX := hid (heap_last wr (arO e 79))
      cases hfe : f e
      · rw [hfe] at HC
        have hE : ∀ W, Below (wr.alloc (arO e 79)).heap.size (wr.alloc (arO e 79)) W → n = ((L.take (k + 1)).filter f).length ∧ W.ownsRow w.heap.size 79 3 (.slice ao2 n cap2) n (acn ((L.take (k + 1)).filter f)) := fun W hW => by
          rw [flt_no he hfe]
          exact ⟨HO.out.1, own_keep1 (HO.out.2.alloc _) fun g hg => hW.block g ((HO.out.2.alloc _).lt g hg).2⟩
        have HE := hid hE
        clear he hfe hE
        go_wp2_with fail
        refine HC.out.mono ?_
        rintro e2 w2 ⟨rfl, hb2⟩
        have HB2 : Hid (Below w.heap.size w w2) := HBV.out.trans (hb2.mono HBV.out.size)
        have HE2 := hid (HE.out w2 hb2)
        clear hb2 HC HE
        go_wp2_with fail
        exact ⟨⟨k + 1, n, ao2, cap2, by omega, by omega, by go_num, rfl, HE2, HB2⟩, by simp [intOf]; omega⟩
      · rw [hfe] at HC
        have hE : ∀ W, Below (wr.alloc (arO e 79)).heap.size (wr.alloc (arO e 79)) W → ∃ ao3 cap3 w3, (Builtin.append_ #[48, 48] 48 #[.slice ao2 n cap2, .slice (some ⟨W.heap.size, 0, none⟩) 1 1]).run Try.prog (W.alloc (arO e 79)) = .ok (.slice ao3 (n + 1) cap3) w3 ∧ (n + 1 = ((L.take (k + 1)).filter f).length ∧ w3.ownsRow w.heap.size 79 3 (.slice ao3 (n + 1) cap3) (n + 1) (acn ((L.take (k + 1)).filter f))) ∧ Below w.heap.size w w3 := fun W hW => by
          have hbW : Below w.heap.size w W := HBV.out.trans (hW.mono HBV.out.size)
          have hoW : W.ownsRow w.heap.size 79 3 (.slice ao2 n cap2) n (acn ((L.take k).filter f)) := own_keep1 (HO.out.2.alloc _) fun g hg => hW.block g ((HO.out.2.alloc _).lt g hg).2
          obtain ⟨ao3, cap3, w3, hrun, hown3, hfr3, _, _⟩ := app_far (te := 79) under35 info42x rfl (by omega) (by omega) (V := W) hoW (aC e) rfl (aC_one _) (by omega) hbW.size
          refine ⟨ao3, cap3, w3, hrun, ?_, hbW.trans hfr3.below⟩
          rw [flt_yes he hfe, acn_app, acn_one, List.length_append, ← HO.out.1]
          exact ⟨rfl, hown3⟩
        have HE := hid hE
        clear he hfe hE
        go_wp2_with fail
        refine HC.out.mono ?_
        rintro e2 w2 ⟨rfl, hb2⟩
        obtain ⟨ao3, cap3, w3, hrun, he3, hb3⟩ := HE.out w2 hb2
        obtain ⟨y0, y1, y2⟩ := three_cells (blk_below HX.out hb2)
        have hx2 : wr.heap.size < w2.heap.size := blk_lt (blk_below HX.out hb2)
        have HRun := hid hrun
        have HE3 := hid he3
        have HB3 := hid hb3
        clear hb2 HC HE hrun he3 hb3
        go_wp2_with (at_builtin; refine wpList_app_run rfl (.tmp 22) (.tmp 24) 48 rfl _ _ rfl rfl 48 rfl _ _ HRun.out ?_)
        exact ⟨⟨k + 1, n + 1, ao3, cap3, by omega, by omega, by go_num, rfl, HE3, HB3⟩, by simp [intOf]; omega⟩
    · have hE : n = (L.filter f).length ∧ wr.ownsRow w.heap.size 79 3 (.slice ao2 n cap2) n (acn (L.filter f)) := by
        have := HO.out
        rw [List.take_of_length_le (by rw [← HN.out]; omega)] at this
        exact this
      have HG : Hid (Got w wr (.returned (.slice ao2 n cap2)) (L.filter f)) := by
        refine ⟨ao2, cap2, by rw [hE.1], ?_⟩
        have := hE.2
        rw [hE.1] at this
        exact this
      clear hE
      go_wp2_with fail
      go_ret
      exact ⟨HG.out, HB.out⟩
set_option maxRecDepth 100000 in
set_option maxHeartbeats 3200000 in
theorem those40 (w : World) (base : Nat) (pv : Value) (L : List Ar) (h : Lv w base pv L) (hl : L.length ≤ 1000) (c : Nat) (f : Ar → Bool) (hf : ∀ (W : World) (a : Ar), a ∈ L → Below w.heap.size w W → Calls Try.prog 61 #[av a, pq c] W fun e w' => e = .returned (.bool (f a)) ∧ Below W.heap.size W w') : Calls Try.prog 46 #[pv, .func (.func 61) #[] #[pq c]] w fun e w' => Got w w' e (L.filter f) ∧ Below w.heap.size w w' := by
  rcases h with ⟨rfl, rfl⟩ | ⟨P, rfl, v, hlo, hbk, hown⟩
  · have HG : Hid (Got w w (.returned (.slice none 0 0)) []) := ⟨none, 0, rfl, World.ownsRow_nil _ _ _ _⟩
    clear hf hl
    go_enter Try.func46, Try.ntmps46
    go_wp2_with fail
    go_ret
    exact ⟨HG.out, Below.refl _ _⟩
  obtain ⟨ao, cap, rfl, _⟩ := own_slice hown
  have hcap := own_cap hown
  have HRd0 : Hid (Rd3 w ao L) := Rd3.own hown
  have b0 : w.cell? ⟨P, 0, none⟩ = some (.slice ao L.length cap) := blk_cell hbk 0
  have HF := hid hf
  obtain ⟨N, hN⟩ : ∃ N, N = L.length := ⟨_, rfl⟩
  have HN : Hid (N = L.length) := hN
  rw [← hN] at b0 hl hcap
  clear hbk hown hN hf
  go_enter Try.func46, Try.ntmps46
  go_wp2_with fail
  go_loopw [5, 15] (fun v i wr => ∃ (k n : Nat) (ao2 : Option Addr) (cap2 : Nat), k ≤ N ∧ n ≤ k ∧ i = i64 k ∧ v = .slice ao2 n cap2 ∧ Hid (n = ((L.take k).filter f).length ∧ wr.ownsRow w.heap.size 79 3 (.slice ao2 n cap2) n (acn ((L.take k).filter f))) ∧ Hid (Below w.heap.size w wr)) (fun _ i _ => N - (intOf i).toNat)
  case atStart => exact ⟨0, 0, none, 0, by omega, by omega, rfl, rfl, ⟨rfl, World.ownsRow_nil _ _ _ _⟩, Below.refl _ _⟩
  case round =>
    obtain ⟨k, n, ao2, cap2, hk, hn, rfl, rfl, HO, HB⟩ := hrel
    by_cases hlt : k < N
    · have hkI : (k : Int) < N := by omega
      obtain ⟨e, he⟩ : ∃ e, L[k]? = some e := ⟨_, List.getElem?_eq_getElem (by rw [← HN.out]; exact hlt)⟩
      obtain ⟨g, o, rfl, hgl, c0, c1, c2⟩ := HRd0.out.below HB.out k e he
      have HBV : Hid (Below w.heap.size w (wr.alloc (arO e 79))) := HB.out.alloc HB.out.size _
      have HC := hid (HF.out (wr.alloc (arO e 79)) e (List.mem_of_getElem? he) HBV.out)
      have HX := hid (heap_last wr (arO e 79))
      cases hfe : f e
      · rw [hfe] at HC
        have hE : ∀ W, Below (wr.alloc (arO e 79)).heap.size (wr.alloc (arO e 79)) W → n = ((L.take (k + 1)).filter f).length ∧ W.ownsRow w.heap.size 79 3 (.slice ao2 n cap2) n (acn ((L.take (k + 1)).filter f)) := fun W hW => by
          rw [flt_no he hfe]
          exact ⟨HO.out.1, own_keep1 (HO.out.2.alloc _) fun g hg => hW.block g ((HO.out.2.alloc _).lt g hg).2⟩
        have HE := hid hE
        clear he hfe hE
        go_wp2_with fail
        refine HC.out.mono ?_
        rintro e2 w2 ⟨rfl, hb2⟩
        have HB2 : Hid (Below w.heap.size w w2) := HBV.out.trans (hb2.mono HBV.out.size)
        have HE2 := hid (HE.out w2 hb2)
        clear hb2 HC HE
        go_wp2_with fail
        exact ⟨⟨k + 1, n, ao2, cap2, by omega, by omega, by go_num, rfl, HE2, HB2⟩, by simp [intOf]; omega⟩
      · rw [hfe] at HC
        have hE : ∀ W, Below (wr.alloc (arO e 79)).heap.size (wr.alloc (arO e 79)) W → ∃ ao3 cap3 w3, (Builtin.append_ #[48, 48] 48 #[.slice ao2 n cap2, .slice (some ⟨W.heap.size, 0, none⟩) 1 1]).run Try.prog (W.alloc (arO e 79)) = .ok (.slice ao3 (n + 1) cap3) w3 ∧ (n + 1 = ((L.take (k + 1)).filter f).length ∧ w3.ownsRow w.heap.size 79 3 (.slice ao3 (n + 1) cap3) (n + 1) (acn ((L.take (k + 1)).filter f))) ∧ Below w.heap.size w w3 := fun W hW => by
          have hbW : Below w.heap.size w W := HBV.out.trans (hW.mono HBV.out.size)
          have hoW : W.ownsRow w.heap.size 79 3 (.slice ao2 n cap2) n (acn ((L.take k).filter f)) := own_keep1 (HO.out.2.alloc _) fun g hg => hW.block g ((HO.out.2.alloc _).lt g hg).2
          obtain ⟨ao3, cap3, w3, hrun, hown3, hfr3, _, _⟩ := app_far (te := 79) under35 info42x rfl (by omega) (by omega) (V := W) hoW (aC e) rfl (aC_one _) (by omega) hbW.size
          refine ⟨ao3, cap3, w3, hrun, ?_, hbW.trans hfr3.below⟩
          rw [flt_yes he hfe, acn_app, acn_one, List.length_append, ← HO.out.1]
          exact ⟨rfl, hown3⟩
        have HE := hid hE
        clear he hfe hE
        go_wp2_with fail
        refine HC.out.mono ?_
        rintro e2 w2 ⟨rfl, hb2⟩
        obtain ⟨ao3, cap3, w3, hrun, he3, hb3⟩ := HE.out w2 hb2
        obtain ⟨y0, y1, y2⟩ := three_cells (blk_below HX.out hb2)
        have hx2 : wr.heap.size < w2.heap.size := blk_lt (blk_below HX.out hb2)
        have HRun := hid hrun
        have HE3 := hid he3
        have HB3 := hid hb3
        clear hb2 HC HE hrun he3 hb3
        go_wp2_with (at_builtin; refine wpList_app_run rfl (.tmp 22) (.tmp 24) 48 rfl _ _ rfl rfl 48 rfl _ _ HRun.out ?_)
        exact ⟨⟨k + 1, n + 1, ao3, cap3, by omega, by omega, by go_num, rfl, HE3, HB3⟩, by simp [intOf]; omega⟩
    · have hE : n = (L.filter f).length ∧ wr.ownsRow w.heap.size 79 3 (.slice ao2 n cap2) n (acn (L.filter f)) := by
        have := HO.out
        rw [List.take_of_length_le (by rw [← HN.out]; omega)] at this
        exact this
      have HG : Hid (Got w wr (.returned (.slice ao2 n cap2)) (L.filter f)) := by
        refine ⟨ao2, cap2, by rw [hE.1], ?_⟩
        have := hE.2
        rw [hE.1] at this
        exact this
      clear hE
      go_wp2_with fail
      go_ret
      exact ⟨HG.out, HB.out⟩
set_option maxRecDepth 100000 in
set_option maxHeartbeats 3200000 in
theorem those41 (w : World) (base : Nat) (pv : Value) (L : List Ar) (h : Lv w base pv L) (hl : L.length ≤ 1000) (c d : Nat) (f : Ar → Bool) (hf : ∀ (W : World) (a : Ar), a ∈ L → Below w.heap.size w W → Calls Try.prog 62 #[av a, pq c, pq d] W fun e w' => e = .returned (.bool (f a)) ∧ Below W.heap.size W w') : Calls Try.prog 46 #[pv, .func (.func 62) #[] #[pq c, pq d]] w fun e w' => Got w w' e (L.filter f) ∧ Below w.heap.size w w' := by
  rcases h with ⟨rfl, rfl⟩ | ⟨P, rfl, v, hlo, hbk, hown⟩
  · have HG : Hid (Got w w (.returned (.slice none 0 0)) []) := ⟨none, 0, rfl, World.ownsRow_nil _ _ _ _⟩
    clear hf hl
    go_enter Try.func46, Try.ntmps46
    go_wp2_with fail
    go_ret
    exact ⟨HG.out, Below.refl _ _⟩
  obtain ⟨ao, cap, rfl, _⟩ := own_slice hown
  have hcap := own_cap hown
  have HRd0 : Hid (Rd3 w ao L) := Rd3.own hown
  have b0 : w.cell? ⟨P, 0, none⟩ = some (.slice ao L.length cap) := blk_cell hbk 0
  have HF := hid hf
  obtain ⟨N, hN⟩ : ∃ N, N = L.length := ⟨_, rfl⟩
  have HN : Hid (N = L.length) := hN
  rw [← hN] at b0 hl hcap
  clear hbk hown hN hf
  go_enter Try.func46, Try.ntmps46
  go_wp2_with fail
  go_loopw [5, 15] (fun v i wr => ∃ (k n : Nat) (ao2 : Option Addr) (cap2 : Nat), k ≤ N ∧ n ≤ k ∧ i = i64 k ∧ v = .slice ao2 n cap2 ∧ Hid (n = ((L.take k).filter f).length ∧ wr.ownsRow w.heap.size 79 3 (.slice ao2 n cap2) n (acn ((L.take k).filter f))) ∧ Hid (Below w.heap.size w wr)) (fun _ i _ => N - (intOf i).toNat)
  case atStart => exact ⟨0, 0, none, 0, by omega, by omega, rfl, rfl, ⟨rfl, World.ownsRow_nil _ _ _ _⟩, Below.refl _ _⟩
  case round =>
    obtain ⟨k, n, ao2, cap2, hk, hn, rfl, rfl, HO, HB⟩ := hrel
    by_cases hlt : k < N
    · have hkI : (k : Int) < N := by omega
      obtain ⟨e, he⟩ : ∃ e, L[k]? = some e := ⟨_, List.getElem?_eq_getElem (by rw [← HN.out]; exact hlt)⟩
      obtain ⟨g, o, rfl, hgl, c0, c1, c2⟩ := HRd0.out.below HB.out k e he
      have HBV : Hid (Below w.heap.size w (wr.alloc (arO e 79))) := HB.out.alloc HB.out.size _
      have HC := hid (HF.out (wr.alloc (arO e 79)) e (List.mem_of_getElem? he) HBV.out)
      have HX := hid (heap_last wr (arO e 79))
      cases hfe : f e
      · rw [hfe] at HC
        have hE : ∀ W, Below (wr.alloc (arO e 79)).heap.size (wr.alloc (arO e 79)) W → n = ((L.take (k + 1)).filter f).length ∧ W.ownsRow w.heap.size 79 3 (.slice ao2 n cap2) n (acn ((L.take (k + 1)).filter f)) := fun W hW => by
          rw [flt_no he hfe]
          exact ⟨HO.out.1, own_keep1 (HO.out.2.alloc _) fun g hg => hW.block g ((HO.out.2.alloc _).lt g hg).2⟩
        have HE := hid hE
        clear he hfe hE
        go_wp2_with fail
        refine HC.out.mono ?_
        rintro e2 w2 ⟨rfl, hb2⟩
        have HB2 : Hid (Below w.heap.size w w2) := HBV.out.trans (hb2.mono HBV.out.size)
        have HE2 := hid (HE.out w2 hb2)
        clear hb2 HC HE
        go_wp2_with fail
        exact ⟨⟨k + 1, n, ao2, cap2, by omega, by omega, by go_num, rfl, HE2, HB2⟩, by simp [intOf]; omega⟩
      · rw [hfe] at HC
        have hE : ∀ W, Below (wr.alloc (arO e 79)).heap.size (wr.alloc (arO e 79)) W → ∃ ao3 cap3 w3, (Builtin.append_ #[48, 48] 48 #[.slice ao2 n cap2, .slice (some ⟨W.heap.size, 0, none⟩) 1 1]).run Try.prog (W.alloc (arO e 79)) = .ok (.slice ao3 (n + 1) cap3) w3 ∧ (n + 1 = ((L.take (k + 1)).filter f).length ∧ w3.ownsRow w.heap.size 79 3 (.slice ao3 (n + 1) cap3) (n + 1) (acn ((L.take (k + 1)).filter f))) ∧ Below w.heap.size w w3 := fun W hW => by
          have hbW : Below w.heap.size w W := HBV.out.trans (hW.mono HBV.out.size)
          have hoW : W.ownsRow w.heap.size 79 3 (.slice ao2 n cap2) n (acn ((L.take k).filter f)) := own_keep1 (HO.out.2.alloc _) fun g hg => hW.block g ((HO.out.2.alloc _).lt g hg).2
          obtain ⟨ao3, cap3, w3, hrun, hown3, hfr3, _, _⟩ := app_far (te := 79) under35 info42x rfl (by omega) (by omega) (V := W) hoW (aC e) rfl (aC_one _) (by omega) hbW.size
          refine ⟨ao3, cap3, w3, hrun, ?_, hbW.trans hfr3.below⟩
          rw [flt_yes he hfe, acn_app, acn_one, List.length_append, ← HO.out.1]
          exact ⟨rfl, hown3⟩
        have HE := hid hE
        clear he hfe hE
        go_wp2_with fail
        refine HC.out.mono ?_
        rintro e2 w2 ⟨rfl, hb2⟩
        obtain ⟨ao3, cap3, w3, hrun, he3, hb3⟩ := HE.out w2 hb2
        obtain ⟨y0, y1, y2⟩ := three_cells (blk_below HX.out hb2)
        have hx2 : wr.heap.size < w2.heap.size := blk_lt (blk_below HX.out hb2)
        have HRun := hid hrun
        have HE3 := hid he3
        have HB3 := hid hb3
        clear hb2 HC HE hrun he3 hb3
        go_wp2_with (at_builtin; refine wpList_app_run rfl (.tmp 22) (.tmp 24) 48 rfl _ _ rfl rfl 48 rfl _ _ HRun.out ?_)
        exact ⟨⟨k + 1, n + 1, ao3, cap3, by omega, by omega, by go_num, rfl, HE3, HB3⟩, by simp [intOf]; omega⟩
    · have hE : n = (L.filter f).length ∧ wr.ownsRow w.heap.size 79 3 (.slice ao2 n cap2) n (acn (L.filter f)) := by
        have := HO.out
        rw [List.take_of_length_le (by rw [← HN.out]; omega)] at this
        exact this
      have HG : Hid (Got w wr (.returned (.slice ao2 n cap2)) (L.filter f)) := by
        refine ⟨ao2, cap2, by rw [hE.1], ?_⟩
        have := hE.2
        rw [hE.1] at this
        exact this
      clear hE
      go_wp2_with fail
      go_ret
      exact ⟨HG.out, HB.out⟩
set_option maxRecDepth 100000 in
set_option maxHeartbeats 3200000 in
theorem those42 (w : World) (base : Nat) (pv : Value) (L : List Ar) (h : Lv w base pv L) (hl : L.length ≤ 1000) (c : Nat) (f : Ar → Bool) (hf : ∀ (W : World) (a : Ar), a ∈ L → Below w.heap.size w W → Calls Try.prog 63 #[av a, pq c] W fun e w' => e = .returned (.bool (f a)) ∧ Below W.heap.size W w') : Calls Try.prog 46 #[pv, .func (.func 63) #[] #[pq c]] w fun e w' => Got w w' e (L.filter f) ∧ Below w.heap.size w w' := by
  rcases h with ⟨rfl, rfl⟩ | ⟨P, rfl, v, hlo, hbk, hown⟩
  · have HG : Hid (Got w w (.returned (.slice none 0 0)) []) := ⟨none, 0, rfl, World.ownsRow_nil _ _ _ _⟩
    clear hf hl
    go_enter Try.func46, Try.ntmps46
    go_wp2_with fail
    go_ret
    exact ⟨HG.out, Below.refl _ _⟩
  obtain ⟨ao, cap, rfl, _⟩ := own_slice hown
  have hcap := own_cap hown
  have HRd0 : Hid (Rd3 w ao L) := Rd3.own hown
  have b0 : w.cell? ⟨P, 0, none⟩ = some (.slice ao L.length cap) := blk_cell hbk 0
  have HF := hid hf
  obtain ⟨N, hN⟩ : ∃ N, N = L.length := ⟨_, rfl⟩
  have HN : Hid (N = L.length) := hN
  rw [← hN] at b0 hl hcap
  clear hbk hown hN hf
  go_enter Try.func46, Try.ntmps46
  go_wp2_with fail
  go_loopw [5, 15] (fun v i wr => ∃ (k n : Nat) (ao2 : Option Addr) (cap2 : Nat), k ≤ N ∧ n ≤ k ∧ i = i64 k ∧ v = .slice ao2 n cap2 ∧ Hid (n = ((L.take k).filter f).length ∧ wr.ownsRow w.heap.size 79 3 (.slice ao2 n cap2) n (acn ((L.take k).filter f))) ∧ Hid (Below w.heap.size w wr)) (fun _ i _ => N - (intOf i).toNat)
  case atStart => exact ⟨0, 0, none, 0, by omega, by omega, rfl, rfl, ⟨rfl, World.ownsRow_nil _ _ _ _⟩, Below.refl _ _⟩
  case round =>
    obtain ⟨k, n, ao2, cap2, hk, hn, rfl, rfl, HO, HB⟩ := hrel
    by_cases hlt : k < N
    · have hkI : (k : Int) < N := by omega
      obtain ⟨e, he⟩ : ∃ e, L[k]? = some e := ⟨_, List.getElem?_eq_getElem (by rw [← HN.out]; exact hlt)⟩
      obtain ⟨g, o, rfl, hgl, c0, c1, c2⟩ := HRd0.out.below HB.out k e he
      have HBV : Hid (Below w.heap.size w (wr.alloc (arO e 79))) := HB.out.alloc HB.out.size _
      have HC := hid (HF.out (wr.alloc (arO e 79)) e (List.mem_of_getElem? he) HBV.out)
      have HX := hid (heap_last wr (arO e 79))
      cases hfe : f e
      · rw [hfe] at HC
        have hE : ∀ W, Below (wr.alloc (arO e 79)).heap.size (wr.alloc (arO e 79)) W → n = ((L.take (k + 1)).filter f).length ∧ W.ownsRow w.heap.size 79 3 (.slice ao2 n cap2) n (acn ((L.take (k + 1)).filter f)) := fun W hW => by
          rw [flt_no he hfe]
          exact ⟨HO.out.1, own_keep1 (HO.out.2.alloc _) fun g hg => hW.block g ((HO.out.2.alloc _).lt g hg).2⟩
        have HE := hid hE
        clear he hfe hE
        go_wp2_with fail
        refine HC.out.mono ?_
        rintro e2 w2 ⟨rfl, hb2⟩
        have HB2 : Hid (Below w.heap.size w w2) := HBV.out.trans (hb2.mono HBV.out.size)
        have HE2 := hid (HE.out w2 hb2)
        clear hb2 HC HE
        go_wp2_with fail
        exact ⟨⟨k + 1, n, ao2, cap2, by omega, by omega, by go_num, rfl, HE2, HB2⟩, by simp [intOf]; omega⟩
      · rw [hfe] at HC
        have hE : ∀ W, Below (wr.alloc (arO e 79)).heap.size (wr.alloc (arO e 79)) W → ∃ ao3 cap3 w3, (Builtin.append_ #[48, 48] 48 #[.slice ao2 n cap2, .slice (some ⟨W.heap.size, 0, none⟩) 1 1]).run Try.prog (W.alloc (arO e 79)) = .ok (.slice ao3 (n + 1) cap3) w3 ∧ (n + 1 = ((L.take (k + 1)).filter f).length ∧ w3.ownsRow w.heap.size 79 3 (.slice ao3 (n + 1) cap3) (n + 1) (acn ((L.take (k + 1)).filter f))) ∧ Below w.heap.size w w3 := fun W hW => by
          have hbW : Below w.heap.size w W := HBV.out.trans (hW.mono HBV.out.size)
          have hoW : W.ownsRow w.heap.size 79 3 (.slice ao2 n cap2) n (acn ((L.take k).filter f)) := own_keep1 (HO.out.2.alloc _) fun g hg => hW.block g ((HO.out.2.alloc _).lt g hg).2
          obtain ⟨ao3, cap3, w3, hrun, hown3, hfr3, _, _⟩ := app_far (te := 79) under35 info42x rfl (by omega) (by omega) (V := W) hoW (aC e) rfl (aC_one _) (by omega) hbW.size
          refine ⟨ao3, cap3, w3, hrun, ?_, hbW.trans hfr3.below⟩
          rw [flt_yes he hfe, acn_app, acn_one, List.length_append, ← HO.out.1]
          exact ⟨rfl, hown3⟩
        have HE := hid hE
        clear he hfe hE
        go_wp2_with fail
        refine HC.out.mono ?_
        rintro e2 w2 ⟨rfl, hb2⟩
        obtain ⟨ao3, cap3, w3, hrun, he3, hb3⟩ := HE.out w2 hb2
        obtain ⟨y0, y1, y2⟩ := three_cells (blk_below HX.out hb2)
        have hx2 : wr.heap.size < w2.heap.size := blk_lt (blk_below HX.out hb2)
        have HRun := hid hrun
        have HE3 := hid he3
        have HB3 := hid hb3
        clear hb2 HC HE hrun he3 hb3
        go_wp2_with (at_builtin; refine wpList_app_run rfl (.tmp 22) (.tmp 24) 48 rfl _ _ rfl rfl 48 rfl _ _ HRun.out ?_)
        exact ⟨⟨k + 1, n + 1, ao3, cap3, by omega, by omega, by go_num, rfl, HE3, HB3⟩, by simp [intOf]; omega⟩
    · have hE : n = (L.filter f).length ∧ wr.ownsRow w.heap.size 79 3 (.slice ao2 n cap2) n (acn (L.filter f)) := by
        have := HO.out
        rw [List.take_of_length_le (by rw [← HN.out]; omega)] at this
        exact this
      have HG : Hid (Got w wr (.returned (.slice ao2 n cap2)) (L.filter f)) := by
        refine ⟨ao2, cap2, by rw [hE.1], ?_⟩
        have := hE.2
        rw [hE.1] at this
        exact this
      clear hE
      go_wp2_with fail
      go_ret
      exact ⟨HG.out, HB.out⟩
set_option maxRecDepth 100000 in
set_option maxHeartbeats 3200000 in
theorem those43 (w : World) (base : Nat) (pv : Value) (L : List Ar) (h : Lv w base pv L) (hl : L.length ≤ 1000) (c : Nat) (f : Ar → Bool) (hf : ∀ (W : World) (a : Ar), a ∈ L → Below w.heap.size w W → Calls Try.prog 68 #[av a, pq c] W fun e w' => e = .returned (.bool (f a)) ∧ Below W.heap.size W w') : Calls Try.prog 46 #[pv, .func (.func 68) #[] #[pq c]] w fun e w' => Got w w' e (L.filter f) ∧ Below w.heap.size w w' := by
  rcases h with ⟨rfl, rfl⟩ | ⟨P, rfl, v, hlo, hbk, hown⟩
  · have HG : Hid (Got w w (.returned (.slice none 0 0)) []) := ⟨none, 0, rfl, World.ownsRow_nil _ _ _ _⟩
    clear hf hl
    go_enter Try.func46, Try.ntmps46
    go_wp2_with fail
    go_ret
    exact ⟨HG.out, Below.refl _ _⟩
  obtain ⟨ao, cap, rfl, _⟩ := own_slice hown
  have hcap := own_cap hown
  have HRd0 : Hid (Rd3 w ao L) := Rd3.own hown
  have b0 : w.cell? ⟨P, 0, none⟩ = some (.slice ao L.length cap) := blk_cell hbk 0
  have HF := hid hf
  obtain ⟨N, hN⟩ : ∃ N, N = L.length := ⟨_, rfl⟩
  have HN : Hid (N = L.length) := hN
  rw [← hN] at b0 hl hcap
  clear hbk hown hN hf
  go_enter Try.func46, Try.ntmps46
  go_wp2_with fail
  go_loopw [5, 15] (fun v i wr => ∃ (k n : Nat) (ao2 : Option Addr) (cap2 : Nat), k ≤ N ∧ n ≤ k ∧ i = i64 k ∧ v = .slice ao2 n cap2 ∧ Hid (n = ((L.take k).filter f).length ∧ wr.ownsRow w.heap.size 79 3 (.slice ao2 n cap2) n (acn ((L.take k).filter f))) ∧ Hid (Below w.heap.size w wr)) (fun _ i _ => N - (intOf i).toNat)
  case atStart => exact ⟨0, 0, none, 0, by omega, by omega, rfl, rfl, ⟨rfl, World.ownsRow_nil _ _ _ _⟩, Below.refl _ _⟩
  case round =>
    obtain ⟨k, n, ao2, cap2, hk, hn, rfl, rfl, HO, HB⟩ := hrel
    by_cases hlt : k < N
    · have hkI : (k : Int) < N := by omega
      obtain ⟨e, he⟩ : ∃ e, L[k]? = some e := ⟨_, List.getElem?_eq_getElem (by rw [← HN.out]; exact hlt)⟩
      obtain ⟨g, o, rfl, hgl, c0, c1, c2⟩ := HRd0.out.below HB.out k e he
      have HBV : Hid (Below w.heap.size w (wr.alloc (arO e 79))) := HB.out.alloc HB.out.size _
      have HC := hid (HF.out (wr.alloc (arO e 79)) e (List.mem_of_getElem? he) HBV.out)
      have HX := hid (heap_last wr (arO e 79))
      cases hfe : f e
      · rw [hfe] at HC
        have hE : ∀ W, Below (wr.alloc (arO e 79)).heap.size (wr.alloc (arO e 79)) W → n = ((L.take (k + 1)).filter f).length ∧ W.ownsRow w.heap.size 79 3 (.slice ao2 n cap2) n (acn ((L.take (k + 1)).filter f)) := fun W hW => by
          rw [flt_no he hfe]
          exact ⟨HO.out.1, own_keep1 (HO.out.2.alloc _) fun g hg => hW.block g ((HO.out.2.alloc _).lt g hg).2⟩
        have HE := hid hE
        clear he hfe hE
        go_wp2_with fail
        refine HC.out.mono ?_
        rintro e2 w2 ⟨rfl, hb2⟩
        have HB2 : Hid (Below w.heap.size w w2) := HBV.out.trans (hb2.mono HBV.out.size)
        have HE2 := hid (HE.out w2 hb2)
        clear hb2 HC HE
        go_wp2_with fail
        exact ⟨⟨k + 1, n, ao2, cap2, by omega, by omega, by go_num, rfl, HE2, HB2⟩, by simp [intOf]; omega⟩
      · rw [hfe] at HC
        have hE : ∀ W, Below (wr.alloc (arO e 79)).heap.size (wr.alloc (arO e 79)) W → ∃ ao3 cap3 w3, (Builtin.append_ #[48, 48] 48 #[.slice ao2 n cap2, .slice (some ⟨W.heap.size, 0, none⟩) 1 1]).run Try.prog (W.alloc (arO e 79)) = .ok (.slice ao3 (n + 1) cap3) w3 ∧ (n + 1 = ((L.take (k + 1)).filter f).length ∧ w3.ownsRow w.heap.size 79 3 (.slice ao3 (n + 1) cap3) (n + 1) (acn ((L.take (k + 1)).filter f))) ∧ Below w.heap.size w w3 := fun W hW => by
          have hbW : Below w.heap.size w W := HBV.out.trans (hW.mono HBV.out.size)
          have hoW : W.ownsRow w.heap.size 79 3 (.slice ao2 n cap2) n (acn ((L.take k).filter f)) := own_keep1 (HO.out.2.alloc _) fun g hg => hW.block g ((HO.out.2.alloc _).lt g hg).2
          obtain ⟨ao3, cap3, w3, hrun, hown3, hfr3, _, _⟩ := app_far (te := 79) under35 info42x rfl (by omega) (by omega) (V := W) hoW (aC e) rfl (aC_one _) (by omega) hbW.size
          refine ⟨ao3, cap3, w3, hrun, ?_, hbW.trans hfr3.below⟩
          rw [flt_yes he hfe, acn_app, acn_one, List.length_append, ← HO.out.1]
          exact ⟨rfl, hown3⟩
        have HE := hid hE
        clear he hfe hE
        go_wp2_with fail
        refine HC.out.mono ?_
        rintro e2 w2 ⟨rfl, hb2⟩
        obtain ⟨ao3, cap3, w3, hrun, he3, hb3⟩ := HE.out w2 hb2
        obtain ⟨y0, y1, y2⟩ := three_cells (blk_below HX.out hb2)
        have hx2 : wr.heap.size < w2.heap.size := blk_lt (blk_below HX.out hb2)
        have HRun := hid hrun
        have HE3 := hid he3
        have HB3 := hid hb3
        clear hb2 HC HE hrun he3 hb3
        go_wp2_with (at_builtin; refine wpList_app_run rfl (.tmp 22) (.tmp 24) 48 rfl _ _ rfl rfl 48 rfl _ _ HRun.out ?_)
        exact ⟨⟨k + 1, n + 1, ao3, cap3, by omega, by omega, by go_num, rfl, HE3, HB3⟩, by simp [intOf]; omega⟩
    · have hE : n = (L.filter f).length ∧ wr.ownsRow w.heap.size 79 3 (.slice ao2 n cap2) n (acn (L.filter f)) := by
        have := HO.out
        rw [List.take_of_length_le (by rw [← HN.out]; omega)] at this
        exact this
      have HG : Hid (Got w wr (.returned (.slice ao2 n cap2)) (L.filter f)) := by
        refine ⟨ao2, cap2, by rw [hE.1], ?_⟩
        have := hE.2
        rw [hE.1] at this
        exact this
      clear hE
      go_wp2_with fail
      go_ret
      exact ⟨HG.out, HB.out⟩
end Go.Proofs.Ytlkcpjefgelcoaa
