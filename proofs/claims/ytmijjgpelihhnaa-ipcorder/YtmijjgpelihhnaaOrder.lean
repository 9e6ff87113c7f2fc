/- IpcOrder's walk; no statement is proved in this text. -/
import Derived.Test.YtmijjgpelihhnaaApart
namespace Go.Proofs.Ytmijjgpelihhnaa
open Go.ChangeShapes Go.WideShapes Go.ChangeAt Go.RowKit Go.Deep
attribute [local go_sem ↓] Go.wp_at_zero Go.wp_at_succ

theorem Pt.fr3 {w w' : World} {base P B : Nat} {Q : Nat → List Ms} (h : Pt w base P Q) (hf : Fr B [3] w w') : Pt w' base P Q := by
  obtain ⟨a0, a1, a2, hP, ho⟩ := h.blk
  exact ⟨h.lo, h.le, a0, a1, a2, hf.kept _ _ hP (by rfl), own_keep ho.o0 (fun k C hC => hf.kept _ _ hC (by rfl)), own_keep ho.o1 (fun k C hC => hf.kept _ _ hC (by rfl)), own_keep ho.o2 (fun k C hC => hf.kept _ _ hC (by rfl)), ho.d01, ho.d02, ho.d12⟩
theorem stK_tail (g : Int → Ms → Bool) (m : Ms) (r : List Ms) (h0 : g 0 m = true) (h1 : ∀ (k : Nat) x, g ((k + 1 : Nat) : Int) x = false) (k : Nat) : stK g (m :: r) (k + 1) = r.take k := by
  induction k with
  | zero => simp [stK, h0]
  | succ k ih =>
    rw [stK, ih, List.take_add_one, List.getElem?_cons_succ]
    cases r[k]? with
    | none => simp
    | some x => simp only [h1]; rfl
theorem cut20_tail (env : Int) (Q : Nat → List Ms) (j : Nat) (m : Ms) (r : List Ms) (hj : ((j : Nat) : Int) + 1 = env) (hq : Q j = m :: r) : cutQ20 env Q j = r := by
  unfold cutQ20 stF
  rw [hq, List.length_cons, stK_tail _ _ _ (by simp [g20, hj]) (fun k x => by simp [g20]; omega), List.take_of_length_le (Nat.le_refl _)]
theorem under46 : Try.prog.underlying 46 = some (.slice 3) := by kernel_rfl
theorem info3x : (Try.prog.info? 3).map (fun i => (i.zero, i.size, i.bytes)) = some (some (.int .i64 0), 1, 8) := by kernel_rfl
set_option maxRecDepth 100000 in
set_option maxHeartbeats 3200000 in
theorem order_out1 (w : World) (ao : Option Addr) (len cap : Nat) (fr t : Int) (hlen : len ≤ maxLen) (h : 20 < len) : Calls Try.prog 4 #[.slice ao len cap, i64 fr, i64 t] w fun e w' => e = .returned (.bool true) ∧ Below w.heap.size w w' := by
  have hI : (20 : Int) < len := by omega
  have hm : (len : Int) ≤ 9223372036854775807 := by unfold maxLen at hlen; omega
  clear hlen
  go_enter Try.func4, Try.ntmps4
  go_wp2_with fail
  refine (new_ok w).mono ?_
  rintro e w1 ⟨rfl, ht1, hb1⟩
  have HB1 := hid hb1
  clear ht1 hb1
  go_wp2_with fail
  refine (seven_ok _).mono ?_
  rintro e w2 ⟨rfl, hb2⟩
  have HB2 : Hid (Below w.heap.size w w2) := HB1.out.trans (hb2.mono HB1.out.size)
  clear hb2
  go_wp2_with fail
  go_ret
  exact ⟨rfl, HB2.out⟩
set_option maxRecDepth 100000 in
set_option maxHeartbeats 3200000 in
theorem order_out2 (w : World) (ao : Option Addr) (len cap : Nat) (fr t : Int) (hlen : len ≤ maxLen) (h0 : len ≤ 20) (h : fr < 1) : Calls Try.prog 4 #[.slice ao len cap, i64 fr, i64 t] w fun e w' => e = .returned (.bool true) ∧ Below w.heap.size w w' := by
  have hI : (len : Int) ≤ 20 := by omega
  have hm : (len : Int) ≤ 9223372036854775807 := by unfold maxLen at hlen; omega
  clear hlen
  go_enter Try.func4, Try.ntmps4
  go_wp2_with fail
  refine (new_ok w).mono ?_
  rintro e w1 ⟨rfl, ht1, hb1⟩
  have HB1 := hid hb1
  clear ht1 hb1
  go_wp2_with fail
  refine (seven_ok _).mono ?_
  rintro e w2 ⟨rfl, hb2⟩
  have HB2 : Hid (Below w.heap.size w w2) := HB1.out.trans (hb2.mono HB1.out.size)
  clear hb2
  go_wp2_with fail
  go_ret
  exact ⟨rfl, HB2.out⟩
set_option maxRecDepth 100000 in
set_option maxHeartbeats 3200000 in
theorem order_out3 (w : World) (ao : Option Addr) (len cap : Nat) (fr t : Int) (hlen : len ≤ maxLen) (h0 : len ≤ 20) (h1 : 1 ≤ fr) (h : 3 < fr) : Calls Try.prog 4 #[.slice ao len cap, i64 fr, i64 t] w fun e w' => e = .returned (.bool true) ∧ Below w.heap.size w w' := by
  have hI : (len : Int) ≤ 20 := by omega
  have hm : (len : Int) ≤ 9223372036854775807 := by unfold maxLen at hlen; omega
  clear hlen
  go_enter Try.func4, Try.ntmps4
  go_wp2_with fail
  refine (new_ok w).mono ?_
  rintro e w1 ⟨rfl, ht1, hb1⟩
  have HB1 := hid hb1
  clear ht1 hb1
  go_wp2_with fail
  refine (seven_ok _).mono ?_
  rintro e w2 ⟨rfl, hb2⟩
  have HB2 : Hid (Below w.heap.size w w2) := HB1.out.trans (hb2.mono HB1.out.size)
  clear hb2
  go_wp2_with fail
  go_ret
  exact ⟨rfl, HB2.out⟩
set_option maxRecDepth 100000 in
set_option maxHeartbeats 3200000 in
theorem order_out4 (w : World) (ao : Option Addr) (len cap : Nat) (fr t : Int) (hlen : len ≤ maxLen) (h0 : len ≤ 20) (h1 : 1 ≤ fr) (h2 : fr ≤ 3) (h : t < 1) : Calls Try.prog 4 #[.slice ao len cap, i64 fr, i64 t] w fun e w' => e = .returned (.bool true) ∧ Below w.heap.size w w' := by
  have hI : (len : Int) ≤ 20 := by omega
  have hm : (len : Int) ≤ 9223372036854775807 := by unfold maxLen at hlen; omega
  clear hlen
  go_enter Try.func4, Try.ntmps4
  go_wp2_with fail
  refine (new_ok w).mono ?_
  rintro e w1 ⟨rfl, ht1, hb1⟩
  have HB1 := hid hb1
  clear ht1 hb1
  go_wp2_with fail
  refine (seven_ok _).mono ?_
  rintro e w2 ⟨rfl, hb2⟩
  have HB2 : Hid (Below w.heap.size w w2) := HB1.out.trans (hb2.mono HB1.out.size)
  clear hb2
  go_wp2_with fail
  go_ret
  exact ⟨rfl, HB2.out⟩
set_option maxRecDepth 100000 in
set_option maxHeartbeats 3200000 in
theorem order_out5 (w : World) (ao : Option Addr) (len cap : Nat) (fr t : Int) (hlen : len ≤ maxLen) (h0 : len ≤ 20) (h1 : 1 ≤ fr) (h2 : fr ≤ 3) (h3 : 1 ≤ t) (h : 3 < t) : Calls Try.prog 4 #[.slice ao len cap, i64 fr, i64 t] w fun e w' => e = .returned (.bool true) ∧ Below w.heap.size w w' := by
  have hI : (len : Int) ≤ 20 := by omega
  have hm : (len : Int) ≤ 9223372036854775807 := by unfold maxLen at hlen; omega
  clear hlen
  go_enter Try.func4, Try.ntmps4
  go_wp2_with fail
  refine (new_ok w).mono ?_
  rintro e w1 ⟨rfl, ht1, hb1⟩
  have HB1 := hid hb1
  clear ht1 hb1
  go_wp2_with fail
  refine (seven_ok _).mono ?_
  rintro e w2 ⟨rfl, hb2⟩
  have HB2 : Hid (Below w.heap.size w w2) := HB1.out.trans (hb2.mono HB1.out.size)
  clear hb2
  go_wp2_with fail
  go_ret
  exact ⟨rfl, HB2.out⟩
set_option maxRecDepth 100000 in
set_option maxHeartbeats 6400000 in
theorem order0 (w : World) (ao : Option Addr) (len cap : Nat) (fr : Int) (f : Nat → Int) (hl : len ≤ 20) (hf1 : 1 ≤ fr) (hf2 : fr ≤ 3) (hS : NSl w ao len f) : Calls Try.prog 4 #[.slice ao len cap, i64 fr, i64 1] w fun e w' => e = .returned (.bool true) ∧ Below w.heap.size w w' := by
  obtain ⟨b, hb⟩ : ∃ b, b = w.heap.size := ⟨_, rfl⟩
  have hI : (len : Int) ≤ 20 := by omega
  have hfe : envB fr = true := by unfold envB; simp; omega
  have HN : Hid (Calls Try.prog 7 #[] w fun e w' => e = .returned (pq b) ∧ Pt w' b b zQ ∧ Below b w w') := by rw [hb]; exact new_ok w
  have HSa : Hid (∀ W x, (x < 0 ∨ 65535 < x) → Calls Try.prog 9 #[pq b, i64 fr, i64 1, i64 x] W fun e w' => e = .returned (i64 1) ∧ w' = W) := fun W x hx => send_arg W _ fr 1 x (by unfold sdB; simp; intros; omega)
  have HSo : Hid (∀ W Q x, Pt W b b Q → 0 ≤ x → x ≤ 65535 → (Q 0).length < 4 → Calls Try.prog 9 #[pq b, i64 fr, i64 1, i64 x] W fun e w' => e = .returned (i64 0) ∧ Pt w' b b (upQ Q 0 (fr, x)) ∧ Fr b [54, 39] W w') := fun W Q x hW h0 h1 h4 => sendF0 hW fr x (by unfold sdB; rw [hfe, show envB 1 = true by decide, decide_eq_true h0, decide_eq_true h1]; rfl) h4
  have HSf : Hid (∀ W Q x, Pt W b b Q → 0 ≤ x → x ≤ 65535 → (Q 0).length = 4 → Calls Try.prog 9 #[pq b, i64 fr, i64 1, i64 x] W fun e w' => e = .returned (i64 5) ∧ w' = W) := fun W Q x hW h0 h1 h4 => send0full hW fr x (by unfold sdB; rw [hfe, show envB 1 = true by decide, decide_eq_true h0, decide_eq_true h1]; rfl) h4
  have HRo : Hid (∀ W Q d r, Pt W b b Q → Q 0 = (fr, d) :: r → Calls Try.prog 11 #[pq b, i64 1] W fun e w' => e = .returned (.tuple #[.agg #[i64 fr, u16v d], i64 0]) ∧ Pt w' b b (cutQ20 1 Q) ∧ Tq W.heap.size b W w') := fun W Q d r hW hq => recvF0 hW fr d r hq
  have HRn : Hid (∀ W Q, Pt W b b Q → Q 0 = [] → Calls Try.prog 11 #[pq b, i64 1] W fun e w' => e = .returned (.tuple #[.agg #[i64 0, u16v 0], i64 6]) ∧ Below W.heap.size W w') := fun W Q hW hq => recv_none W _ 1 (by decide) (fun W' hW' => by have := waits0 (hW.below hW'); rw [hq] at this; exact this)
  have HSb : Hid (∀ W, Below b w W → ∀ k, k < len → ∃ B off, ao = some ⟨B, off, none⟩ ∧ W.cell? ⟨B, off + k, none⟩ = some (i64 (f k))) := fun W hW k hk => by
    rw [hb] at hW
    obtain ⟨B, off, h1, _, h2⟩ := (hS.below hW).at hk
    exact ⟨B, off, h1, h2⟩
  rw [← hb]
  clear hS hb hfe
  go_enter Try.func4, Try.ntmps4
  go_wp2_with fail
  refine HN.out.mono ?_
  rintro e w1 ⟨rfl, ht1, hb1⟩
  have HT1 := hid ht1
  have HB1 := hid hb1
  clear ht1 hb1
  go_wp2_with fail
  go_loopw [8, 49] (fun v u wr => ∃ (k : Nat) (L : List Int) (Q : Nat → List Ms), k ≤ len ∧ u = i64 k ∧ L.length ≤ 4 ∧ Hid (Q 0 = L.map (fun d => (fr, d))) ∧ Hid (∀ d ∈ L, 0 ≤ d ∧ d ≤ 65535) ∧ Hid (Pt wr b b Q) ∧ Hid (wr.ownsRow b 3 1 v L.length (icells L)) ∧ Hid (Below b w wr)) (fun _ u _ => len - (intOf u).toNat)
  case atStart => exact ⟨0, [], zQ, by omega, rfl, by simp, hid rfl, hid (fun d hd => by cases hd), HT1, hid (World.ownsRow_nil w1 _ 3 1), HB1⟩
  case round =>
    obtain ⟨k, L, Q, hk, rfl, hL4, HQ, HL, HT, HO, HB⟩ := hrel
    obtain ⟨ao8, cap8, hu8, _⟩ := own_slice HO.out
    subst hu8
    obtain ⟨M, hM⟩ : ∃ M, M = L.length := ⟨_, rfl⟩
    have HM := hid hM
    rw [← hM] at hL4 HO ⊢
    have hMI : (M : Int) ≤ 4 := by omega
    have hQl : (Q 0).length = M := by rw [HQ.out, List.length_map, hM]
    have HQl := hid hQl
    have hbl : b ≤ wr.heap.size := Nat.le_of_lt HT.out.lt
    clear hM hQl
    by_cases hlt : k < len
    · have hkI : (k : Int) < len := by omega
      obtain ⟨B, off, hao, c0⟩ := HSb.out wr HB.out k hlt
      subst hao
      obtain ⟨x, hx⟩ : ∃ x, x = f k := ⟨_, rfl⟩
      rw [← hx] at c0
      clear hx
      by_cases h0 : x < 0
      · go_wp2_with fail
        refine (HSa.out wr x (Or.inl h0)).mono ?_
        rintro e v2 ⟨rfl, hv⟩
        replace hv := hv.symm
        subst hv
        go_wp2_with fail
        exact ⟨⟨k + 1, L, Q, by omega, by go_num, by rw [← HM.out]; exact hL4, HQ, HL, HT, by rw [← HM.out]; exact HO, HB⟩, by simp [intOf]; omega⟩
      · by_cases h1 : 65535 < x
        · go_wp2_with fail
          refine (HSa.out wr x (Or.inr h1)).mono ?_
          rintro e v2 ⟨rfl, hv⟩
          replace hv := hv.symm
          subst hv
          go_wp2_with fail
          exact ⟨⟨k + 1, L, Q, by omega, by go_num, by rw [← HM.out]; exact hL4, HQ, HL, HT, by rw [← HM.out]; exact HO, HB⟩, by simp [intOf]; omega⟩
        · have h0' : 0 ≤ x := by omega
          have h1' : x ≤ 65535 := by omega
          clear h0 h1
          by_cases h4 : M = 4
          · have h4I : (M : Int) = 4 := by omega
            have hd4 : decide ((M : Int) < 4) = false := by simp; omega
            have HC4 := hid (HSf.out wr Q x HT.out h0' h1' (by rw [HQl.out]; exact h4))
            have HE : Hid (M = 4) := h4
            clear h4 h4I
            go_wp2_with fail
            refine HC4.out.mono ?_
            rintro e v2 ⟨rfl, hv⟩
            replace hv := hv.symm
            subst hv
            go_wp2_with fail
            exact ⟨⟨k + 1, L, Q, by omega, by go_num, by rw [← HM.out]; exact hL4, HQ, HL, HT, by rw [← HM.out]; exact HO, HB⟩, by simp [intOf]; omega⟩
          · have hd4 : decide ((M : Int) < 4) = true := by simp; omega
            have hM4 : M < 4 := by omega
            have HC4 := hid (HSo.out wr Q x HT.out h0' h1' (by rw [HQl.out]; exact hM4))
            clear h4
            go_wp2_with fail
            refine HC4.out.mono ?_
            rintro e w3 ⟨rfl, ht3, hf3⟩
            have ho3 : w3.ownsRow b 3 1 (.slice ao8 M cap8) M (icells L) := own_keep HO.out (fun k C hC => hf3.kept _ _ hC (by rfl))
            obtain ⟨ao9, cap9, w6, hrun, hown, hfr, _⟩ := app_far (te := 3) under46 info3x rfl (by omega) (by omega) ho3 [i64 x] rfl (by intro u hu; simp at hu; subst hu; rfl) (by omega) (Nat.le_trans hbl hf3.size)
            have HRUN := hid hrun
            have HO6 : Hid (w6.ownsRow b 3 1 (.slice ao9 (M + 1) cap9) (L ++ [x]).length (icells (L ++ [x]))) := by rw [List.length_append, ← HM.out, icells_app]; exact hown
            have HT6 : Hid (Pt w6 b b (upQ Q 0 (fr, x))) := ht3.fr3 hfr
            have HB6 : Hid (Below b w w6) := (HB.out.trans hf3.below).trans hfr.below
            have hq6 : upQ Q 0 (fr, x) 0 = (L ++ [x]).map (fun d => (fr, d)) := by rw [List.map_append, ← HQ.out]; simp [upQ]
            have HQ6 := hid hq6
            have HL6 : Hid (∀ d ∈ L ++ [x], 0 ≤ d ∧ d ≤ 65535) := fun d hd => by
              rcases List.mem_append.1 hd with h | h
              · exact HL.out d h
              · simp at h; subst h; exact ⟨h0', h1'⟩
            have HLe : Hid ((L ++ [x]).length ≤ 4) := by rw [List.length_append, ← HM.out]; exact hM4
            clear ht3 hf3 ho3 hrun hown hfr hq6
            go_wp2_with (at_builtin; refine wpList_app_run rfl (.tmp 82) (.tmp 84) 46 rfl _ _ rfl rfl 46 rfl _ _ HRUN.out ?_)
            exact ⟨⟨k + 1, L ++ [x], _, by omega, by go_num, HLe.out, HQ6, HL6, HT6, HO6, HB6⟩, by simp [intOf]; omega⟩
    · obtain rfl : len = k := by omega
      have HQ0 : Hid (Q 0 = (L.drop 0).map (fun d => (fr, d))) := HQ
      clear hlt hk hbl
      generalize wr = V0 at *
      go_wp2_with fail
      go_loopw [89] (fun u wr => ∃ (j : Nat) (Q : Nat → List Ms), j ≤ M ∧ u = i64 j ∧ Hid (Q 0 = (L.drop j).map (fun d => (fr, d))) ∧ Hid (Pt wr b b Q) ∧ Hid (wr.ownsRow b 3 1 (.slice ao8 M cap8) M (icells L)) ∧ Hid (Below b w wr)) (fun u _ => M - (intOf u).toNat)
      case atStart => exact ⟨0, Q, by omega, rfl, HQ0, HT, HO, HB⟩
      case round =>
        obtain ⟨j, Q', hj, rfl, HQj, HTj, HOj, HBj⟩ := hrel
        by_cases hlt : j < M
        · have hjI : (j : Int) < M := by omega
          obtain ⟨d, hd⟩ : ∃ d, L[j]? = some d := ⟨_, List.getElem?_eq_getElem (by rw [← HM.out]; exact hlt)⟩
          have hdr := HL.out d (List.mem_of_getElem? hd)
          have hdrop : L.drop j = d :: L.drop (j + 1) := by
            obtain ⟨h1, h2⟩ := List.getElem?_eq_some_iff.1 hd
            rw [← h2]; exact List.drop_eq_getElem_cons h1
          have hqj : Q' 0 = (fr, d) :: (L.drop (j + 1)).map (fun d => (fr, d)) := by rw [HQj.out, hdrop]; rfl
          have HQn : Hid (cutQ20 1 Q' 0 = (L.drop (j + 1)).map (fun d => (fr, d))) := cut20_tail _ _ _ _ _ (by rfl) hqj
          have HRc := hid (HRo.out wr Q' d _ HTj.out hqj)
          rcases HOj.out.2 with ⟨_, hnil⟩ | ⟨g, cap', cur, hv, hbg, hgg, _⟩
          · exfalso; omega
          · simp only [Value.slice.injEq] at hv
            obtain ⟨rfl, _, rfl⟩ := hv
            have cG : wr.cell? ⟨g, j, none⟩ = some (i64 d) := by rw [HOj.out.cellAt j (by omega)]; simp [icells, hd]
            have hgb : g ≠ b := fun e => by obtain ⟨_, _, _, hP, _⟩ := HTj.out.blk; rw [← e, hgg] at hP; simp at hP
            have hgl := blk_lt hgg
            have HG := hid hgg
            have hw := wrap_id (x := d) (by omega) (by omega)
            have hlt2 := HTj.out.lt
            have hne1 : (fr != fr) = false := by simp
            have hne2 : (d != d) = false := by simp
            clear hd hdrop hqj hbg hgg
            go_wp2_with fail
            refine HRc.out.mono ?_
            rintro e w3 ⟨rfl, ht3, htq⟩
            have HTU : Hid (Pt (w3.alloc (.cells #[i64 fr, u16v d] 39)) b b (cutQ20 1 Q')) := ht3.below (below_one w3 _)
            have ho3 : w3.ownsRow b 3 1 (.slice (some ⟨g, 0, none⟩) M cap8) M (icells L) := own_keep1 HOj.out (fun k hk => by
              have : g = k := by simpa [Value.ownBlock] using hk
              subst this
              exact htq.block g hgl hgb)
            have HOU : Hid ((w3.alloc (.cells #[i64 fr, u16v d] 39)).ownsRow b 3 1 (.slice (some ⟨g, 0, none⟩) M cap8) M (icells L)) := own_keep ho3 (fun k C hC => blk_alloc hC _)
            have HXU : Hid ((w3.alloc (.cells #[i64 fr, u16v d] 39)).heap[w3.heap.size]? = some (msO (fr, d))) := heap_last w3 _
            have HBU : Hid (Below b w (w3.alloc (.cells #[i64 fr, u16v d] 39))) := (HBj.out.trans (htq.low (by omega) (Nat.le_refl _))).trans ((below_one w3 _).mono (by have := htq.size; omega))
            clear ht3 htq ho3
            go_upto_region 21 with fail
            obtain ⟨Z, hZ⟩ : ∃ Z, Z = w3.heap.size := ⟨_, rfl⟩
            rw [← hZ] at HXU ⊢
            generalize w3.alloc (.cells #[i64 fr, u16v d] 39) = U at *
            clear hZ
            have y0 : U.cell? ⟨Z, 0, none⟩ = some (i64 fr) := blk_cell HXU.out 0
            have y1 : U.cell? ⟨Z, 1, none⟩ = some (u16v d) := blk_cell HXU.out 1
            go_wp2_with fail
            exact ⟨⟨j + 1, _, by omega, by go_num, HQn, HTU, HOU, HBU⟩, by simp [intOf]; omega⟩
        · obtain rfl : M = j := by omega
          have hqn : Q' 0 = [] := by rw [HQj.out, List.drop_of_length_le (by rw [← HM.out]; exact Nat.le_refl _)]; rfl
          have HRc := hid (HRn.out wr Q' HTj.out hqn)
          have hlt2 := HTj.out.lt
          clear hqn
          go_wp2_with fail
          refine HRc.out.mono ?_
          rintro e w3 ⟨rfl, hb3⟩
          have HBU : Hid (Below b w (w3.alloc (.cells #[i64 0, u16v 0] 39))) := (HBj.out.trans (hb3.mono (by omega))).trans ((below_one w3 _).mono (by have := hb3.size; omega))
          have hsz : b ≤ (w3.alloc (.cells #[i64 0, u16v 0] 39)).heap.size := by have h1 := hb3.size; have h2 := (below_one w3 (.cells #[i64 0, u16v 0] 39)).size; omega
          have HSz := hid hsz
          clear hb3 hsz
          go_upto_region 25 with fail
          generalize w3.alloc (.cells #[i64 0, u16v 0] 39) = U at *
          go_wp2_with fail
          refine (seven_ok _).mono ?_
          rintro e w5 ⟨rfl, hb5⟩
          have HB5 : Hid (Below b w w5) := HBU.out.trans (hb5.mono HSz.out)
          clear hb5
          go_wp2_with fail
          go_ret
          exact ⟨rfl, HB5.out⟩
set_option maxRecDepth 100000 in
set_option maxHeartbeats 6400000 in
theorem order1 (w : World) (ao : Option Addr) (len cap : Nat) (fr : Int) (f : Nat → Int) (hl : len ≤ 20) (hf1 : 1 ≤ fr) (hf2 : fr ≤ 3) (hS : NSl w ao len f) : Calls Try.prog 4 #[.slice ao len cap, i64 fr, i64 2] w fun e w' => e = .returned (.bool true) ∧ Below w.heap.size w w' := by
  obtain ⟨b, hb⟩ : ∃ b, b = w.heap.size := ⟨_, rfl⟩
  have hI : (len : Int) ≤ 20 := by omega
  have hfe : envB fr = true := by unfold envB; simp; omega
  have HN : Hid (Calls Try.prog 7 #[] w fun e w' => e = .returned (pq b) ∧ Pt w' b b zQ ∧ Below b w w') := by rw [hb]; exact new_ok w
  have HSa : Hid (∀ W x, (x < 0 ∨ 65535 < x) → Calls Try.prog 9 #[pq b, i64 fr, i64 2, i64 x] W fun e w' => e = .returned (i64 1) ∧ w' = W) := fun W x hx => send_arg W _ fr 2 x (by unfold sdB; simp; intros; omega)
  have HSo : Hid (∀ W Q x, Pt W b b Q → 0 ≤ x → x ≤ 65535 → (Q 1).length < 4 → Calls Try.prog 9 #[pq b, i64 fr, i64 2, i64 x] W fun e w' => e = .returned (i64 0) ∧ Pt w' b b (upQ Q 1 (fr, x)) ∧ Fr b [54, 39] W w') := fun W Q x hW h0 h1 h4 => sendF1 hW fr x (by unfold sdB; rw [hfe, show envB 2 = true by decide, decide_eq_true h0, decide_eq_true h1]; rfl) h4
  have HSf : Hid (∀ W Q x, Pt W b b Q → 0 ≤ x → x ≤ 65535 → (Q 1).length = 4 → Calls Try.prog 9 #[pq b, i64 fr, i64 2, i64 x] W fun e w' => e = .returned (i64 5) ∧ w' = W) := fun W Q x hW h0 h1 h4 => send1full hW fr x (by unfold sdB; rw [hfe, show envB 2 = true by decide, decide_eq_true h0, decide_eq_true h1]; rfl) h4
  have HRo : Hid (∀ W Q d r, Pt W b b Q → Q 1 = (fr, d) :: r → Calls Try.prog 11 #[pq b, i64 2] W fun e w' => e = .returned (.tuple #[.agg #[i64 fr, u16v d], i64 0]) ∧ Pt w' b b (cutQ20 2 Q) ∧ Tq W.heap.size b W w') := fun W Q d r hW hq => recvF1 hW fr d r hq
  have HRn : Hid (∀ W Q, Pt W b b Q → Q 1 = [] → Calls Try.prog 11 #[pq b, i64 2] W fun e w' => e = .returned (.tuple #[.agg #[i64 0, u16v 0], i64 6]) ∧ Below W.heap.size W w') := fun W Q hW hq => recv_none W _ 2 (by decide) (fun W' hW' => by have := waits1 (hW.below hW'); rw [hq] at this; exact this)
  have HSb : Hid (∀ W, Below b w W → ∀ k, k < len → ∃ B off, ao = some ⟨B, off, none⟩ ∧ W.cell? ⟨B, off + k, none⟩ = some (i64 (f k))) := fun W hW k hk => by
    rw [hb] at hW
    obtain ⟨B, off, h1, _, h2⟩ := (hS.below hW).at hk
    exact ⟨B, off, h1, h2⟩
  rw [← hb]
  clear hS hb hfe
  go_enter Try.func4, Try.ntmps4
  go_wp2_with fail
  refine HN.out.mono ?_
  rintro e w1 ⟨rfl, ht1, hb1⟩
  have HT1 := hid ht1
  have HB1 := hid hb1
  clear ht1 hb1
  go_wp2_with fail
  go_loopw [8, 49] (fun v u wr => ∃ (k : Nat) (L : List Int) (Q : Nat → List Ms), k ≤ len ∧ u = i64 k ∧ L.length ≤ 4 ∧ Hid (Q 1 = L.map (fun d => (fr, d))) ∧ Hid (∀ d ∈ L, 0 ≤ d ∧ d ≤ 65535) ∧ Hid (Pt wr b b Q) ∧ Hid (wr.ownsRow b 3 1 v L.length (icells L)) ∧ Hid (Below b w wr)) (fun _ u _ => len - (intOf u).toNat)
  case atStart => exact ⟨0, [], zQ, by omega, rfl, by simp, hid rfl, hid (fun d hd => by cases hd), HT1, hid (World.ownsRow_nil w1 _ 3 1), HB1⟩
  case round =>
    obtain ⟨k, L, Q, hk, rfl, hL4, HQ, HL, HT, HO, HB⟩ := hrel
    obtain ⟨ao8, cap8, hu8, _⟩ := own_slice HO.out
    subst hu8
    obtain ⟨M, hM⟩ : ∃ M, M = L.length := ⟨_, rfl⟩
    have HM := hid hM
    rw [← hM] at hL4 HO ⊢
    have hMI : (M : Int) ≤ 4 := by omega
    have hQl : (Q 1).length = M := by rw [HQ.out, List.length_map, hM]
    have HQl := hid hQl
    have hbl : b ≤ wr.heap.size := Nat.le_of_lt HT.out.lt
    clear hM hQl
    by_cases hlt : k < len
    · have hkI : (k : Int) < len := by omega
      obtain ⟨B, off, hao, c0⟩ := HSb.out wr HB.out k hlt
      subst hao
      obtain ⟨x, hx⟩ : ∃ x, x = f k := ⟨_, rfl⟩
      rw [← hx] at c0
      clear hx
      by_cases h0 : x < 0
      · go_wp2_with fail
        refine (HSa.out wr x (Or.inl h0)).mono ?_
        rintro e v2 ⟨rfl, hv⟩
        replace hv := hv.symm
        subst hv
        go_wp2_with fail
        exact ⟨⟨k + 1, L, Q, by omega, by go_num, by rw [← HM.out]; exact hL4, HQ, HL, HT, by rw [← HM.out]; exact HO, HB⟩, by simp [intOf]; omega⟩
      · by_cases h1 : 65535 < x
        · go_wp2_with fail
          refine (HSa.out wr x (Or.inr h1)).mono ?_
          rintro e v2 ⟨rfl, hv⟩
          replace hv := hv.symm
          subst hv
          go_wp2_with fail
          exact ⟨⟨k + 1, L, Q, by omega, by go_num, by rw [← HM.out]; exact hL4, HQ, HL, HT, by rw [← HM.out]; exact HO, HB⟩, by simp [intOf]; omega⟩
        · have h0' : 0 ≤ x := by omega
          have h1' : x ≤ 65535 := by omega
          clear h0 h1
          by_cases h4 : M = 4
          · have h4I : (M : Int) = 4 := by omega
            have hd4 : decide ((M : Int) < 4) = false := by simp; omega
            have HC4 := hid (HSf.out wr Q x HT.out h0' h1' (by rw [HQl.out]; exact h4))
            have HE : Hid (M = 4) := h4
            clear h4 h4I
            go_wp2_with fail
            refine HC4.out.mono ?_
            rintro e v2 ⟨rfl, hv⟩
            replace hv := hv.symm
            subst hv
            go_wp2_with fail
            exact ⟨⟨k + 1, L, Q, by omega, by go_num, by rw [← HM.out]; exact hL4, HQ, HL, HT, by rw [← HM.out]; exact HO, HB⟩, by simp [intOf]; omega⟩
          · have hd4 : decide ((M : Int) < 4) = true := by simp; omega
            have hM4 : M < 4 := by omega
            have HC4 := hid (HSo.out wr Q x HT.out h0' h1' (by rw [HQl.out]; exact hM4))
            clear h4
            go_wp2_with fail
            refine HC4.out.mono ?_
            rintro e w3 ⟨rfl, ht3, hf3⟩
            have ho3 : w3.ownsRow b 3 1 (.slice ao8 M cap8) M (icells L) := own_keep HO.out (fun k C hC => hf3.kept _ _ hC (by rfl))
            obtain ⟨ao9, cap9, w6, hrun, hown, hfr, _⟩ := app_far (te := 3) under46 info3x rfl (by omega) (by omega) ho3 [i64 x] rfl (by intro u hu; simp at hu; subst hu; rfl) (by omega) (Nat.le_trans hbl hf3.size)
            have HRUN := hid hrun
            have HO6 : Hid (w6.ownsRow b 3 1 (.slice ao9 (M + 1) cap9) (L ++ [x]).length (icells (L ++ [x]))) := by rw [List.length_append, ← HM.out, icells_app]; exact hown
            have HT6 : Hid (Pt w6 b b (upQ Q 1 (fr, x))) := ht3.fr3 hfr
            have HB6 : Hid (Below b w w6) := (HB.out.trans hf3.below).trans hfr.below
            have hq6 : upQ Q 1 (fr, x) 1 = (L ++ [x]).map (fun d => (fr, d)) := by rw [List.map_append, ← HQ.out]; simp [upQ]
            have HQ6 := hid hq6
            have HL6 : Hid (∀ d ∈ L ++ [x], 0 ≤ d ∧ d ≤ 65535) := fun d hd => by
              rcases List.mem_append.1 hd with h | h
              · exact HL.out d h
              · simp at h; subst h; exact ⟨h0', h1'⟩
            have HLe : Hid ((L ++ [x]).length ≤ 4) := by rw [List.length_append, ← HM.out]; exact hM4
            clear ht3 hf3 ho3 hrun hown hfr hq6
            go_wp2_with (at_builtin; refine wpList_app_run rfl (.tmp 82) (.tmp 84) 46 rfl _ _ rfl rfl 46 rfl _ _ HRUN.out ?_)
            exact ⟨⟨k + 1, L ++ [x], _, by omega, by go_num, HLe.out, HQ6, HL6, HT6, HO6, HB6⟩, by simp [intOf]; omega⟩
    · obtain rfl : len = k := by omega
      have HQ0 : Hid (Q 1 = (L.drop 0).map (fun d => (fr, d))) := HQ
      clear hlt hk hbl
      generalize wr = V0 at *
      go_wp2_with fail
      go_loopw [89] (fun u wr => ∃ (j : Nat) (Q : Nat → List Ms), j ≤ M ∧ u = i64 j ∧ Hid (Q 1 = (L.drop j).map (fun d => (fr, d))) ∧ Hid (Pt wr b b Q) ∧ Hid (wr.ownsRow b 3 1 (.slice ao8 M cap8) M (icells L)) ∧ Hid (Below b w wr)) (fun u _ => M - (intOf u).toNat)
      case atStart => exact ⟨0, Q, by omega, rfl, HQ0, HT, HO, HB⟩
      case round =>
        obtain ⟨j, Q', hj, rfl, HQj, HTj, HOj, HBj⟩ := hrel
        by_cases hlt : j < M
        · have hjI : (j : Int) < M := by omega
          obtain ⟨d, hd⟩ : ∃ d, L[j]? = some d := ⟨_, List.getElem?_eq_getElem (by rw [← HM.out]; exact hlt)⟩
          have hdr := HL.out d (List.mem_of_getElem? hd)
          have hdrop : L.drop j = d :: L.drop (j + 1) := by
            obtain ⟨h1, h2⟩ := List.getElem?_eq_some_iff.1 hd
            rw [← h2]; exact List.drop_eq_getElem_cons h1
          have hqj : Q' 1 = (fr, d) :: (L.drop (j + 1)).map (fun d => (fr, d)) := by rw [HQj.out, hdrop]; rfl
          have HQn : Hid (cutQ20 2 Q' 1 = (L.drop (j + 1)).map (fun d => (fr, d))) := cut20_tail _ _ _ _ _ (by rfl) hqj
          have HRc := hid (HRo.out wr Q' d _ HTj.out hqj)
          rcases HOj.out.2 with ⟨_, hnil⟩ | ⟨g, cap', cur, hv, hbg, hgg, _⟩
          · exfalso; omega
          · simp only [Value.slice.injEq] at hv
            obtain ⟨rfl, _, rfl⟩ := hv
            have cG : wr.cell? ⟨g, j, none⟩ = some (i64 d) := by rw [HOj.out.cellAt j (by omega)]; simp [icells, hd]
            have hgb : g ≠ b := fun e => by obtain ⟨_, _, _, hP, _⟩ := HTj.out.blk; rw [← e, hgg] at hP; simp at hP
            have hgl := blk_lt hgg
            have HG := hid hgg
            have hw := wrap_id (x := d) (by omega) (by omega)
            have hlt2 := HTj.out.lt
            have hne1 : (fr != fr) = false := by simp
            have hne2 : (d != d) = false := by simp
            clear hd hdrop hqj hbg hgg
            go_wp2_with fail
            refine HRc.out.mono ?_
            rintro e w3 ⟨rfl, ht3, htq⟩
            have HTU : Hid (Pt (w3.alloc (.cells #[i64 fr, u16v d] 39)) b b (cutQ20 2 Q')) := ht3.below (below_one w3 _)
            have ho3 : w3.ownsRow b 3 1 (.slice (some ⟨g, 0, none⟩) M cap8) M (icells L) := own_keep1 HOj.out (fun k hk => by
              have : g = k := by simpa [Value.ownBlock] using hk
              subst this
              exact htq.block g hgl hgb)
            have HOU : Hid ((w3.alloc (.cells #[i64 fr, u16v d] 39)).ownsRow b 3 1 (.slice (some ⟨g, 0, none⟩) M cap8) M (icells L)) := own_keep ho3 (fun k C hC => blk_alloc hC _)
            have HXU : Hid ((w3.alloc (.cells #[i64 fr, u16v d] 39)).heap[w3.heap.size]? = some (msO (fr, d))) := heap_last w3 _
            have HBU : Hid (Below b w (w3.alloc (.cells #[i64 fr, u16v d] 39))) := (HBj.out.trans (htq.low (by omega) (Nat.le_refl _))).trans ((below_one w3 _).mono (by have := htq.size; omega))
            clear ht3 htq ho3
            go_upto_region 21 with fail
            obtain ⟨Z, hZ⟩ : ∃ Z, Z = w3.heap.size := ⟨_, rfl⟩
            rw [← hZ] at HXU ⊢
            generalize w3.alloc (.cells #[i64 fr, u16v d] 39) = U at *
            clear hZ
            have y0 : U.cell? ⟨Z, 0, none⟩ = some (i64 fr) := blk_cell HXU.out 0
            have y1 : U.cell? ⟨Z, 1, none⟩ = some (u16v d) := blk_cell HXU.out 1
            go_wp2_with fail
            exact ⟨⟨j + 1, _, by omega, by go_num, HQn, HTU, HOU, HBU⟩, by simp [intOf]; omega⟩
        · obtain rfl : M = j := by omega
          have hqn : Q' 1 = [] := by rw [HQj.out, List.drop_of_length_le (by rw [← HM.out]; exact Nat.le_refl _)]; rfl
          have HRc := hid (HRn.out wr Q' HTj.out hqn)
          have hlt2 := HTj.out.lt
          clear hqn
          go_wp2_with fail
          refine HRc.out.mono ?_
          rintro e w3 ⟨rfl, hb3⟩
          have HBU : Hid (Below b w (w3.alloc (.cells #[i64 0, u16v 0] 39))) := (HBj.out.trans (hb3.mono (by omega))).trans ((below_one w3 _).mono (by have := hb3.size; omega))
          have hsz : b ≤ (w3.alloc (.cells #[i64 0, u16v 0] 39)).heap.size := by have h1 := hb3.size; have h2 := (below_one w3 (.cells #[i64 0, u16v 0] 39)).size; omega
          have HSz := hid hsz
          clear hb3 hsz
          go_upto_region 25 with fail
          generalize w3.alloc (.cells #[i64 0, u16v 0] 39) = U at *
          go_wp2_with fail
          refine (seven_ok _).mono ?_
          rintro e w5 ⟨rfl, hb5⟩
          have HB5 : Hid (Below b w w5) := HBU.out.trans (hb5.mono HSz.out)
          clear hb5
          go_wp2_with fail
          go_ret
          exact ⟨rfl, HB5.out⟩
set_option maxRecDepth 100000 in
set_option maxHeartbeats 6400000 in
theorem order2 (w : World) (ao : Option Addr) (len cap : Nat) (fr : Int) (f : Nat → Int) (hl : len ≤ 20) (hf1 : 1 ≤ fr) (hf2 : fr ≤ 3) (hS : NSl w ao len f) : Calls Try.prog 4 #[.slice ao len cap, i64 fr, i64 3] w fun e w' => e = .returned (.bool true) ∧ Below w.heap.size w w' := by
  obtain ⟨b, hb⟩ : ∃ b, b = w.heap.size := ⟨_, rfl⟩
  have hI : (len : Int) ≤ 20 := by omega
  have hfe : envB fr = true := by unfold envB; simp; omega
  have HN : Hid (Calls Try.prog 7 #[] w fun e w' => e = .returned (pq b) ∧ Pt w' b b zQ ∧ Below b w w') := by rw [hb]; exact new_ok w
  have HSa : Hid (∀ W x, (x < 0 ∨ 65535 < x) → Calls Try.prog 9 #[pq b, i64 fr, i64 3, i64 x] W fun e w' => e = .returned (i64 1) ∧ w' = W) := fun W x hx => send_arg W _ fr 3 x (by unfold sdB; simp; intros; omega)
  have HSo : Hid (∀ W Q x, Pt W b b Q → 0 ≤ x → x ≤ 65535 → (Q 2).length < 4 → Calls Try.prog 9 #[pq b, i64 fr, i64 3, i64 x] W fun e w' => e = .returned (i64 0) ∧ Pt w' b b (upQ Q 2 (fr, x)) ∧ Fr b [54, 39] W w') := fun W Q x hW h0 h1 h4 => sendF2 hW fr x (by unfold sdB; rw [hfe, show envB 3 = true by decide, decide_eq_true h0, decide_eq_true h1]; rfl) h4
  have HSf : Hid (∀ W Q x, Pt W b b Q → 0 ≤ x → x ≤ 65535 → (Q 2).length = 4 → Calls Try.prog 9 #[pq b, i64 fr, i64 3, i64 x] W fun e w' => e = .returned (i64 5) ∧ w' = W) := fun W Q x hW h0 h1 h4 => send2full hW fr x (by unfold sdB; rw [hfe, show envB 3 = true by decide, decide_eq_true h0, decide_eq_true h1]; rfl) h4
  have HRo : Hid (∀ W Q d r, Pt W b b Q → Q 2 = (fr, d) :: r → Calls Try.prog 11 #[pq b, i64 3] W fun e w' => e = .returned (.tuple #[.agg #[i64 fr, u16v d], i64 0]) ∧ Pt w' b b (cutQ20 3 Q) ∧ Tq W.heap.size b W w') := fun W Q d r hW hq => recvF2 hW fr d r hq
  have HRn : Hid (∀ W Q, Pt W b b Q → Q 2 = [] → Calls Try.prog 11 #[pq b, i64 3] W fun e w' => e = .returned (.tuple #[.agg #[i64 0, u16v 0], i64 6]) ∧ Below W.heap.size W w') := fun W Q hW hq => recv_none W _ 3 (by decide) (fun W' hW' => by have := waits2 (hW.below hW'); rw [hq] at this; exact this)
  have HSb : Hid (∀ W, Below b w W → ∀ k, k < len → ∃ B off, ao = some ⟨B, off, none⟩ ∧ W.cell? ⟨B, off + k, none⟩ = some (i64 (f k))) := fun W hW k hk => by
    rw [hb] at hW
    obtain ⟨B, off, h1, _, h2⟩ := (hS.below hW).at hk
    exact ⟨B, off, h1, h2⟩
  rw [← hb]
  clear hS hb hfe
  go_enter Try.func4, Try.ntmps4
  go_wp2_with fail
  refine HN.out.mono ?_
  rintro e w1 ⟨rfl, ht1, hb1⟩
  have HT1 := hid ht1
  have HB1 := hid hb1
  clear ht1 hb1
  go_wp2_with fail
  go_loopw [8, 49] (fun v u wr => ∃ (k : Nat) (L : List Int) (Q : Nat → List Ms), k ≤ len ∧ u = i64 k ∧ L.length ≤ 4 ∧ Hid (Q 2 = L.map (fun d => (fr, d))) ∧ Hid (∀ d ∈ L, 0 ≤ d ∧ d ≤ 65535) ∧ Hid (Pt wr b b Q) ∧ Hid (wr.ownsRow b 3 1 v L.length (icells L)) ∧ Hid (Below b w wr)) (fun _ u _ => len - (intOf u).toNat)
  case atStart => exact ⟨0, [], zQ, by omega, rfl, by simp, hid rfl, hid (fun d hd => by cases hd), HT1, hid (World.ownsRow_nil w1 _ 3 1), HB1⟩
  case round =>
    obtain ⟨k, L, Q, hk, rfl, hL4, HQ, HL, HT, HO, HB⟩ := hrel
    obtain ⟨ao8, cap8, hu8, _⟩ := own_slice HO.out
    subst hu8
    obtain ⟨M, hM⟩ : ∃ M, M = L.length := ⟨_, rfl⟩
    have HM := hid hM
    rw [← hM] at hL4 HO ⊢
    have hMI : (M : Int) ≤ 4 := by omega
    have hQl : (Q 2).length = M := by rw [HQ.out, List.length_map, hM]
    have HQl := hid hQl
    have hbl : b ≤ wr.heap.size := Nat.le_of_lt HT.out.lt
    clear hM hQl
    by_cases hlt : k < len
    · have hkI : (k : Int) < len := by omega
      obtain ⟨B, off, hao, c0⟩ := HSb.out wr HB.out k hlt
      subst hao
      obtain ⟨x, hx⟩ : ∃ x, x = f k := ⟨_, rfl⟩
      rw [← hx] at c0
      clear hx
      by_cases h0 : x < 0
      · go_wp2_with fail
        refine (HSa.out wr x (Or.inl h0)).mono ?_
        rintro e v2 ⟨rfl, hv⟩
        replace hv := hv.symm
        subst hv
        go_wp2_with fail
        exact ⟨⟨k + 1, L, Q, by omega, by go_num, by rw [← HM.out]; exact hL4, HQ, HL, HT, by rw [← HM.out]; exact HO, HB⟩, by simp [intOf]; omega⟩
      · by_cases h1 : 65535 < x
        · go_wp2_with fail
          refine (HSa.out wr x (Or.inr h1)).mono ?_
          rintro e v2 ⟨rfl, hv⟩
          replace hv := hv.symm
          subst hv
          go_wp2_with fail
          exact ⟨⟨k + 1, L, Q, by omega, by go_num, by rw [← HM.out]; exact hL4, HQ, HL, HT, by rw [← HM.out]; exact HO, HB⟩, by simp [intOf]; omega⟩
        · have h0' : 0 ≤ x := by omega
          have h1' : x ≤ 65535 := by omega
          clear h0 h1
          by_cases h4 : M = 4
          · have h4I : (M : Int) = 4 := by omega
            have hd4 : decide ((M : Int) < 4) = false := by simp; omega
            have HC4 := hid (HSf.out wr Q x HT.out h0' h1' (by rw [HQl.out]; exact h4))
            have HE : Hid (M = 4) := h4
            clear h4 h4I
            go_wp2_with fail
            refine HC4.out.mono ?_
            rintro e v2 ⟨rfl, hv⟩
            replace hv := hv.symm
            subst hv
            go_wp2_with fail
            exact ⟨⟨k + 1, L, Q, by omega, by go_num, by rw [← HM.out]; exact hL4, HQ, HL, HT, by rw [← HM.out]; exact HO, HB⟩, by simp [intOf]; omega⟩
          · have hd4 : decide ((M : Int) < 4) = true := by simp; omega
            have hM4 : M < 4 := by omega
            have HC4 := hid (HSo.out wr Q x HT.out h0' h1' (by rw [HQl.out]; exact hM4))
            clear h4
            go_wp2_with fail
            refine HC4.out.mono ?_
            rintro e w3 ⟨rfl, ht3, hf3⟩
            have ho3 : w3.ownsRow b 3 1 (.slice ao8 M cap8) M (icells L) := own_keep HO.out (fun k C hC => hf3.kept _ _ hC (by rfl))
            obtain ⟨ao9, cap9, w6, hrun, hown, hfr, _⟩ := app_far (te := 3) under46 info3x rfl (by omega) (by omega) ho3 [i64 x] rfl (by intro u hu; simp at hu; subst hu; rfl) (by omega) (Nat.le_trans hbl hf3.size)
            have HRUN := hid hrun
            have HO6 : Hid (w6.ownsRow b 3 1 (.slice ao9 (M + 1) cap9) (L ++ [x]).length (icells (L ++ [x]))) := by rw [List.length_append, ← HM.out, icells_app]; exact hown
            have HT6 : Hid (Pt w6 b b (upQ Q 2 (fr, x))) := ht3.fr3 hfr
            have HB6 : Hid (Below b w w6) := (HB.out.trans hf3.below).trans hfr.below
            have hq6 : upQ Q 2 (fr, x) 2 = (L ++ [x]).map (fun d => (fr, d)) := by rw [List.map_append, ← HQ.out]; simp [upQ]
            have HQ6 := hid hq6
            have HL6 : Hid (∀ d ∈ L ++ [x], 0 ≤ d ∧ d ≤ 65535) := fun d hd => by
              rcases List.mem_append.1 hd with h | h
              · exact HL.out d h
              · simp at h; subst h; exact ⟨h0', h1'⟩
            have HLe : Hid ((L ++ [x]).length ≤ 4) := by rw [List.length_append, ← HM.out]; exact hM4
            clear ht3 hf3 ho3 hrun hown hfr hq6
            go_wp2_with (at_builtin; refine wpList_app_run rfl (.tmp 82) (.tmp 84) 46 rfl _ _ rfl rfl 46 rfl _ _ HRUN.out ?_)
            exact ⟨⟨k + 1, L ++ [x], _, by omega, by go_num, HLe.out, HQ6, HL6, HT6, HO6, HB6⟩, by simp [intOf]; omega⟩
    · obtain rfl : len = k := by omega
      have HQ0 : Hid (Q 2 = (L.drop 0).map (fun d => (fr, d))) := HQ
      clear hlt hk hbl
      generalize wr = V0 at *
      go_wp2_with fail
      go_loopw [89] (fun u wr => ∃ (j : Nat) (Q : Nat → List Ms), j ≤ M ∧ u = i64 j ∧ Hid (Q 2 = (L.drop j).map (fun d => (fr, d))) ∧ Hid (Pt wr b b Q) ∧ Hid (wr.ownsRow b 3 1 (.slice ao8 M cap8) M (icells L)) ∧ Hid (Below b w wr)) (fun u _ => M - (intOf u).toNat)
      case atStart => exact ⟨0, Q, by omega, rfl, HQ0, HT, HO, HB⟩
      case round =>
        obtain ⟨j, Q', hj, rfl, HQj, HTj, HOj, HBj⟩ := hrel
        by_cases hlt : j < M
        · have hjI : (j : Int) < M := by omega
          obtain ⟨d, hd⟩ : ∃ d, L[j]? = some d := ⟨_, List.getElem?_eq_getElem (by rw [← HM.out]; exact hlt)⟩
          have hdr := HL.out d (List.mem_of_getElem? hd)
          have hdrop : L.drop j = d :: L.drop (j + 1) := by
            obtain ⟨h1, h2⟩ := List.getElem?_eq_some_iff.1 hd
            rw [← h2]; exact List.drop_eq_getElem_cons h1
          have hqj : Q' 2 = (fr, d) :: (L.drop (j + 1)).map (fun d => (fr, d)) := by rw [HQj.out, hdrop]; rfl
          have HQn : Hid (cutQ20 3 Q' 2 = (L.drop (j + 1)).map (fun d => (fr, d))) := cut20_tail _ _ _ _ _ (by rfl) hqj
          have HRc := hid (HRo.out wr Q' d _ HTj.out hqj)
          rcases HOj.out.2 with ⟨_, hnil⟩ | ⟨g, cap', cur, hv, hbg, hgg, _⟩
          · exfalso; omega
          · simp only [Value.slice.injEq] at hv
            obtain ⟨rfl, _, rfl⟩ := hv
            have cG : wr.cell? ⟨g, j, none⟩ = some (i64 d) := by rw [HOj.out.cellAt j (by omega)]; simp [icells, hd]
            have hgb : g ≠ b := fun e => by obtain ⟨_, _, _, hP, _⟩ := HTj.out.blk; rw [← e, hgg] at hP; simp at hP
            have hgl := blk_lt hgg
            have HG := hid hgg
            have hw := wrap_id (x := d) (by omega) (by omega)
            have hlt2 := HTj.out.lt
            have hne1 : (fr != fr) = false := by simp
            have hne2 : (d != d) = false := by simp
            clear hd hdrop hqj hbg hgg
            go_wp2_with fail
            refine HRc.out.mono ?_
            rintro e w3 ⟨rfl, ht3, htq⟩
            have HTU : Hid (Pt (w3.alloc (.cells #[i64 fr, u16v d] 39)) b b (cutQ20 3 Q')) := ht3.below (below_one w3 _)
            have ho3 : w3.ownsRow b 3 1 (.slice (some ⟨g, 0, none⟩) M cap8) M (icells L) := own_keep1 HOj.out (fun k hk => by
              have : g = k := by simpa [Value.ownBlock] using hk
              subst this
              exact htq.block g hgl hgb)
            have HOU : Hid ((w3.alloc (.cells #[i64 fr, u16v d] 39)).ownsRow b 3 1 (.slice (some ⟨g, 0, none⟩) M cap8) M (icells L)) := own_keep ho3 (fun k C hC => blk_alloc hC _)
            have HXU : Hid ((w3.alloc (.cells #[i64 fr, u16v d] 39)).heap[w3.heap.size]? = some (msO (fr, d))) := heap_last w3 _
            have HBU : Hid (Below b w (w3.alloc (.cells #[i64 fr, u16v d] 39))) := (HBj.out.trans (htq.low (by omega) (Nat.le_refl _))).trans ((below_one w3 _).mono (by have := htq.size; omega))
            clear ht3 htq ho3
            go_upto_region 21 with fail
            obtain ⟨Z, hZ⟩ : ∃ Z, Z = w3.heap.size := ⟨_, rfl⟩
            rw [← hZ] at HXU ⊢
            generalize w3.alloc (.cells #[i64 fr, u16v d] 39) = U at *
            clear hZ
            have y0 : U.cell? ⟨Z, 0, none⟩ = some (i64 fr) := blk_cell HXU.out 0
            have y1 : U.cell? ⟨Z, 1, none⟩ = some (u16v d) := blk_cell HXU.out 1
            go_wp2_with fail
            exact ⟨⟨j + 1, _, by omega, by go_num, HQn, HTU, HOU, HBU⟩, by simp [intOf]; omega⟩
        · obtain rfl : M = j := by omega
          have hqn : Q' 2 = [] := by rw [HQj.out, List.drop_of_length_le (by rw [← HM.out]; exact Nat.le_refl _)]; rfl
          have HRc := hid (HRn.out wr Q' HTj.out hqn)
          have hlt2 := HTj.out.lt
          clear hqn
          go_wp2_with fail
          refine HRc.out.mono ?_
          rintro e w3 ⟨rfl, hb3⟩
          have HBU : Hid (Below b w (w3.alloc (.cells #[i64 0, u16v 0] 39))) := (HBj.out.trans (hb3.mono (by omega))).trans ((below_one w3 _).mono (by have := hb3.size; omega))
          have hsz : b ≤ (w3.alloc (.cells #[i64 0, u16v 0] 39)).heap.size := by have h1 := hb3.size; have h2 := (below_one w3 (.cells #[i64 0, u16v 0] 39)).size; omega
          have HSz := hid hsz
          clear hb3 hsz
          go_upto_region 25 with fail
          generalize w3.alloc (.cells #[i64 0, u16v 0] 39) = U at *
          go_wp2_with fail
          refine (seven_ok _).mono ?_
          rintro e w5 ⟨rfl, hb5⟩
          have HB5 : Hid (Below b w w5) := HBU.out.trans (hb5.mono HSz.out)
          clear hb5
          go_wp2_with fail
          go_ret
          exact ⟨rfl, HB5.out⟩
theorem order_any (w : World) (ao : Option Addr) (len cap : Nat) (fr t : Int) (f : Nat → Int) (hlen : len ≤ maxLen) (hS : NSl w ao len f) : Calls Try.prog 4 #[.slice ao len cap, i64 fr, i64 t] w fun e w' => e = .returned (.bool true) ∧ Below w.heap.size w w' := by
  by_cases h0 : 20 < len
  · exact order_out1 w ao len cap fr t hlen h0
  by_cases h1 : fr < 1
  · exact order_out2 w ao len cap fr t hlen (by omega) h1
  by_cases h2 : 3 < fr
  · exact order_out3 w ao len cap fr t hlen (by omega) (by omega) h2
  by_cases h3 : t < 1
  · exact order_out4 w ao len cap fr t hlen (by omega) (by omega) (by omega) h3
  by_cases h4 : 3 < t
  · exact order_out5 w ao len cap fr t hlen (by omega) (by omega) (by omega) (by omega) h4
  obtain rfl | rfl | rfl : t = 1 ∨ t = 2 ∨ t = 3 := by omega
  · exact order0 w ao len cap fr f (by omega) (by omega) (by omega) hS
  · exact order1 w ao len cap fr f (by omega) (by omega) (by omega) hS
  · exact order2 w ao len cap fr f (by omega) (by omega) (by omega) hS
end Go.Proofs.Ytmijjgpelihhnaa
