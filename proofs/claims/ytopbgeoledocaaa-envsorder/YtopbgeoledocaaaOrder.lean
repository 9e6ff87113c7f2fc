/- EnvsOrder's walk; no statement is proved in this text. -/
import Derived.Test.YtopbgeoledocaaaArgs
namespace Go.Proofs.Ytopbgeoledocaaa
open Go.ChangeShapes Go.WideShapes Go.ChangeAt Go.RowKit Go.Deep
attribute [local go_sem ↓] Go.wp_at_zero Go.wp_at_succ

theorem slice_cap {H : Type} {enc : TypeId × Value → H} {W : World} {spare : Nat → Bool} {held : Bool} {a : Option Addr} {len cap : Nat} {d : DataW H} {ps : List MemPlace}
    (h : DataW.Trod enc Try.prog W 0 spare held 43 (.slice a len cap) d ps) : len ≤ cap := by
  obtain ⟨fuel, hf⟩ := h
  rcases Deep.open_slice Try.underlying43 hf with ⟨hcs, _⟩ | ⟨x, len', cap', m, n, D, Pl, hcs, _, hl, _⟩
  · simp [Value.cells] at hcs
    obtain ⟨rfl, rfl, rfl⟩ := hcs
    exact Nat.le_refl _
  · simp [Value.cells] at hcs
    obtain ⟨rfl, rfl, rfl⟩ := hcs
    exact hl
def atE (e : En) : Nat → Int × Int
  | 0 => (e.k0, e.n0)
  | 1 => (e.k1, e.n1)
  | 2 => (e.k2, e.n2)
  | 3 => (e.k3, e.n3)
  | _ => (0, 0)
structure Qe (f : Nat → Int) (s c : Nat) (l : Int) (e : En) : Prop where
  ws : e.ws = c
  lost : e.lost = l
  le : c ≤ 4
  at' : ∀ i, i < c → atE e i = (1, f (s + i))
theorem Qe.post {f : Nat → Int} {s c : Nat} {l : Int} {e : En} (h : Qe f s c l e) (hc : c < 4) : Qe f s (c + 1) l (poE e 1 (f (s + c))) := by
  have hw := h.ws
  have hl := h.lost
  rcases (show c = 0 ∨ c = 1 ∨ c = 2 ∨ c = 3 by omega) with rfl | rfl | rfl | rfl
  · refine ⟨by simp [poE, hw], by simp [poE, hw, hl], by omega, fun i hi => ?_⟩
    obtain rfl : i = 0 := by omega
    simp [poE, hw, atE]
  · have h0 := h.at' 0 (by omega)
    refine ⟨by simp [poE, hw], by simp [poE, hw, hl], by omega, fun i hi => ?_⟩
    rcases (show i = 0 ∨ i = 1 by omega) with rfl | rfl
    · simpa [poE, hw, atE] using h0
    · simp [poE, hw, atE]
  · have h0 := h.at' 0 (by omega)
    have h1 := h.at' 1 (by omega)
    refine ⟨by simp [poE, hw], by simp [poE, hw, hl], by omega, fun i hi => ?_⟩
    rcases (show i = 0 ∨ i = 1 ∨ i = 2 by omega) with rfl | rfl | rfl
    · simpa [poE, hw, atE] using h0
    · simpa [poE, hw, atE] using h1
    · simp [poE, hw, atE]
  · have h0 := h.at' 0 (by omega)
    have h1 := h.at' 1 (by omega)
    have h2 := h.at' 2 (by omega)
    refine ⟨by simp [poE, hw], by simp [poE, hw, hl], by omega, fun i hi => ?_⟩
    rcases (show i = 0 ∨ i = 1 ∨ i = 2 ∨ i = 3 by omega) with rfl | rfl | rfl | rfl
    · simpa [poE, hw, atE] using h0
    · simpa [poE, hw, atE] using h1
    · simpa [poE, hw, atE] using h2
    · simp [poE, hw, atE]
theorem Qe.full {f : Nat → Int} {s : Nat} {l : Int} {e : En} (h : Qe f s 4 l e) : Qe f (s + 1) 4 (l + 1) (poE e 1 (f (s + 4))) := by
  have hw := h.ws
  have hl := h.lost
  have h1 := h.at' 1 (by omega)
  have h2 := h.at' 2 (by omega)
  have h3 := h.at' 3 (by omega)
  refine ⟨by simp [poE, hw], by simp [poE, hw, hl], by omega, fun i hi => ?_⟩
  rcases (show i = 0 ∨ i = 1 ∨ i = 2 ∨ i = 3 by omega) with rfl | rfl | rfl | rfl
  · simpa [poE, hw, atE] using h1
  · simpa [poE, hw, atE, Nat.add_assoc] using h2
  · simpa [poE, hw, atE, Nat.add_assoc] using h3
  · simp [poE, hw, atE, Nat.add_assoc]
theorem Qe.take {f : Nat → Int} {s c : Nat} {l : Int} {e : En} (h : Qe f s (c + 1) l e) : e.k0 = 1 ∧ e.n0 = f s ∧ Qe f (s + 1) c l (shE e) := by
  have hw := h.ws
  have hl := h.lost
  have hle := h.le
  have h0 := h.at' 0 (by omega)
  simp only [atE, Nat.add_zero, Prod.mk.injEq] at h0
  refine ⟨h0.1, h0.2, by simp [shE, hw], by simp [shE, hl], by omega, fun i hi => ?_⟩
  rcases (show i = 0 ∨ i = 1 ∨ i = 2 by omega) with rfl | rfl | rfl
  · have h1 := h.at' 1 (by omega)
    simpa [shE, atE] using h1
  · have h2 := h.at' 2 (by omega)
    simpa [shE, atE, Nat.add_assoc] using h2
  · have h3 := h.at' 3 (by omega)
    simpa [shE, atE, Nat.add_assoc] using h3
/-- Environment 2 in memory. -/
def Pe (b : Nat) (f : Nat → Int) (s c : Nat) (l : Int) (W : World) : Prop := ∃ E, Tb W b b E ∧ ∃ e, stE E 2 = some e ∧ Qe f s c l e
theorem Pe.lt {b : Nat} {f : Nat → Int} {s c : Nat} {l : Int} {W : World} (h : Pe b f s c l W) : b < W.heap.size := by
  obtain ⟨E, hE, _⟩ := h
  exact hE.lt
theorem Pe.below {b : Nat} {f : Nat → Int} {s c : Nat} {l : Int} {W W' : World} (h : Pe b f s c l W) (hb : Below W.heap.size W W') : Pe b f s c l W' := by
  obtain ⟨E, hE, r⟩ := h
  exact ⟨E, hE.below hb, r⟩
theorem post_pe {b : Nat} {f : Nat → Int} {s c s2 c2 : Nat} {l l2 : Int} {W : World} (h : Pe b f s c l W) (hl : 0 ≤ l ∧ l ≤ 100) (hq : ∀ e, Qe f s c l e → Qe f s2 c2 l2 (poE e 1 (f (s + c)))) : Calls Try.prog 18 #[pq b, i64 2, upV 1 (f (s + c))] W fun e w' => e = .returned (i64 0) ∧ Pe b f s2 c2 l2 w' ∧ Below b W w' := by
  obtain ⟨E, hE, e, he, hQ⟩ := h
  refine (post_ok hE 2 1 (f (s + c)) (fun x hx => by rw [he] at hx; cases hx; rw [hQ.lost]; omega)).mono fun _ _ ⟨g1, g2, g3⟩ => ⟨?_, ⟨_, g2, poE e 1 (f (s + c)), ?_, hq e hQ⟩, g3.below⟩
  · rw [he] at g1; exact g1
  · unfold poT
    rw [he]
    simp only [show kdB 1 = true by decide, Bool.true_eq_false, if_false]
    exact stE_up (by decide) _
theorem take_pe {b : Nat} {f : Nat → Int} {s c : Nat} {l : Int} {W : World} (h : Pe b f s (c + 1) l W) : Calls Try.prog 19 #[pq b, i64 2] W fun e w' => e = .returned (.tuple #[upV 1 (f s), i64 0]) ∧ Pe b f (s + 1) c l w' ∧ Below b W w' := by
  obtain ⟨E, hE, e, he, hQ⟩ := h
  obtain ⟨q1, q2, q3⟩ := hQ.take
  have hw : ¬ e.ws = 0 := by have := hQ.ws; omega
  refine (take_ok hE 2).mono fun _ _ ⟨g1, g2, g3⟩ => ⟨?_, ⟨_, g2, shE e, ?_, q3⟩, g3.below⟩
  · rw [he] at g1
    simp only [tkV, hw, if_false, q1, q2] at g1
    exact g1
  · unfold tkT
    rw [he]
    simp only [hw, if_false]
    exact stE_up (by decide) _
theorem none_pe {b : Nat} {f : Nat → Int} {s : Nat} {l : Int} {W : World} (h : Pe b f s 0 l W) : Calls Try.prog 19 #[pq b, i64 2] W fun e w' => e = .returned (.tuple #[upV 0 0, i64 7]) ∧ Pe b f s 0 l w' ∧ Below b W w' := by
  obtain ⟨E, hE, e, he, hQ⟩ := h
  have hw : e.ws = 0 := by have := hQ.ws; omega
  refine (take_ok hE 2).mono fun _ _ ⟨g1, g2, g3⟩ => ⟨?_, ⟨_, g2, e, ?_, hQ⟩, g3.below⟩
  · rw [he] at g1
    simp only [tkV, hw, if_true] at g1
    exact g1
  · unfold tkT
    rw [he]
    simp only [hw, if_true]
    exact he
theorem lost_pe {b : Nat} {f : Nat → Int} {s c : Nat} {l : Int} {W : World} (h : Pe b f s c l W) : Calls Try.prog 11 #[pq b, i64 2] W fun e w' => e = .returned (i64 l) ∧ w' = W := by
  obtain ⟨E, hE, e, he, hQ⟩ := h
  have := lost_ok hE 2
  rw [he] at this
  rw [← hQ.lost]
  exact this
theorem order_long (w : World) (ao : Option Addr) (len cap : Nat) (hlen : len ≤ maxLen) (h : 60 < len) : Calls Try.prog 5 #[.slice ao len cap] w fun e w' => e = .returned (.bool true) ∧ Below w.heap.size w w' := by
  have hI : (60 : Int) < len := by omega
  have hm : (len : Int) ≤ 9223372036854775807 := by unfold maxLen at hlen; omega
  clear h hlen
  go_enter Try.func5, Try.ntmps5
  go_wp2_with fail
  refine (new_ok w).mono ?_
  rintro e w1 ⟨rfl, ht1, hb1⟩
  have HB1 := hid hb1
  clear ht1 hb1
  go_wp2_with fail
  refine (five_ok _).mono ?_
  rintro e w2 ⟨rfl, hb2⟩
  have HB2 : Hid (Below w.heap.size w w2) := HB1.out.trans (hb2.mono HB1.out.size)
  clear hb2
  go_wp2_with fail
  go_ret
  exact ⟨rfl, HB2.out⟩
set_option maxRecDepth 100000 in
set_option maxHeartbeats 3200000 in
theorem order_in (w : World) (ao : Option Addr) (len cap : Nat) (f : Nat → Int) (hl : len ≤ 60) (hcap : len ≤ cap) (hS : NSl w ao len f) : Calls Try.prog 5 #[.slice ao len cap] w fun e w' => e = .returned (.bool true) ∧ Below w.heap.size w w' := by
  obtain ⟨b, hb⟩ : ∃ b, b = w.heap.size := ⟨_, rfl⟩
  have hI : (len : Int) ≤ 60 := by omega
  have hcI : (len : Int) ≤ cap := by omega
  have HN : Hid (Calls Try.prog 8 #[] w fun e w' => e = .returned (pq b) ∧ Tb w' b b zE ∧ Below b w w') := by rw [hb]; exact new_ok w
  have HOp : Hid (∀ W, Tb W b b zE → Calls Try.prog 17 #[pq b, i64 2, i64 1] W fun e w' => e = .returned (i64 0) ∧ Pe b f 0 0 0 w' ∧ Below b W w') := fun W hW => (open_ok hW 2 1).mono fun _ _ ⟨h1, h2, h3⟩ => ⟨h1, ⟨_, h2, nwE 1, rfl, rfl, rfl, by omega, fun i hi => by omega⟩, h3.below⟩
  have HSb : Hid (∀ W, Below b w W → ∀ k, k < len → ∃ B off, ao = some ⟨B, off, none⟩ ∧ W.cell? ⟨B, off + k, none⟩ = some (i64 (f k))) := fun W hW k hk => by
    rw [hb] at hW
    obtain ⟨B, off, h1, _, h2⟩ := (hS.below hW).at hk
    exact ⟨B, off, h1, h2⟩
  rw [← hb]
  clear hS hb
  go_enter Try.func5, Try.ntmps5
  go_wp2_with fail
  refine HN.out.mono ?_
  rintro e w1 ⟨rfl, ht1, hb1⟩
  have HT1 := hid ht1
  have HB1 := hid hb1
  clear ht1 hb1
  go_wp2_with fail
  refine (HOp.out _ HT1.out).mono ?_
  rintro e w2 ⟨rfl, ht2, hb2⟩
  have HT2 := hid ht2
  have HB2 : Hid (Below b w w2) := HB1.out.trans hb2
  clear ht2 hb2
  go_wp2_with fail
  go_loopw [33] (fun u wr => ∃ k : Nat, k ≤ len ∧ u = i64 k ∧ Hid (Pe b f (k - min k 4) (min k 4) ((k - min k 4 : Nat) : Int) wr) ∧ Hid (Below b w wr)) (fun u _ => len - (intOf u).toNat)
  case atStart => exact ⟨0, by omega, rfl, HT2, HB2⟩
  case round =>
    obtain ⟨k, hk, rfl, HT, HB⟩ := hrel
    by_cases hlt : k < len
    · have hkI : (k : Int) < len := by omega
      obtain ⟨B, off, hao, hc⟩ := HSb.out wr HB.out k hlt
      subst hao
      have HP : Hid (Calls Try.prog 18 #[pq b, i64 2, upV 1 (f k)] wr fun e w' => e = .returned (i64 0) ∧ Pe b f (k + 1 - min (k + 1) 4) (min (k + 1) 4) ((k + 1 - min (k + 1) 4 : Nat) : Int) w' ∧ Below b wr w') := by
        by_cases h4 : k < 4
        · have h1 : k - min k 4 = 0 := by omega
          have h2 : min k 4 = k := by omega
          have h3 : k + 1 - min (k + 1) 4 = 0 := by omega
          have h5 : min (k + 1) 4 = k + 1 := by omega
          have hT := HT.out
          rw [h1, h2] at hT
          rw [h3, h5]
          have := post_pe hT ⟨by omega, by omega⟩ (fun e q => q.post h4)
          rw [Nat.zero_add] at this
          exact this
        · have h1 : k - min k 4 = k - 4 := by omega
          have h2 : min k 4 = 4 := by omega
          have h3 : k + 1 - min (k + 1) 4 = k - 4 + 1 := by omega
          have h5 : min (k + 1) 4 = 4 := by omega
          have hT := HT.out
          rw [h1, h2] at hT
          rw [h3, h5]
          have := post_pe hT ⟨by omega, by omega⟩ (fun e q => q.full)
          rw [show k - 4 + 4 = k by omega] at this
          exact this
      obtain ⟨X, hX⟩ : ∃ X, X = f k := ⟨_, rfl⟩
      rw [← hX] at hc HP
      clear hX
      go_wp2_with fail
      refine HP.out.mono ?_
      rintro e w3 ⟨rfl, ht3, hb3⟩
      have HT3 := hid ht3
      have HB3 : Hid (Below b w w3) := HB.out.trans hb3
      clear ht3 hb3
      go_wp2_with fail
      exact ⟨⟨k + 1, by omega, by go_num, HT3, HB3⟩, by simp [intOf]; omega⟩
    · obtain rfl : k = len := by omega
      by_cases h4 : 4 < k
      · obtain ⟨s, hs⟩ : ∃ s, s = k - 4 := ⟨_, rfl⟩
        have HT0 : Hid (Pe b f s 4 (s : Int) wr) := by have := HT.out; rw [show min k 4 = 4 by omega, ← hs] at this; exact this
        have h4I : (4 : Int) < k := by omega
        have hk4 : (k : Int) - 4 = s := by omega
        have hsk : (s : Int) + 4 = k := by omega
        have hsk2 : (s : Int) < cap := by omega
        have Hs := hid hs
        obtain ⟨B, off, hao, _⟩ := HSb.out wr HB.out 0 (by omega)
        subst hao
        clear hs HT h4 hlt hk
        go_upto_region 14 with fail
        obtain ⟨m, hm⟩ : ∃ m, m = k - s := ⟨_, rfl⟩
        rw [← hm]
        have hm4 : m = 4 := by have := Hs.out; omega
        have hmk : s + m = k := by have := Hs.out; omega
        have HT1 : Hid (Pe b f s m (s : Int) wr) := by rw [hm4]; exact HT0.out
        have HM := hid hmk
        have hmI : (m : Int) ≤ 4 := by omega
        clear hm hm4 hmk hk4 hsk hsk2
        go_loopw [53] (fun u wr => ∃ j : Nat, j ≤ m ∧ u = i64 j ∧ Hid (Pe b f (s + j) (m - j) (s : Int) wr) ∧ Hid (Below b w wr)) (fun u _ => m - (intOf u).toNat)
        case atStart => exact ⟨0, by omega, rfl, HT1, HB⟩
        case round =>
          obtain ⟨j, hj, rfl, HT2, HB2⟩ := hrel
          by_cases hlt : j < m
          · have hjI : (j : Int) < m := by omega
            obtain ⟨B2, off2, hao, hc⟩ := HSb.out wr HB2.out (s + j) (by have := HM.out; omega)
            cases hao
            rw [← Nat.add_assoc] at hc
            have HP : Hid (Calls Try.prog 19 #[pq b, i64 2] wr fun e w' => e = .returned (.tuple #[upV 1 (f (s + j)), i64 0]) ∧ Pe b f (s + (j + 1)) (m - (j + 1)) (s : Int) w' ∧ Below b wr w') := by
              have hT := HT2.out
              rw [show m - j = m - (j + 1) + 1 by omega] at hT
              exact take_pe hT
            obtain ⟨X, hX⟩ : ∃ X, X = f (s + j) := ⟨_, rfl⟩
            rw [← hX] at hc HP
            clear hX
            go_wp2_with fail
            refine HP.out.mono ?_
            rintro e w3 ⟨rfl, ht3, hb3⟩
            have hl3 := ht3.lt
            have HT3 : Hid (Pe b f (s + (j + 1)) (m - (j + 1)) (s : Int) (w3.alloc (upO 1 X))) := ht3.below (below_one w3 _)
            have HB3 : Hid (Below b w (w3.alloc (upO 1 X))) := (HB2.out.trans hb3).trans ((below_one w3 _).mono (by omega))
            have HX : Hid ((w3.alloc (upO 1 X)).heap[w3.heap.size]? = some (upO 1 X)) := heap_last w3 _
            clear ht3 hb3 hl3
            go_upto_region 17 with fail
            generalize w3.alloc (upO 1 X) = U at *
            have x0 : U.cell? ⟨w3.heap.size, 0, none⟩ = some (i64 1) := blk_cell HX.out 0
            have x1 : U.cell? ⟨w3.heap.size, 1, none⟩ = some (i64 X) := blk_cell HX.out 1
            go_wp2_with fail
            exact ⟨⟨j + 1, by omega, by go_num, HT3, HB3⟩, by simp [intOf]; omega⟩
          · obtain rfl : j = m := by omega
            rw [Nat.sub_self] at HT2
            go_wp2_with fail
            refine (none_pe HT2.out).mono ?_
            rintro e w3 ⟨rfl, ht3, hb3⟩
            have hl3 := ht3.lt
            have HT3 : Hid (Pe b f (s + j) 0 (s : Int) (w3.alloc (upO 0 0))) := ht3.below (below_one w3 _)
            have HB3 : Hid (Below b w (w3.alloc (upO 0 0))) := (HB2.out.trans hb3).trans ((below_one w3 _).mono (by omega))
            clear ht3 hb3 hl3
            go_upto_region 21 with fail
            generalize w3.alloc (upO 0 0) = U at *
            have hlU := hid HT3.out.lt
            go_wp2_with fail
            refine (lost_pe HT3.out).mono ?_
            rintro e v4 ⟨rfl, hv⟩
            replace hv := hv.symm
            subst hv
            go_wp2_with fail
            refine (five_ok _).mono ?_
            rintro e w4 ⟨rfl, hb4⟩
            have HB4 : Hid (Below b w w4) := HB3.out.trans (hb4.mono (by have := hlU.out; omega))
            clear hb4
            go_wp2_with fail
            go_ret
            exact ⟨rfl, HB4.out⟩
      · have HT0 : Hid (Pe b f 0 k (0 : Int) wr) := by have := HT.out; rw [show min k 4 = k by omega, show k - k = 0 by omega] at this; exact this
        have h4I : (k : Int) ≤ 4 := by omega
        clear HT h4 hlt hk
        go_upto_region 14 with fail
        have HT1 := HT0
        go_loopw [53] (fun u wr => ∃ j : Nat, j ≤ k ∧ u = i64 j ∧ Hid (Pe b f j (k - j) (0 : Int) wr) ∧ Hid (Below b w wr)) (fun u _ => k - (intOf u).toNat)
        case atStart => exact ⟨0, by omega, rfl, HT1, HB⟩
        case round =>
          obtain ⟨j, hj, rfl, HT2, HB2⟩ := hrel
          by_cases hlt : j < k
          · have hjI : (j : Int) < k := by omega
            obtain ⟨B2, off2, hao, hc⟩ := HSb.out wr HB2.out j (by omega)
            subst hao
            have HP : Hid (Calls Try.prog 19 #[pq b, i64 2] wr fun e w' => e = .returned (.tuple #[upV 1 (f j), i64 0]) ∧ Pe b f (j + 1) (k - (j + 1)) (0 : Int) w' ∧ Below b wr w') := by
              have hT := HT2.out
              rw [show k - j = k - (j + 1) + 1 by omega] at hT
              exact take_pe hT
            obtain ⟨X, hX⟩ : ∃ X, X = f j := ⟨_, rfl⟩
            rw [← hX] at hc HP
            clear hX
            go_wp2_with fail
            refine HP.out.mono ?_
            rintro e w3 ⟨rfl, ht3, hb3⟩
            have hl3 := ht3.lt
            have HT3 : Hid (Pe b f (j + 1) (k - (j + 1)) (0 : Int) (w3.alloc (upO 1 X))) := ht3.below (below_one w3 _)
            have HB3 : Hid (Below b w (w3.alloc (upO 1 X))) := (HB2.out.trans hb3).trans ((below_one w3 _).mono (by omega))
            have HX : Hid ((w3.alloc (upO 1 X)).heap[w3.heap.size]? = some (upO 1 X)) := heap_last w3 _
            clear ht3 hb3 hl3
            go_upto_region 17 with fail
            generalize w3.alloc (upO 1 X) = U at *
            have x0 : U.cell? ⟨w3.heap.size, 0, none⟩ = some (i64 1) := blk_cell HX.out 0
            have x1 : U.cell? ⟨w3.heap.size, 1, none⟩ = some (i64 X) := blk_cell HX.out 1
            go_wp2_with fail
            exact ⟨⟨j + 1, by omega, by go_num, HT3, HB3⟩, by simp [intOf]; omega⟩
          · obtain rfl : j = k := by omega
            rw [Nat.sub_self] at HT2
            go_wp2_with fail
            refine (none_pe HT2.out).mono ?_
            rintro e w3 ⟨rfl, ht3, hb3⟩
            have hl3 := ht3.lt
            have HT3 : Hid (Pe b f j 0 (0 : Int) (w3.alloc (upO 0 0))) := ht3.below (below_one w3 _)
            have HB3 : Hid (Below b w (w3.alloc (upO 0 0))) := (HB2.out.trans hb3).trans ((below_one w3 _).mono (by omega))
            clear ht3 hb3 hl3
            go_upto_region 21 with fail
            generalize w3.alloc (upO 0 0) = U at *
            have hlU := hid HT3.out.lt
            go_wp2_with fail
            refine (lost_pe HT3.out).mono ?_
            rintro e v4 ⟨rfl, hv⟩
            replace hv := hv.symm
            subst hv
            go_wp2_with fail
            refine (five_ok _).mono ?_
            rintro e w4 ⟨rfl, hb4⟩
            have HB4 : Hid (Below b w w4) := HB3.out.trans (hb4.mono (by have := hlU.out; omega))
            clear hb4
            go_wp2_with fail
            go_ret
            exact ⟨rfl, HB4.out⟩
theorem order_any (w : World) (ao : Option Addr) (len cap : Nat) (f : Nat → Int) (hlen : len ≤ maxLen) (hcap : len ≤ cap) (hS : NSl w ao len f) : Calls Try.prog 5 #[.slice ao len cap] w fun e w' => e = .returned (.bool true) ∧ Below w.heap.size w w' := by
  by_cases h : 60 < len
  · exact order_long w ao len cap hlen h
  · exact order_in w ao len cap f (by omega) hcap hS
end Go.Proofs.Ytopbgeoledocaaa
