/- The document's Right; no statement is proved in this text. -/
import Derived.Test.YtlkcpjefgelcoaaLd
namespace Go.Proofs.Ytlkcpjefgelcoaa
open Go.ChangeShapes Go.WideShapes Go.ChangeAt Go.RowKit Go.Deep
attribute [local go_sem ↓] Go.wp_at_zero Go.wp_at_succ

def MemR (xb : Nat) (s : Sp) (W : World) : Prop := W.heap[xb]? = some (sO s 58)
def MemR2 (xb : Nat) (s : Sp) (g o : Nat) (y : Sp) (W : World) : Prop := W.heap[xb]? = some (sO s 58) ∧ W.cell? ⟨g, o, none⟩ = some (i64 y.1) ∧ W.cell? ⟨g, o + 1, none⟩ = some (i64 y.2.1) ∧ W.cell? ⟨g, o + 2, none⟩ = some (i64 y.2.2.1) ∧ W.cell? ⟨g, o + 3, none⟩ = some (i64 y.2.2.2)
def RightS (X : List Sp) (e : Ending) : Prop := (Lg X ∧ e = .returned (.bool true)) ∨ (¬ Lg X ∧ e = .returned (.bool false))
theorem right_b {w : World} {ao : Option Addr} {cap : Nat} {X : List Ar} {B : Bool} (hg : (Good X ∧ B = true) ∨ (¬ Good X ∧ B = false)) (hX : X.length ≤ 1000) (hR : Rd3 w ao X) : Calls Try.prog 52 #[.slice ao X.length cap] w fun e w' => e = .returned (.bool B) ∧ Below w.heap.size w w' :=
  (right_ok w ao cap X hX hR).mono (by
    rintro e w' ⟨h, hb⟩
    rcases h with ⟨h1, rfl⟩ | ⟨h1, rfl⟩ <;> rcases hg with ⟨h2, rfl⟩ | ⟨h2, rfl⟩
    · exact ⟨rfl, hb⟩
    · exact absurd h1 h2
    · exact absurd h2 h1
    · exact ⟨rfl, hb⟩)
set_option maxRecDepth 100000 in
set_option maxHeartbeats 12800000 in
theorem sright_ok (w : World) (base : Nat) (ao : Option Addr) (cap : Nat) (X : List Sp) (hX : X.length ≤ 1000) (ho : w.ownsRow base 58 4 (.slice ao X.length cap) X.length (scn X)) (hbw : base ≤ w.heap.size) : Calls Try.prog 29 #[.slice ao X.length cap] w fun e w' => RightS X e ∧ Below w.heap.size w w' := by
  have HR := hid (Rd4.own ho)
  have hcap := own_cap4 ho
  obtain ⟨r, hr⟩ : ∃ r, r = w.heap.size := ⟨_, rfl⟩
  have HRr := hid hr
  have HRt0 : Hid (Rt (w.alloc (.cells #[.slice ao X.length cap] 29)) base r X) := ⟨by omega, ao, cap, by rw [hr]; exact heap_last w _, ho.alloc _⟩
  have HB0 := hid (below_one w (.cells #[.slice ao X.length cap] 29))
  obtain ⟨N, hN⟩ : ∃ N, N = X.length := ⟨_, rfl⟩
  have HN := hid hN
  rw [← hN] at hX hcap HRt0 HB0 ⊢
  clear hN ho
  go_enter Try.func29, Try.ntmps29
  go_wp2_with fail
  rw [← hr]
  clear hr
  generalize w.alloc (.cells #[.slice ao N cap] 29) = w1 at *
  go_loopw [11] (fun u wr => ∃ (k : Nat), k ≤ N ∧ u = i64 k ∧ Hid (Rt wr base r X) ∧ Hid (∀ x ∈ X.take k, x.2.2.2 = 1 ∨ x.2.2.2 = 3) ∧ Hid ((X.take k).Pairwise ahP) ∧ Hid (Below w.heap.size w wr)) (fun u _ => N - (intOf u).toNat)
  case atStart => exact ⟨0, by omega, rfl, HRt0, fun x hx => by simp at hx, .nil, HB0⟩
  case round =>
    obtain ⟨k, hk, rfl, HRt, HPr, HSr, HB⟩ := hrel
    by_cases hlt : k < N
    · have hkI : (k : Int) < N := by omega
      obtain ⟨s, hs⟩ : ∃ s, X[k]? = some s := ⟨_, List.getElem?_eq_getElem (by rw [← HN.out]; exact hlt)⟩
      have HXk := hid hs
      obtain ⟨g, o, rfl, hgl, c0, c1, c2, c3⟩ := (HR.out.below HB.out) k s hs
      have HBV : Hid (Below w.heap.size w (wr.alloc (sO s 58))) := HB.out.alloc HB.out.size _
      have HX0 := hid (heap_last wr (sO s 58))
      clear hs
      by_cases hp1 : s.2.2.2 = 1
      · have HP3 : Hid (s.2.2.2 = 1 ∨ s.2.2.2 = 3) := .inl hp1
        have p1 : (s.2.2.2 != 1) = false := by rw [bne, beq_iff_eq.2 hp1]; rfl
        clear hp1
        have HRtV : Hid (Rt (wr.alloc (sO s 58)) base r X) := HRt.out.below (below_one wr _)
        have HPN : Hid (∀ x ∈ X.take (k + 1), x.2.2.2 = 1 ∨ x.2.2.2 = 3) := fun x hx => by
          rw [takeS_last HXk.out] at hx
          rcases List.mem_append.1 hx with hx | hx
          · exact HPr.out x hx
          · rw [List.mem_singleton.1 hx]; exact HP3.out
        by_cases hk0 : k = 0
        · have HK0 := hid hk0
          have HS00 : Hid (MemR wr.heap.size s (wr.alloc (sO s 58))) := HX0.out
          have HSN : Hid ((X.take (k + 1)).Pairwise ahP) := srt_next HSr.out HXk.out (.inl hk0)
          clear hk0
          go_upto_region 7 with fail
          have HS0 : Hid (MemR wr.heap.size s (wr.alloc (sO s 58)).drew) := HS00.out
          have HRt0 : Hid (Rt (wr.alloc (sO s 58)).drew base r X) := by obtain ⟨h0, ao, cap, h1, h2⟩ := HRtV.out; exact ⟨h0, ao, cap, h1, own_keep h2 (fun _ _ h => h)⟩
          have HB0 : Hid (Below w.heap.size w (wr.alloc (sO s 58)).drew) := HBV.out.drew
          refine wp_region_noPanic ?_
          refine wp_region_last (MemR wr.heap.size s) 34 (by kernel_rfl) ?_
          refine wpL_take 0 24 (i64 k) [1, 2] rfl rfl (by kernel_rfl) (by decide) (by kernel_rfl) (by kernel_rfl) (by kernel_rfl) (fun _ _ _ h => h) HS0.out (by rfl) (fun W hW => by have hW0 : W.heap[wr.heap.size]? = some (sO s 58) := hW; obtain ⟨z0, z1, z2, z3⟩ := four_cells hW0; go_simp) ?_
          simp only [Act.put, List.setIfInBounds_toArray, List.set_cons_zero, List.set_cons_succ]
          refine wpL_take 1 25 (.bool false) [2] rfl rfl (by kernel_rfl) (by decide) (by kernel_rfl) (by kernel_rfl) (by kernel_rfl) (fun _ _ _ h => h) HS0.out (by rfl) (fun W hW => by have hW0 : W.heap[wr.heap.size]? = some (sO s 58) := hW; obtain ⟨z0, z1, z2, z3⟩ := four_cells hW0; go_simp; exact HK0.out) ?_
          simp only [Act.put, List.setIfInBounds_toArray, List.set_cons_zero, List.set_cons_succ]
          refine wpL_take 2 26 (.bool false) [] rfl rfl (by kernel_rfl) (by decide) (by kernel_rfl) (by kernel_rfl) (by kernel_rfl) (fun _ _ _ h => h) HS0.out (by rfl) (fun W hW => by have hW0 : W.heap[wr.heap.size]? = some (sO s 58) := hW; obtain ⟨z0, z1, z2, z3⟩ := four_cells hW0; go_simp) ?_
          simp only [Act.put, List.setIfInBounds_toArray, List.set_cons_zero, List.set_cons_succ]
          refine wpL_skip 3 27 [6, 7, 8, 11, 12, 33] rfl rfl (by kernel_rfl) (by decide) (by kernel_rfl) (by kernel_rfl) (by kernel_rfl) (fun _ _ _ h => h) HS0.out (by rfl) ?_
          simp only [Act.put, List.setIfInBounds_toArray, List.set_cons_zero, List.set_cons_succ]
          refine wpL_skip 4 28 [5, 6, 7, 8, 11, 12, 33] rfl rfl (by kernel_rfl) (by decide) (by kernel_rfl) (by kernel_rfl) (by kernel_rfl) (fun _ _ _ h => h) HS0.out (by rfl) ?_
          simp only [Act.put, List.setIfInBounds_toArray, List.set_cons_zero, List.set_cons_succ]
          refine wpL_skip 5 29 [6, 7, 8, 11, 12, 33] rfl rfl (by kernel_rfl) (by decide) (by kernel_rfl) (by kernel_rfl) (by kernel_rfl) (fun _ _ _ h => h) HS0.out (by rfl) ?_
          simp only [Act.put, List.setIfInBounds_toArray, List.set_cons_zero, List.set_cons_succ]
          refine wpL_skip 6 30 [7, 8, 11, 12, 33] rfl rfl (by kernel_rfl) (by decide) (by kernel_rfl) (by kernel_rfl) (by kernel_rfl) (fun _ _ _ h => h) HS0.out (by rfl) ?_
          simp only [Act.put, List.setIfInBounds_toArray, List.set_cons_zero, List.set_cons_succ]
          refine wpL_skip 7 31 [8, 11, 12, 33] rfl rfl (by kernel_rfl) (by decide) (by kernel_rfl) (by kernel_rfl) (by kernel_rfl) (fun _ _ _ h => h) HS0.out (by rfl) ?_
          simp only [Act.put, List.setIfInBounds_toArray, List.set_cons_zero, List.set_cons_succ]
          refine wpL_skip 8 32 [11, 12, 33] rfl rfl (by kernel_rfl) (by decide) (by kernel_rfl) (by kernel_rfl) (by kernel_rfl) (fun _ _ _ h => h) HS0.out (by rfl) ?_
          simp only [Act.put, List.setIfInBounds_toArray, List.set_cons_zero, List.set_cons_succ]
          refine wpL_skip 9 33 [10, 11, 12, 33] rfl rfl (by kernel_rfl) (by decide) (by kernel_rfl) (by kernel_rfl) (by kernel_rfl) (fun _ _ _ h => h) HS0.out (by rfl) ?_
          simp only [Act.put, List.setIfInBounds_toArray, List.set_cons_zero, List.set_cons_succ]
          refine wpL_skip 10 34 [11, 12, 33] rfl rfl (by kernel_rfl) (by decide) (by kernel_rfl) (by kernel_rfl) (by kernel_rfl) (fun _ _ _ h => h) HS0.out (by rfl) ?_
          simp only [Act.put, List.setIfInBounds_toArray, List.set_cons_zero, List.set_cons_succ]
          refine wpL_skip 11 35 [12, 33] rfl rfl (by kernel_rfl) (by decide) (by kernel_rfl) (by kernel_rfl) (by kernel_rfl) (fun _ _ _ h => h) HS0.out (by rfl) ?_
          simp only [Act.put, List.setIfInBounds_toArray, List.set_cons_zero, List.set_cons_succ]
          refine wpL_skip 12 36 [33] rfl rfl (by kernel_rfl) (by decide) (by kernel_rfl) (by kernel_rfl) (by kernel_rfl) (fun _ _ _ h => h) HS0.out (by rfl) ?_
          simp only [Act.put, List.setIfInBounds_toArray, List.set_cons_zero, List.set_cons_succ]
          refine wpL_skip 13 37 [16, 17, 18, 21, 22, 32, 33] rfl rfl (by kernel_rfl) (by decide) (by kernel_rfl) (by kernel_rfl) (by kernel_rfl) (fun _ _ _ h => h) HS0.out (by rfl) ?_
          simp only [Act.put, List.setIfInBounds_toArray, List.set_cons_zero, List.set_cons_succ]
          refine wpL_skip 14 38 [15, 16, 17, 18, 21, 22, 32, 33] rfl rfl (by kernel_rfl) (by decide) (by kernel_rfl) (by kernel_rfl) (by kernel_rfl) (fun _ _ _ h => h) HS0.out (by rfl) ?_
          simp only [Act.put, List.setIfInBounds_toArray, List.set_cons_zero, List.set_cons_succ]
          refine wpL_skip 15 39 [16, 17, 18, 21, 22, 32, 33] rfl rfl (by kernel_rfl) (by decide) (by kernel_rfl) (by kernel_rfl) (by kernel_rfl) (fun _ _ _ h => h) HS0.out (by rfl) ?_
          simp only [Act.put, List.setIfInBounds_toArray, List.set_cons_zero, List.set_cons_succ]
          refine wpL_skip 16 40 [17, 18, 21, 22, 32, 33] rfl rfl (by kernel_rfl) (by decide) (by kernel_rfl) (by kernel_rfl) (by kernel_rfl) (fun _ _ _ h => h) HS0.out (by rfl) ?_
          simp only [Act.put, List.setIfInBounds_toArray, List.set_cons_zero, List.set_cons_succ]
          refine wpL_skip 17 41 [18, 21, 22, 32, 33] rfl rfl (by kernel_rfl) (by decide) (by kernel_rfl) (by kernel_rfl) (by kernel_rfl) (fun _ _ _ h => h) HS0.out (by rfl) ?_
          simp only [Act.put, List.setIfInBounds_toArray, List.set_cons_zero, List.set_cons_succ]
          refine wpL_skip 18 42 [21, 22, 32, 33] rfl rfl (by kernel_rfl) (by decide) (by kernel_rfl) (by kernel_rfl) (by kernel_rfl) (fun _ _ _ h => h) HS0.out (by rfl) ?_
          simp only [Act.put, List.setIfInBounds_toArray, List.set_cons_zero, List.set_cons_succ]
          refine wpL_skip 19 43 [20, 21, 22, 32, 33] rfl rfl (by kernel_rfl) (by decide) (by kernel_rfl) (by kernel_rfl) (by kernel_rfl) (fun _ _ _ h => h) HS0.out (by rfl) ?_
          simp only [Act.put, List.setIfInBounds_toArray, List.set_cons_zero, List.set_cons_succ]
          refine wpL_skip 20 44 [21, 22, 32, 33] rfl rfl (by kernel_rfl) (by decide) (by kernel_rfl) (by kernel_rfl) (by kernel_rfl) (fun _ _ _ h => h) HS0.out (by rfl) ?_
          simp only [Act.put, List.setIfInBounds_toArray, List.set_cons_zero, List.set_cons_succ]
          refine wpL_skip 21 45 [22, 32, 33] rfl rfl (by kernel_rfl) (by decide) (by kernel_rfl) (by kernel_rfl) (by kernel_rfl) (fun _ _ _ h => h) HS0.out (by rfl) ?_
          simp only [Act.put, List.setIfInBounds_toArray, List.set_cons_zero, List.set_cons_succ]
          refine wpL_skip 22 46 [32, 33] rfl rfl (by kernel_rfl) (by decide) (by kernel_rfl) (by kernel_rfl) (by kernel_rfl) (fun _ _ _ h => h) HS0.out (by rfl) ?_
          simp only [Act.put, List.setIfInBounds_toArray, List.set_cons_zero, List.set_cons_succ]
          refine wpL_skip 23 47 [26, 27, 28, 31, 32, 33] rfl rfl (by kernel_rfl) (by decide) (by kernel_rfl) (by kernel_rfl) (by kernel_rfl) (fun _ _ _ h => h) HS0.out (by rfl) ?_
          simp only [Act.put, List.setIfInBounds_toArray, List.set_cons_zero, List.set_cons_succ]
          refine wpL_skip 24 48 [25, 26, 27, 28, 31, 32, 33] rfl rfl (by kernel_rfl) (by decide) (by kernel_rfl) (by kernel_rfl) (by kernel_rfl) (fun _ _ _ h => h) HS0.out (by rfl) ?_
          simp only [Act.put, List.setIfInBounds_toArray, List.set_cons_zero, List.set_cons_succ]
          refine wpL_skip 25 49 [26, 27, 28, 31, 32, 33] rfl rfl (by kernel_rfl) (by decide) (by kernel_rfl) (by kernel_rfl) (by kernel_rfl) (fun _ _ _ h => h) HS0.out (by rfl) ?_
          simp only [Act.put, List.setIfInBounds_toArray, List.set_cons_zero, List.set_cons_succ]
          refine wpL_skip 26 50 [27, 28, 31, 32, 33] rfl rfl (by kernel_rfl) (by decide) (by kernel_rfl) (by kernel_rfl) (by kernel_rfl) (fun _ _ _ h => h) HS0.out (by rfl) ?_
          simp only [Act.put, List.setIfInBounds_toArray, List.set_cons_zero, List.set_cons_succ]
          refine wpL_skip 27 51 [28, 31, 32, 33] rfl rfl (by kernel_rfl) (by decide) (by kernel_rfl) (by kernel_rfl) (by kernel_rfl) (fun _ _ _ h => h) HS0.out (by rfl) ?_
          simp only [Act.put, List.setIfInBounds_toArray, List.set_cons_zero, List.set_cons_succ]
          refine wpL_skip 28 52 [31, 32, 33] rfl rfl (by kernel_rfl) (by decide) (by kernel_rfl) (by kernel_rfl) (by kernel_rfl) (fun _ _ _ h => h) HS0.out (by rfl) ?_
          simp only [Act.put, List.setIfInBounds_toArray, List.set_cons_zero, List.set_cons_succ]
          refine wpL_skip 29 53 [30, 31, 32, 33] rfl rfl (by kernel_rfl) (by decide) (by kernel_rfl) (by kernel_rfl) (by kernel_rfl) (fun _ _ _ h => h) HS0.out (by rfl) ?_
          simp only [Act.put, List.setIfInBounds_toArray, List.set_cons_zero, List.set_cons_succ]
          refine wpL_skip 30 54 [31, 32, 33] rfl rfl (by kernel_rfl) (by decide) (by kernel_rfl) (by kernel_rfl) (by kernel_rfl) (fun _ _ _ h => h) HS0.out (by rfl) ?_
          simp only [Act.put, List.setIfInBounds_toArray, List.set_cons_zero, List.set_cons_succ]
          refine wpL_skip 31 55 [32, 33] rfl rfl (by kernel_rfl) (by decide) (by kernel_rfl) (by kernel_rfl) (by kernel_rfl) (fun _ _ _ h => h) HS0.out (by rfl) ?_
          simp only [Act.put, List.setIfInBounds_toArray, List.set_cons_zero, List.set_cons_succ]
          refine wpL_skip 32 56 [33] rfl rfl (by kernel_rfl) (by decide) (by kernel_rfl) (by kernel_rfl) (by kernel_rfl) (fun _ _ _ h => h) HS0.out (by rfl) ?_
          simp only [Act.put, List.setIfInBounds_toArray, List.set_cons_zero, List.set_cons_succ]
          refine wpL_skip 33 57 [] rfl rfl (by kernel_rfl) (by decide) (by kernel_rfl) (by kernel_rfl) (by kernel_rfl) (fun _ _ _ h => h) HS0.out (by rfl) ?_
          simp only [Act.put, List.setIfInBounds_toArray, List.set_cons_zero, List.set_cons_succ]
          refine wpL_one 34 rfl (by kernel_rfl) (by rfl) (fun K hK => ?_)
          go_simp
          refine hK.out _ _ (fun h => absurd rfl h) ?_
          clear hK K
          refine wpL_done (by kernel_rfl) ?_
          refine NoPanic.normal ?_
          go_wp2_with fail
          exact ⟨⟨k + 1, by omega, by go_num, HRt0, HPN, HSN, HB0⟩, by simp [intOf]; omega⟩
        · obtain ⟨j, hkj⟩ : ∃ j, k = j + 1 := ⟨k - 1, by omega⟩
          have HKJ := hid hkj
          have HXj : Hid (X[j + 1]? = some s) := by rw [Hid, ← hkj]; exact HXk.out
          obtain ⟨y, hy⟩ : ∃ y, X[j]? = some y := ⟨_, List.getElem?_eq_getElem (by rw [← HN.out]; omega)⟩
          have HYj := hid hy
          obtain ⟨g2, o2, hgo, hgl2, d0, d1, d2, d3⟩ := (HR.out.below HB.out) j y hy
          simp only [Option.some.injEq, Addr.mk.injEq] at hgo
          obtain ⟨rfl, rfl, _⟩ := hgo
          have HKP : Hid (0 < k) := by show 0 < k; omega
          have hkw : IntKind.i64.wrap ((k : Int) - 1) = (j : Int) := by rw [wrap_id (by omega) (by omega)]; omega
          have hjI : (j : Int) < N := by omega
          have hj0 : (0 : Int) ≤ j := by omega
          have HS00 : Hid (MemR2 wr.heap.size s g (o + j * 4) y (wr.alloc (sO s 58))) := ⟨HX0.out, by rw [(below_one wr _).cell (by exact hgl)]; exact d0, by rw [(below_one wr _).cell (by exact hgl)]; exact d1, by rw [(below_one wr _).cell (by exact hgl)]; exact d2, by rw [(below_one wr _).cell (by exact hgl)]; exact d3⟩
          clear hy hk0 d0 d1 d2 d3 hgl2 hkj
          by_cases h1 : s.1 < y.1
          · have HNO : Hid (¬ Lg X) := fun h => srt_bad HYj.out HXj.out (fun h => by rcases h with h | h <;> omega) h.2
            go_upto_region 7 with fail
            have HS0 : Hid (MemR2 wr.heap.size s g (o + j * 4) y (wr.alloc (sO s 58)).drew) := HS00.out
            have HRt0 : Hid (Rt (wr.alloc (sO s 58)).drew base r X) := by obtain ⟨h0, ao, cap, h1, h2⟩ := HRtV.out; exact ⟨h0, ao, cap, h1, own_keep h2 (fun _ _ h => h)⟩
            have HB0 : Hid (Below w.heap.size w (wr.alloc (sO s 58)).drew) := HBV.out.drew
            refine wp_region_noPanic ?_
            refine wp_region_last (MemR2 wr.heap.size s g (o + j * 4) y) 34 (by kernel_rfl) ?_
            refine wpL_take 0 24 (i64 k) [1, 2] rfl rfl (by kernel_rfl) (by decide) (by kernel_rfl) (by kernel_rfl) (by kernel_rfl) (fun _ _ _ h => h) HS0.out (by rfl) (fun W hW => by obtain ⟨hW0, v0, v1, v2, v3⟩ := hW; obtain ⟨z0, z1, z2, z3⟩ := four_cells hW0; go_simp) ?_
            simp only [Act.put, List.setIfInBounds_toArray, List.set_cons_zero, List.set_cons_succ]
            refine wpL_take 1 25 (.bool true) [2] rfl rfl (by kernel_rfl) (by decide) (by kernel_rfl) (by kernel_rfl) (by kernel_rfl) (fun _ _ _ h => h) HS0.out (by rfl) (fun W hW => by obtain ⟨hW0, v0, v1, v2, v3⟩ := hW; obtain ⟨z0, z1, z2, z3⟩ := four_cells hW0; go_simp; exact HKP.out) ?_
            simp only [Act.put, List.setIfInBounds_toArray, List.set_cons_zero, List.set_cons_succ]
            refine wpL_take 2 26 (.bool true) [] rfl rfl (by kernel_rfl) (by decide) (by kernel_rfl) (by kernel_rfl) (by kernel_rfl) (fun _ _ _ h => h) HS0.out (by rfl) (fun W hW => by obtain ⟨hW0, v0, v1, v2, v3⟩ := hW; obtain ⟨z0, z1, z2, z3⟩ := four_cells hW0; go_simp) ?_
            simp only [Act.put, List.setIfInBounds_toArray, List.set_cons_zero, List.set_cons_succ]
            refine wpL_take 3 27 (.slice (some ⟨g, o, none⟩) N cap) [6, 7, 8, 11, 12, 33] rfl rfl (by kernel_rfl) (by decide) (by kernel_rfl) (by kernel_rfl) (by kernel_rfl) (fun _ _ _ h => h) HS0.out (by rfl) (fun W hW => by obtain ⟨hW0, v0, v1, v2, v3⟩ := hW; obtain ⟨z0, z1, z2, z3⟩ := four_cells hW0; go_simp) ?_
            simp only [Act.put, List.setIfInBounds_toArray, List.set_cons_zero, List.set_cons_succ]
            refine wpL_take 4 28 (i64 k) [5, 6, 7, 8, 11, 12, 33] rfl rfl (by kernel_rfl) (by decide) (by kernel_rfl) (by kernel_rfl) (by kernel_rfl) (fun _ _ _ h => h) HS0.out (by rfl) (fun W hW => by obtain ⟨hW0, v0, v1, v2, v3⟩ := hW; obtain ⟨z0, z1, z2, z3⟩ := four_cells hW0; go_simp) ?_
            simp only [Act.put, List.setIfInBounds_toArray, List.set_cons_zero, List.set_cons_succ]
            refine wpL_take 5 29 (i64 j) [6, 7, 8, 11, 12, 33] rfl rfl (by kernel_rfl) (by decide) (by kernel_rfl) (by kernel_rfl) (by kernel_rfl) (fun _ _ _ h => h) HS0.out (by rfl) (fun W hW => by obtain ⟨hW0, v0, v1, v2, v3⟩ := hW; obtain ⟨z0, z1, z2, z3⟩ := four_cells hW0; go_simp) ?_
            simp only [Act.put, List.setIfInBounds_toArray, List.set_cons_zero, List.set_cons_succ]
            refine wpL_take 6 30 (.pointer (some ⟨g, o + j * 4, none⟩)) [7, 8, 11, 12, 33] rfl rfl (by kernel_rfl) (by decide) (by kernel_rfl) (by kernel_rfl) (by kernel_rfl) (fun _ _ _ h => h) HS0.out (by rfl) (fun W hW => by obtain ⟨hW0, v0, v1, v2, v3⟩ := hW; obtain ⟨z0, z1, z2, z3⟩ := four_cells hW0; go_simp) ?_
            simp only [Act.put, List.setIfInBounds_toArray, List.set_cons_zero, List.set_cons_succ]
            refine wpL_take 7 31 (.pointer (some ⟨g, o + j * 4, none⟩)) [8, 11, 12, 33] rfl rfl (by kernel_rfl) (by decide) (by kernel_rfl) (by kernel_rfl) (by kernel_rfl) (fun _ _ _ h => h) HS0.out (by rfl) (fun W hW => by obtain ⟨hW0, v0, v1, v2, v3⟩ := hW; obtain ⟨z0, z1, z2, z3⟩ := four_cells hW0; go_simp) ?_
            simp only [Act.put, List.setIfInBounds_toArray, List.set_cons_zero, List.set_cons_succ]
            refine wpL_take 8 32 (i64 y.1) [11, 12, 33] rfl rfl (by kernel_rfl) (by decide) (by kernel_rfl) (by kernel_rfl) (by kernel_rfl) (fun _ _ _ h => h) HS0.out (by rfl) (fun W hW => by obtain ⟨hW0, v0, v1, v2, v3⟩ := hW; obtain ⟨z0, z1, z2, z3⟩ := four_cells hW0; go_simp) ?_
            simp only [Act.put, List.setIfInBounds_toArray, List.set_cons_zero, List.set_cons_succ]
            refine wpL_take 9 33 (.pointer (some ⟨wr.heap.size, 0, none⟩)) [10, 11, 12, 33] rfl rfl (by kernel_rfl) (by decide) (by kernel_rfl) (by kernel_rfl) (by kernel_rfl) (fun _ _ _ h => h) HS0.out (by rfl) (fun W hW => by obtain ⟨hW0, v0, v1, v2, v3⟩ := hW; obtain ⟨z0, z1, z2, z3⟩ := four_cells hW0; go_simp) ?_
            simp only [Act.put, List.setIfInBounds_toArray, List.set_cons_zero, List.set_cons_succ]
            refine wpL_take 10 34 (i64 s.1) [11, 12, 33] rfl rfl (by kernel_rfl) (by decide) (by kernel_rfl) (by kernel_rfl) (by kernel_rfl) (fun _ _ _ h => h) HS0.out (by rfl) (fun W hW => by obtain ⟨hW0, v0, v1, v2, v3⟩ := hW; obtain ⟨z0, z1, z2, z3⟩ := four_cells hW0; go_simp) ?_
            simp only [Act.put, List.setIfInBounds_toArray, List.set_cons_zero, List.set_cons_succ]
            refine wpL_take 11 35 (.bool true) [12, 33] rfl rfl (by kernel_rfl) (by decide) (by kernel_rfl) (by kernel_rfl) (by kernel_rfl) (fun _ _ _ h => h) HS0.out (by rfl) (fun W hW => by obtain ⟨hW0, v0, v1, v2, v3⟩ := hW; obtain ⟨z0, z1, z2, z3⟩ := four_cells hW0; go_simp) ?_
            simp only [Act.put, List.setIfInBounds_toArray, List.set_cons_zero, List.set_cons_succ]
            refine wpL_take 12 36 (.bool true) [33] rfl rfl (by kernel_rfl) (by decide) (by kernel_rfl) (by kernel_rfl) (by kernel_rfl) (fun _ _ _ h => h) HS0.out (by rfl) (fun W hW => by obtain ⟨hW0, v0, v1, v2, v3⟩ := hW; obtain ⟨z0, z1, z2, z3⟩ := four_cells hW0; go_simp) ?_
            simp only [Act.put, List.setIfInBounds_toArray, List.set_cons_zero, List.set_cons_succ]
            refine wpL_skip 13 37 [16, 17, 18, 21, 22, 32, 33] rfl rfl (by kernel_rfl) (by decide) (by kernel_rfl) (by kernel_rfl) (by kernel_rfl) (fun _ _ _ h => h) HS0.out (by rfl) ?_
            simp only [Act.put, List.setIfInBounds_toArray, List.set_cons_zero, List.set_cons_succ]
            refine wpL_skip 14 38 [15, 16, 17, 18, 21, 22, 32, 33] rfl rfl (by kernel_rfl) (by decide) (by kernel_rfl) (by kernel_rfl) (by kernel_rfl) (fun _ _ _ h => h) HS0.out (by rfl) ?_
            simp only [Act.put, List.setIfInBounds_toArray, List.set_cons_zero, List.set_cons_succ]
            refine wpL_skip 15 39 [16, 17, 18, 21, 22, 32, 33] rfl rfl (by kernel_rfl) (by decide) (by kernel_rfl) (by kernel_rfl) (by kernel_rfl) (fun _ _ _ h => h) HS0.out (by rfl) ?_
            simp only [Act.put, List.setIfInBounds_toArray, List.set_cons_zero, List.set_cons_succ]
            refine wpL_skip 16 40 [17, 18, 21, 22, 32, 33] rfl rfl (by kernel_rfl) (by decide) (by kernel_rfl) (by kernel_rfl) (by kernel_rfl) (fun _ _ _ h => h) HS0.out (by rfl) ?_
            simp only [Act.put, List.setIfInBounds_toArray, List.set_cons_zero, List.set_cons_succ]
            refine wpL_skip 17 41 [18, 21, 22, 32, 33] rfl rfl (by kernel_rfl) (by decide) (by kernel_rfl) (by kernel_rfl) (by kernel_rfl) (fun _ _ _ h => h) HS0.out (by rfl) ?_
            simp only [Act.put, List.setIfInBounds_toArray, List.set_cons_zero, List.set_cons_succ]
            refine wpL_skip 18 42 [21, 22, 32, 33] rfl rfl (by kernel_rfl) (by decide) (by kernel_rfl) (by kernel_rfl) (by kernel_rfl) (fun _ _ _ h => h) HS0.out (by rfl) ?_
            simp only [Act.put, List.setIfInBounds_toArray, List.set_cons_zero, List.set_cons_succ]
            refine wpL_skip 19 43 [20, 21, 22, 32, 33] rfl rfl (by kernel_rfl) (by decide) (by kernel_rfl) (by kernel_rfl) (by kernel_rfl) (fun _ _ _ h => h) HS0.out (by rfl) ?_
            simp only [Act.put, List.setIfInBounds_toArray, List.set_cons_zero, List.set_cons_succ]
            refine wpL_skip 20 44 [21, 22, 32, 33] rfl rfl (by kernel_rfl) (by decide) (by kernel_rfl) (by kernel_rfl) (by kernel_rfl) (fun _ _ _ h => h) HS0.out (by rfl) ?_
            simp only [Act.put, List.setIfInBounds_toArray, List.set_cons_zero, List.set_cons_succ]
            refine wpL_skip 21 45 [22, 32, 33] rfl rfl (by kernel_rfl) (by decide) (by kernel_rfl) (by kernel_rfl) (by kernel_rfl) (fun _ _ _ h => h) HS0.out (by rfl) ?_
            simp only [Act.put, List.setIfInBounds_toArray, List.set_cons_zero, List.set_cons_succ]
            refine wpL_skip 22 46 [32, 33] rfl rfl (by kernel_rfl) (by decide) (by kernel_rfl) (by kernel_rfl) (by kernel_rfl) (fun _ _ _ h => h) HS0.out (by rfl) ?_
            simp only [Act.put, List.setIfInBounds_toArray, List.set_cons_zero, List.set_cons_succ]
            refine wpL_skip 23 47 [26, 27, 28, 31, 32, 33] rfl rfl (by kernel_rfl) (by decide) (by kernel_rfl) (by kernel_rfl) (by kernel_rfl) (fun _ _ _ h => h) HS0.out (by rfl) ?_
            simp only [Act.put, List.setIfInBounds_toArray, List.set_cons_zero, List.set_cons_succ]
            refine wpL_skip 24 48 [25, 26, 27, 28, 31, 32, 33] rfl rfl (by kernel_rfl) (by decide) (by kernel_rfl) (by kernel_rfl) (by kernel_rfl) (fun _ _ _ h => h) HS0.out (by rfl) ?_
            simp only [Act.put, List.setIfInBounds_toArray, List.set_cons_zero, List.set_cons_succ]
            refine wpL_skip 25 49 [26, 27, 28, 31, 32, 33] rfl rfl (by kernel_rfl) (by decide) (by kernel_rfl) (by kernel_rfl) (by kernel_rfl) (fun _ _ _ h => h) HS0.out (by rfl) ?_
            simp only [Act.put, List.setIfInBounds_toArray, List.set_cons_zero, List.set_cons_succ]
            refine wpL_skip 26 50 [27, 28, 31, 32, 33] rfl rfl (by kernel_rfl) (by decide) (by kernel_rfl) (by kernel_rfl) (by kernel_rfl) (fun _ _ _ h => h) HS0.out (by rfl) ?_
            simp only [Act.put, List.setIfInBounds_toArray, List.set_cons_zero, List.set_cons_succ]
            refine wpL_skip 27 51 [28, 31, 32, 33] rfl rfl (by kernel_rfl) (by decide) (by kernel_rfl) (by kernel_rfl) (by kernel_rfl) (fun _ _ _ h => h) HS0.out (by rfl) ?_
            simp only [Act.put, List.setIfInBounds_toArray, List.set_cons_zero, List.set_cons_succ]
            refine wpL_skip 28 52 [31, 32, 33] rfl rfl (by kernel_rfl) (by decide) (by kernel_rfl) (by kernel_rfl) (by kernel_rfl) (fun _ _ _ h => h) HS0.out (by rfl) ?_
            simp only [Act.put, List.setIfInBounds_toArray, List.set_cons_zero, List.set_cons_succ]
            refine wpL_skip 29 53 [30, 31, 32, 33] rfl rfl (by kernel_rfl) (by decide) (by kernel_rfl) (by kernel_rfl) (by kernel_rfl) (fun _ _ _ h => h) HS0.out (by rfl) ?_
            simp only [Act.put, List.setIfInBounds_toArray, List.set_cons_zero, List.set_cons_succ]
            refine wpL_skip 30 54 [31, 32, 33] rfl rfl (by kernel_rfl) (by decide) (by kernel_rfl) (by kernel_rfl) (by kernel_rfl) (fun _ _ _ h => h) HS0.out (by rfl) ?_
            simp only [Act.put, List.setIfInBounds_toArray, List.set_cons_zero, List.set_cons_succ]
            refine wpL_skip 31 55 [32, 33] rfl rfl (by kernel_rfl) (by decide) (by kernel_rfl) (by kernel_rfl) (by kernel_rfl) (fun _ _ _ h => h) HS0.out (by rfl) ?_
            simp only [Act.put, List.setIfInBounds_toArray, List.set_cons_zero, List.set_cons_succ]
            refine wpL_skip 32 56 [33] rfl rfl (by kernel_rfl) (by decide) (by kernel_rfl) (by kernel_rfl) (by kernel_rfl) (fun _ _ _ h => h) HS0.out (by rfl) ?_
            simp only [Act.put, List.setIfInBounds_toArray, List.set_cons_zero, List.set_cons_succ]
            refine wpL_take 33 57 (.bool true) [] rfl rfl (by kernel_rfl) (by decide) (by kernel_rfl) (by kernel_rfl) (by kernel_rfl) (fun _ _ _ h => h) HS0.out (by rfl) (fun W hW => by obtain ⟨hW0, v0, v1, v2, v3⟩ := hW; obtain ⟨z0, z1, z2, z3⟩ := four_cells hW0; go_simp) ?_
            simp only [Act.put, List.setIfInBounds_toArray, List.set_cons_zero, List.set_cons_succ]
            refine wpL_one 34 rfl (by kernel_rfl) (by rfl) (fun K hK => ?_)
            go_simp
            refine hK.out _ _ (fun h => absurd rfl h) ?_
            clear hK K
            refine wpL_done (by kernel_rfl) ?_
            refine NoPanic.normal ?_
            go_wp2_with fail
            go_ret
            exact ⟨.inr ⟨HNO.out, rfl⟩, HB0.out⟩
          · by_cases h2 : y.1 = s.1
            · have q2 : (y.1 == s.1) = true := beq_iff_eq.2 h2
              by_cases h3 : s.2.1 ≤ y.2.1
              · have HNO : Hid (¬ Lg X) := fun h => srt_bad HYj.out HXj.out (fun h => by rcases h with h | h <;> omega) h.2
                clear h2
                go_upto_region 7 with fail
                have HS0 : Hid (MemR2 wr.heap.size s g (o + j * 4) y (wr.alloc (sO s 58)).drew) := HS00.out
                have HRt0 : Hid (Rt (wr.alloc (sO s 58)).drew base r X) := by obtain ⟨h0, ao, cap, h1, h2⟩ := HRtV.out; exact ⟨h0, ao, cap, h1, own_keep h2 (fun _ _ h => h)⟩
                have HB0 : Hid (Below w.heap.size w (wr.alloc (sO s 58)).drew) := HBV.out.drew
                refine wp_region_noPanic ?_
                refine wp_region_last (MemR2 wr.heap.size s g (o + j * 4) y) 34 (by kernel_rfl) ?_
                refine wpL_take 0 24 (i64 k) [1, 2] rfl rfl (by kernel_rfl) (by decide) (by kernel_rfl) (by kernel_rfl) (by kernel_rfl) (fun _ _ _ h => h) HS0.out (by rfl) (fun W hW => by obtain ⟨hW0, v0, v1, v2, v3⟩ := hW; obtain ⟨z0, z1, z2, z3⟩ := four_cells hW0; go_simp) ?_
                simp only [Act.put, List.setIfInBounds_toArray, List.set_cons_zero, List.set_cons_succ]
                refine wpL_take 1 25 (.bool true) [2] rfl rfl (by kernel_rfl) (by decide) (by kernel_rfl) (by kernel_rfl) (by kernel_rfl) (fun _ _ _ h => h) HS0.out (by rfl) (fun W hW => by obtain ⟨hW0, v0, v1, v2, v3⟩ := hW; obtain ⟨z0, z1, z2, z3⟩ := four_cells hW0; go_simp; exact HKP.out) ?_
                simp only [Act.put, List.setIfInBounds_toArray, List.set_cons_zero, List.set_cons_succ]
                refine wpL_take 2 26 (.bool true) [] rfl rfl (by kernel_rfl) (by decide) (by kernel_rfl) (by kernel_rfl) (by kernel_rfl) (fun _ _ _ h => h) HS0.out (by rfl) (fun W hW => by obtain ⟨hW0, v0, v1, v2, v3⟩ := hW; obtain ⟨z0, z1, z2, z3⟩ := four_cells hW0; go_simp) ?_
                simp only [Act.put, List.setIfInBounds_toArray, List.set_cons_zero, List.set_cons_succ]
                refine wpL_take 3 27 (.slice (some ⟨g, o, none⟩) N cap) [6, 7, 8, 11, 12, 33] rfl rfl (by kernel_rfl) (by decide) (by kernel_rfl) (by kernel_rfl) (by kernel_rfl) (fun _ _ _ h => h) HS0.out (by rfl) (fun W hW => by obtain ⟨hW0, v0, v1, v2, v3⟩ := hW; obtain ⟨z0, z1, z2, z3⟩ := four_cells hW0; go_simp) ?_
                simp only [Act.put, List.setIfInBounds_toArray, List.set_cons_zero, List.set_cons_succ]
                refine wpL_take 4 28 (i64 k) [5, 6, 7, 8, 11, 12, 33] rfl rfl (by kernel_rfl) (by decide) (by kernel_rfl) (by kernel_rfl) (by kernel_rfl) (fun _ _ _ h => h) HS0.out (by rfl) (fun W hW => by obtain ⟨hW0, v0, v1, v2, v3⟩ := hW; obtain ⟨z0, z1, z2, z3⟩ := four_cells hW0; go_simp) ?_
                simp only [Act.put, List.setIfInBounds_toArray, List.set_cons_zero, List.set_cons_succ]
                refine wpL_take 5 29 (i64 j) [6, 7, 8, 11, 12, 33] rfl rfl (by kernel_rfl) (by decide) (by kernel_rfl) (by kernel_rfl) (by kernel_rfl) (fun _ _ _ h => h) HS0.out (by rfl) (fun W hW => by obtain ⟨hW0, v0, v1, v2, v3⟩ := hW; obtain ⟨z0, z1, z2, z3⟩ := four_cells hW0; go_simp) ?_
                simp only [Act.put, List.setIfInBounds_toArray, List.set_cons_zero, List.set_cons_succ]
                refine wpL_take 6 30 (.pointer (some ⟨g, o + j * 4, none⟩)) [7, 8, 11, 12, 33] rfl rfl (by kernel_rfl) (by decide) (by kernel_rfl) (by kernel_rfl) (by kernel_rfl) (fun _ _ _ h => h) HS0.out (by rfl) (fun W hW => by obtain ⟨hW0, v0, v1, v2, v3⟩ := hW; obtain ⟨z0, z1, z2, z3⟩ := four_cells hW0; go_simp) ?_
                simp only [Act.put, List.setIfInBounds_toArray, List.set_cons_zero, List.set_cons_succ]
                refine wpL_take 7 31 (.pointer (some ⟨g, o + j * 4, none⟩)) [8, 11, 12, 33] rfl rfl (by kernel_rfl) (by decide) (by kernel_rfl) (by kernel_rfl) (by kernel_rfl) (fun _ _ _ h => h) HS0.out (by rfl) (fun W hW => by obtain ⟨hW0, v0, v1, v2, v3⟩ := hW; obtain ⟨z0, z1, z2, z3⟩ := four_cells hW0; go_simp) ?_
                simp only [Act.put, List.setIfInBounds_toArray, List.set_cons_zero, List.set_cons_succ]
                refine wpL_take 8 32 (i64 y.1) [11, 12, 33] rfl rfl (by kernel_rfl) (by decide) (by kernel_rfl) (by kernel_rfl) (by kernel_rfl) (fun _ _ _ h => h) HS0.out (by rfl) (fun W hW => by obtain ⟨hW0, v0, v1, v2, v3⟩ := hW; obtain ⟨z0, z1, z2, z3⟩ := four_cells hW0; go_simp) ?_
                simp only [Act.put, List.setIfInBounds_toArray, List.set_cons_zero, List.set_cons_succ]
                refine wpL_take 9 33 (.pointer (some ⟨wr.heap.size, 0, none⟩)) [10, 11, 12, 33] rfl rfl (by kernel_rfl) (by decide) (by kernel_rfl) (by kernel_rfl) (by kernel_rfl) (fun _ _ _ h => h) HS0.out (by rfl) (fun W hW => by obtain ⟨hW0, v0, v1, v2, v3⟩ := hW; obtain ⟨z0, z1, z2, z3⟩ := four_cells hW0; go_simp) ?_
                simp only [Act.put, List.setIfInBounds_toArray, List.set_cons_zero, List.set_cons_succ]
                refine wpL_take 10 34 (i64 s.1) [11, 12, 33] rfl rfl (by kernel_rfl) (by decide) (by kernel_rfl) (by kernel_rfl) (by kernel_rfl) (fun _ _ _ h => h) HS0.out (by rfl) (fun W hW => by obtain ⟨hW0, v0, v1, v2, v3⟩ := hW; obtain ⟨z0, z1, z2, z3⟩ := four_cells hW0; go_simp) ?_
                simp only [Act.put, List.setIfInBounds_toArray, List.set_cons_zero, List.set_cons_succ]
                refine wpL_take 11 35 (.bool false) [12, 33] rfl rfl (by kernel_rfl) (by decide) (by kernel_rfl) (by kernel_rfl) (by kernel_rfl) (fun _ _ _ h => h) HS0.out (by rfl) (fun W hW => by obtain ⟨hW0, v0, v1, v2, v3⟩ := hW; obtain ⟨z0, z1, z2, z3⟩ := four_cells hW0; go_simp) ?_
                simp only [Act.put, List.setIfInBounds_toArray, List.set_cons_zero, List.set_cons_succ]
                refine wpL_take 12 36 (.bool false) [33] rfl rfl (by kernel_rfl) (by decide) (by kernel_rfl) (by kernel_rfl) (by kernel_rfl) (fun _ _ _ h => h) HS0.out (by rfl) (fun W hW => by obtain ⟨hW0, v0, v1, v2, v3⟩ := hW; obtain ⟨z0, z1, z2, z3⟩ := four_cells hW0; go_simp) ?_
                simp only [Act.put, List.setIfInBounds_toArray, List.set_cons_zero, List.set_cons_succ]
                refine wpL_take 13 37 (.slice (some ⟨g, o, none⟩) N cap) [16, 17, 18, 21, 22, 32, 33] rfl rfl (by kernel_rfl) (by decide) (by kernel_rfl) (by kernel_rfl) (by kernel_rfl) (fun _ _ _ h => h) HS0.out (by rfl) (fun W hW => by obtain ⟨hW0, v0, v1, v2, v3⟩ := hW; obtain ⟨z0, z1, z2, z3⟩ := four_cells hW0; go_simp) ?_
                simp only [Act.put, List.setIfInBounds_toArray, List.set_cons_zero, List.set_cons_succ]
                refine wpL_take 14 38 (i64 k) [15, 16, 17, 18, 21, 22, 32, 33] rfl rfl (by kernel_rfl) (by decide) (by kernel_rfl) (by kernel_rfl) (by kernel_rfl) (fun _ _ _ h => h) HS0.out (by rfl) (fun W hW => by obtain ⟨hW0, v0, v1, v2, v3⟩ := hW; obtain ⟨z0, z1, z2, z3⟩ := four_cells hW0; go_simp) ?_
                simp only [Act.put, List.setIfInBounds_toArray, List.set_cons_zero, List.set_cons_succ]
                refine wpL_take 15 39 (i64 j) [16, 17, 18, 21, 22, 32, 33] rfl rfl (by kernel_rfl) (by decide) (by kernel_rfl) (by kernel_rfl) (by kernel_rfl) (fun _ _ _ h => h) HS0.out (by rfl) (fun W hW => by obtain ⟨hW0, v0, v1, v2, v3⟩ := hW; obtain ⟨z0, z1, z2, z3⟩ := four_cells hW0; go_simp) ?_
                simp only [Act.put, List.setIfInBounds_toArray, List.set_cons_zero, List.set_cons_succ]
                refine wpL_take 16 40 (.pointer (some ⟨g, o + j * 4, none⟩)) [17, 18, 21, 22, 32, 33] rfl rfl (by kernel_rfl) (by decide) (by kernel_rfl) (by kernel_rfl) (by kernel_rfl) (fun _ _ _ h => h) HS0.out (by rfl) (fun W hW => by obtain ⟨hW0, v0, v1, v2, v3⟩ := hW; obtain ⟨z0, z1, z2, z3⟩ := four_cells hW0; go_simp) ?_
                simp only [Act.put, List.setIfInBounds_toArray, List.set_cons_zero, List.set_cons_succ]
                refine wpL_take 17 41 (.pointer (some ⟨g, o + j * 4, none⟩)) [18, 21, 22, 32, 33] rfl rfl (by kernel_rfl) (by decide) (by kernel_rfl) (by kernel_rfl) (by kernel_rfl) (fun _ _ _ h => h) HS0.out (by rfl) (fun W hW => by obtain ⟨hW0, v0, v1, v2, v3⟩ := hW; obtain ⟨z0, z1, z2, z3⟩ := four_cells hW0; go_simp) ?_
                simp only [Act.put, List.setIfInBounds_toArray, List.set_cons_zero, List.set_cons_succ]
                refine wpL_take 18 42 (i64 y.1) [21, 22, 32, 33] rfl rfl (by kernel_rfl) (by decide) (by kernel_rfl) (by kernel_rfl) (by kernel_rfl) (fun _ _ _ h => h) HS0.out (by rfl) (fun W hW => by obtain ⟨hW0, v0, v1, v2, v3⟩ := hW; obtain ⟨z0, z1, z2, z3⟩ := four_cells hW0; go_simp) ?_
                simp only [Act.put, List.setIfInBounds_toArray, List.set_cons_zero, List.set_cons_succ]
                refine wpL_take 19 43 (.pointer (some ⟨wr.heap.size, 0, none⟩)) [20, 21, 22, 32, 33] rfl rfl (by kernel_rfl) (by decide) (by kernel_rfl) (by kernel_rfl) (by kernel_rfl) (fun _ _ _ h => h) HS0.out (by rfl) (fun W hW => by obtain ⟨hW0, v0, v1, v2, v3⟩ := hW; obtain ⟨z0, z1, z2, z3⟩ := four_cells hW0; go_simp) ?_
                simp only [Act.put, List.setIfInBounds_toArray, List.set_cons_zero, List.set_cons_succ]
                refine wpL_take 20 44 (i64 s.1) [21, 22, 32, 33] rfl rfl (by kernel_rfl) (by decide) (by kernel_rfl) (by kernel_rfl) (by kernel_rfl) (fun _ _ _ h => h) HS0.out (by rfl) (fun W hW => by obtain ⟨hW0, v0, v1, v2, v3⟩ := hW; obtain ⟨z0, z1, z2, z3⟩ := four_cells hW0; go_simp) ?_
                simp only [Act.put, List.setIfInBounds_toArray, List.set_cons_zero, List.set_cons_succ]
                refine wpL_take 21 45 (.bool true) [22, 32, 33] rfl rfl (by kernel_rfl) (by decide) (by kernel_rfl) (by kernel_rfl) (by kernel_rfl) (fun _ _ _ h => h) HS0.out (by rfl) (fun W hW => by obtain ⟨hW0, v0, v1, v2, v3⟩ := hW; obtain ⟨z0, z1, z2, z3⟩ := four_cells hW0; go_simp) ?_
                simp only [Act.put, List.setIfInBounds_toArray, List.set_cons_zero, List.set_cons_succ]
                refine wpL_take 22 46 (.bool true) [32, 33] rfl rfl (by kernel_rfl) (by decide) (by kernel_rfl) (by kernel_rfl) (by kernel_rfl) (fun _ _ _ h => h) HS0.out (by rfl) (fun W hW => by obtain ⟨hW0, v0, v1, v2, v3⟩ := hW; obtain ⟨z0, z1, z2, z3⟩ := four_cells hW0; go_simp) ?_
                simp only [Act.put, List.setIfInBounds_toArray, List.set_cons_zero, List.set_cons_succ]
                refine wpL_take 23 47 (.slice (some ⟨g, o, none⟩) N cap) [26, 27, 28, 31, 32, 33] rfl rfl (by kernel_rfl) (by decide) (by kernel_rfl) (by kernel_rfl) (by kernel_rfl) (fun _ _ _ h => h) HS0.out (by rfl) (fun W hW => by obtain ⟨hW0, v0, v1, v2, v3⟩ := hW; obtain ⟨z0, z1, z2, z3⟩ := four_cells hW0; go_simp) ?_
                simp only [Act.put, List.setIfInBounds_toArray, List.set_cons_zero, List.set_cons_succ]
                refine wpL_take 24 48 (i64 k) [25, 26, 27, 28, 31, 32, 33] rfl rfl (by kernel_rfl) (by decide) (by kernel_rfl) (by kernel_rfl) (by kernel_rfl) (fun _ _ _ h => h) HS0.out (by rfl) (fun W hW => by obtain ⟨hW0, v0, v1, v2, v3⟩ := hW; obtain ⟨z0, z1, z2, z3⟩ := four_cells hW0; go_simp) ?_
                simp only [Act.put, List.setIfInBounds_toArray, List.set_cons_zero, List.set_cons_succ]
                refine wpL_take 25 49 (i64 j) [26, 27, 28, 31, 32, 33] rfl rfl (by kernel_rfl) (by decide) (by kernel_rfl) (by kernel_rfl) (by kernel_rfl) (fun _ _ _ h => h) HS0.out (by rfl) (fun W hW => by obtain ⟨hW0, v0, v1, v2, v3⟩ := hW; obtain ⟨z0, z1, z2, z3⟩ := four_cells hW0; go_simp) ?_
                simp only [Act.put, List.setIfInBounds_toArray, List.set_cons_zero, List.set_cons_succ]
                refine wpL_take 26 50 (.pointer (some ⟨g, o + j * 4, none⟩)) [27, 28, 31, 32, 33] rfl rfl (by kernel_rfl) (by decide) (by kernel_rfl) (by kernel_rfl) (by kernel_rfl) (fun _ _ _ h => h) HS0.out (by rfl) (fun W hW => by obtain ⟨hW0, v0, v1, v2, v3⟩ := hW; obtain ⟨z0, z1, z2, z3⟩ := four_cells hW0; go_simp) ?_
                simp only [Act.put, List.setIfInBounds_toArray, List.set_cons_zero, List.set_cons_succ]
                refine wpL_take 27 51 (.pointer (some ⟨g, o + j * 4 + 1, none⟩)) [28, 31, 32, 33] rfl rfl (by kernel_rfl) (by decide) (by kernel_rfl) (by kernel_rfl) (by kernel_rfl) (fun _ _ _ h => h) HS0.out (by rfl) (fun W hW => by obtain ⟨hW0, v0, v1, v2, v3⟩ := hW; obtain ⟨z0, z1, z2, z3⟩ := four_cells hW0; go_simp) ?_
                simp only [Act.put, List.setIfInBounds_toArray, List.set_cons_zero, List.set_cons_succ]
                refine wpL_take 28 52 (i64 y.2.1) [31, 32, 33] rfl rfl (by kernel_rfl) (by decide) (by kernel_rfl) (by kernel_rfl) (by kernel_rfl) (fun _ _ _ h => h) HS0.out (by rfl) (fun W hW => by obtain ⟨hW0, v0, v1, v2, v3⟩ := hW; obtain ⟨z0, z1, z2, z3⟩ := four_cells hW0; go_simp) ?_
                simp only [Act.put, List.setIfInBounds_toArray, List.set_cons_zero, List.set_cons_succ]
                refine wpL_take 29 53 (.pointer (some ⟨wr.heap.size, 1, none⟩)) [30, 31, 32, 33] rfl rfl (by kernel_rfl) (by decide) (by kernel_rfl) (by kernel_rfl) (by kernel_rfl) (fun _ _ _ h => h) HS0.out (by rfl) (fun W hW => by obtain ⟨hW0, v0, v1, v2, v3⟩ := hW; obtain ⟨z0, z1, z2, z3⟩ := four_cells hW0; go_simp) ?_
                simp only [Act.put, List.setIfInBounds_toArray, List.set_cons_zero, List.set_cons_succ]
                refine wpL_take 30 54 (i64 s.2.1) [31, 32, 33] rfl rfl (by kernel_rfl) (by decide) (by kernel_rfl) (by kernel_rfl) (by kernel_rfl) (fun _ _ _ h => h) HS0.out (by rfl) (fun W hW => by obtain ⟨hW0, v0, v1, v2, v3⟩ := hW; obtain ⟨z0, z1, z2, z3⟩ := four_cells hW0; go_simp) ?_
                simp only [Act.put, List.setIfInBounds_toArray, List.set_cons_zero, List.set_cons_succ]
                refine wpL_take 31 55 (.bool true) [32, 33] rfl rfl (by kernel_rfl) (by decide) (by kernel_rfl) (by kernel_rfl) (by kernel_rfl) (fun _ _ _ h => h) HS0.out (by rfl) (fun W hW => by obtain ⟨hW0, v0, v1, v2, v3⟩ := hW; obtain ⟨z0, z1, z2, z3⟩ := four_cells hW0; go_simp) ?_
                simp only [Act.put, List.setIfInBounds_toArray, List.set_cons_zero, List.set_cons_succ]
                refine wpL_take 32 56 (.bool true) [33] rfl rfl (by kernel_rfl) (by decide) (by kernel_rfl) (by kernel_rfl) (by kernel_rfl) (fun _ _ _ h => h) HS0.out (by rfl) (fun W hW => by obtain ⟨hW0, v0, v1, v2, v3⟩ := hW; obtain ⟨z0, z1, z2, z3⟩ := four_cells hW0; go_simp) ?_
                simp only [Act.put, List.setIfInBounds_toArray, List.set_cons_zero, List.set_cons_succ]
                refine wpL_take 33 57 (.bool true) [] rfl rfl (by kernel_rfl) (by decide) (by kernel_rfl) (by kernel_rfl) (by kernel_rfl) (fun _ _ _ h => h) HS0.out (by rfl) (fun W hW => by obtain ⟨hW0, v0, v1, v2, v3⟩ := hW; obtain ⟨z0, z1, z2, z3⟩ := four_cells hW0; go_simp) ?_
                simp only [Act.put, List.setIfInBounds_toArray, List.set_cons_zero, List.set_cons_succ]
                refine wpL_one 34 rfl (by kernel_rfl) (by rfl) (fun K hK => ?_)
                go_simp
                refine hK.out _ _ (fun h => absurd rfl h) ?_
                clear hK K
                refine wpL_done (by kernel_rfl) ?_
                refine NoPanic.normal ?_
                go_wp2_with fail
                go_ret
                exact ⟨.inr ⟨HNO.out, rfl⟩, HB0.out⟩
              · have HSN : Hid ((X.take (k + 1)).Pairwise ahP) := srt_next HSr.out HXk.out (.inr ⟨j, y, HKJ.out, HYj.out, .inr ⟨h2, by omega⟩⟩)
                clear h2
                go_upto_region 7 with fail
                have HS0 : Hid (MemR2 wr.heap.size s g (o + j * 4) y (wr.alloc (sO s 58)).drew) := HS00.out
                have HRt0 : Hid (Rt (wr.alloc (sO s 58)).drew base r X) := by obtain ⟨h0, ao, cap, h1, h2⟩ := HRtV.out; exact ⟨h0, ao, cap, h1, own_keep h2 (fun _ _ h => h)⟩
                have HB0 : Hid (Below w.heap.size w (wr.alloc (sO s 58)).drew) := HBV.out.drew
                refine wp_region_noPanic ?_
                refine wp_region_last (MemR2 wr.heap.size s g (o + j * 4) y) 34 (by kernel_rfl) ?_
                refine wpL_take 0 24 (i64 k) [1, 2] rfl rfl (by kernel_rfl) (by decide) (by kernel_rfl) (by kernel_rfl) (by kernel_rfl) (fun _ _ _ h => h) HS0.out (by rfl) (fun W hW => by obtain ⟨hW0, v0, v1, v2, v3⟩ := hW; obtain ⟨z0, z1, z2, z3⟩ := four_cells hW0; go_simp) ?_
                simp only [Act.put, List.setIfInBounds_toArray, List.set_cons_zero, List.set_cons_succ]
                refine wpL_take 1 25 (.bool true) [2] rfl rfl (by kernel_rfl) (by decide) (by kernel_rfl) (by kernel_rfl) (by kernel_rfl) (fun _ _ _ h => h) HS0.out (by rfl) (fun W hW => by obtain ⟨hW0, v0, v1, v2, v3⟩ := hW; obtain ⟨z0, z1, z2, z3⟩ := four_cells hW0; go_simp; exact HKP.out) ?_
                simp only [Act.put, List.setIfInBounds_toArray, List.set_cons_zero, List.set_cons_succ]
                refine wpL_take 2 26 (.bool true) [] rfl rfl (by kernel_rfl) (by decide) (by kernel_rfl) (by kernel_rfl) (by kernel_rfl) (fun _ _ _ h => h) HS0.out (by rfl) (fun W hW => by obtain ⟨hW0, v0, v1, v2, v3⟩ := hW; obtain ⟨z0, z1, z2, z3⟩ := four_cells hW0; go_simp) ?_
                simp only [Act.put, List.setIfInBounds_toArray, List.set_cons_zero, List.set_cons_succ]
                refine wpL_take 3 27 (.slice (some ⟨g, o, none⟩) N cap) [6, 7, 8, 11, 12, 33] rfl rfl (by kernel_rfl) (by decide) (by kernel_rfl) (by kernel_rfl) (by kernel_rfl) (fun _ _ _ h => h) HS0.out (by rfl) (fun W hW => by obtain ⟨hW0, v0, v1, v2, v3⟩ := hW; obtain ⟨z0, z1, z2, z3⟩ := four_cells hW0; go_simp) ?_
                simp only [Act.put, List.setIfInBounds_toArray, List.set_cons_zero, List.set_cons_succ]
                refine wpL_take 4 28 (i64 k) [5, 6, 7, 8, 11, 12, 33] rfl rfl (by kernel_rfl) (by decide) (by kernel_rfl) (by kernel_rfl) (by kernel_rfl) (fun _ _ _ h => h) HS0.out (by rfl) (fun W hW => by obtain ⟨hW0, v0, v1, v2, v3⟩ := hW; obtain ⟨z0, z1, z2, z3⟩ := four_cells hW0; go_simp) ?_
                simp only [Act.put, List.setIfInBounds_toArray, List.set_cons_zero, List.set_cons_succ]
                refine wpL_take 5 29 (i64 j) [6, 7, 8, 11, 12, 33] rfl rfl (by kernel_rfl) (by decide) (by kernel_rfl) (by kernel_rfl) (by kernel_rfl) (fun _ _ _ h => h) HS0.out (by rfl) (fun W hW => by obtain ⟨hW0, v0, v1, v2, v3⟩ := hW; obtain ⟨z0, z1, z2, z3⟩ := four_cells hW0; go_simp) ?_
                simp only [Act.put, List.setIfInBounds_toArray, List.set_cons_zero, List.set_cons_succ]
                refine wpL_take 6 30 (.pointer (some ⟨g, o + j * 4, none⟩)) [7, 8, 11, 12, 33] rfl rfl (by kernel_rfl) (by decide) (by kernel_rfl) (by kernel_rfl) (by kernel_rfl) (fun _ _ _ h => h) HS0.out (by rfl) (fun W hW => by obtain ⟨hW0, v0, v1, v2, v3⟩ := hW; obtain ⟨z0, z1, z2, z3⟩ := four_cells hW0; go_simp) ?_
                simp only [Act.put, List.setIfInBounds_toArray, List.set_cons_zero, List.set_cons_succ]
                refine wpL_take 7 31 (.pointer (some ⟨g, o + j * 4, none⟩)) [8, 11, 12, 33] rfl rfl (by kernel_rfl) (by decide) (by kernel_rfl) (by kernel_rfl) (by kernel_rfl) (fun _ _ _ h => h) HS0.out (by rfl) (fun W hW => by obtain ⟨hW0, v0, v1, v2, v3⟩ := hW; obtain ⟨z0, z1, z2, z3⟩ := four_cells hW0; go_simp) ?_
                simp only [Act.put, List.setIfInBounds_toArray, List.set_cons_zero, List.set_cons_succ]
                refine wpL_take 8 32 (i64 y.1) [11, 12, 33] rfl rfl (by kernel_rfl) (by decide) (by kernel_rfl) (by kernel_rfl) (by kernel_rfl) (fun _ _ _ h => h) HS0.out (by rfl) (fun W hW => by obtain ⟨hW0, v0, v1, v2, v3⟩ := hW; obtain ⟨z0, z1, z2, z3⟩ := four_cells hW0; go_simp) ?_
                simp only [Act.put, List.setIfInBounds_toArray, List.set_cons_zero, List.set_cons_succ]
                refine wpL_take 9 33 (.pointer (some ⟨wr.heap.size, 0, none⟩)) [10, 11, 12, 33] rfl rfl (by kernel_rfl) (by decide) (by kernel_rfl) (by kernel_rfl) (by kernel_rfl) (fun _ _ _ h => h) HS0.out (by rfl) (fun W hW => by obtain ⟨hW0, v0, v1, v2, v3⟩ := hW; obtain ⟨z0, z1, z2, z3⟩ := four_cells hW0; go_simp) ?_
                simp only [Act.put, List.setIfInBounds_toArray, List.set_cons_zero, List.set_cons_succ]
                refine wpL_take 10 34 (i64 s.1) [11, 12, 33] rfl rfl (by kernel_rfl) (by decide) (by kernel_rfl) (by kernel_rfl) (by kernel_rfl) (fun _ _ _ h => h) HS0.out (by rfl) (fun W hW => by obtain ⟨hW0, v0, v1, v2, v3⟩ := hW; obtain ⟨z0, z1, z2, z3⟩ := four_cells hW0; go_simp) ?_
                simp only [Act.put, List.setIfInBounds_toArray, List.set_cons_zero, List.set_cons_succ]
                refine wpL_take 11 35 (.bool false) [12, 33] rfl rfl (by kernel_rfl) (by decide) (by kernel_rfl) (by kernel_rfl) (by kernel_rfl) (fun _ _ _ h => h) HS0.out (by rfl) (fun W hW => by obtain ⟨hW0, v0, v1, v2, v3⟩ := hW; obtain ⟨z0, z1, z2, z3⟩ := four_cells hW0; go_simp) ?_
                simp only [Act.put, List.setIfInBounds_toArray, List.set_cons_zero, List.set_cons_succ]
                refine wpL_take 12 36 (.bool false) [33] rfl rfl (by kernel_rfl) (by decide) (by kernel_rfl) (by kernel_rfl) (by kernel_rfl) (fun _ _ _ h => h) HS0.out (by rfl) (fun W hW => by obtain ⟨hW0, v0, v1, v2, v3⟩ := hW; obtain ⟨z0, z1, z2, z3⟩ := four_cells hW0; go_simp) ?_
                simp only [Act.put, List.setIfInBounds_toArray, List.set_cons_zero, List.set_cons_succ]
                refine wpL_take 13 37 (.slice (some ⟨g, o, none⟩) N cap) [16, 17, 18, 21, 22, 32, 33] rfl rfl (by kernel_rfl) (by decide) (by kernel_rfl) (by kernel_rfl) (by kernel_rfl) (fun _ _ _ h => h) HS0.out (by rfl) (fun W hW => by obtain ⟨hW0, v0, v1, v2, v3⟩ := hW; obtain ⟨z0, z1, z2, z3⟩ := four_cells hW0; go_simp) ?_
                simp only [Act.put, List.setIfInBounds_toArray, List.set_cons_zero, List.set_cons_succ]
                refine wpL_take 14 38 (i64 k) [15, 16, 17, 18, 21, 22, 32, 33] rfl rfl (by kernel_rfl) (by decide) (by kernel_rfl) (by kernel_rfl) (by kernel_rfl) (fun _ _ _ h => h) HS0.out (by rfl) (fun W hW => by obtain ⟨hW0, v0, v1, v2, v3⟩ := hW; obtain ⟨z0, z1, z2, z3⟩ := four_cells hW0; go_simp) ?_
                simp only [Act.put, List.setIfInBounds_toArray, List.set_cons_zero, List.set_cons_succ]
                refine wpL_take 15 39 (i64 j) [16, 17, 18, 21, 22, 32, 33] rfl rfl (by kernel_rfl) (by decide) (by kernel_rfl) (by kernel_rfl) (by kernel_rfl) (fun _ _ _ h => h) HS0.out (by rfl) (fun W hW => by obtain ⟨hW0, v0, v1, v2, v3⟩ := hW; obtain ⟨z0, z1, z2, z3⟩ := four_cells hW0; go_simp) ?_
                simp only [Act.put, List.setIfInBounds_toArray, List.set_cons_zero, List.set_cons_succ]
                refine wpL_take 16 40 (.pointer (some ⟨g, o + j * 4, none⟩)) [17, 18, 21, 22, 32, 33] rfl rfl (by kernel_rfl) (by decide) (by kernel_rfl) (by kernel_rfl) (by kernel_rfl) (fun _ _ _ h => h) HS0.out (by rfl) (fun W hW => by obtain ⟨hW0, v0, v1, v2, v3⟩ := hW; obtain ⟨z0, z1, z2, z3⟩ := four_cells hW0; go_simp) ?_
                simp only [Act.put, List.setIfInBounds_toArray, List.set_cons_zero, List.set_cons_succ]
                refine wpL_take 17 41 (.pointer (some ⟨g, o + j * 4, none⟩)) [18, 21, 22, 32, 33] rfl rfl (by kernel_rfl) (by decide) (by kernel_rfl) (by kernel_rfl) (by kernel_rfl) (fun _ _ _ h => h) HS0.out (by rfl) (fun W hW => by obtain ⟨hW0, v0, v1, v2, v3⟩ := hW; obtain ⟨z0, z1, z2, z3⟩ := four_cells hW0; go_simp) ?_
                simp only [Act.put, List.setIfInBounds_toArray, List.set_cons_zero, List.set_cons_succ]
                refine wpL_take 18 42 (i64 y.1) [21, 22, 32, 33] rfl rfl (by kernel_rfl) (by decide) (by kernel_rfl) (by kernel_rfl) (by kernel_rfl) (fun _ _ _ h => h) HS0.out (by rfl) (fun W hW => by obtain ⟨hW0, v0, v1, v2, v3⟩ := hW; obtain ⟨z0, z1, z2, z3⟩ := four_cells hW0; go_simp) ?_
                simp only [Act.put, List.setIfInBounds_toArray, List.set_cons_zero, List.set_cons_succ]
                refine wpL_take 19 43 (.pointer (some ⟨wr.heap.size, 0, none⟩)) [20, 21, 22, 32, 33] rfl rfl (by kernel_rfl) (by decide) (by kernel_rfl) (by kernel_rfl) (by kernel_rfl) (fun _ _ _ h => h) HS0.out (by rfl) (fun W hW => by obtain ⟨hW0, v0, v1, v2, v3⟩ := hW; obtain ⟨z0, z1, z2, z3⟩ := four_cells hW0; go_simp) ?_
                simp only [Act.put, List.setIfInBounds_toArray, List.set_cons_zero, List.set_cons_succ]
                refine wpL_take 20 44 (i64 s.1) [21, 22, 32, 33] rfl rfl (by kernel_rfl) (by decide) (by kernel_rfl) (by kernel_rfl) (by kernel_rfl) (fun _ _ _ h => h) HS0.out (by rfl) (fun W hW => by obtain ⟨hW0, v0, v1, v2, v3⟩ := hW; obtain ⟨z0, z1, z2, z3⟩ := four_cells hW0; go_simp) ?_
                simp only [Act.put, List.setIfInBounds_toArray, List.set_cons_zero, List.set_cons_succ]
                refine wpL_take 21 45 (.bool true) [22, 32, 33] rfl rfl (by kernel_rfl) (by decide) (by kernel_rfl) (by kernel_rfl) (by kernel_rfl) (fun _ _ _ h => h) HS0.out (by rfl) (fun W hW => by obtain ⟨hW0, v0, v1, v2, v3⟩ := hW; obtain ⟨z0, z1, z2, z3⟩ := four_cells hW0; go_simp) ?_
                simp only [Act.put, List.setIfInBounds_toArray, List.set_cons_zero, List.set_cons_succ]
                refine wpL_take 22 46 (.bool true) [32, 33] rfl rfl (by kernel_rfl) (by decide) (by kernel_rfl) (by kernel_rfl) (by kernel_rfl) (fun _ _ _ h => h) HS0.out (by rfl) (fun W hW => by obtain ⟨hW0, v0, v1, v2, v3⟩ := hW; obtain ⟨z0, z1, z2, z3⟩ := four_cells hW0; go_simp) ?_
                simp only [Act.put, List.setIfInBounds_toArray, List.set_cons_zero, List.set_cons_succ]
                refine wpL_take 23 47 (.slice (some ⟨g, o, none⟩) N cap) [26, 27, 28, 31, 32, 33] rfl rfl (by kernel_rfl) (by decide) (by kernel_rfl) (by kernel_rfl) (by kernel_rfl) (fun _ _ _ h => h) HS0.out (by rfl) (fun W hW => by obtain ⟨hW0, v0, v1, v2, v3⟩ := hW; obtain ⟨z0, z1, z2, z3⟩ := four_cells hW0; go_simp) ?_
                simp only [Act.put, List.setIfInBounds_toArray, List.set_cons_zero, List.set_cons_succ]
                refine wpL_take 24 48 (i64 k) [25, 26, 27, 28, 31, 32, 33] rfl rfl (by kernel_rfl) (by decide) (by kernel_rfl) (by kernel_rfl) (by kernel_rfl) (fun _ _ _ h => h) HS0.out (by rfl) (fun W hW => by obtain ⟨hW0, v0, v1, v2, v3⟩ := hW; obtain ⟨z0, z1, z2, z3⟩ := four_cells hW0; go_simp) ?_
                simp only [Act.put, List.setIfInBounds_toArray, List.set_cons_zero, List.set_cons_succ]
                refine wpL_take 25 49 (i64 j) [26, 27, 28, 31, 32, 33] rfl rfl (by kernel_rfl) (by decide) (by kernel_rfl) (by kernel_rfl) (by kernel_rfl) (fun _ _ _ h => h) HS0.out (by rfl) (fun W hW => by obtain ⟨hW0, v0, v1, v2, v3⟩ := hW; obtain ⟨z0, z1, z2, z3⟩ := four_cells hW0; go_simp) ?_
                simp only [Act.put, List.setIfInBounds_toArray, List.set_cons_zero, List.set_cons_succ]
                refine wpL_take 26 50 (.pointer (some ⟨g, o + j * 4, none⟩)) [27, 28, 31, 32, 33] rfl rfl (by kernel_rfl) (by decide) (by kernel_rfl) (by kernel_rfl) (by kernel_rfl) (fun _ _ _ h => h) HS0.out (by rfl) (fun W hW => by obtain ⟨hW0, v0, v1, v2, v3⟩ := hW; obtain ⟨z0, z1, z2, z3⟩ := four_cells hW0; go_simp) ?_
                simp only [Act.put, List.setIfInBounds_toArray, List.set_cons_zero, List.set_cons_succ]
                refine wpL_take 27 51 (.pointer (some ⟨g, o + j * 4 + 1, none⟩)) [28, 31, 32, 33] rfl rfl (by kernel_rfl) (by decide) (by kernel_rfl) (by kernel_rfl) (by kernel_rfl) (fun _ _ _ h => h) HS0.out (by rfl) (fun W hW => by obtain ⟨hW0, v0, v1, v2, v3⟩ := hW; obtain ⟨z0, z1, z2, z3⟩ := four_cells hW0; go_simp) ?_
                simp only [Act.put, List.setIfInBounds_toArray, List.set_cons_zero, List.set_cons_succ]
                refine wpL_take 28 52 (i64 y.2.1) [31, 32, 33] rfl rfl (by kernel_rfl) (by decide) (by kernel_rfl) (by kernel_rfl) (by kernel_rfl) (fun _ _ _ h => h) HS0.out (by rfl) (fun W hW => by obtain ⟨hW0, v0, v1, v2, v3⟩ := hW; obtain ⟨z0, z1, z2, z3⟩ := four_cells hW0; go_simp) ?_
                simp only [Act.put, List.setIfInBounds_toArray, List.set_cons_zero, List.set_cons_succ]
                refine wpL_take 29 53 (.pointer (some ⟨wr.heap.size, 1, none⟩)) [30, 31, 32, 33] rfl rfl (by kernel_rfl) (by decide) (by kernel_rfl) (by kernel_rfl) (by kernel_rfl) (fun _ _ _ h => h) HS0.out (by rfl) (fun W hW => by obtain ⟨hW0, v0, v1, v2, v3⟩ := hW; obtain ⟨z0, z1, z2, z3⟩ := four_cells hW0; go_simp) ?_
                simp only [Act.put, List.setIfInBounds_toArray, List.set_cons_zero, List.set_cons_succ]
                refine wpL_take 30 54 (i64 s.2.1) [31, 32, 33] rfl rfl (by kernel_rfl) (by decide) (by kernel_rfl) (by kernel_rfl) (by kernel_rfl) (fun _ _ _ h => h) HS0.out (by rfl) (fun W hW => by obtain ⟨hW0, v0, v1, v2, v3⟩ := hW; obtain ⟨z0, z1, z2, z3⟩ := four_cells hW0; go_simp) ?_
                simp only [Act.put, List.setIfInBounds_toArray, List.set_cons_zero, List.set_cons_succ]
                refine wpL_take 31 55 (.bool false) [32, 33] rfl rfl (by kernel_rfl) (by decide) (by kernel_rfl) (by kernel_rfl) (by kernel_rfl) (fun _ _ _ h => h) HS0.out (by rfl) (fun W hW => by obtain ⟨hW0, v0, v1, v2, v3⟩ := hW; obtain ⟨z0, z1, z2, z3⟩ := four_cells hW0; go_simp) ?_
                simp only [Act.put, List.setIfInBounds_toArray, List.set_cons_zero, List.set_cons_succ]
                refine wpL_take 32 56 (.bool false) [33] rfl rfl (by kernel_rfl) (by decide) (by kernel_rfl) (by kernel_rfl) (by kernel_rfl) (fun _ _ _ h => h) HS0.out (by rfl) (fun W hW => by obtain ⟨hW0, v0, v1, v2, v3⟩ := hW; obtain ⟨z0, z1, z2, z3⟩ := four_cells hW0; go_simp) ?_
                simp only [Act.put, List.setIfInBounds_toArray, List.set_cons_zero, List.set_cons_succ]
                refine wpL_take 33 57 (.bool false) [] rfl rfl (by kernel_rfl) (by decide) (by kernel_rfl) (by kernel_rfl) (by kernel_rfl) (fun _ _ _ h => h) HS0.out (by rfl) (fun W hW => by obtain ⟨hW0, v0, v1, v2, v3⟩ := hW; obtain ⟨z0, z1, z2, z3⟩ := four_cells hW0; go_simp) ?_
                simp only [Act.put, List.setIfInBounds_toArray, List.set_cons_zero, List.set_cons_succ]
                refine wpL_one 34 rfl (by kernel_rfl) (by rfl) (fun K hK => ?_)
                go_simp
                refine hK.out _ _ (fun h => absurd rfl h) ?_
                clear hK K
                refine wpL_done (by kernel_rfl) ?_
                refine NoPanic.normal ?_
                go_wp2_with fail
                exact ⟨⟨k + 1, by omega, by go_num, HRt0, HPN, HSN, HB0⟩, by simp [intOf]; omega⟩
            · have q2 : (y.1 == s.1) = false := beq_false_of_ne h2
              have HSN : Hid ((X.take (k + 1)).Pairwise ahP) := srt_next HSr.out HXk.out (.inr ⟨j, y, HKJ.out, HYj.out, .inl (by omega)⟩)
              clear h2
              go_upto_region 7 with fail
              have HS0 : Hid (MemR2 wr.heap.size s g (o + j * 4) y (wr.alloc (sO s 58)).drew) := HS00.out
              have HRt0 : Hid (Rt (wr.alloc (sO s 58)).drew base r X) := by obtain ⟨h0, ao, cap, h1, h2⟩ := HRtV.out; exact ⟨h0, ao, cap, h1, own_keep h2 (fun _ _ h => h)⟩
              have HB0 : Hid (Below w.heap.size w (wr.alloc (sO s 58)).drew) := HBV.out.drew
              refine wp_region_noPanic ?_
              refine wp_region_last (MemR2 wr.heap.size s g (o + j * 4) y) 34 (by kernel_rfl) ?_
              refine wpL_take 0 24 (i64 k) [1, 2] rfl rfl (by kernel_rfl) (by decide) (by kernel_rfl) (by kernel_rfl) (by kernel_rfl) (fun _ _ _ h => h) HS0.out (by rfl) (fun W hW => by obtain ⟨hW0, v0, v1, v2, v3⟩ := hW; obtain ⟨z0, z1, z2, z3⟩ := four_cells hW0; go_simp) ?_
              simp only [Act.put, List.setIfInBounds_toArray, List.set_cons_zero, List.set_cons_succ]
              refine wpL_take 1 25 (.bool true) [2] rfl rfl (by kernel_rfl) (by decide) (by kernel_rfl) (by kernel_rfl) (by kernel_rfl) (fun _ _ _ h => h) HS0.out (by rfl) (fun W hW => by obtain ⟨hW0, v0, v1, v2, v3⟩ := hW; obtain ⟨z0, z1, z2, z3⟩ := four_cells hW0; go_simp; exact HKP.out) ?_
              simp only [Act.put, List.setIfInBounds_toArray, List.set_cons_zero, List.set_cons_succ]
              refine wpL_take 2 26 (.bool true) [] rfl rfl (by kernel_rfl) (by decide) (by kernel_rfl) (by kernel_rfl) (by kernel_rfl) (fun _ _ _ h => h) HS0.out (by rfl) (fun W hW => by obtain ⟨hW0, v0, v1, v2, v3⟩ := hW; obtain ⟨z0, z1, z2, z3⟩ := four_cells hW0; go_simp) ?_
              simp only [Act.put, List.setIfInBounds_toArray, List.set_cons_zero, List.set_cons_succ]
              refine wpL_take 3 27 (.slice (some ⟨g, o, none⟩) N cap) [6, 7, 8, 11, 12, 33] rfl rfl (by kernel_rfl) (by decide) (by kernel_rfl) (by kernel_rfl) (by kernel_rfl) (fun _ _ _ h => h) HS0.out (by rfl) (fun W hW => by obtain ⟨hW0, v0, v1, v2, v3⟩ := hW; obtain ⟨z0, z1, z2, z3⟩ := four_cells hW0; go_simp) ?_
              simp only [Act.put, List.setIfInBounds_toArray, List.set_cons_zero, List.set_cons_succ]
              refine wpL_take 4 28 (i64 k) [5, 6, 7, 8, 11, 12, 33] rfl rfl (by kernel_rfl) (by decide) (by kernel_rfl) (by kernel_rfl) (by kernel_rfl) (fun _ _ _ h => h) HS0.out (by rfl) (fun W hW => by obtain ⟨hW0, v0, v1, v2, v3⟩ := hW; obtain ⟨z0, z1, z2, z3⟩ := four_cells hW0; go_simp) ?_
              simp only [Act.put, List.setIfInBounds_toArray, List.set_cons_zero, List.set_cons_succ]
              refine wpL_take 5 29 (i64 j) [6, 7, 8, 11, 12, 33] rfl rfl (by kernel_rfl) (by decide) (by kernel_rfl) (by kernel_rfl) (by kernel_rfl) (fun _ _ _ h => h) HS0.out (by rfl) (fun W hW => by obtain ⟨hW0, v0, v1, v2, v3⟩ := hW; obtain ⟨z0, z1, z2, z3⟩ := four_cells hW0; go_simp) ?_
              simp only [Act.put, List.setIfInBounds_toArray, List.set_cons_zero, List.set_cons_succ]
              refine wpL_take 6 30 (.pointer (some ⟨g, o + j * 4, none⟩)) [7, 8, 11, 12, 33] rfl rfl (by kernel_rfl) (by decide) (by kernel_rfl) (by kernel_rfl) (by kernel_rfl) (fun _ _ _ h => h) HS0.out (by rfl) (fun W hW => by obtain ⟨hW0, v0, v1, v2, v3⟩ := hW; obtain ⟨z0, z1, z2, z3⟩ := four_cells hW0; go_simp) ?_
              simp only [Act.put, List.setIfInBounds_toArray, List.set_cons_zero, List.set_cons_succ]
              refine wpL_take 7 31 (.pointer (some ⟨g, o + j * 4, none⟩)) [8, 11, 12, 33] rfl rfl (by kernel_rfl) (by decide) (by kernel_rfl) (by kernel_rfl) (by kernel_rfl) (fun _ _ _ h => h) HS0.out (by rfl) (fun W hW => by obtain ⟨hW0, v0, v1, v2, v3⟩ := hW; obtain ⟨z0, z1, z2, z3⟩ := four_cells hW0; go_simp) ?_
              simp only [Act.put, List.setIfInBounds_toArray, List.set_cons_zero, List.set_cons_succ]
              refine wpL_take 8 32 (i64 y.1) [11, 12, 33] rfl rfl (by kernel_rfl) (by decide) (by kernel_rfl) (by kernel_rfl) (by kernel_rfl) (fun _ _ _ h => h) HS0.out (by rfl) (fun W hW => by obtain ⟨hW0, v0, v1, v2, v3⟩ := hW; obtain ⟨z0, z1, z2, z3⟩ := four_cells hW0; go_simp) ?_
              simp only [Act.put, List.setIfInBounds_toArray, List.set_cons_zero, List.set_cons_succ]
              refine wpL_take 9 33 (.pointer (some ⟨wr.heap.size, 0, none⟩)) [10, 11, 12, 33] rfl rfl (by kernel_rfl) (by decide) (by kernel_rfl) (by kernel_rfl) (by kernel_rfl) (fun _ _ _ h => h) HS0.out (by rfl) (fun W hW => by obtain ⟨hW0, v0, v1, v2, v3⟩ := hW; obtain ⟨z0, z1, z2, z3⟩ := four_cells hW0; go_simp) ?_
              simp only [Act.put, List.setIfInBounds_toArray, List.set_cons_zero, List.set_cons_succ]
              refine wpL_take 10 34 (i64 s.1) [11, 12, 33] rfl rfl (by kernel_rfl) (by decide) (by kernel_rfl) (by kernel_rfl) (by kernel_rfl) (fun _ _ _ h => h) HS0.out (by rfl) (fun W hW => by obtain ⟨hW0, v0, v1, v2, v3⟩ := hW; obtain ⟨z0, z1, z2, z3⟩ := four_cells hW0; go_simp) ?_
              simp only [Act.put, List.setIfInBounds_toArray, List.set_cons_zero, List.set_cons_succ]
              refine wpL_take 11 35 (.bool false) [12, 33] rfl rfl (by kernel_rfl) (by decide) (by kernel_rfl) (by kernel_rfl) (by kernel_rfl) (fun _ _ _ h => h) HS0.out (by rfl) (fun W hW => by obtain ⟨hW0, v0, v1, v2, v3⟩ := hW; obtain ⟨z0, z1, z2, z3⟩ := four_cells hW0; go_simp) ?_
              simp only [Act.put, List.setIfInBounds_toArray, List.set_cons_zero, List.set_cons_succ]
              refine wpL_take 12 36 (.bool false) [33] rfl rfl (by kernel_rfl) (by decide) (by kernel_rfl) (by kernel_rfl) (by kernel_rfl) (fun _ _ _ h => h) HS0.out (by rfl) (fun W hW => by obtain ⟨hW0, v0, v1, v2, v3⟩ := hW; obtain ⟨z0, z1, z2, z3⟩ := four_cells hW0; go_simp) ?_
              simp only [Act.put, List.setIfInBounds_toArray, List.set_cons_zero, List.set_cons_succ]
              refine wpL_take 13 37 (.slice (some ⟨g, o, none⟩) N cap) [16, 17, 18, 21, 22, 32, 33] rfl rfl (by kernel_rfl) (by decide) (by kernel_rfl) (by kernel_rfl) (by kernel_rfl) (fun _ _ _ h => h) HS0.out (by rfl) (fun W hW => by obtain ⟨hW0, v0, v1, v2, v3⟩ := hW; obtain ⟨z0, z1, z2, z3⟩ := four_cells hW0; go_simp) ?_
              simp only [Act.put, List.setIfInBounds_toArray, List.set_cons_zero, List.set_cons_succ]
              refine wpL_take 14 38 (i64 k) [15, 16, 17, 18, 21, 22, 32, 33] rfl rfl (by kernel_rfl) (by decide) (by kernel_rfl) (by kernel_rfl) (by kernel_rfl) (fun _ _ _ h => h) HS0.out (by rfl) (fun W hW => by obtain ⟨hW0, v0, v1, v2, v3⟩ := hW; obtain ⟨z0, z1, z2, z3⟩ := four_cells hW0; go_simp) ?_
              simp only [Act.put, List.setIfInBounds_toArray, List.set_cons_zero, List.set_cons_succ]
              refine wpL_take 15 39 (i64 j) [16, 17, 18, 21, 22, 32, 33] rfl rfl (by kernel_rfl) (by decide) (by kernel_rfl) (by kernel_rfl) (by kernel_rfl) (fun _ _ _ h => h) HS0.out (by rfl) (fun W hW => by obtain ⟨hW0, v0, v1, v2, v3⟩ := hW; obtain ⟨z0, z1, z2, z3⟩ := four_cells hW0; go_simp) ?_
              simp only [Act.put, List.setIfInBounds_toArray, List.set_cons_zero, List.set_cons_succ]
              refine wpL_take 16 40 (.pointer (some ⟨g, o + j * 4, none⟩)) [17, 18, 21, 22, 32, 33] rfl rfl (by kernel_rfl) (by decide) (by kernel_rfl) (by kernel_rfl) (by kernel_rfl) (fun _ _ _ h => h) HS0.out (by rfl) (fun W hW => by obtain ⟨hW0, v0, v1, v2, v3⟩ := hW; obtain ⟨z0, z1, z2, z3⟩ := four_cells hW0; go_simp) ?_
              simp only [Act.put, List.setIfInBounds_toArray, List.set_cons_zero, List.set_cons_succ]
              refine wpL_take 17 41 (.pointer (some ⟨g, o + j * 4, none⟩)) [18, 21, 22, 32, 33] rfl rfl (by kernel_rfl) (by decide) (by kernel_rfl) (by kernel_rfl) (by kernel_rfl) (fun _ _ _ h => h) HS0.out (by rfl) (fun W hW => by obtain ⟨hW0, v0, v1, v2, v3⟩ := hW; obtain ⟨z0, z1, z2, z3⟩ := four_cells hW0; go_simp) ?_
              simp only [Act.put, List.setIfInBounds_toArray, List.set_cons_zero, List.set_cons_succ]
              refine wpL_take 18 42 (i64 y.1) [21, 22, 32, 33] rfl rfl (by kernel_rfl) (by decide) (by kernel_rfl) (by kernel_rfl) (by kernel_rfl) (fun _ _ _ h => h) HS0.out (by rfl) (fun W hW => by obtain ⟨hW0, v0, v1, v2, v3⟩ := hW; obtain ⟨z0, z1, z2, z3⟩ := four_cells hW0; go_simp) ?_
              simp only [Act.put, List.setIfInBounds_toArray, List.set_cons_zero, List.set_cons_succ]
              refine wpL_take 19 43 (.pointer (some ⟨wr.heap.size, 0, none⟩)) [20, 21, 22, 32, 33] rfl rfl (by kernel_rfl) (by decide) (by kernel_rfl) (by kernel_rfl) (by kernel_rfl) (fun _ _ _ h => h) HS0.out (by rfl) (fun W hW => by obtain ⟨hW0, v0, v1, v2, v3⟩ := hW; obtain ⟨z0, z1, z2, z3⟩ := four_cells hW0; go_simp) ?_
              simp only [Act.put, List.setIfInBounds_toArray, List.set_cons_zero, List.set_cons_succ]
              refine wpL_take 20 44 (i64 s.1) [21, 22, 32, 33] rfl rfl (by kernel_rfl) (by decide) (by kernel_rfl) (by kernel_rfl) (by kernel_rfl) (fun _ _ _ h => h) HS0.out (by rfl) (fun W hW => by obtain ⟨hW0, v0, v1, v2, v3⟩ := hW; obtain ⟨z0, z1, z2, z3⟩ := four_cells hW0; go_simp) ?_
              simp only [Act.put, List.setIfInBounds_toArray, List.set_cons_zero, List.set_cons_succ]
              refine wpL_take 21 45 (.bool false) [22, 32, 33] rfl rfl (by kernel_rfl) (by decide) (by kernel_rfl) (by kernel_rfl) (by kernel_rfl) (fun _ _ _ h => h) HS0.out (by rfl) (fun W hW => by obtain ⟨hW0, v0, v1, v2, v3⟩ := hW; obtain ⟨z0, z1, z2, z3⟩ := four_cells hW0; go_simp) ?_
              simp only [Act.put, List.setIfInBounds_toArray, List.set_cons_zero, List.set_cons_succ]
              refine wpL_take 22 46 (.bool false) [32, 33] rfl rfl (by kernel_rfl) (by decide) (by kernel_rfl) (by kernel_rfl) (by kernel_rfl) (fun _ _ _ h => h) HS0.out (by rfl) (fun W hW => by obtain ⟨hW0, v0, v1, v2, v3⟩ := hW; obtain ⟨z0, z1, z2, z3⟩ := four_cells hW0; go_simp) ?_
              simp only [Act.put, List.setIfInBounds_toArray, List.set_cons_zero, List.set_cons_succ]
              refine wpL_skip 23 47 [26, 27, 28, 31, 32, 33] rfl rfl (by kernel_rfl) (by decide) (by kernel_rfl) (by kernel_rfl) (by kernel_rfl) (fun _ _ _ h => h) HS0.out (by rfl) ?_
              simp only [Act.put, List.setIfInBounds_toArray, List.set_cons_zero, List.set_cons_succ]
              refine wpL_skip 24 48 [25, 26, 27, 28, 31, 32, 33] rfl rfl (by kernel_rfl) (by decide) (by kernel_rfl) (by kernel_rfl) (by kernel_rfl) (fun _ _ _ h => h) HS0.out (by rfl) ?_
              simp only [Act.put, List.setIfInBounds_toArray, List.set_cons_zero, List.set_cons_succ]
              refine wpL_skip 25 49 [26, 27, 28, 31, 32, 33] rfl rfl (by kernel_rfl) (by decide) (by kernel_rfl) (by kernel_rfl) (by kernel_rfl) (fun _ _ _ h => h) HS0.out (by rfl) ?_
              simp only [Act.put, List.setIfInBounds_toArray, List.set_cons_zero, List.set_cons_succ]
              refine wpL_skip 26 50 [27, 28, 31, 32, 33] rfl rfl (by kernel_rfl) (by decide) (by kernel_rfl) (by kernel_rfl) (by kernel_rfl) (fun _ _ _ h => h) HS0.out (by rfl) ?_
              simp only [Act.put, List.setIfInBounds_toArray, List.set_cons_zero, List.set_cons_succ]
              refine wpL_skip 27 51 [28, 31, 32, 33] rfl rfl (by kernel_rfl) (by decide) (by kernel_rfl) (by kernel_rfl) (by kernel_rfl) (fun _ _ _ h => h) HS0.out (by rfl) ?_
              simp only [Act.put, List.setIfInBounds_toArray, List.set_cons_zero, List.set_cons_succ]
              refine wpL_skip 28 52 [31, 32, 33] rfl rfl (by kernel_rfl) (by decide) (by kernel_rfl) (by kernel_rfl) (by kernel_rfl) (fun _ _ _ h => h) HS0.out (by rfl) ?_
              simp only [Act.put, List.setIfInBounds_toArray, List.set_cons_zero, List.set_cons_succ]
              refine wpL_skip 29 53 [30, 31, 32, 33] rfl rfl (by kernel_rfl) (by decide) (by kernel_rfl) (by kernel_rfl) (by kernel_rfl) (fun _ _ _ h => h) HS0.out (by rfl) ?_
              simp only [Act.put, List.setIfInBounds_toArray, List.set_cons_zero, List.set_cons_succ]
              refine wpL_skip 30 54 [31, 32, 33] rfl rfl (by kernel_rfl) (by decide) (by kernel_rfl) (by kernel_rfl) (by kernel_rfl) (fun _ _ _ h => h) HS0.out (by rfl) ?_
              simp only [Act.put, List.setIfInBounds_toArray, List.set_cons_zero, List.set_cons_succ]
              refine wpL_skip 31 55 [32, 33] rfl rfl (by kernel_rfl) (by decide) (by kernel_rfl) (by kernel_rfl) (by kernel_rfl) (fun _ _ _ h => h) HS0.out (by rfl) ?_
              simp only [Act.put, List.setIfInBounds_toArray, List.set_cons_zero, List.set_cons_succ]
              refine wpL_take 32 56 (.bool false) [33] rfl rfl (by kernel_rfl) (by decide) (by kernel_rfl) (by kernel_rfl) (by kernel_rfl) (fun _ _ _ h => h) HS0.out (by rfl) (fun W hW => by obtain ⟨hW0, v0, v1, v2, v3⟩ := hW; obtain ⟨z0, z1, z2, z3⟩ := four_cells hW0; go_simp) ?_
              simp only [Act.put, List.setIfInBounds_toArray, List.set_cons_zero, List.set_cons_succ]
              refine wpL_take 33 57 (.bool false) [] rfl rfl (by kernel_rfl) (by decide) (by kernel_rfl) (by kernel_rfl) (by kernel_rfl) (fun _ _ _ h => h) HS0.out (by rfl) (fun W hW => by obtain ⟨hW0, v0, v1, v2, v3⟩ := hW; obtain ⟨z0, z1, z2, z3⟩ := four_cells hW0; go_simp) ?_
              simp only [Act.put, List.setIfInBounds_toArray, List.set_cons_zero, List.set_cons_succ]
              refine wpL_one 34 rfl (by kernel_rfl) (by rfl) (fun K hK => ?_)
              go_simp
              refine hK.out _ _ (fun h => absurd rfl h) ?_
              clear hK K
              refine wpL_done (by kernel_rfl) ?_
              refine NoPanic.normal ?_
              go_wp2_with fail
              exact ⟨⟨k + 1, by omega, by go_num, HRt0, HPN, HSN, HB0⟩, by simp [intOf]; omega⟩
      · have p1 : (s.2.2.2 != 1) = true := by rw [bne, beq_false_of_ne hp1]; rfl
        by_cases hp3 : s.2.2.2 = 3
        · have HP3 : Hid (s.2.2.2 = 1 ∨ s.2.2.2 = 3) := .inr hp3
          have p3 : (s.2.2.2 != 3) = false := by rw [bne, beq_iff_eq.2 hp3]; rfl
          clear hp1 hp3
          have HRtV : Hid (Rt (wr.alloc (sO s 58)) base r X) := HRt.out.below (below_one wr _)
          have HPN : Hid (∀ x ∈ X.take (k + 1), x.2.2.2 = 1 ∨ x.2.2.2 = 3) := fun x hx => by
            rw [takeS_last HXk.out] at hx
            rcases List.mem_append.1 hx with hx | hx
            · exact HPr.out x hx
            · rw [List.mem_singleton.1 hx]; exact HP3.out
          by_cases hk0 : k = 0
          · have HK0 := hid hk0
            have HS00 : Hid (MemR wr.heap.size s (wr.alloc (sO s 58))) := HX0.out
            have HSN : Hid ((X.take (k + 1)).Pairwise ahP) := srt_next HSr.out HXk.out (.inl hk0)
            clear hk0
            go_upto_region 7 with fail
            have HS0 : Hid (MemR wr.heap.size s (wr.alloc (sO s 58)).drew) := HS00.out
            have HRt0 : Hid (Rt (wr.alloc (sO s 58)).drew base r X) := by obtain ⟨h0, ao, cap, h1, h2⟩ := HRtV.out; exact ⟨h0, ao, cap, h1, own_keep h2 (fun _ _ h => h)⟩
            have HB0 : Hid (Below w.heap.size w (wr.alloc (sO s 58)).drew) := HBV.out.drew
            refine wp_region_noPanic ?_
            refine wp_region_last (MemR wr.heap.size s) 34 (by kernel_rfl) ?_
            refine wpL_take 0 24 (i64 k) [1, 2] rfl rfl (by kernel_rfl) (by decide) (by kernel_rfl) (by kernel_rfl) (by kernel_rfl) (fun _ _ _ h => h) HS0.out (by rfl) (fun W hW => by have hW0 : W.heap[wr.heap.size]? = some (sO s 58) := hW; obtain ⟨z0, z1, z2, z3⟩ := four_cells hW0; go_simp) ?_
            simp only [Act.put, List.setIfInBounds_toArray, List.set_cons_zero, List.set_cons_succ]
            refine wpL_take 1 25 (.bool false) [2] rfl rfl (by kernel_rfl) (by decide) (by kernel_rfl) (by kernel_rfl) (by kernel_rfl) (fun _ _ _ h => h) HS0.out (by rfl) (fun W hW => by have hW0 : W.heap[wr.heap.size]? = some (sO s 58) := hW; obtain ⟨z0, z1, z2, z3⟩ := four_cells hW0; go_simp; exact HK0.out) ?_
            simp only [Act.put, List.setIfInBounds_toArray, List.set_cons_zero, List.set_cons_succ]
            refine wpL_take 2 26 (.bool false) [] rfl rfl (by kernel_rfl) (by decide) (by kernel_rfl) (by kernel_rfl) (by kernel_rfl) (fun _ _ _ h => h) HS0.out (by rfl) (fun W hW => by have hW0 : W.heap[wr.heap.size]? = some (sO s 58) := hW; obtain ⟨z0, z1, z2, z3⟩ := four_cells hW0; go_simp) ?_
            simp only [Act.put, List.setIfInBounds_toArray, List.set_cons_zero, List.set_cons_succ]
            refine wpL_skip 3 27 [6, 7, 8, 11, 12, 33] rfl rfl (by kernel_rfl) (by decide) (by kernel_rfl) (by kernel_rfl) (by kernel_rfl) (fun _ _ _ h => h) HS0.out (by rfl) ?_
            simp only [Act.put, List.setIfInBounds_toArray, List.set_cons_zero, List.set_cons_succ]
            refine wpL_skip 4 28 [5, 6, 7, 8, 11, 12, 33] rfl rfl (by kernel_rfl) (by decide) (by kernel_rfl) (by kernel_rfl) (by kernel_rfl) (fun _ _ _ h => h) HS0.out (by rfl) ?_
            simp only [Act.put, List.setIfInBounds_toArray, List.set_cons_zero, List.set_cons_succ]
            refine wpL_skip 5 29 [6, 7, 8, 11, 12, 33] rfl rfl (by kernel_rfl) (by decide) (by kernel_rfl) (by kernel_rfl) (by kernel_rfl) (fun _ _ _ h => h) HS0.out (by rfl) ?_
            simp only [Act.put, List.setIfInBounds_toArray, List.set_cons_zero, List.set_cons_succ]
            refine wpL_skip 6 30 [7, 8, 11, 12, 33] rfl rfl (by kernel_rfl) (by decide) (by kernel_rfl) (by kernel_rfl) (by kernel_rfl) (fun _ _ _ h => h) HS0.out (by rfl) ?_
            simp only [Act.put, List.setIfInBounds_toArray, List.set_cons_zero, List.set_cons_succ]
            refine wpL_skip 7 31 [8, 11, 12, 33] rfl rfl (by kernel_rfl) (by decide) (by kernel_rfl) (by kernel_rfl) (by kernel_rfl) (fun _ _ _ h => h) HS0.out (by rfl) ?_
            simp only [Act.put, List.setIfInBounds_toArray, List.set_cons_zero, List.set_cons_succ]
            refine wpL_skip 8 32 [11, 12, 33] rfl rfl (by kernel_rfl) (by decide) (by kernel_rfl) (by kernel_rfl) (by kernel_rfl) (fun _ _ _ h => h) HS0.out (by rfl) ?_
            simp only [Act.put, List.setIfInBounds_toArray, List.set_cons_zero, List.set_cons_succ]
            refine wpL_skip 9 33 [10, 11, 12, 33] rfl rfl (by kernel_rfl) (by decide) (by kernel_rfl) (by kernel_rfl) (by kernel_rfl) (fun _ _ _ h => h) HS0.out (by rfl) ?_
            simp only [Act.put, List.setIfInBounds_toArray, List.set_cons_zero, List.set_cons_succ]
            refine wpL_skip 10 34 [11, 12, 33] rfl rfl (by kernel_rfl) (by decide) (by kernel_rfl) (by kernel_rfl) (by kernel_rfl) (fun _ _ _ h => h) HS0.out (by rfl) ?_
            simp only [Act.put, List.setIfInBounds_toArray, List.set_cons_zero, List.set_cons_succ]
            refine wpL_skip 11 35 [12, 33] rfl rfl (by kernel_rfl) (by decide) (by kernel_rfl) (by kernel_rfl) (by kernel_rfl) (fun _ _ _ h => h) HS0.out (by rfl) ?_
            simp only [Act.put, List.setIfInBounds_toArray, List.set_cons_zero, List.set_cons_succ]
            refine wpL_skip 12 36 [33] rfl rfl (by kernel_rfl) (by decide) (by kernel_rfl) (by kernel_rfl) (by kernel_rfl) (fun _ _ _ h => h) HS0.out (by rfl) ?_
            simp only [Act.put, List.setIfInBounds_toArray, List.set_cons_zero, List.set_cons_succ]
            refine wpL_skip 13 37 [16, 17, 18, 21, 22, 32, 33] rfl rfl (by kernel_rfl) (by decide) (by kernel_rfl) (by kernel_rfl) (by kernel_rfl) (fun _ _ _ h => h) HS0.out (by rfl) ?_
            simp only [Act.put, List.setIfInBounds_toArray, List.set_cons_zero, List.set_cons_succ]
            refine wpL_skip 14 38 [15, 16, 17, 18, 21, 22, 32, 33] rfl rfl (by kernel_rfl) (by decide) (by kernel_rfl) (by kernel_rfl) (by kernel_rfl) (fun _ _ _ h => h) HS0.out (by rfl) ?_
            simp only [Act.put, List.setIfInBounds_toArray, List.set_cons_zero, List.set_cons_succ]
            refine wpL_skip 15 39 [16, 17, 18, 21, 22, 32, 33] rfl rfl (by kernel_rfl) (by decide) (by kernel_rfl) (by kernel_rfl) (by kernel_rfl) (fun _ _ _ h => h) HS0.out (by rfl) ?_
            simp only [Act.put, List.setIfInBounds_toArray, List.set_cons_zero, List.set_cons_succ]
            refine wpL_skip 16 40 [17, 18, 21, 22, 32, 33] rfl rfl (by kernel_rfl) (by decide) (by kernel_rfl) (by kernel_rfl) (by kernel_rfl) (fun _ _ _ h => h) HS0.out (by rfl) ?_
            simp only [Act.put, List.setIfInBounds_toArray, List.set_cons_zero, List.set_cons_succ]
            refine wpL_skip 17 41 [18, 21, 22, 32, 33] rfl rfl (by kernel_rfl) (by decide) (by kernel_rfl) (by kernel_rfl) (by kernel_rfl) (fun _ _ _ h => h) HS0.out (by rfl) ?_
            simp only [Act.put, List.setIfInBounds_toArray, List.set_cons_zero, List.set_cons_succ]
            refine wpL_skip 18 42 [21, 22, 32, 33] rfl rfl (by kernel_rfl) (by decide) (by kernel_rfl) (by kernel_rfl) (by kernel_rfl) (fun _ _ _ h => h) HS0.out (by rfl) ?_
            simp only [Act.put, List.setIfInBounds_toArray, List.set_cons_zero, List.set_cons_succ]
            refine wpL_skip 19 43 [20, 21, 22, 32, 33] rfl rfl (by kernel_rfl) (by decide) (by kernel_rfl) (by kernel_rfl) (by kernel_rfl) (fun _ _ _ h => h) HS0.out (by rfl) ?_
            simp only [Act.put, List.setIfInBounds_toArray, List.set_cons_zero, List.set_cons_succ]
            refine wpL_skip 20 44 [21, 22, 32, 33] rfl rfl (by kernel_rfl) (by decide) (by kernel_rfl) (by kernel_rfl) (by kernel_rfl) (fun _ _ _ h => h) HS0.out (by rfl) ?_
            simp only [Act.put, List.setIfInBounds_toArray, List.set_cons_zero, List.set_cons_succ]
            refine wpL_skip 21 45 [22, 32, 33] rfl rfl (by kernel_rfl) (by decide) (by kernel_rfl) (by kernel_rfl) (by kernel_rfl) (fun _ _ _ h => h) HS0.out (by rfl) ?_
            simp only [Act.put, List.setIfInBounds_toArray, List.set_cons_zero, List.set_cons_succ]
            refine wpL_skip 22 46 [32, 33] rfl rfl (by kernel_rfl) (by decide) (by kernel_rfl) (by kernel_rfl) (by kernel_rfl) (fun _ _ _ h => h) HS0.out (by rfl) ?_
            simp only [Act.put, List.setIfInBounds_toArray, List.set_cons_zero, List.set_cons_succ]
            refine wpL_skip 23 47 [26, 27, 28, 31, 32, 33] rfl rfl (by kernel_rfl) (by decide) (by kernel_rfl) (by kernel_rfl) (by kernel_rfl) (fun _ _ _ h => h) HS0.out (by rfl) ?_
            simp only [Act.put, List.setIfInBounds_toArray, List.set_cons_zero, List.set_cons_succ]
            refine wpL_skip 24 48 [25, 26, 27, 28, 31, 32, 33] rfl rfl (by kernel_rfl) (by decide) (by kernel_rfl) (by kernel_rfl) (by kernel_rfl) (fun _ _ _ h => h) HS0.out (by rfl) ?_
            simp only [Act.put, List.setIfInBounds_toArray, List.set_cons_zero, List.set_cons_succ]
            refine wpL_skip 25 49 [26, 27, 28, 31, 32, 33] rfl rfl (by kernel_rfl) (by decide) (by kernel_rfl) (by kernel_rfl) (by kernel_rfl) (fun _ _ _ h => h) HS0.out (by rfl) ?_
            simp only [Act.put, List.setIfInBounds_toArray, List.set_cons_zero, List.set_cons_succ]
            refine wpL_skip 26 50 [27, 28, 31, 32, 33] rfl rfl (by kernel_rfl) (by decide) (by kernel_rfl) (by kernel_rfl) (by kernel_rfl) (fun _ _ _ h => h) HS0.out (by rfl) ?_
            simp only [Act.put, List.setIfInBounds_toArray, List.set_cons_zero, List.set_cons_succ]
            refine wpL_skip 27 51 [28, 31, 32, 33] rfl rfl (by kernel_rfl) (by decide) (by kernel_rfl) (by kernel_rfl) (by kernel_rfl) (fun _ _ _ h => h) HS0.out (by rfl) ?_
            simp only [Act.put, List.setIfInBounds_toArray, List.set_cons_zero, List.set_cons_succ]
            refine wpL_skip 28 52 [31, 32, 33] rfl rfl (by kernel_rfl) (by decide) (by kernel_rfl) (by kernel_rfl) (by kernel_rfl) (fun _ _ _ h => h) HS0.out (by rfl) ?_
            simp only [Act.put, List.setIfInBounds_toArray, List.set_cons_zero, List.set_cons_succ]
            refine wpL_skip 29 53 [30, 31, 32, 33] rfl rfl (by kernel_rfl) (by decide) (by kernel_rfl) (by kernel_rfl) (by kernel_rfl) (fun _ _ _ h => h) HS0.out (by rfl) ?_
            simp only [Act.put, List.setIfInBounds_toArray, List.set_cons_zero, List.set_cons_succ]
            refine wpL_skip 30 54 [31, 32, 33] rfl rfl (by kernel_rfl) (by decide) (by kernel_rfl) (by kernel_rfl) (by kernel_rfl) (fun _ _ _ h => h) HS0.out (by rfl) ?_
            simp only [Act.put, List.setIfInBounds_toArray, List.set_cons_zero, List.set_cons_succ]
            refine wpL_skip 31 55 [32, 33] rfl rfl (by kernel_rfl) (by decide) (by kernel_rfl) (by kernel_rfl) (by kernel_rfl) (fun _ _ _ h => h) HS0.out (by rfl) ?_
            simp only [Act.put, List.setIfInBounds_toArray, List.set_cons_zero, List.set_cons_succ]
            refine wpL_skip 32 56 [33] rfl rfl (by kernel_rfl) (by decide) (by kernel_rfl) (by kernel_rfl) (by kernel_rfl) (fun _ _ _ h => h) HS0.out (by rfl) ?_
            simp only [Act.put, List.setIfInBounds_toArray, List.set_cons_zero, List.set_cons_succ]
            refine wpL_skip 33 57 [] rfl rfl (by kernel_rfl) (by decide) (by kernel_rfl) (by kernel_rfl) (by kernel_rfl) (fun _ _ _ h => h) HS0.out (by rfl) ?_
            simp only [Act.put, List.setIfInBounds_toArray, List.set_cons_zero, List.set_cons_succ]
            refine wpL_one 34 rfl (by kernel_rfl) (by rfl) (fun K hK => ?_)
            go_simp
            refine hK.out _ _ (fun h => absurd rfl h) ?_
            clear hK K
            refine wpL_done (by kernel_rfl) ?_
            refine NoPanic.normal ?_
            go_wp2_with fail
            exact ⟨⟨k + 1, by omega, by go_num, HRt0, HPN, HSN, HB0⟩, by simp [intOf]; omega⟩
          · obtain ⟨j, hkj⟩ : ∃ j, k = j + 1 := ⟨k - 1, by omega⟩
            have HKJ := hid hkj
            have HXj : Hid (X[j + 1]? = some s) := by rw [Hid, ← hkj]; exact HXk.out
            obtain ⟨y, hy⟩ : ∃ y, X[j]? = some y := ⟨_, List.getElem?_eq_getElem (by rw [← HN.out]; omega)⟩
            have HYj := hid hy
            obtain ⟨g2, o2, hgo, hgl2, d0, d1, d2, d3⟩ := (HR.out.below HB.out) j y hy
            simp only [Option.some.injEq, Addr.mk.injEq] at hgo
            obtain ⟨rfl, rfl, _⟩ := hgo
            have HKP : Hid (0 < k) := by show 0 < k; omega
            have hkw : IntKind.i64.wrap ((k : Int) - 1) = (j : Int) := by rw [wrap_id (by omega) (by omega)]; omega
            have hjI : (j : Int) < N := by omega
            have hj0 : (0 : Int) ≤ j := by omega
            have HS00 : Hid (MemR2 wr.heap.size s g (o + j * 4) y (wr.alloc (sO s 58))) := ⟨HX0.out, by rw [(below_one wr _).cell (by exact hgl)]; exact d0, by rw [(below_one wr _).cell (by exact hgl)]; exact d1, by rw [(below_one wr _).cell (by exact hgl)]; exact d2, by rw [(below_one wr _).cell (by exact hgl)]; exact d3⟩
            clear hy hk0 d0 d1 d2 d3 hgl2 hkj
            by_cases h1 : s.1 < y.1
            · have HNO : Hid (¬ Lg X) := fun h => srt_bad HYj.out HXj.out (fun h => by rcases h with h | h <;> omega) h.2
              go_upto_region 7 with fail
              have HS0 : Hid (MemR2 wr.heap.size s g (o + j * 4) y (wr.alloc (sO s 58)).drew) := HS00.out
              have HRt0 : Hid (Rt (wr.alloc (sO s 58)).drew base r X) := by obtain ⟨h0, ao, cap, h1, h2⟩ := HRtV.out; exact ⟨h0, ao, cap, h1, own_keep h2 (fun _ _ h => h)⟩
              have HB0 : Hid (Below w.heap.size w (wr.alloc (sO s 58)).drew) := HBV.out.drew
              refine wp_region_noPanic ?_
              refine wp_region_last (MemR2 wr.heap.size s g (o + j * 4) y) 34 (by kernel_rfl) ?_
              refine wpL_take 0 24 (i64 k) [1, 2] rfl rfl (by kernel_rfl) (by decide) (by kernel_rfl) (by kernel_rfl) (by kernel_rfl) (fun _ _ _ h => h) HS0.out (by rfl) (fun W hW => by obtain ⟨hW0, v0, v1, v2, v3⟩ := hW; obtain ⟨z0, z1, z2, z3⟩ := four_cells hW0; go_simp) ?_
              simp only [Act.put, List.setIfInBounds_toArray, List.set_cons_zero, List.set_cons_succ]
              refine wpL_take 1 25 (.bool true) [2] rfl rfl (by kernel_rfl) (by decide) (by kernel_rfl) (by kernel_rfl) (by kernel_rfl) (fun _ _ _ h => h) HS0.out (by rfl) (fun W hW => by obtain ⟨hW0, v0, v1, v2, v3⟩ := hW; obtain ⟨z0, z1, z2, z3⟩ := four_cells hW0; go_simp; exact HKP.out) ?_
              simp only [Act.put, List.setIfInBounds_toArray, List.set_cons_zero, List.set_cons_succ]
              refine wpL_take 2 26 (.bool true) [] rfl rfl (by kernel_rfl) (by decide) (by kernel_rfl) (by kernel_rfl) (by kernel_rfl) (fun _ _ _ h => h) HS0.out (by rfl) (fun W hW => by obtain ⟨hW0, v0, v1, v2, v3⟩ := hW; obtain ⟨z0, z1, z2, z3⟩ := four_cells hW0; go_simp) ?_
              simp only [Act.put, List.setIfInBounds_toArray, List.set_cons_zero, List.set_cons_succ]
              refine wpL_take 3 27 (.slice (some ⟨g, o, none⟩) N cap) [6, 7, 8, 11, 12, 33] rfl rfl (by kernel_rfl) (by decide) (by kernel_rfl) (by kernel_rfl) (by kernel_rfl) (fun _ _ _ h => h) HS0.out (by rfl) (fun W hW => by obtain ⟨hW0, v0, v1, v2, v3⟩ := hW; obtain ⟨z0, z1, z2, z3⟩ := four_cells hW0; go_simp) ?_
              simp only [Act.put, List.setIfInBounds_toArray, List.set_cons_zero, List.set_cons_succ]
              refine wpL_take 4 28 (i64 k) [5, 6, 7, 8, 11, 12, 33] rfl rfl (by kernel_rfl) (by decide) (by kernel_rfl) (by kernel_rfl) (by kernel_rfl) (fun _ _ _ h => h) HS0.out (by rfl) (fun W hW => by obtain ⟨hW0, v0, v1, v2, v3⟩ := hW; obtain ⟨z0, z1, z2, z3⟩ := four_cells hW0; go_simp) ?_
              simp only [Act.put, List.setIfInBounds_toArray, List.set_cons_zero, List.set_cons_succ]
              refine wpL_take 5 29 (i64 j) [6, 7, 8, 11, 12, 33] rfl rfl (by kernel_rfl) (by decide) (by kernel_rfl) (by kernel_rfl) (by kernel_rfl) (fun _ _ _ h => h) HS0.out (by rfl) (fun W hW => by obtain ⟨hW0, v0, v1, v2, v3⟩ := hW; obtain ⟨z0, z1, z2, z3⟩ := four_cells hW0; go_simp) ?_
              simp only [Act.put, List.setIfInBounds_toArray, List.set_cons_zero, List.set_cons_succ]
              refine wpL_take 6 30 (.pointer (some ⟨g, o + j * 4, none⟩)) [7, 8, 11, 12, 33] rfl rfl (by kernel_rfl) (by decide) (by kernel_rfl) (by kernel_rfl) (by kernel_rfl) (fun _ _ _ h => h) HS0.out (by rfl) (fun W hW => by obtain ⟨hW0, v0, v1, v2, v3⟩ := hW; obtain ⟨z0, z1, z2, z3⟩ := four_cells hW0; go_simp) ?_
              simp only [Act.put, List.setIfInBounds_toArray, List.set_cons_zero, List.set_cons_succ]
              refine wpL_take 7 31 (.pointer (some ⟨g, o + j * 4, none⟩)) [8, 11, 12, 33] rfl rfl (by kernel_rfl) (by decide) (by kernel_rfl) (by kernel_rfl) (by kernel_rfl) (fun _ _ _ h => h) HS0.out (by rfl) (fun W hW => by obtain ⟨hW0, v0, v1, v2, v3⟩ := hW; obtain ⟨z0, z1, z2, z3⟩ := four_cells hW0; go_simp) ?_
              simp only [Act.put, List.setIfInBounds_toArray, List.set_cons_zero, List.set_cons_succ]
              refine wpL_take 8 32 (i64 y.1) [11, 12, 33] rfl rfl (by kernel_rfl) (by decide) (by kernel_rfl) (by kernel_rfl) (by kernel_rfl) (fun _ _ _ h => h) HS0.out (by rfl) (fun W hW => by obtain ⟨hW0, v0, v1, v2, v3⟩ := hW; obtain ⟨z0, z1, z2, z3⟩ := four_cells hW0; go_simp) ?_
              simp only [Act.put, List.setIfInBounds_toArray, List.set_cons_zero, List.set_cons_succ]
              refine wpL_take 9 33 (.pointer (some ⟨wr.heap.size, 0, none⟩)) [10, 11, 12, 33] rfl rfl (by kernel_rfl) (by decide) (by kernel_rfl) (by kernel_rfl) (by kernel_rfl) (fun _ _ _ h => h) HS0.out (by rfl) (fun W hW => by obtain ⟨hW0, v0, v1, v2, v3⟩ := hW; obtain ⟨z0, z1, z2, z3⟩ := four_cells hW0; go_simp) ?_
              simp only [Act.put, List.setIfInBounds_toArray, List.set_cons_zero, List.set_cons_succ]
              refine wpL_take 10 34 (i64 s.1) [11, 12, 33] rfl rfl (by kernel_rfl) (by decide) (by kernel_rfl) (by kernel_rfl) (by kernel_rfl) (fun _ _ _ h => h) HS0.out (by rfl) (fun W hW => by obtain ⟨hW0, v0, v1, v2, v3⟩ := hW; obtain ⟨z0, z1, z2, z3⟩ := four_cells hW0; go_simp) ?_
              simp only [Act.put, List.setIfInBounds_toArray, List.set_cons_zero, List.set_cons_succ]
              refine wpL_take 11 35 (.bool true) [12, 33] rfl rfl (by kernel_rfl) (by decide) (by kernel_rfl) (by kernel_rfl) (by kernel_rfl) (fun _ _ _ h => h) HS0.out (by rfl) (fun W hW => by obtain ⟨hW0, v0, v1, v2, v3⟩ := hW; obtain ⟨z0, z1, z2, z3⟩ := four_cells hW0; go_simp) ?_
              simp only [Act.put, List.setIfInBounds_toArray, List.set_cons_zero, List.set_cons_succ]
              refine wpL_take 12 36 (.bool true) [33] rfl rfl (by kernel_rfl) (by decide) (by kernel_rfl) (by kernel_rfl) (by kernel_rfl) (fun _ _ _ h => h) HS0.out (by rfl) (fun W hW => by obtain ⟨hW0, v0, v1, v2, v3⟩ := hW; obtain ⟨z0, z1, z2, z3⟩ := four_cells hW0; go_simp) ?_
              simp only [Act.put, List.setIfInBounds_toArray, List.set_cons_zero, List.set_cons_succ]
              refine wpL_skip 13 37 [16, 17, 18, 21, 22, 32, 33] rfl rfl (by kernel_rfl) (by decide) (by kernel_rfl) (by kernel_rfl) (by kernel_rfl) (fun _ _ _ h => h) HS0.out (by rfl) ?_
              simp only [Act.put, List.setIfInBounds_toArray, List.set_cons_zero, List.set_cons_succ]
              refine wpL_skip 14 38 [15, 16, 17, 18, 21, 22, 32, 33] rfl rfl (by kernel_rfl) (by decide) (by kernel_rfl) (by kernel_rfl) (by kernel_rfl) (fun _ _ _ h => h) HS0.out (by rfl) ?_
              simp only [Act.put, List.setIfInBounds_toArray, List.set_cons_zero, List.set_cons_succ]
              refine wpL_skip 15 39 [16, 17, 18, 21, 22, 32, 33] rfl rfl (by kernel_rfl) (by decide) (by kernel_rfl) (by kernel_rfl) (by kernel_rfl) (fun _ _ _ h => h) HS0.out (by rfl) ?_
              simp only [Act.put, List.setIfInBounds_toArray, List.set_cons_zero, List.set_cons_succ]
              refine wpL_skip 16 40 [17, 18, 21, 22, 32, 33] rfl rfl (by kernel_rfl) (by decide) (by kernel_rfl) (by kernel_rfl) (by kernel_rfl) (fun _ _ _ h => h) HS0.out (by rfl) ?_
              simp only [Act.put, List.setIfInBounds_toArray, List.set_cons_zero, List.set_cons_succ]
              refine wpL_skip 17 41 [18, 21, 22, 32, 33] rfl rfl (by kernel_rfl) (by decide) (by kernel_rfl) (by kernel_rfl) (by kernel_rfl) (fun _ _ _ h => h) HS0.out (by rfl) ?_
              simp only [Act.put, List.setIfInBounds_toArray, List.set_cons_zero, List.set_cons_succ]
              refine wpL_skip 18 42 [21, 22, 32, 33] rfl rfl (by kernel_rfl) (by decide) (by kernel_rfl) (by kernel_rfl) (by kernel_rfl) (fun _ _ _ h => h) HS0.out (by rfl) ?_
              simp only [Act.put, List.setIfInBounds_toArray, List.set_cons_zero, List.set_cons_succ]
              refine wpL_skip 19 43 [20, 21, 22, 32, 33] rfl rfl (by kernel_rfl) (by decide) (by kernel_rfl) (by kernel_rfl) (by kernel_rfl) (fun _ _ _ h => h) HS0.out (by rfl) ?_
              simp only [Act.put, List.setIfInBounds_toArray, List.set_cons_zero, List.set_cons_succ]
              refine wpL_skip 20 44 [21, 22, 32, 33] rfl rfl (by kernel_rfl) (by decide) (by kernel_rfl) (by kernel_rfl) (by kernel_rfl) (fun _ _ _ h => h) HS0.out (by rfl) ?_
              simp only [Act.put, List.setIfInBounds_toArray, List.set_cons_zero, List.set_cons_succ]
              refine wpL_skip 21 45 [22, 32, 33] rfl rfl (by kernel_rfl) (by decide) (by kernel_rfl) (by kernel_rfl) (by kernel_rfl) (fun _ _ _ h => h) HS0.out (by rfl) ?_
              simp only [Act.put, List.setIfInBounds_toArray, List.set_cons_zero, List.set_cons_succ]
              refine wpL_skip 22 46 [32, 33] rfl rfl (by kernel_rfl) (by decide) (by kernel_rfl) (by kernel_rfl) (by kernel_rfl) (fun _ _ _ h => h) HS0.out (by rfl) ?_
              simp only [Act.put, List.setIfInBounds_toArray, List.set_cons_zero, List.set_cons_succ]
              refine wpL_skip 23 47 [26, 27, 28, 31, 32, 33] rfl rfl (by kernel_rfl) (by decide) (by kernel_rfl) (by kernel_rfl) (by kernel_rfl) (fun _ _ _ h => h) HS0.out (by rfl) ?_
              simp only [Act.put, List.setIfInBounds_toArray, List.set_cons_zero, List.set_cons_succ]
              refine wpL_skip 24 48 [25, 26, 27, 28, 31, 32, 33] rfl rfl (by kernel_rfl) (by decide) (by kernel_rfl) (by kernel_rfl) (by kernel_rfl) (fun _ _ _ h => h) HS0.out (by rfl) ?_
              simp only [Act.put, List.setIfInBounds_toArray, List.set_cons_zero, List.set_cons_succ]
              refine wpL_skip 25 49 [26, 27, 28, 31, 32, 33] rfl rfl (by kernel_rfl) (by decide) (by kernel_rfl) (by kernel_rfl) (by kernel_rfl) (fun _ _ _ h => h) HS0.out (by rfl) ?_
              simp only [Act.put, List.setIfInBounds_toArray, List.set_cons_zero, List.set_cons_succ]
              refine wpL_skip 26 50 [27, 28, 31, 32, 33] rfl rfl (by kernel_rfl) (by decide) (by kernel_rfl) (by kernel_rfl) (by kernel_rfl) (fun _ _ _ h => h) HS0.out (by rfl) ?_
              simp only [Act.put, List.setIfInBounds_toArray, List.set_cons_zero, List.set_cons_succ]
              refine wpL_skip 27 51 [28, 31, 32, 33] rfl rfl (by kernel_rfl) (by decide) (by kernel_rfl) (by kernel_rfl) (by kernel_rfl) (fun _ _ _ h => h) HS0.out (by rfl) ?_
              simp only [Act.put, List.setIfInBounds_toArray, List.set_cons_zero, List.set_cons_succ]
              refine wpL_skip 28 52 [31, 32, 33] rfl rfl (by kernel_rfl) (by decide) (by kernel_rfl) (by kernel_rfl) (by kernel_rfl) (fun _ _ _ h => h) HS0.out (by rfl) ?_
              simp only [Act.put, List.setIfInBounds_toArray, List.set_cons_zero, List.set_cons_succ]
              refine wpL_skip 29 53 [30, 31, 32, 33] rfl rfl (by kernel_rfl) (by decide) (by kernel_rfl) (by kernel_rfl) (by kernel_rfl) (fun _ _ _ h => h) HS0.out (by rfl) ?_
              simp only [Act.put, List.setIfInBounds_toArray, List.set_cons_zero, List.set_cons_succ]
              refine wpL_skip 30 54 [31, 32, 33] rfl rfl (by kernel_rfl) (by decide) (by kernel_rfl) (by kernel_rfl) (by kernel_rfl) (fun _ _ _ h => h) HS0.out (by rfl) ?_
              simp only [Act.put, List.setIfInBounds_toArray, List.set_cons_zero, List.set_cons_succ]
              refine wpL_skip 31 55 [32, 33] rfl rfl (by kernel_rfl) (by decide) (by kernel_rfl) (by kernel_rfl) (by kernel_rfl) (fun _ _ _ h => h) HS0.out (by rfl) ?_
              simp only [Act.put, List.setIfInBounds_toArray, List.set_cons_zero, List.set_cons_succ]
              refine wpL_skip 32 56 [33] rfl rfl (by kernel_rfl) (by decide) (by kernel_rfl) (by kernel_rfl) (by kernel_rfl) (fun _ _ _ h => h) HS0.out (by rfl) ?_
              simp only [Act.put, List.setIfInBounds_toArray, List.set_cons_zero, List.set_cons_succ]
              refine wpL_take 33 57 (.bool true) [] rfl rfl (by kernel_rfl) (by decide) (by kernel_rfl) (by kernel_rfl) (by kernel_rfl) (fun _ _ _ h => h) HS0.out (by rfl) (fun W hW => by obtain ⟨hW0, v0, v1, v2, v3⟩ := hW; obtain ⟨z0, z1, z2, z3⟩ := four_cells hW0; go_simp) ?_
              simp only [Act.put, List.setIfInBounds_toArray, List.set_cons_zero, List.set_cons_succ]
              refine wpL_one 34 rfl (by kernel_rfl) (by rfl) (fun K hK => ?_)
              go_simp
              refine hK.out _ _ (fun h => absurd rfl h) ?_
              clear hK K
              refine wpL_done (by kernel_rfl) ?_
              refine NoPanic.normal ?_
              go_wp2_with fail
              go_ret
              exact ⟨.inr ⟨HNO.out, rfl⟩, HB0.out⟩
            · by_cases h2 : y.1 = s.1
              · have q2 : (y.1 == s.1) = true := beq_iff_eq.2 h2
                by_cases h3 : s.2.1 ≤ y.2.1
                · have HNO : Hid (¬ Lg X) := fun h => srt_bad HYj.out HXj.out (fun h => by rcases h with h | h <;> omega) h.2
                  clear h2
                  go_upto_region 7 with fail
                  have HS0 : Hid (MemR2 wr.heap.size s g (o + j * 4) y (wr.alloc (sO s 58)).drew) := HS00.out
                  have HRt0 : Hid (Rt (wr.alloc (sO s 58)).drew base r X) := by obtain ⟨h0, ao, cap, h1, h2⟩ := HRtV.out; exact ⟨h0, ao, cap, h1, own_keep h2 (fun _ _ h => h)⟩
                  have HB0 : Hid (Below w.heap.size w (wr.alloc (sO s 58)).drew) := HBV.out.drew
                  refine wp_region_noPanic ?_
                  refine wp_region_last (MemR2 wr.heap.size s g (o + j * 4) y) 34 (by kernel_rfl) ?_
                  refine wpL_take 0 24 (i64 k) [1, 2] rfl rfl (by kernel_rfl) (by decide) (by kernel_rfl) (by kernel_rfl) (by kernel_rfl) (fun _ _ _ h => h) HS0.out (by rfl) (fun W hW => by obtain ⟨hW0, v0, v1, v2, v3⟩ := hW; obtain ⟨z0, z1, z2, z3⟩ := four_cells hW0; go_simp) ?_
                  simp only [Act.put, List.setIfInBounds_toArray, List.set_cons_zero, List.set_cons_succ]
                  refine wpL_take 1 25 (.bool true) [2] rfl rfl (by kernel_rfl) (by decide) (by kernel_rfl) (by kernel_rfl) (by kernel_rfl) (fun _ _ _ h => h) HS0.out (by rfl) (fun W hW => by obtain ⟨hW0, v0, v1, v2, v3⟩ := hW; obtain ⟨z0, z1, z2, z3⟩ := four_cells hW0; go_simp; exact HKP.out) ?_
                  simp only [Act.put, List.setIfInBounds_toArray, List.set_cons_zero, List.set_cons_succ]
                  refine wpL_take 2 26 (.bool true) [] rfl rfl (by kernel_rfl) (by decide) (by kernel_rfl) (by kernel_rfl) (by kernel_rfl) (fun _ _ _ h => h) HS0.out (by rfl) (fun W hW => by obtain ⟨hW0, v0, v1, v2, v3⟩ := hW; obtain ⟨z0, z1, z2, z3⟩ := four_cells hW0; go_simp) ?_
                  simp only [Act.put, List.setIfInBounds_toArray, List.set_cons_zero, List.set_cons_succ]
                  refine wpL_take 3 27 (.slice (some ⟨g, o, none⟩) N cap) [6, 7, 8, 11, 12, 33] rfl rfl (by kernel_rfl) (by decide) (by kernel_rfl) (by kernel_rfl) (by kernel_rfl) (fun _ _ _ h => h) HS0.out (by rfl) (fun W hW => by obtain ⟨hW0, v0, v1, v2, v3⟩ := hW; obtain ⟨z0, z1, z2, z3⟩ := four_cells hW0; go_simp) ?_
                  simp only [Act.put, List.setIfInBounds_toArray, List.set_cons_zero, List.set_cons_succ]
                  refine wpL_take 4 28 (i64 k) [5, 6, 7, 8, 11, 12, 33] rfl rfl (by kernel_rfl) (by decide) (by kernel_rfl) (by kernel_rfl) (by kernel_rfl) (fun _ _ _ h => h) HS0.out (by rfl) (fun W hW => by obtain ⟨hW0, v0, v1, v2, v3⟩ := hW; obtain ⟨z0, z1, z2, z3⟩ := four_cells hW0; go_simp) ?_
                  simp only [Act.put, List.setIfInBounds_toArray, List.set_cons_zero, List.set_cons_succ]
                  refine wpL_take 5 29 (i64 j) [6, 7, 8, 11, 12, 33] rfl rfl (by kernel_rfl) (by decide) (by kernel_rfl) (by kernel_rfl) (by kernel_rfl) (fun _ _ _ h => h) HS0.out (by rfl) (fun W hW => by obtain ⟨hW0, v0, v1, v2, v3⟩ := hW; obtain ⟨z0, z1, z2, z3⟩ := four_cells hW0; go_simp) ?_
                  simp only [Act.put, List.setIfInBounds_toArray, List.set_cons_zero, List.set_cons_succ]
                  refine wpL_take 6 30 (.pointer (some ⟨g, o + j * 4, none⟩)) [7, 8, 11, 12, 33] rfl rfl (by kernel_rfl) (by decide) (by kernel_rfl) (by kernel_rfl) (by kernel_rfl) (fun _ _ _ h => h) HS0.out (by rfl) (fun W hW => by obtain ⟨hW0, v0, v1, v2, v3⟩ := hW; obtain ⟨z0, z1, z2, z3⟩ := four_cells hW0; go_simp) ?_
                  simp only [Act.put, List.setIfInBounds_toArray, List.set_cons_zero, List.set_cons_succ]
                  refine wpL_take 7 31 (.pointer (some ⟨g, o + j * 4, none⟩)) [8, 11, 12, 33] rfl rfl (by kernel_rfl) (by decide) (by kernel_rfl) (by kernel_rfl) (by kernel_rfl) (fun _ _ _ h => h) HS0.out (by rfl) (fun W hW => by obtain ⟨hW0, v0, v1, v2, v3⟩ := hW; obtain ⟨z0, z1, z2, z3⟩ := four_cells hW0; go_simp) ?_
                  simp only [Act.put, List.setIfInBounds_toArray, List.set_cons_zero, List.set_cons_succ]
                  refine wpL_take 8 32 (i64 y.1) [11, 12, 33] rfl rfl (by kernel_rfl) (by decide) (by kernel_rfl) (by kernel_rfl) (by kernel_rfl) (fun _ _ _ h => h) HS0.out (by rfl) (fun W hW => by obtain ⟨hW0, v0, v1, v2, v3⟩ := hW; obtain ⟨z0, z1, z2, z3⟩ := four_cells hW0; go_simp) ?_
                  simp only [Act.put, List.setIfInBounds_toArray, List.set_cons_zero, List.set_cons_succ]
                  refine wpL_take 9 33 (.pointer (some ⟨wr.heap.size, 0, none⟩)) [10, 11, 12, 33] rfl rfl (by kernel_rfl) (by decide) (by kernel_rfl) (by kernel_rfl) (by kernel_rfl) (fun _ _ _ h => h) HS0.out (by rfl) (fun W hW => by obtain ⟨hW0, v0, v1, v2, v3⟩ := hW; obtain ⟨z0, z1, z2, z3⟩ := four_cells hW0; go_simp) ?_
                  simp only [Act.put, List.setIfInBounds_toArray, List.set_cons_zero, List.set_cons_succ]
                  refine wpL_take 10 34 (i64 s.1) [11, 12, 33] rfl rfl (by kernel_rfl) (by decide) (by kernel_rfl) (by kernel_rfl) (by kernel_rfl) (fun _ _ _ h => h) HS0.out (by rfl) (fun W hW => by obtain ⟨hW0, v0, v1, v2, v3⟩ := hW; obtain ⟨z0, z1, z2, z3⟩ := four_cells hW0; go_simp) ?_
                  simp only [Act.put, List.setIfInBounds_toArray, List.set_cons_zero, List.set_cons_succ]
                  refine wpL_take 11 35 (.bool false) [12, 33] rfl rfl (by kernel_rfl) (by decide) (by kernel_rfl) (by kernel_rfl) (by kernel_rfl) (fun _ _ _ h => h) HS0.out (by rfl) (fun W hW => by obtain ⟨hW0, v0, v1, v2, v3⟩ := hW; obtain ⟨z0, z1, z2, z3⟩ := four_cells hW0; go_simp) ?_
                  simp only [Act.put, List.setIfInBounds_toArray, List.set_cons_zero, List.set_cons_succ]
                  refine wpL_take 12 36 (.bool false) [33] rfl rfl (by kernel_rfl) (by decide) (by kernel_rfl) (by kernel_rfl) (by kernel_rfl) (fun _ _ _ h => h) HS0.out (by rfl) (fun W hW => by obtain ⟨hW0, v0, v1, v2, v3⟩ := hW; obtain ⟨z0, z1, z2, z3⟩ := four_cells hW0; go_simp) ?_
                  simp only [Act.put, List.setIfInBounds_toArray, List.set_cons_zero, List.set_cons_succ]
                  refine wpL_take 13 37 (.slice (some ⟨g, o, none⟩) N cap) [16, 17, 18, 21, 22, 32, 33] rfl rfl (by kernel_rfl) (by decide) (by kernel_rfl) (by kernel_rfl) (by kernel_rfl) (fun _ _ _ h => h) HS0.out (by rfl) (fun W hW => by obtain ⟨hW0, v0, v1, v2, v3⟩ := hW; obtain ⟨z0, z1, z2, z3⟩ := four_cells hW0; go_simp) ?_
                  simp only [Act.put, List.setIfInBounds_toArray, List.set_cons_zero, List.set_cons_succ]
                  refine wpL_take 14 38 (i64 k) [15, 16, 17, 18, 21, 22, 32, 33] rfl rfl (by kernel_rfl) (by decide) (by kernel_rfl) (by kernel_rfl) (by kernel_rfl) (fun _ _ _ h => h) HS0.out (by rfl) (fun W hW => by obtain ⟨hW0, v0, v1, v2, v3⟩ := hW; obtain ⟨z0, z1, z2, z3⟩ := four_cells hW0; go_simp) ?_
                  simp only [Act.put, List.setIfInBounds_toArray, List.set_cons_zero, List.set_cons_succ]
                  refine wpL_take 15 39 (i64 j) [16, 17, 18, 21, 22, 32, 33] rfl rfl (by kernel_rfl) (by decide) (by kernel_rfl) (by kernel_rfl) (by kernel_rfl) (fun _ _ _ h => h) HS0.out (by rfl) (fun W hW => by obtain ⟨hW0, v0, v1, v2, v3⟩ := hW; obtain ⟨z0, z1, z2, z3⟩ := four_cells hW0; go_simp) ?_
                  simp only [Act.put, List.setIfInBounds_toArray, List.set_cons_zero, List.set_cons_succ]
                  refine wpL_take 16 40 (.pointer (some ⟨g, o + j * 4, none⟩)) [17, 18, 21, 22, 32, 33] rfl rfl (by kernel_rfl) (by decide) (by kernel_rfl) (by kernel_rfl) (by kernel_rfl) (fun _ _ _ h => h) HS0.out (by rfl) (fun W hW => by obtain ⟨hW0, v0, v1, v2, v3⟩ := hW; obtain ⟨z0, z1, z2, z3⟩ := four_cells hW0; go_simp) ?_
                  simp only [Act.put, List.setIfInBounds_toArray, List.set_cons_zero, List.set_cons_succ]
                  refine wpL_take 17 41 (.pointer (some ⟨g, o + j * 4, none⟩)) [18, 21, 22, 32, 33] rfl rfl (by kernel_rfl) (by decide) (by kernel_rfl) (by kernel_rfl) (by kernel_rfl) (fun _ _ _ h => h) HS0.out (by rfl) (fun W hW => by obtain ⟨hW0, v0, v1, v2, v3⟩ := hW; obtain ⟨z0, z1, z2, z3⟩ := four_cells hW0; go_simp) ?_
                  simp only [Act.put, List.setIfInBounds_toArray, List.set_cons_zero, List.set_cons_succ]
                  refine wpL_take 18 42 (i64 y.1) [21, 22, 32, 33] rfl rfl (by kernel_rfl) (by decide) (by kernel_rfl) (by kernel_rfl) (by kernel_rfl) (fun _ _ _ h => h) HS0.out (by rfl) (fun W hW => by obtain ⟨hW0, v0, v1, v2, v3⟩ := hW; obtain ⟨z0, z1, z2, z3⟩ := four_cells hW0; go_simp) ?_
                  simp only [Act.put, List.setIfInBounds_toArray, List.set_cons_zero, List.set_cons_succ]
                  refine wpL_take 19 43 (.pointer (some ⟨wr.heap.size, 0, none⟩)) [20, 21, 22, 32, 33] rfl rfl (by kernel_rfl) (by decide) (by kernel_rfl) (by kernel_rfl) (by kernel_rfl) (fun _ _ _ h => h) HS0.out (by rfl) (fun W hW => by obtain ⟨hW0, v0, v1, v2, v3⟩ := hW; obtain ⟨z0, z1, z2, z3⟩ := four_cells hW0; go_simp) ?_
                  simp only [Act.put, List.setIfInBounds_toArray, List.set_cons_zero, List.set_cons_succ]
                  refine wpL_take 20 44 (i64 s.1) [21, 22, 32, 33] rfl rfl (by kernel_rfl) (by decide) (by kernel_rfl) (by kernel_rfl) (by kernel_rfl) (fun _ _ _ h => h) HS0.out (by rfl) (fun W hW => by obtain ⟨hW0, v0, v1, v2, v3⟩ := hW; obtain ⟨z0, z1, z2, z3⟩ := four_cells hW0; go_simp) ?_
                  simp only [Act.put, List.setIfInBounds_toArray, List.set_cons_zero, List.set_cons_succ]
                  refine wpL_take 21 45 (.bool true) [22, 32, 33] rfl rfl (by kernel_rfl) (by decide) (by kernel_rfl) (by kernel_rfl) (by kernel_rfl) (fun _ _ _ h => h) HS0.out (by rfl) (fun W hW => by obtain ⟨hW0, v0, v1, v2, v3⟩ := hW; obtain ⟨z0, z1, z2, z3⟩ := four_cells hW0; go_simp) ?_
                  simp only [Act.put, List.setIfInBounds_toArray, List.set_cons_zero, List.set_cons_succ]
                  refine wpL_take 22 46 (.bool true) [32, 33] rfl rfl (by kernel_rfl) (by decide) (by kernel_rfl) (by kernel_rfl) (by kernel_rfl) (fun _ _ _ h => h) HS0.out (by rfl) (fun W hW => by obtain ⟨hW0, v0, v1, v2, v3⟩ := hW; obtain ⟨z0, z1, z2, z3⟩ := four_cells hW0; go_simp) ?_
                  simp only [Act.put, List.setIfInBounds_toArray, List.set_cons_zero, List.set_cons_succ]
                  refine wpL_take 23 47 (.slice (some ⟨g, o, none⟩) N cap) [26, 27, 28, 31, 32, 33] rfl rfl (by kernel_rfl) (by decide) (by kernel_rfl) (by kernel_rfl) (by kernel_rfl) (fun _ _ _ h => h) HS0.out (by rfl) (fun W hW => by obtain ⟨hW0, v0, v1, v2, v3⟩ := hW; obtain ⟨z0, z1, z2, z3⟩ := four_cells hW0; go_simp) ?_
                  simp only [Act.put, List.setIfInBounds_toArray, List.set_cons_zero, List.set_cons_succ]
                  refine wpL_take 24 48 (i64 k) [25, 26, 27, 28, 31, 32, 33] rfl rfl (by kernel_rfl) (by decide) (by kernel_rfl) (by kernel_rfl) (by kernel_rfl) (fun _ _ _ h => h) HS0.out (by rfl) (fun W hW => by obtain ⟨hW0, v0, v1, v2, v3⟩ := hW; obtain ⟨z0, z1, z2, z3⟩ := four_cells hW0; go_simp) ?_
                  simp only [Act.put, List.setIfInBounds_toArray, List.set_cons_zero, List.set_cons_succ]
                  refine wpL_take 25 49 (i64 j) [26, 27, 28, 31, 32, 33] rfl rfl (by kernel_rfl) (by decide) (by kernel_rfl) (by kernel_rfl) (by kernel_rfl) (fun _ _ _ h => h) HS0.out (by rfl) (fun W hW => by obtain ⟨hW0, v0, v1, v2, v3⟩ := hW; obtain ⟨z0, z1, z2, z3⟩ := four_cells hW0; go_simp) ?_
                  simp only [Act.put, List.setIfInBounds_toArray, List.set_cons_zero, List.set_cons_succ]
                  refine wpL_take 26 50 (.pointer (some ⟨g, o + j * 4, none⟩)) [27, 28, 31, 32, 33] rfl rfl (by kernel_rfl) (by decide) (by kernel_rfl) (by kernel_rfl) (by kernel_rfl) (fun _ _ _ h => h) HS0.out (by rfl) (fun W hW => by obtain ⟨hW0, v0, v1, v2, v3⟩ := hW; obtain ⟨z0, z1, z2, z3⟩ := four_cells hW0; go_simp) ?_
                  simp only [Act.put, List.setIfInBounds_toArray, List.set_cons_zero, List.set_cons_succ]
                  refine wpL_take 27 51 (.pointer (some ⟨g, o + j * 4 + 1, none⟩)) [28, 31, 32, 33] rfl rfl (by kernel_rfl) (by decide) (by kernel_rfl) (by kernel_rfl) (by kernel_rfl) (fun _ _ _ h => h) HS0.out (by rfl) (fun W hW => by obtain ⟨hW0, v0, v1, v2, v3⟩ := hW; obtain ⟨z0, z1, z2, z3⟩ := four_cells hW0; go_simp) ?_
                  simp only [Act.put, List.setIfInBounds_toArray, List.set_cons_zero, List.set_cons_succ]
                  refine wpL_take 28 52 (i64 y.2.1) [31, 32, 33] rfl rfl (by kernel_rfl) (by decide) (by kernel_rfl) (by kernel_rfl) (by kernel_rfl) (fun _ _ _ h => h) HS0.out (by rfl) (fun W hW => by obtain ⟨hW0, v0, v1, v2, v3⟩ := hW; obtain ⟨z0, z1, z2, z3⟩ := four_cells hW0; go_simp) ?_
                  simp only [Act.put, List.setIfInBounds_toArray, List.set_cons_zero, List.set_cons_succ]
                  refine wpL_take 29 53 (.pointer (some ⟨wr.heap.size, 1, none⟩)) [30, 31, 32, 33] rfl rfl (by kernel_rfl) (by decide) (by kernel_rfl) (by kernel_rfl) (by kernel_rfl) (fun _ _ _ h => h) HS0.out (by rfl) (fun W hW => by obtain ⟨hW0, v0, v1, v2, v3⟩ := hW; obtain ⟨z0, z1, z2, z3⟩ := four_cells hW0; go_simp) ?_
                  simp only [Act.put, List.setIfInBounds_toArray, List.set_cons_zero, List.set_cons_succ]
                  refine wpL_take 30 54 (i64 s.2.1) [31, 32, 33] rfl rfl (by kernel_rfl) (by decide) (by kernel_rfl) (by kernel_rfl) (by kernel_rfl) (fun _ _ _ h => h) HS0.out (by rfl) (fun W hW => by obtain ⟨hW0, v0, v1, v2, v3⟩ := hW; obtain ⟨z0, z1, z2, z3⟩ := four_cells hW0; go_simp) ?_
                  simp only [Act.put, List.setIfInBounds_toArray, List.set_cons_zero, List.set_cons_succ]
                  refine wpL_take 31 55 (.bool true) [32, 33] rfl rfl (by kernel_rfl) (by decide) (by kernel_rfl) (by kernel_rfl) (by kernel_rfl) (fun _ _ _ h => h) HS0.out (by rfl) (fun W hW => by obtain ⟨hW0, v0, v1, v2, v3⟩ := hW; obtain ⟨z0, z1, z2, z3⟩ := four_cells hW0; go_simp) ?_
                  simp only [Act.put, List.setIfInBounds_toArray, List.set_cons_zero, List.set_cons_succ]
                  refine wpL_take 32 56 (.bool true) [33] rfl rfl (by kernel_rfl) (by decide) (by kernel_rfl) (by kernel_rfl) (by kernel_rfl) (fun _ _ _ h => h) HS0.out (by rfl) (fun W hW => by obtain ⟨hW0, v0, v1, v2, v3⟩ := hW; obtain ⟨z0, z1, z2, z3⟩ := four_cells hW0; go_simp) ?_
                  simp only [Act.put, List.setIfInBounds_toArray, List.set_cons_zero, List.set_cons_succ]
                  refine wpL_take 33 57 (.bool true) [] rfl rfl (by kernel_rfl) (by decide) (by kernel_rfl) (by kernel_rfl) (by kernel_rfl) (fun _ _ _ h => h) HS0.out (by rfl) (fun W hW => by obtain ⟨hW0, v0, v1, v2, v3⟩ := hW; obtain ⟨z0, z1, z2, z3⟩ := four_cells hW0; go_simp) ?_
                  simp only [Act.put, List.setIfInBounds_toArray, List.set_cons_zero, List.set_cons_succ]
                  refine wpL_one 34 rfl (by kernel_rfl) (by rfl) (fun K hK => ?_)
                  go_simp
                  refine hK.out _ _ (fun h => absurd rfl h) ?_
                  clear hK K
                  refine wpL_done (by kernel_rfl) ?_
                  refine NoPanic.normal ?_
                  go_wp2_with fail
                  go_ret
                  exact ⟨.inr ⟨HNO.out, rfl⟩, HB0.out⟩
                · have HSN : Hid ((X.take (k + 1)).Pairwise ahP) := srt_next HSr.out HXk.out (.inr ⟨j, y, HKJ.out, HYj.out, .inr ⟨h2, by omega⟩⟩)
                  clear h2
                  go_upto_region 7 with fail
                  have HS0 : Hid (MemR2 wr.heap.size s g (o + j * 4) y (wr.alloc (sO s 58)).drew) := HS00.out
                  have HRt0 : Hid (Rt (wr.alloc (sO s 58)).drew base r X) := by obtain ⟨h0, ao, cap, h1, h2⟩ := HRtV.out; exact ⟨h0, ao, cap, h1, own_keep h2 (fun _ _ h => h)⟩
                  have HB0 : Hid (Below w.heap.size w (wr.alloc (sO s 58)).drew) := HBV.out.drew
                  refine wp_region_noPanic ?_
                  refine wp_region_last (MemR2 wr.heap.size s g (o + j * 4) y) 34 (by kernel_rfl) ?_
                  refine wpL_take 0 24 (i64 k) [1, 2] rfl rfl (by kernel_rfl) (by decide) (by kernel_rfl) (by kernel_rfl) (by kernel_rfl) (fun _ _ _ h => h) HS0.out (by rfl) (fun W hW => by obtain ⟨hW0, v0, v1, v2, v3⟩ := hW; obtain ⟨z0, z1, z2, z3⟩ := four_cells hW0; go_simp) ?_
                  simp only [Act.put, List.setIfInBounds_toArray, List.set_cons_zero, List.set_cons_succ]
                  refine wpL_take 1 25 (.bool true) [2] rfl rfl (by kernel_rfl) (by decide) (by kernel_rfl) (by kernel_rfl) (by kernel_rfl) (fun _ _ _ h => h) HS0.out (by rfl) (fun W hW => by obtain ⟨hW0, v0, v1, v2, v3⟩ := hW; obtain ⟨z0, z1, z2, z3⟩ := four_cells hW0; go_simp; exact HKP.out) ?_
                  simp only [Act.put, List.setIfInBounds_toArray, List.set_cons_zero, List.set_cons_succ]
                  refine wpL_take 2 26 (.bool true) [] rfl rfl (by kernel_rfl) (by decide) (by kernel_rfl) (by kernel_rfl) (by kernel_rfl) (fun _ _ _ h => h) HS0.out (by rfl) (fun W hW => by obtain ⟨hW0, v0, v1, v2, v3⟩ := hW; obtain ⟨z0, z1, z2, z3⟩ := four_cells hW0; go_simp) ?_
                  simp only [Act.put, List.setIfInBounds_toArray, List.set_cons_zero, List.set_cons_succ]
                  refine wpL_take 3 27 (.slice (some ⟨g, o, none⟩) N cap) [6, 7, 8, 11, 12, 33] rfl rfl (by kernel_rfl) (by decide) (by kernel_rfl) (by kernel_rfl) (by kernel_rfl) (fun _ _ _ h => h) HS0.out (by rfl) (fun W hW => by obtain ⟨hW0, v0, v1, v2, v3⟩ := hW; obtain ⟨z0, z1, z2, z3⟩ := four_cells hW0; go_simp) ?_
                  simp only [Act.put, List.setIfInBounds_toArray, List.set_cons_zero, List.set_cons_succ]
                  refine wpL_take 4 28 (i64 k) [5, 6, 7, 8, 11, 12, 33] rfl rfl (by kernel_rfl) (by decide) (by kernel_rfl) (by kernel_rfl) (by kernel_rfl) (fun _ _ _ h => h) HS0.out (by rfl) (fun W hW => by obtain ⟨hW0, v0, v1, v2, v3⟩ := hW; obtain ⟨z0, z1, z2, z3⟩ := four_cells hW0; go_simp) ?_
                  simp only [Act.put, List.setIfInBounds_toArray, List.set_cons_zero, List.set_cons_succ]
                  refine wpL_take 5 29 (i64 j) [6, 7, 8, 11, 12, 33] rfl rfl (by kernel_rfl) (by decide) (by kernel_rfl) (by kernel_rfl) (by kernel_rfl) (fun _ _ _ h => h) HS0.out (by rfl) (fun W hW => by obtain ⟨hW0, v0, v1, v2, v3⟩ := hW; obtain ⟨z0, z1, z2, z3⟩ := four_cells hW0; go_simp) ?_
                  simp only [Act.put, List.setIfInBounds_toArray, List.set_cons_zero, List.set_cons_succ]
                  refine wpL_take 6 30 (.pointer (some ⟨g, o + j * 4, none⟩)) [7, 8, 11, 12, 33] rfl rfl (by kernel_rfl) (by decide) (by kernel_rfl) (by kernel_rfl) (by kernel_rfl) (fun _ _ _ h => h) HS0.out (by rfl) (fun W hW => by obtain ⟨hW0, v0, v1, v2, v3⟩ := hW; obtain ⟨z0, z1, z2, z3⟩ := four_cells hW0; go_simp) ?_
                  simp only [Act.put, List.setIfInBounds_toArray, List.set_cons_zero, List.set_cons_succ]
                  refine wpL_take 7 31 (.pointer (some ⟨g, o + j * 4, none⟩)) [8, 11, 12, 33] rfl rfl (by kernel_rfl) (by decide) (by kernel_rfl) (by kernel_rfl) (by kernel_rfl) (fun _ _ _ h => h) HS0.out (by rfl) (fun W hW => by obtain ⟨hW0, v0, v1, v2, v3⟩ := hW; obtain ⟨z0, z1, z2, z3⟩ := four_cells hW0; go_simp) ?_
                  simp only [Act.put, List.setIfInBounds_toArray, List.set_cons_zero, List.set_cons_succ]
                  refine wpL_take 8 32 (i64 y.1) [11, 12, 33] rfl rfl (by kernel_rfl) (by decide) (by kernel_rfl) (by kernel_rfl) (by kernel_rfl) (fun _ _ _ h => h) HS0.out (by rfl) (fun W hW => by obtain ⟨hW0, v0, v1, v2, v3⟩ := hW; obtain ⟨z0, z1, z2, z3⟩ := four_cells hW0; go_simp) ?_
                  simp only [Act.put, List.setIfInBounds_toArray, List.set_cons_zero, List.set_cons_succ]
                  refine wpL_take 9 33 (.pointer (some ⟨wr.heap.size, 0, none⟩)) [10, 11, 12, 33] rfl rfl (by kernel_rfl) (by decide) (by kernel_rfl) (by kernel_rfl) (by kernel_rfl) (fun _ _ _ h => h) HS0.out (by rfl) (fun W hW => by obtain ⟨hW0, v0, v1, v2, v3⟩ := hW; obtain ⟨z0, z1, z2, z3⟩ := four_cells hW0; go_simp) ?_
                  simp only [Act.put, List.setIfInBounds_toArray, List.set_cons_zero, List.set_cons_succ]
                  refine wpL_take 10 34 (i64 s.1) [11, 12, 33] rfl rfl (by kernel_rfl) (by decide) (by kernel_rfl) (by kernel_rfl) (by kernel_rfl) (fun _ _ _ h => h) HS0.out (by rfl) (fun W hW => by obtain ⟨hW0, v0, v1, v2, v3⟩ := hW; obtain ⟨z0, z1, z2, z3⟩ := four_cells hW0; go_simp) ?_
                  simp only [Act.put, List.setIfInBounds_toArray, List.set_cons_zero, List.set_cons_succ]
                  refine wpL_take 11 35 (.bool false) [12, 33] rfl rfl (by kernel_rfl) (by decide) (by kernel_rfl) (by kernel_rfl) (by kernel_rfl) (fun _ _ _ h => h) HS0.out (by rfl) (fun W hW => by obtain ⟨hW0, v0, v1, v2, v3⟩ := hW; obtain ⟨z0, z1, z2, z3⟩ := four_cells hW0; go_simp) ?_
                  simp only [Act.put, List.setIfInBounds_toArray, List.set_cons_zero, List.set_cons_succ]
                  refine wpL_take 12 36 (.bool false) [33] rfl rfl (by kernel_rfl) (by decide) (by kernel_rfl) (by kernel_rfl) (by kernel_rfl) (fun _ _ _ h => h) HS0.out (by rfl) (fun W hW => by obtain ⟨hW0, v0, v1, v2, v3⟩ := hW; obtain ⟨z0, z1, z2, z3⟩ := four_cells hW0; go_simp) ?_
                  simp only [Act.put, List.setIfInBounds_toArray, List.set_cons_zero, List.set_cons_succ]
                  refine wpL_take 13 37 (.slice (some ⟨g, o, none⟩) N cap) [16, 17, 18, 21, 22, 32, 33] rfl rfl (by kernel_rfl) (by decide) (by kernel_rfl) (by kernel_rfl) (by kernel_rfl) (fun _ _ _ h => h) HS0.out (by rfl) (fun W hW => by obtain ⟨hW0, v0, v1, v2, v3⟩ := hW; obtain ⟨z0, z1, z2, z3⟩ := four_cells hW0; go_simp) ?_
                  simp only [Act.put, List.setIfInBounds_toArray, List.set_cons_zero, List.set_cons_succ]
                  refine wpL_take 14 38 (i64 k) [15, 16, 17, 18, 21, 22, 32, 33] rfl rfl (by kernel_rfl) (by decide) (by kernel_rfl) (by kernel_rfl) (by kernel_rfl) (fun _ _ _ h => h) HS0.out (by rfl) (fun W hW => by obtain ⟨hW0, v0, v1, v2, v3⟩ := hW; obtain ⟨z0, z1, z2, z3⟩ := four_cells hW0; go_simp) ?_
                  simp only [Act.put, List.setIfInBounds_toArray, List.set_cons_zero, List.set_cons_succ]
                  refine wpL_take 15 39 (i64 j) [16, 17, 18, 21, 22, 32, 33] rfl rfl (by kernel_rfl) (by decide) (by kernel_rfl) (by kernel_rfl) (by kernel_rfl) (fun _ _ _ h => h) HS0.out (by rfl) (fun W hW => by obtain ⟨hW0, v0, v1, v2, v3⟩ := hW; obtain ⟨z0, z1, z2, z3⟩ := four_cells hW0; go_simp) ?_
                  simp only [Act.put, List.setIfInBounds_toArray, List.set_cons_zero, List.set_cons_succ]
                  refine wpL_take 16 40 (.pointer (some ⟨g, o + j * 4, none⟩)) [17, 18, 21, 22, 32, 33] rfl rfl (by kernel_rfl) (by decide) (by kernel_rfl) (by kernel_rfl) (by kernel_rfl) (fun _ _ _ h => h) HS0.out (by rfl) (fun W hW => by obtain ⟨hW0, v0, v1, v2, v3⟩ := hW; obtain ⟨z0, z1, z2, z3⟩ := four_cells hW0; go_simp) ?_
                  simp only [Act.put, List.setIfInBounds_toArray, List.set_cons_zero, List.set_cons_succ]
                  refine wpL_take 17 41 (.pointer (some ⟨g, o + j * 4, none⟩)) [18, 21, 22, 32, 33] rfl rfl (by kernel_rfl) (by decide) (by kernel_rfl) (by kernel_rfl) (by kernel_rfl) (fun _ _ _ h => h) HS0.out (by rfl) (fun W hW => by obtain ⟨hW0, v0, v1, v2, v3⟩ := hW; obtain ⟨z0, z1, z2, z3⟩ := four_cells hW0; go_simp) ?_
                  simp only [Act.put, List.setIfInBounds_toArray, List.set_cons_zero, List.set_cons_succ]
                  refine wpL_take 18 42 (i64 y.1) [21, 22, 32, 33] rfl rfl (by kernel_rfl) (by decide) (by kernel_rfl) (by kernel_rfl) (by kernel_rfl) (fun _ _ _ h => h) HS0.out (by rfl) (fun W hW => by obtain ⟨hW0, v0, v1, v2, v3⟩ := hW; obtain ⟨z0, z1, z2, z3⟩ := four_cells hW0; go_simp) ?_
                  simp only [Act.put, List.setIfInBounds_toArray, List.set_cons_zero, List.set_cons_succ]
                  refine wpL_take 19 43 (.pointer (some ⟨wr.heap.size, 0, none⟩)) [20, 21, 22, 32, 33] rfl rfl (by kernel_rfl) (by decide) (by kernel_rfl) (by kernel_rfl) (by kernel_rfl) (fun _ _ _ h => h) HS0.out (by rfl) (fun W hW => by obtain ⟨hW0, v0, v1, v2, v3⟩ := hW; obtain ⟨z0, z1, z2, z3⟩ := four_cells hW0; go_simp) ?_
                  simp only [Act.put, List.setIfInBounds_toArray, List.set_cons_zero, List.set_cons_succ]
                  refine wpL_take 20 44 (i64 s.1) [21, 22, 32, 33] rfl rfl (by kernel_rfl) (by decide) (by kernel_rfl) (by kernel_rfl) (by kernel_rfl) (fun _ _ _ h => h) HS0.out (by rfl) (fun W hW => by obtain ⟨hW0, v0, v1, v2, v3⟩ := hW; obtain ⟨z0, z1, z2, z3⟩ := four_cells hW0; go_simp) ?_
                  simp only [Act.put, List.setIfInBounds_toArray, List.set_cons_zero, List.set_cons_succ]
                  refine wpL_take 21 45 (.bool true) [22, 32, 33] rfl rfl (by kernel_rfl) (by decide) (by kernel_rfl) (by kernel_rfl) (by kernel_rfl) (fun _ _ _ h => h) HS0.out (by rfl) (fun W hW => by obtain ⟨hW0, v0, v1, v2, v3⟩ := hW; obtain ⟨z0, z1, z2, z3⟩ := four_cells hW0; go_simp) ?_
                  simp only [Act.put, List.setIfInBounds_toArray, List.set_cons_zero, List.set_cons_succ]
                  refine wpL_take 22 46 (.bool true) [32, 33] rfl rfl (by kernel_rfl) (by decide) (by kernel_rfl) (by kernel_rfl) (by kernel_rfl) (fun _ _ _ h => h) HS0.out (by rfl) (fun W hW => by obtain ⟨hW0, v0, v1, v2, v3⟩ := hW; obtain ⟨z0, z1, z2, z3⟩ := four_cells hW0; go_simp) ?_
                  simp only [Act.put, List.setIfInBounds_toArray, List.set_cons_zero, List.set_cons_succ]
                  refine wpL_take 23 47 (.slice (some ⟨g, o, none⟩) N cap) [26, 27, 28, 31, 32, 33] rfl rfl (by kernel_rfl) (by decide) (by kernel_rfl) (by kernel_rfl) (by kernel_rfl) (fun _ _ _ h => h) HS0.out (by rfl) (fun W hW => by obtain ⟨hW0, v0, v1, v2, v3⟩ := hW; obtain ⟨z0, z1, z2, z3⟩ := four_cells hW0; go_simp) ?_
                  simp only [Act.put, List.setIfInBounds_toArray, List.set_cons_zero, List.set_cons_succ]
                  refine wpL_take 24 48 (i64 k) [25, 26, 27, 28, 31, 32, 33] rfl rfl (by kernel_rfl) (by decide) (by kernel_rfl) (by kernel_rfl) (by kernel_rfl) (fun _ _ _ h => h) HS0.out (by rfl) (fun W hW => by obtain ⟨hW0, v0, v1, v2, v3⟩ := hW; obtain ⟨z0, z1, z2, z3⟩ := four_cells hW0; go_simp) ?_
                  simp only [Act.put, List.setIfInBounds_toArray, List.set_cons_zero, List.set_cons_succ]
                  refine wpL_take 25 49 (i64 j) [26, 27, 28, 31, 32, 33] rfl rfl (by kernel_rfl) (by decide) (by kernel_rfl) (by kernel_rfl) (by kernel_rfl) (fun _ _ _ h => h) HS0.out (by rfl) (fun W hW => by obtain ⟨hW0, v0, v1, v2, v3⟩ := hW; obtain ⟨z0, z1, z2, z3⟩ := four_cells hW0; go_simp) ?_
                  simp only [Act.put, List.setIfInBounds_toArray, List.set_cons_zero, List.set_cons_succ]
                  refine wpL_take 26 50 (.pointer (some ⟨g, o + j * 4, none⟩)) [27, 28, 31, 32, 33] rfl rfl (by kernel_rfl) (by decide) (by kernel_rfl) (by kernel_rfl) (by kernel_rfl) (fun _ _ _ h => h) HS0.out (by rfl) (fun W hW => by obtain ⟨hW0, v0, v1, v2, v3⟩ := hW; obtain ⟨z0, z1, z2, z3⟩ := four_cells hW0; go_simp) ?_
                  simp only [Act.put, List.setIfInBounds_toArray, List.set_cons_zero, List.set_cons_succ]
                  refine wpL_take 27 51 (.pointer (some ⟨g, o + j * 4 + 1, none⟩)) [28, 31, 32, 33] rfl rfl (by kernel_rfl) (by decide) (by kernel_rfl) (by kernel_rfl) (by kernel_rfl) (fun _ _ _ h => h) HS0.out (by rfl) (fun W hW => by obtain ⟨hW0, v0, v1, v2, v3⟩ := hW; obtain ⟨z0, z1, z2, z3⟩ := four_cells hW0; go_simp) ?_
                  simp only [Act.put, List.setIfInBounds_toArray, List.set_cons_zero, List.set_cons_succ]
                  refine wpL_take 28 52 (i64 y.2.1) [31, 32, 33] rfl rfl (by kernel_rfl) (by decide) (by kernel_rfl) (by kernel_rfl) (by kernel_rfl) (fun _ _ _ h => h) HS0.out (by rfl) (fun W hW => by obtain ⟨hW0, v0, v1, v2, v3⟩ := hW; obtain ⟨z0, z1, z2, z3⟩ := four_cells hW0; go_simp) ?_
                  simp only [Act.put, List.setIfInBounds_toArray, List.set_cons_zero, List.set_cons_succ]
                  refine wpL_take 29 53 (.pointer (some ⟨wr.heap.size, 1, none⟩)) [30, 31, 32, 33] rfl rfl (by kernel_rfl) (by decide) (by kernel_rfl) (by kernel_rfl) (by kernel_rfl) (fun _ _ _ h => h) HS0.out (by rfl) (fun W hW => by obtain ⟨hW0, v0, v1, v2, v3⟩ := hW; obtain ⟨z0, z1, z2, z3⟩ := four_cells hW0; go_simp) ?_
                  simp only [Act.put, List.setIfInBounds_toArray, List.set_cons_zero, List.set_cons_succ]
                  refine wpL_take 30 54 (i64 s.2.1) [31, 32, 33] rfl rfl (by kernel_rfl) (by decide) (by kernel_rfl) (by kernel_rfl) (by kernel_rfl) (fun _ _ _ h => h) HS0.out (by rfl) (fun W hW => by obtain ⟨hW0, v0, v1, v2, v3⟩ := hW; obtain ⟨z0, z1, z2, z3⟩ := four_cells hW0; go_simp) ?_
                  simp only [Act.put, List.setIfInBounds_toArray, List.set_cons_zero, List.set_cons_succ]
                  refine wpL_take 31 55 (.bool false) [32, 33] rfl rfl (by kernel_rfl) (by decide) (by kernel_rfl) (by kernel_rfl) (by kernel_rfl) (fun _ _ _ h => h) HS0.out (by rfl) (fun W hW => by obtain ⟨hW0, v0, v1, v2, v3⟩ := hW; obtain ⟨z0, z1, z2, z3⟩ := four_cells hW0; go_simp) ?_
                  simp only [Act.put, List.setIfInBounds_toArray, List.set_cons_zero, List.set_cons_succ]
                  refine wpL_take 32 56 (.bool false) [33] rfl rfl (by kernel_rfl) (by decide) (by kernel_rfl) (by kernel_rfl) (by kernel_rfl) (fun _ _ _ h => h) HS0.out (by rfl) (fun W hW => by obtain ⟨hW0, v0, v1, v2, v3⟩ := hW; obtain ⟨z0, z1, z2, z3⟩ := four_cells hW0; go_simp) ?_
                  simp only [Act.put, List.setIfInBounds_toArray, List.set_cons_zero, List.set_cons_succ]
                  refine wpL_take 33 57 (.bool false) [] rfl rfl (by kernel_rfl) (by decide) (by kernel_rfl) (by kernel_rfl) (by kernel_rfl) (fun _ _ _ h => h) HS0.out (by rfl) (fun W hW => by obtain ⟨hW0, v0, v1, v2, v3⟩ := hW; obtain ⟨z0, z1, z2, z3⟩ := four_cells hW0; go_simp) ?_
                  simp only [Act.put, List.setIfInBounds_toArray, List.set_cons_zero, List.set_cons_succ]
                  refine wpL_one 34 rfl (by kernel_rfl) (by rfl) (fun K hK => ?_)
                  go_simp
                  refine hK.out _ _ (fun h => absurd rfl h) ?_
                  clear hK K
                  refine wpL_done (by kernel_rfl) ?_
                  refine NoPanic.normal ?_
                  go_wp2_with fail
                  exact ⟨⟨k + 1, by omega, by go_num, HRt0, HPN, HSN, HB0⟩, by simp [intOf]; omega⟩
              · have q2 : (y.1 == s.1) = false := beq_false_of_ne h2
                have HSN : Hid ((X.take (k + 1)).Pairwise ahP) := srt_next HSr.out HXk.out (.inr ⟨j, y, HKJ.out, HYj.out, .inl (by omega)⟩)
                clear h2
                go_upto_region 7 with fail
                have HS0 : Hid (MemR2 wr.heap.size s g (o + j * 4) y (wr.alloc (sO s 58)).drew) := HS00.out
                have HRt0 : Hid (Rt (wr.alloc (sO s 58)).drew base r X) := by obtain ⟨h0, ao, cap, h1, h2⟩ := HRtV.out; exact ⟨h0, ao, cap, h1, own_keep h2 (fun _ _ h => h)⟩
                have HB0 : Hid (Below w.heap.size w (wr.alloc (sO s 58)).drew) := HBV.out.drew
                refine wp_region_noPanic ?_
                refine wp_region_last (MemR2 wr.heap.size s g (o + j * 4) y) 34 (by kernel_rfl) ?_
                refine wpL_take 0 24 (i64 k) [1, 2] rfl rfl (by kernel_rfl) (by decide) (by kernel_rfl) (by kernel_rfl) (by kernel_rfl) (fun _ _ _ h => h) HS0.out (by rfl) (fun W hW => by obtain ⟨hW0, v0, v1, v2, v3⟩ := hW; obtain ⟨z0, z1, z2, z3⟩ := four_cells hW0; go_simp) ?_
                simp only [Act.put, List.setIfInBounds_toArray, List.set_cons_zero, List.set_cons_succ]
                refine wpL_take 1 25 (.bool true) [2] rfl rfl (by kernel_rfl) (by decide) (by kernel_rfl) (by kernel_rfl) (by kernel_rfl) (fun _ _ _ h => h) HS0.out (by rfl) (fun W hW => by obtain ⟨hW0, v0, v1, v2, v3⟩ := hW; obtain ⟨z0, z1, z2, z3⟩ := four_cells hW0; go_simp; exact HKP.out) ?_
                simp only [Act.put, List.setIfInBounds_toArray, List.set_cons_zero, List.set_cons_succ]
                refine wpL_take 2 26 (.bool true) [] rfl rfl (by kernel_rfl) (by decide) (by kernel_rfl) (by kernel_rfl) (by kernel_rfl) (fun _ _ _ h => h) HS0.out (by rfl) (fun W hW => by obtain ⟨hW0, v0, v1, v2, v3⟩ := hW; obtain ⟨z0, z1, z2, z3⟩ := four_cells hW0; go_simp) ?_
                simp only [Act.put, List.setIfInBounds_toArray, List.set_cons_zero, List.set_cons_succ]
                refine wpL_take 3 27 (.slice (some ⟨g, o, none⟩) N cap) [6, 7, 8, 11, 12, 33] rfl rfl (by kernel_rfl) (by decide) (by kernel_rfl) (by kernel_rfl) (by kernel_rfl) (fun _ _ _ h => h) HS0.out (by rfl) (fun W hW => by obtain ⟨hW0, v0, v1, v2, v3⟩ := hW; obtain ⟨z0, z1, z2, z3⟩ := four_cells hW0; go_simp) ?_
                simp only [Act.put, List.setIfInBounds_toArray, List.set_cons_zero, List.set_cons_succ]
                refine wpL_take 4 28 (i64 k) [5, 6, 7, 8, 11, 12, 33] rfl rfl (by kernel_rfl) (by decide) (by kernel_rfl) (by kernel_rfl) (by kernel_rfl) (fun _ _ _ h => h) HS0.out (by rfl) (fun W hW => by obtain ⟨hW0, v0, v1, v2, v3⟩ := hW; obtain ⟨z0, z1, z2, z3⟩ := four_cells hW0; go_simp) ?_
                simp only [Act.put, List.setIfInBounds_toArray, List.set_cons_zero, List.set_cons_succ]
                refine wpL_take 5 29 (i64 j) [6, 7, 8, 11, 12, 33] rfl rfl (by kernel_rfl) (by decide) (by kernel_rfl) (by kernel_rfl) (by kernel_rfl) (fun _ _ _ h => h) HS0.out (by rfl) (fun W hW => by obtain ⟨hW0, v0, v1, v2, v3⟩ := hW; obtain ⟨z0, z1, z2, z3⟩ := four_cells hW0; go_simp) ?_
                simp only [Act.put, List.setIfInBounds_toArray, List.set_cons_zero, List.set_cons_succ]
                refine wpL_take 6 30 (.pointer (some ⟨g, o + j * 4, none⟩)) [7, 8, 11, 12, 33] rfl rfl (by kernel_rfl) (by decide) (by kernel_rfl) (by kernel_rfl) (by kernel_rfl) (fun _ _ _ h => h) HS0.out (by rfl) (fun W hW => by obtain ⟨hW0, v0, v1, v2, v3⟩ := hW; obtain ⟨z0, z1, z2, z3⟩ := four_cells hW0; go_simp) ?_
                simp only [Act.put, List.setIfInBounds_toArray, List.set_cons_zero, List.set_cons_succ]
                refine wpL_take 7 31 (.pointer (some ⟨g, o + j * 4, none⟩)) [8, 11, 12, 33] rfl rfl (by kernel_rfl) (by decide) (by kernel_rfl) (by kernel_rfl) (by kernel_rfl) (fun _ _ _ h => h) HS0.out (by rfl) (fun W hW => by obtain ⟨hW0, v0, v1, v2, v3⟩ := hW; obtain ⟨z0, z1, z2, z3⟩ := four_cells hW0; go_simp) ?_
                simp only [Act.put, List.setIfInBounds_toArray, List.set_cons_zero, List.set_cons_succ]
                refine wpL_take 8 32 (i64 y.1) [11, 12, 33] rfl rfl (by kernel_rfl) (by decide) (by kernel_rfl) (by kernel_rfl) (by kernel_rfl) (fun _ _ _ h => h) HS0.out (by rfl) (fun W hW => by obtain ⟨hW0, v0, v1, v2, v3⟩ := hW; obtain ⟨z0, z1, z2, z3⟩ := four_cells hW0; go_simp) ?_
                simp only [Act.put, List.setIfInBounds_toArray, List.set_cons_zero, List.set_cons_succ]
                refine wpL_take 9 33 (.pointer (some ⟨wr.heap.size, 0, none⟩)) [10, 11, 12, 33] rfl rfl (by kernel_rfl) (by decide) (by kernel_rfl) (by kernel_rfl) (by kernel_rfl) (fun _ _ _ h => h) HS0.out (by rfl) (fun W hW => by obtain ⟨hW0, v0, v1, v2, v3⟩ := hW; obtain ⟨z0, z1, z2, z3⟩ := four_cells hW0; go_simp) ?_
                simp only [Act.put, List.setIfInBounds_toArray, List.set_cons_zero, List.set_cons_succ]
                refine wpL_take 10 34 (i64 s.1) [11, 12, 33] rfl rfl (by kernel_rfl) (by decide) (by kernel_rfl) (by kernel_rfl) (by kernel_rfl) (fun _ _ _ h => h) HS0.out (by rfl) (fun W hW => by obtain ⟨hW0, v0, v1, v2, v3⟩ := hW; obtain ⟨z0, z1, z2, z3⟩ := four_cells hW0; go_simp) ?_
                simp only [Act.put, List.setIfInBounds_toArray, List.set_cons_zero, List.set_cons_succ]
                refine wpL_take 11 35 (.bool false) [12, 33] rfl rfl (by kernel_rfl) (by decide) (by kernel_rfl) (by kernel_rfl) (by kernel_rfl) (fun _ _ _ h => h) HS0.out (by rfl) (fun W hW => by obtain ⟨hW0, v0, v1, v2, v3⟩ := hW; obtain ⟨z0, z1, z2, z3⟩ := four_cells hW0; go_simp) ?_
                simp only [Act.put, List.setIfInBounds_toArray, List.set_cons_zero, List.set_cons_succ]
                refine wpL_take 12 36 (.bool false) [33] rfl rfl (by kernel_rfl) (by decide) (by kernel_rfl) (by kernel_rfl) (by kernel_rfl) (fun _ _ _ h => h) HS0.out (by rfl) (fun W hW => by obtain ⟨hW0, v0, v1, v2, v3⟩ := hW; obtain ⟨z0, z1, z2, z3⟩ := four_cells hW0; go_simp) ?_
                simp only [Act.put, List.setIfInBounds_toArray, List.set_cons_zero, List.set_cons_succ]
                refine wpL_take 13 37 (.slice (some ⟨g, o, none⟩) N cap) [16, 17, 18, 21, 22, 32, 33] rfl rfl (by kernel_rfl) (by decide) (by kernel_rfl) (by kernel_rfl) (by kernel_rfl) (fun _ _ _ h => h) HS0.out (by rfl) (fun W hW => by obtain ⟨hW0, v0, v1, v2, v3⟩ := hW; obtain ⟨z0, z1, z2, z3⟩ := four_cells hW0; go_simp) ?_
                simp only [Act.put, List.setIfInBounds_toArray, List.set_cons_zero, List.set_cons_succ]
                refine wpL_take 14 38 (i64 k) [15, 16, 17, 18, 21, 22, 32, 33] rfl rfl (by kernel_rfl) (by decide) (by kernel_rfl) (by kernel_rfl) (by kernel_rfl) (fun _ _ _ h => h) HS0.out (by rfl) (fun W hW => by obtain ⟨hW0, v0, v1, v2, v3⟩ := hW; obtain ⟨z0, z1, z2, z3⟩ := four_cells hW0; go_simp) ?_
                simp only [Act.put, List.setIfInBounds_toArray, List.set_cons_zero, List.set_cons_succ]
                refine wpL_take 15 39 (i64 j) [16, 17, 18, 21, 22, 32, 33] rfl rfl (by kernel_rfl) (by decide) (by kernel_rfl) (by kernel_rfl) (by kernel_rfl) (fun _ _ _ h => h) HS0.out (by rfl) (fun W hW => by obtain ⟨hW0, v0, v1, v2, v3⟩ := hW; obtain ⟨z0, z1, z2, z3⟩ := four_cells hW0; go_simp) ?_
                simp only [Act.put, List.setIfInBounds_toArray, List.set_cons_zero, List.set_cons_succ]
                refine wpL_take 16 40 (.pointer (some ⟨g, o + j * 4, none⟩)) [17, 18, 21, 22, 32, 33] rfl rfl (by kernel_rfl) (by decide) (by kernel_rfl) (by kernel_rfl) (by kernel_rfl) (fun _ _ _ h => h) HS0.out (by rfl) (fun W hW => by obtain ⟨hW0, v0, v1, v2, v3⟩ := hW; obtain ⟨z0, z1, z2, z3⟩ := four_cells hW0; go_simp) ?_
                simp only [Act.put, List.setIfInBounds_toArray, List.set_cons_zero, List.set_cons_succ]
                refine wpL_take 17 41 (.pointer (some ⟨g, o + j * 4, none⟩)) [18, 21, 22, 32, 33] rfl rfl (by kernel_rfl) (by decide) (by kernel_rfl) (by kernel_rfl) (by kernel_rfl) (fun _ _ _ h => h) HS0.out (by rfl) (fun W hW => by obtain ⟨hW0, v0, v1, v2, v3⟩ := hW; obtain ⟨z0, z1, z2, z3⟩ := four_cells hW0; go_simp) ?_
                simp only [Act.put, List.setIfInBounds_toArray, List.set_cons_zero, List.set_cons_succ]
                refine wpL_take 18 42 (i64 y.1) [21, 22, 32, 33] rfl rfl (by kernel_rfl) (by decide) (by kernel_rfl) (by kernel_rfl) (by kernel_rfl) (fun _ _ _ h => h) HS0.out (by rfl) (fun W hW => by obtain ⟨hW0, v0, v1, v2, v3⟩ := hW; obtain ⟨z0, z1, z2, z3⟩ := four_cells hW0; go_simp) ?_
                simp only [Act.put, List.setIfInBounds_toArray, List.set_cons_zero, List.set_cons_succ]
                refine wpL_take 19 43 (.pointer (some ⟨wr.heap.size, 0, none⟩)) [20, 21, 22, 32, 33] rfl rfl (by kernel_rfl) (by decide) (by kernel_rfl) (by kernel_rfl) (by kernel_rfl) (fun _ _ _ h => h) HS0.out (by rfl) (fun W hW => by obtain ⟨hW0, v0, v1, v2, v3⟩ := hW; obtain ⟨z0, z1, z2, z3⟩ := four_cells hW0; go_simp) ?_
                simp only [Act.put, List.setIfInBounds_toArray, List.set_cons_zero, List.set_cons_succ]
                refine wpL_take 20 44 (i64 s.1) [21, 22, 32, 33] rfl rfl (by kernel_rfl) (by decide) (by kernel_rfl) (by kernel_rfl) (by kernel_rfl) (fun _ _ _ h => h) HS0.out (by rfl) (fun W hW => by obtain ⟨hW0, v0, v1, v2, v3⟩ := hW; obtain ⟨z0, z1, z2, z3⟩ := four_cells hW0; go_simp) ?_
                simp only [Act.put, List.setIfInBounds_toArray, List.set_cons_zero, List.set_cons_succ]
                refine wpL_take 21 45 (.bool false) [22, 32, 33] rfl rfl (by kernel_rfl) (by decide) (by kernel_rfl) (by kernel_rfl) (by kernel_rfl) (fun _ _ _ h => h) HS0.out (by rfl) (fun W hW => by obtain ⟨hW0, v0, v1, v2, v3⟩ := hW; obtain ⟨z0, z1, z2, z3⟩ := four_cells hW0; go_simp) ?_
                simp only [Act.put, List.setIfInBounds_toArray, List.set_cons_zero, List.set_cons_succ]
                refine wpL_take 22 46 (.bool false) [32, 33] rfl rfl (by kernel_rfl) (by decide) (by kernel_rfl) (by kernel_rfl) (by kernel_rfl) (fun _ _ _ h => h) HS0.out (by rfl) (fun W hW => by obtain ⟨hW0, v0, v1, v2, v3⟩ := hW; obtain ⟨z0, z1, z2, z3⟩ := four_cells hW0; go_simp) ?_
                simp only [Act.put, List.setIfInBounds_toArray, List.set_cons_zero, List.set_cons_succ]
                refine wpL_skip 23 47 [26, 27, 28, 31, 32, 33] rfl rfl (by kernel_rfl) (by decide) (by kernel_rfl) (by kernel_rfl) (by kernel_rfl) (fun _ _ _ h => h) HS0.out (by rfl) ?_
                simp only [Act.put, List.setIfInBounds_toArray, List.set_cons_zero, List.set_cons_succ]
                refine wpL_skip 24 48 [25, 26, 27, 28, 31, 32, 33] rfl rfl (by kernel_rfl) (by decide) (by kernel_rfl) (by kernel_rfl) (by kernel_rfl) (fun _ _ _ h => h) HS0.out (by rfl) ?_
                simp only [Act.put, List.setIfInBounds_toArray, List.set_cons_zero, List.set_cons_succ]
                refine wpL_skip 25 49 [26, 27, 28, 31, 32, 33] rfl rfl (by kernel_rfl) (by decide) (by kernel_rfl) (by kernel_rfl) (by kernel_rfl) (fun _ _ _ h => h) HS0.out (by rfl) ?_
                simp only [Act.put, List.setIfInBounds_toArray, List.set_cons_zero, List.set_cons_succ]
                refine wpL_skip 26 50 [27, 28, 31, 32, 33] rfl rfl (by kernel_rfl) (by decide) (by kernel_rfl) (by kernel_rfl) (by kernel_rfl) (fun _ _ _ h => h) HS0.out (by rfl) ?_
                simp only [Act.put, List.setIfInBounds_toArray, List.set_cons_zero, List.set_cons_succ]
                refine wpL_skip 27 51 [28, 31, 32, 33] rfl rfl (by kernel_rfl) (by decide) (by kernel_rfl) (by kernel_rfl) (by kernel_rfl) (fun _ _ _ h => h) HS0.out (by rfl) ?_
                simp only [Act.put, List.setIfInBounds_toArray, List.set_cons_zero, List.set_cons_succ]
                refine wpL_skip 28 52 [31, 32, 33] rfl rfl (by kernel_rfl) (by decide) (by kernel_rfl) (by kernel_rfl) (by kernel_rfl) (fun _ _ _ h => h) HS0.out (by rfl) ?_
                simp only [Act.put, List.setIfInBounds_toArray, List.set_cons_zero, List.set_cons_succ]
                refine wpL_skip 29 53 [30, 31, 32, 33] rfl rfl (by kernel_rfl) (by decide) (by kernel_rfl) (by kernel_rfl) (by kernel_rfl) (fun _ _ _ h => h) HS0.out (by rfl) ?_
                simp only [Act.put, List.setIfInBounds_toArray, List.set_cons_zero, List.set_cons_succ]
                refine wpL_skip 30 54 [31, 32, 33] rfl rfl (by kernel_rfl) (by decide) (by kernel_rfl) (by kernel_rfl) (by kernel_rfl) (fun _ _ _ h => h) HS0.out (by rfl) ?_
                simp only [Act.put, List.setIfInBounds_toArray, List.set_cons_zero, List.set_cons_succ]
                refine wpL_skip 31 55 [32, 33] rfl rfl (by kernel_rfl) (by decide) (by kernel_rfl) (by kernel_rfl) (by kernel_rfl) (fun _ _ _ h => h) HS0.out (by rfl) ?_
                simp only [Act.put, List.setIfInBounds_toArray, List.set_cons_zero, List.set_cons_succ]
                refine wpL_take 32 56 (.bool false) [33] rfl rfl (by kernel_rfl) (by decide) (by kernel_rfl) (by kernel_rfl) (by kernel_rfl) (fun _ _ _ h => h) HS0.out (by rfl) (fun W hW => by obtain ⟨hW0, v0, v1, v2, v3⟩ := hW; obtain ⟨z0, z1, z2, z3⟩ := four_cells hW0; go_simp) ?_
                simp only [Act.put, List.setIfInBounds_toArray, List.set_cons_zero, List.set_cons_succ]
                refine wpL_take 33 57 (.bool false) [] rfl rfl (by kernel_rfl) (by decide) (by kernel_rfl) (by kernel_rfl) (by kernel_rfl) (fun _ _ _ h => h) HS0.out (by rfl) (fun W hW => by obtain ⟨hW0, v0, v1, v2, v3⟩ := hW; obtain ⟨z0, z1, z2, z3⟩ := four_cells hW0; go_simp) ?_
                simp only [Act.put, List.setIfInBounds_toArray, List.set_cons_zero, List.set_cons_succ]
                refine wpL_one 34 rfl (by kernel_rfl) (by rfl) (fun K hK => ?_)
                go_simp
                refine hK.out _ _ (fun h => absurd rfl h) ?_
                clear hK K
                refine wpL_done (by kernel_rfl) ?_
                refine NoPanic.normal ?_
                go_wp2_with fail
                exact ⟨⟨k + 1, by omega, by go_num, HRt0, HPN, HSN, HB0⟩, by simp [intOf]; omega⟩
        · have p3 : (s.2.2.2 != 3) = true := by rw [bne, beq_false_of_ne hp3]; rfl
          have HNO : Hid (¬ Lg X) := fun h => gs_bad HXk.out (fun h => by rcases h.2.1 with h | h; exact hp1 h; exact hp3 h) h.1
          clear hp1 hp3
          go_wp2_with fail
          go_ret
          exact ⟨.inr ⟨HNO.out, rfl⟩, HBV.out⟩
    · have hE : X.take k = X := List.take_of_length_le (by rw [← HN.out]; omega)
      rw [hE] at HPr HSr
      have HL := hid (rlist_ok HRt.out (by rw [← HN.out]; exact hX))
      have hXa : (X.map ar).length ≤ 1000 := by rw [List.length_map, ← HN.out]; exact hX
      have HXa := hid hXa
      clear hE hXa
      by_cases hG : Good (X.map ar)
      · have HG := hid hG
        clear hG
        go_wp2_with fail
        refine HL.out.mono ?_
        rintro e w2 ⟨rfl, hRb, hb2⟩
        have HB2 : Hid (Below w.heap.size w w2) := HB.out.trans (hb2.mono HB.out.size)
        obtain ⟨_, ao3, cap3, hbk3, hown3⟩ := hRb
        have r0 : w2.cell? ⟨wr.heap.size, 0, none⟩ = some (.slice ao3 (X.map ar).length cap3) := blk_cell hbk3 0
        have hrl := blk_lt hbk3
        have HRi := hid (right_b (cap := cap3) (B := true) (.inl ⟨HG.out, rfl⟩) HXa.out (Rd3.own hown3))
        clear hbk3 hown3 hb2 HL
        generalize (X.map ar).length = M at r0 HRi
        go_wp2_with fail
        refine HRi.out.mono ?_
        rintro e w3 ⟨rfl, hb3⟩
        have HB3 : Hid (Below w.heap.size w w3) := HB2.out.trans (hb3.mono HB2.out.size)
        clear hb3 HRi
        go_wp2_with fail
        go_ret
        exact ⟨.inl ⟨⟨⟨HG.out, HPr.out⟩, HSr.out⟩, rfl⟩, HB3.out⟩
      · have HG := hid hG
        clear hG
        go_wp2_with fail
        refine HL.out.mono ?_
        rintro e w2 ⟨rfl, hRb, hb2⟩
        have HB2 : Hid (Below w.heap.size w w2) := HB.out.trans (hb2.mono HB.out.size)
        obtain ⟨_, ao3, cap3, hbk3, hown3⟩ := hRb
        have r0 : w2.cell? ⟨wr.heap.size, 0, none⟩ = some (.slice ao3 (X.map ar).length cap3) := blk_cell hbk3 0
        have hrl := blk_lt hbk3
        have HRi := hid (right_b (cap := cap3) (B := false) (.inr ⟨HG.out, rfl⟩) HXa.out (Rd3.own hown3))
        clear hbk3 hown3 hb2 HL
        generalize (X.map ar).length = M at r0 HRi
        go_wp2_with fail
        refine HRi.out.mono ?_
        rintro e w3 ⟨rfl, hb3⟩
        have HB3 : Hid (Below w.heap.size w w3) := HB2.out.trans (hb3.mono HB2.out.size)
        clear hb3 HRi
        go_wp2_with fail
        go_ret
        exact ⟨.inr ⟨fun h => HG.out h.1.good, rfl⟩, HB3.out⟩
end Go.Proofs.Ytlkcpjefgelcoaa
