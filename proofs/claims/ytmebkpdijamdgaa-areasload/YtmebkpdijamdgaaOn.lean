/- AreasOne; no statement is proved in this text. -/
import Derived.Test.YtmebkpdijamdgaaDo
namespace Go.Proofs.Ytmebkpdijamdgaa
open Go.ChangeShapes Go.WideShapes Go.ChangeAt Go.RowKit Go.Deep
attribute [local go_sem ↓] Go.wp_at_zero Go.wp_at_succ

theorem BoX.below {w w' : World} {b P r : Nat} (h : BoX w b P r) (hb : Below w.heap.size w w') : BoX w' b P r := by
  obtain ⟨L, h⟩ := h
  exact ⟨L, h.below hb⟩
theorem BoX.lob {w : World} {b P r : Nat} (h : BoX w b P r) : b ≤ w.heap.size := by
  obtain ⟨L, h⟩ := h
  exact h.lob
set_option maxRecDepth 100000 in
set_option maxHeartbeats 3200000 in
theorem one_any (w : World) (ao : Option Addr) (len cap : Nat) (f : Nat → Sp) (hlen : len ≤ maxLen) (hS : SSl w ao len f) : Calls Try.prog 4 #[.slice ao len cap] w fun e w' => e = .returned (.bool true) ∧ Below w.heap.size w w' := by
  have hm : (len : Int) ≤ 9223372036854775807 := by unfold maxLen at hlen; omega
  have HSb := hid hS
  have HNw := hid (new_ok w)
  obtain ⟨b, hb⟩ : ∃ b, b = w.heap.size := ⟨_, rfl⟩
  have HB := hid hb
  rw [← hb] at HNw ⊢
  clear hS hlen hb
  by_cases h60 : 60 < len
  · have h60' : (60 : Int) < len := by omega
    go_enter Try.func4, Try.ntmps4
    go_wp2_with fail
    refine HNw.out.mono ?_
    rintro e w1 ⟨rfl, ht1, hb1⟩
    have HB1 : Hid (Below b w w1) := hb1
    have hlo1 : b ≤ w1.heap.size := Nat.le_of_lt ht1.lt
    clear ht1 hb1 HNw
    go_wp2_with fail
    refine (three_ok w1).mono ?_
    rintro e w2 ⟨rfl, hb2⟩
    have HB2 : Hid (Below b w w2) := HB1.out.trans (hb2.mono hlo1)
    clear hb2
    go_wp2_with fail
    go_ret
    exact ⟨rfl, HB2.out⟩
  have h60' : ¬ (60 : Int) < len := by omega
  go_enter Try.func4, Try.ntmps4
  go_wp2_with fail
  refine HNw.out.mono ?_
  rintro e w1 ⟨rfl, ht1, hb1⟩
  have HT1 := hid ht1
  have HB1 : Hid (Below b w w1) := hb1
  clear ht1 hb1 HNw
  have hz29 := zero29
  go_wp2_with fail
  have hlo1 : b ≤ w1.heap.size := Nat.le_of_lt HT1.out.lt
  have HW3 : Hid (BoX (w1.alloc (.cells #[.slice none 0 0] 29)) b b w1.heap.size) := ⟨[], HT1.out.below (below_one w1 _), rb_new w1 b hlo1, .nil⟩
  have HB3 : Hid (Below b w (w1.alloc (.cells #[.slice none 0 0] 29))) := HB1.out.trans ((below_one w1 _).mono hlo1)
  clear hz29
  obtain ⟨r, hr⟩ : ∃ r, r = w1.heap.size := ⟨_, rfl⟩
  rw [← hr] at HW3 ⊢
  generalize w1.alloc (.cells #[.slice none 0 0] 29) = w3 at *
  clear hr hlo1 HT1 HB1
  go_loopw [24] (fun u wr => ∃ (k : Nat), k ≤ len ∧ u = i64 k ∧ Hid (BoX wr b b r) ∧ Hid (Below b w wr)) (fun u _ => len - (intOf u).toNat)
  case atStart => exact ⟨0, by omega, rfl, HW3, HB3⟩
  case round =>
    obtain ⟨k, hk, rfl, HBo, HBw⟩ := hrel
    by_cases hlt : k < len
    · have hkI : (k : Int) < len := by omega
      obtain ⟨B, off, hao, hb, hr⟩ := (HSb.out.below (by rw [← HB.out]; exact HBw.out)).at hlt
      subst hao
      obtain ⟨x, hx⟩ : ∃ x, x = f k := ⟨_, rfl⟩
      rw [← hx] at hr
      have c0 : wr.cell? ⟨B, off + k * 4, none⟩ = some (i64 x.what) := hr 0 _ rfl
      have c1 : wr.cell? ⟨B, off + k * 4 + 1, none⟩ = some (i64 x.pid) := hr 1 _ rfl
      have c2 : wr.cell? ⟨B, off + k * 4 + 2, none⟩ = some (i64 x.fst) := hr 2 _ rfl
      have c3 : wr.cell? ⟨B, off + k * 4 + 3, none⟩ = some (i64 x.n) := hr 3 _ rfl
      have HBV : Hid (Below b w (wr.alloc (spO x))) := HBw.out.trans ((below_one wr _).mono (HBo.out.lob))
      have HBoV : Hid (BoX (wr.alloc (spO x)) b b r) := HBo.out.below (below_one wr _)
      have HX : Hid ((wr.alloc (spO x)).heap[wr.heap.size]? = some (spO x)) := heap_last wr _
      clear hx hr hb
      have HD := hid (does_ok (wr.alloc (spO x)) b b r x HBoV.out)
      go_wp2_with fail
      refine HD.out.mono ?_
      rintro e w5 ⟨rfl, hbo5, hf5⟩
      have HB5 : Hid (Below b w w5) := HBV.out.trans hf5.below
      obtain ⟨L, hbo⟩ := hbo5
      have HBo5 := hid hbo
      have HA := hid (all_ok w5 b (pq b) L hbo.lb.lv hbo.len)
      have hll : L.length ≤ 1000 := hbo.len
      clear hbo hf5 HD
      go_wp2_with fail
      refine HA.out.mono ?_
      rintro e w6 ⟨⟨ao6, cap6, rfl, ho6⟩, hb6⟩
      have HB6 : Hid (Below b w w6) := HB5.out.trans (hb6.mono HBo5.out.lob)
      have HBo6 := hid (HBo5.out.below hb6)
      have HRf := hid (refs_ok w6 ao6 cap6 L hll (Rd3.own ho6))
      obtain ⟨N, hN⟩ : ∃ N, N = L.length := ⟨_, rfl⟩
      have HN := hid hN
      rw [← hN] at HRf ⊢
      clear ho6 hb6 HA hN
      go_wp2_with fail
      refine HRf.out.mono ?_
      rintro e w7 ⟨⟨ao7, cap7, rfl, ho7⟩, hb7⟩
      have HB7 : Hid (Below b w w7) := HB6.out.trans (hb7.mono HBo6.out.lob)
      have HBo7 := hid (HBo6.out.below hb7)
      have HRg := hid (right_ok w7 ao7 cap7 L hll (Rd3.own ho7))
      rw [← HN.out] at HRg ⊢
      clear ho7 hb7 HRf
      go_wp2_with fail
      refine HRg.out.mono ?_
      rintro e w8 ⟨hR, hb8⟩
      have HB8 : Hid (Below b w w8) := HB7.out.trans (hb8.mono HBo7.out.lob)
      have HBo8 : Hid (BoX w8 b b r) := ⟨L, HBo7.out.below hb8⟩
      rcases hR with ⟨_, rfl⟩ | ⟨hng, _⟩
      · clear hb8 HRg
        go_wp2_with fail
        exact ⟨⟨k + 1, by omega, by go_num, HBo8, HB8⟩, by simp [intOf]; omega⟩
      · exact absurd HBo7.out.gd hng
    · clear HW3 HB3
      go_wp2_with fail
      refine (three_ok wr).mono ?_
      rintro e w9 ⟨rfl, hbz⟩
      have HBz : Hid (Below b w w9) := HBw.out.trans (hbz.mono HBo.out.lob)
      clear hbz
      go_wp2_with fail
      go_ret
      exact ⟨rfl, HBz.out⟩
end Go.Proofs.Ytmebkpdijamdgaa
