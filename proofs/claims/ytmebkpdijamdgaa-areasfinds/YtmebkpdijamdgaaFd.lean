/- AreasFinds; no statement is proved in this text. -/
import Derived.Test.YtmebkpdijamdgaaOn
namespace Go.Proofs.Ytmebkpdijamdgaa
open Go.ChangeShapes Go.WideShapes Go.ChangeAt Go.RowKit Go.Deep
attribute [local go_sem ↓] Go.wp_at_zero Go.wp_at_succ

/-- What the search for a place knows behind k pages. -/
structure Fi (L : List Ar) (p n : Int) (k run : Nat) (bs : Int) : Prop where
  le : run ≤ k
  free : ∀ g : Int, (k : Int) - run ≤ g → g < k → hasL L p g = false
  stop : run < k → hasL L p ((k : Int) - run - 1) = true
  best : (bs = -1 ∧ ∀ s : Nat, (s : Int) + n ≤ k → ∃ g : Int, (s : Int) ≤ g ∧ g < s + n ∧ hasL L p g = true) ∨ (∃ s : Nat, bs = s ∧ (s : Int) + n ≤ k ∧ (∀ g : Int, (s : Int) ≤ g → g < s + n → hasL L p g = false) ∧ ∀ j : Nat, j < s → ∃ g : Int, (j : Int) ≤ g ∧ g < j + n ∧ hasL L p g = true)
theorem Fi.zero (L : List Ar) (p n : Int) (hn : 1 ≤ n) : Fi L p n 0 0 (-1) := ⟨Nat.le_refl _, fun g h1 h2 => by omega, fun h => by omega, .inl ⟨rfl, fun s hs => by omega⟩⟩
theorem Fi.hit {L : List Ar} {p n : Int} {k run : Nat} {bs : Int} (h : Fi L p n k run bs) (hn : 1 ≤ n) (hh : hasL L p k = true) : Fi L p n (k + 1) 0 bs := by
  refine ⟨by omega, fun g h1 h2 => by omega, fun _ => ?_, ?_⟩
  · have : ((k + 1 : Nat) : Int) - ((0 : Nat) : Int) - 1 = k := by omega
    rw [this]
    exact hh
  · rcases h.best with ⟨rfl, hb⟩ | ⟨s, rfl, h1, h2, h3⟩
    · refine .inl ⟨rfl, fun s hs => ?_⟩
      by_cases hk : (s : Int) + n ≤ k
      · exact hb s hk
      · exact ⟨k, by omega, by omega, hh⟩
    · exact .inr ⟨s, rfl, by omega, h2, h3⟩
theorem Fi.goOn {L : List Ar} {p n : Int} {k run : Nat} {bs : Int} (h : Fi L p n k run bs) (hh : hasL L p k = false) (hc : (run : Int) + 1 < n ∨ 0 ≤ bs) : Fi L p n (k + 1) (run + 1) bs := by
  have hle := h.le
  refine ⟨by omega, fun g h1 h2 => ?_, fun hlt => ?_, ?_⟩
  · by_cases hg : g = k
    · rw [hg]; exact hh
    · exact h.free g (by omega) (by omega)
  · have e : ((k + 1 : Nat) : Int) - ((run + 1 : Nat) : Int) - 1 = (k : Int) - run - 1 := by omega
    rw [e]
    exact h.stop (by omega)
  · rcases h.best with ⟨rfl, hb⟩ | ⟨s, rfl, h1, h2, h3⟩
    · refine .inl ⟨rfl, fun s hs => ?_⟩
      by_cases hk : (s : Int) + n ≤ k
      · exact hb s hk
      · have hc' : (run : Int) + 1 < n := by omega
        exact ⟨(k : Int) - run - 1, by omega, by omega, h.stop (by omega)⟩
    · exact .inr ⟨s, rfl, by omega, h2, h3⟩
theorem Fi.found {L : List Ar} {p n : Int} {k run : Nat} {bs : Int} (h : Fi L p n k run bs) (hh : hasL L p k = false) (h1 : n ≤ (run : Int) + 1) (h2 : bs < 0) : Fi L p n (k + 1) (run + 1) ((k : Int) - n + 1) := by
  have hle := h.le
  refine ⟨by omega, fun g h1 h2 => ?_, fun hlt => ?_, ?_⟩
  · by_cases hg : g = k
    · rw [hg]; exact hh
    · exact h.free g (by omega) (by omega)
  · have e : ((k + 1 : Nat) : Int) - ((run + 1 : Nat) : Int) - 1 = (k : Int) - run - 1 := by omega
    rw [e]
    exact h.stop (by omega)
  · rcases h.best with ⟨rfl, hb⟩ | ⟨s, rfl, _⟩
    · refine .inr ⟨((k : Int) - n + 1).toNat, by omega, by omega, fun g g1 g2 => ?_, fun j hj => hb j (by omega)⟩
      by_cases hg : g = k
      · rw [hg]; exact hh
      · exact h.free g (by omega) (by omega)
    · omega
theorem hit_lay {L : List Ar} {p n : Int} {j : Nat} (h : ∃ g : Int, (j : Int) ≤ g ∧ g < j + n ∧ hasL L p g = true) : layB L (p, (j : Int), n) = false := by
  obtain ⟨g, h1, h2, h3⟩ := h
  have := meet_page (L := L) (a := (p, (j : Int), n)) h1 h2 h3
  simp [layB, this]
theorem Fi.no {L : List Ar} {p n : Int} {run : Nat} {bs : Int} (h : Fi L p n 16 run bs) (hb : bs < 0) : MapNo L p n := by
  rcases h.best with ⟨rfl, hb2⟩ | ⟨s, rfl, _⟩
  · exact fun j hj => hit_lay (hb2 j (by omega))
  · omega
theorem full_no {L : List Ar} {p n : Int} (h : 3 < cntL L p) : MapNo L p n := fun j _ => by
  have h1 : ¬ cntL L (p, (j : Int), n).1 < 4 := by show ¬ cntL L p < 4; omega
  simp only [layB, h1, decide_false, Bool.false_and]
theorem Fi.yes {L : List Ar} (hg : Good L) {p n : Int} (hn : 1 ≤ n) {run : Nat} {bs : Int} (h : Fi L p n 16 run bs) (hb : 0 ≤ bs) (hc : cntL L p ≤ 3) : ∃ s : Nat, bs = s ∧ MapAt L p n s := by
  rcases h.best with ⟨rfl, _⟩ | ⟨s, rfl, h1, h2, h3⟩
  · omega
  · refine ⟨s, rfl, by omega, ?_, fun j hj => hit_lay (h3 j hj)⟩
    have h4 : cntL L (p, (s : Int), n).1 < 4 := by show cntL L p < 4; omega
    have h5 := page_meet (L := L) (a := (p, (s : Int), n)) hg.isA hn (fun g g1 g2 => h2 g g1 g2)
    simp only [layB, h4, h5, decide_true, Bool.true_and]
    rfl
set_option maxRecDepth 100000 in
set_option maxHeartbeats 12800000 in
theorem finds_any (w : World) (ao : Option Addr) (len cap : Nat) (p n : Int) (f : Nat → Sp) (hlen : len ≤ maxLen) (hS : SSl w ao len f) : Calls Try.prog 5 #[.slice ao len cap, i64 p, i64 n] w fun e w' => e = .returned (.bool true) ∧ Below w.heap.size w w' := by
  have hm : (len : Int) ≤ 9223372036854775807 := by unfold maxLen at hlen; omega
  have HSb := hid hS
  have HNw := hid (new_ok w)
  obtain ⟨b, hb⟩ : ∃ b, b = w.heap.size := ⟨_, rfl⟩
  have HB := hid hb
  rw [← hb] at HNw ⊢
  clear hS hlen hb
  by_cases h60 : 60 < len
  · have h60' : (60 : Int) < len := by omega
    go_enter Try.func5, Try.ntmps5
    go_wp2_with fail
    refine HNw.out.mono ?_
    rintro e w1 ⟨rfl, ht1, hb1⟩
    have HB1 : Hid (Below b w w1) := hb1
    have hlo1 : b ≤ w1.heap.size := Nat.le_of_lt ht1.lt
    clear ht1 hb1 HNw
    go_wp2_with fail
    refine (three_ok w1).mono ?_
    rintro e w2 ⟨rfl, hb2⟩
    have HB2 : Hid (Below b w w2) := HB1.out.trans (hb2.mono hlo1)
    clear hb2
    go_wp2_with fail
    go_ret
    exact ⟨rfl, HB2.out⟩
  have h60' : ¬ (60 : Int) < len := by omega
  by_cases g1 : p < 1
  · go_enter Try.func5, Try.ntmps5
    go_wp2_with fail
    refine HNw.out.mono ?_
    rintro e w1 ⟨rfl, ht1, hb1⟩
    have HB1 : Hid (Below b w w1) := hb1
    have hlo1 : b ≤ w1.heap.size := Nat.le_of_lt ht1.lt
    clear ht1 hb1 HNw
    go_wp2_with fail
    refine (three_ok w1).mono ?_
    rintro e w2 ⟨rfl, hb2⟩
    have HB2 : Hid (Below b w w2) := HB1.out.trans (hb2.mono hlo1)
    clear hb2
    go_wp2_with fail
    go_ret
    exact ⟨rfl, HB2.out⟩
  by_cases g2 : 6 < p
  · go_enter Try.func5, Try.ntmps5
    go_wp2_with fail
    refine HNw.out.mono ?_
    rintro e w1 ⟨rfl, ht1, hb1⟩
    have HB1 : Hid (Below b w w1) := hb1
    have hlo1 : b ≤ w1.heap.size := Nat.le_of_lt ht1.lt
    clear ht1 hb1 HNw
    go_wp2_with fail
    refine (three_ok w1).mono ?_
    rintro e w2 ⟨rfl, hb2⟩
    have HB2 : Hid (Below b w w2) := HB1.out.trans (hb2.mono hlo1)
    clear hb2
    go_wp2_with fail
    go_ret
    exact ⟨rfl, HB2.out⟩
  by_cases g3 : n < 1
  · go_enter Try.func5, Try.ntmps5
    go_wp2_with fail
    refine HNw.out.mono ?_
    rintro e w1 ⟨rfl, ht1, hb1⟩
    have HB1 : Hid (Below b w w1) := hb1
    have hlo1 : b ≤ w1.heap.size := Nat.le_of_lt ht1.lt
    clear ht1 hb1 HNw
    go_wp2_with fail
    refine (three_ok w1).mono ?_
    rintro e w2 ⟨rfl, hb2⟩
    have HB2 : Hid (Below b w w2) := HB1.out.trans (hb2.mono hlo1)
    clear hb2
    go_wp2_with fail
    go_ret
    exact ⟨rfl, HB2.out⟩
  by_cases g4 : 16 < n
  · go_enter Try.func5, Try.ntmps5
    go_wp2_with fail
    refine HNw.out.mono ?_
    rintro e w1 ⟨rfl, ht1, hb1⟩
    have HB1 : Hid (Below b w w1) := hb1
    have hlo1 : b ≤ w1.heap.size := Nat.le_of_lt ht1.lt
    clear ht1 hb1 HNw
    go_wp2_with fail
    refine (three_ok w1).mono ?_
    rintro e w2 ⟨rfl, hb2⟩
    have HB2 : Hid (Below b w w2) := HB1.out.trans (hb2.mono hlo1)
    clear hb2
    go_wp2_with fail
    go_ret
    exact ⟨rfl, HB2.out⟩
  have p1 : 1 ≤ p := by omega
  have p2 : p ≤ 6 := by omega
  have n1 : 1 ≤ n := by omega
  have n2 : n ≤ 16 := by omega
  go_enter Try.func5, Try.ntmps5
  go_wp2_with fail
  refine HNw.out.mono ?_
  rintro e w1 ⟨rfl, ht1, hb1⟩
  have HT1 := hid ht1
  have HB1 : Hid (Below b w w1) := hb1
  clear ht1 hb1 HNw
  have hz29 := zero29
  go_wp2_with fail
  have hlo1 : b ≤ w1.heap.size := Nat.le_of_lt HT1.out.lt
  have HW3 : Hid (BoX (w1.alloc (.cells #[.slice none 0 0] 29)) b b w1.heap.size) := ⟨[], HT1.out.below (below_one w1 _), rb_new w1 b hlo1, .nil⟩
  have HB3 : Hid (Below b w (w1.alloc (.cells #[.slice none 0 0] 29))) := HB1.out.trans ((below_one w1 _).mono hlo1)
  clear hz29
  obtain ⟨r, hr⟩ : ∃ r, r = w1.heap.size := ⟨_, rfl⟩
  rw [← hr] at HW3 ⊢
  generalize w1.alloc (.cells #[.slice none 0 0] 29) = w3 at *
  clear hr hlo1 HT1 HB1
  go_loopw [52] (fun u wr => ∃ (k : Nat), k ≤ len ∧ u = i64 k ∧ Hid (BoX wr b b r) ∧ Hid (Below b w wr)) (fun u _ => len - (intOf u).toNat)
  case atStart => exact ⟨0, by omega, rfl, HW3, HB3⟩
  case round =>
    obtain ⟨k, hk, rfl, HBo, HBw⟩ := hrel
    by_cases hlt : k < len
    · have hkI : (k : Int) < len := by omega
      obtain ⟨B, off, hao, hb, hr⟩ := (HSb.out.below (by rw [← HB.out]; exact HBw.out)).at hlt
      subst hao
      obtain ⟨x, hx⟩ : ∃ x, x = f k := ⟨_, rfl⟩
      rw [← hx] at hr
      have c0 : wr.cell? ⟨B, off + k * 4, none⟩ = some (i64 x.what) := hr 0 _ rfl
      have c1 : wr.cell? ⟨B, off + k * 4 + 1, none⟩ = some (i64 x.pid) := hr 1 _ rfl
      have c2 : wr.cell? ⟨B, off + k * 4 + 2, none⟩ = some (i64 x.fst) := hr 2 _ rfl
      have c3 : wr.cell? ⟨B, off + k * 4 + 3, none⟩ = some (i64 x.n) := hr 3 _ rfl
      have HBV : Hid (Below b w (wr.alloc (spO x))) := HBw.out.trans ((below_one wr _).mono (HBo.out.lob))
      have HBoV : Hid (BoX (wr.alloc (spO x)) b b r) := HBo.out.below (below_one wr _)
      have HX : Hid ((wr.alloc (spO x)).heap[wr.heap.size]? = some (spO x)) := heap_last wr _
      clear hx hr hb
      have HD := hid (does_ok (wr.alloc (spO x)) b b r x HBoV.out)
      go_wp2_with fail
      refine HD.out.mono ?_
      rintro e w5 ⟨rfl, hbo5, hf5⟩
      have HBo5 := hid hbo5
      have HB5 : Hid (Below b w w5) := HBV.out.trans hf5.below
      clear hbo5 hf5
      go_wp2_with fail
      exact ⟨⟨k + 1, by omega, by go_num, HBo5, HB5⟩, by simp [intOf]; omega⟩
    · clear HW3 HB3
      obtain ⟨L, hbo⟩ := HBo.out
      have HBoL := hid hbo
      have hll : L.length ≤ 1000 := hbo.len
      have hbl : b ≤ wr.heap.size := hbo.lob
      have HG := hid hbo.gd
      clear hbo HBo
      generalize wr = w5 at *
      go_wp2_with fail
      go_loopw [11, 12, 13] (fun ru be pa wr => ∃ (k run : Nat) (bs : Int), k ≤ 16 ∧ run ≤ 16 ∧ -1 ≤ bs ∧ bs ≤ 16 ∧ pa = i64 k ∧ ru = i64 run ∧ be = i64 bs ∧ Hid (Fi L p n k run bs) ∧ Hid (Bo wr b b r L) ∧ Hid (Below b w wr)) (fun _ _ pa _ => 16 - (intOf pa).toNat)
      case atStart => exact ⟨0, 0, -1, by omega, by omega, by omega, by omega, rfl, rfl, rfl, Fi.zero L p n n1, HBoL, HBw⟩
      case round =>
        obtain ⟨k, run, bs, hk, hrun, hb1, hb2, rfl, rfl, rfl, HFi, HBo2, HBw2⟩ := hrel
        have hrk : run ≤ k := HFi.out.le
        by_cases hlt : k < 16
        · have HH := hid (has_ok wr b (pq b) L p k HBo2.out.lb.lv hll HG.out.isA)
          cases hh : hasL L p k
          · rw [hh] at HH
            have HHh := hid hh
            clear hh
            by_cases hc1 : n ≤ (run : Int) + 1
            · by_cases hc2 : bs < 0
              · have HF2 := hid (HFi.out.found HHh.out hc1 hc2)
                go_wp2_with fail
                refine HH.out.mono ?_
                rintro e w6 ⟨rfl, hb6⟩
                have HB6 : Hid (Below b w w6) := HBw2.out.trans (hb6.mono HBo2.out.lob)
                have HBo6 := hid (HBo2.out.below hb6)
                clear hb6 HH
                go_wp2_with fail
                exact ⟨⟨k + 1, run + 1, (k : Int) - n + 1, by omega, by omega, by omega, by omega, by go_num, by go_num, by go_num, HF2, HBo6, HB6⟩, by simp [intOf]; omega⟩
              · have HF2 := hid (HFi.out.goOn HHh.out (.inr (by omega)))
                go_wp2_with fail
                refine HH.out.mono ?_
                rintro e w6 ⟨rfl, hb6⟩
                have HB6 : Hid (Below b w w6) := HBw2.out.trans (hb6.mono HBo2.out.lob)
                have HBo6 := hid (HBo2.out.below hb6)
                clear hb6 HH
                go_wp2_with fail
                exact ⟨⟨k + 1, run + 1, bs, by omega, by omega, by omega, by omega, by go_num, by go_num, rfl, HF2, HBo6, HB6⟩, by simp [intOf]; omega⟩
            · have HF2 := hid (HFi.out.goOn HHh.out (.inl (by omega)))
              go_wp2_with fail
              refine HH.out.mono ?_
              rintro e w6 ⟨rfl, hb6⟩
              have HB6 : Hid (Below b w w6) := HBw2.out.trans (hb6.mono HBo2.out.lob)
              have HBo6 := hid (HBo2.out.below hb6)
              clear hb6 HH
              go_wp2_with fail
              exact ⟨⟨k + 1, run + 1, bs, by omega, by omega, by omega, by omega, by go_num, by go_num, rfl, HF2, HBo6, HB6⟩, by simp [intOf]; omega⟩
          · rw [hh] at HH
            have HF2 := hid (HFi.out.hit n1 hh)
            clear hh
            go_wp2_with fail
            refine HH.out.mono ?_
            rintro e w6 ⟨rfl, hb6⟩
            have HB6 : Hid (Below b w w6) := HBw2.out.trans (hb6.mono HBo2.out.lob)
            have HBo6 := hid (HBo2.out.below hb6)
            clear hb6 HH
            go_wp2_with fail
            exact ⟨⟨k + 1, 0, bs, by omega, by omega, by omega, by omega, by go_num, rfl, rfl, HF2, HBo6, HB6⟩, by simp [intOf]; omega⟩
        · obtain rfl : k = 16 := by omega
          have HA := hid (all_ok wr b (pq b) L HBo2.out.lb.lv hll)
          obtain ⟨N, hN⟩ : ∃ N, N = L.length := ⟨_, rfl⟩
          have HN := hid hN
          clear hN hlt hk HBoL HBw
          go_wp2_with fail
          refine HA.out.mono ?_
          rintro e w6 ⟨⟨ao6, cap6, rfl, ho6⟩, hb6⟩
          have HB6 : Hid (Below b w w6) := HBw2.out.trans (hb6.mono HBo2.out.lob)
          have HBo6 := hid (HBo2.out.below hb6)
          have HR6 := hid (Rd3.own ho6)
          have hcp := own_cap ho6
          rw [← HN.out] at hcp hll ⊢
          have hlo6 := HBo6.out.lob
          clear ho6 hb6 HA
          generalize wr = w55 at *
          go_wp2_with fail
          go_loopw [14, 85] (fun mi ix wr => ∃ (k m : Nat), k ≤ N ∧ m ≤ k ∧ ix = i64 k ∧ mi = i64 m ∧ Hid (m = cntL (L.take k) p) ∧ Hid (Below w6.heap.size w6 wr)) (fun _ ix _ => N - (intOf ix).toNat)
          case atStart => exact ⟨0, 0, by omega, by omega, rfl, rfl, rfl, Below.refl _ _⟩
          case round =>
            obtain ⟨k, m, hk, hm, rfl, rfl, HP, HBr⟩ := hrel
            by_cases hlt : k < N
            · have hkI : (k : Int) < N := by omega
              obtain ⟨e, he⟩ : ∃ e, L[k]? = some e := ⟨_, List.getElem?_eq_getElem (by rw [← HN.out]; exact hlt)⟩
              obtain ⟨g0, o, rfl, hgl, c0, c1, c2⟩ := HR6.out.below HBr.out k e he
              have HBV : Hid (Below w6.heap.size w6 (wr.alloc (arO e 42))) := HBr.out.alloc HBr.out.size _
              have HEe := hid he
              clear he
              by_cases h1 : e.1 = p
              · have q1 : (e.1 == p) = true := beq_iff_eq.2 h1
                have HE : Hid (m + 1 = cntL (L.take (k + 1)) p) := by rw [Hid, cnt_snoc p HEe.out, if_pos h1, HP.out]
                clear h1
                go_wp2_with fail
                exact ⟨⟨k + 1, m + 1, by omega, by omega, by go_num, by go_num, HE, HBV⟩, by simp [intOf]; omega⟩
              · have q1 : (e.1 == p) = false := beq_false_of_ne h1
                have HE : Hid (m = cntL (L.take (k + 1)) p) := by rw [Hid, cnt_snoc p HEe.out, if_neg h1, HP.out]; rfl
                clear h1
                go_wp2_with fail
                exact ⟨⟨k + 1, m, by omega, by omega, by go_num, rfl, HE, HBV⟩, by simp [intOf]; omega⟩
            · have HE : Hid (m = cntL L p) := by
                have h1 := HP.out
                rw [List.take_of_length_le (by rw [← HN.out]; omega)] at h1
                exact h1
              have HB7 : Hid (Below b w wr) := HB6.out.trans (HBr.out.mono hlo6)
              have HBo7 := hid (HBo6.out.below HBr.out)
              have hbl7 := HBo7.out.lob
              clear HP HBr HB6 HBo6
              by_cases hc : bs < 0 ∨ 3 < m
              · have HMn : Hid (MapNo L p n) := by
                  rcases hc with h | h
                  · exact HFi.out.no h
                  · exact full_no (by rw [← HE.out]; exact h)
                have HMp := hid (map_no wr b b L p n ⟨⟨p1, p2⟩, n1, n2⟩ HBo7.out.lb HG.out HMn.out)
                by_cases hc1 : bs < 0
                · clear hc
                  go_wp2_with fail
                  refine HMp.out.mono ?_
                  rintro e w8 ⟨rfl, hb8⟩
                  have HB8 : Hid (Below b w w8) := HB7.out.trans (hb8.mono hbl7)
                  have hbl8 : b ≤ w8.heap.size := Nat.le_trans hbl7 hb8.size
                  clear hb8 HMp
                  go_wp2_with fail
                  refine (three_ok w8).mono ?_
                  rintro e w20 ⟨rfl, hbz⟩
                  have HBz : Hid (Below b w w20) := HB8.out.trans (hbz.mono hbl8)
                  clear hbz
                  go_wp2_with fail
                  go_ret
                  exact ⟨rfl, HBz.out⟩
                · have hc2 : 3 < m := by omega
                  clear hc
                  go_wp2_with fail
                  refine HMp.out.mono ?_
                  rintro e w8 ⟨rfl, hb8⟩
                  have HB8 : Hid (Below b w w8) := HB7.out.trans (hb8.mono hbl7)
                  have hbl8 : b ≤ w8.heap.size := Nat.le_trans hbl7 hb8.size
                  clear hb8 HMp
                  go_wp2_with fail
                  refine (three_ok w8).mono ?_
                  rintro e w20 ⟨rfl, hbz⟩
                  have HBz : Hid (Below b w w20) := HB8.out.trans (hbz.mono hbl8)
                  clear hbz
                  go_wp2_with fail
                  go_ret
                  exact ⟨rfl, HBz.out⟩
              · have hc1 : ¬ bs < 0 := by omega
                have hc2 : ¬ 3 < m := by omega
                obtain ⟨s, hs, hat⟩ := HFi.out.yes HG.out n1 (by omega) (show cntL L p ≤ 3 by rw [← HE.out]; omega)
                have HMp := hid (map_at wr b b L p n s ⟨⟨p1, p2⟩, n1, n2⟩ HBo7.out.lb HG.out hat)
                rw [← hs] at HMp
                clear hc hat hs
                go_wp2_with fail
                refine HMp.out.mono ?_
                rintro e w8 ⟨rfl, hl8, hf8⟩
                have HB8 : Hid (Below b w w8) := HB7.out.trans hf8.below
                have hbl8 : b ≤ w8.heap.size := hl8.lob
                clear hl8 hf8 HMp
                go_wp2_with fail
                refine (three_ok w8).mono ?_
                rintro e w20 ⟨rfl, hbz⟩
                have HBz : Hid (Below b w w20) := HB8.out.trans (hbz.mono hbl8)
                clear hbz
                go_wp2_with fail
                go_ret
                exact ⟨rfl, HBz.out⟩
end Go.Proofs.Ytmebkpdijamdgaa
