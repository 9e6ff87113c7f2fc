/- Packed: Ro; no statement is proved in this text. -/
import Derived.Test.YtnknhencobhjdaaMDok
import Derived.Test.YtnknhencobhjdaaMSta
import Derived.Test.YtnknhencobhjdaaMFm
import Derived.Test.YtnknhencobhjdaaMOw
namespace Go.Proofs.Ytnknhencobhjdaa
open Go.ChangeShapes Go.WideShapes Go.ChangeAt Go.RowKit Go.Deep
open Go.Proofs.Ytnknhencobhjdaa.Cp (pq hid below_one hO)
attribute [local go_sem ↓] Go.wp_at_zero Go.wp_at_succ

theorem g_lin (a b : Qt.T) (k : Int) : (Qt.add a b).g k = a.g k + b.g k := by
  unfold Qt.T.g Qt.add
  by_cases e1 : k = 1
  · simp only [if_pos e1]
  · simp only [if_neg e1]
    by_cases e2 : k = 2
    · simp only [if_pos e2]
    · simp only [if_neg e2]
theorem take_cnt (l : List Hn) (n : Nat) : (l.take (n + 1)).countP nzB = (l.take n).countP nzB + (match l[n]? with | some v => if nzB v = true then 1 else 0 | none => 0) := by
  rw [List.take_add_one, List.countP_append]
  cases l[n]? with
  | none => rfl
  | some v => by_cases h : nzB v = true <;> simp [h]
section
variable {t : Qt.T} {s : Qt.St} {T : List Cp.Pl} {L : Ls} {R : Nat → List Hn} {C : List Cp.Rw} {Rs : List Rt} {P : List Int}
theorem Inv.spare (h : Inv t s T L R C Rs P) {k : Nat} (hk : k < 3) : (Qt.freeT t s).g ((k : Int) + 1) = t.g ((k : Int) + 1) - ((R k).countP nzB : Nat) := by
  have h1 := h.sum (k := (k : Int) + 1) (by omega) (by omega)
  rw [h.cnt_all hk] at h1
  unfold Qt.freeT
  rw [Qt.lessT_sum, Qt.sum_h, sub_g, g_lin, g_lin]
  omega
theorem look_live (h : Cp.Rel T C) {i : Nat} {q : Cp.Rw} (hq : C[i]? = some q) (hl : q.lv = true) : Cp.lookF T q.c.env q.sl q.gn = some q.c := by
  rcases h.look q.c.env q.sl q.gn with ⟨_, h2⟩ | ⟨j, u, sl, h1, h2, h3, _⟩
  · exfalso
    have hat := h.atLive hq hl
    unfold Cp.fdI at h2
    rw [hat, if_neg (by omega), Int.toNat_natCast, hq] at h2
    simp at h2
  · have hat := h.atLive hq hl
    unfold Cp.fdI at h2
    rw [hat, if_neg (by omega), Int.toNat_natCast, hq] at h2
    simp at h2
    have : i = j := by omega
    subst this
    rw [hq] at h3
    cases h3
    exact h1
/-- Each resource is free, or its root is there. -/
theorem Inv.each (h : Inv t s T L R C Rs P) {k : Nat} (hk : k < 3) (n : Nat) : (rootV R ((k : Int) + 1) (n : Nat) = (0, 0) ∧ ((bil L (0, 0)).getD (0, 0)).1 = 0 ∧ ((R k).take (n + 1)).countP nzB = ((R k).take n).countP nzB) ∨ ∃ q : Cp.Rw, ∃ p : Int, rootV R ((k : Int) + 1) (n : Nat) = (q.sl, q.gn) ∧ bil L (q.sl, q.gn) = some (q.c.env, p) ∧ ¬ q.c.env = 0 ∧ Cp.lookF T q.c.env q.sl q.gn = some q.c ∧ q.c.kind = (k : Int) + 1 ∧ q.c.num = (n : Int) ∧ ¬ q.c.rts = 2 ∧ (n : Int) < t.g ((k : Int) + 1) ∧ ((R k).take (n + 1)).countP nzB = ((R k).take n).countP nzB + 1 := by
  have hrv : rootV R ((k : Int) + 1) (n : Nat) = ((R k)[n]?).getD (0, 0) := by
    unfold rootV rwK
    rw [if_pos (by omega), if_pos (by omega), Int.toNat_natCast, show ((k : Int) + 1 - 1).toNat = k by omega]
  have hb0 : ((bil L (0, 0)).getD (0, 0)).1 = 0 := by rw [h.bl, bil_zero h.cr]; rfl
  rw [hrv, take_cnt]
  cases hv : (R k)[n]? with
  | none => exact Or.inl ⟨rfl, hb0, by simp⟩
  | some v =>
    by_cases hz : v = (0, 0)
    · subst hz
      exact Or.inl ⟨rfl, hb0, by simp [nzB]⟩
    · right
      obtain ⟨r, hr, e1, e2⟩ := h.rz k n v hk hv hz
      obtain ⟨k', n', i, q, hk', h1, h2, h3, h4, h5, h6, h7, h8⟩ := h.rr r hr
      have ek : k' = k := by omega
      have en : n' = n := by omega
      subst ek en
      rw [hv] at h8
      have hve := Option.some.inj h8
      obtain ⟨p, _, hb⟩ := bil_live h.cr h.pl h4 h5
      have hrt := h.cr.rt i q h4 h5
      refine ⟨q, p, by rw [← hve]; rfl, by rw [h.bl]; exact hb, ?_, look_live h.cr h4 h5, by rw [h6]; exact e1, by rw [h6]; exact e2, by rw [h6]; simp, ?_, by simp [nzB, hz]⟩
      · unfold Cp.rightB at hrt
        simp at hrt
        omega
      · rw [← h.rl k' hk]
        have := (List.getElem?_eq_some_iff.1 hv).1
        omega
end
structure SqO (p b X k : Nat) (tk : Int) (W : World) : Prop where
  p0 : W.cell? ⟨p, 0, none⟩ = some (pq b)
  x : W.cell? ⟨X, k, none⟩ = some (i64 tk)
theorem SqO.below {p b X k : Nat} {tk : Int} {W W' : World} (h : SqO p b X k tk W) (hb : Below W.heap.size W W') : SqO p b X k tk W' :=
  ⟨by rw [World.cell?_of_block (w := W) (hb.block _ (World.block_lt_of_cell? W _ h.p0))]; exact h.p0, by rw [World.cell?_of_block (w := W) (hb.block _ (World.block_lt_of_cell? W _ h.x))]; exact h.x⟩
theorem SqO.drew {p b X k : Nat} {tk : Int} {W : World} (h : SqO p b X k tk W) : SqO p b X k tk W.drew := ⟨h.p0, h.x⟩
theorem wrap_any {n : Int} (h0 : -9223372036854775808 ≤ n) (h1 : n < 9223372036854775808) : IntKind.i64.wrap n = n := by
  by_cases h : 0 ≤ n
  · exact wrapI h h1
  · have hb : (2 ^ IntKind.i64.bits : Int) = 18446744073709551616 := by decide
    have hb1 : (2 ^ (IntKind.i64.bits - 1) : Int) = 9223372036854775808 := by decide
    unfold IntKind.wrap
    simp only [hb, hb1]
    have : n % 18446744073709551616 = n + 18446744073709551616 := by omega
    rw [this]
    rw [if_pos (by simp [IntKind.signed]; omega)]
    omega
theorem left_k (a b c : Int) (k : Nat) (h3 : k < 3) (W : World) : (Instr.index 22 (.agg #[i64 a, i64 b, i64 c]) (i64 (k : Nat))).run Try.prog W = .ok (i64 ((⟨a, b, c⟩ : Qt.T).g ((k : Int) + 1))) W := by
  have := left_ix a b c ((k : Int) + 1) (by omega) (by omega) W
  rwa [show (k : Int) + 1 - 1 = (k : Int) by omega] at this
set_option maxRecDepth 100000 in
set_option maxHeartbeats 1600000 in
theorem roots_out (w : World) (t : Qt.T) (ao : Option Addr) (len cap : Nat) (hlen : len ≤ maxLen) (h : rgB t = false ∨ rgB t = true ∧ 60 < len) : Calls Try.prog 4 #[t.v, .slice ao len cap] w fun e w' => e = .returned (.bool true) ∧ Below w.heap.size w w' := by
  unfold maxLen at hlen
  have hlI : (len : Int) ≤ 9223372036854775807 := by omega
  obtain ⟨V, hV⟩ : ∃ V, V = w.alloc (.cells #[i64 t.a, i64 t.b, i64 t.c] 22) := ⟨_, rfl⟩
  have HV : Hid (w.alloc (.cells #[i64 t.a, i64 t.b, i64 t.c] 22) = V) := hV.symm
  have HBV : Hid (Below w.heap.size w V) := by rw [hV]; exact below_one w _
  have hx : V.heap[w.heap.size]? = some (.cells #[i64 t.a, i64 t.b, i64 t.c] 22) := by rw [hV]; exact heap_last w _
  have x0 : V.cell? ⟨w.heap.size, 0, none⟩ = some (i64 t.a) := blk_cell hx 0
  have x1 : V.cell? ⟨w.heap.size, 1, none⟩ = some (i64 t.b) := blk_cell hx 1
  have x2 : V.cell? ⟨w.heap.size, 2, none⟩ = some (i64 t.c) := blk_cell hx 2
  have hA := right_ok V t
  unfold Qt.T.v at hA
  clear hV hx
  rcases h with h | ⟨h, hl⟩
  all_goals
    rw [h] at hA
    have HA := hid hA
    clear hA
    unfold Qt.T.v
    go_enter Try.func4, Try.ntmps4
    go_upto_region 1 with fail
    rw [HV.out]
    go_wp2_with fail
    refine HA.out.mono ?_
    rintro e w1 ⟨rfl, hb1⟩
    have HB1 : Hid (Below w.heap.size w w1) := HBV.out.trans (hb1.mono HBV.out.size)
    clear hb1 x0 x1 x2
  · go_wp2_with fail
    refine (frame_ok w1).mono ?_
    rintro e w2 ⟨rfl, hb2⟩
    have HB2 : Hid (Below w.heap.size w w2) := HB1.out.trans (hb2.mono HB1.out.size)
    clear hb2
    go_wp2_with fail
    go_ret
    exact ⟨rfl, HB2.out⟩
  · have hl60 : (60 : Int) < len := by omega
    go_wp2_with fail
    refine (frame_ok w1).mono ?_
    rintro e w2 ⟨rfl, hb2⟩
    have HB2 : Hid (Below w.heap.size w w2) := HB1.out.trans (hb2.mono HB1.out.size)
    clear hb2
    go_wp2_with fail
    go_ret
    exact ⟨rfl, HB2.out⟩
set_option maxRecDepth 100000 in
set_option maxHeartbeats 12800000 in
theorem roots_in (w : World) (t : Qt.T) (ao : Option Addr) (len cap : Nat) (f : Nat → Sb) (ht : rgB t = true) (hl : len ≤ 60) (hS : SSl w ao len f) (hR : ∀ i, i < len → (f i).rng) : Calls Try.prog 4 #[t.v, .slice ao len cap] w fun e w' => e = .returned (.bool true) ∧ Below w.heap.size w w' := by
  have HSl := hid hS
  have HRg := hid hR
  have hlI : (len : Int) ≤ 60 := by omega
  obtain ⟨V, hV⟩ : ∃ V, V = w.alloc (.cells #[i64 t.a, i64 t.b, i64 t.c] 22) := ⟨_, rfl⟩
  have HV : Hid (w.alloc (.cells #[i64 t.a, i64 t.b, i64 t.c] 22) = V) := hV.symm
  have HBV : Hid (Below w.heap.size w V) := by rw [hV]; exact below_one w _
  have HX : Hid (V.heap[w.heap.size]? = some (.cells #[i64 t.a, i64 t.b, i64 t.c] 22)) := by rw [hV]; exact hid (heap_last w _)
  have hA := right_ok V t
  rw [ht] at hA
  unfold Qt.T.v at hA
  have HA := hid hA
  have HT := hid ht
  have x0 : V.cell? ⟨w.heap.size, 0, none⟩ = some (i64 t.a) := blk_cell HX.out 0
  have x1 : V.cell? ⟨w.heap.size, 1, none⟩ = some (i64 t.b) := blk_cell HX.out 1
  have x2 : V.cell? ⟨w.heap.size, 2, none⟩ = some (i64 t.c) := blk_cell HX.out 2
  clear hS hR hV hA ht
  unfold Qt.T.v
  go_enter Try.func4, Try.ntmps4
  go_upto_region 1 with fail
  rw [HV.out]
  go_wp2_with fail
  refine HA.out.mono ?_
  rintro e w1 ⟨rfl, hb1⟩
  have HB1 : Hid (Below w.heap.size w w1) := HBV.out.trans (hb1.mono HBV.out.size)
  have HX1 := hid (blk_below HX.out hb1)
  have hst := start_ok w1 t HT.out
  unfold Qt.T.v at hst
  have HSt := hid hst
  clear hb1 x0 x1 x2 hst HA HX HBV HV
  have x0 : w1.cell? ⟨w.heap.size, 0, none⟩ = some (i64 t.a) := blk_cell HX1.out 0
  have x1 : w1.cell? ⟨w.heap.size, 1, none⟩ = some (i64 t.b) := blk_cell HX1.out 1
  have x2 : w1.cell? ⟨w.heap.size, 2, none⟩ = some (i64 t.c) := blk_cell HX1.out 2
  go_wp2_with fail
  refine HSt.out.mono ?_
  rintro e w2 ⟨p, base, z, s, T, L, R, rfl, hbase, hpp, hb2⟩
  have hbase' : w.heap.size ≤ base := Nat.le_trans HB1.out.size hbase
  have HB2 : Hid (Below w.heap.size w w2) := HB1.out.trans (hb2.mono HB1.out.size)
  have HX2 := hid (blk_below HX1.out hb2)
  have HA2 : Hid (At w2 base p t 0) := ⟨z, s, T, L, R, [], [], [], [], [], hpp, by simp, by simp⟩
  clear hb2 hpp HSt z s T L R x0 x1 x2 HX1 HB1 hbase
  go_wp2_with fail
  go_loopw [29] (fun u wr => ∃ (k : Nat), k ≤ len ∧ u = i64 k ∧ Hid (Below w.heap.size w wr) ∧ Hid (At wr base p t k) ∧ Hid (wr.heap[w.heap.size]? = some (.cells #[i64 t.a, i64 t.b, i64 t.c] 22))) (fun u _ => len - (intOf u).toNat)
  case atStart => exact ⟨0, by omega, rfl, HB2, HA2, HX2⟩
  case round =>
    obtain ⟨kk, hkk, rfl, HB, HA, HXr⟩ := hrel
    by_cases hlt : kk < len
    · obtain ⟨B, off, rfl, hBl, hce⟩ := (HSl.out.below (Nat.le_refl _) HB.out).at hlt
      have HCe := hid hce
      obtain ⟨hs1, hs2, hs3⟩ := st33 wr (f kk)
      have hz := zero33 wr
      have HTH := hid hs3
      have HX4 : Hid (((wr.alloc z33).setCells wr.heap.size 0 (f kk).c).heap[wr.heap.size]? = some (sbO (f kk))) := hs1
      have HB4 : Hid (Below w.heap.size w ((wr.alloc z33).setCells wr.heap.size 0 (f kk).c)) := HB.out.trans (hs2.mono HB.out.size)
      have HA4 : Hid (At ((wr.alloc z33).setCells wr.heap.size 0 (f kk).c) base p t kk) := HA.out.below hs2
      have HXu : Hid (((wr.alloc z33).setCells wr.heap.size 0 (f kk).c).heap[w.heap.size]? = some (.cells #[i64 t.a, i64 t.b, i64 t.c] 22)) := blk_below HXr.out hs2
      have HD := hid (fun W (hW : At W base p t kk) => does_ok hW (by omega) (f kk) (HRg.out kk hlt))
      have hkI : (kk : Int) < len := by omega
      clear hce hs1 hs2 hs3 HA HB HXr
      unfold z33 at *
      go_upto_region 9 with (first | (refine wpList_load_mid rfl 33 (.tmp 31) rfl B (off + kk * 10) rfl (f kk).c _ (by exact HCe.out) Try.underlying33 rfl info33 ?_) | (refine wpList_store_mid rfl 33 (.tmp 7) (.tmp 32) rfl wr.heap.size 0 (f kk).c.toArray rfl rfl (by exact HTH.out) (by kernel_rfl) (sb_one _) ?_))
      generalize (wr.alloc (.cells #[i64 0, i64 0, i64 0, i64 0, i64 0, i64 0, .bool false, i64 0, i64 0, i64 0] 33)).setCells wr.heap.size 0 (f kk).c = U4 at *
      generalize wr.heap.size = q7 at *
      go_wp2_with (refine wpList_load_mid rfl 33 (.tmp 7) rfl q7 0 rfl (f kk).c _ (by exact sbO_range HX4.out) Try.underlying33 rfl info33 ?_)
      refine (HD.out U4 HA4.out).mono ?_
      rintro e w4 ⟨rfl, hA5, hf5⟩
      have HA5 := hid hA5
      have HB5 : Hid (Below w.heap.size w w4) := HB4.out.trans (hf5.below.mono hbase')
      have HX5 : Hid (w4.heap[w.heap.size]? = some (.cells #[i64 t.a, i64 t.b, i64 t.c] 22)) := hf5.kept _ _ _ (Or.inr rfl) HXu.out
      obtain ⟨z, s, T, L, R, C, Rs, P, H, E, hpp, hC, hH⟩ := hA5
      have HPp := hid hpp
      have HRk : Hid (∀ k, k < 3 → w4.cell? ⟨w.heap.size, k, none⟩ = some (i64 (t.g ((k : Int) + 1)))) := fun k hk => by
        obtain rfl | rfl | rfl : k = 0 ∨ k = 1 ∨ k = 2 := by omega
        · exact blk_cell HX5.out 0
        · exact blk_cell HX5.out 1
        · exact blk_cell HX5.out 2
      have HP0 : Hid (w4.cell? ⟨p, 0, none⟩ = some (pq z.b)) := by
        obtain ⟨cH, cE, hP, _⟩ := hpp.pk.blk
        exact blk_cell hP 0
      have HtL : Hid (∀ k : Nat, k < 3 → t.g ((k : Int) + 1) ≤ 64 ∧ 0 ≤ t.g ((k : Int) + 1)) := fun k hk => by
        have hh := hpp.iv.rl k hk
        have := hpp.bd.len k hk
        omega
      clear hf5 hpp HB4 HA4 HXu HX4 HD
      go_upto_region 10 with fail
      go_wp2_with fail
      go_loopw [8] (fun u wq => ∃ k : Nat, k ≤ 3 ∧ u = i64 ((k : Int) + 1) ∧ Hid (Below w4.heap.size w4 wq)) (fun u _ => 4 - (intOf u).toNat)
      case atStart => exact ⟨0, by omega, by simp, Below.refl _ _⟩
      case round =>
        obtain ⟨k, hk3, rfl, HBq⟩ := hrel
        by_cases hk : k < 3
        · have hkI3 : (k : Int) < 3 := by omega
          obtain ⟨tk, htk⟩ : ∃ tk, tk = t.g ((k : Int) + 1) := ⟨_, rfl⟩
          obtain ⟨hk64, hk0⟩ := HtL.out k hk
          rw [← htk] at hk64 hk0
          have HTk := hid htk
          have HS4 : Hid (SqO p z.b w.heap.size k tk w4) := ⟨HP0.out, by rw [htk]; exact HRk.out k hk⟩
          have HEa := hid (fun n => HPp.out.iv.each hk n)
          have HSp0 := hid (HPp.out.iv.spare hk)
          have hd4 : decide ((k : Int) + 1 < 4) = true := decide_eq_true (by omega)
          clear htk
          go_wp2_with fail
          try simp only [hd4]
          go_loopw [9, 10] (fun v u wq => ∃ n : Nat, n ≤ 64 ∧ u = i64 (n : Nat) ∧ v = i64 ((((R k).take n).countP nzB : Nat) : Int) ∧ Hid (Below w4.heap.size w4 wq)) (fun _ u _ => 64 - (intOf u).toNat)
          case atStart => exact ⟨0, by omega, rfl, by simp, HBq⟩
          case round =>
            obtain ⟨n, hn, rfl, rfl, HBn⟩ := hrel
            have hbd64 : ((R k).take n).countP nzB ≤ 64 := Nat.le_trans List.countP_le_length (by rw [List.length_take]; omega)
            by_cases hn64 : n < 64
            · have hnI : (n : Int) < 64 := by omega
              have p0 : wr.cell? ⟨p, 0, none⟩ = some (pq z.b) := (HS4.out.below HBn.out).p0
              obtain ⟨⟨r0, r1⟩, hrv⟩ : ∃ v, rootV R ((k : Int) + 1) (n : Nat) = v := ⟨_, rfl⟩
              have HRt : Hid (∀ W, Below w4.heap.size w4 W → Calls Try.prog 15 #[pq z.b, i64 ((k : Int) + 1), i64 (n : Nat)] W fun e w' => e = .returned (.agg #[i64 r0, i64 r1]) ∧ Below W.heap.size W w') := fun W hW => root_any (HPp.out.bd.below hW) _ _ r0 r1 hrv
              have HOw : Hid (∀ W, Below w4.heap.size w4 W → Calls Try.prog 14 #[pq z.b, i64 ((k : Int) + 1), i64 (n : Nat)] W fun e w' => e = .returned (i64 ((bil L (r0, r1)).getD (0, 0)).1) ∧ Below W.heap.size W w') := fun W hW => owner_ok (HPp.out.bd.below hW) _ _ r0 r1 (fun V hV => HRt.out V (hW.trans (hV.mono hW.size)))
              rcases HEa.out n with ⟨e1, e2, e3⟩ | ⟨q, pp, e1, e2, e3, e4, e5, e6, e7, e8, e9⟩
              · rw [hrv] at e1
                have hr0 := congrArg Prod.fst e1
                have hr1 := congrArg Prod.snd e1
                simp only at hr0 hr1
                subst hr0 hr1
                rw [e2] at HOw
                have HE3 := hid e3
                clear e1 e2 e3 hrv
                generalize ((R k).take n).countP nzB = bd at *
                go_wp2_with fail
                refine (HOw.out wr HBn.out).mono ?_
                rintro e w6 ⟨rfl, hb6⟩
                have HB6 : Hid (Below w4.heap.size w4 w6) := HBn.out.trans (hb6.mono HBn.out.size)
                have p06 : w6.cell? ⟨p, 0, none⟩ = some (pq z.b) := (HS4.out.below HB6.out).p0
                clear hb6 p0
                go_wp2_with fail
                refine (HRt.out w6 HB6.out).mono ?_
                rintro e w7 ⟨rfl, hb7⟩
                have HB7 : Hid (Below w4.heap.size w4 w7) := HB6.out.trans (hb7.mono HB6.out.size)
                have hq := neq43 0 0 0 0 w7
                simp only [decide_true, Bool.not_true] at hq
                clear hb7 p06
                go_wp2_with fail
                exact ⟨⟨n + 1, by omega, by go_num, by rw [HE3.out], HB7⟩, by simp [intOf]; omega⟩
              · rw [hrv] at e1
                have hr0 := congrArg Prod.fst e1
                have hr1 := congrArg Prod.snd e1
                simp only at hr0 hr1
                subst hr0 hr1
                rw [e2] at HOw
                simp only [Option.getD_some] at HOw
                obtain ⟨nv, ne, hnp, _, _, hval⟩ := both_number (base := base) (b := z.b) (d := z.d) (x := z.x) (y := z.y) HPp.out.iv (by omega) q.c.env q.sl q.gn ((k : Int) + 1)
                obtain ⟨rfl, rfl⟩ := hval q.c e4 e5 e7
                rw [e6] at hnp
                have HNo : Hid (∀ W, Below w4.heap.size w4 W → Calls Try.prog 16 #[pq z.b, i64 q.c.env, .agg #[i64 q.sl, i64 q.gn], i64 ((k : Int) + 1)] W fun e w' => e = .returned (.tuple #[i64 (n : Nat), i64 0]) ∧ Below W.heap.size W w') := fun W hW => hnp W (HPp.out.bd.below hW)
                have HE9 := hid e9
                have hntk : (n : Int) < tk := by rw [HTk.out]; exact e8
                have how : (q.c.env == 0) = false := by simpa using e3
                clear e1 e2 e3 e4 e5 e6 e7 e8 e9 hrv hnp hval
                obtain ⟨ow, how2⟩ : ∃ ow, ow = q.c.env := ⟨_, rfl⟩
                obtain ⟨r0, hr0⟩ : ∃ r0, r0 = q.sl := ⟨_, rfl⟩
                obtain ⟨r1, hr1⟩ : ∃ r1, r1 = q.gn := ⟨_, rfl⟩
                rw [← how2] at HOw HNo how
                rw [← hr0, ← hr1] at HRt HNo
                clear how2 hr0 hr1
                generalize ((R k).take n).countP nzB = bd at *
                go_wp2_with fail
                refine (HOw.out wr HBn.out).mono ?_
                rintro e w6 ⟨rfl, hb6⟩
                have HB6 : Hid (Below w4.heap.size w4 w6) := HBn.out.trans (hb6.mono HBn.out.size)
                obtain ⟨X, hXe⟩ : ∃ X, X = w.heap.size := ⟨_, rfl⟩
                have HS6 : Hid (SqO p z.b X k tk w6) := by rw [hXe]; exact hid (HS4.out.below HB6.out)
                have HXE := hid hXe
                clear hb6 p0 hXe
                go_upto_region 22 with fail
                have HS : Hid (SqO p z.b X k tk w6.drew) := HS6.out.drew
                refine wp_region_noPanic ?_
                refine wp_region_last (SqO p z.b X k tk) 18 (by kernel_rfl) ?_
                refine wpL_tk 0 65 (.pointer (some ⟨p, 0, none⟩)) rfl HS.out (fun W hW => by go_simp) ?_
                refine wpL_tk 1 66 (.pointer (some ⟨p, 0, none⟩)) rfl HS.out (fun W hW => by go_simp) ?_
                refine wpL_tk 2 67 (.pointer (some ⟨p, 0, none⟩)) rfl HS.out (fun W hW => by go_simp) ?_
                refine wpL_tk 3 68 (.pointer (some ⟨z.b, 0, none⟩)) rfl HS.out (fun W hW => by have p0 := hW.p0; go_simp) ?_
                refine wpL_tk 4 69 (i64 ow) rfl HS.out (fun W hW => by go_simp) ?_
                refine wpL_tk 5 70 (.pointer (some ⟨p, 0, none⟩)) rfl HS.out (fun W hW => by go_simp) ?_
                refine wpL_tk 6 71 (.pointer (some ⟨p, 0, none⟩)) rfl HS.out (fun W hW => by go_simp) ?_
                refine wpL_tk 7 72 (.pointer (some ⟨p, 0, none⟩)) rfl HS.out (fun W hW => by go_simp) ?_
                refine wpL_tk 8 73 (.pointer (some ⟨z.b, 0, none⟩)) rfl HS.out (fun W hW => by have p0 := hW.p0; go_simp) ?_
                refine wpL_tk 9 74 (i64 ((k : Int) + 1)) rfl HS.out (fun W hW => by go_simp) ?_
                refine wpL_tk 10 75 (i64 (n : Nat)) rfl HS.out (fun W hW => by go_simp) ?_
                refine wpL_tk 12 77 (i64 ((k : Int) + 1)) rfl HS.out (fun W hW => by go_simp) ?_
                simp only [Act.put, List.setIfInBounds_toArray, List.set_cons_zero, List.set_cons_succ]
                refine wpL_on 11 rfl (fun K hK => ?_)
                go_simp
                refine (HRt.out w6.drew HB6.out.drew).mono ?_
                rintro e w7 ⟨rfl, hb7⟩
                have HS7 : Hid (SqO p z.b X k tk w7) := HS.out.below hb7
                have HB7 : Hid (Below w4.heap.size w4 w7) := HB6.out.drew.trans (hb7.mono HB6.out.size)
                clear hb7
                go_simp
                refine hK.out _ _ (fun _ => HS7.out) ?_
                clear hK K
                refine wpL_on 13 rfl (fun K hK => ?_)
                go_simp
                refine (HNo.out w7 HB7.out).mono ?_
                rintro e w8 ⟨rfl, hb8⟩
                have HS8 : Hid (SqO p z.b X k tk w8) := HS7.out.below hb8
                have HB8 : Hid (Below w4.heap.size w4 w8) := HB7.out.trans (hb8.mono HB7.out.size)
                clear hb8
                go_simp
                refine hK.out _ _ (fun _ => HS8.out) ?_
                clear hK K
                refine wpL_tk 14 64 (.tuple #[i64 (n : Nat), i64 0]) rfl HS8.out (fun W hW => by go_simp) ?_
                refine wpL_tk 15 79 (i64 (n : Nat)) rfl HS8.out (fun W hW => by go_simp) ?_
                refine wpL_tk 16 80 (i64 0) rfl HS8.out (fun W hW => by go_simp) ?_
                simp only [Act.put, List.setIfInBounds_toArray, List.set_cons_zero, List.set_cons_succ]
                refine wpL_on 17 rfl (fun K hK => ?_)
                go_simp
                refine hK.out _ _ (fun _ => HS8.out) ?_
                clear hK K
                refine wpL_on 18 rfl (fun K hK => ?_)
                go_simp
                refine hK.out _ _ (fun h => absurd rfl h) ?_
                clear hK K
                refine wpL_done (by kernel_rfl) ?_
                refine NoPanic.normal ?_
                have xk : w8.cell? ⟨w.heap.size, k, none⟩ = some (i64 tk) := by rw [← HXE.out]; exact HS8.out.x
                have hneq : ((n : Int) != (n : Int)) = false := by simp
                have hdn : decide (tk ≤ (n : Int)) = false := decide_eq_false (by omega)
                clear HS HS7 HS8 HB6 HB7 HS6
                go_wp2_with fail
                exact ⟨⟨n + 1, by omega, by go_num, by rw [HE9.out]; go_num, HB8⟩, by simp [intOf]; omega⟩
            · obtain rfl : n = 64 := by omega
              have htake : (R k).take 64 = R k := List.take_of_length_le (HPp.out.bd.len k hk)
              rw [htake] at hbd64 ⊢
              obtain ⟨⟨fa, fb, fc⟩, hfr⟩ : ∃ v, Qt.freeT t s = v := ⟨_, rfl⟩
              have hsp := HSp0.out
              rw [hfr, ← HTk.out] at hsp
              have HIx : Hid (∀ W : World, (Instr.index 22 (.agg #[i64 fa, i64 fb, i64 fc]) (i64 (k : Nat))).run Try.prog W = .ok (i64 (tk - (((R k).countP nzB : Nat) : Int))) W) := fun W => by rw [left_k fa fb fc k hk W, hsp]
              have HSp : Hid (∀ W, Below w4.heap.size w4 W → Calls Try.prog 17 #[pq z.b] W fun e w' => e = .returned (.agg #[i64 fa, i64 fb, i64 fc]) ∧ Below W.heap.size W w') := fun W hW => by
                have := spare_ok (HPp.out.bd.below hW)
                rw [hfr] at this
                exact this
              generalize (R k).countP nzB = bd at *
              obtain ⟨fk, hfk⟩ : ∃ fk, fk = tk - ((bd : Nat) : Int) := ⟨_, rfl⟩
              rw [← hfk] at HIx
              have HWk : Hid (IntKind.i64.wrap (k : Int) = (k : Int)) := hid (wrapI (by omega) (by omega))
              have HWf : Hid (IntKind.i64.wrap (tk - (bd : Int)) = fk) := by
                rw [hfk]
                exact hid (wrap_any (by omega) (by omega))
              obtain ⟨X, hXe⟩ : ∃ X, X = w.heap.size := ⟨_, rfl⟩
              have HSr : Hid (SqO p z.b X k tk wr) := by rw [hXe]; exact hid (HS4.out.below HBn.out)
              have HXE := hid hXe
              have HBr := HBn
              clear hsp hfr hfk htake hXe
              go_upto_region 25 with fail
              rw [← HXE.out]
              have HS : Hid (SqO p z.b X k tk wr.drew) := HSr.out.drew
              refine wp_region_noPanic ?_
              refine wp_region_last (SqO p z.b X k tk) 14 (by kernel_rfl) ?_
              refine wpL_tkp 0 96 (.pointer (some ⟨p, 0, none⟩)) [1, 2, 3, 4, 7] rfl HS.out (fun W hW => by go_simp) ?_
              refine wpL_tkp 1 97 (.pointer (some ⟨p, 0, none⟩)) [2, 3, 4, 7] rfl HS.out (fun W hW => by go_simp) ?_
              refine wpL_tkp 2 98 (.pointer (some ⟨p, 0, none⟩)) [3, 4, 7] rfl HS.out (fun W hW => by go_simp) ?_
              refine wpL_tkp 3 99 (.pointer (some ⟨z.b, 0, none⟩)) [4, 7] rfl HS.out (fun W hW => by have p0 := hW.p0; go_simp) ?_
              refine wpL_tkp 5 101 (i64 ((k : Int) + 1)) [6, 7] rfl HS.out (fun W hW => by go_simp) ?_
              refine wpL_tkp 6 102 (i64 (k : Nat)) [7] rfl HS.out (fun W hW => by go_simp; exact HWk.out) ?_
              refine wpL_tkp 8 104 (i64 ((k : Int) + 1)) [9, 10, 11, 13] rfl HS.out (fun W hW => by go_simp) ?_
              refine wpL_tkp 9 105 (i64 (k : Nat)) [10, 11, 13] rfl HS.out (fun W hW => by go_simp; exact HWk.out) ?_
              refine wpL_tkp 10 106 (.pointer (some ⟨X, k, none⟩)) [11, 13] rfl HS.out (fun W hW => by go_simp) ?_
              refine wpL_tkp 11 107 (i64 tk) [13] rfl HS.out (fun W hW => by have xk := hW.x; go_simp) ?_
              refine wpL_tkp 12 108 (i64 (bd : Nat)) [13] rfl HS.out (fun W hW => by go_simp) ?_
              refine wpL_tk 13 109 (i64 fk) rfl HS.out (fun W hW => by go_simp; exact HWf.out) ?_
              simp only [Act.put, List.setIfInBounds_toArray, List.set_cons_zero, List.set_cons_succ]
              refine wpL_on 4 rfl (fun K hK => ?_)
              go_simp
              refine (HSp.out wr.drew HBr.out.drew).mono ?_
              rintro e w9 ⟨rfl, hb9⟩
              have HS9 : Hid (SqO p z.b X k tk w9) := HS.out.below hb9
              have HB9 : Hid (Below w4.heap.size w4 w9) := HBr.out.drew.trans (hb9.mono HBr.out.size)
              clear hb9
              go_simp
              refine hK.out _ _ (fun _ => HS9.out) ?_
              clear hK K
              refine wpL_tk 7 103 (i64 fk) rfl HS9.out (fun W hW => by have q := HIx.out W; go_simp) ?_
              simp only [Act.put, List.setIfInBounds_toArray, List.set_cons_zero, List.set_cons_succ]
              refine wpL_on 14 rfl (fun K hK => ?_)
              go_simp
              try simp only [bne_self_eq_false]
              refine hK.out _ _ (fun h => absurd rfl h) ?_
              clear hK K
              refine wpL_done (by kernel_rfl) ?_
              refine NoPanic.normal ?_
              rw [HXE.out]
              clear HS HS9 HSr HBr HBn
              go_wp2_with fail
              exact ⟨⟨k + 1, by omega, by go_num, HB9⟩, by simp [intOf]; omega⟩
        · obtain rfl : k = 3 := by omega
          have HB9 : Hid (Below w.heap.size w wr) := HB5.out.trans (HBq.out.mono HB5.out.size)
          have HA9 := hid (HA5.out.below HBq.out)
          have HX9 := hid (blk_below HX5.out HBq.out)
          go_wp2_with fail
          exact ⟨⟨kk + 1, by omega, by go_num, HB9, HA9, HX9⟩, by simp [intOf]; omega⟩
    · obtain rfl : kk = len := by omega
      go_wp2_with fail
      refine (frame_ok wr).mono ?_
      rintro e w7 ⟨rfl, hb7⟩
      have HB7 : Hid (Below w.heap.size w w7) := HB.out.trans (hb7.mono HB.out.size)
      clear hb7
      go_wp2_with fail
      go_ret
      exact ⟨rfl, HB7.out⟩
set_option maxRecDepth 100000 in
theorem open_arr {H : Type} {enc : TypeId × Value → H} {W : World} {r : Reach} {b0 : Nat} {spare : Nat → Bool} {held : Bool} {v : Value} {dd : DataW H} {ps : List MemPlace} (hv : Value.okWide Try.prog W r b0 22 v)
    (h : DataW.Trod enc Try.prog W 0 spare held 22 v dd ps) : ∃ t : Qt.T, v = t.v := by
  have hcs : ∃ cs, v = .agg cs := by
    simp only [Value.okWide, Try.underlying22] at hv
    obtain ⟨cs, h1, _⟩ := hv
    exact ⟨cs, h1⟩
  obtain ⟨⟨l⟩, rfl⟩ := hcs
  obtain ⟨fuel, hf⟩ := h
  obtain ⟨t, ht, hr⟩ := arr_read hf
  have ht' : l = [i64 t.a, i64 t.b, i64 t.c] := ht
  subst ht'
  exact ⟨t, rfl⟩
theorem roots_any (w : World) (t : Qt.T) (ao : Option Addr) (len cap : Nat) (f : Nat → Sb) (hlen : len ≤ maxLen) (hS : SSl w ao len f) (hR : ∀ i, i < len → (f i).rng) : Calls Try.prog 4 #[t.v, .slice ao len cap] w fun e w' => e = .returned (.bool true) ∧ Below w.heap.size w w' := by
  cases ht : rgB t with
  | false => exact roots_out w t ao len cap hlen (Or.inl ht)
  | true =>
    by_cases h : 60 < len
    · exact roots_out w t ao len cap hlen (Or.inr ⟨ht, h⟩)
    · exact roots_in w t ao len cap f ht (by omega) hS hR
end Go.Proofs.Ytnknhencobhjdaa
