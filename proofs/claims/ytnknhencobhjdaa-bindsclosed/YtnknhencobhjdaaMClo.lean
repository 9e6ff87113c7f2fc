/- Packed: Clo; no statement is proved in this text. -/
import Derived.Test.YtnknhencobhjdaaMDok
import Derived.Test.YtnknhencobhjdaaMSta
import Derived.Test.YtnknhencobhjdaaMFm
namespace Go.Proofs.Ytnknhencobhjdaa
open Go.ChangeShapes Go.WideShapes Go.ChangeAt Go.RowKit Go.Deep
open Go.Proofs.Ytnknhencobhjdaa.Cp (pq hid below_one hO)
attribute [local go_sem ↓] Go.wp_at_zero Go.wp_at_succ

section
variable {t : Qt.T} {s : Qt.St} {T : List Cp.Pl} {L : Ls} {R : Nat → List Hn} {C : List Cp.Rw} {Rs : List Rt} {P : List Int}
/-- An environment that is not open has nothing. -/
theorem Inv.shut (h : Inv t s T L R C Rs P) {env : Int} (hx : Qt.at_ s env = none) (sl gn : Int) : Cp.lookF T env sl gn = none := by
  rcases h.cr.look env sl gn with ⟨h1, _⟩ | ⟨i, q, sn, _, _, h3, h4, _, _, _, _, h9⟩
  · exact h1
  · obtain ⟨x, hx'⟩ := h.oc i q h3 h4
    rw [h9, hx] at hx'
    cases hx'
theorem Inv.bare (h : Inv t s T L R C Rs P) {env : Int} (hx : Qt.at_ s env = none) (l : List Hn) : ∀ n, ftN (lsB L l env) n = []
  | 0 => rfl
  | n + 1 => by
    have hf : lsB L l env n = false := by
      unfold lsB
      cases l[n]? with
      | none => rfl
      | some v =>
        simp only
        cases hb : bil L v with
        | none => rfl
        | some e =>
          rw [h.bl] at hb
          obtain ⟨i, q, p, h1, _, h3, _, h5⟩ := bil_of hb
          obtain ⟨x, hx'⟩ := h.oc i q h1 h3
          have hne : ¬ e.1 = env := fun e' => by
            rw [h5] at e'
            simp only at e'
            rw [e', hx] at hx'
            cases hx'
          simp [hne]
    rw [ftN_succ, Inv.bare h hx l n, hf]
    rfl
theorem close_any {base b : Nat} {x : Bx} (h : Inv t s T L R C Rs P) (env : Int) : ∃ X s' T' L' R' C' Rs', Inv t s' T' L' R' C' Rs' P ∧ Qt.at_ s' env = none ∧ (X = 0 ∧ opB s env = true ∨ X = 6 ∧ opB s env = false) ∧ (∀ W, Bd W base b x t s T L R → Calls Try.prog 22 #[pq b, i64 env] W fun e w' => e = .returned (i64 X) ∧ Bd w' base b x t s' T' L' R' ∧ Bf base x W w') := by
  cases hx : Qt.at_ s env with
  | none =>
    refine ⟨6, s, T, L, R, C, Rs, h, hx, Or.inr ⟨rfl, by unfold opB; rw [hx]; rfl⟩, fun W hW => ?_⟩
    have := close_no hW env 6 (by rw [hx]; rfl) (by decide)
    rw [cl_no hx] at this
    exact this
  | some pg =>
    obtain ⟨hr1, hr2⟩ := h.cr.dropEnv env
    obtain ⟨h1, h2, h3⟩ := h.close hx hr1
    refine ⟨0, _, _, _, _, _, _, h3, by rw [at_cl hx, if_pos rfl], Or.inl ⟨rfl, by unfold opB; rw [hx]; rfl⟩, fun W hW => ?_⟩
    exact close_ok hW env _ (by rw [hx]; rfl) (fun V hV => Cp.dropEnv_ok hV env (Cp.rkR C) h.cr.rk (C.length + 2) (Cp.rkR_le C))
end
structure SqN (X p b : Nat) (a0 a1 : Int) (W : World) : Prop where
  x : W.heap[X]? = some (hO a0 a1)
  p0 : W.cell? ⟨p, 0, none⟩ = some (pq b)
theorem SqN.below {X p b : Nat} {a0 a1 : Int} {W W' : World} (h : SqN X p b a0 a1 W) (hb : Below W.heap.size W W') : SqN X p b a0 a1 W' :=
  ⟨blk_below h.x hb, by rw [World.cell?_of_block (w := W) (hb.block _ (World.block_lt_of_cell? W _ h.p0))]; exact h.p0⟩
set_option maxRecDepth 100000 in
set_option maxHeartbeats 1600000 in
theorem closed_out (w : World) (ao : Option Addr) (len cap : Nat) (env : Int) (hlen : len ≤ maxLen) (h : 60 < len ∨ env < 1 ∨ 3 < env) : Calls Try.prog 6 #[.slice ao len cap, i64 env] w fun e w' => e = .returned (.bool true) ∧ Below w.heap.size w w' := by
  unfold maxLen at hlen
  have HSt := hid (start_ok w ⟨12, 12, 12⟩ (by decide))
  have hlI : (len : Int) ≤ 9223372036854775807 := by omega
  have cs : (decide ((60 : Int) < (len : Int)) = true) ∨ (decide ((60 : Int) < (len : Int)) = false ∧ decide (env < 1) = true) ∨ (decide ((60 : Int) < (len : Int)) = false ∧ decide (env < 1) = false ∧ decide ((3 : Int) < env) = true) := by
    by_cases h1 : 60 < len
    · exact Or.inl (decide_eq_true (by omega))
    · have d1 : decide ((60 : Int) < (len : Int)) = false := decide_eq_false (by omega)
      by_cases h2 : env < 1
      · exact Or.inr (Or.inl ⟨d1, decide_eq_true h2⟩)
      · exact Or.inr (Or.inr ⟨d1, decide_eq_false h2, decide_eq_true (by omega)⟩)
  clear h
  rcases cs with d1 | ⟨d1, d2⟩ | ⟨d1, d2, d3⟩
  all_goals
    go_enter Try.func6, Try.ntmps6
    go_wp2_with fail
    refine HSt.out.mono ?_
    rintro e w1 ⟨p, base, z, s, T, L, R, rfl, hbase, hpp, hb1⟩
    have HB1 := hid hb1
    clear hb1 hpp hbase
    go_wp2_with fail
    refine (frame_ok w1).mono ?_
    rintro e w2 ⟨rfl, hb2⟩
    have HB2 : Hid (Below w.heap.size w w2) := HB1.out.trans (hb2.mono HB1.out.size)
    clear hb2
    go_wp2_with fail
    go_ret
    exact ⟨by simp, HB2.out⟩
set_option maxRecDepth 100000 in
set_option maxHeartbeats 12800000 in
theorem closed_in (w : World) (ao : Option Addr) (len cap : Nat) (f : Nat → Sb) (env : Int) (hl : len ≤ 60) (h1 : 1 ≤ env) (h3 : env ≤ 3) (hS : SSl w ao len f) (hR : ∀ i, i < len → (f i).rng) : Calls Try.prog 6 #[.slice ao len cap, i64 env] w fun e w' => e = .returned (.bool true) ∧ Below w.heap.size w w' := by
  have HSl := hid hS
  have HRg := hid hR
  have hlI : (len : Int) ≤ 60 := by omega
  have HSt := hid (start_ok w ⟨12, 12, 12⟩ (by decide))
  clear hS hR
  go_enter Try.func6, Try.ntmps6
  go_wp2_with fail
  refine HSt.out.mono ?_
  rintro e w1 ⟨p, base, z, s, T, L, R, rfl, hbase, hpp, hb1⟩
  have HB1 := hid hb1
  have HA1 : Hid (At w1 base p ⟨12, 12, 12⟩ 0) := ⟨z, s, T, L, R, [], [], [], [], [], hpp, by simp, by simp⟩
  clear hb1 hpp HSt z s T L R
  have hd1 : decide (env < 1) = false := decide_eq_false (by omega)
  have hd3 : decide ((3 : Int) < env) = false := decide_eq_false (by omega)
  go_wp2_with fail
  go_loopw [39] (fun u wr => ∃ (k : Nat), k ≤ len ∧ u = i64 k ∧ Hid (Below w.heap.size w wr) ∧ Hid (At wr base p ⟨12, 12, 12⟩ k)) (fun u _ => len - (intOf u).toNat)
  case atStart => exact ⟨0, by omega, rfl, HB1, HA1⟩
  case round =>
    obtain ⟨k, hk, rfl, HB, HA⟩ := hrel
    by_cases hlt : k < len
    · obtain ⟨B, off, rfl, hBl, hce⟩ := (HSl.out.below (Nat.le_refl _) HB.out).at hlt
      have HCe := hid hce
      obtain ⟨hs1, hs2, hs3⟩ := st33 wr (f k)
      have hz := zero33 wr
      have HTH := hid hs3
      have HX4 : Hid (((wr.alloc z33).setCells wr.heap.size 0 (f k).c).heap[wr.heap.size]? = some (sbO (f k))) := hs1
      have HB4 : Hid (Below w.heap.size w ((wr.alloc z33).setCells wr.heap.size 0 (f k).c)) := HB.out.trans (hs2.mono HB.out.size)
      have HA4 : Hid (At ((wr.alloc z33).setCells wr.heap.size 0 (f k).c) base p ⟨12, 12, 12⟩ k) := HA.out.below hs2
      have HD := hid (fun W (hW : At W base p ⟨12, 12, 12⟩ k) => does_ok hW (by omega) (f k) (HRg.out k hlt))
      have hkI : (k : Int) < len := by omega
      clear hce hs1 hs2 hs3 HA HB
      unfold z33 at *
      go_upto_region 7 with (first | (refine wpList_load_mid rfl 33 (.tmp 41) rfl B (off + k * 10) rfl (f k).c _ (by exact HCe.out) Try.underlying33 rfl info33 ?_) | (refine wpList_store_mid rfl 33 (.tmp 7) (.tmp 42) rfl wr.heap.size 0 (f k).c.toArray rfl rfl (by exact HTH.out) (by kernel_rfl) (sb_one _) ?_))
      generalize (wr.alloc (.cells #[i64 0, i64 0, i64 0, i64 0, i64 0, i64 0, .bool false, i64 0, i64 0, i64 0] 33)).setCells wr.heap.size 0 (f k).c = U4 at *
      generalize wr.heap.size = q7 at *
      go_wp2_with (refine wpList_load_mid rfl 33 (.tmp 7) rfl q7 0 rfl (f k).c _ (by exact sbO_range HX4.out) Try.underlying33 rfl info33 ?_)
      refine (HD.out U4 HA4.out).mono ?_
      rintro e w5 ⟨rfl, hA5, hf5⟩
      have HA5 := hid hA5
      have HB5 : Hid (Below w.heap.size w w5) := HB4.out.trans (hf5.below.mono hbase)
      clear hA5 hf5
      go_wp2_with fail
      exact ⟨⟨k + 1, by omega, by go_num, HB5, HA5⟩, by simp [intOf]; omega⟩
    · obtain rfl : k = len := by omega
      obtain ⟨z, s, T, L, R, C, Rs, P, H, E, hpp, hC, hH⟩ := HA.out
      obtain ⟨X, s', T', L', R', C', Rs', hiv, hat, hX, hcl⟩ := close_any (base := base) (b := z.b) (x := z.x) hpp.iv env
      have HIV := hid hiv
      have HAT := hid hat
      have HOp := hid (ropn_ok hpp.dd env)
      have HCl := hid hcl
      have HPp := hid hpp
      obtain ⟨cH, cE, hP, _⟩ := hpp.pk.blk
      have HPB := hid hP
      have p0 : wr.cell? ⟨p, 0, none⟩ = some (pq z.b) := blk_cell hP 0
      have p1 : wr.cell? ⟨p, 1, none⟩ = some (pq z.d) := blk_cell hP 1
      clear hiv hat hcl hpp hP HA HSl HRg
      go_upto_region 9 with fail
      go_wp2_with fail
      refine HOp.out.mono ?_
      rintro e w3 ⟨rfl, hb3⟩
      have HP3 := hid (HPp.out.below hb3)
      have HB3 : Hid (Below w.heap.size w w3) := HB.out.trans (hb3.mono HB.out.size)
      have p03 : w3.cell? ⟨p, 0, none⟩ = some (pq z.b) := blk_cell (blk_below HPB.out hb3) 0
      clear hb3 p0 p1 HPp HB HPB HOp
      go_wp2_with fail
      refine (HCl.out w3 HP3.out.bd).mono ?_
      rintro e w4 ⟨rfl, hd4, hf4⟩
      have HPk4 := hid (HP3.out.pk.bf HP3.out.bd HP3.out.ah hf4)
      have HBd4 := hid hd4
      have HB4 : Hid (Below w.heap.size w w4) := HB3.out.trans (hf4.below.mono hbase)
      have hHk : H.length ≤ 60 := by omega
      clear hd4 hf4 HP3 HB3 p03 HCl
      generalize opB s env = ob at *
      obtain ⟨zb, hzb⟩ : ∃ zb, zb = z.b := ⟨_, rfl⟩
      obtain ⟨cH, cE, hP4, hH4, _⟩ := HPk4.out.blk
      have HPB4 : Hid (w4.heap[p]? = some (.cells #[pq zb, pq z.d, .slice (sla z.hb) H.length cH, .slice (sla z.eb) E.length cE] 40)) := by rw [hzb]; exact hP4
      have HBd4 : Hid (Bd w4 base zb z.x ⟨12, 12, 12⟩ s' T' L' R') := by rw [hzb]; exact HBd4
      have HROW := hid (own_row hH4)
      have hcap := own_cap hH4
      have HZB := hid hzb
      obtain ⟨N, hN⟩ : ∃ N, N = H.length := ⟨_, rfl⟩
      have HN := hid hN
      rw [← hN] at HPB4 hcap hHk
      have hNI : (N : Int) ≤ 60 := by omega
      have hcI : (N : Int) ≤ cH := by omega
      clear hP4 hH4 hN HPk4 hH hC hzb
      rcases hX with ⟨rfl, rfl⟩ | ⟨rfl, rfl⟩
      all_goals
        go_upto_region 13 with fail
        go_wp2_with fail
        go_loopw [10] (fun u wq => ∃ kd : Nat, 1 ≤ kd ∧ kd ≤ 4 ∧ u = i64 (kd : Nat) ∧ Hid (Below w4.heap.size w4 wq)) (fun u _ => 4 - (intOf u).toNat)
        case atStart => exact ⟨1, by omega, by omega, rfl, Below.refl _ _⟩
        case round =>
          obtain ⟨kd, hk1, hk4, rfl, HBq⟩ := hrel
          by_cases hkd : kd < 4
          · have hkI : (kd : Int) < 4 := by omega
            have HLi := hid (list_ok (HBd4.out.below HBq.out) env (kd : Nat))
            have hbare := HIV.out.bare HAT.out (rwK R' (kd : Nat)) (rwK R' (kd : Nat)).length
            have HBA := hid hbare
            have p0 : wr.cell? ⟨p, 0, none⟩ = some (pq zb) := blk_cell (blk_below HPB4.out HBq.out) 0
            clear hbare
            go_wp2_with fail
            refine HLi.out.mono ?_
            rintro e w5 ⟨v, rfl, ho5, hb5⟩
            rw [HBA.out] at ho5
            obtain ⟨aov, capv, rfl, _⟩ := own_slice ho5
            have HB5 : Hid (Below w4.heap.size w4 w5) := HBq.out.trans (hb5.mono HBq.out.size)
            have p2 : w5.cell? ⟨p, 2, none⟩ = some (.slice (sla z.hb) N cH) := blk_cell (blk_below HPB4.out HB5.out) 2
            clear ho5 hb5 p0 HLi HBq HBA
            obtain ⟨ah, hah⟩ : ∃ ah, ah = sla z.hb := ⟨_, rfl⟩
            have HAH := hid hah
            rw [← hah] at p2
            clear hah
            simp only [List.length_nil]
            go_wp2_with fail
            go_loopw [81] (fun u wq => ∃ j : Nat, j ≤ N ∧ u = i64 (j : Nat) ∧ Hid (Below w4.heap.size w4 wq)) (fun u _ => N - (intOf u).toNat)
            case atStart => exact ⟨0, by omega, rfl, HB5⟩
            case round =>
              obtain ⟨j, hj, rfl, HBj⟩ := hrel
              by_cases hlj : j < N
              · obtain ⟨g, A, hg, _, hgg, hgc⟩ := HROW.out j (by have := HN.out; omega)
                obtain ⟨⟨a0, a1⟩, ha⟩ : ∃ v, H[j]? = some v := ⟨_, List.getElem?_eq_getElem (by have := HN.out; omega)⟩
                obtain ⟨q0, q1⟩ := hC_get H j (a0, a1) ha
                obtain rfl : ah = some ⟨g, 0, none⟩ := by rw [HAH.out, hg]; rfl
                have hgl := blk_lt hgg
                have c0 : wr.cell? ⟨g, j * 2, none⟩ = some (i64 a0) := by rw [HBj.out.cell (show g < w4.heap.size from hgl), hgc _ (by have := HN.out; omega)]; exact q0
                have c1 : wr.cell? ⟨g, j * 2 + 1, none⟩ = some (i64 a1) := by rw [HBj.out.cell (show g < w4.heap.size from hgl), hgc _ (by have := HN.out; omega)]; exact q1
                have hjI : (j : Int) < N := by omega
                have HNo : Hid (∀ W, Below w4.heap.size w4 W → Calls Try.prog 16 #[pq zb, i64 env, .agg #[i64 a0, i64 a1], i64 (kd : Nat)] W fun e w' => e = .returned (.tuple #[i64 0, i64 90]) ∧ Below W.heap.size W w') := fun W hW => by
                  have hbd := HBd4.out.below hW
                  have hlk := Cp.looks_tb hbd.tb env a0 a1
                  rw [HIV.out.shut HAT.out a0 a1] at hlk
                  exact number_stale W (pq zb) _ _ _ _ _ _ env a0 a1 (kd : Nat) 0 0 0 0 rfl (ent_ok hbd.row) hlk
                clear hgc q0 q1 ha hgg hg
                go_upto_region 21 with fail
                have HX : Hid ((wr.alloc (hO a0 a1)).heap[wr.heap.size]? = some (hO a0 a1)) := heap_last wr _
                have HBV : Hid (Below w4.heap.size w4 (wr.alloc (hO a0 a1))) := HBj.out.alloc HBj.out.size _
                unfold hO at HX HBV
                clear c0 c1 HBj
                generalize wr.alloc (.cells #[i64 a0, i64 a1] 43) = V at *
                generalize wr.heap.size = X at *
                have HP0 : Hid (V.drew.cell? ⟨p, 0, none⟩ = some (pq zb)) := blk_cell (blk_below HPB4.out HBV.out) 0
                have HS : Hid (SqN X p zb a0 a1 V.drew) := ⟨HX.out, HP0.out⟩
                refine wp_region_noPanic ?_
                refine wp_region_last (SqN X p zb a0 a1) 12 (by kernel_rfl) ?_
                refine wpL_tk 0 86 (.pointer (some ⟨p, 0, none⟩)) rfl HS.out (fun W hW => by go_simp) ?_
                refine wpL_tk 1 87 (.pointer (some ⟨p, 0, none⟩)) rfl HS.out (fun W hW => by go_simp) ?_
                refine wpL_tk 2 88 (.pointer (some ⟨p, 0, none⟩)) rfl HS.out (fun W hW => by go_simp) ?_
                refine wpL_tk 3 89 (.pointer (some ⟨zb, 0, none⟩)) rfl HS.out (fun W hW => by have p0 := hW.p0; go_simp) ?_
                refine wpL_tk 4 90 (i64 env) rfl HS.out (fun W hW => by go_simp) ?_
                refine wpL_tk 5 91 (.agg #[i64 a0, i64 a1]) rfl HS.out (fun W hW => by have x0 := blk_cell hW.x 0; have x1 := blk_cell hW.x 1; go_simp) ?_
                refine wpL_tk 6 92 (i64 (kd : Nat)) rfl HS.out (fun W hW => by go_simp) ?_
                simp only [Act.put, List.setIfInBounds_toArray, List.set_cons_zero, List.set_cons_succ]
                refine wpL_on 7 rfl (fun K hK => ?_)
                go_simp
                refine (HNo.out V.drew HBV.out.drew).mono ?_
                rintro e w6 ⟨rfl, hb6⟩
                have HS6 : Hid (SqN X p zb a0 a1 w6) := HS.out.below hb6
                have HB6 : Hid (Below w4.heap.size w4 w6) := HBV.out.drew.trans (hb6.mono HBV.out.size)
                clear hb6
                go_simp
                refine hK.out _ _ (fun _ => HS6.out) ?_
                clear hK K
                refine wpL_tk 8 85 (.tuple #[i64 0, i64 90]) rfl HS6.out (fun W hW => by go_simp) ?_
                refine wpL_tk 9 94 (i64 0) rfl HS6.out (fun W hW => by go_simp) ?_
                refine wpL_tk 10 95 (i64 90) rfl HS6.out (fun W hW => by go_simp) ?_
                simp only [Act.put, List.setIfInBounds_toArray, List.set_cons_zero, List.set_cons_succ]
                refine wpL_on 11 rfl (fun K hK => ?_)
                go_simp
                refine hK.out _ _ (fun _ => HS6.out) ?_
                clear hK K
                refine wpL_on 12 rfl (fun K hK => ?_)
                go_simp
                refine hK.out _ _ (fun h => absurd rfl h) ?_
                clear hK K
                refine wpL_done (by kernel_rfl) ?_
                refine NoPanic.normal ?_
                clear HS HS6 HP0 HX HBV
                go_wp2_with fail
                exact ⟨⟨j + 1, by omega, by go_num, HB6⟩, by simp [intOf]; omega⟩
              · obtain rfl : j = N := by omega
                go_wp2_with fail
                exact ⟨⟨kd + 1, by omega, by omega, by go_num, HBj⟩, by simp [intOf]; omega⟩
          · obtain rfl : kd = 4 := by omega
            have HBd5 := hid (HBd4.out.below HBq.out)
            have HCl2 := hid (close_no HBd5.out env 6 (by rw [HAT.out]; rfl) (by decide))
            have p0 : wr.cell? ⟨p, 0, none⟩ = some (pq zb) := blk_cell (blk_below HPB4.out HBq.out) 0
            go_wp2_with fail
            refine HCl2.out.mono ?_
            rintro e w6 ⟨rfl, hd6, hf6⟩
            have HB6 : Hid (Below w.heap.size w w6) := (HB4.out.trans (HBq.out.mono HB4.out.size)).trans (hf6.below.mono hbase)
            clear hd6 hf6 HBd5 HCl2 p0
            go_wp2_with fail
            refine (frame_ok w6).mono ?_
            rintro e w7 ⟨rfl, hb7⟩
            have HB7 : Hid (Below w.heap.size w w7) := HB6.out.trans (hb7.mono HB6.out.size)
            clear hb7
            go_wp2_with fail
            go_ret
            exact ⟨by simp, HB7.out⟩
theorem closed_any (w : World) (ao : Option Addr) (len cap : Nat) (f : Nat → Sb) (env : Int) (hlen : len ≤ maxLen) (hS : SSl w ao len f) (hR : ∀ i, i < len → (f i).rng) : Calls Try.prog 6 #[.slice ao len cap, i64 env] w fun e w' => e = .returned (.bool true) ∧ Below w.heap.size w w' := by
  by_cases h : 60 < len ∨ env < 1 ∨ 3 < env
  · exact closed_out w ao len cap env hlen h
  · exact closed_in w ao len cap f env (by omega) (by omega) (by omega) hS hR
end Go.Proofs.Ytnknhencobhjdaa
