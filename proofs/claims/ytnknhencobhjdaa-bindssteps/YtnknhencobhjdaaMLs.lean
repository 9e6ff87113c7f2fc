/- No statement here. -/
import Derived.Test.YtnknhencobhjdaaMDn
import Derived.Test.YtnknhencobhjdaaMIv3
import Derived.Test.YtnknhencobhjdaaMIx
import Derived.Test.YtnknhencobhjdaaMSk1
set_option maxRecDepth 100000
namespace Go.Proofs.Ytnknhencobhjdaa
open Go.ChangeShapes Go.WideShapes Go.ChangeAt Go.RowKit Go.Deep Go.ChangeMaps Go.MapKept
open Go.Proofs.Ytnknhencobhjdaa.Cp (pq hid bl1 hO)
open Go.Proofs.Ytnknhencobhjdaa.Qt (wpList_app_run)
attribute [local go_sem ↓] Go.wp_at_zero Go.wp_at_succ
theorem rootsOf_no {w : World} (b : Nat) (kind : Int) (hk : kind < 1 ∨ 3 < kind) : Calls Try.prog 49 #[pq b, i64 kind] w fun e w' => e = .returned (.slice none 0 0) ∧ w' = w := by
  by_cases h1 : kind < 1
  · clear hk
    go_enter Try.func49, Try.ntmps49
    go_wp2_with fail
    go_ret
    exact ⟨rfl, rfl⟩
  · have h3 : 3 < kind := by omega
    clear hk
    go_enter Try.func49, Try.ntmps49
    go_wp2_with fail
    go_ret
    exact ⟨rfl, rfl⟩
def rwK (R : Nat → List Hn) (kind : Int) : List Hn := if 1 ≤ kind ∧ kind ≤ 3 then R (kind - 1).toNat else []
theorem rootsOf_any {w : World} {base b : Nat} {x : Bx} {t : Qt.T} {s : Qt.St} {T : List Cp.Pl} {L : Ls} {R : Nat → List Hn} (h : Bd w base b x t s T L R) (kind : Int) : ∃ ao, (∀ (i : Nat) p, (rwK R kind)[i]? = some p → ∃ g, ao = some ⟨g, 0, none⟩ ∧ w.heap[g]? = some (rtO (rwK R kind))) ∧ (rwK R kind).length ≤ 64 ∧ ∀ W, Below w.heap.size w W → Calls Try.prog 49 #[pq b, i64 kind] W fun e w' => e = .returned (.slice ao (rwK R kind).length (rwK R kind).length) ∧ w' = W := by
  by_cases hk : 1 ≤ kind ∧ kind ≤ 3
  · have hk3 : (kind - 1).toNat < 3 := by omega
    refine ⟨some ⟨x.g (kind - 1).toNat, 0, none⟩, fun i p hp => ⟨_, rfl, ?_⟩, ?_, fun W hW => ?_⟩
    · unfold rwK; rw [if_pos hk]; exact (h.rt _ hk3).1
    · unfold rwK; rw [if_pos hk]; exact h.len _ hk3
    · unfold rwK; rw [if_pos hk]; exact rootsOf_ok (h.below hW) _ hk3 kind (by omega)
  · refine ⟨none, fun i p hp => ?_, ?_, fun W hW => ?_⟩
    · unfold rwK at hp; rw [if_neg hk] at hp; simp at hp
    · unfold rwK; rw [if_neg hk]; simp
    · unfold rwK; rw [if_neg hk]; exact rootsOf_no b kind (by omega)
def rootV (R : Nat → List Hn) (kind n : Int) : Hn := if 0 ≤ n then ((rwK R kind)[n.toNat]?).getD (0, 0) else (0, 0)
theorem root_any {w : World} {base b : Nat} {x : Bx} {t : Qt.T} {s : Qt.St} {T : List Cp.Pl} {L : Ls} {R : Nat → List Hn} (h : Bd w base b x t s T L R) (kind n : Int) (r0 r1 : Int) (hv : rootV R kind n = (r0, r1)) : Calls Try.prog 15 #[pq b, i64 kind, i64 n] w fun e w' => e = .returned (.agg #[i64 r0, i64 r1]) ∧ Below w.heap.size w w' := by
  by_cases hin : 1 ≤ kind ∧ kind ≤ 3 ∧ 0 ≤ n ∧ n.toNat < (R (kind - 1).toNat).length
  · obtain ⟨h1, h3, h0, hl⟩ := hin
    have hk3 : (kind - 1).toNat < 3 := by omega
    have he := List.getElem?_eq_getElem hl
    have hv2 : (R (kind - 1).toNat)[n.toNat]? = some (r0, r1) := by
      unfold rootV rwK at hv
      rw [if_pos h0, if_pos ⟨h1, h3⟩, he, Option.getD_some] at hv
      rw [he, hv]
    have := root_ok h (kind - 1).toNat hk3 kind (by omega) n.toNat r0 r1 hv2
    rwa [Int.toNat_of_nonneg h0] at this
  · obtain ⟨ao, hrow, hlen, hcall⟩ := rootsOf_any h kind
    have hz : n < 0 ∨ ((rwK R kind).length : Int) ≤ n := by
      by_cases h0 : n < 0
      · exact Or.inl h0
      · right
        unfold rwK
        by_cases hk : 1 ≤ kind ∧ kind ≤ 3
        · rw [if_pos hk]
          have : ¬ n.toNat < (R (kind - 1).toNat).length := fun hl => hin ⟨hk.1, hk.2, by omega, hl⟩
          omega
        · rw [if_neg hk]; simp; omega
    have hzero : ((0 : Int), (0 : Int)) = (r0, r1) := by
      rw [← hv]
      unfold rootV
      by_cases h0 : 0 ≤ n
      · rw [if_pos h0, List.getElem?_eq_none (by omega)]; rfl
      · rw [if_neg h0]
    simp at hzero
    obtain ⟨rfl, rfl⟩ := hzero
    obtain ⟨V, hV⟩ : ∃ V, V = w.alloc (.cells #[i64 0, i64 0] 43) := ⟨_, rfl⟩
    have HV : Hid (w.alloc (.cells #[i64 0, i64 0] 43) = V) := hV.symm
    have HB0 : Hid (Below w.heap.size w V) := by rw [hV]; exact bl1 w _
    have HQ0 : Hid (V.heap[w.heap.size]? = some (hO 0 0)) := by rw [hV]; exact hlx w _
    have HC := hid (hcall _ HB0.out)
    have z0 : V.cell? ⟨w.heap.size, 0, none⟩ = some (i64 0) := bkc HQ0.out 0
    have z1 : V.cell? ⟨w.heap.size, 1, none⟩ = some (i64 0) := bkc HQ0.out 1
    have zf : ∀ j, V.frozen? ⟨w.heap.size, j, none⟩ = false := bkf HQ0.out
    clear hcall hrow h hv hin hV
    generalize (rwK R kind).length = N at *
    by_cases hn : n < 0
    · clear hz
      go_enter Try.func15, Try.ntmps15
      go_upto_region 1 with fail
      rw [HV.out]
      go_wp2_with fail
      refine HC.out.mono ?_
      rintro e w1 ⟨rfl, hw⟩
      replace hw := hw.symm
      subst hw
      go_wp2_with fail
      exact bodyPost_ret (results_one Try.results15 rfl (Cp.load42 (Cp.set2 HQ0.out _ _))) rfl ⟨rfl, Cp.bel2 HB0.out (Nat.le_refl _) _ _⟩
    · have hN : (N : Int) ≤ n := by omega
      clear hz
      go_enter Try.func15, Try.ntmps15
      go_upto_region 1 with fail
      rw [HV.out]
      go_wp2_with fail
      refine HC.out.mono ?_
      rintro e w1 ⟨rfl, hw⟩
      replace hw := hw.symm
      subst hw
      go_wp2_with fail
      exact bodyPost_ret (results_one Try.results15 rfl (Cp.load42 (Cp.set2 HQ0.out _ _))) rfl ⟨rfl, Cp.bel2 HB0.out (Nat.le_refl _) _ _⟩
def lsB (L : Ls) (l : List Hn) (env : Int) (i : Nat) : Bool := match l[i]? with
  | some h => (bil L h).isSome && decide (((bil L h).getD (0, 0)).1 = env)
  | none => false
def ftN (f : Nat → Bool) (n : Nat) : List Int := ((List.range n).filter f).map fun (i : Nat) => (i : Int)
theorem ftN_succ (f : Nat → Bool) (n : Nat) : ftN f (n + 1) = ftN f n ++ (if f n = true then [(n : Int)] else []) := by
  unfold ftN
  rw [List.range_succ, List.filter_append, List.map_append]
  congr 1
  cases hf : f n <;> simp [hf]
theorem ftN_len (f : Nat → Bool) (n : Nat) : (ftN f n).length ≤ n := by
  unfold ftN
  rw [List.length_map]
  have := List.length_filter_le f (List.range n)
  simpa using this
theorem ftN_congr {f g : Nat → Bool} : ∀ n, (∀ i, i < n → f i = g i) → ftN f n = ftN g n
  | 0, _ => rfl
  | n + 1, h => by rw [ftN_succ, ftN_succ, ftN_congr n (fun i hi => h i (by omega)), h n (by omega)]
theorem ftN_more {f : Nat → Bool} {a : Nat} (h : ∀ i, a ≤ i → f i = false) : ∀ d, ftN f (a + d) = ftN f a
  | 0 => rfl
  | d + 1 => by rw [← Nat.add_assoc, ftN_succ, ftN_more h d, h (a + d) (by omega)]; simp
structure SqQ (b km X : Nat) (L : Ls) (r0 r1 : Int) (W : World) : Prop where
  b2 : W.cell? ⟨b, 2, none⟩ = some (.map (some km))
  x : W.heap[X]? = some (hO r0 r1)
  mp : MapIs W km L
theorem SqQ.below {b km X : Nat} {L : Ls} {r0 r1 : Int} {W W' : World} (h : SqQ b km X L r0 r1 W) (hb : Below W.heap.size W W') : SqQ b km X L r0 r1 W' :=
  ⟨by rw [World.cell?_of_block (w := W) (hb.block _ (World.block_lt_of_cell? W _ h.b2))]; exact h.b2, bkb h.x hb, h.mp.kept (hb.block _ h.mp.lt)⟩
set_option maxHeartbeats 4000000 in
theorem list_ok {w : World} {base b : Nat} {x : Bx} {t : Qt.T} {s : Qt.St} {T : List Cp.Pl} {L : Ls} {R : Nat → List Hn} (h : Bd w base b x t s T L R) (env kind : Int) : Calls Try.prog 23 #[pq b, i64 env, i64 kind] w fun e w' => ∃ v, e = .returned v ∧ w'.ownsRow w.heap.size 3 1 v (ftN (lsB L (rwK R kind) env) (rwK R kind).length).length (icells (ftN (lsB L (rwK R kind) env) (rwK R kind).length)) ∧ Below w.heap.size w w' := by
  obtain ⟨ao, hrow, hlen, hcall⟩ := rootsOf_any h kind
  have HC := hid (hcall w (Below.refl _ _))
  have HROW := hid hrow
  have HB0 := hid h
  obtain ⟨l, hl⟩ : ∃ l, l = rwK R kind := ⟨_, rfl⟩
  rw [← hl] at HC HROW hlen ⊢
  obtain ⟨N, hN⟩ : ∃ N, N = l.length := ⟨_, rfl⟩
  rw [← hN] at HC hlen ⊢
  have HN := hid hN
  have HO0 : Hid (w.ownsRow w.heap.size 3 1 (.slice none 0 0) (ftN (lsB L l env) 0).length (icells (ftN (lsB L l env) 0))) := ⟨rfl, Or.inl ⟨rfl, rfl⟩⟩
  have hNI : (N : Int) ≤ 64 := by omega
  clear hrow hcall h hl hN
  go_enter Try.func23, Try.ntmps23
  go_wp2_with fail
  refine HC.out.mono ?_
  rintro e w1 ⟨rfl, hw⟩
  replace hw := hw.symm
  subst hw
  clear HC
  go_wp2_with fail
  go_loopw [7, 16] (fun v i wr => ∃ k : Nat, k ≤ N ∧ i = i64 k ∧ Hid (wr.ownsRow w.heap.size 3 1 v (ftN (lsB L l env) k).length (icells (ftN (lsB L l env) k))) ∧ Hid (Below w.heap.size w wr)) (fun _ i _ => N - (intOf i).toNat)
  case atStart => exact ⟨0, by omega, rfl, HO0, Below.refl _ _⟩
  case round =>
    obtain ⟨k, hk, rfl, HO, HB⟩ := hrel
    obtain ⟨ao1, cap1, rfl, _⟩ := own_slice HO.out
    by_cases hlt : k < N
    · have hlt2 : k < l.length := by rw [← HN.out]; exact hlt
      obtain ⟨⟨r0, r1⟩, hp⟩ : ∃ p, l[k]? = some p := ⟨_, List.getElem?_eq_getElem hlt2⟩
      obtain ⟨g, rfl, hg⟩ := HROW.out k _ hp
      obtain ⟨c0, c1⟩ := rt_cells (bkb hg HB.out) hp
      simp only at c0 c1
      have HP := hid hp
      have hkI : (k : Int) < N := by omega
      clear hp hg
      go_upto_region 5 with fail
      have HX : Hid ((wr.alloc (hO r0 r1)).heap[wr.heap.size]? = some (hO r0 r1)) := hlx wr _
      have HBV : Hid (Below w.heap.size w (wr.alloc (hO r0 r1))) := HB.out.alloc HB.out.size _
      have HBd : Hid (Bd (wr.alloc (hO r0 r1)) base b x t s T L R) := HB0.out.below HBV.out
      have HOV : Hid ((wr.alloc (hO r0 r1)).ownsRow w.heap.size 3 1 (.slice ao1 (ftN (lsB L l env) k).length cap1) (ftN (lsB L l env) k).length (icells (ftN (lsB L l env) k))) := HO.out.alloc _
      clear c0 c1 HO HB
      unfold hO at HX HBV HBd HOV
      generalize wr.alloc (.cells #[i64 r0, i64 r1] 43) = V at *
      generalize wr.heap.size = X at *
      obtain ⟨b0, b1, bb, hlk, hlb⟩ : ∃ b0 b1 bb, (∀ W, MapIs W x.km L → (Instr.lookup 68 (.map (some x.km)) (.agg #[i64 r0, i64 r1]) true).run Try.prog W = .ok (.tuple #[.agg #[i64 b0, i64 b1], .bool bb]) W) ∧ lsB L l env k = (bb && decide (b0 = env)) := by
        refine ⟨((bil L (r0, r1)).getD (0, 0)).1, ((bil L (r0, r1)).getD (0, 0)).2, (bil L (r0, r1)).isSome, fun W hW => bil_v hW r0 r1, ?_⟩
        unfold lsB
        rw [HP.out]
      have HLK := hid hlk
      have HLB := hid hlb
      have HSu := hid (ftN_succ (lsB L l env) k)
      have hln := ftN_len (lsB L l env) k
      clear hlk hlb HP
      have HS : Hid (SqQ b x.km X L r0 r1 V.drew) := ⟨bkc HBd.out.row 2, HX.out, HBd.out.mp.kept rfl⟩
      refine wp_region_noPanic ?_
      refine wrl (SqQ b x.km X L r0 r1) 11 (by kernel_rfl) ?_
      refine wk 0 22 (.pointer (some ⟨b, 0, none⟩)) rfl HS.out (fun W hW => by have x0 := bkc hW.x 0; have x1 := bkc hW.x 1; have b2 := hW.b2; go_simp) ?_
      refine wk 1 23 (.pointer (some ⟨b, 0, none⟩)) rfl HS.out (fun W hW => by have x0 := bkc hW.x 0; have x1 := bkc hW.x 1; have b2 := hW.b2; go_simp) ?_
      refine wk 2 24 (.pointer (some ⟨b, 2, none⟩)) rfl HS.out (fun W hW => by have x0 := bkc hW.x 0; have x1 := bkc hW.x 1; have b2 := hW.b2; go_simp) ?_
      refine wk 3 25 (.map (some x.km)) rfl HS.out (fun W hW => by have x0 := bkc hW.x 0; have x1 := bkc hW.x 1; have b2 := hW.b2; go_simp) ?_
      refine wk 4 26 (.agg #[i64 r0, i64 r1]) rfl HS.out (fun W hW => by have x0 := bkc hW.x 0; have x1 := bkc hW.x 1; have b2 := hW.b2; go_simp) ?_
      refine wk 5 27 (.tuple #[.agg #[i64 b0, i64 b1], .bool bb]) rfl HS.out (fun W hW => by have hb := HLK.out W hW.mp; have x0 := bkc hW.x 0; have x1 := bkc hW.x 1; have b2 := hW.b2; go_simp) ?_
      refine wk 6 21 (.tuple #[.agg #[i64 b0, i64 b1], .bool bb]) rfl HS.out (fun W hW => by have x0 := bkc hW.x 0; have x1 := bkc hW.x 1; have b2 := hW.b2; go_simp) ?_
      refine wk 7 28 (.agg #[i64 b0, i64 b1]) rfl HS.out (fun W hW => by have x0 := bkc hW.x 0; have x1 := bkc hW.x 1; have b2 := hW.b2; go_simp) ?_
      refine wk 8 29 (.bool bb) rfl HS.out (fun W hW => by have x0 := bkc hW.x 0; have x1 := bkc hW.x 1; have b2 := hW.b2; go_simp) ?_
      simp only [Act.put, sA, sZ, sS]
      refine wo 9 rfl (fun K hK => ?_)
      go_simp
      refine hK.out _ _ (fun _ => HS.out.below (bl1 V.drew _)) ?_
      clear hK K
      refine wo 10 rfl (fun K hK => ?_)
      go_simp
      refine hK.out _ _ (fun _ => HS.out.below (bl1 V.drew _)) ?_
      clear hK K
      refine wo 11 rfl (fun K hK => ?_)
      go_simp
      refine hK.out _ _ (fun h => absurd rfl h) ?_
      clear hK K
      refine wdd ?_
      refine NoPanic.normal ?_
      have HBU : Hid (Below w.heap.size w (V.drew.alloc (.cells #[i64 b0, i64 b1] 104))) := HBV.out.drew.alloc HBV.out.size _
      have HYU : Hid ((V.drew.alloc (.cells #[i64 b0, i64 b1] 104)).heap[V.heap.size]? = some (.cells #[i64 b0, i64 b1] 104)) := hlx V.drew _
      have HOU : Hid ((V.drew.alloc (.cells #[i64 b0, i64 b1] 104)).ownsRow w.heap.size 3 1 (.slice ao1 (ftN (lsB L l env) k).length cap1) (ftN (lsB L l env) k).length (icells (ftN (lsB L l env) k))) := (Qt.own_keep (w' := V.drew) HOV.out (fun _ _ h => h)).alloc _
      clear HS HBV HOV HBd HX HLK
      have hdr : V.drew.alloc (.cells #[i64 b0, i64 b1] 104) = (V.alloc (.cells #[i64 b0, i64 b1] 104)).drew := rfl
      rw [hdr] at HBU HYU HOU
      generalize (V.alloc (.cells #[i64 b0, i64 b1] 104)).drew = U at *
      generalize V.heap.size = Y at *
      have y0 : U.cell? ⟨Y, 0, none⟩ = some (i64 b0) := bkc HYU.out 0
      clear hdr
      cases bb with
      | false =>
        have HE : Hid (ftN (lsB L l env) (k + 1) = ftN (lsB L l env) k) := by rw [HSu.out, HLB.out]; simp; exact hid trivial
        clear HSu HLB
        go_wp2_with fail
        exact ⟨⟨k + 1, by omega, by go_num, by rw [HE.out]; exact HOU, HBU⟩, by simp [intOf]; omega⟩
      | true =>
        by_cases he : b0 = env
        · have HE : Hid (ftN (lsB L l env) (k + 1) = ftN (lsB L l env) k ++ [(k : Int)]) := by rw [HSu.out, HLB.out, if_pos (by simp [he])]; exact hid rfl
          have hq : (b0 == env) = true := by simpa using he
          clear HSu HLB he
          obtain ⟨ao2, cap2, w6, hrun, hown6, hfr6, hfar⟩ := Cp.app_far (te := 3) under38 info3 rfl (by omega) (by omega) HOU.out [i64 (k : Int)] rfl (by intro u hu; simp at hu; subst hu; rfl) (by omega) HBU.out.size
          have HRUN := hid hrun
          have HB6 : Hid (Below w.heap.size w w6) := HBU.out.trans hfr6.below
          have HO6 : Hid (w6.ownsRow w.heap.size 3 1 (.slice ao2 ((ftN (lsB L l env) k).length + 1) cap2) (ftN (lsB L l env) (k + 1)).length (icells (ftN (lsB L l env) (k + 1)))) := by
            rw [HE.out, List.length_append, icells_app]
            exact hown6
          clear hrun hown6 hfr6 hfar HE
          generalize (ftN (lsB L l env) k).length = n at *
          go_wp2_with (at_builtin; refine wpList_app_run rfl (.tmp 37) (.tmp 39) 38 rfl _ _ rfl rfl 38 rfl _ _ HRUN.out ?_)
          exact ⟨⟨k + 1, by omega, by go_num, HO6, HB6⟩, by simp [intOf]; omega⟩
        · have HE : Hid (ftN (lsB L l env) (k + 1) = ftN (lsB L l env) k) := by rw [HSu.out, HLB.out, if_neg (by simp [he])]; simp; exact hid trivial
          have hq : (b0 == env) = false := by simpa using he
          clear HSu HLB he
          go_wp2_with fail
          exact ⟨⟨k + 1, by omega, by go_num, by rw [HE.out]; exact HOU, HBU⟩, by simp [intOf]; omega⟩
    · obtain rfl : k = N := by omega
      obtain ⟨z, hz⟩ : ∃ z, z = (ftN (lsB L l env) k).length := ⟨_, rfl⟩
      rw [← hz] at HO ⊢
      go_wp2_with fail
      go_ret
      refine ⟨_, rfl, ?_, HB.out⟩
      rw [← hz]
      exact HO.out
def rlB (Rs : List Rt) (env kind : Int) (n : Nat) : Bool := match Rs[(fnI Rs kind (n : Nat)).toNat]? with
  | some r => decide (0 ≤ fnI Rs kind (n : Nat)) && decide (r.env = env)
  | none => false
theorem own_cap {w : World} {base : Nat} {e : TypeId} {size : Nat} {ao : Option Addr} {n cap : Nat} {xs : List Value} (h : w.ownsRow base e size (.slice ao n cap) n xs) : n ≤ cap := by
  obtain ⟨b, cap', he, hc, _⟩ := own_sla h
  simp only [Value.slice.injEq, true_and] at he
  omega
theorem Inv.list {t : Qt.T} {s : Qt.St} {T : List Cp.Pl} {L : Ls} {R : Nat → List Hn} {C : List Cp.Rw} {Rs : List Rt} {P : List Int} (h : Inv t s T L R C Rs P) (hlen : ∀ k, k < 3 → (R k).length ≤ 64) (env kind : Int) : ftN (lsB L (rwK R kind) env) (rwK R kind).length = ftN (rlB Rs env kind) 64 := by
  have hL : (rwK R kind).length ≤ 64 := by
    unfold rwK
    by_cases hk : 1 ≤ kind ∧ kind ≤ 3
    · rw [if_pos hk]; exact hlen _ (by omega)
    · rw [if_neg hk]; simp
  have h1 : ftN (lsB L (rwK R kind) env) 64 = ftN (lsB L (rwK R kind) env) (rwK R kind).length := by
    have := ftN_more (f := lsB L (rwK R kind) env) (a := (rwK R kind).length) (fun i hi => by unfold lsB; rw [List.getElem?_eq_none hi]) (64 - (rwK R kind).length)
    rwa [show (rwK R kind).length + (64 - (rwK R kind).length) = 64 by omega] at this
  rw [← h1]
  refine ftN_congr 64 fun i hi => ?_
  rcases fnI_cases Rs kind (i : Nat) with ⟨hf, hno⟩ | ⟨j, r, hf, hr, e1, e2⟩
  · have hr : rlB Rs env kind i = false := by unfold rlB; rw [hf]; cases Rs[(-1 : Int).toNat]? <;> simp
    rw [hr]
    unfold lsB rwK
    by_cases hk : 1 ≤ kind ∧ kind ≤ 3
    · rw [if_pos hk]
      cases hv : (R (kind - 1).toNat)[i]? with
      | none => rfl
      | some v =>
        have hz : v = (0, 0) := Classical.byContradiction fun hz => by
          obtain ⟨r, hr, e1, e2⟩ := h.rz (kind - 1).toNat i v (by omega) hv hz
          exact hno r hr ⟨by omega, e2⟩
        simp only
        rw [hz, h.bl, bil_zero h.cr]
        rfl
    · rw [if_neg hk]; rfl
  · obtain ⟨k, n, ci, q, hk, h1, h2, h3, h4, h5, h6, h7, h8⟩ := h.rr r (List.mem_of_getElem? hr)
    have hrb : rlB Rs env kind i = decide (r.env = env) := by unfold rlB; rw [hf, Int.toNat_natCast, hr]; simp
    rw [hrb]
    unfold lsB rwK
    rw [if_pos (by omega), show (kind - 1).toNat = k by omega, show i = n by omega, h8]
    obtain ⟨p, _, hb⟩ := bil_live h.cr h.pl h4 h5
    simp only
    rw [h.bl, hb, h6]
    simp
end Go.Proofs.Ytnknhencobhjdaa
