/- eachRow with the closure of Copy: its contract; no statement is proved in this text. -/
import Derived.Deep.LoopGhost
import Derived.Test.YtgiemijhndanjaaDoorCp2
namespace Go.Proofs.YtgiemijhndanjaaDoor
open Go.ChangeShapes Go.WideShapes Go.ChangeAt Go.RowKit Go.Deep
attribute [local go_sem ↓] Go.wp_at_zero Go.wp_at_succ

theorem CqI.fr {w wr w' : World} {lo : Nat} {D P : List Er} {x : Er} {f : Nat → Er} {i : Nat} (h : CqI w wr lo D P x f i) (hf : Fr lo [22] wr w') : CqI w w' lo D P x f i := by
  have hk : ∀ y ∈ D ++ (P ++ [x]) ++ newE x.2.2 f i, w'.heap[y.1]? = wr.heap[y.1]? := fun y hy => by
    obtain ⟨_, _, _, C, hC⟩ := h.blk y hy
    rw [hC]
    exact hf.kept _ _ hC rfl
  refine ⟨h.b.trans hf.below, Nat.le_trans h.z hf.size, fun y hy => (h.done y hy).keep (hk y (by simp [hy])) (fun _ _ hk => hk), fun y hy => (h.pend y hy).keep (hk y (by simp only [List.mem_append] at hy ⊢; grind)) (fun _ _ hk => hk), fun j V hV hj => ?_, fun j V hV hj => ?_, fun y hy => ?_, h.nd, h.ss⟩
  · obtain ⟨h1, h2⟩ := h.rl j V hV hj
    exact ⟨range_keep h1 (hk x (by simp)), h2⟩
  · obtain ⟨kv, h1, h2⟩ := h.rr j V hV hj
    exact ⟨kv, range_keep h1 (hk x (by simp)), h2⟩
  · obtain ⟨h1, h2, h3, C, hC⟩ := h.blk y hy
    exact ⟨h1, h2, h3, C, (hk y hy).trans hC⟩
theorem CpI.fr {w wr w' : World} {lo : Nat} {D P : List Er} (h : CpI w wr lo D P) (hf : Fr lo [22] wr w') : CpI w w' lo D P := by
  have hk : ∀ y ∈ D ++ P, w'.heap[y.1]? = wr.heap[y.1]? := fun y hy => by
    obtain ⟨_, _, _, C, hC⟩ := h.blk y hy
    rw [hC]
    exact hf.kept _ _ hC rfl
  refine ⟨h.b.trans hf.below, Nat.le_trans h.z hf.size, fun y hy => (h.done y hy).keep (hk y (by simp [hy])) (fun _ _ hk => hk), fun y hy => (h.pend y hy).keep (hk y (by simp [hy])) (fun _ _ hk => hk), fun y hy => ?_, h.nd, h.ss⟩
  obtain ⟨h1, h2, h3, C, hC⟩ := h.blk y hy
  exact ⟨h1, h2, h3, C, (hk y hy).trans hC⟩
theorem own_touch {W W' : World} {lo s n q : Nat} {v : Value} {xs : List Value} {C : Array Value} (h : W.ownsRow lo 22 s v n xs) (ht : Touch q W W') (hq : W.heap[q]? = some (.cells C 24)) : W'.ownsRow lo 22 s v n xs := by
  refine own_keep1 h fun k hk => ht.block k (h.lt k hk).2 (fun e => ?_)
  rcases h.2 with ⟨h1, _⟩ | ⟨g, cap, cur, hv, hb, hg, _⟩
  · rw [h1] at hk
    simp [Value.ownBlock] at hk
  · rw [hv] at hk
    simp only [Value.ownBlock, Option.some.injEq] at hk
    rw [hk, e, hq] at hg
    simp at hg
def toRv (P : List Er) : List Rv := P.map fun x => (x.2.2, slE x)
theorem toRv_app (a b : List Er) : toRv (a ++ b) = toRv a ++ toRv b := by simp [toRv]
theorem newE_succ (l : List Vl) (f : Nat → Er) (i : Nat) (U : Vl) (h : l[i]? = some U) : newE l f (i + 1) = newE l f i ++ (if U.kids.length = 0 then [] else [f i]) := by
  simp only [newE, h]
theorem newE_tot (l : List Vl) (f : Nat → Er) (hf : ∀ j V, l[j]? = some V → V.kids.length ≠ 0 → (f j).2.2 = V.kids) : ∀ i, i ≤ l.length → totV (toRv (newE l f i)) ≤ sizeL (l.take i)
  | 0, _ => by simp [newE, toRv, totV, sizeL]
  | i + 1, hi => by
    have hlt : i < l.length := by omega
    have hU : l[i]? = some l[i] := List.getElem?_eq_getElem hlt
    have ih := newE_tot l f hf i (by omega)
    rw [newE_succ l f i _ hU, toRv_app, totV_app, sizeL_take l i hlt]
    have hs := (l[i]).size_eq
    by_cases hk : (l[i]).kids.length = 0
    · rw [if_pos hk]
      simp only [toRv, totV, List.map_nil, List.sum_nil] at ih ⊢
      omega
    · rw [if_neg hk]
      have e : totV (toRv [f i]) = 1 + sizeL (l[i]).kids := by
        simp only [toRv, totV, List.map_cons, List.map_nil, List.sum_cons, List.sum_nil, Nat.add_zero]
        rw [hf i _ hU hk]
      omega
set_option maxRecDepth 100000 in
set_option maxHeartbeats 12800000 in
theorem eachc_ok (w w0 : World) (lo : Nat) (x : Er) (h : CpI w w0 lo [] [x]) (hl : sizeL x.2.2 ≤ 100000) :
    Calls Tryd.prog 40 #[slE x, .func (.func 42) #[] #[]] w0 fun e w' => e = .returned (.tuple #[]) ∧ ∃ D, x ∈ D ∧ CpI w w' lo D [] := by
  have hlo : lo ≤ w0.heap.size := by
    obtain ⟨h1, _, _, C, hC⟩ := h.blk x (by simp)
    have := blk_lt hC
    omega
  have HI0 := hid (h.fr (Fr.of_below (w' := w0.alloc (.cells #[slE x] 22)) [22] (below_one w0 _) hlo))
  have HX0 : Hid (x ∈ ([] : List Er) ++ [x]) := by show _ ∈ _; simp
  have HW0 : Hid ((w0.alloc (.cells #[slE x] 22)).ownsRow w0.heap.size 22 1 (.slice (some ⟨w0.heap.size, 0, none⟩) 1 1) 1 (rows (toRv [x]))) := ⟨rfl, Or.inr ⟨w0.heap.size, 1, _, rfl, Nat.le_refl _, heap_last w0 _, Nat.le_refl _, by unfold maxLen; omega, rfl, rfl⟩⟩
  obtain ⟨g0, hg0⟩ : ∃ g0, g0 = 1 + sizeL x.2.2 := ⟨_, rfl⟩
  have HT0 : Hid (totV (toRv [x]) = g0) := by show _ = _; rw [hg0]; simp [totV, toRv]
  have hg1 : g0 ≤ 100001 := by omega
  obtain ⟨a0, n0, c0, hv0⟩ : ∃ a0 n0 c0, slE x = .slice a0 n0 c0 := ⟨_, _, _, rfl⟩
  rw [hv0] at HI0 HW0 ⊢
  have HL := hid hlo
  clear h hg0 hl hlo hv0
  go_enter Tryd.func40, Tryd.ntmps40
  go_wp2_with fail
  obtain ⟨G, hG⟩ : ∃ G, G = w0.heap.size := ⟨_, rfl⟩
  rw [← hG] at HW0 HL ⊢
  clear hG
  generalize w0.alloc (.cells #[.slice a0 n0 c0] 22) = V0 at *
  go_loopg [4] g0 (fun g v wr => ∃ (D P : List Er) (Ss : List Rv), g ≤ 100001 ∧ Hid (Ss = toRv P) ∧ Hid (totV Ss ≤ g) ∧ Hid (wr.ownsRow G 22 1 v Ss.length (rows Ss)) ∧ Hid (CpI w wr lo D P) ∧ Hid (x ∈ D ++ P) ∧ Hid (G ≤ wr.heap.size))
  case atStart => exact ⟨[], [x], toRv [x], hg1, rfl, Nat.le_of_eq HT0.out, HW0, HI0, HX0, by
    show _ ≤ _
    have := (HW0.out.lt G rfl).2
    omega⟩
  case round =>
    obtain ⟨D, P, Ss, hg2, HSs, HTot, HOwn, HI, HX, HG⟩ := hrel
    obtain ⟨va, vc, rfl, _⟩ := own_slice HOwn.out
    rcases List.eq_nil_or_concat P with hnil | ⟨P0, y, hcc⟩
    · subst hnil
      have hs0 : Ss = [] := HSs.out
      subst hs0
      have HX2 : Hid (x ∈ D) := by show _ ∈ _; have := HX.out; simpa using this
      clear HX HSs
      go_wp2_with fail
      exact bodyPost_end (v := .tuple #[]) (by simp [results, Tryd.results40]) rfl ⟨rfl, D, HX2.out, HI.out⟩
    · rw [List.concat_eq_append] at hcc
      subst hcc
      obtain ⟨S0, hS0⟩ : ∃ S0, S0 = toRv P0 := ⟨_, rfl⟩
      obtain ⟨gy, cy, la⟩ := y
      have hSs : Ss = S0 ++ [(la, .slice (some ⟨gy, 0, none⟩) la.length cy)] := by rw [HSs.out, toRv_app, hS0]; rfl
      subst hSs
      have HS0 := hid hS0
      have hown := HOwn.out
      obtain ⟨n, hn⟩ : ∃ n, n = S0.length := ⟨_, rfl⟩
      have hln : (S0 ++ [((la, .slice (some ⟨gy, 0, none⟩) la.length cy) : Rv)]).length = n + 1 := by rw [List.length_append, hn]; rfl
      have hrw : rows (S0 ++ [((la, .slice (some ⟨gy, 0, none⟩) la.length cy) : Rv)]) = rows S0 ++ [.slice (some ⟨gy, 0, none⟩) la.length cy] := by simp [rows]
      rw [hln, hrw] at hown
      rw [hln]
      obtain ⟨hown2, g, rfl, hglt, hcap, hcell⟩ := own_pop hown rfl
      have q0 : wr.cell? ⟨g, n, none⟩ = some (.slice (some ⟨gy, 0, none⟩) la.length cy) := by have := hcell 0 _ rfl; simpa using this
      have htot : totV S0 + (1 + sizeL la) ≤ gk := by have := HTot.out; rw [totV_app] at this; simpa [totV] using this
      have hnI : n ≤ 100001 := by have := totV_len S0; omega
      have hlaI : la.length ≤ 100001 := by have := sizeL_len la; omega
      have HOw2 : Hid (wr.ownsRow G 22 1 (.slice (some ⟨g, 0, none⟩) n vc) S0.length (rows S0)) := by show World.ownsRow _ _ _ _ _ _ _; rw [← hn]; exact hown2
      have HN := hid hn
      have HTt := hid htot
      have hcapI : n ≤ vc := by omega
      have HBy : Hid (∃ C, wr.heap[gy]? = some (.cells C 24)) := by
        show ∃ C, _
        obtain ⟨_, _, _, C, hC⟩ := HI.out.blk (gy, cy, la) (by simp)
        exact ⟨C, hC⟩
      have hcyI : la.length ≤ cy ∧ cy ≤ maxLen := by obtain ⟨_, h2, h3, _⟩ := HI.out.blk (gy, cy, la) (by simp); exact ⟨h2, h3⟩
      obtain ⟨hcy1, hcy2⟩ := hcyI
      unfold maxLen at hcy2
      have HZ1 : Hid (Calls Tryd.prog 42 #[.slice (some ⟨gy, 0, none⟩) la.length cy] wr fun e w' => e = .returned (.tuple #[]) ∧ Touch gy wr w' ∧ ∃ f, CqI w w' lo D P0 (gy, cy, la) f la.length) := cp1_ok w wr lo D P0 (gy, cy, la) HI.out (by show sizeL la ≤ _; omega)
      clear hown hown2 hcell hn hln hrw htot HOwn HTot hglt hS0 HSs
      go_wp2_with fail
      refine HZ1.out.mono ?_
      rintro e w1 ⟨rfl, ht1, f, hq1⟩
      have HO1 : Hid (w1.ownsRow G 22 1 (.slice (some ⟨g, 0, none⟩) n vc) S0.length (rows S0)) := by
        show World.ownsRow _ _ _ _ _ _ _
        obtain ⟨C, hC⟩ := HBy.out
        exact own_touch HOw2.out ht1 hC
      have HG1 : Hid (G ≤ w1.heap.size) := Nat.le_trans HG.out ht1.size
      have HQ1 := hid hq1
      have HFk : Hid (∀ j V, la[j]? = some V → V.kids.length ≠ 0 → (f j).2.2 = V.kids) := fun j V hV hk => (hq1.rl j V hV (List.getElem?_eq_some_iff.1 hV).1).2 hk
      have HX1 : Hid (x ∈ (D ++ [(gy, cy, la)]) ++ (P0 ++ newE la f la.length)) := by
        show _ ∈ _
        have := HX.out
        simp only [List.mem_append, List.mem_singleton] at this ⊢
        grind
      have HPi : Hid (S0 = toRv (P0 ++ newE la f 0)) := by show _ = _; rw [HS0.out]; simp [newE]
      clear ht1 hq1 HZ1 HBy HOw2 q0 HI HX HG
      go_wp2_with fail
      go_loopw [4, 29] (fun v u wr => ∃ (i : Nat) (Sy : List Rv), i ≤ la.length ∧ u = i64 i ∧ Hid (Sy = toRv (P0 ++ newE la f i)) ∧ Hid (wr.ownsRow G 22 1 v Sy.length (rows Sy)) ∧ Hid (CqI w wr lo D P0 (gy, cy, la) f la.length) ∧ Hid (G ≤ wr.heap.size)) (fun _ u _ => la.length - (intOf u).toNat)
      case atStart => exact ⟨0, S0, by omega, rfl, HPi, HO1, HQ1, HG1⟩
      case round =>
        obtain ⟨i, Sy, hi, rfl, HSy, HOy, HIy, HGy⟩ := hrel
        obtain ⟨oa, oc, rfl, _⟩ := own_slice HOy.out
        have htS : totV Sy ≤ totV S0 + sizeL (la.take i) := by
          have h1 := newE_tot la f HFk.out i hi
          rw [HSy.out, toRv_app, totV_app, HS0.out]
          omega
        have HTy := hid htS
        clear htS
        by_cases hlt : i < la.length
        · obtain ⟨U, hU⟩ : ∃ U, U = la[i] := ⟨_, rfl⟩
          have HUe : Hid (la[i]? = some U) := by show _ = _; rw [List.getElem?_eq_getElem hlt, hU]
          obtain ⟨hr, hfk⟩ := HIy.out.rl i U HUe.out hlt
          have hkv : ∃ ak2 ck2, kvF U (f i) = .slice ak2 U.kids.length ck2 := by
            unfold kvF
            by_cases hk : U.kids.length = 0
            · rw [if_pos hk, hk]; exact ⟨none, 0, rfl⟩
            · rw [if_neg hk]
              unfold slE
              rw [hfk hk]
              exact ⟨_, _, rfl⟩
          obtain ⟨ak2, ck2, hkv⟩ := hkv
          have HKv : Hid (U.kids.length ≠ 0 → slE (f i) = .slice ak2 U.kids.length ck2) := by
            show _ → _
            intro hk
            rw [← hkv]
            unfold kvF
            rw [if_neg hk]
          rw [hkv] at hr
          have HNe : Hid (newE la f (i + 1) = newE la f i ++ (if U.kids.length = 0 then [] else [f i])) := newE_succ la f i U HUe.out
          have HFi := hid hfk
          have hul : U.kids.length ≤ 100001 := by
            have h1 : U ∈ la := by rw [hU]; exact List.getElem_mem hlt
            have h2 := sizeL_mem h1
            have h3 := U.size_eq
            have h4 := sizeL_len U.kids
            have h5 := HTt.out
            omega
          have c0 : wr.cell? ⟨gy, i * 4, none⟩ = some (i64 U.kind) := hr 0 _ rfl
          have c1 : wr.cell? ⟨gy, i * 4 + 1, none⟩ = some (i64 U.num) := hr 1 _ rfl
          have c2 : wr.cell? ⟨gy, i * 4 + 2, none⟩ = some (str U.s) := hr 2 _ rfl
          have c3 : wr.cell? ⟨gy, i * 4 + 3, none⟩ = some (.slice ak2 U.kids.length ck2) := hr 3 _ rfl
          have HX2 : Hid ((wr.alloc (.cells #[i64 U.kind, i64 U.num, str U.s, .slice ak2 U.kids.length ck2] 24)).heap[wr.heap.size]? = some (.cells #[i64 U.kind, i64 U.num, str U.s, .slice ak2 U.kids.length ck2] 24)) := heap_last wr _
          have HO2 : Hid ((wr.alloc (.cells #[i64 U.kind, i64 U.num, str U.s, .slice ak2 U.kids.length ck2] 24)).ownsRow G 22 1 (.slice oa Sy.length oc) Sy.length (rows Sy)) := HOy.out.alloc _
          have HI2 : Hid (CqI w (wr.alloc (.cells #[i64 U.kind, i64 U.num, str U.s, .slice ak2 U.kids.length ck2] 24)) lo D P0 (gy, cy, la) f la.length) := HIy.out.fr (Fr.of_below _ (below_one wr _) (Nat.le_trans HL.out HGy.out))
          have HG2 : Hid (G ≤ (wr.alloc (.cells #[i64 U.kind, i64 U.num, str U.s, .slice ak2 U.kids.length ck2] 24)).heap.size) := Nat.le_trans HGy.out (below_one wr _).size
          clear hU hr hfk hkv
          go_upto_region 8 with fail
          obtain ⟨Xb, hXb⟩ : ∃ Xb, Xb = wr.heap.size := ⟨_, rfl⟩
          rw [← hXb] at HX2 ⊢
          clear hXb c0 c1 c2 c3 HOy HIy HGy
          generalize wr.alloc (.cells #[i64 U.kind, i64 U.num, str U.s, .slice ak2 U.kids.length ck2] 24) = X at *
          have x3 : X.cell? ⟨Xb, 3, none⟩ = some (.slice ak2 U.kids.length ck2) := blk_cell HX2.out 3
          by_cases h0 : U.kids.length = 0
          · have HS4 : Hid (Sy = toRv (P0 ++ newE la f (i + 1))) := by
              show _ = _
              rw [HNe.out, if_pos h0, List.append_nil]
              exact HSy.out
            rw [h0] at x3
            clear h0
            go_wp2_with fail
            exact ⟨⟨i + 1, Sy, by omega, by go_num, HS4, HO2, HI2, HG2⟩, by simp [intOf]; omega⟩
          · have hx1I : (0 : Int) < U.kids.length := by omega
            have hSyl : Sy.length ≤ 100000 := by
              have h1 := totV_len Sy
              have h2 := HTy.out
              have h3 := HTt.out
              have h4 := sizeL_take_le la i
              omega
            obtain ⟨ao9, cap9, W4, hrun, hst, hfr⟩ := wait_push HO2.out U.kids ak2 U.kids.length ck2 hSyl HG2.out
            have HRUN := hid hrun
            have HO4 := hid hst
            have HI4 : Hid (CqI w W4 lo D P0 (gy, cy, la) f la.length) := HI2.out.fr ⟨hfr.below.mono HL.out, hfr.kept⟩
            have HG4 : Hid (G ≤ W4.heap.size) := Nat.le_trans HG2.out hfr.size
            have HS4 : Hid (Sy ++ [((U.kids, .slice ak2 U.kids.length ck2) : Rv)] = toRv (P0 ++ newE la f (i + 1))) := by
              show _ = _
              rw [HNe.out, if_neg h0, ← List.append_assoc, toRv_app, ← HSy.out]
              congr 1
              show [_] = [((f i).2.2, slE (f i))]
              rw [HFi.out h0, HKv.out h0]
            clear hrun hst hfr h0
            go_wp2_with (at_builtin; refine wpList_app_run rfl (.tmp 37) (.tmp 40) 86 rfl _ _ rfl rfl 86 rfl _ _ HRUN.out ?_)
            exact ⟨⟨i + 1, _, by omega, by go_num, HS4, HO4, HI4, HG4⟩, by simp [intOf]; omega⟩
        · have he : i = la.length := by omega
          have HI5 : Hid (CpI w wr lo (D ++ [(gy, cy, la)]) (P0 ++ newE la f la.length)) := HIy.out.fin
          have HS5 : Hid (Sy = toRv (P0 ++ newE la f la.length)) := by show _ = _; rw [← he]; exact HSy.out
          have HT5 : Hid (totV Sy < gk) := by
            show _ < _
            have h1 := HTy.out
            have h2 := HTt.out
            have h3 := sizeL_take_le la i
            omega
          clear he
          go_wp2_with fail
          go_roundg (totV Sy)
          case measure => exact HT5.out
          case rel => exact ⟨_, _, Sy, by have := HT5.out; omega, HS5, Nat.le_refl _, HOy, HI5, HX1, HGy⟩
end Go.Proofs.YtgiemijhndanjaaDoor
