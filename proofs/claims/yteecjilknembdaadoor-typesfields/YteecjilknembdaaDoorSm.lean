/- types.Same: its contract; no statement is proved in this text. -/
import Derived.Test.YteecjilknembdaaDoorSa
namespace Go.Proofs.YteecjilknembdaaDoor
open Go.ChangeShapes Go.WideShapes Go.ChangeAt Go.RowKit Go.Deep
attribute [local go_sem ↓] Go.wp_at_zero Go.wp_at_succ

theorem tot_len : ∀ S : List Rw, S.length ≤ totS S
  | [] => by simp
  | x :: r => by
    have := tot_len r
    simp only [totS, List.map_cons, List.sum_cons, List.length_cons] at this ⊢
    omega
/-- A type alone in a row. -/
theorem row_one {V : World} {S : Nat → Prop} {T : Ty} {nv kv : Value} {A : Nat} (h : Rd V S T nv kv) (hA : V.heap[A]? = some (.cells #[i64 T.kind, i64 T.num, nv, kv] 25)) (hS : S A) : RowAt V S [T] (.slice (some ⟨A, 0, none⟩) 1 1) := Rd.one (n := 0) h hA hS |>.row
set_option maxRecDepth 100000 in
set_option maxHeartbeats 12800000 in
theorem same_ok (T U : Ty) (w : World) (nv kv mv lv : Value) (hR : Rd w (fun _ => True) T nv kv) (hQ : Rd w (fun _ => True) U mv lv) (hT : T.count ≤ 10000) : Calls Tryd.prog 18 #[tyV T.kind T.num nv kv, tyV U.kind U.num mv lv] w fun e w' => e = .returned (.bool (sameB T U)) ∧ Below w.heap.size w w' := by
  obtain ⟨R, hRe⟩ : ∃ R, R = sameB T U := ⟨_, rfl⟩
  have HRe := hid hRe
  rw [← hRe]
  clear hRe
  obtain ⟨an, cn, rfl, ak, ck, rfl⟩ := hR.form
  obtain ⟨am, cm, rfl, al, cl, rfl⟩ := hQ.form
  have HB4 : Hid (Below w.heap.size w ((((w.alloc (.cells #[i64 T.kind, i64 T.num, .slice an T.names.length cn, .slice ak T.kids.length ck] 25)).alloc (.cells #[i64 U.kind, i64 U.num, .slice am U.names.length cm, .slice al U.kids.length cl] 25)).alloc (.cells #[i64 T.kind, i64 T.num, .slice an T.names.length cn, .slice ak T.kids.length ck] 25)).alloc (.cells #[i64 U.kind, i64 U.num, .slice am U.names.length cm, .slice al U.kids.length cl] 25))) := ((((below_one w _).trans ((below_one _ _).mono (by simp))).trans ((below_one _ _).mono (by simp; omega))).trans ((below_one _ _).mono (by simp; omega)))
  have HA4 : Hid (((((w.alloc (.cells #[i64 T.kind, i64 T.num, .slice an T.names.length cn, .slice ak T.kids.length ck] 25)).alloc (.cells #[i64 U.kind, i64 U.num, .slice am U.names.length cm, .slice al U.kids.length cl] 25)).alloc (.cells #[i64 T.kind, i64 T.num, .slice an T.names.length cn, .slice ak T.kids.length ck] 25)).alloc (.cells #[i64 U.kind, i64 U.num, .slice am U.names.length cm, .slice al U.kids.length cl] 25)).heap[w.heap.size + 2]? = some (.cells #[i64 T.kind, i64 T.num, .slice an T.names.length cn, .slice ak T.kids.length ck] 25)) := by
    show _ = _
    exact blk_alloc (heap_at2 _ _ _ (by simp)) _
  have HC4 : Hid (((((w.alloc (.cells #[i64 T.kind, i64 T.num, .slice an T.names.length cn, .slice ak T.kids.length ck] 25)).alloc (.cells #[i64 U.kind, i64 U.num, .slice am U.names.length cm, .slice al U.kids.length cl] 25)).alloc (.cells #[i64 T.kind, i64 T.num, .slice an T.names.length cn, .slice ak T.kids.length ck] 25)).alloc (.cells #[i64 U.kind, i64 U.num, .slice am U.names.length cm, .slice al U.kids.length cl] 25)).heap[w.heap.size + 3]? = some (.cells #[i64 U.kind, i64 U.num, .slice am U.names.length cm, .slice al U.kids.length cl] 25)) := heap_at2 _ _ _ (by simp)
  have HZ4 : Hid (((((w.alloc (.cells #[i64 T.kind, i64 T.num, .slice an T.names.length cn, .slice ak T.kids.length ck] 25)).alloc (.cells #[i64 U.kind, i64 U.num, .slice am U.names.length cm, .slice al U.kids.length cl] 25)).alloc (.cells #[i64 T.kind, i64 T.num, .slice an T.names.length cn, .slice ak T.kids.length ck] 25)).alloc (.cells #[i64 U.kind, i64 U.num, .slice am U.names.length cm, .slice al U.kids.length cl] 25)).heap.size = w.heap.size + 4) := by show _ = _; simp
  have HBW : Hid (Below w.heap.size w (((((w.alloc (.cells #[i64 T.kind, i64 T.num, .slice an T.names.length cn, .slice ak T.kids.length ck] 25)).alloc (.cells #[i64 U.kind, i64 U.num, .slice am U.names.length cm, .slice al U.kids.length cl] 25)).alloc (.cells #[i64 T.kind, i64 T.num, .slice an T.names.length cn, .slice ak T.kids.length ck] 25)).alloc (.cells #[i64 U.kind, i64 U.num, .slice am U.names.length cm, .slice al U.kids.length cl] 25)).alloc (.cells #[.slice (some ⟨w.heap.size + 2, 0, none⟩) 1 1, .slice (some ⟨w.heap.size + 3, 0, none⟩) 1 1] 66))) := HB4.out.trans ((below_one _ _).mono HB4.out.size)
  have HS0 : Hid (Stk (((((w.alloc (.cells #[i64 T.kind, i64 T.num, .slice an T.names.length cn, .slice ak T.kids.length ck] 25)).alloc (.cells #[i64 U.kind, i64 U.num, .slice am U.names.length cm, .slice al U.kids.length cl] 25)).alloc (.cells #[i64 T.kind, i64 T.num, .slice an T.names.length cn, .slice ak T.kids.length ck] 25)).alloc (.cells #[i64 U.kind, i64 U.num, .slice am U.names.length cm, .slice al U.kids.length cl] 25)).alloc (.cells #[.slice (some ⟨w.heap.size + 2, 0, none⟩) 1 1, .slice (some ⟨w.heap.size + 3, 0, none⟩) 1 1] 66)) w.heap.size (w.heap.size + 2) (w.heap.size + 3) (.slice (some ⟨w.heap.size + 4, 0, none⟩) 1 1) [([T], [U], .slice (some ⟨w.heap.size + 2, 0, none⟩) 1 1, .slice (some ⟨w.heap.size + 3, 0, none⟩) 1 1)]) := by
    have hZ := HZ4.out
    have hg : (((((w.alloc (.cells #[i64 T.kind, i64 T.num, .slice an T.names.length cn, .slice ak T.kids.length ck] 25)).alloc (.cells #[i64 U.kind, i64 U.num, .slice am U.names.length cm, .slice al U.kids.length cl] 25)).alloc (.cells #[i64 T.kind, i64 T.num, .slice an T.names.length cn, .slice ak T.kids.length ck] 25)).alloc (.cells #[i64 U.kind, i64 U.num, .slice am U.names.length cm, .slice al U.kids.length cl] 25)).alloc (.cells #[.slice (some ⟨w.heap.size + 2, 0, none⟩) 1 1, .slice (some ⟨w.heap.size + 3, 0, none⟩) 1 1] 66)).heap[w.heap.size + 4]? = some (.cells #[.slice (some ⟨w.heap.size + 2, 0, none⟩) 1 1, .slice (some ⟨w.heap.size + 3, 0, none⟩) 1 1] 66) := by rw [← hZ]; exact heap_last _ _
    refine ⟨⟨rfl, Or.inr ⟨w.heap.size + 4, 1, _, rfl, by omega, hg, Nat.le_refl _, by unfold maxLen; simp, rfl, rfl⟩⟩, fun x hx => ?_⟩
    rw [List.mem_singleton.1 hx]
    refine ⟨row_one ((hR.mono (S' := Sx2 w.heap.size (w.heap.size + 2) (w.heap.size + 3)) (fun b _ hb => Or.inl hb)).under HBW.out) (blk_alloc HA4.out _) (Or.inr (Or.inl rfl)), row_one ((hQ.mono (S' := Sx2 w.heap.size (w.heap.size + 2) (w.heap.size + 3)) (fun b _ hb => Or.inl hb)).under HBW.out) (blk_alloc HC4.out _) (Or.inr (Or.inr rfl)), rfl⟩
  have HAB0 : Hid (Ab (((((w.alloc (.cells #[i64 T.kind, i64 T.num, .slice an T.names.length cn, .slice ak T.kids.length ck] 25)).alloc (.cells #[i64 U.kind, i64 U.num, .slice am U.names.length cm, .slice al U.kids.length cl] 25)).alloc (.cells #[i64 T.kind, i64 T.num, .slice an T.names.length cn, .slice ak T.kids.length ck] 25)).alloc (.cells #[i64 U.kind, i64 U.num, .slice am U.names.length cm, .slice al U.kids.length cl] 25)).alloc (.cells #[.slice (some ⟨w.heap.size + 2, 0, none⟩) 1 1, .slice (some ⟨w.heap.size + 3, 0, none⟩) 1 1] 66)) (w.heap.size + 2) (w.heap.size + 3)) := ⟨⟨_, blk_alloc HA4.out _⟩, _, blk_alloc HC4.out _⟩
  clear hR hQ HA4 HC4 HZ4 HB4
  go_enter Tryd.func18, Tryd.ntmps18
  go_wp2_with fail
  have HRS : Hid (R = allS [([T], [U], Value.slice (some ⟨w.heap.size + 2, 0, none⟩) 1 1, Value.slice (some ⟨w.heap.size + 3, 0, none⟩) 1 1)]) := by show _ = _; rw [HRe.out]; simp [allS, sameL]
  have HTS : Hid (totS [([T], [U], Value.slice (some ⟨w.heap.size + 2, 0, none⟩) 1 1, Value.slice (some ⟨w.heap.size + 3, 0, none⟩) 1 1)] = T.count + 1) := by show _ = _; simp [totS, countL]; omega
  clear HRe
  generalize ((((w.alloc (.cells #[i64 T.kind, i64 T.num, .slice an T.names.length cn, .slice ak T.kids.length ck] 25)).alloc (.cells #[i64 U.kind, i64 U.num, .slice am U.names.length cm, .slice al U.kids.length cl] 25)).alloc (.cells #[i64 T.kind, i64 T.num, .slice an T.names.length cn, .slice ak T.kids.length ck] 25)).alloc (.cells #[i64 U.kind, i64 U.num, .slice am U.names.length cm, .slice al U.kids.length cl] 25)).alloc (.cells #[.slice (some ⟨w.heap.size + 2, 0, none⟩) 1 1, .slice (some ⟨w.heap.size + 3, 0, none⟩) 1 1] 66) = V0 at *
  obtain ⟨lo, hlo⟩ : ∃ lo, lo = w.heap.size := ⟨_, rfl⟩
  have HLO := hid hlo
  obtain ⟨A, hA⟩ : ∃ A, A = w.heap.size + 2 := ⟨_, rfl⟩
  obtain ⟨B, hB⟩ : ∃ B, B = w.heap.size + 3 := ⟨_, rfl⟩
  obtain ⟨G, hG⟩ : ∃ G, G = w.heap.size + 4 := ⟨_, rfl⟩
  rw [← hA, ← hB, ← hG] at HS0
  rw [← hA, ← hB] at HAB0 HRS HTS
  rw [← hG]
  have HS1 : Hid (Stk V0 lo A B (.slice (some ⟨G, 0, none⟩) 1 1) [([T], [U], .slice (some ⟨A, 0, none⟩) 1 1, .slice (some ⟨B, 0, none⟩) 1 1)]) := by show Stk _ _ _ _ _ _; rw [hlo]; exact HS0.out
  clear hlo hA hB hG HS0
  go_loopg [5] (T.count + 1) (fun g v wr => ∃ Ss, totS Ss ≤ g ∧ g ≤ 10001 ∧ Hid (Stk wr lo A B v Ss) ∧ Hid (Ab wr A B) ∧ Hid (R = allS Ss) ∧ Hid (Below w.heap.size w wr))
  case atStart => exact ⟨_, Nat.le_of_eq HTS.out, by omega, HS1, HAB0, HRS, HBW⟩
  case round =>
    obtain ⟨Ss, hg1, hg2, HS, HAB, HRs, HB⟩ := hrel
    obtain ⟨va, vc, rfl, _⟩ := own_slice HS.out.own
    rcases List.eq_nil_or_concat Ss with hnil | ⟨S0, x, hcc⟩
    · subst hnil
      have HF : Hid (R = true) := HRs.out
      clear HRs
      go_wp2_with fail
      go_ret
      exact ⟨by rw [HF.out]; rfl, HB.out⟩
    · rw [List.concat_eq_append] at hcc
      subst hcc
      obtain ⟨la, lb, va1, vb1⟩ := x
      have hrow := HS.out.row (la, lb, va1, vb1) (by simp)
      obtain ⟨hra, hrb, hlen⟩ := hrow
      simp only at hra hrb hlen
      have hown := HS.out.own
      rw [List.length_append, scs_app] at hown
      obtain ⟨n, hn⟩ : ∃ n, n = S0.length := ⟨_, rfl⟩
      have hln : (S0 ++ [((la, lb, va1, vb1) : Rw)]).length = n + 1 := by rw [List.length_append, hn]; rfl
      rw [hln]
      rw [← hn] at hown
      change World.ownsRow wr lo 66 2 (.slice va (n + 1) vc) (n + 1) (scs S0 ++ [va1, vb1]) at hown
      obtain ⟨hown2, g, rfl, hglt, hcap, hcell⟩ := own_pop hown rfl
      have q0 : wr.cell? ⟨g, n * 2, none⟩ = some va1 := by have := hcell 0 _ rfl; simpa using this
      have q1 : wr.cell? ⟨g, n * 2 + 1, none⟩ = some vb1 := hcell 1 _ rfl
      obtain ⟨hla, aa, ca, rfl, _⟩ := hra.kid
      obtain ⟨hlb, ab, cb, rfl, _⟩ := hrb.kid
      unfold maxLen at hla hlb
      have htot : totS S0 + (1 + countL la) ≤ gk := by rw [totS_app] at hg1; simpa [totS] using hg1
      have hnI : n ≤ 10001 := by
        have := tot_len S0
        omega
      have HRs2 : Hid (R = (sameL la lb && allS S0)) := by show _ = _; rw [HRs.out, allS_app]; simp only [allS, List.all_cons, List.all_nil, Bool.and_true]; exact Bool.and_comm _ _
      have HSp : Hid (Stk wr lo A B (.slice (some ⟨g, 0, none⟩) n vc) S0) := ⟨by rw [← hn]; exact hown2, fun y hy => HS.out.row y (by simp [hy])⟩
      have HRA := hid hra
      have HRB := hid hrb
      have HLn := hid hlen
      have HN := hid hn
      have HTot := hid htot
      have HBx : Hid (Below wr.heap.size wr (wr.alloc (.cells #[.slice aa la.length ca, .slice ab lb.length cb] 66))) := below_one wr _
      have HXx : Hid ((wr.alloc (.cells #[.slice aa la.length ca, .slice ab lb.length cb] 66)).heap[wr.heap.size]? = some (.cells #[.slice aa la.length ca, .slice ab lb.length cb] 66)) := heap_last wr _
      have HGl := hid hglt
      clear hra hrb hlen hown hown2 hcell hn hln htot HS HRs hglt hg1
      go_upto_region 5 with fail
      obtain ⟨Rb, hRb⟩ : ∃ Rb, Rb = wr.heap.size := ⟨_, rfl⟩
      have HRb : Hid (g ≠ Rb) := by show g ≠ Rb; have := HGl.out; omega
      rw [← hRb] at HXx ⊢
      clear hRb q0 q1
      have HSx := hid (HSp.out.below HBx.out)
      have HABx := hid (HAB.out.below HBx.out)
      have HBw : Hid (Below w.heap.size w (wr.alloc (.cells #[.slice aa la.length ca, .slice ab lb.length cb] 66))) := HB.out.trans (HBx.out.mono HB.out.size)
      have HRAx : Hid (RowAt (wr.alloc (.cells #[.slice aa la.length ca, .slice ab lb.length cb] 66)) (Sx2 lo A B) la (.slice aa la.length ca)) := HRA.out.move HBx.out.size fun b hS hlt => ⟨hS, HBx.out.block b hlt⟩
      have HRBx : Hid (RowAt (wr.alloc (.cells #[.slice aa la.length ca, .slice ab lb.length cb] 66)) (Sx2 lo A B) lb (.slice ab lb.length cb)) := HRB.out.move HBx.out.size fun b hS hlt => ⟨hS, HBx.out.block b hlt⟩
      clear HSp HAB HB HRA HRB HBx HGl
      generalize wr.alloc (.cells #[.slice aa la.length ca, .slice ab lb.length cb] 66) = X at *
      have x0 : X.cell? ⟨Rb, 0, none⟩ = some (.slice aa la.length ca) := blk_cell HXx.out 0
      go_wp2_with fail
      go_loopw [5, 33] (fun v u wr => ∃ (i : Nat) (Sy : List Rw), i ≤ la.length ∧ u = i64 i ∧ Hid (Stk wr lo A B v Sy) ∧ Hid (Ab wr A B) ∧ Hid (R = (sameL (la.drop i) (lb.drop i) && allS Sy)) ∧ Hid (totS Sy ≤ totS S0 + countL (la.take i)) ∧ Hid (v.ownBlock ≠ some Rb) ∧ Hid (wr.heap[Rb]? = some (.cells #[.slice aa la.length ca, .slice ab lb.length cb] 66)) ∧ Hid (RowAt wr (Sx2 lo A B) la (.slice aa la.length ca)) ∧ Hid (RowAt wr (Sx2 lo A B) lb (.slice ab lb.length cb)) ∧ Hid (Below w.heap.size w wr)) (fun _ u _ => la.length - (intOf u).toNat)
      case atStart => exact ⟨0, S0, by omega, rfl, HSx, HABx, HRs2, by show _ ≤ _; simp [countL], by show _ ≠ _; intro e; exact HRb.out (by simpa [Value.ownBlock] using e), HXx, HRAx, HRBx, HBw⟩
      case round =>
        obtain ⟨i, Sy, hi, rfl, HSy, HABy, HRy, HTy, HOy, HXy, HRAy, HRBy, HBy⟩ := hrel
        obtain ⟨oa, oc, rfl, _⟩ := own_slice HSy.out.own
        by_cases hlt : i < la.length
        · have hlt2 : i < lb.length := by have := HLn.out; omega
          obtain ⟨_, ao1, cp1, he1, hk1⟩ := HRAy.out.kid
          cases he1
          obtain ⟨b1, o1, nvx, kvx, rfl, _, hb1, hr1, hrx⟩ := hk1 i hlt
          obtain ⟨_, ao2, cp2, he2, hk2⟩ := HRBy.out.kid
          cases he2
          obtain ⟨b2, o2, nvy, kvy, rfl, _, hb2, hr2, hry⟩ := hk2 i hlt2
          obtain ⟨x, hx⟩ : ∃ x, x = la[i] := ⟨_, rfl⟩
          obtain ⟨y, hy⟩ : ∃ y, y = lb[i] := ⟨_, rfl⟩
          rw [← hx] at hr1 hrx
          rw [← hy] at hr2 hry
          have HRz : Hid (R = ((aloneS x y && sameL x.kids y.kids && sameL (la.drop (i + 1)) (lb.drop (i + 1))) && allS Sy)) := by show _ = _; rw [HRy.out, sameL_step la lb i hlt hlt2, ← hx, ← hy, sameB_eq]
          have HTz : Hid (countL (la.take (i + 1)) = countL (la.take i) + (1 + countL x.kids)) := by
            show _ = _
            rw [take_countL la i hlt, ← hx]
            cases x
            rfl
          obtain ⟨an2, cn2, rfl, ak2, ck2, rfl⟩ := hrx.form
          obtain ⟨am2, cm2, rfl, al2, cl2, rfl⟩ := hry.form
          have c0 : wr.cell? ⟨b1, o1 + i * 4, none⟩ = some (i64 x.kind) := hr1 0 _ rfl
          have c1 : wr.cell? ⟨b1, o1 + i * 4 + 1, none⟩ = some (i64 x.num) := hr1 1 _ rfl
          have c2 : wr.cell? ⟨b1, o1 + i * 4 + 2, none⟩ = some (.slice an2 x.names.length cn2) := hr1 2 _ rfl
          have c3 : wr.cell? ⟨b1, o1 + i * 4 + 3, none⟩ = some (.slice ak2 x.kids.length ck2) := hr1 3 _ rfl
          have HB1 : Hid (Below wr.heap.size wr (wr.alloc (.cells #[i64 x.kind, i64 x.num, .slice an2 x.names.length cn2, .slice ak2 x.kids.length ck2] 25))) := below_one wr _
          have HX1 : Hid ((wr.alloc (.cells #[i64 x.kind, i64 x.num, .slice an2 x.names.length cn2, .slice ak2 x.kids.length ck2] 25)).heap[wr.heap.size]? = some (.cells #[i64 x.kind, i64 x.num, .slice an2 x.names.length cn2, .slice ak2 x.kids.length ck2] 25)) := heap_last wr _
          have d0 : (wr.alloc (.cells #[i64 x.kind, i64 x.num, .slice an2 x.names.length cn2, .slice ak2 x.kids.length ck2] 25)).cell? ⟨b2, o2 + i * 4, none⟩ = some (i64 y.kind) := (HB1.out.cell (p := ⟨b2, o2 + i * 4, none⟩) hb2).trans (hr2 0 _ rfl)
          have d1 : (wr.alloc (.cells #[i64 x.kind, i64 x.num, .slice an2 x.names.length cn2, .slice ak2 x.kids.length ck2] 25)).cell? ⟨b2, o2 + i * 4 + 1, none⟩ = some (i64 y.num) := (HB1.out.cell (p := ⟨b2, o2 + i * 4 + 1, none⟩) hb2).trans (hr2 1 _ rfl)
          have d2 : (wr.alloc (.cells #[i64 x.kind, i64 x.num, .slice an2 x.names.length cn2, .slice ak2 x.kids.length ck2] 25)).cell? ⟨b2, o2 + i * 4 + 2, none⟩ = some (.slice am2 y.names.length cm2) := (HB1.out.cell (p := ⟨b2, o2 + i * 4 + 2, none⟩) hb2).trans (hr2 2 _ rfl)
          have d3 : (wr.alloc (.cells #[i64 x.kind, i64 x.num, .slice an2 x.names.length cn2, .slice ak2 x.kids.length ck2] 25)).cell? ⟨b2, o2 + i * 4 + 3, none⟩ = some (.slice al2 y.kids.length cl2) := (HB1.out.cell (p := ⟨b2, o2 + i * 4 + 3, none⟩) hb2).trans (hr2 3 _ rfl)
          have e1 : (wr.alloc (.cells #[i64 x.kind, i64 x.num, .slice an2 x.names.length cn2, .slice ak2 x.kids.length ck2] 25)).cell? ⟨Rb, 1, none⟩ = some (.slice (some ⟨b2, o2, none⟩) lb.length cb) := blk_cell (blk_below HXy.out HB1.out) 1
          have hltB : (i : Int) < lb.length := by omega
          clear hx hy hr1 hr2 hk1 hk2 hb1 hb2 x0
          go_upto_region 8 with fail
          obtain ⟨Xb, hXb⟩ : ∃ Xb, Xb = wr.heap.size := ⟨_, rfl⟩
          have HXb := hid hXb
          rw [← hXb] at HX1 ⊢
          clear hXb c0 c1 c2 c3
          have HRX1 := hid (hrx.under HB1.out)
          have HRY1 := hid (hry.under HB1.out)
          have HS1 := hid (HSy.out.below HB1.out)
          have HA1 := hid (HABy.out.below HB1.out)
          have HQ1 := hid (blk_below HXy.out HB1.out)
          have HC1 : Hid (RowAt (wr.alloc (.cells #[i64 x.kind, i64 x.num, .slice an2 x.names.length cn2, .slice ak2 x.kids.length ck2] 25)) (Sx2 lo A B) la (.slice (some ⟨b1, o1, none⟩) la.length ca)) := HRAy.out.move HB1.out.size fun b hS hlt => ⟨hS, HB1.out.block b hlt⟩
          have HD1 : Hid (RowAt (wr.alloc (.cells #[i64 x.kind, i64 x.num, .slice an2 x.names.length cn2, .slice ak2 x.kids.length ck2] 25)) (Sx2 lo A B) lb (.slice (some ⟨b2, o2, none⟩) lb.length cb)) := HRBy.out.move HB1.out.size fun b hS hlt => ⟨hS, HB1.out.block b hlt⟩
          have HW1 : Hid (Below w.heap.size w (wr.alloc (.cells #[i64 x.kind, i64 x.num, .slice an2 x.names.length cn2, .slice ak2 x.kids.length ck2] 25))) := HBy.out.trans (HB1.out.mono HBy.out.size)
          clear hrx hry HSy HABy HXy HRAy HRBy HBy HRy HB1
          generalize wr.alloc (.cells #[i64 x.kind, i64 x.num, .slice an2 x.names.length cn2, .slice ak2 x.kids.length ck2] 25) = W1 at *
          have HB2 : Hid (Below W1.heap.size W1 (W1.alloc (.cells #[i64 y.kind, i64 y.num, .slice am2 y.names.length cm2, .slice al2 y.kids.length cl2] 25))) := below_one W1 _
          have HY2 : Hid ((W1.alloc (.cells #[i64 y.kind, i64 y.num, .slice am2 y.names.length cm2, .slice al2 y.kids.length cl2] 25)).heap[W1.heap.size]? = some (.cells #[i64 y.kind, i64 y.num, .slice am2 y.names.length cm2, .slice al2 y.kids.length cl2] 25)) := heap_last W1 _
          go_upto_region 9 with fail
          obtain ⟨Yb, hYb⟩ : ∃ Yb, Yb = W1.heap.size := ⟨_, rfl⟩
          rw [← hYb] at HY2 ⊢
          clear hYb d0 d1 d2 d3 e1
          have HX2 := hid (blk_below HX1.out HB2.out)
          have HRX2 := hid (HRX1.out.under HB2.out)
          have HRY2 := hid (HRY1.out.under HB2.out)
          have HS2 := hid (HS1.out.below HB2.out)
          have HA2 := hid (HA1.out.below HB2.out)
          have HQ2 := hid (blk_below HQ1.out HB2.out)
          have HC2 : Hid (RowAt (W1.alloc (.cells #[i64 y.kind, i64 y.num, .slice am2 y.names.length cm2, .slice al2 y.kids.length cl2] 25)) (Sx2 lo A B) la (.slice (some ⟨b1, o1, none⟩) la.length ca)) := HC1.out.move HB2.out.size fun b hS hlt => ⟨hS, HB2.out.block b hlt⟩
          have HD2 : Hid (RowAt (W1.alloc (.cells #[i64 y.kind, i64 y.num, .slice am2 y.names.length cm2, .slice al2 y.kids.length cl2] 25)) (Sx2 lo A B) lb (.slice (some ⟨b2, o2, none⟩) lb.length cb)) := HD1.out.move HB2.out.size fun b hS hlt => ⟨hS, HB2.out.block b hlt⟩
          have HW2 : Hid (Below w.heap.size w (W1.alloc (.cells #[i64 y.kind, i64 y.num, .slice am2 y.names.length cm2, .slice al2 y.kids.length cl2] 25))) := HW1.out.trans (HB2.out.mono HW1.out.size)
          clear HX1 HRX1 HRY1 HS1 HA1 HQ1 HC1 HD1 HW1 HB2
          generalize W1.alloc (.cells #[i64 y.kind, i64 y.num, .slice am2 y.names.length cm2, .slice al2 y.kids.length cl2] 25) = W2 at *
          have xc0 : W2.cell? ⟨Xb, 0, none⟩ = some (i64 x.kind) := blk_cell HX2.out 0
          have xc1 : W2.cell? ⟨Xb, 1, none⟩ = some (i64 x.num) := blk_cell HX2.out 1
          have xc2 : W2.cell? ⟨Xb, 2, none⟩ = some (.slice an2 x.names.length cn2) := blk_cell HX2.out 2
          have xc3 : W2.cell? ⟨Xb, 3, none⟩ = some (.slice ak2 x.kids.length ck2) := blk_cell HX2.out 3
          have yc0 : W2.cell? ⟨Yb, 0, none⟩ = some (i64 y.kind) := blk_cell HY2.out 0
          have yc1 : W2.cell? ⟨Yb, 1, none⟩ = some (i64 y.num) := blk_cell HY2.out 1
          have yc2 : W2.cell? ⟨Yb, 2, none⟩ = some (.slice am2 y.names.length cm2) := blk_cell HY2.out 2
          have yc3 : W2.cell? ⟨Yb, 3, none⟩ = some (.slice al2 y.kids.length cl2) := blk_cell HY2.out 3
          have HCA := hid (sameAlone_ok x y W2 _ _ _ _ _ HRX2.out HRY2.out)
          generalize hAl : aloneS x y = AL at *
          have HAl := hid hAl
          clear hAl
          go_wp2_with fail
          refine HCA.out.mono ?_
          rintro e W3 ⟨rfl, hb3⟩
          have HX3 := hid (blk_below HX2.out hb3)
          have HY3 := hid (blk_below HY2.out hb3)
          have HRX3 := hid (HRX2.out.under hb3)
          have HRY3 := hid (HRY2.out.under hb3)
          have HS3 := hid (HS2.out.below hb3)
          have HA3 := hid (HA2.out.below hb3)
          have HQ3 := hid (blk_below HQ2.out hb3)
          have HC3 : Hid (RowAt W3 (Sx2 lo A B) la (.slice (some ⟨b1, o1, none⟩) la.length ca)) := HC2.out.move hb3.size fun b hS hlt => ⟨hS, hb3.block b hlt⟩
          have HD3 : Hid (RowAt W3 (Sx2 lo A B) lb (.slice (some ⟨b2, o2, none⟩) lb.length cb)) := HD2.out.move hb3.size fun b hS hlt => ⟨hS, hb3.block b hlt⟩
          have HW3 : Hid (Below w.heap.size w W3) := HW2.out.trans (hb3.mono HW2.out.size)
          clear hb3 HX2 HY2 HRX2 HRY2 HS2 HA2 HQ2 HC2 HD2 HW2 HCA
          clear xc0 xc1 xc2 xc3 yc0 yc1 yc2 yc3
          cases AL with
          | false =>
            have HF : Hid (R = false) := by show _ = _; rw [HRz.out]; simp
            go_wp2_with fail
            go_ret
            exact ⟨by rw [HF.out]; rfl, HW3.out⟩
          | true =>
            have x3 : W3.cell? ⟨Xb, 3, none⟩ = some (.slice ak2 x.kids.length ck2) := blk_cell HX3.out 3
            have y3 : W3.cell? ⟨Yb, 3, none⟩ = some (.slice al2 y.kids.length cl2) := blk_cell HY3.out 3
            have hxl : x.kids.length ≤ 9223372036854775807 := by have := HRX3.out.row.kid.1; unfold maxLen at this; exact this
            have hkl : x.kids.length = y.kids.length := by have := HAl.out; unfold aloneS at this; simp only [Bool.and_eq_true, decide_eq_true_eq] at this; exact this.2
            have HKL := hid hkl
            clear hkl
            by_cases h0 : x.kids = []
            · have hx0 : x.kids.length = 0 := by rw [h0]; rfl
              have HR4 : Hid (R = (sameL (la.drop (i + 1)) (lb.drop (i + 1)) && allS Sy)) := by
                show _ = _
                have hy0 : y.kids = [] := List.eq_nil_of_length_eq_zero (by rw [← HKL.out]; exact hx0)
                rw [HRz.out, h0, hy0]
                rfl
              have HT4 : Hid (totS Sy ≤ totS S0 + countL (la.take (i + 1))) := by show _ ≤ _; have := HTy.out; have := HTz.out; omega
              rw [hx0] at x3
              clear h0 hx0
              go_wp2_with fail
              exact ⟨⟨i + 1, Sy, by omega, by go_num, HS3, HA3, HR4, HT4, HOy, HQ3, HC3, HD3, HW3⟩, by simp [intOf]; omega⟩
            · have hx1 : 0 < x.kids.length := List.length_pos_iff.2 h0
              have hx1I : (0 : Int) < x.kids.length := by omega
              have hSyl : Sy.length ≤ 100000 := by
                have h1 := tot_len Sy
                have h2 := HTy.out
                have h3 := HTot.out
                have h4 := countL_take la i
                omega
              obtain ⟨ao9, cap9, W4, hrun, hst, hab, hfr, hfar, hnew⟩ := stk_push HS3.out HA3.out x.kids y.kids _ _ _ _ _ _ HRX3.out.row HRY3.out.row HKL.out hSyl (by have := HW3.out.size; have := HLO.out; omega)
              have HRUN := hid hrun
              have HS4 := hid hst
              have HA4 := hid hab
              have hOne : ∀ k, k < W3.heap.size → k ≠ Rb → True := fun _ _ _ => trivial
              have HQ4 : Hid (W4.heap[Rb]? = some (.cells #[.slice (some ⟨b1, o1, none⟩) la.length ca, .slice (some ⟨b2, o2, none⟩) lb.length cb] 66)) := by show _ = _; rw [hfar Rb (blk_lt HQ3.out) (fun e => HOy.out e.symm)]; exact HQ3.out
              have hkeep : ∀ b, Sx2 lo A B b → b < W3.heap.size → Sx2 lo A B b ∧ W4.heap[b]? = W3.heap[b]? := by
                intro b hb _
                refine ⟨hb, ?_⟩
                obtain ⟨⟨c, e1⟩, d, e2⟩ := HA3.out
                rcases hb with hb | rfl | rfl
                · exact hfr.below.block b hb
                · rw [hfr.kept _ _ e1 (by rfl), e1]
                · rw [hfr.kept _ _ e2 (by rfl), e2]
              have HC4 : Hid (RowAt W4 (Sx2 lo A B) la (.slice (some ⟨b1, o1, none⟩) la.length ca)) := HC3.out.move hfr.size hkeep
              have HD4 : Hid (RowAt W4 (Sx2 lo A B) lb (.slice (some ⟨b2, o2, none⟩) lb.length cb)) := HD3.out.move hfr.size hkeep
              have HO4 : Hid ((Value.slice ao9 (Sy.length + 1) cap9).ownBlock ≠ some Rb) := by
                show _ ≠ _
                rcases hnew with h | h
                · rw [h]; exact HOy.out
                · rw [h]; intro e; cases e; have := blk_lt HQ3.out; omega
              have HW4 : Hid (Below w.heap.size w W4) := HW3.out.trans (HLO.out ▸ hfr.below)
              have HR4 : Hid (R = (sameL (la.drop (i + 1)) (lb.drop (i + 1)) && allS (Sy ++ [(x.kids, y.kids, .slice ak2 x.kids.length ck2, .slice al2 y.kids.length cl2)]))) := by
                show _ = _
                rw [HRz.out, allS_app]
                simp only [allS, List.all_cons, List.all_nil, Bool.and_true, Bool.true_and]
                generalize sameL x.kids y.kids = p
                generalize sameL (la.drop (i + 1)) (lb.drop (i + 1)) = q
                generalize (Sy.all fun x => sameL x.1 x.2.1) = r
                cases p <;> cases q <;> cases r <;> rfl
              have HT4 : Hid (totS (Sy ++ [(x.kids, y.kids, .slice ak2 x.kids.length ck2, .slice al2 y.kids.length cl2)]) ≤ totS S0 + countL (la.take (i + 1))) := by
                show _ ≤ _
                rw [totS_app]
                have e : totS [((x.kids, y.kids, .slice ak2 x.kids.length ck2, .slice al2 y.kids.length cl2) : Rw)] = 1 + countL x.kids := by simp [totS]
                have h1 := HTy.out
                have h2 := HTz.out
                omega
              clear hrun hst hab hfr hfar hnew hkeep h0 hOne hx1
              go_wp2_with (at_builtin; refine wpList_app_run rfl (.tmp 51) (.tmp 57) 67 rfl _ _ rfl rfl 67 rfl _ _ HRUN.out ?_)
              exact ⟨⟨i + 1, _, by omega, by go_num, HS4, HA4, HR4, HT4, HO4, HQ4, HC4, HD4, HW4⟩, by simp [intOf]; omega⟩
        · have he : i = la.length := by omega
          have HR5 : Hid (R = allS Sy) := by
            show _ = _
            have h1 := HRy.out
            have h2 := HLn.out
            rw [he, List.drop_length, h2, List.drop_length] at h1
            rw [h1]
            rfl
          have HT5 : Hid (totS Sy < gk) := by
            show _ < _
            have h1 := HTy.out
            have h2 := HTot.out
            have h3 := countL_take la i
            omega
          clear he x0
          go_wp2_with fail
          go_roundg (totS Sy)
          case measure => exact HT5.out
          case rel => exact ⟨Sy, Nat.le_refl _, by have := HT5.out; omega, HSy, HABy, HR5, HBy⟩
end Go.Proofs.YteecjilknembdaaDoor
