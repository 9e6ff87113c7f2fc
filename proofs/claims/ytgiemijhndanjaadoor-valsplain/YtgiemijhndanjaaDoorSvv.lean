/- vals.Same: its contract; no statement is proved in this text. -/
import Derived.Deep.LoopGhost
import Derived.Test.YtgiemijhndanjaaDoorRsv
namespace Go.Proofs.YtgiemijhndanjaaDoor
open Go.ChangeShapes Go.WideShapes Go.ChangeAt Go.RowKit Go.Deep
attribute [local go_sem ↓] Go.wp_at_zero Go.wp_at_succ

def aloneV (a b : Vl) : Bool := decide (a.kind = b.kind) && decide (a.num = b.num) && decide (a.s = b.s) && decide (a.kids.length = b.kids.length)
theorem sameV_al (a b : Vl) : sameV a b = (aloneV a b && sameW a.kids b.kids) := by rw [sameV_eq]; rfl
theorem sameW_step : ∀ (la lb : List Vl) (i : Nat) (h1 : i < la.length) (h2 : i < lb.length), sameW (la.drop i) (lb.drop i) = (sameV la[i] lb[i] && sameW (la.drop (i + 1)) (lb.drop (i + 1)))
  | _ :: _, _ :: _, 0, _, _ => by simp [sameW]
  | _ :: r, _ :: s, i + 1, h1, h2 => sameW_step r s i (by simpa using h1) (by simpa using h2)
/-- Two rows, with their slices. -/
abbrev Rw : Type := List Vl × List Vl × Value × Value
def scs (Ss : List Rw) : List Value := Ss.flatMap fun x => [x.2.2.1, x.2.2.2]
theorem scs_app (a b : List Rw) : scs (a ++ b) = scs a ++ scs b := by simp [scs]
def allS (Ss : List Rw) : Bool := Ss.all fun x => sameW x.1 x.2.1
def totS (Ss : List Rw) : Nat := (Ss.map fun x => 1 + sizeL x.1).sum
theorem allS_app (a b : List Rw) : allS (a ++ b) = (allS a && allS b) := by simp [allS, List.all_append]
theorem totS_app (a b : List Rw) : totS (a ++ b) = totS a + totS b := by simp [totS]
theorem totS_len : ∀ S : List Rw, S.length ≤ totS S
  | [] => by simp
  | x :: r => by
    have := totS_len r
    simp only [totS, List.map_cons, List.sum_cons, List.length_cons] at this ⊢
    omega
abbrev rowV (V : World) (l : List Vl) (v : Value) : Prop := Vd V (fun _ => True) (.mk 0 0 [] l) v
theorem under73 : Tryd.prog.underlying 73 = some (.slice 72) := Tryd.underlying73
theorem info72 : (Tryd.prog.info? 72).map (fun i => (i.zero, i.size, i.bytes)) = some (some (.agg #[.slice none 0 0, .slice none 0 0]), 2, 48) := by kernel_rfl
theorem two_one (a b : Option Addr) (n m c d : Nat) : ∀ u ∈ [Value.slice a n c, .slice b m d], u.oneCell' = true := by
  intro u hu
  simp only [List.mem_cons, List.not_mem_nil, or_false] at hu
  rcases hu with rfl | rfl <;> rfl
set_option maxRecDepth 100000 in
set_option maxHeartbeats 12800000 in
theorem vsame_ok (V U : Vl) (w : World) (S : Nat → Prop) (kv lv : Value) (hV : Vd w S V kv) (hU : Vd w S U lv) (hsz : V.size ≤ 100000) : Calls Tryd.prog 22 #[vlV V kv, vlV U lv] w fun e w' => e = .returned (.bool (sameV V U)) ∧ Below w.heap.size w w' := by
  obtain ⟨R, hRe⟩ : ∃ R, R = sameV V U := ⟨_, rfl⟩
  have HRe := hid hRe
  rw [← hRe]
  clear hRe
  obtain ⟨ak, ck, rfl⟩ := hV.form
  obtain ⟨al, cl, rfl⟩ := hU.form
  have HB4 : Hid (Below w.heap.size w ((((w.alloc (.cells #[i64 V.kind, i64 V.num, str V.s, .slice ak V.kids.length ck] 24)).alloc (.cells #[i64 U.kind, i64 U.num, str U.s, .slice al U.kids.length cl] 24)).alloc (.cells #[i64 V.kind, i64 V.num, str V.s, .slice ak V.kids.length ck] 24)).alloc (.cells #[i64 U.kind, i64 U.num, str U.s, .slice al U.kids.length cl] 24))) := ((((below_one w _).trans ((below_one _ _).mono (by simp))).trans ((below_one _ _).mono (by simp; omega))).trans ((below_one _ _).mono (by simp; omega)))
  have HZ4 : Hid (((((w.alloc (.cells #[i64 V.kind, i64 V.num, str V.s, .slice ak V.kids.length ck] 24)).alloc (.cells #[i64 U.kind, i64 U.num, str U.s, .slice al U.kids.length cl] 24)).alloc (.cells #[i64 V.kind, i64 V.num, str V.s, .slice ak V.kids.length ck] 24)).alloc (.cells #[i64 U.kind, i64 U.num, str U.s, .slice al U.kids.length cl] 24)).heap.size = w.heap.size + 4) := by show _ = _; simp
  have HA4 : Hid (((((w.alloc (.cells #[i64 V.kind, i64 V.num, str V.s, .slice ak V.kids.length ck] 24)).alloc (.cells #[i64 U.kind, i64 U.num, str U.s, .slice al U.kids.length cl] 24)).alloc (.cells #[i64 V.kind, i64 V.num, str V.s, .slice ak V.kids.length ck] 24)).alloc (.cells #[i64 U.kind, i64 U.num, str U.s, .slice al U.kids.length cl] 24)).heap[w.heap.size + 2]? = some (.cells #[i64 V.kind, i64 V.num, str V.s, .slice ak V.kids.length ck] 24)) := by show _ = _; exact blk_alloc (heap_at3 _ _ _ (by simp)) _
  have HC4 : Hid (((((w.alloc (.cells #[i64 V.kind, i64 V.num, str V.s, .slice ak V.kids.length ck] 24)).alloc (.cells #[i64 U.kind, i64 U.num, str U.s, .slice al U.kids.length cl] 24)).alloc (.cells #[i64 V.kind, i64 V.num, str V.s, .slice ak V.kids.length ck] 24)).alloc (.cells #[i64 U.kind, i64 U.num, str U.s, .slice al U.kids.length cl] 24)).heap[w.heap.size + 3]? = some (.cells #[i64 U.kind, i64 U.num, str U.s, .slice al U.kids.length cl] 24)) := by show _ = _; exact heap_at3 _ _ _ (by simp)
  have HRA : Hid (rowV ((((w.alloc (.cells #[i64 V.kind, i64 V.num, str V.s, .slice ak V.kids.length ck] 24)).alloc (.cells #[i64 U.kind, i64 U.num, str U.s, .slice al U.kids.length cl] 24)).alloc (.cells #[i64 V.kind, i64 V.num, str V.s, .slice ak V.kids.length ck] 24)).alloc (.cells #[i64 U.kind, i64 U.num, str U.s, .slice al U.kids.length cl] 24)) [V] (.slice (some ⟨w.heap.size + 2, 0, none⟩) 1 1)) := Vd.one ((hV.mono (S' := fun _ => True) (fun _ _ _ => trivial)).under HB4.out) HA4.out trivial
  have HRB : Hid (rowV ((((w.alloc (.cells #[i64 V.kind, i64 V.num, str V.s, .slice ak V.kids.length ck] 24)).alloc (.cells #[i64 U.kind, i64 U.num, str U.s, .slice al U.kids.length cl] 24)).alloc (.cells #[i64 V.kind, i64 V.num, str V.s, .slice ak V.kids.length ck] 24)).alloc (.cells #[i64 U.kind, i64 U.num, str U.s, .slice al U.kids.length cl] 24)) [U] (.slice (some ⟨w.heap.size + 3, 0, none⟩) 1 1)) := Vd.one ((hU.mono (S' := fun _ => True) (fun _ _ _ => trivial)).under HB4.out) HC4.out trivial
  have HS0 : Hid ((((((w.alloc (.cells #[i64 V.kind, i64 V.num, str V.s, .slice ak V.kids.length ck] 24)).alloc (.cells #[i64 U.kind, i64 U.num, str U.s, .slice al U.kids.length cl] 24)).alloc (.cells #[i64 V.kind, i64 V.num, str V.s, .slice ak V.kids.length ck] 24)).alloc (.cells #[i64 U.kind, i64 U.num, str U.s, .slice al U.kids.length cl] 24)).alloc (.cells #[.slice (some ⟨w.heap.size + 2, 0, none⟩) 1 1, .slice (some ⟨w.heap.size + 3, 0, none⟩) 1 1] 72)).ownsRow ((((w.alloc (.cells #[i64 V.kind, i64 V.num, str V.s, .slice ak V.kids.length ck] 24)).alloc (.cells #[i64 U.kind, i64 U.num, str U.s, .slice al U.kids.length cl] 24)).alloc (.cells #[i64 V.kind, i64 V.num, str V.s, .slice ak V.kids.length ck] 24)).alloc (.cells #[i64 U.kind, i64 U.num, str U.s, .slice al U.kids.length cl] 24)).heap.size 72 2 (.slice (some ⟨w.heap.size + 4, 0, none⟩) 1 1) 1 (scs [([V], [U], Value.slice (some ⟨w.heap.size + 2, 0, none⟩) 1 1, Value.slice (some ⟨w.heap.size + 3, 0, none⟩) 1 1)])) := by
    have hg : (((((w.alloc (.cells #[i64 V.kind, i64 V.num, str V.s, .slice ak V.kids.length ck] 24)).alloc (.cells #[i64 U.kind, i64 U.num, str U.s, .slice al U.kids.length cl] 24)).alloc (.cells #[i64 V.kind, i64 V.num, str V.s, .slice ak V.kids.length ck] 24)).alloc (.cells #[i64 U.kind, i64 U.num, str U.s, .slice al U.kids.length cl] 24)).alloc (.cells #[.slice (some ⟨w.heap.size + 2, 0, none⟩) 1 1, .slice (some ⟨w.heap.size + 3, 0, none⟩) 1 1] 72)).heap[w.heap.size + 4]? = some (.cells #[.slice (some ⟨w.heap.size + 2, 0, none⟩) 1 1, .slice (some ⟨w.heap.size + 3, 0, none⟩) 1 1] 72) := by
      rw [← HZ4.out]
      exact heap_last _ _
    exact ⟨rfl, Or.inr ⟨w.heap.size + 4, 1, _, rfl, by rw [HZ4.out]; exact Nat.le_refl _, hg, Nat.le_refl _, by unfold maxLen; simp, rfl, rfl⟩⟩
  have HB5 : Hid (Below ((((w.alloc (.cells #[i64 V.kind, i64 V.num, str V.s, .slice ak V.kids.length ck] 24)).alloc (.cells #[i64 U.kind, i64 U.num, str U.s, .slice al U.kids.length cl] 24)).alloc (.cells #[i64 V.kind, i64 V.num, str V.s, .slice ak V.kids.length ck] 24)).alloc (.cells #[i64 U.kind, i64 U.num, str U.s, .slice al U.kids.length cl] 24)).heap.size ((((w.alloc (.cells #[i64 V.kind, i64 V.num, str V.s, .slice ak V.kids.length ck] 24)).alloc (.cells #[i64 U.kind, i64 U.num, str U.s, .slice al U.kids.length cl] 24)).alloc (.cells #[i64 V.kind, i64 V.num, str V.s, .slice ak V.kids.length ck] 24)).alloc (.cells #[i64 U.kind, i64 U.num, str U.s, .slice al U.kids.length cl] 24)) (((((w.alloc (.cells #[i64 V.kind, i64 V.num, str V.s, .slice ak V.kids.length ck] 24)).alloc (.cells #[i64 U.kind, i64 U.num, str U.s, .slice al U.kids.length cl] 24)).alloc (.cells #[i64 V.kind, i64 V.num, str V.s, .slice ak V.kids.length ck] 24)).alloc (.cells #[i64 U.kind, i64 U.num, str U.s, .slice al U.kids.length cl] 24)).alloc (.cells #[.slice (some ⟨w.heap.size + 2, 0, none⟩) 1 1, .slice (some ⟨w.heap.size + 3, 0, none⟩) 1 1] 72))) := below_one _ _
  have HRow0 : Hid (∀ x ∈ [((([V], [U], Value.slice (some ⟨w.heap.size + 2, 0, none⟩) 1 1, Value.slice (some ⟨w.heap.size + 3, 0, none⟩) 1 1)) : Rw)], rowV ((((w.alloc (.cells #[i64 V.kind, i64 V.num, str V.s, .slice ak V.kids.length ck] 24)).alloc (.cells #[i64 U.kind, i64 U.num, str U.s, .slice al U.kids.length cl] 24)).alloc (.cells #[i64 V.kind, i64 V.num, str V.s, .slice ak V.kids.length ck] 24)).alloc (.cells #[i64 U.kind, i64 U.num, str U.s, .slice al U.kids.length cl] 24)) x.1 x.2.2.1 ∧ rowV ((((w.alloc (.cells #[i64 V.kind, i64 V.num, str V.s, .slice ak V.kids.length ck] 24)).alloc (.cells #[i64 U.kind, i64 U.num, str U.s, .slice al U.kids.length cl] 24)).alloc (.cells #[i64 V.kind, i64 V.num, str V.s, .slice ak V.kids.length ck] 24)).alloc (.cells #[i64 U.kind, i64 U.num, str U.s, .slice al U.kids.length cl] 24)) x.2.1 x.2.2.2 ∧ x.1.length = x.2.1.length) := by
    show ∀ x ∈ _, _
    intro x hx
    rw [List.mem_singleton.1 hx]
    exact ⟨HRA.out, HRB.out, rfl⟩
  have HTot0 : Hid (totS [((([V], [U], Value.slice (some ⟨w.heap.size + 2, 0, none⟩) 1 1, Value.slice (some ⟨w.heap.size + 3, 0, none⟩) 1 1)) : Rw)] = 1 + V.size) := by show _ = _; simp [totS, sizeL]
  have HRS0 : Hid (R = allS [((([V], [U], Value.slice (some ⟨w.heap.size + 2, 0, none⟩) 1 1, Value.slice (some ⟨w.heap.size + 3, 0, none⟩) 1 1)) : Rw)]) := by show _ = _; rw [HRe.out]; simp [allS, sameW]
  clear hV hU HA4 HC4 HRA HRB
  go_enter Tryd.func22, Tryd.ntmps22
  go_wp2_with fail
  generalize ((((w.alloc (.cells #[i64 V.kind, i64 V.num, str V.s, .slice ak V.kids.length ck] 24)).alloc (.cells #[i64 U.kind, i64 U.num, str U.s, .slice al U.kids.length cl] 24)).alloc (.cells #[i64 V.kind, i64 V.num, str V.s, .slice ak V.kids.length ck] 24)).alloc (.cells #[i64 U.kind, i64 U.num, str U.s, .slice al U.kids.length cl] 24)).alloc (.cells #[.slice (some ⟨w.heap.size + 2, 0, none⟩) 1 1, .slice (some ⟨w.heap.size + 3, 0, none⟩) 1 1] 72) = V5 at *
  generalize ((((w.alloc (.cells #[i64 V.kind, i64 V.num, str V.s, .slice ak V.kids.length ck] 24)).alloc (.cells #[i64 U.kind, i64 U.num, str U.s, .slice al U.kids.length cl] 24)).alloc (.cells #[i64 V.kind, i64 V.num, str V.s, .slice ak V.kids.length ck] 24)).alloc (.cells #[i64 U.kind, i64 U.num, str U.s, .slice al U.kids.length cl] 24)) = V4 at *
  generalize ((([V], [U], Value.slice (some ⟨w.heap.size + 2, 0, none⟩) 1 1, Value.slice (some ⟨w.heap.size + 3, 0, none⟩) 1 1)) : Rw) = r0 at *
  obtain ⟨G, hG⟩ : ∃ G, G = V4.heap.size := ⟨_, rfl⟩
  have HGe := hid hG
  rw [← hG] at HS0 HB5
  have HLO : Hid (w.heap.size ≤ G) := by show _ ≤ _; rw [hG, HZ4.out]; omega
  clear hG HZ4
  obtain ⟨g0, hg0⟩ : ∃ g0, g0 = 1 + V.size := ⟨_, rfl⟩
  rw [← hg0] at HTot0
  have hg1 : g0 ≤ 100001 := by omega
  clear hg0 hsz
  generalize (Value.slice (some ⟨w.heap.size + 4, 0, none⟩) 1 1) = v0 at *
  go_loopg [5] g0 (fun g v wr => ∃ (Ss : List Rw), g ≤ 100001 ∧ Hid (totS Ss ≤ g) ∧ Hid (wr.ownsRow G 72 2 v Ss.length (scs Ss)) ∧ Hid (∀ x ∈ Ss, rowV V4 x.1 x.2.2.1 ∧ rowV V4 x.2.1 x.2.2.2 ∧ x.1.length = x.2.1.length) ∧ Hid (R = allS Ss) ∧ Hid (Below G V4 wr))
  case atStart => exact ⟨[r0], by omega, Nat.le_of_eq HTot0.out, HS0, HRow0, HRS0, HB5⟩
  case round =>
    obtain ⟨Ss, hg2, HTot, HOwn, HRow, HRs, HBw⟩ := hrel
    obtain ⟨va, vc, rfl, _⟩ := own_slice HOwn.out
    rcases List.eq_nil_or_concat Ss with hnil | ⟨S0, x, hcc⟩
    · subst hnil
      have HF : Hid (R = true) := by show _ = _; rw [HRs.out]; rfl
      have HBF : Hid (Below w.heap.size w wr) := HB4.out.trans (HBw.out.mono HLO.out)
      clear HRs
      go_wp2_with fail
      go_ret
      exact ⟨by rw [HF.out]; rfl, HBF.out⟩
    · rw [List.concat_eq_append] at hcc
      subst hcc
      obtain ⟨la, lb, va1, vb1⟩ := x
      obtain ⟨hra, hrb, hlen⟩ : rowV V4 la va1 ∧ rowV V4 lb vb1 ∧ la.length = lb.length := HRow.out (la, lb, va1, vb1) (by simp)
      obtain ⟨aa, ca, rfl⟩ := hra.form
      obtain ⟨ab, cb, rfl⟩ := hrb.form
      have hk1 : (Vl.mk 0 0 [] la).kids.length = la.length := rfl
      have hk2 : (Vl.mk 0 0 [] lb).kids.length = lb.length := rfl
      rw [hk1, hk2] at HOwn HRow HRs HTot ⊢
      rw [hk1] at hra
      rw [hk2] at hrb
      have hown := HOwn.out
      obtain ⟨n, hn⟩ : ∃ n, n = S0.length := ⟨_, rfl⟩
      have hln : (S0 ++ [((la, lb, .slice aa la.length ca, .slice ab lb.length cb) : Rw)]).length = n + 1 := by rw [List.length_append, hn]; rfl
      have hrw : scs (S0 ++ [((la, lb, .slice aa la.length ca, .slice ab lb.length cb) : Rw)]) = scs S0 ++ [.slice aa la.length ca, .slice ab lb.length cb] := by rw [scs_app]; rfl
      rw [hln, hrw] at hown
      rw [hln]
      obtain ⟨hown2, g, rfl, hglt, hcap, hcell⟩ := own_pop hown rfl
      have q0 : wr.cell? ⟨g, n * 2, none⟩ = some (.slice aa la.length ca) := hcell 0 _ rfl
      have q1 : wr.cell? ⟨g, n * 2 + 1, none⟩ = some (.slice ab lb.length cb) := hcell 1 _ rfl
      have htot : totS S0 + (1 + sizeL la) ≤ gk := by have := HTot.out; rw [totS_app] at this; simpa [totS] using this
      have hnI : n ≤ 100001 := by have := totS_len S0; omega
      have hlaI : la.length ≤ 100001 := by have := sizeL_len la; omega
      have HOw2 : Hid ((wr.alloc (.cells #[.slice aa la.length ca, .slice ab lb.length cb] 72)).ownsRow G 72 2 (.slice (some ⟨g, 0, none⟩) n vc) S0.length (scs S0)) := by show World.ownsRow _ _ _ _ _ _ _; rw [← hn]; exact hown2.alloc _
      have HRw2 : Hid (∀ x ∈ S0, rowV V4 x.1 x.2.2.1 ∧ rowV V4 x.2.1 x.2.2.2 ∧ x.1.length = x.2.1.length) := fun y hy => HRow.out y (by simp [hy])
      have HRs2 : Hid (R = (sameW (la.drop 0) (lb.drop 0) && allS S0)) := by
        show _ = _
        rw [HRs.out, allS_app]
        simp only [allS, List.all_cons, List.all_nil, Bool.and_true, List.drop_zero]
        exact Bool.and_comm _ _
      have HXx : Hid ((wr.alloc (.cells #[.slice aa la.length ca, .slice ab lb.length cb] 72)).heap[wr.heap.size]? = some (.cells #[.slice aa la.length ca, .slice ab lb.length cb] 72)) := heap_last wr _
      have HNb : Hid (g ≠ wr.heap.size) := by show _ ≠ _; omega
      have HBx : Hid (Below G V4 (wr.alloc (.cells #[.slice aa la.length ca, .slice ab lb.length cb] 72))) := HBw.out.trans ((below_one wr _).mono (by have := HBw.out.size; have := HGe.out; omega))
      have HRa := hid hra
      have HRb := hid hrb
      have HLn := hid hlen
      have HTt := hid htot
      have hcapI : n ≤ vc := by omega
      clear hra hrb hlen hown hown2 hcell hn hln hrw hk1 hk2 htot HOwn HRow HRs HTot hglt HBw
      go_upto_region 5 with fail
      obtain ⟨Rb, hRb⟩ : ∃ Rb, Rb = wr.heap.size := ⟨_, rfl⟩
      rw [← hRb] at HXx HNb ⊢
      clear hRb q0 q1
      generalize wr.alloc (.cells #[.slice aa la.length ca, .slice ab lb.length cb] 72) = W0 at *
      have x0 : W0.cell? ⟨Rb, 0, none⟩ = some (.slice aa la.length ca) := blk_cell HXx.out 0
      go_wp2_with fail
      go_loopw [5, 33] (fun v u wr => ∃ (i : Nat) (Sy : List Rw), i ≤ la.length ∧ u = i64 i ∧ Hid (wr.ownsRow G 72 2 v Sy.length (scs Sy)) ∧ Hid (∀ x ∈ Sy, rowV V4 x.1 x.2.2.1 ∧ rowV V4 x.2.1 x.2.2.2 ∧ x.1.length = x.2.1.length) ∧ Hid (R = (sameW (la.drop i) (lb.drop i) && allS Sy)) ∧ Hid (totS Sy ≤ totS S0 + sizeL (la.take i)) ∧ Hid (v.ownBlock ≠ some Rb) ∧ Hid (wr.heap[Rb]? = some (.cells #[.slice aa la.length ca, .slice ab lb.length cb] 72)) ∧ Hid (Below G V4 wr)) (fun _ u _ => la.length - (intOf u).toNat)
      case atStart => exact ⟨0, S0, by omega, rfl, HOw2, HRw2, HRs2, by show _ ≤ _; simp [sizeL], by show _ ≠ _; intro e; exact HNb.out (by simpa [Value.ownBlock] using e), HXx, HBx⟩
      case round =>
        obtain ⟨i, Sy, hi, rfl, HOy, HRy, HRz0, HTy, HNy, HXy, HBy⟩ := hrel
        obtain ⟨oa, oc, rfl, _⟩ := own_slice HOy.out
        by_cases hlt : i < la.length
        · have hlt2 : i < lb.length := by have := HLn.out; omega
          obtain ⟨b1, o1, kvx, rfl, _, hb1, hr1, hrx⟩ := HRa.out.kid i hlt
          obtain ⟨b2, o2, kvy, rfl, _, hb2, hr2, hry⟩ := HRb.out.kid i hlt2
          obtain ⟨x, hx⟩ : ∃ x, x = la[i] := ⟨_, rfl⟩
          obtain ⟨y, hy⟩ : ∃ y, y = lb[i] := ⟨_, rfl⟩
          have hx2 : (Vl.mk 0 0 [] la).kids[i]'hlt = x := hx.symm
          have hy2 : (Vl.mk 0 0 [] lb).kids[i]'hlt2 = y := hy.symm
          rw [hx2] at hr1 hrx
          rw [hy2] at hr2 hry
          have HRz : Hid (R = ((aloneV x y && sameW x.kids y.kids && sameW (la.drop (i + 1)) (lb.drop (i + 1))) && allS Sy)) := by show _ = _; rw [HRz0.out, sameW_step la lb i hlt hlt2, ← hx, ← hy, sameV_al]
          have HTz : Hid (sizeL (la.take (i + 1)) = sizeL (la.take i) + (1 + sizeL x.kids)) := by show _ = _; rw [sizeL_take la i hlt, ← hx, x.size_eq]
          have hxl := hrx.lens.2
          have hyl := hry.lens.2
          unfold maxLen at hxl hyl
          obtain ⟨ak2, ck2, rfl⟩ := hrx.form
          obtain ⟨al2, cl2, rfl⟩ := hry.form
          have HRX := hid hrx.row
          have HRY := hid hry.row
          rw [← HGe.out] at hb1 hb2
          have c0 : wr.cell? ⟨b1, o1 + i * 4, none⟩ = some (i64 x.kind) := (HBy.out.cell (p := ⟨b1, o1 + i * 4, none⟩) hb1).trans (hr1 0 _ rfl)
          have c1 : wr.cell? ⟨b1, o1 + i * 4 + 1, none⟩ = some (i64 x.num) := (HBy.out.cell (p := ⟨b1, o1 + i * 4 + 1, none⟩) hb1).trans (hr1 1 _ rfl)
          have c2 : wr.cell? ⟨b1, o1 + i * 4 + 2, none⟩ = some (str x.s) := (HBy.out.cell (p := ⟨b1, o1 + i * 4 + 2, none⟩) hb1).trans (hr1 2 _ rfl)
          have c3 : wr.cell? ⟨b1, o1 + i * 4 + 3, none⟩ = some (.slice ak2 x.kids.length ck2) := (HBy.out.cell (p := ⟨b1, o1 + i * 4 + 3, none⟩) hb1).trans (hr1 3 _ rfl)
          have HBx1 : Hid (Below G V4 (wr.alloc (.cells #[i64 x.kind, i64 x.num, str x.s, .slice ak2 x.kids.length ck2] 24))) := HBy.out.trans ((below_one wr _).mono (by have := HBy.out.size; have := HGe.out; omega))
          have HX1 : Hid ((wr.alloc (.cells #[i64 x.kind, i64 x.num, str x.s, .slice ak2 x.kids.length ck2] 24)).heap[wr.heap.size]? = some (.cells #[i64 x.kind, i64 x.num, str x.s, .slice ak2 x.kids.length ck2] 24)) := heap_last wr _
          have HO1 : Hid ((wr.alloc (.cells #[i64 x.kind, i64 x.num, str x.s, .slice ak2 x.kids.length ck2] 24)).ownsRow G 72 2 (.slice oa Sy.length oc) Sy.length (scs Sy)) := HOy.out.alloc _
          have HQ1 : Hid ((wr.alloc (.cells #[i64 x.kind, i64 x.num, str x.s, .slice ak2 x.kids.length ck2] 24)).heap[Rb]? = some (.cells #[.slice (some ⟨b1, o1, none⟩) la.length ca, .slice (some ⟨b2, o2, none⟩) lb.length cb] 72)) := blk_alloc HXy.out _
          have d0 : (wr.alloc (.cells #[i64 x.kind, i64 x.num, str x.s, .slice ak2 x.kids.length ck2] 24)).cell? ⟨b2, o2 + i * 4, none⟩ = some (i64 y.kind) := (HBx1.out.cell (p := ⟨b2, o2 + i * 4, none⟩) hb2).trans (hr2 0 _ rfl)
          have d1 : (wr.alloc (.cells #[i64 x.kind, i64 x.num, str x.s, .slice ak2 x.kids.length ck2] 24)).cell? ⟨b2, o2 + i * 4 + 1, none⟩ = some (i64 y.num) := (HBx1.out.cell (p := ⟨b2, o2 + i * 4 + 1, none⟩) hb2).trans (hr2 1 _ rfl)
          have d2 : (wr.alloc (.cells #[i64 x.kind, i64 x.num, str x.s, .slice ak2 x.kids.length ck2] 24)).cell? ⟨b2, o2 + i * 4 + 2, none⟩ = some (str y.s) := (HBx1.out.cell (p := ⟨b2, o2 + i * 4 + 2, none⟩) hb2).trans (hr2 2 _ rfl)
          have d3 : (wr.alloc (.cells #[i64 x.kind, i64 x.num, str x.s, .slice ak2 x.kids.length ck2] 24)).cell? ⟨b2, o2 + i * 4 + 3, none⟩ = some (.slice al2 y.kids.length cl2) := (HBx1.out.cell (p := ⟨b2, o2 + i * 4 + 3, none⟩) hb2).trans (hr2 3 _ rfl)
          have e1 : (wr.alloc (.cells #[i64 x.kind, i64 x.num, str x.s, .slice ak2 x.kids.length ck2] 24)).cell? ⟨Rb, 1, none⟩ = some (.slice (some ⟨b2, o2, none⟩) lb.length cb) := blk_cell HQ1.out 1
          have hltB : (i : Int) < lb.length := by omega
          clear hx hy hx2 hy2 hr1 hr2 hrx hry hb1 hb2 x0 HOy HXy HBy HRz0
          go_upto_region 8 with fail
          obtain ⟨Xb, hXb⟩ : ∃ Xb, Xb = wr.heap.size := ⟨_, rfl⟩
          rw [← hXb] at HX1 ⊢
          clear hXb c0 c1 c2 c3
          generalize wr.alloc (.cells #[i64 x.kind, i64 x.num, str x.s, .slice ak2 x.kids.length ck2] 24) = W1 at *
          have HY2 : Hid ((W1.alloc (.cells #[i64 y.kind, i64 y.num, str y.s, .slice al2 y.kids.length cl2] 24)).heap[W1.heap.size]? = some (.cells #[i64 y.kind, i64 y.num, str y.s, .slice al2 y.kids.length cl2] 24)) := heap_last W1 _
          have HX2 : Hid ((W1.alloc (.cells #[i64 y.kind, i64 y.num, str y.s, .slice al2 y.kids.length cl2] 24)).heap[Xb]? = some (.cells #[i64 x.kind, i64 x.num, str x.s, .slice ak2 x.kids.length ck2] 24)) := blk_alloc HX1.out _
          have HO2 : Hid ((W1.alloc (.cells #[i64 y.kind, i64 y.num, str y.s, .slice al2 y.kids.length cl2] 24)).ownsRow G 72 2 (.slice oa Sy.length oc) Sy.length (scs Sy)) := HO1.out.alloc _
          have HQ2 : Hid ((W1.alloc (.cells #[i64 y.kind, i64 y.num, str y.s, .slice al2 y.kids.length cl2] 24)).heap[Rb]? = some (.cells #[.slice (some ⟨b1, o1, none⟩) la.length ca, .slice (some ⟨b2, o2, none⟩) lb.length cb] 72)) := blk_alloc HQ1.out _
          have HB2 : Hid (Below G V4 (W1.alloc (.cells #[i64 y.kind, i64 y.num, str y.s, .slice al2 y.kids.length cl2] 24))) := HBx1.out.trans ((below_one W1 _).mono (by have := HBx1.out.size; have := HGe.out; omega))
          go_upto_region 9 with fail
          obtain ⟨Yb, hYb⟩ : ∃ Yb, Yb = W1.heap.size := ⟨_, rfl⟩
          rw [← hYb] at HY2 ⊢
          clear hYb d0 d1 d2 d3 e1 HX1 HO1 HQ1 HBx1
          generalize W1.alloc (.cells #[i64 y.kind, i64 y.num, str y.s, .slice al2 y.kids.length cl2] 24) = W2 at *
          have xc0 : W2.cell? ⟨Xb, 0, none⟩ = some (i64 x.kind) := blk_cell HX2.out 0
          have xc1 : W2.cell? ⟨Xb, 1, none⟩ = some (i64 x.num) := blk_cell HX2.out 1
          have xc2 : W2.cell? ⟨Xb, 2, none⟩ = some (str x.s) := blk_cell HX2.out 2
          have xc3 : W2.cell? ⟨Xb, 3, none⟩ = some (.slice ak2 x.kids.length ck2) := blk_cell HX2.out 3
          have yc0 : W2.cell? ⟨Yb, 0, none⟩ = some (i64 y.kind) := blk_cell HY2.out 0
          have yc1 : W2.cell? ⟨Yb, 1, none⟩ = some (i64 y.num) := blk_cell HY2.out 1
          have yc2 : W2.cell? ⟨Yb, 2, none⟩ = some (str y.s) := blk_cell HY2.out 2
          have yc3 : W2.cell? ⟨Yb, 3, none⟩ = some (.slice al2 y.kids.length cl2) := blk_cell HY2.out 3
          have HBF : Hid (Below w.heap.size w W2) := HB4.out.trans (HB2.out.mono HLO.out)
          by_cases hk : x.kind = y.kind
          · have f1 : (x.kind != y.kind) = false := by simpa using hk
            by_cases hn : x.num = y.num
            · have f2 : (x.num != y.num) = false := by simpa using hn
              by_cases hs : x.s = y.s
              · have f3 : (x.s == y.s) = true := by simpa using hs
                by_cases hm : x.kids.length = y.kids.length
                · have f4 : ((x.kids.length : Int) != (y.kids.length : Int)) = false := by simp [hm]
                  have HAl : Hid (aloneV x y = true) := by show _ = _; unfold aloneV; simp [hk, hn, hs, hm]
                  have HKL := hid hm
                  clear hk hn hs hm
                  by_cases h0 : x.kids.length = 0
                  · have hx0 : (x.kids.length : Int) = 0 := by omega
                    have HR4 : Hid (R = (sameW (la.drop (i + 1)) (lb.drop (i + 1)) && allS Sy)) := by
                      show _ = _
                      have hx1 : x.kids = [] := List.eq_nil_of_length_eq_zero h0
                      have hy1 : y.kids = [] := List.eq_nil_of_length_eq_zero (by rw [← HKL.out]; exact h0)
                      rw [HRz.out, HAl.out, hx1, hy1]
                      rfl
                    have HT4 : Hid (totS Sy ≤ totS S0 + sizeL (la.take (i + 1))) := by show _ ≤ _; have := HTy.out; have := HTz.out; omega
                    have hz : ¬ (0 : Int) < x.kids.length := by omega
                    clear h0 hx0
                    go_wp2_with fail
                    exact ⟨⟨i + 1, Sy, by omega, by go_num, HO2, HRy, HR4, HT4, HNy, HQ2, HB2⟩, by simp [intOf]; omega⟩
                  · have hx1I : (0 : Int) < x.kids.length := by omega
                    have hSyl : Sy.length ≤ 100000 := by
                      have h1 := totS_len Sy
                      have h2 := HTy.out
                      have h3 := HTt.out
                      have h4 := sizeL_take_le la i
                      omega
                    obtain ⟨ao9, cap9, W4, hrun, hst, hfr, hfar, hnew⟩ := app_far (te := 72) under73 info72 rfl (by omega) (by omega) HO2.out [.slice ak2 x.kids.length ck2, .slice al2 y.kids.length cl2] rfl (two_one _ _ _ _ _ _) hSyl (by have h1 := HB2.out.size; have h2 := HGe.out; omega)
                    have HRUN : Hid ((Builtin.append_ #[73, 73] 73 #[.slice oa Sy.length oc, .slice (some ⟨W2.heap.size, 0, none⟩) 1 1]).run Tryd.prog (W2.alloc (.cells #[.slice ak2 x.kids.length ck2, .slice al2 y.kids.length cl2] 72)) = .ok (.slice ao9 (Sy.length + 1) cap9) W4) := hrun
                    have HO4 : Hid (W4.ownsRow G 72 2 (.slice ao9 (Sy.length + 1) cap9) (Sy ++ [((x.kids, y.kids, .slice ak2 x.kids.length ck2, .slice al2 y.kids.length cl2) : Rw)]).length (scs (Sy ++ [((x.kids, y.kids, .slice ak2 x.kids.length ck2, .slice al2 y.kids.length cl2) : Rw)]))) := by
                      show World.ownsRow _ _ _ _ _ _ _
                      rw [List.length_append, scs_app]
                      exact hst
                    have HQ4 : Hid (W4.heap[Rb]? = some (.cells #[.slice (some ⟨b1, o1, none⟩) la.length ca, .slice (some ⟨b2, o2, none⟩) lb.length cb] 72)) := by show _ = _; rw [hfar Rb (blk_lt HQ2.out) (fun e => HNy.out e.symm)]; exact HQ2.out
                    have HN4 : Hid ((Value.slice ao9 (Sy.length + 1) cap9).ownBlock ≠ some Rb) := by
                      show _ ≠ _
                      rcases hnew with h | h
                      · rw [h]; exact HNy.out
                      · rw [h]; intro e; cases e; have := blk_lt HQ2.out; omega
                    have HB4' : Hid (Below G V4 W4) := HB2.out.trans hfr.below
                    have HRy4 : Hid (∀ z ∈ Sy ++ [((x.kids, y.kids, .slice ak2 x.kids.length ck2, .slice al2 y.kids.length cl2) : Rw)], rowV V4 z.1 z.2.2.1 ∧ rowV V4 z.2.1 z.2.2.2 ∧ z.1.length = z.2.1.length) := by
                      show ∀ z ∈ _, _
                      intro z hz
                      rcases List.mem_append.1 hz with hz | hz
                      · exact HRy.out z hz
                      · rw [List.mem_singleton.1 hz]; exact ⟨HRX.out, HRY.out, HKL.out⟩
                    have HR4 : Hid (R = (sameW (la.drop (i + 1)) (lb.drop (i + 1)) && allS (Sy ++ [((x.kids, y.kids, .slice ak2 x.kids.length ck2, .slice al2 y.kids.length cl2) : Rw)]))) := by
                      show _ = _
                      rw [HRz.out, HAl.out, allS_app]
                      simp only [allS, List.all_cons, List.all_nil, Bool.and_true, Bool.true_and]
                      generalize sameW x.kids y.kids = p
                      generalize sameW (la.drop (i + 1)) (lb.drop (i + 1)) = q
                      generalize (Sy.all fun x => sameW x.1 x.2.1) = r
                      cases p <;> cases q <;> cases r <;> rfl
                    have HT4 : Hid (totS (Sy ++ [((x.kids, y.kids, .slice ak2 x.kids.length ck2, .slice al2 y.kids.length cl2) : Rw)]) ≤ totS S0 + sizeL (la.take (i + 1))) := by
                      show _ ≤ _
                      rw [totS_app]
                      have e : totS [((x.kids, y.kids, .slice ak2 x.kids.length ck2, .slice al2 y.kids.length cl2) : Rw)] = 1 + sizeL x.kids := by simp [totS]
                      have h1 := HTy.out
                      have h2 := HTz.out
                      omega
                    clear hrun hst hfr hfar hnew h0
                    go_wp2_with (at_builtin; refine wpList_app_run rfl (.tmp 75) (.tmp 81) 73 rfl _ _ rfl rfl 73 rfl _ _ HRUN.out ?_)
                    exact ⟨⟨i + 1, _, by omega, by go_num, HO4, HRy4, HR4, HT4, HN4, HQ4, HB4'⟩, by simp [intOf]; omega⟩
                · have f4 : ((x.kids.length : Int) != (y.kids.length : Int)) = true := by simp; omega
                  have HF : Hid (R = false) := by show _ = _; rw [HRz.out]; unfold aloneV; rw [decide_eq_false hm]; simp
                  clear hk hn hs hm
                  go_wp2_with fail
                  go_ret
                  exact ⟨by rw [HF.out]; rfl, HBF.out⟩
              · have f3 : (x.s = y.s) = False := eq_false hs
                have HF : Hid (R = false) := by show _ = _; rw [HRz.out]; unfold aloneV; rw [decide_eq_false hs]; simp
                clear hk hn hs
                go_wp2_with fail
                go_ret
                exact ⟨by rw [HF.out]; rfl, HBF.out⟩
            · have f2 : (x.num != y.num) = true := by simpa using hn
              have HF : Hid (R = false) := by show _ = _; rw [HRz.out]; unfold aloneV; rw [decide_eq_false hn]; simp
              clear hk hn
              go_wp2_with fail
              go_ret
              exact ⟨by rw [HF.out]; rfl, HBF.out⟩
          · have f1 : (x.kind != y.kind) = true := by simpa using hk
            have HF : Hid (R = false) := by show _ = _; rw [HRz.out]; unfold aloneV; rw [decide_eq_false hk]; simp
            clear hk
            go_wp2_with fail
            go_ret
            exact ⟨by rw [HF.out]; rfl, HBF.out⟩
        · have he : i = la.length := by omega
          have HR5 : Hid (R = allS Sy) := by
            show _ = _
            have h1 := HRz0.out
            have h2 := HLn.out
            rw [he, List.drop_length, h2, List.drop_length] at h1
            rw [h1]
            rfl
          have HT5 : Hid (totS Sy < gk) := by
            show _ < _
            have h1 := HTy.out
            have h2 := HTt.out
            have h3 := sizeL_take_le la i
            omega
          clear he x0
          go_wp2_with fail
          go_roundg (totS Sy)
          case measure => exact HT5.out
          case rel => exact ⟨Sy, by have := HT5.out; omega, Nat.le_refl _, HOy, HRy, HR5, HBy⟩
end Go.Proofs.YtgiemijhndanjaaDoor
