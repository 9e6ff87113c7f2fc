/- vals' Size: its contract; no statement is proved in this text. -/
import Derived.Deep.LoopGhost
import Derived.Test.YtgiemijhndanjaaDoorGv
namespace Go.Proofs.YtgiemijhndanjaaDoor
open Go.ChangeShapes Go.WideShapes Go.ChangeAt Go.RowKit Go.Deep
attribute [local go_sem ↓] Go.wp_at_zero Go.wp_at_succ

theorem own_pop {V : World} {lo : Nat} {e : TypeId} {s : Nat} {ao : Option Addr} {n cap : Nat} {xs ys : List Value} (h : V.ownsRow lo e s (.slice ao (n + 1) cap) (n + 1) (xs ++ ys)) (hy : ys.length = s) : V.ownsRow lo e s (.slice ao n cap) n xs ∧ ∃ g, ao = some ⟨g, 0, none⟩ ∧ g < V.heap.size ∧ n + 1 ≤ cap ∧ ∀ j v, ys[j]? = some v → V.cell? ⟨g, n * s + j, none⟩ = some v := by
  have hl := h.1
  rw [List.length_append, hy, Nat.add_mul, Nat.one_mul] at hl
  have hx : xs.length = n * s := by omega
  have h0 := h
  rcases h.2 with ⟨_, h1⟩ | ⟨g, cap', cur, hv, hb, hg, hc1, hc2, hc3, hc4⟩
  · omega
  · cases hv
    refine ⟨⟨hx, Or.inr ⟨g, cap, cur, rfl, hb, hg, by omega, hc2, hc3, ?_⟩⟩, g, rfl, blk_lt hg, hc1, fun j v hv => ?_⟩
    · have : cur.toList.take (n * s) = (cur.toList.take ((n + 1) * s)).take (n * s) := by
        rw [List.take_take]
        congr 1
        have : n * s ≤ (n + 1) * s := Nat.mul_le_mul_right s (by omega)
        omega
      rw [this, hc4, ← hx, List.take_left]
    · have hj := (List.getElem?_eq_some_iff.1 hv).1
      rw [h0.cellAt (n * s + j) (by rw [Nat.add_mul, Nat.one_mul]; omega), List.getElem?_append_right (by omega), hx, Nat.add_sub_cancel_left]
      exact hv
theorem Vd.row {w : World} {S : Nat → Prop} {V : Vl} {kv : Value} (h : Vd w S V kv) : Vd w S (.mk 0 0 [] V.kids) kv := by
  cases h with
  | mk b off kvs hs hl hcap ha hc hr => exact .mk b off kvs (Nat.zero_le _) hl hcap ha hc hr
theorem Vd.ofRow {w : World} {S : Nat → Prop} {V : Vl} {kv : Value} (h : Vd w S (.mk 0 0 [] V.kids) kv) (hs : V.s.length ≤ maxLen) : Vd w S V kv := by
  obtain ⟨k, n, s, l⟩ := V
  cases h with
  | mk b off kvs _ hl hcap ha hc hr => exact .mk b off kvs hs hl hcap ha hc hr
/-- A value alone in a row. -/
theorem Vd.one {w : World} {S : Nat → Prop} {V : Vl} {kv : Value} {A : Nat} {e : TypeId} (h : Vd w S V kv) (hA : w.heap[A]? = some (.cells #[i64 V.kind, i64 V.num, str V.s, kv] e)) (hS : S A) : Vd w S (.mk 0 0 [] [V]) (.slice (some ⟨A, 0, none⟩) 1 1) := by
  refine .mk (kids := [V]) A 0 (fun _ => kv) (Nat.zero_le _) (by unfold maxLen; simp) (Nat.le_refl _) (Or.inr ⟨rfl, hS, blk_lt hA⟩) ?_ ?_
  · intro i T' hT
    have hi : i = 0 := by have := (List.getElem?_eq_some_iff.1 hT).1; simpa using this
    subst hi
    cases hT
    intro j v hv
    rw [blk_cell hA]
    simpa using hv
  · intro i T' hT
    have hi : i = 0 := by have := (List.getElem?_eq_some_iff.1 hT).1; simpa using this
    subst hi
    cases hT
    exact h
abbrev Rv : Type := List Vl × Value
def cntV (Ss : List Rv) : Nat := (Ss.map fun x => sizeL x.1).sum
def totV (Ss : List Rv) : Nat := (Ss.map fun x => 1 + sizeL x.1).sum
def kidsL (l : List Vl) : Nat := (l.map fun v => sizeL v.kids).sum
theorem cntV_app (a b : List Rv) : cntV (a ++ b) = cntV a + cntV b := by simp [cntV]
theorem totV_app (a b : List Rv) : totV (a ++ b) = totV a + totV b := by simp [totV]
theorem totV_len : ∀ Ss : List Rv, Ss.length ≤ totV Ss
  | [] => by simp
  | x :: r => by
    have := totV_len r
    simp only [totV, List.map_cons, List.sum_cons, List.length_cons] at this ⊢
    omega
theorem sizeL_kids : ∀ l : List Vl, sizeL l = l.length + kidsL l
  | [] => rfl
  | v :: r => by
    have := sizeL_kids r
    have := v.size_eq
    simp only [sizeL, kidsL, List.map_cons, List.sum_cons, List.length_cons] at this ⊢
    unfold kidsL at *
    omega
theorem kidsL_take (l : List Vl) (k : Nat) (hk : k < l.length) : kidsL (l.take (k + 1)) = kidsL (l.take k) + sizeL l[k].kids := by
  unfold kidsL
  rw [List.take_succ_eq_append_getElem hk, List.map_append, List.sum_append]
  simp only [List.map_cons, List.map_nil, List.sum_cons, List.sum_nil, Nat.add_zero]
theorem sizeL_take_le (l : List Vl) (k : Nat) : sizeL (l.take k) ≤ sizeL l := by
  have := congrArg sizeL (List.take_append_drop k l)
  rw [sizeL_app] at this
  omega
theorem info22 : (Tryd.prog.info? 22).map (fun i => (i.zero, i.size, i.bytes)) = some (some (.slice none 0 0), 1, 24) := by kernel_rfl
theorem vunder86 : Tryd.prog.underlying 86 = some (.slice 22) := Tryd.underlying86
def rows (Ss : List Rv) : List Value := Ss.map (·.2)
/-- A row more waits. -/
theorem wait_push {V : World} {lo : Nat} {v : Value} {Ss : List Rv} (h : V.ownsRow lo 22 1 v Ss.length (rows Ss)) (l : List Vl) (a1 : Option Addr) (n1 c1 : Nat) (hl : Ss.length ≤ 100000) (hlo : lo ≤ V.heap.size) :
    ∃ ao cap w', (Builtin.append_ #[86, 86] 86 #[v, .slice (some ⟨V.heap.size, 0, none⟩) 1 1]).run Tryd.prog (V.alloc (.cells #[.slice a1 n1 c1] 22)) = .ok (.slice ao (Ss.length + 1) cap) w' ∧ w'.ownsRow lo 22 1 (.slice ao (Ss.length + 1) cap) (Ss ++ [((l, .slice a1 n1 c1) : Rv)]).length (rows (Ss ++ [((l, .slice a1 n1 c1) : Rv)])) ∧ Fr lo [22] V w' := by
  obtain ⟨ao, cap, w', h1, h2, h3, _⟩ := app_far (te := 22) vunder86 info22 rfl (by omega) (by omega) h [.slice a1 n1 c1] rfl (fun u hu => by rw [List.mem_singleton.1 hu]; rfl) (by omega) hlo
  exact ⟨ao, cap, w', h1, by simpa [rows] using h2, h3⟩
set_option maxRecDepth 100000 in
set_option maxHeartbeats 3200000 in
theorem sz1_ok (w : World) (q : Nat) (m : Int) (ao : Option Addr) (n cap : Nat) (hq : w.heap[q]? = some (.cells #[i64 m] 3)) (hm : 0 ≤ m) (hm2 : m ≤ 1000000) (hn : n ≤ 1000000) : Calls Tryd.prog 41 #[.slice ao n cap, pq q] w fun e w' => e = .returned (.tuple #[]) ∧ w' = w.setCell ⟨q, 0, none⟩ (i64 (m + n)) := by
  have y0 : w.cell? ⟨q, 0, none⟩ = some (i64 m) := blk_cell hq 0
  have f0 : w.frozen? ⟨q, 0, none⟩ = false := blk_frozen hq 0
  go_enter Tryd.func41, Tryd.ntmps41
  go_wp2_with fail
  exact bodyPost_end (v := .tuple #[]) (by simp [results, Tryd.results41]) rfl ⟨rfl, rfl⟩
set_option maxRecDepth 100000 in
set_option maxHeartbeats 12800000 in
theorem eachs_ok (l : List Vl) (w : World) (q : Nat) (m : Int) (v : Value) (hV : Vd w (fun b => b ≠ q) (.mk 0 0 [] l) v) (hq : w.heap[q]? = some (.cells #[i64 m] 3)) (hm : 0 ≤ m) (hm2 : m ≤ 100000) (hl : sizeL l ≤ 100000) :
    Calls Tryd.prog 40 #[v, .func (.func 41) #[] #[pq q]] w fun e w' => e = .returned (.tuple #[]) ∧ w'.heap[q]? = some (.cells #[i64 (m + sizeL l)] 3) ∧ Touch q w w' := by
  have HV0 := hid hV
  have hqlt := blk_lt hq
  obtain ⟨a0, c0, rfl⟩ := hV.form
  obtain ⟨M, hM⟩ : ∃ M : Int, M = m + sizeL l := ⟨_, rfl⟩
  have HMe := hid hM
  rw [← hM]
  have hk0 : (Vl.mk 0 0 [] l).kids.length = l.length := rfl
  rw [hk0] at HV0 ⊢
  have HB0 : Hid (Touch q w (w.alloc (.cells #[.slice a0 l.length c0] 22))) := (Touch.refl q w).alloc _
  have HQ0 : Hid ((w.alloc (.cells #[.slice a0 l.length c0] 22)).heap[q]? = some (.cells #[i64 m] 3)) := blk_alloc hq _
  have HW0 : Hid ((w.alloc (.cells #[.slice a0 l.length c0] 22)).ownsRow w.heap.size 22 1 (.slice (some ⟨w.heap.size, 0, none⟩) 1 1) 1 (rows [(l, .slice a0 l.length c0)])) := ⟨rfl, Or.inr ⟨w.heap.size, 1, _, rfl, Nat.le_refl _, heap_last w _, Nat.le_refl _, by unfold maxLen; omega, rfl, rfl⟩⟩
  have HR0 : Hid (∀ x ∈ [((l, .slice a0 l.length c0) : Rv)], Vd w (fun b => b ≠ q) (.mk 0 0 [] x.1) x.2) := by
    show ∀ x ∈ _, _
    intro x hx
    rw [List.mem_singleton.1 hx]
    exact HV0.out
  have HQL := hid hqlt
  clear hV hq hM hk0 hqlt
  go_enter Tryd.func40, Tryd.ntmps40
  go_wp2_with fail
  obtain ⟨G, hG⟩ : ∃ G, G = w.heap.size := ⟨_, rfl⟩
  rw [← hG] at HW0 ⊢
  have HGe := hid hG
  clear hG
  generalize w.alloc (.cells #[.slice a0 l.length c0] 22) = V0 at *
  obtain ⟨g0, hg0⟩ : ∃ g0, g0 = 1 + sizeL l := ⟨_, rfl⟩
  have HT0 : Hid (totV [((l, .slice a0 l.length c0) : Rv)] = g0) := by show _ = _; rw [hg0]; simp [totV]
  have hg1 : g0 ≤ 100001 := by omega
  have HC0 : Hid (m + cntV [((l, .slice a0 l.length c0) : Rv)] = M) := by show _ = _; rw [HMe.out]; simp [cntV]
  have HL := hid hl
  clear hg0 hl
  go_loopg [4] g0 (fun g v wr => ∃ (Ss : List Rv) (m1 : Int), g ≤ 100001 ∧ 0 ≤ m1 ∧ m1 ≤ 1000000 ∧ Hid (totV Ss ≤ g) ∧ Hid (wr.ownsRow G 22 1 v Ss.length (rows Ss)) ∧ Hid (∀ x ∈ Ss, Vd w (fun b => b ≠ q) (.mk 0 0 [] x.1) x.2) ∧ Hid (wr.heap[q]? = some (.cells #[i64 m1] 3)) ∧ Hid (m1 + cntV Ss = M) ∧ Hid (Touch q w wr))
  case atStart => exact ⟨_, m, by omega, by omega, by omega, Nat.le_of_eq HT0.out, HW0, HR0, HQ0, HC0, HB0⟩
  case round =>
    obtain ⟨Ss, m1, hg2, hm1, hm3, HTot, HOwn, HRow, HQr, HCnt, HTr⟩ := hrel
    obtain ⟨va, vc, rfl, _⟩ := own_slice HOwn.out
    rcases List.eq_nil_or_concat Ss with hnil | ⟨S0, x, hcc⟩
    · subst hnil
      have HF : Hid (m1 = M) := by show _ = _; have := HCnt.out; simpa [cntV] using this
      clear HCnt
      go_wp2_with fail
      refine bodyPost_end (v := .tuple #[]) (by simp [results, Tryd.results40]) rfl ⟨rfl, ?_, HTr.out⟩
      rw [← HF.out]
      exact HQr.out
    · rw [List.concat_eq_append] at hcc
      subst hcc
      obtain ⟨la, va1⟩ := x
      have hrow : Vd w (fun b => b ≠ q) (.mk 0 0 [] la) va1 := HRow.out (la, va1) (by simp)
      obtain ⟨aa, ca, rfl⟩ := hrow.form
      have hk1 : (Vl.mk 0 0 [] la).kids.length = la.length := rfl
      rw [hk1] at hrow HOwn HRow HCnt HTot ⊢
      have hown := HOwn.out
      obtain ⟨n, hn⟩ : ∃ n, n = S0.length := ⟨_, rfl⟩
      have hln : (S0 ++ [((la, .slice aa la.length ca) : Rv)]).length = n + 1 := by rw [List.length_append, hn]; rfl
      have hrw : rows (S0 ++ [((la, .slice aa la.length ca) : Rv)]) = rows S0 ++ [.slice aa la.length ca] := by simp [rows]
      rw [hln, hrw] at hown
      rw [hln]
      obtain ⟨hown2, g, rfl, hglt, hcap, hcell⟩ := own_pop hown rfl
      have q0 : wr.cell? ⟨g, n, none⟩ = some (.slice aa la.length ca) := by have := hcell 0 _ rfl; simpa using this
      have htot : totV S0 + (1 + sizeL la) ≤ gk := by have := HTot.out; rw [totV_app] at this; simpa [totV] using this
      have hnI : n ≤ 100001 := by have := totV_len S0; omega
      have hlaI : la.length ≤ 100001 := by have := sizeL_len la; omega
      have HCn2 : Hid (m1 + cntV S0 + sizeL la = M) := by show _ = _; have := HCnt.out; rw [cntV_app] at this; simp [cntV] at this ⊢; omega
      have HOw2 : Hid (wr.ownsRow G 22 1 (.slice (some ⟨g, 0, none⟩) n vc) S0.length (rows S0)) := by show World.ownsRow _ _ _ _ _ _ _; rw [← hn]; exact hown2
      have HRw2 : Hid (∀ x ∈ S0, Vd w (fun b => b ≠ q) (.mk 0 0 [] x.1) x.2) := fun y hy => HRow.out y (by simp [hy])
      have HRo := hid hrow
      have HN := hid hn
      have HTt := hid htot
      have hcapI : n ≤ vc := by omega
      clear hrow hown hown2 hcell hn hln hrw hk1 htot HOwn HRow HCnt HTot hglt
      have HZ1 := hid (sz1_ok wr q m1 aa la.length ca HQr.out hm1 hm3 (by omega))
      go_wp2_with fail
      refine HZ1.out.mono ?_
      rintro e w1 ⟨rfl, hw1⟩
      have HQ1 : Hid (w1.heap[q]? = some (.cells #[i64 (m1 + la.length)] 3)) := by show _ = _; rw [hw1]; exact set1 HQr.out _
      have HT1 : Hid (Touch q w w1) := by show Touch _ _ _; rw [hw1]; exact HTr.out.setCell rfl _
      have HO1 : Hid (w1.ownsRow G 22 1 (.slice (some ⟨g, 0, none⟩) n vc) S0.length (rows S0)) := by
        show World.ownsRow _ _ _ _ _ _ _
        rw [hw1]
        refine own_keep1 HOw2.out fun k hk => Below.heap_setCell _ _ _ _ ?_
        have h1 := (HOw2.out.lt k hk).1
        have h2 := HGe.out
        have h3 := HQL.out
        show k ≠ q
        omega
      obtain ⟨m2, hm2e⟩ : ∃ m2 : Int, m2 = m1 + la.length := ⟨_, rfl⟩
      rw [← hm2e] at HQ1
      have HM2 := hid hm2e
      have hm5 : 0 ≤ m2 ∧ m2 ≤ 1000000 := by
        have h1 := HCn2.out
        have h2 := sizeL_len la
        have h3 := HMe.out
        have h4 := HL.out
        omega
      obtain ⟨hm6, hm7⟩ := hm5
      clear hw1 hm2e HZ1 HQr HTr HOw2 q0
      go_wp2_with fail
      go_loopw [4, 29] (fun v u wr => ∃ (i : Nat) (Sy : List Rv), i ≤ la.length ∧ u = i64 i ∧ Hid (wr.ownsRow G 22 1 v Sy.length (rows Sy)) ∧ Hid (∀ x ∈ Sy, Vd w (fun b => b ≠ q) (.mk 0 0 [] x.1) x.2) ∧ Hid (cntV Sy = cntV S0 + kidsL (la.take i)) ∧ Hid (totV Sy ≤ totV S0 + sizeL (la.take i)) ∧ Hid (wr.heap[q]? = some (.cells #[i64 m2] 3)) ∧ Hid (Touch q w wr)) (fun _ u _ => la.length - (intOf u).toNat)
      case atStart => exact ⟨0, S0, by omega, rfl, HO1, HRw2, by show _ = _; simp [kidsL], by show _ ≤ _; simp [sizeL], HQ1, HT1⟩
      case round =>
        obtain ⟨i, Sy, hi, rfl, HOy, HRy, HCy, HTy, HQy, HWy⟩ := hrel
        obtain ⟨oa, oc, rfl, _⟩ := own_slice HOy.out
        by_cases hlt : i < la.length
        · obtain ⟨b, off, kv2, rfl, hbq, hblt, hr, hrd⟩ := HRo.out.kid i hlt
          obtain ⟨U, hU⟩ : ∃ U, U = la[i] := ⟨_, rfl⟩
          have hU2 : (Vl.mk 0 0 [] la).kids[i]'hlt = U := hU.symm
          rw [hU2] at hr hrd
          have HCz : Hid (kidsL (la.take (i + 1)) = kidsL (la.take i) + sizeL U.kids) := by show _ = _; rw [kidsL_take la i hlt, ← hU]
          have HTz : Hid (sizeL (la.take (i + 1)) = sizeL (la.take i) + (1 + sizeL U.kids)) := by show _ = _; rw [sizeL_take la i hlt, ← hU, U.size_eq]
          have hul := hrd.lens.2
          unfold maxLen at hul
          obtain ⟨ak2, ck2, rfl⟩ := hrd.form
          have HRU := hid hrd.row
          have c0 : wr.cell? ⟨b, off + i * 4, none⟩ = some (i64 U.kind) := (HWy.out.cell (p := ⟨b, off + i * 4, none⟩) hblt hbq).trans (hr 0 _ rfl)
          have c1 : wr.cell? ⟨b, off + i * 4 + 1, none⟩ = some (i64 U.num) := (HWy.out.cell (p := ⟨b, off + i * 4 + 1, none⟩) hblt hbq).trans (hr 1 _ rfl)
          have c2 : wr.cell? ⟨b, off + i * 4 + 2, none⟩ = some (str U.s) := (HWy.out.cell (p := ⟨b, off + i * 4 + 2, none⟩) hblt hbq).trans (hr 2 _ rfl)
          have c3 : wr.cell? ⟨b, off + i * 4 + 3, none⟩ = some (.slice ak2 U.kids.length ck2) := (HWy.out.cell (p := ⟨b, off + i * 4 + 3, none⟩) hblt hbq).trans (hr 3 _ rfl)
          have HX2 : Hid ((wr.alloc (.cells #[i64 U.kind, i64 U.num, str U.s, .slice ak2 U.kids.length ck2] 24)).heap[wr.heap.size]? = some (.cells #[i64 U.kind, i64 U.num, str U.s, .slice ak2 U.kids.length ck2] 24)) := heap_last wr _
          have HO2 : Hid ((wr.alloc (.cells #[i64 U.kind, i64 U.num, str U.s, .slice ak2 U.kids.length ck2] 24)).ownsRow G 22 1 (.slice oa Sy.length oc) Sy.length (rows Sy)) := HOy.out.alloc _
          have HQ2 : Hid ((wr.alloc (.cells #[i64 U.kind, i64 U.num, str U.s, .slice ak2 U.kids.length ck2] 24)).heap[q]? = some (.cells #[i64 m2] 3)) := blk_alloc HQy.out _
          have HW2 : Hid (Touch q w (wr.alloc (.cells #[i64 U.kind, i64 U.num, str U.s, .slice ak2 U.kids.length ck2] 24))) := HWy.out.alloc _
          clear hU hU2 hr hrd hbq hblt
          go_upto_region 8 with fail
          obtain ⟨Xb, hXb⟩ : ∃ Xb, Xb = wr.heap.size := ⟨_, rfl⟩
          rw [← hXb] at HX2 ⊢
          clear hXb c0 c1 c2 c3 HOy HQy HWy
          generalize wr.alloc (.cells #[i64 U.kind, i64 U.num, str U.s, .slice ak2 U.kids.length ck2] 24) = X at *
          have x3 : X.cell? ⟨Xb, 3, none⟩ = some (.slice ak2 U.kids.length ck2) := blk_cell HX2.out 3
          by_cases h0 : U.kids.length = 0
          · have HC4 : Hid (cntV Sy = cntV S0 + kidsL (la.take (i + 1))) := by
              show _ = _
              have h1 := HCy.out
              have h2 := HCz.out
              rw [List.eq_nil_of_length_eq_zero h0] at h2
              simp only [sizeL] at h2
              omega
            have HT4 : Hid (totV Sy ≤ totV S0 + sizeL (la.take (i + 1))) := by show _ ≤ _; have := HTy.out; have := HTz.out; omega
            rw [h0] at x3
            clear h0
            go_wp2_with fail
            exact ⟨⟨i + 1, Sy, by omega, by go_num, HO2, HRy, HC4, HT4, HQ2, HW2⟩, by simp [intOf]; omega⟩
          · have hx1I : (0 : Int) < U.kids.length := by omega
            have hSyl : Sy.length ≤ 100000 := by
              have h1 := totV_len Sy
              have h2 := HTy.out
              have h3 := HTt.out
              have h4 := sizeL_take_le la i
              omega
            obtain ⟨ao9, cap9, W4, hrun, hst, hfr⟩ := wait_push HO2.out U.kids ak2 U.kids.length ck2 hSyl (by have h1 := HW2.out.size; have h2 := HGe.out; omega)
            have HRUN := hid hrun
            have HO4 := hid hst
            have HQ4 : Hid (W4.heap[q]? = some (.cells #[i64 m2] 3)) := hfr.kept _ _ HQ2.out (by rfl)
            have HW4 : Hid (Touch q w W4) := by
              show Touch _ _ _
              have hb := hfr.below
              have h2 := HGe.out
              rw [h2] at hb
              exact ⟨hb.os.trans HW2.out.os, hb.tape.trans HW2.out.tape, hb.output.trans HW2.out.output, Nat.le_trans HW2.out.size hfr.size, fun k hk hkq => (hb.block k hk).trans (HW2.out.block k hk hkq)⟩
            have HR4 : Hid (∀ x ∈ Sy ++ [((U.kids, .slice ak2 U.kids.length ck2) : Rv)], Vd w (fun b => b ≠ q) (.mk 0 0 [] x.1) x.2) := by
              show ∀ x ∈ _, _
              intro x hx
              rcases List.mem_append.1 hx with hx | hx
              · exact HRy.out x hx
              · rw [List.mem_singleton.1 hx]; exact HRU.out
            have HC4 : Hid (cntV (Sy ++ [((U.kids, .slice ak2 U.kids.length ck2) : Rv)]) = cntV S0 + kidsL (la.take (i + 1))) := by
              show _ = _
              rw [cntV_app, HCy.out, HCz.out]
              simp [cntV]
              omega
            have HT4 : Hid (totV (Sy ++ [((U.kids, .slice ak2 U.kids.length ck2) : Rv)]) ≤ totV S0 + sizeL (la.take (i + 1))) := by
              show _ ≤ _
              rw [totV_app, HTz.out]
              have e : totV [((U.kids, .slice ak2 U.kids.length ck2) : Rv)] = 1 + sizeL U.kids := by simp [totV]
              have h1 := HTy.out
              omega
            clear hrun hst hfr h0
            go_wp2_with (at_builtin; refine wpList_app_run rfl (.tmp 37) (.tmp 40) 86 rfl _ _ rfl rfl 86 rfl _ _ HRUN.out ?_)
            exact ⟨⟨i + 1, _, by omega, by go_num, HO4, HR4, HC4, HT4, HQ4, HW4⟩, by simp [intOf]; omega⟩
        · have he : i = la.length := by omega
          have HC5 : Hid (m2 + cntV Sy = M) := by
            show _ = _
            have h1 := HCy.out
            rw [he, List.take_of_length_le (Nat.le_refl _)] at h1
            have h2 := HCn2.out
            have h3 := sizeL_kids la
            have h4 := HM2.out
            omega
          have HT5 : Hid (totV Sy < gk) := by
            show _ < _
            have h1 := HTy.out
            have h2 := HTt.out
            have h3 := sizeL_take_le la i
            omega
          clear he
          go_wp2_with fail
          go_roundg (totV Sy)
          case measure => exact HT5.out
          case rel => exact ⟨Sy, m2, by have := HT5.out; omega, hm6, hm7, Nat.le_refl _, HOy, HRy, HQy, HC5, HWy⟩
end Go.Proofs.YtgiemijhndanjaaDoor
