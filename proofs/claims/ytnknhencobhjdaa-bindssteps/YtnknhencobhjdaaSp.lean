/- No statement here. -/
import Derived.Test.YtnknhencobhjdaaAg2
import Derived.Test.YtnknhencobhjdaaMSl
import Derived.Test.YtnknhencobhjdaaMEr2
import Derived.Test.YtnknhencobhjdaaMBase
import Derived.Test.YtnknhencobhjdaaMDok
import Derived.Test.YtnknhencobhjdaaMSta
import Derived.Test.YtnknhencobhjdaaMFm
namespace Go.Proofs.Ytnknhencobhjdaa
open Go.ChangeShapes Go.WideShapes Go.ChangeAt Go.RowKit Go.Deep
open Go.Proofs.Ytnknhencobhjdaa.Cp (pq hid bl1 hO)
section
variable {w : World} {base p : Nat} {z : Px} {t : Qt.T} {s : Qt.St} {T : List Cp.Pl} {L : Ls} {R : Nat → List Hn} {C : List Cp.Rw} {Rs : List Rt} {P : List Int} {H : List Hn} {E : List Int}
theorem Pp.agc (h : Pp w base p z t s T L R C Rs P H E) (hcl : C.length ≤ 900) (x : Sb) (own r0 r1 : Int) (hv : rootV R x.kind x.n = (r0, r1)) (ho : ((bil L (r0, r1)).getD (0, 0)).1 = own) : ∃ ki, AgC w z.b z.d z.y.kb (cnt L x.env) x (Qt.freeT t s) (Qt.lfT (Qt.at_ s x.env)) (ftN (lsB L (rwK R x.kind) x.env) (rwK R x.kind).length) (fnI Rs x.kind x.n) own r0 r1 (Qt.pE (Qt.at_ s x.env)) ki := by
  have hll : L.length ≤ 1000 := by rw [h.iv.bl]; have := bls_len C P; omega
  have hrl : Rs.length ≤ 1000 := by have := h.iv.rs_le; omega
  have hpl : P.length ≤ 1000 := by have := h.iv.pl; omega
  have hls := h.iv.list h.bd.len x.env x.kind
  obtain ⟨Q, hQ, hB⟩ := h.dd.bk
  refine ⟨Qt.idx Q x.env, ⟨fun W hW => spare_ok (h.bd.below hW), fun W hW => Qt.rfree_rel (hB.below hW) hQ h.dd.wf, fun W hW => paid_ok (h.bd.below hW) hll x.env, fun W hW => ?_, fun W hW => list_ok (h.bd.below hW) x.env x.kind, fun W hW => ?_, ?_, fun W hW => rfnd_ok (h.dd.below hW) hrl x.kind x.n, fun W hW => bleft_ok (h.bd.below hW) x.env, fun W hW => Qt.rat_ok (hB.below hW) hQ.le3 x.env, ?_, fun W hW => ?_, fun W hW => root_any (h.bd.below hW) x.kind x.n r0 r1 hv⟩⟩
  · rw [h.iv.bl, cnt_bls h.iv.pl]
    exact rpaid_ok (h.dd.below hW) hpl h.iv.pl x.env
  · rw [hls]
    exact rlist_ok (h.dd.below hW) hrl x.env x.kind
  · rw [hls]
    have := ftN_len (rlB Rs x.env x.kind) 64
    omega
  · cases hx : Qt.at_ s x.env with
    | none => exact Or.inl ⟨hQ.not hx, rfl, rfl⟩
    | some g =>
      obtain ⟨k, hk, hi⟩ := hQ.has hx
      refine Or.inr ⟨⟨k, hi⟩, rfl, fun W hW => ?_⟩
      rw [hi]
      exact Qt.rleft_ok (hB.below hW) hQ.le3 k _ hk (h.dd.wf.le_at (Qt.at_some hx).2.2) (h.dd.wf.le64 (Qt.at_some hx).2.2)
  · rw [← ho]
    exact owner_ok (h.bd.below hW) x.kind x.n r0 r1 (fun V hV => root_any ((h.bd.below hW).below hV) x.kind x.n r0 r1 hv)
theorem agrees_ok (h : Pp w base p z t s T L R C Rs P H E) (hcl : C.length ≤ 900) (x : Sb) : Calls Try.prog 13 #[pq p, x.v] w fun e w' => e = .returned (.bool true) ∧ Below w.heap.size w w' := by
  obtain ⟨cH, cE, hP, _⟩ := h.pk.blk
  obtain ⟨ao, cap, pc, hD, _, _, _, _, hrow, _⟩ := h.dd.row
  have p0 : w.cell? ⟨p, 0, none⟩ = some (pq z.b) := bkc hP 0
  have p1 : w.cell? ⟨p, 1, none⟩ = some (pq z.d) := bkc hP 1
  have d0 : w.cell? ⟨z.d, 0, none⟩ = some (pq z.y.kc) := bkc hD 0
  have d1 : w.cell? ⟨z.d, 1, none⟩ = some (pq z.y.kb) := bkc hD 1
  rcases fnI_cases Rs x.kind x.n with ⟨hf, hno⟩ | ⟨kk, r, hf, hr, hk1, hk2⟩
  · have hv : rootV R x.kind x.n = (0, 0) := by
      unfold rootV rwK
      by_cases h0 : 0 ≤ x.n
      · rw [if_pos h0]
        by_cases hk : 1 ≤ x.kind ∧ x.kind ≤ 3
        · rw [if_pos hk]
          cases hq : (R (x.kind - 1).toNat)[x.n.toNat]? with
          | none => rfl
          | some v =>
            by_cases hz : v = (0, 0)
            · rw [hz]; rfl
            · obtain ⟨r, hr, e1, e2⟩ := h.iv.rz (x.kind - 1).toNat x.n.toNat v (by omega) hq hz
              exact absurd ⟨by omega, by omega⟩ (hno r hr)
        · rw [if_neg hk]; rfl
      · rw [if_neg h0]
    obtain ⟨ki, hC⟩ := h.agc hcl x 0 0 0 hv (by rw [h.iv.bl, bil_zero h.iv.cr]; rfl)
    rw [hf] at hC
    exact agrees_none w p z.b z.d z.y.kb z.y.kc _ x _ _ _ _ ki hC p0 p1 d0 d1
  · obtain ⟨k, n, i, q, hk, h1, h2, h3, h4, h5, h6, h7, h8⟩ := h.iv.rr r (List.mem_of_getElem? hr)
    have hv : rootV R x.kind x.n = (q.sl, q.gn) := by
      unfold rootV rwK
      rw [if_pos (by omega), if_pos (by omega), show (x.kind - 1).toNat = k by omega, show x.n.toNat = n by omega, h8]
      rfl
    obtain ⟨pp, _, hb⟩ := bil_live h.iv.cr h.iv.pl h4 h5
    obtain ⟨ki, hC⟩ := h.agc hcl x r.env q.sl q.gn hv (by rw [h.iv.bl, hb, h6]; rfl)
    rw [hf] at hC
    obtain ⟨gR, rfl, _, _, hcR⟩ := hrow kk r hr
    obtain ⟨aoc, capc, hbc, _, _, hcrow⟩ := h.dd.cp.row
    obtain ⟨gC, rfl, _, _, _, _, hcC⟩ := hcrow i q h4
    have hkl := (List.getElem?_eq_some_iff.1 hr).1
    have hil := (List.getElem?_eq_some_iff.1 h4).1
    exact agrees_some w p z.b z.d z.y.kb z.y.kc _ gR gC kk i Rs.length cap C.length capc r.env q x _ _ _ _ ki hC ⟨p1, d0, bkc hD 2, bkc hbc 0, hcR 2 (by omega), by rw [← h3]; exact hcR 3 (by omega), fun o ho => hcC o ho⟩ (by omega) (by omega) p0 p1 d0 d1
theorem At.agrees {k : Nat} (h : At w base p t k) (hk : k ≤ 900) (x : Sb) : Calls Try.prog 13 #[pq p, x.v] w fun e w' => e = .returned (.bool true) ∧ Below w.heap.size w w' := by
  obtain ⟨z, s, T, L, R, C, Rs, P, H, E, h, h1, _⟩ := h
  exact agrees_ok h (by omega) x
end
end Go.Proofs.Ytnknhencobhjdaa
set_option maxRecDepth 100000
attribute [local go_sem ↓] Go.wp_at_zero Go.wp_at_succ
namespace Go.Proofs.Ytnknhencobhjdaa.Qt
section
open Go.ChangeShapes Go.WideShapes Go.ChangeAt Go.RowKit Go.Deep
theorem new_no (w : World) (t : T) (h : outB 0 64 t.l = true) :
    Calls Try.prog 28 #[t.v] w fun e w' => e = .returned (.tuple #[.pointer none, i64 1]) ∧ Below w.heap.size w w' := by
  have hb0 : ∀ o, Below w.heap.size w (w.alloc o) := fun o => (Below.refl _ _).alloc (Nat.le_refl _) o
  have HB : Hid (∀ o, Below w.heap.size w (w.alloc o)) := hb0
  clear hb0
  go_enter Try.func28, Try.ntmps28
  go_wp2_with fail
  refine (outside_tri _ 0 64 t _ (hlx w _)).mono ?_
  rintro e w1 ⟨rfl, rfl⟩
  go_wp2_with fail
  go_ret2
  exact ⟨rfl, HB.out _⟩
end
end Go.Proofs.Ytnknhencobhjdaa.Qt
namespace Go.Proofs.Ytnknhencobhjdaa
section
open Go.ChangeShapes Go.WideShapes Go.ChangeAt Go.RowKit Go.Deep Go.ChangeMaps Go.MapKept
open Go.Proofs.Ytnknhencobhjdaa.Cp (pq hid bl1 hO cO zC looks_nil)
open Go.Proofs.Ytnknhencobhjdaa.Qt (zT badB)
theorem new_bad (w : World) (t : Qt.T) (h : Qt.outB 0 64 t.l = true) : Calls Try.prog 9 #[t.v] w fun e w' => e = .returned (.tuple #[.pointer none, i64 1]) ∧ Below w.heap.size w w' := by
  obtain ⟨a, c, d⟩ := t
  have HN : Hid (∀ W, Calls Try.prog 28 #[.agg #[i64 a, i64 c, i64 d]] W fun e w' => e = .returned (.tuple #[.pointer none, i64 1]) ∧ Below W.heap.size W w') := fun W => Qt.new_no W ⟨a, c, d⟩ h
  have HB0 : Hid (Below w.heap.size w (w.alloc (.cells #[i64 a, i64 c, i64 d] 22))) := bl1 w _
  clear h
  unfold Qt.T.v
  go_enter Try.func9, Try.ntmps9
  go_wp2_with fail
  refine (HN.out _).mono ?_
  rintro e w1 ⟨rfl, hb1⟩
  have HB1 := bth HB0 hb1
  clear hb1 HN HB0
  go_wp2_with fail
  go_ret2
  exact ⟨rfl, HB1.out⟩
end
end Go.Proofs.Ytnknhencobhjdaa
namespace Go.Proofs.Ytnknhencobhjdaa
open Go.ChangeShapes Go.WideShapes Go.ChangeAt Go.RowKit Go.Deep
theorem laidOut : laidOutB Try.prog = true := by kernel_rfl
theorem trodAll_stays {H : Type} {enc : TypeId × Value → H} {P : Program} (hl : laidOutB P = true) {W W' : World} (hb : Below W.heap.size W W') : ∀ (ts : List TypeId) (vs : List Value) (ds : List (DataW H)) (ps : List MemPlace),
    (ts.all fun t => P.readableRec t && decide (t < P.types.size)) = true → DataW.TrodAll enc P W 0 (fun _ => true) true ts vs ds ps → DataW.TrodAll enc P W' 0 (fun b => decide (b < W.heap.size)) true ts vs ds ps
  | [], vs, ds, ps, _, h => by
    obtain ⟨rfl, rfl, rfl⟩ := trodAll_nil h
    exact trodAll_mk0
  | t :: ts, vs, ds, ps, ht, h => by
    simp only [List.all_cons, Bool.and_eq_true, decide_eq_true_eq] at ht
    obtain ⟨v, vs', d, ds', p, q, rfl, rfl, rfl, h0, hr⟩ := trodAll_cons h
    refine trodAll_cons_mk (Below.trod hl ht.1.1 ht.1.2 h0 hb ?_) (trodAll_stays hl hb ts vs' ds' q (by simpa using ht.2) hr)
    obtain ⟨m, hm⟩ := h0
    exact DataW.trod_lt m _ _ _ hm
end Go.Proofs.Ytnknhencobhjdaa
set_option maxRecDepth 100000
namespace Go.Proofs.Ytnknhencobhjdaa
open Go.ChangeShapes Go.WideShapes Go.ChangeAt Go.RowKit Go.Deep
open Go.Proofs.Ytnknhencobhjdaa.Cp (pq hid bl1 hO)
attribute [local go_sem ↓] Go.wp_at_zero Go.wp_at_succ
theorem At.more {w : World} {base p : Nat} {t : Qt.T} {k : Nat} (h : At w base p t k) : At w base p t (k + 1) := by
  obtain ⟨z, s, T, L, R, C, Rs, P, H, E, h1, h2, h3⟩ := h
  exact ⟨z, s, T, L, R, C, Rs, P, H, E, h1, by omega, by omega⟩
set_option maxHeartbeats 1600000 in
theorem steps_out (w : World) (t : Qt.T) (ao : Option Addr) (len cap : Nat) (ht : rgB t = false) : Calls Try.prog 3 #[t.v, .slice ao len cap] w fun e w' => e = .returned (.bool true) ∧ Below w.heap.size w w' := by
  have hto : Qt.outB 0 64 t.l = true := by unfold rgB at ht; simpa using ht
  obtain ⟨V, hV⟩ : ∃ V, V = w.alloc (.cells #[i64 t.a, i64 t.b, i64 t.c] 22) := ⟨_, rfl⟩
  have HV : Hid (w.alloc (.cells #[i64 t.a, i64 t.b, i64 t.c] 22) = V) := hV.symm
  have HBV : Hid (Below w.heap.size w V) := by rw [hV]; exact bl1 w _
  have HX : Hid (V.heap[w.heap.size]? = some (.cells #[i64 t.a, i64 t.b, i64 t.c] 22)) := by rw [hV]; exact hid (hlx w _)
  have x0 : V.cell? ⟨w.heap.size, 0, none⟩ = some (i64 t.a) := bkc HX.out 0
  have x1 : V.cell? ⟨w.heap.size, 1, none⟩ = some (i64 t.b) := bkc HX.out 1
  have x2 : V.cell? ⟨w.heap.size, 2, none⟩ = some (i64 t.c) := bkc HX.out 2
  have hA := right_ok V t
  rw [ht] at hA
  unfold Qt.T.v at hA
  have HA := hid hA
  have HN : Hid (∀ W, Calls Try.prog 9 #[.agg #[i64 t.a, i64 t.b, i64 t.c]] W fun e w' => e = .returned (.tuple #[.pointer none, i64 1]) ∧ Below W.heap.size W w') := fun W => new_bad W t hto
  clear hV hA ht hto
  unfold Qt.T.v
  go_enter Try.func3, Try.ntmps3
  go_upto_region 1 with fail
  rw [HV.out]
  go_wp2_with fail
  refine HA.out.mono ?_
  rintro e w1 ⟨rfl, hb1⟩
  have HB1 : Hid (Below w.heap.size w w1) := HBV.out.trans (hb1.mono HBV.out.size)
  have HX1 := hid (bkb HX.out hb1)
  clear hb1 x0 x1 x2 HX HBV HV HA
  have x0 : w1.cell? ⟨w.heap.size, 0, none⟩ = some (i64 t.a) := bkc HX1.out 0
  have x1 : w1.cell? ⟨w.heap.size, 1, none⟩ = some (i64 t.b) := bkc HX1.out 1
  have x2 : w1.cell? ⟨w.heap.size, 2, none⟩ = some (i64 t.c) := bkc HX1.out 2
  go_wp2_with fail
  refine (HN.out w1).mono ?_
  rintro e w2 ⟨rfl, hb2⟩
  have HB2 : Hid (Below w.heap.size w w2) := HB1.out.trans (hb2.mono HB1.out.size)
  clear hb2 x0 x1 x2
  go_wp2_with fail
  refine (frame_ok w2).mono ?_
  rintro e w3 ⟨rfl, hb3⟩
  have HB3 : Hid (Below w.heap.size w w3) := HB2.out.trans (hb3.mono HB2.out.size)
  clear hb3
  go_wp2_with fail
  go_ret
  exact ⟨rfl, HB3.out⟩
set_option maxHeartbeats 12800000 in
theorem steps_in (w : World) (t : Qt.T) (ao : Option Addr) (len cap : Nat) (f : Nat → Sb) (ht : rgB t = true) (hlen : len ≤ maxLen) (hS : SSl w ao len f) (hR : ∀ i, i < len → (f i).rng) : Calls Try.prog 3 #[t.v, .slice ao len cap] w fun e w' => e = .returned (.bool true) ∧ Below w.heap.size w w' := by
  unfold maxLen at hlen
  have HSl := hid hS
  have HRg := hid hR
  obtain ⟨V, hV⟩ : ∃ V, V = w.alloc (.cells #[i64 t.a, i64 t.b, i64 t.c] 22) := ⟨_, rfl⟩
  have HV : Hid (w.alloc (.cells #[i64 t.a, i64 t.b, i64 t.c] 22) = V) := hV.symm
  have HBV : Hid (Below w.heap.size w V) := by rw [hV]; exact bl1 w _
  have HX : Hid (V.heap[w.heap.size]? = some (.cells #[i64 t.a, i64 t.b, i64 t.c] 22)) := by rw [hV]; exact hid (hlx w _)
  have hA := right_ok V t
  rw [ht] at hA
  unfold Qt.T.v at hA
  have HA := hid hA
  have HT := hid ht
  have x0 : V.cell? ⟨w.heap.size, 0, none⟩ = some (i64 t.a) := bkc HX.out 0
  have x1 : V.cell? ⟨w.heap.size, 1, none⟩ = some (i64 t.b) := bkc HX.out 1
  have x2 : V.cell? ⟨w.heap.size, 2, none⟩ = some (i64 t.c) := bkc HX.out 2
  clear hS hR hV hA ht
  unfold Qt.T.v
  go_enter Try.func3, Try.ntmps3
  go_upto_region 1 with fail
  rw [HV.out]
  go_wp2_with fail
  refine HA.out.mono ?_
  rintro e w1 ⟨rfl, hb1⟩
  have HB1 : Hid (Below w.heap.size w w1) := HBV.out.trans (hb1.mono HBV.out.size)
  have HX1 := hid (bkb HX.out hb1)
  have hst := start_ok w1 t HT.out
  unfold Qt.T.v at hst
  have HSt := hid hst
  clear hb1 x0 x1 x2 hst HA HX HBV HV
  have x0 : w1.cell? ⟨w.heap.size, 0, none⟩ = some (i64 t.a) := bkc HX1.out 0
  have x1 : w1.cell? ⟨w.heap.size, 1, none⟩ = some (i64 t.b) := bkc HX1.out 1
  have x2 : w1.cell? ⟨w.heap.size, 2, none⟩ = some (i64 t.c) := bkc HX1.out 2
  go_wp2_with fail
  refine HSt.out.mono ?_
  rintro e w2 ⟨p, base, z, s, T, L, R, rfl, hbase, hpp, hb2⟩
  have hbase' : w.heap.size ≤ base := Nat.le_trans HB1.out.size hbase
  have HB2 : Hid (Below w.heap.size w w2) := HB1.out.trans (hb2.mono HB1.out.size)
  have HA2 : Hid (At w2 base p t 0) := ⟨z, s, T, L, R, [], [], [], [], [], hpp, by simp, by simp⟩
  clear hb2 hpp HSt z s T L R x0 x1 x2 HX1 HB1 hbase
  by_cases hl : 60 < len
  · have hlI : (60 : Int) < len := by omega
    have hlM : (len : Int) ≤ 9223372036854775807 := by omega
    go_wp2_with fail
    refine (frame_ok w2).mono ?_
    rintro e w3 ⟨rfl, hb3⟩
    have HB3 : Hid (Below w.heap.size w w3) := HB2.out.trans (hb3.mono HB2.out.size)
    clear hb3
    go_wp2_with fail
    go_ret
    exact ⟨rfl, HB3.out⟩
  have hlI : (len : Int) ≤ 60 := by omega
  go_wp2_with fail
  go_loopw [43] (fun u wr => ∃ (k : Nat), k ≤ len ∧ u = i64 k ∧ Hid (Below w.heap.size w wr) ∧ Hid (At wr base p t k)) (fun u _ => len - (intOf u).toNat)
  case atStart => exact ⟨0, by omega, rfl, HB2, HA2⟩
  case round =>
    obtain ⟨kk, hkk, rfl, HB, HA⟩ := hrel
    by_cases hlt : kk < len
    · obtain ⟨B, off, rfl, hBl, hce⟩ := (HSl.out.below (Nat.le_refl _) HB.out).at hlt
      have HCe := hid hce
      obtain ⟨hs1, hs2, hs3⟩ := st33 wr (f kk)
      have hz := zero33 wr
      have HTH := hid hs3
      have HX4 : Hid (((wr.alloc z33).setCells wr.heap.size 0 (f kk).c).heap[wr.heap.size]? = some (sbO (f kk))) := hs1
      have HB4 : Hid (Below w.heap.size w ((wr.alloc z33).setCells wr.heap.size 0 (f kk).c)) := HB.out.trans (hs2.mono HB.out.size)
      have HA4 : Hid (At ((wr.alloc z33).setCells wr.heap.size 0 (f kk).c) base p t kk) := HA.out.below hs2
      have HD := hid (fun W (hW : At W base p t kk) => does_ok hW (by omega) (f kk) (HRg.out kk hlt))
      have HG := hid (fun W (hW : At W base p t (kk + 1)) => At.agrees hW (by omega) (f kk))
      have hkI : (kk : Int) < len := by omega
      clear hce hs1 hs2 hs3 HA HB
      unfold z33 at *
      go_upto_region 10 with (first | (refine wpList_load_mid rfl 33 (.tmp 45) rfl B (off + kk * 10) rfl (f kk).c _ (by exact HCe.out) Try.underlying33 rfl info33 ?_) | (refine wpList_store_mid rfl 33 (.tmp 9) (.tmp 46) rfl wr.heap.size 0 (f kk).c.toArray rfl rfl (by exact HTH.out) (by kernel_rfl) (sb_one _) ?_))
      generalize (wr.alloc (.cells #[i64 0, i64 0, i64 0, i64 0, i64 0, i64 0, .bool false, i64 0, i64 0, i64 0] 33)).setCells wr.heap.size 0 (f kk).c = U4 at *
      generalize wr.heap.size = q9 at *
      have y1 : U4.cell? ⟨q9, 1, none⟩ = some (i64 (f kk).env) := bkc HX4.out 1
      by_cases he : (f kk).env = 0
      · have he' : ((f kk).env == 0) = true := by simpa using he
        have HA9 : Hid (At U4 base p t (kk + 1)) := HA4.out.more
        go_wp2_with fail
        exact ⟨⟨kk + 1, by omega, by go_num, HB4, HA9⟩, by simp [intOf]; omega⟩
      · have he' : ((f kk).env == 0) = false := by simpa using he
        go_upto_region 11 with fail
        clear y1
        go_wp2_with (refine wpList_load_mid rfl 33 (.tmp 9) rfl q9 0 rfl (f kk).c _ (by exact sbO_range HX4.out) Try.underlying33 rfl info33 ?_)
        refine (HD.out U4 HA4.out).mono ?_
        rintro e w4 ⟨rfl, hA5, hf5⟩
        have HA5 := hid hA5
        have HB5 : Hid (Below w.heap.size w w4) := HB4.out.trans (hf5.below.mono hbase')
        have HX5 : Hid (w4.heap[q9]? = some (sbO (f kk))) := hf5.kept _ _ _ (Or.inl rfl) HX4.out
        clear hf5 hA5 HB4 HA4 HX4 HD
        have y0 : w4.cell? ⟨q9, 0, none⟩ = some (i64 (f kk).what) := bkc HX5.out 0
        have y1 : w4.cell? ⟨q9, 1, none⟩ = some (i64 (f kk).env) := bkc HX5.out 1
        have y2 : w4.cell? ⟨q9, 2, none⟩ = some (i64 (f kk).kind) := bkc HX5.out 2
        have y3 : w4.cell? ⟨q9, 3, none⟩ = some (i64 (f kk).n) := bkc HX5.out 3
        have y4 : w4.cell? ⟨q9, 4, none⟩ = some (i64 (f kk).tt) := bkc HX5.out 4
        have y5 : w4.cell? ⟨q9, 5, none⟩ = some (i64 (f kk).rts) := bkc HX5.out 5
        have y6 : w4.cell? ⟨q9, 6, none⟩ = some (.bool (f kk).by_) := bkc HX5.out 6
        have y7 : w4.cell? ⟨q9, 7, none⟩ = some (i64 (f kk).q.a) := bkc HX5.out 7
        have y8 : w4.cell? ⟨q9, 8, none⟩ = some (i64 (f kk).q.b) := bkc HX5.out 8
        have y9 : w4.cell? ⟨q9, 9, none⟩ = some (i64 (f kk).q.c) := bkc HX5.out 9
        go_wp2_with fail
        refine (HG.out w4 HA5.out).mono ?_
        rintro e w5 ⟨rfl, hb6⟩
        have HB6 : Hid (Below w.heap.size w w5) := HB5.out.trans (hb6.mono HB5.out.size)
        have HA6 := hid (HA5.out.below hb6)
        clear hb6 HG y0 y1 y2 y3 y4 y5 y6 y7 y8 y9
        go_wp2_with fail
        exact ⟨⟨kk + 1, by omega, by go_num, HB6, HA6⟩, by simp [intOf]; omega⟩
    · obtain rfl : kk = len := by omega
      go_wp2_with fail
      refine (frame_ok wr).mono ?_
      rintro e w7 ⟨rfl, hb7⟩
      have HB7 : Hid (Below w.heap.size w w7) := HB.out.trans (hb7.mono HB.out.size)
      clear hb7
      go_wp2_with fail
      go_ret
      exact ⟨rfl, HB7.out⟩
theorem open_arr {H : Type} {enc : TypeId × Value → H} {W : World} {r : Reach} {b0 : Nat} {spare : Nat → Bool} {held : Bool} {v : Value} {dd : DataW H} {ps : List MemPlace} (hv : Value.okWide Try.prog W r b0 22 v)
    (h : DataW.Trod enc Try.prog W 0 spare held 22 v dd ps) : ∃ t : Qt.T, v = t.v := by
  have hcs : ∃ cs, v = .agg cs := by
    simp only [Value.okWide, Try.underlying22] at hv
    obtain ⟨cs, h1, _⟩ := hv
    exact ⟨cs, h1⟩
  obtain ⟨⟨l⟩, rfl⟩ := hcs
  obtain ⟨fuel, hf⟩ := h
  obtain ⟨t, ht, hr⟩ := arr_read hf
  have ht' : l = [i64 t.a, i64 t.b, i64 t.c] := ht
  subst ht'
  exact ⟨t, rfl⟩
theorem steps_any (w : World) (t : Qt.T) (ao : Option Addr) (len cap : Nat) (f : Nat → Sb) (hlen : len ≤ maxLen) (hS : SSl w ao len f) (hR : ∀ i, i < len → (f i).rng) : Calls Try.prog 3 #[t.v, .slice ao len cap] w fun e w' => e = .returned (.bool true) ∧ Below w.heap.size w w' := by
  cases ht : rgB t with
  | false => exact steps_out w t ao len cap ht
  | true => exact steps_in w t ao len cap f ht hlen hS hR
end Go.Proofs.Ytnknhencobhjdaa
