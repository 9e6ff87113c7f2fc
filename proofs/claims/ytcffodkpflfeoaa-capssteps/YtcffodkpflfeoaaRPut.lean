/- imagoref09.Table's put, got: contracts; no statement is proved in this text. -/
import Derived.Test.YtcffodkpflfeoaaRFind
namespace Go.Proofs.Ytcffodkpflfeoaa
open Go.ChangeShapes Go.WideShapes Go.ChangeAt Go.RowKit Go.Deep
attribute [local go_sem ↓] Go.wp_at_zero Go.wp_at_succ

theorem wp_app_run {P : Program} {w : World} {o : Oper} {a : Act} {K : Act → World → Prop} {Q : Exit → Act → World → Prop} (s x : Operand) (t : TypeId)
    (ho : o.op = .call { callee := .builtin .append, args := #[s, x], argTypes := #[t, t] }) (v1 v2 : Value) (hs : a.eval s = v1) (hx : a.eval x = v2) (ty : TypeId) (hty : o.type = ty) (r : Value) (w' : World)
    (hr : (Builtin.append_ #[t, t] ty #[v1, v2]).run P w = .ok r w') (h : K (a.put o.dst r) w') : Oper.wp P o a w K Q := by
  unfold Oper.wp execOp
  simp only [ho, resolve, invoke, builtin, Sem.run_bind, Sem.run_pure, Result.andThen_ok, List.map_toArray, List.map_cons, List.map_nil, hs, hx, hty, hr]
  exact h
/-- An append, whose other blocks are all as they were. -/
theorem app_far {t e te : TypeId} {size bytes : Nat} {z : Value} (hu : Try.prog.underlying t = some (.slice e)) (hin : (Try.prog.info? e).map (fun i => (i.zero, i.size, i.bytes)) = some (some z, size, bytes)) (hzs : z.cells.size = size) (hsz : 0 < size) (hby : bytes ≤ 1000)
    {V : World} {base : Nat} {v : Value} {n : Nat} {xs : List Value} (ho : V.ownsRow base e size v n xs) (C : List Value) (hC : C.length = size) (h1 : ∀ u ∈ C, u.oneCell' = true) (hn : n ≤ 100000) (hB : base ≤ V.heap.size) :
    ∃ ao cap w', (Builtin.append_ #[t, t] t #[v, .slice (some ⟨V.heap.size, 0, none⟩) 1 1]).run Try.prog (V.alloc (.cells C.toArray te)) = .ok (.slice ao (n + 1) cap) w' ∧ w'.ownsRow base e size (.slice ao (n + 1) cap) (n + 1) (xs ++ C) ∧ Fr base [e] V w' ∧ ∀ k, k < V.heap.size → some k ≠ v.ownBlock → w'.heap[k]? = V.heap[k]? := by
  obtain ⟨i, hi, hz, hs, hb⟩ := info_parts hin
  have hb1 : Below V.heap.size V (V.alloc (.cells C.toArray te)) := below_one V _
  have ho2 : (V.alloc (.cells C.toArray te)).ownsRow base e size v n xs := ho.alloc _
  have hmul : (n + 1) * bytes ≤ 140737488355328 := Nat.le_trans (Nat.mul_le_mul (show n + 1 ≤ 100001 by omega) hby) (by decide)
  obtain ⟨v', w', hr, h2, h3, _, _⟩ := run_append_own_at (P := Try.prog) (V.alloc (.cells C.toArray te)) base t t e i z size bytes hu hi hz hs hb hzs hsz v n xs ho2 ⟨V.heap.size, 0, none⟩ 1 1 C (by rw [hC, Nat.one_mul]) (World.news_of_block (heap_last V _)) h1 (by unfold maxLen; omega) hmul (by have := hb1.size; omega)
  obtain ⟨ao, cap, rfl, _⟩ := own_slice h2
  have hgb : ∀ k o, V.heap[k]? = some o → keeps [e] o = true → w'.heap[k]? = some o := fun k o hk hko => by
    rw [h3.block k (by have := blk_lt hk; simp; omega) (fun hE => ?_)]
    · exact blk_below hk hb1
    · rcases ho.2 with ⟨rfl, _⟩ | ⟨g, cap, cur, rfl, _, hgg, _⟩
      · simp [Value.ownBlock] at hE
      · simp [Value.ownBlock] at hE
        subst hE
        rw [hgg] at hk
        cases hk
        simp [keeps] at hko
  refine ⟨ao, cap, w', hr, h2, ⟨⟨h3.os, h3.tape, h3.output, Nat.le_trans hb1.size h3.size, fun k hk => ?_⟩, hgb⟩, fun k hk hne => ?_⟩
  · rw [h3.block k (by simp; omega) (fun hE => by have := (ho.lt k hE.symm).1; omega)]
    exact hb1.block k (by omega)
  · rw [h3.block k (by simp; omega) hne]
    exact hb1.block k hk
theorem under28 : Try.prog.underlying 28 = some (.slice 66) := by kernel_rfl
theorem info66x : (Try.prog.info? 66).map (fun i => (i.zero, i.size, i.bytes)) = some (some (.agg #[i64 0, i64 0, i64 0, i64 0, i64 0, i64 0, i64 0, .bool false]), 8, 64) := by kernel_rfl
theorem rwl_one (p : Rw) : ∀ u ∈ p.l, u.oneCell' = true := by
  intro u hu
  simp only [List.mem_cons, List.not_mem_nil, or_false] at hu
  rcases hu with rfl | rfl | rfl | rfl | rfl | rfl | rfl | rfl <;> rfl
def cnS (L : List Rw) (sl : Int) : Nat := (L.filter fun r => decide (r.sl = sl)).length
theorem cnS_succ {L : List Rw} {k : Nat} {p : Rw} {sl : Int} (hp : L[k]? = some p) : cnS (L.take (k + 1)) sl = cnS (L.take k) sl + (if p.sl = sl then 1 else 0) := by
  unfold cnS
  rw [List.take_add_one, hp, List.filter_append, List.length_append]
  by_cases h : p.sl = sl <;> simp [h]
theorem cnS_le (L : List Rw) (sl : Int) : cnS L sl ≤ L.length := List.length_filter_le _ _
abbrev rO (p : Rw) : Obj := .cells #[i64 p.c.env, i64 p.c.kind, i64 p.c.num, i64 p.c.rts, i64 p.sl, i64 p.gn, i64 p.fr, .bool p.lv] 66
structure SqT (r x : Nat) (v : Value) (p : Rw) (W : World) : Prop where
  s0 : W.cell? ⟨r, 0, none⟩ = some v
  x0 : W.cell? ⟨x, 0, none⟩ = some (i64 p.c.env)
  x1 : W.cell? ⟨x, 1, none⟩ = some (i64 p.c.kind)
  x2 : W.cell? ⟨x, 2, none⟩ = some (i64 p.c.num)
  x3 : W.cell? ⟨x, 3, none⟩ = some (i64 p.c.rts)
  x4 : W.cell? ⟨x, 4, none⟩ = some (i64 p.sl)
  x5 : W.cell? ⟨x, 5, none⟩ = some (i64 p.gn)
  x6 : W.cell? ⟨x, 6, none⟩ = some (i64 p.fr)
  x7 : W.cell? ⟨x, 7, none⟩ = some (.bool p.lv)
theorem SqT.of {W : World} {r x : Nat} {v : Value} {p : Rw} (h0 : W.heap[r]? = some (.cells #[v] 30)) (hx : W.heap[x]? = some (rO p)) : SqT r x v p W :=
  ⟨blk_cell h0 0, blk_cell hx 0, blk_cell hx 1, blk_cell hx 2, blk_cell hx 3, blk_cell hx 4, blk_cell hx 5, blk_cell hx 6, blk_cell hx 7⟩
set_option maxRecDepth 100000 in
set_option maxHeartbeats 3200000 in
theorem rput_ok {w : World} {base r : Nat} {L : List Rw} (h : Rb w base r L) (hl : L.length ≤ 900) (c : Cp) (sl gn fr : Int) (lv : Bool) (s : Nat) (hs : s < 128) (h0 : atI L (s : Nat) = -1) (hno : ∀ j : Nat, j < s → ∃ k : Nat, atI L (j : Nat) = k) :
    Calls Try.prog 46 #[pq r, rwV c sl gn fr lv] w fun e w' => e = .returned (i64 (L.length : Nat)) ∧ Rb w' base r (L ++ [⟨c, s, (cnS L (s : Nat) : Int) + 1, fr, true⟩]) ∧ Fr base [30, 66] w w' := by
  have hblo : base ≤ w.heap.size := by have := h.lt; have := h.lo; omega
  have hbr := h.lo
  have hrl := h.lt
  obtain ⟨V, hV⟩ : ∃ V, V = w.alloc (rO ⟨c, sl, gn, fr, lv⟩) := ⟨_, rfl⟩
  have HV : Hid (w.alloc (.cells #[i64 c.env, i64 c.kind, i64 c.num, i64 c.rts, i64 sl, i64 gn, i64 fr, .bool lv] 66) = V) := hV.symm
  have hbV : Below w.heap.size w V := by rw [hV]; exact below_one w _
  have hq3 : V.heap[w.heap.size]? = some (rO ⟨c, sl, gn, fr, lv⟩) := by rw [hV]; exact heap_last w _
  have HQ3 := hid hq3
  have HBV := hid hbV
  have HR := hid h
  have HNO := hid hno
  have H0 := hid h0
  have hsI : (s : Int) < 128 := by omega
  obtain ⟨N, hN⟩ : ∃ N, N = L.length := ⟨_, rfl⟩
  rw [← hN] at hl ⊢
  have HN : Hid (N = L.length) := hN
  have hNI : (N : Int) ≤ 900 := by omega
  clear h hV hbV hq3 hno h0 hN
  unfold rwV
  go_enter Try.func46, Try.ntmps46
  go_upto_region 1 with fail
  rw [HV.out]
  go_wp2_with fail
  go_loopw [5] (fun u wr => ∃ k : Nat, k ≤ s ∧ u = i64 k ∧ Hid (Below V.heap.size V wr)) (fun u _ => s - (intOf u).toNat)
  case atStart => exact ⟨0, by omega, rfl, Below.refl _ _⟩
  case round =>
    obtain ⟨k, hk, rfl, HB⟩ := hrel
    have hkI : (k : Int) < 128 := by omega
    have HBw : Hid (Below w.heap.size w wr) := HBV.out.trans (HB.out.mono HBV.out.size)
    have hA := rat_ok (HR.out.below HBw.out) (by rw [← HN.out]; omega) (k : Nat)
    by_cases hlt : k < s
    · obtain ⟨i, hi⟩ := HNO.out k hlt
      rw [hi] at hA
      have HA := hid hA
      clear hA hi
      go_wp2_with fail
      refine HA.out.mono ?_
      rintro e w2 ⟨rfl, hb2⟩
      have HB2 : Hid (Below V.heap.size V w2) := HB.out.trans (hb2.mono HB.out.size)
      clear hb2
      go_wp2_with fail
      exact ⟨⟨k + 1, by omega, by go_num, HB2⟩, by simp [intOf]; omega⟩
    · obtain rfl : k = s := by omega
      rw [H0.out] at hA
      have HA := hid hA
      clear hA
      go_wp2_with fail
      refine HA.out.mono ?_
      rintro e w2 ⟨rfl, hb2⟩
      have hb2V : Below V.heap.size V w2 := HB.out.trans (hb2.mono HB.out.size)
      have HB2 : Hid (Below w.heap.size w w2) := HBw.out.trans (hb2.mono HBw.out.size)
      have hq2 := blk_below HQ3.out hb2V
      have y0 : w2.cell? ⟨w.heap.size, 0, none⟩ = some (i64 c.env) := blk_cell hq2 0
      have y1 : w2.cell? ⟨w.heap.size, 1, none⟩ = some (i64 c.kind) := blk_cell hq2 1
      have y2 : w2.cell? ⟨w.heap.size, 2, none⟩ = some (i64 c.num) := blk_cell hq2 2
      have y3 : w2.cell? ⟨w.heap.size, 3, none⟩ = some (i64 c.rts) := blk_cell hq2 3
      have y4 : w2.cell? ⟨w.heap.size, 4, none⟩ = some (i64 sl) := blk_cell hq2 4
      have y5 : w2.cell? ⟨w.heap.size, 5, none⟩ = some (i64 gn) := blk_cell hq2 5
      have y6 : w2.cell? ⟨w.heap.size, 6, none⟩ = some (i64 fr) := blk_cell hq2 6
      have y7 : w2.cell? ⟨w.heap.size, 7, none⟩ = some (.bool lv) := blk_cell hq2 7
      have hws : w.heap.size < w2.heap.size := blk_lt hq2
      clear hb2 hb2V hq2
      go_upto_region 9 with fail
      have HX4 : Hid ((w2.alloc (rO ⟨c, (k : Nat), 1, fr, true⟩)).heap[w2.heap.size]? = some (rO ⟨c, (k : Nat), 1, fr, true⟩)) := heap_last w2 _
      have HB4 : Hid (Below w.heap.size w (w2.alloc (rO ⟨c, (k : Nat), 1, fr, true⟩))) := HB2.out.alloc HB2.out.size _
      obtain ⟨ao, cap, hbk, hown, hcap, _⟩ := (HR.out.below HB4.out).row
      have b0 : (w2.alloc (rO ⟨c, (k : Nat), 1, fr, true⟩)).cell? ⟨r, 0, none⟩ = some (.slice ao L.length cap) := blk_cell hbk 0
      have HK4 := hid hbk
      rw [← HN.out] at b0 hcap HK4
      have hcI : (N : Int) ≤ cap := by omega
      clear y0 y1 y2 y3 y4 y5 y6 y7 hbk hown
      unfold rO at HX4 HB4 HK4 b0
      generalize w2.alloc (.cells #[i64 c.env, i64 c.kind, i64 c.num, i64 c.rts, i64 (k : Nat), i64 1, i64 fr, .bool true] 66) = V4 at *
      generalize w2.heap.size = x at *
      go_wp2_with fail
      go_loopw [27] (fun u wq => ∃ m : Nat, m ≤ N ∧ u = i64 m ∧ Hid (wq.heap[x]? = some (rO ⟨c, (k : Nat), (cnS (L.take m) (k : Nat) : Int) + 1, fr, true⟩)) ∧ Hid (Below w.heap.size w wq) ∧ Hid (wq.heap[r]? = some (.cells #[.slice ao N cap] 30))) (fun u _ => N - (intOf u).toNat)
      case atStart => exact ⟨0, by omega, rfl, HX4, HB4, HK4⟩
      case round =>
        obtain ⟨m, hm, rfl, HXm, HBm, HKm⟩ := hrel
        by_cases hltm : m < N
        · have hlt2 : m < L.length := by rw [← HN.out]; exact hltm
          obtain ⟨p, hp⟩ : ∃ p, L[m]? = some p := ⟨_, List.getElem?_eq_getElem hlt2⟩
          obtain ⟨ao', cap', hbk', _, _, hrow⟩ := (HR.out.below HBm.out).row
          have hse := HKm.out.symm.trans hbk'
          simp only [Option.some.injEq, Obj.cells.injEq, Array.mk.injEq, List.cons.injEq, Value.slice.injEq, and_true] at hse
          obtain ⟨rfl, hsN, rfl⟩ := hse
          clear hsN
          obtain ⟨g, rfl, hbg, hgl, _, _, hc⟩ := hrow m p hp
          have c0 : wr.cell? ⟨g, m * 8, none⟩ = some (i64 p.c.env) := hc 0 (by omega)
          have c1 : wr.cell? ⟨g, m * 8 + 1, none⟩ = some (i64 p.c.kind) := hc 1 (by omega)
          have c2 : wr.cell? ⟨g, m * 8 + 2, none⟩ = some (i64 p.c.num) := hc 2 (by omega)
          have c3 : wr.cell? ⟨g, m * 8 + 3, none⟩ = some (i64 p.c.rts) := hc 3 (by omega)
          have c4 : wr.cell? ⟨g, m * 8 + 4, none⟩ = some (i64 p.sl) := hc 4 (by omega)
          have c5 : wr.cell? ⟨g, m * 8 + 5, none⟩ = some (i64 p.gn) := hc 5 (by omega)
          have c6 : wr.cell? ⟨g, m * 8 + 6, none⟩ = some (i64 p.fr) := hc 6 (by omega)
          have c7 : wr.cell? ⟨g, m * 8 + 7, none⟩ = some (.bool p.lv) := hc 7 (by omega)
          have hmI : (m : Int) < N := by omega
          have HSu := hid (cnS_succ (sl := (k : Nat)) hp)
          have hle : cnS (L.take m) (k : Nat) ≤ 1000 := Nat.le_trans (cnS_le _ _) (by rw [List.length_take]; omega)
          have hxl := blk_lt HXm.out
          have HBm2 : Hid (Below w.heap.size w (wr.alloc (rO p))) := HBm.out.alloc HBm.out.size _
          have HKm2 : Hid ((wr.alloc (rO p)).heap[r]? = some (.cells #[.slice (some ⟨g, 0, none⟩) N cap] 30)) := blk_alloc HKm.out _
          have HXm2 : Hid ((wr.alloc (rO p)).heap[x]? = some (rO ⟨c, (k : Nat), (cnS (L.take m) (k : Nat) : Int) + 1, fr, true⟩)) := blk_alloc HXm.out _
          clear hrow hc hp hbk'
          generalize cnS (L.take m) (k : Nat) = M at *
          go_upto_region 12 with fail
          have d4 : (wr.alloc (rO p)).cell? ⟨wr.heap.size, 4, none⟩ = some (i64 p.sl) := blk_cell (heap_last wr _) 4
          have d5 : (wr.alloc (rO p)).cell? ⟨x, 5, none⟩ = some (i64 ((M : Int) + 1)) := blk_cell HXm2.out 5
          have df : (wr.alloc (rO p)).frozen? ⟨x, 5, none⟩ = false := blk_frozen HXm2.out 5
          unfold rO at d4 d5 df HBm2 HKm2 HXm2
          generalize wr.alloc (.cells #[i64 p.c.env, i64 p.c.kind, i64 p.c.num, i64 p.c.rts, i64 p.sl, i64 p.gn, i64 p.fr, .bool p.lv] 66) = U at *
          clear c0 c1 c2 c3 c4 c5 c6 c7
          by_cases he : p.sl = (k : Nat)
          · have hb : (p.sl == (k : Int)) = true := by simpa using he
            have HX5 : Hid ((U.setCell ⟨x, 5, none⟩ (i64 ((M : Int) + 1 + 1))).heap[x]? = some (rO ⟨c, (k : Nat), (cnS (L.take (m + 1)) (k : Nat) : Int) + 1, fr, true⟩)) := by
              have := heap_setCell_same U x 5 _ 66 (i64 ((M : Int) + 1 + 1)) HXm2.out
              rw [HSu.out, if_pos he]
              exact hid (by simpa using this)
            have HB5 : Hid (Below w.heap.size w (U.setCell ⟨x, 5, none⟩ (i64 ((M : Int) + 1 + 1)))) := HBm2.out.setCell (by show w.heap.size ≤ x; omega) _
            have HK5 : Hid ((U.setCell ⟨x, 5, none⟩ (i64 ((M : Int) + 1 + 1))).heap[r]? = some (.cells #[.slice (some ⟨g, 0, none⟩) N cap] 30)) := by rw [Below.heap_setCell _ _ _ _ (by show r ≠ x; omega)]; exact HKm2.out
            clear he
            go_wp2_with fail
            exact ⟨⟨m + 1, by omega, by go_num, HX5, HB5, HK5⟩, by simp [intOf]; omega⟩
          · have hb : (p.sl == (k : Int)) = false := by simpa using he
            have HX5 : Hid (U.heap[x]? = some (rO ⟨c, (k : Nat), (cnS (L.take (m + 1)) (k : Nat) : Int) + 1, fr, true⟩)) := by rw [HSu.out, if_neg he]; exact HXm2
            clear he
            go_wp2_with fail
            exact ⟨⟨m + 1, by omega, by go_num, HX5, HBm2, HKm2⟩, by simp [intOf]; omega⟩
        · have hE : L.take m = L := List.take_of_length_le (by rw [← HN.out]; omega)
          rw [hE] at HXm
          obtain ⟨p, hpd⟩ : ∃ p : Rw, p = ⟨c, (k : Nat), (cnS L (k : Nat) : Int) + 1, fr, true⟩ := ⟨_, rfl⟩
          have HPD := hid hpd
          rw [← hpd] at HXm
          have hRm := HR.out.below HBm.out
          obtain ⟨v, hv1, hv2⟩ := hRm.own
          have hse := HKm.out.symm.trans hv1
          simp only [Option.some.injEq, Obj.cells.injEq, Array.mk.injEq, List.cons.injEq, and_true] at hse
          subst hse
          have hsz : base ≤ wr.heap.size := Nat.le_trans hblo HBm.out.size
          obtain ⟨ao2, cap2, w6, hrun, hown6, hfr6, hfar⟩ := app_far (te := 66) under28 info66x rfl (by omega) (by omega) (V := wr.drew) (own_keep hv2 (fun _ _ h => h)) p.l rfl (rwl_one p) (by rw [← HN.out]; omega) hsz
          have hg6 : ∀ q, some q = (Value.slice ao N cap).ownBlock → q < w.heap.size := fun q hq => by
            obtain ⟨v', hw1, hw2⟩ := HR.out.own
            have h1 := (HBm.out.block r hrl).trans hw1
            rw [HKm.out] at h1
            simp only [Option.some.injEq, Obj.cells.injEq, Array.mk.injEq, List.cons.injEq, and_true] at h1
            subst h1
            exact (hw2.lt q hq.symm).2
          have hx6 : w6.heap[x]? = some (rO p) := (hfar x (blk_lt HXm.out) (fun e => by have := hg6 x e; omega)).trans HXm.out
          have hr6 : w6.heap[r]? = some (.cells #[.slice ao N cap] 30) := hfr6.kept _ _ HKm.out (by rfl)
          have HRUN := hid hrun
          rw [← HN.out] at HRUN hown6
          have HOWN := hid hown6
          have HX6 := hid hx6
          have HR6 := hid hr6
          have HF6 : Hid (Fr base [30, 66] w w6) := (Fr.of_below _ HBm.out hblo).trans ((show Fr base [66] wr w6 from ⟨⟨hfr6.below.os, hfr6.below.tape, hfr6.below.output, hfr6.below.size, hfr6.below.block⟩, hfr6.kept⟩).mono (fun o ho => by
            cases o with
            | cells C t fr => simp [keeps] at ho ⊢; exact ho.2
            | _ => rfl))
          have HS : Hid (SqT r x (.slice ao N cap) p wr.drew) := SqT.of HKm.out HXm.out
          clear hv1 hv2 hrun hown6 hx6 hr6 hfr6 hfar hRm hpd hE
          obtain ⟨n, hn⟩ : ∃ n, n = N := ⟨_, rfl⟩
          go_upto_region 15 with fail
          refine wp_region_noPanic ?_
          refine wp_region_last (SqT r x (.slice ao N cap) p) 10 (by kernel_rfl) ?_
          refine wpL_take 0 40 (pq r) [] rfl rfl (by kernel_rfl) (by decide) (by kernel_rfl) (by kernel_rfl) (by kernel_rfl) (fun _ _ _ h => h) HS.out (by rfl) (fun W hW => by obtain ⟨s0, x0, x1, x2, x3, x4, x5, x6, x7⟩ := hW; go_simp) ?_
          simp only [Act.put, List.setIfInBounds_toArray, List.set_cons_zero, List.set_cons_succ]
          refine wpL_take 1 41 (pq r) [] rfl rfl (by kernel_rfl) (by decide) (by kernel_rfl) (by kernel_rfl) (by kernel_rfl) (fun _ _ _ h => h) HS.out (by rfl) (fun W hW => by obtain ⟨s0, x0, x1, x2, x3, x4, x5, x6, x7⟩ := hW; go_simp) ?_
          simp only [Act.put, List.setIfInBounds_toArray, List.set_cons_zero, List.set_cons_succ]
          refine wpL_take 2 42 (pq r) [] rfl rfl (by kernel_rfl) (by decide) (by kernel_rfl) (by kernel_rfl) (by kernel_rfl) (fun _ _ _ h => h) HS.out (by rfl) (fun W hW => by obtain ⟨s0, x0, x1, x2, x3, x4, x5, x6, x7⟩ := hW; go_simp) ?_
          simp only [Act.put, List.setIfInBounds_toArray, List.set_cons_zero, List.set_cons_succ]
          refine wpL_take 3 43 (pq r) [] rfl rfl (by kernel_rfl) (by decide) (by kernel_rfl) (by kernel_rfl) (by kernel_rfl) (fun _ _ _ h => h) HS.out (by rfl) (fun W hW => by obtain ⟨s0, x0, x1, x2, x3, x4, x5, x6, x7⟩ := hW; go_simp) ?_
          simp only [Act.put, List.setIfInBounds_toArray, List.set_cons_zero, List.set_cons_succ]
          refine wpL_take 4 44 (.slice ao N cap) [] rfl rfl (by kernel_rfl) (by decide) (by kernel_rfl) (by kernel_rfl) (by kernel_rfl) (fun _ _ _ h => h) HS.out (by rfl) (fun W hW => by obtain ⟨s0, x0, x1, x2, x3, x4, x5, x6, x7⟩ := hW; go_simp) ?_
          simp only [Act.put, List.setIfInBounds_toArray, List.set_cons_zero, List.set_cons_succ]
          refine wpL_take 5 45 (.agg #[i64 p.c.env, i64 p.c.kind, i64 p.c.num, i64 p.c.rts, i64 p.sl, i64 p.gn, i64 p.fr, .bool p.lv]) [] rfl rfl (by kernel_rfl) (by decide) (by kernel_rfl) (by kernel_rfl) (by kernel_rfl) (fun _ _ _ h => h) HS.out (by rfl) (fun W hW => by obtain ⟨s0, x0, x1, x2, x3, x4, x5, x6, x7⟩ := hW; go_simp) ?_
          simp only [Act.put, List.setIfInBounds_toArray, List.set_cons_zero, List.set_cons_succ]
          refine wpL_one 6 rfl (by kernel_rfl) (by rfl) (fun K hK => ?_)
          go_simp
          refine hK.out _ _ (fun _ => SqT.of (blk_alloc (w := wr.drew) HKm.out _) (blk_alloc (w := wr.drew) HXm.out _)) ?_
          clear hK K
          refine wpL_one 7 rfl (by kernel_rfl) (by rfl) (fun K hK => ?_)
          refine wp_app_run (.tmp 44) (.tmp 46) 28 rfl _ _ rfl rfl 28 rfl _ _ HRUN.out ?_
          refine hK.out _ _ (fun _ => SqT.of HR6.out HX6.out) ?_
          clear hK K
          refine wpL_one 8 rfl (by kernel_rfl) (by rfl) (fun K hK => ?_)
          go_simp
          refine hK.out _ _ (fun _ => SqT.of HR6.out HX6.out) ?_
          clear hK K
          refine wpL_one 9 rfl (by kernel_rfl) (by rfl) (fun K hK => ?_)
          go_simp
          refine hK.out _ _ (fun _ => SqT.of HR6.out HX6.out) ?_
          clear hK K
          refine wpL_one 10 rfl (by kernel_rfl) (by rfl) (fun K hK => ?_)
          have r0 : w6.cell? ⟨r, 0, none⟩ = some (.slice ao N cap) := blk_cell HR6.out 0
          have rf : w6.frozen? ⟨r, 0, none⟩ = false := blk_frozen HR6.out 0
          go_simp
          refine hK.out _ _ (fun h => absurd rfl h) ?_
          clear hK K r0 rf
          refine wpL_done (by kernel_rfl) ?_
          refine NoPanic.normal ?_
          have HR7 : Hid ((w6.setCell ⟨r, 0, none⟩ (.slice ao2 (N + 1) cap2)).heap[r]? = some (.cells #[.slice ao2 (N + 1) cap2] 30)) := heap_set1 HR6.out _
          have HRb : Hid (Rb (w6.setCell ⟨r, 0, none⟩ (.slice ao2 (N + 1) cap2)) base r (L ++ [p])) := ⟨hbr, _, HR7.out, by
            rw [List.length_append, rcs_app, ← HN.out]
            exact own_keep HOWN.out (fun q C hC => by rw [Below.heap_setCell _ _ _ _ (fun e => by have hC' := hC; rw [show q = r from e, HR6.out] at hC'; simp at hC')]; exact hC)⟩
          have HF7 : Hid (Fr base [30, 66] w (w6.setCell ⟨r, 0, none⟩ (.slice ao2 (N + 1) cap2))) := HF6.out.trans (Fr.of_touch ((Touch.refl r w6).setCell rfl _) HR6.out (by rfl) hbr)
          have r1 : (w6.setCell ⟨r, 0, none⟩ (.slice ao2 (N + 1) cap2)).cell? ⟨r, 0, none⟩ = some (.slice ao2 (N + 1) cap2) := blk_cell HR7.out 0
          generalize w6.setCell ⟨r, 0, none⟩ (.slice ao2 (N + 1) cap2) = U7 at *
          go_wp2_with fail
          go_ret
          exact ⟨rfl, by have := HRb.out; rw [HPD.out] at this; exact this, HF7.out⟩
end Go.Proofs.Ytcffodkpflfeoaa
