/- Copy's closure over a row: its contract; no statement is proved in this text. -/
import Derived.Test.YtgiemijhndanjaaDoorCp1
import Derived.Test.YtgiemijhndanjaaDoorSz
namespace Go.Proofs.YtgiemijhndanjaaDoor
open Go.ChangeShapes Go.WideShapes Go.ChangeAt Go.RowKit Go.Deep
attribute [local go_sem ↓] Go.wp_at_zero Go.wp_at_succ

def ksOf (l : List Vl) (kvs : Nat → Value) : List Kv := (List.range l.length).map fun j => (l.getD j (.mk 0 0 [] []), kvs j)
theorem ksOf_len (l : List Vl) (kvs : Nat → Value) : (ksOf l kvs).length = l.length := by simp [ksOf]
theorem ksOf_get (l : List Vl) (kvs : Nat → Value) (j : Nat) (U : Vl) (h : l[j]? = some U) : (ksOf l kvs)[j]? = some (U, kvs j) := by
  have hj := (List.getElem?_eq_some_iff.1 h).1
  unfold ksOf
  rw [List.getElem?_map, List.getElem?_range hj]
  simp [List.getD_eq_getElem?_getD, h]
theorem kv_one {w : World} {S : Nat → Prop} {l : List Vl} {kvs : Nat → Value} (hr : ∀ i V, l[i]? = some V → Vd w S V (kvs i)) (x : Kv) (hx : x ∈ ksOf l kvs) : x.2.oneCell' = true := by
  unfold ksOf at hx
  obtain ⟨j, hj, rfl⟩ := List.mem_map.1 hx
  have hj' : j < l.length := by simpa using hj
  obtain ⟨a, c, h⟩ := (hr j _ (List.getElem?_eq_getElem hj')).form
  show (kvs j).oneCell' = true
  rw [h]
  rfl
set_option maxHeartbeats 1600000 in
theorem copy_kids {w W : World} {lo : Nat} {V : Vl} {ka : Option Addr} {kc : Nat} (hV : Vd w (fun b => b < lo) V (.slice ka V.kids.length kc)) (hB : Below lo w W) (hz : lo ≤ W.heap.size) (hk : V.kids.length ≠ 0) (hl : V.kids.length ≤ 100000) :
    ∃ cap W', (Builtin.append_ #[22, 22] 22 #[.slice none 0 0, .slice ka V.kids.length kc]).run Tryd.prog W = .ok (.slice (some ⟨W.heap.size, 0, none⟩) V.kids.length cap) W' ∧ Below W.heap.size W W' ∧ V.kids.length ≤ cap ∧ cap ≤ maxLen ∧ (∃ C, W'.heap[W.heap.size]? = some (.cells C 24)) ∧ RowK W' W.heap.size V.kids (fun U kv => Vd w (fun b => b < lo) U kv) ∧ ∀ U ∈ V.kids, U.s.length ≤ maxLen := by
  obtain ⟨k, n, s, l⟩ := V
  simp only [Vl.kids] at *
  obtain ⟨inf, hi, hz0, hs, hb⟩ := info_parts vinfo24
  cases hV with
  | mk b off kvs hs' hl' hcap ha hc hr =>
    rcases ha with ha | ⟨rfl, hS, hblt⟩
    · subst ha; simp at hk
    · have hcell : ∀ (j : Nat) (U : Vl), l[j]? = some U → W.rangeAt b (off + j * 4) (vc4 (U, kvs j)) := fun j U hU => range_keep (hc j U hU) (hB.block b hS)
      have hnews : ∀ (m : Nat) (u : Value), (vcs (ksOf l kvs))[m]? = some u → W.cell? ((⟨b, off, none⟩ : Addr).add m) = some u := by
        intro m u hu
        have hm : m < l.length * 4 := by have := (List.getElem?_eq_some_iff.1 hu).1; rw [vcs_len, ksOf_len] at this; exact this
        have hj : m / 4 < l.length := by omega
        have hU : l[m / 4]? = some l[m / 4] := List.getElem?_eq_getElem hj
        have e : m = m / 4 * 4 + m % 4 := by omega
        rw [e, vcs_get _ (m / 4) (m % 4) _ (ksOf_get l kvs _ _ hU) (by omega)] at hu
        have := hcell (m / 4) _ hU (m % 4) u hu
        rw [Addr.add_mid]
        rw [show off + m = off + m / 4 * 4 + m % 4 by omega]
        exact this
      have hown : W.ownsRow lo 24 4 (.slice none 0 0) 0 [] := ⟨rfl, Or.inl ⟨rfl, rfl⟩⟩
      obtain ⟨g, cap, W', h1, h2, h3, h4, h5⟩ := run_append_lies (P := Tryd.prog) W 22 22 lo 24 inf zAgg 4 56 vunder22 hi hz0 hs hb rfl (by omega) _ 0 _ hown ⟨b, off, none⟩ l.length kc (vcs (ksOf l kvs)) (by rw [vcs_len, ksOf_len]) hnews (fun u hu => by
        unfold vcs at hu
        obtain ⟨x, _, hx⟩ := List.mem_flatMap.1 hu
        simp only [List.mem_cons, List.not_mem_nil, or_false] at hx
        rcases hx with rfl | rfl | rfl | rfl
        · rfl
        · rfl
        · rfl
        · exact kv_one hr x (by assumption)) (by omega) (by unfold maxLen; omega) (by omega) hz _ rfl
      have hg : g = W.heap.size := by
        rcases h4 with h4 | h4
        · simp [Value.ownBlock] at h4
        · exact h4
      subst hg
      rw [Nat.zero_add] at h1 h2
      have hB' : Below W.heap.size W W' := ⟨h3.os, h3.tape, h3.output, h3.size, fun k hk => h3.block k hk (by simp [Value.ownBlock])⟩
      rcases h2.2 with ⟨hv, h0⟩ | ⟨g2, cap2, cur, hv, hbg, hg2, hc1, hc2, _, _⟩
      · omega
      · cases hv
        refine ⟨cap, W', h1, hB', hc1, hc2, ⟨cur, hg2⟩, fun j U hU => ⟨kvs j, fun m v hv => ?_, hr j U hU⟩, fun U hU => ?_⟩
        · have hm : m < 4 := by have := (List.getElem?_eq_some_iff.1 hv).1; simpa using this
          have hj := (List.getElem?_eq_some_iff.1 hU).1
          rw [h2.cellAt (j * 4 + m) (by omega), List.nil_append, vcs_get _ j m _ (ksOf_get l kvs _ _ hU) hm]
          exact hv
        · obtain ⟨j, hj, rfl⟩ := List.mem_iff_getElem.1 hU
          exact (hr j _ (List.getElem?_eq_getElem hj)).lens.1
set_option maxRecDepth 100000 in
set_option maxHeartbeats 12800000 in
theorem cp1_ok (w w0 : World) (lo : Nat) (D P : List Er) (x : Er) (h : CpI w w0 lo D (P ++ [x])) (hsz : sizeL x.2.2 ≤ 100000) : Calls Tryd.prog 42 #[slE x] w0 fun e w' => e = .returned (.tuple #[]) ∧ Touch x.1 w0 w' ∧ ∃ f, CqI w w' lo D P x f x.2.2.length := by
  have HI0 := hid (CqI.start h (fun _ => x))
  have HSz := hid hsz
  obtain ⟨g, c, l⟩ := x
  have hcap : l.length ≤ c ∧ c ≤ maxLen := by obtain ⟨_, h2, h3, _⟩ := h.blk (g, c, l) (by simp); exact ⟨h2, h3⟩
  have hln : l.length ≤ 100000 := by have := sizeL_len l; simp only at hsz; omega
  obtain ⟨hc1, hc2⟩ := hcap
  unfold maxLen at hc2
  clear h hsz
  show Calls Tryd.prog 42 #[.slice (some ⟨g, 0, none⟩) l.length c] w0 _
  go_enter Tryd.func42, Tryd.ntmps42
  go_wp2_with fail
  go_loopw [5] (fun u W => ∃ (i : Nat) (f : Nat → Er), i ≤ l.length ∧ u = i64 i ∧ Hid (CqI w W lo D P (g, c, l) f i) ∧ Hid (Touch g w0 W)) (fun u _ => l.length - (intOf u).toNat)
  case atStart => exact ⟨0, _, Nat.zero_le _, rfl, HI0, Touch.refl _ _⟩
  case round =>
    obtain ⟨i, f, hi, rfl, HI, HT⟩ := hrel
    by_cases hlt : i < l.length
    · obtain ⟨V, hV⟩ : ∃ V, V = l[i] := ⟨_, rfl⟩
      have HVe : Hid (l[i]? = some V) := by show _ = _; rw [List.getElem?_eq_getElem hlt, hV]
      obtain ⟨kv, hr, hd⟩ := HI.out.rr i V HVe.out (Nat.le_refl _)
      obtain ⟨ka, kc, rfl⟩ := hd.form
      obtain ⟨hlo, _, _, C, hC⟩ := HI.out.blk (g, c, l) (by simp)
      have c3 : wr.cell? ⟨g, i * 4 + 3, none⟩ = some (.slice ka V.kids.length kc) := hr 3 _ rfl
      have f3 : wr.frozen? ⟨g, i * 4 + 3, none⟩ = false := blk_frozen hC _
      have hVs : V.kids.length ≤ 100000 := by
        have h1 : V ∈ l := by rw [hV]; exact List.getElem_mem hlt
        have h2 := sizeL_mem h1
        have h3 := V.size_eq
        have h4 := sizeL_len V.kids
        have h5 := HSz.out
        omega
      by_cases hk : V.kids.length = 0
      · have HS := hid (cq_step (f' := f) HI.out (Below.refl _ wr) V HVe.out (fun _ _ => rfl) (fun h => absurd hk h))
        have e : kvF V (f i) = .slice none 0 0 := by unfold kvF; rw [if_pos hk]
        rw [e] at HS
        rw [hk] at c3
        have HRUN := hid (app_nil0 wr ka kc)
        clear e hV hr hd hC hk hlo
        go_wp2_with (at_builtin; refine wpList_app_run rfl (.const (.slice none 0 0)) (.tmp 14) 22 rfl _ _ rfl rfl 22 rfl _ _ HRUN.out ?_)
        exact ⟨⟨i + 1, f, by omega, by go_num, HS, HT.out.setCell rfl _⟩, by simp [intOf]; omega⟩
      · obtain ⟨cap, W', hrun, hB, k1, k2, k3, k4, k5⟩ := copy_kids hd HI.out.b (by have := blk_lt hC; omega) hk hVs
        have HS := hid (cq_step (f' := fun j => if j = i then (wr.heap.size, cap, V.kids) else f j) HI.out hB V HVe.out (fun j hj => if_neg (by omega)) (fun _ => by
          rw [if_pos rfl]
          exact ⟨rfl, rfl, k1, k2, k3, k4, k5⟩))
        have e : kvF V ((fun j => if j = i then ((wr.heap.size, cap, V.kids) : Er) else f j) i) = .slice (some ⟨wr.heap.size, 0, none⟩) V.kids.length cap := by unfold kvF; rw [if_neg hk]; simp
        rw [e] at HS
        have HRUN := hid hrun
        have d3 : W'.cell? ⟨g, i * 4 + 3, none⟩ = some (.slice ka V.kids.length kc) := (hB.cell (p := ⟨g, i * 4 + 3, none⟩) (blk_lt hC)).trans c3
        have g3 : W'.frozen? ⟨g, i * 4 + 3, none⟩ = false := (hB.frozen (p := ⟨g, i * 4 + 3, none⟩) (blk_lt hC)).trans f3
        have HT2 : Hid (Touch g w0 W') := ⟨hB.os.trans HT.out.os, hB.tape.trans HT.out.tape, hB.output.trans HT.out.output, Nat.le_trans HT.out.size hB.size, fun k hk hkq => (hB.block k (Nat.lt_of_lt_of_le hk HT.out.size)).trans (HT.out.block k hk hkq)⟩
        clear e hV hr hd hC hk hlo hrun hB k1 k2 k3 k4 k5
        go_wp2_with (at_builtin; refine wpList_app_run rfl (.const (.slice none 0 0)) (.tmp 14) 22 rfl _ _ rfl rfl 22 rfl _ _ HRUN.out ?_)
        exact ⟨⟨i + 1, _, by omega, by go_num, HS, HT2.out.setCell rfl _⟩, by simp [intOf]; omega⟩
    · have he : i = l.length := by omega
      have HF : Hid (CqI w wr lo D P (g, c, l) f l.length) := by show CqI _ _ _ _ _ _ _ _; rw [← he]; exact HI.out
      clear he
      go_wp2_with fail
      exact bodyPost_end (v := .tuple #[]) (by simp [results, Tryd.results42]) rfl ⟨rfl, HT.out, f, HF.out⟩
end Go.Proofs.YtgiemijhndanjaaDoor
