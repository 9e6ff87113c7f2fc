/- Texts Re Rs Es Et Jn in one; no statement is proved in this text. -/
import Derived.Test.YtjppcfjjpkniaaaGreatDoorUJ
import Derived.Test.YtjppcfjjpkniaaaGreatDoorUH
import Derived.Test.YtjppcfjjpkniaaaGreatDoorUG
import Derived.Test.YtjppcfjjpkniaaaGreatDoorUA
namespace Go.Proofs.YtjppcfjjpkniaaaGreatDoor
open Go.ChangeShapes Go.WideShapes Go.ChangeAt Go.RowKit Go.Deep
attribute [local go_sem ↓] Go.wp_at_zero Go.wp_at_succ
set_option maxRecDepth 100000

/-- A row of statements that grows: own, and what hangs below it stands elsewhere. -/
structure StmE (V : World) (lo : Nat) (Av : Nat → Prop) (bv : Value) (Ks : List Kst) : Prop where
  own : V.ownsRow lo 66 10 bv Ks.length (kss Ks)
  sub : ∀ x ∈ Ks, Sd V (fun b => Av b ∧ some b ≠ bv.ownBlock) x.1 x.2
theorem StmE.nil (V : World) (lo : Nat) (Av : Nat → Prop) : StmE V lo Av nilS [] := ⟨⟨rfl, Or.inl ⟨rfl, rfl⟩⟩, fun x hx => by cases hx⟩
theorem StmE.move {V V' : World} {lo : Nat} {Av Av' : Nat → Prop} {bv : Value} {Ks : List Kst} (h : StmE V lo Av bv Ks) (hz : V.heap.size ≤ V'.heap.size) (ho : ∀ k, bv.ownBlock = some k → V'.heap[k]? = V.heap[k]?) (hk : ∀ b, Av b → b < V.heap.size → some b ≠ bv.ownBlock → Av' b ∧ V'.heap[b]? = V.heap[b]?) : StmE V' lo Av' bv Ks :=
  ⟨own_keep1 h.own ho, fun x hx => (h.sub x hx).move hz fun b hb hlt => ⟨⟨(hk b hb.1 hlt hb.2).1, hb.2⟩, (hk b hb.1 hlt hb.2).2⟩⟩
/-- The row as it is read. -/
theorem StmE.sds {V : World} {lo : Nat} {Av S : Nat → Prop} {bv : Value} {Ks : List Kst} (h : StmE V lo Av bv Ks) (hS : ∀ b, Av b → b < V.heap.size → S b) (ho : ∀ b, bv.ownBlock = some b → S b) : Sds V S (Ks.map (·.1)) bv := by
  have hl : (Ks.map (·.1)).length = Ks.length := by simp
  rcases h.own.2 with ⟨hv, h0⟩ | ⟨g, cap, cur, hv, hb, hg, hc1, hc2, _, _⟩
  · subst hv
    have : Ks = [] := List.eq_nil_of_length_eq_zero h0
    subst this
    exact Sds.nil _ _
  · subst hv
    refine ⟨_, cap, by rw [hl], by rw [hl]; omega, Or.inr ⟨g, 0, rfl, ho g rfl, blk_lt hg, fun i s hs => ?_⟩⟩
    rw [List.getElem?_map] at hs
    obtain ⟨x, h2, rfl⟩ := Option.map_eq_some_iff.1 hs
    have hi := (List.getElem?_eq_some_iff.1 h2).1
    refine ⟨x.2, fun j v hv => ?_, (h.sub x (List.mem_of_getElem? h2)).mono fun b hb hlt => hS b hb.1 hlt⟩
    have hj : j < 10 := by have := (List.getElem?_eq_some_iff.1 hv).1; simpa using this
    rw [Nat.zero_add, h.own.cellAt (i * 10 + j) (by omega), kss_get Ks i j x h2 hj]
    exact hv
theorem under66e : Tryz.prog.underlying 26 = some (.slice 66) := Tryz.underlying26
theorem info66e : (Tryz.prog.info? 66).map (fun i => (i.zero, i.size, i.bytes)) = some (some (.agg #[i64 0, str [], str [], nilS, i64 0, i64 0, nilS, nilS, i64 0, nilS]), 10, 160) := by kernel_rfl
/-- A statement more. -/
theorem push_ste {V : World} {lo : Nat} {Av : Nat → Prop} {bv : Value} {Ks : List Kst} (h : StmE V lo Av bv Ks) (s : Sm) (v : SV) (hR : Sd V (fun b => Av b ∧ some b ≠ bv.ownBlock) s v) (hl : Ks.length ≤ 3000000) (hlo : lo ≤ V.heap.size) :
    ∃ ao cap w', (Builtin.append_ #[26, 26] 26 #[bv, .slice (some ⟨V.heap.size, 0, none⟩) 1 1]).run Tryz.prog (V.alloc (.cells (sc s v).toArray 66)) = .ok (.slice ao (Ks.length + 1) cap) w' ∧ StmE w' lo Av (.slice ao (Ks.length + 1) cap) (Ks ++ [(s, v)]) ∧ Fr lo [66] V w' ∧ (∀ k, k < V.heap.size → some k ≠ bv.ownBlock → w'.heap[k]? = V.heap[k]?) ∧ ((Value.slice ao (Ks.length + 1) cap).ownBlock = bv.ownBlock ∨ (Value.slice ao (Ks.length + 1) cap).ownBlock = some (V.heap.size + 1)) := by
  obtain ⟨a1, c1, a2, n2, c2, a3, n3, c3, a4, c4, rfl⟩ := hR.form
  obtain ⟨ao, cap, w', h1, h2, h3, h4, h5⟩ := app_far (te := 66) under66e info66e rfl (by omega) (by omega) h.own (sc s ⟨.slice a1 s.names.length c1, .slice a2 n2 c2, .slice a3 n3 c3, .slice a4 s.body.length c4⟩) rfl (fun u hu => by
    simp only [List.mem_cons, List.not_mem_nil, or_false] at hu
    rcases hu with rfl | rfl | rfl | rfl | rfl | rfl | rfl | rfl | rfl | rfl <;> rfl) hl hlo
  have hmv : ∀ x : Kst, Sd V (fun b => Av b ∧ some b ≠ bv.ownBlock) x.1 x.2 → Sd w' (fun b => Av b ∧ some b ≠ (Value.slice ao (Ks.length + 1) cap).ownBlock) x.1 x.2 := fun x hx => hx.move h3.size fun b hb hlt => ⟨⟨hb.1, by
    rcases h5 with h5 | h5
    · rw [h5]; exact hb.2
    · rw [h5]; intro e; cases e; omega⟩, h4 b hlt hb.2⟩
  refine ⟨ao, cap, w', h1, ⟨?_, ?_⟩, h3, h4, h5⟩
  · rw [List.length_append, kss_app]
    exact h2
  · intro x hx
    rcases List.mem_append.1 hx with hx | hx
    · exact hmv x (h.sub x hx)
    · rw [List.mem_singleton.1 hx]; exact hmv (s, _) hR
mutual
def tyS : Sm → Prop
  | .mk _ _ _ _ _ t body => t.count ≤ 1000 ∧ tyL body
def tyL : List Sm → Prop
  | [] => True
  | s :: r => tyS s ∧ tyL r
end
theorem tyL_at : ∀ (l : List Sm) (i : Nat) (h : i < l.length), tyL l → tyS l[i]
  | _ :: _, 0, _, h => h.1
  | _ :: r, i + 1, h, hf => tyL_at r i (by simpa using h) hf.2
theorem tyL_app : ∀ a b : List Sm, tyL a → tyL b → tyL (a ++ b)
  | [], _, _, h => h
  | _ :: a, b, h1, h2 => ⟨h1.1, tyL_app a b h1.2 h2⟩
structure RfS (w wr : World) (lo : Nat) (bv : Value) (Ks : List Kst) : Prop where
  st : StmE wr w.heap.size (fun b => b < lo ∨ w.heap.size ≤ b) bv Ks
  bel : Below w.heap.size w wr
theorem RfS.below {w wr wr' : World} {lo : Nat} {bv : Value} {Ks : List Kst} (h : RfS w wr lo bv Ks) (hb : Below wr.heap.size wr wr') : RfS w wr' lo bv Ks :=
  ⟨h.st.move hb.size (fun k hk => hb.block k (h.st.own.lt k hk).2) fun b h1 h2 _ => ⟨h1, hb.block b h2⟩, h.bel.trans (hb.mono h.bel.size)⟩
theorem RfS.push {w wr : World} {lo : Nat} {bv : Value} {Ks : List Kst} (h : RfS w wr lo bv Ks) (s : Sm) (v : SV) (hR : Sd wr (fun b => (b < lo ∨ w.heap.size ≤ b) ∧ some b ≠ bv.ownBlock) s v) (hl : Ks.length ≤ 3000000) :
    ∃ ao cap w', (Builtin.append_ #[26, 26] 26 #[bv, .slice (some ⟨wr.heap.size, 0, none⟩) 1 1]).run Tryz.prog (wr.alloc (.cells (sc s v).toArray 66)) = .ok (.slice ao (Ks.length + 1) cap) w' ∧ RfS w w' lo (.slice ao (Ks.length + 1) cap) (Ks ++ [(s, v)]) ∧ (∀ (k : Nat) (o : Obj), wr.heap[k]? = some o → keeps [66] o = true → w'.heap[k]? = some o) := by
  obtain ⟨ao, cap, w', h1, h2, h3, _, _⟩ := push_ste h.st s v hR hl h.bel.size
  exact ⟨ao, cap, w', h1, ⟨h2, h.bel.trans h3.below⟩, h3.kept⟩
set_option maxHeartbeats 25600000 in
theorem lref_in (M : Nat) (ih : ∀ (l : List Sm), cntL l < M → ∀ (lo : Nat) (w : World) (bv : Value), lo ≤ w.heap.size → Sds w (fun b => b < lo) l bv → tyL l → Calls Tryz.prog 12 #[bv] w fun e w' => ∃ a c, e = .returned (.slice a l.length c) ∧ Below w.heap.size w w' ∧ Sds w' (fun b => b < lo ∨ w.heap.size ≤ b) l (.slice a l.length c))
    (l : List Sm) (hM : cntL l ≤ M) (hM5 : cntL l ≤ 10000) (lo : Nat) (w : World) (bv : Value) (hlo : lo ≤ w.heap.size) (hs : Sds w (fun b => b < lo) l bv) (hty : tyL l) :
    Calls Tryz.prog 12 #[bv] w fun e w' => ∃ a c, e = .returned (.slice a l.length c) ∧ Below w.heap.size w w' ∧ Sds w' (fun b => b < lo ∨ w.heap.size ≤ b) l (.slice a l.length c) := by
  obtain ⟨ab, cb, rfl, hlm, hat⟩ := hs.at
  have HAT := hid hat
  have HIH := hid ih
  have HTYL := hid hty
  have HWL := hid hlo
  have hl5 : l.length ≤ 10000 := by have := len_le_cnt l; omega
  have HI0 : Hid (RfS w w lo (.slice none 0 0) []) := ⟨StmE.nil _ _ _, Below.refl _ _⟩
  have HM0 : Hid (([] : List Kst).map (·.1) = l.take 0) := by show _ = _; rw [List.take_zero]; rfl
  clear hat ih hlo hs hty hlm
  go_enter Tryz.func12, Tryz.ntmps12
  go_upto_region 3 with fail
  go_loopw [3, 8] (fun v u wr => ∃ (i : Nat) (Ks : List Kst), i ≤ l.length ∧ u = i64 i ∧ Hid (Ks.length = i) ∧ Hid (RfS w wr lo v Ks) ∧ Hid (Ks.map (·.1) = l.take i)) (fun _ u _ => l.length - (intOf u).toNat)
  case atStart => exact ⟨0, [], Nat.zero_le _, rfl, by show _ = _; rfl, HI0, HM0⟩
  case round =>
    obtain ⟨i, Ks, hi, rfl, HKl, HI, HM⟩ := hrel
    obtain ⟨va, vc, rfl, _⟩ := own_slice HI.out.st.own
    rw [HKl.out] at HI ⊢
    have hiI : (0 : Int) ≤ (i : Int) := by omega
    by_cases hlt : i < l.length
    · obtain ⟨rb, off, v, rfl, hrb, hrlt, hrng, hsd⟩ := HAT.out i hlt
      have hty := tyL_at l i hlt HTYL.out
      have hci := cntL_at l i hlt
      have HTT : Hid (l.take (i + 1) = l.take i ++ [l[i]]) := take_snoc1 l i hlt
      generalize l[i] = sm at *
      obtain ⟨op, num, nm, ds, names, t, body⟩ := sm
      obtain ⟨a1, c1, a2, n2, c2, a3, n3, c3, a4, c4, rfl⟩ := hsd.form
      have hp := hsd.parts
      have hr := range_keep hrng (HI.out.bel.block rb hrlt)
      have x0 : wr.cell? ⟨rb, off + i * 10, none⟩ = some (i64 op) := hr 0 _ rfl
      have x1 : wr.cell? ⟨rb, off + i * 10 + 1, none⟩ = some (str nm) := hr 1 _ rfl
      have x2 : wr.cell? ⟨rb, off + i * 10 + 2, none⟩ = some (str ds) := hr 2 _ rfl
      have x3 : wr.cell? ⟨rb, off + i * 10 + 3, none⟩ = some (.slice a1 names.length c1) := hr 3 _ rfl
      have x4 : wr.cell? ⟨rb, off + i * 10 + 4, none⟩ = some (i64 t.kind) := hr 4 _ rfl
      have x5 : wr.cell? ⟨rb, off + i * 10 + 5, none⟩ = some (i64 t.num) := hr 5 _ rfl
      have x6 : wr.cell? ⟨rb, off + i * 10 + 6, none⟩ = some (.slice a2 n2 c2) := hr 6 _ rfl
      have x7 : wr.cell? ⟨rb, off + i * 10 + 7, none⟩ = some (.slice a3 n3 c3) := hr 7 _ rfl
      have x8 : wr.cell? ⟨rb, off + i * 10 + 8, none⟩ = some (i64 num) := hr 8 _ rfl
      have x9 : wr.cell? ⟨rb, off + i * 10 + 9, none⟩ = some (.slice a4 body.length c4) := hr 9 _ rfl
      have hbX := below_one wr (sbO (i64 op) (str nm) (str ds) (.slice a1 names.length c1) (i64 t.kind) (i64 t.num) (.slice a2 n2 c2) (.slice a3 n3 c3) (i64 num) (.slice a4 body.length c4))
      have HIX := hid (HI.out.below hbX)
      have HX2 : Hid ((wr.alloc (sbO (i64 op) (str nm) (str ds) (.slice a1 names.length c1) (i64 t.kind) (i64 t.num) (.slice a2 n2 c2) (.slice a3 n3 c3) (i64 num) (.slice a4 body.length c4))).heap[wr.heap.size]? = some (sbO (i64 op) (str nm) (str ds) (.slice a1 names.length c1) (i64 t.kind) (i64 t.num) (.slice a2 n2 c2) (.slice a3 n3 c3) (i64 num) (.slice a4 body.length c4))) := heap_last wr _
      have hbw : Below w.heap.size w (wr.alloc (sbO (i64 op) (str nm) (str ds) (.slice a1 names.length c1) (i64 t.kind) (i64 t.num) (.slice a2 n2 c2) (.slice a3 n3 c3) (i64 num) (.slice a4 body.length c4))) := HIX.out.bel
      have hmv : ∀ b, b < lo → b < w.heap.size → b < lo ∧ (wr.alloc (sbO (i64 op) (str nm) (str ds) (.slice a1 names.length c1) (i64 t.kind) (i64 t.num) (.slice a2 n2 c2) (.slice a3 n3 c3) (i64 num) (.slice a4 body.length c4))).heap[b]? = w.heap[b]? := fun b h1 h2 => ⟨h1, hbw.block b h2⟩
      have HNS0 : Hid (Strs (wr.alloc (sbO (i64 op) (str nm) (str ds) (.slice a1 names.length c1) (i64 t.kind) (i64 t.num) (.slice a2 n2 c2) (.slice a3 n3 c3) (i64 num) (.slice a4 body.length c4))) (fun b => b < lo) (.slice a1 names.length c1) names) := hp.1.move hbw.size hmv
      have HTY0 : Hid (Rd (wr.alloc (sbO (i64 op) (str nm) (str ds) (.slice a1 names.length c1) (i64 t.kind) (i64 t.num) (.slice a2 n2 c2) (.slice a3 n3 c3) (i64 num) (.slice a4 body.length c4))) (fun b => b < lo) t (.slice a2 n2 c2) (.slice a3 n3 c3)) := hp.2.1.move hbw.size hmv
      have HSB0 : Hid (Sds (wr.alloc (sbO (i64 op) (str nm) (str ds) (.slice a1 names.length c1) (i64 t.kind) (i64 t.num) (.slice a2 n2 c2) (.slice a3 n3 c3) (i64 num) (.slice a4 body.length c4))) (fun b => b < lo) body (.slice a4 body.length c4)) := hp.2.2.move hbw.size hmv
      have HCI : Hid (cntL body < M) := by show _ < _; simp only [Sm.count] at hci; omega
      have HTB := hid hty.2
      have HTC := hid hty.1
      clear hrng hsd hp hr hbX hbw hmv hrlt hrb hci hty
      go_upto_region 5 with fail
      clear x0 x1 x2 x3 x4 x5 x6 x7 x8 x9
      obtain ⟨Z, hZ⟩ : ∃ Z, Z = wr.heap.size := ⟨_, rfl⟩
      rw [← hZ] at HX2 ⊢
      clear hZ
      generalize wr.alloc (sbO (i64 op) (str nm) (str ds) (.slice a1 names.length c1) (i64 t.kind) (i64 t.num) (.slice a2 n2 c2) (.slice a3 n3 c3) (i64 num) (.slice a4 body.length c4)) = X at *
      have HID := hid (HIX.out.below (wr' := X.drew) ⟨rfl, rfl, rfl, Nat.le_refl _, fun _ _ => rfl⟩)
      have HSX : Hid ((fun W => W.heap[Z]? = some (sbO (i64 op) (str nm) (str ds) (.slice a1 names.length c1) (i64 t.kind) (i64 t.num) (.slice a2 n2 c2) (.slice a3 n3 c3) (i64 num) (.slice a4 body.length c4))) X.drew) := HX2.out
      have HNS : Hid (Strs X.drew (fun b => b < lo) (.slice a1 names.length c1) names) := HNS0.out.below ⟨rfl, rfl, rfl, Nat.le_refl _, fun _ _ => rfl⟩
      have HSB : Hid (Sds X.drew (fun b => b < lo) body (.slice a4 body.length c4)) := HSB0.out.under ⟨rfl, rfl, rfl, Nat.le_refl _, fun _ _ => rfl⟩
      have HLX : Hid (lo ≤ X.heap.size) := by show _ ≤ _; have := HIX.out.bel.size; have := HWL.out; omega
      have HTY := hid (ref_ok t.count t (Nat.le_refl _) HTC.out lo X.drew _ _ HLX.out (HTY0.out.under ⟨rfl, rfl, rfl, Nat.le_refl _, fun _ _ => rfl⟩))
      clear HNS0 HTY0 HSB0 HIX HI HX2
      refine wp_region_noPanic ?_
      refine wp_region_last (fun W => W.heap[Z]? = some (sbO (i64 op) (str nm) (str ds) (.slice a1 names.length c1) (i64 t.kind) (i64 t.num) (.slice a2 n2 c2) (.slice a3 n3 c3) (i64 num) (.slice a4 body.length c4))) 20 (by kernel_rfl) ?_
      refine wpL_take 0 12 (.slice va i vc) [] rfl rfl (by kernel_rfl) (by decide) (by kernel_rfl) (by kernel_rfl) (by kernel_rfl) (fun _ _ _ h => h) HSX.out (by rfl) (fun W hW => by go_simp) ?_
      simp only [Act.put, List.setIfInBounds_toArray, List.set_cons_zero, List.set_cons_succ]
      refine wpL_take 1 13 (ptS Z 0) [] rfl rfl (by kernel_rfl) (by decide) (by kernel_rfl) (by kernel_rfl) (by kernel_rfl) (fun _ _ _ h => h) HSX.out (by rfl) (fun W hW => by go_simp) ?_
      simp only [Act.put, List.setIfInBounds_toArray, List.set_cons_zero, List.set_cons_succ]
      refine wpL_take 2 14 (i64 op) [] rfl rfl (by kernel_rfl) (by decide) (by kernel_rfl) (by kernel_rfl) (by kernel_rfl) (fun _ _ _ h => h) HSX.out (by rfl) (fun W hW => by have d0 := blk_cell hW 0; go_simp) ?_
      simp only [Act.put, List.setIfInBounds_toArray, List.set_cons_zero, List.set_cons_succ]
      refine wpL_take 3 15 (ptS Z 1) [] rfl rfl (by kernel_rfl) (by decide) (by kernel_rfl) (by kernel_rfl) (by kernel_rfl) (fun _ _ _ h => h) HSX.out (by rfl) (fun W hW => by go_simp) ?_
      simp only [Act.put, List.setIfInBounds_toArray, List.set_cons_zero, List.set_cons_succ]
      refine wpL_take 4 16 (str nm) [] rfl rfl (by kernel_rfl) (by decide) (by kernel_rfl) (by kernel_rfl) (by kernel_rfl) (fun _ _ _ h => h) HSX.out (by rfl) (fun W hW => by have d1 := blk_cell hW 1; go_simp) ?_
      simp only [Act.put, List.setIfInBounds_toArray, List.set_cons_zero, List.set_cons_succ]
      refine wpL_take 5 17 (ptS Z 2) [] rfl rfl (by kernel_rfl) (by decide) (by kernel_rfl) (by kernel_rfl) (by kernel_rfl) (fun _ _ _ h => h) HSX.out (by rfl) (fun W hW => by go_simp) ?_
      simp only [Act.put, List.setIfInBounds_toArray, List.set_cons_zero, List.set_cons_succ]
      refine wpL_take 6 18 (str ds) [] rfl rfl (by kernel_rfl) (by decide) (by kernel_rfl) (by kernel_rfl) (by kernel_rfl) (fun _ _ _ h => h) HSX.out (by rfl) (fun W hW => by have d2 := blk_cell hW 2; go_simp) ?_
      simp only [Act.put, List.setIfInBounds_toArray, List.set_cons_zero, List.set_cons_succ]
      refine wpL_take 7 19 (ptS Z 3) [] rfl rfl (by kernel_rfl) (by decide) (by kernel_rfl) (by kernel_rfl) (by kernel_rfl) (fun _ _ _ h => h) HSX.out (by rfl) (fun W hW => by go_simp) ?_
      simp only [Act.put, List.setIfInBounds_toArray, List.set_cons_zero, List.set_cons_succ]
      refine wpL_take 8 20 (.slice a1 names.length c1) [] rfl rfl (by kernel_rfl) (by decide) (by kernel_rfl) (by kernel_rfl) (by kernel_rfl) (fun _ _ _ h => h) HSX.out (by rfl) (fun W hW => by have d3 := blk_cell hW 3; go_simp) ?_
      simp only [Act.put, List.setIfInBounds_toArray, List.set_cons_zero, List.set_cons_succ]
      refine wpL_take 9 21 (ptS Z 4) [] rfl rfl (by kernel_rfl) (by decide) (by kernel_rfl) (by kernel_rfl) (by kernel_rfl) (fun _ _ _ h => h) HSX.out (by rfl) (fun W hW => by go_simp) ?_
      simp only [Act.put, List.setIfInBounds_toArray, List.set_cons_zero, List.set_cons_succ]
      refine wpL_take 10 22 (tyV t.kind t.num (.slice a2 n2 c2) (.slice a3 n3 c3)) [] rfl rfl (by kernel_rfl) (by decide) (by kernel_rfl) (by kernel_rfl) (by kernel_rfl) (fun _ _ _ h => h) HSX.out (by rfl) (fun W hW => by have d4 := blk_cell hW 4; have d5 := blk_cell hW 5; have d6 := blk_cell hW 6; have d7 := blk_cell hW 7; go_simp) ?_
      simp only [Act.put, List.setIfInBounds_toArray, List.set_cons_zero, List.set_cons_succ]
      refine wpL_take 12 24 (ptS Z 8) [] rfl rfl (by kernel_rfl) (by decide) (by kernel_rfl) (by kernel_rfl) (by kernel_rfl) (fun _ _ _ h => h) HSX.out (by rfl) (fun W hW => by go_simp) ?_
      simp only [Act.put, List.setIfInBounds_toArray, List.set_cons_zero, List.set_cons_succ]
      refine wpL_take 13 25 (i64 num) [] rfl rfl (by kernel_rfl) (by decide) (by kernel_rfl) (by kernel_rfl) (by kernel_rfl) (fun _ _ _ h => h) HSX.out (by rfl) (fun W hW => by have d8 := blk_cell hW 8; go_simp) ?_
      simp only [Act.put, List.setIfInBounds_toArray, List.set_cons_zero, List.set_cons_succ]
      refine wpL_take 14 26 (ptS Z 9) [] rfl rfl (by kernel_rfl) (by decide) (by kernel_rfl) (by kernel_rfl) (by kernel_rfl) (fun _ _ _ h => h) HSX.out (by rfl) (fun W hW => by go_simp) ?_
      simp only [Act.put, List.setIfInBounds_toArray, List.set_cons_zero, List.set_cons_succ]
      refine wpL_take 15 27 (.slice a4 body.length c4) [] rfl rfl (by kernel_rfl) (by decide) (by kernel_rfl) (by kernel_rfl) (by kernel_rfl) (fun _ _ _ h => h) HSX.out (by rfl) (fun W hW => by have d9 := blk_cell hW 9; go_simp) ?_
      simp only [Act.put, List.setIfInBounds_toArray, List.set_cons_zero, List.set_cons_succ]
      refine wpL_one 11 rfl (by kernel_rfl) (by rfl) (fun K hK => ?_)
      go_simp
      refine HTY.out.mono ?_
      rintro e w4 ⟨b3, m3, e3, rfl, hb4, hr4⟩
      have HI4 := hid (HID.out.below hb4)
      have HS4 : Hid ((fun W => W.heap[Z]? = some (sbO (i64 op) (str nm) (str ds) (.slice a1 names.length c1) (i64 t.kind) (i64 t.num) (.slice a2 n2 c2) (.slice a3 n3 c3) (i64 num) (.slice a4 body.length c4))) w4) := blk_below HSX.out hb4
      have HR4 : Hid (Rd w4 (fun b => b < lo ∨ X.heap.size ≤ b) t (.slice a2 n2 c2) (.slice b3 m3 e3)) := hr4
      have HSB4 : Hid (Sds w4 (fun b => b < lo) body (.slice a4 body.length c4)) := HSB.out.under hb4
      have HN4 : Hid (Strs w4 (fun b => b < lo) (.slice a1 names.length c1) names) := HNS.out.below hb4
      have HZ4 : Hid (X.heap.size ≤ w4.heap.size) := hb4.size
      clear hb4 hr4
      go_simp
      refine hK.out _ _ (fun _ => HS4.out) ?_
      clear hK K
      try simp only [Act.put, List.setIfInBounds_toArray, List.set_cons_zero, List.set_cons_succ]
      have HCA := hid (HIH.out body HCI.out lo w4 _ (by have := HZ4.out; have := HLX.out; omega) HSB4.out HTB.out)
      refine wpL_one 16 rfl (by kernel_rfl) (by rfl) (fun K hK => ?_)
      go_simp
      refine HCA.out.mono ?_
      rintro e w5 ⟨b4, e4, rfl, hb5, hs5⟩
      have HI5 := hid (HI4.out.below hb5)
      have HS5 : Hid ((fun W => W.heap[Z]? = some (sbO (i64 op) (str nm) (str ds) (.slice a1 names.length c1) (i64 t.kind) (i64 t.num) (.slice a2 n2 c2) (.slice a3 n3 c3) (i64 num) (.slice a4 body.length c4))) w5) := blk_below HS4.out hb5
      have hav : ∀ b, (b < lo ∨ X.heap.size ≤ b) → ((b < lo ∨ w.heap.size ≤ b) ∧ some b ≠ (Value.slice va i vc).ownBlock) := fun b hb => by
        have t5 := HID.out.bel.size
        have t6 := HWL.out
        have t7 : ∀ k, (Value.slice va i vc).ownBlock = some k → w.heap.size ≤ k ∧ k < X.heap.size := fun k hk => HID.out.st.own.lt k hk
        rcases hb with hb | hb
        · exact ⟨Or.inl hb, fun e => by have := (t7 b e.symm).1; omega⟩
        · exact ⟨Or.inr (by have e1 : X.drew.heap.size = X.heap.size := rfl; omega), fun e => by have := (t7 b e.symm).2; omega⟩
      have HSD : Hid (Sd w5 (fun b => (b < lo ∨ w.heap.size ≤ b) ∧ some b ≠ (Value.slice va i vc).ownBlock) (.mk op num nm ds names t body) ⟨.slice a1 names.length c1, .slice a2 n2 c2, .slice b3 m3 e3, .slice b4 body.length e4⟩) :=
        Sd.of ((HN4.out.below hb5).mono fun b hb _ => hav b (Or.inl hb)) ((HR4.out.under hb5).mono fun b hb _ => hav b hb) (hs5.mono fun b hb _ => hav b (by rcases hb with hb | hb; exact Or.inl hb; exact Or.inr (by have := HZ4.out; omega)))
      clear hb5 hs5 hav HCA
      go_simp
      refine hK.out _ _ (fun _ => HS5.out) ?_
      clear hK K
      try simp only [Act.put, List.setIfInBounds_toArray, List.set_cons_zero, List.set_cons_succ]
      refine wpL_take 17 29 (stV (i64 op) (str nm) (str ds) (.slice a1 names.length c1) (i64 t.kind) (i64 t.num) (.slice a2 n2 c2) (.slice b3 m3 e3) (i64 num) (.slice b4 body.length e4)) [] rfl rfl (by kernel_rfl) (by decide) (by kernel_rfl) (by kernel_rfl) (by kernel_rfl) (fun _ _ _ h => h) HS5.out (by rfl) (fun W hW => by go_simp) ?_
      simp only [Act.put, List.setIfInBounds_toArray, List.set_cons_zero, List.set_cons_succ]
      obtain ⟨ao9, cap9, W9, hrun, hI9⟩ := HI5.out.push _ _ HSD.out (by rw [HKl.out]; omega)
      rw [HKl.out] at hrun hI9
      have HRUN : Hid ((Builtin.append_ #[26, 26] 26 #[.slice va i vc, .slice (some ⟨w5.heap.size, 0, none⟩) 1 1]).run Tryz.prog (w5.alloc (.cells #[i64 op, str nm, str ds, .slice a1 names.length c1, i64 t.kind, i64 t.num, .slice a2 n2 c2, .slice b3 m3 e3, i64 num, .slice b4 body.length e4] 66)) = .ok (.slice ao9 (i + 1) cap9) W9) := hrun
      have HI9 := hid hI9
      have HSA : Hid ((fun W => W.heap[Z]? = some (sbO (i64 op) (str nm) (str ds) (.slice a1 names.length c1) (i64 t.kind) (i64 t.num) (.slice a2 n2 c2) (.slice a3 n3 c3) (i64 num) (.slice a4 body.length c4))) (w5.alloc (.cells #[i64 op, str nm, str ds, .slice a1 names.length c1, i64 t.kind, i64 t.num, .slice a2 n2 c2, .slice b3 m3 e3, i64 num, .slice b4 body.length e4] 66))) := blk_alloc HS5.out _
      have HS9 : Hid ((fun W => W.heap[Z]? = some (sbO (i64 op) (str nm) (str ds) (.slice a1 names.length c1) (i64 t.kind) (i64 t.num) (.slice a2 n2 c2) (.slice a3 n3 c3) (i64 num) (.slice a4 body.length c4))) W9) := HI9.out.2 Z (sbO (i64 op) (str nm) (str ds) (.slice a1 names.length c1) (i64 t.kind) (i64 t.num) (.slice a2 n2 c2) (.slice a3 n3 c3) (i64 num) (.slice a4 body.length c4)) HS5.out (by rfl)
      clear hrun hI9
      refine wpL_one 18 rfl (by kernel_rfl) (by rfl) (fun K hK => ?_)
      go_simp
      refine hK.out _ _ (fun _ => HSA.out) ?_
      clear hK K
      refine wpL_one 19 rfl (by kernel_rfl) (by rfl) (fun K hK => ?_)
      refine wp_app_run (.tmp 12) (.tmp 30) 26 rfl _ _ (by rfl) (by rfl) _ rfl _ _ HRUN.out ?_
      refine hK.out _ _ (fun _ => HS9.out) ?_
      clear hK K
      try simp only [Act.put, List.setIfInBounds_toArray]
      refine wpL_one 20 rfl (by kernel_rfl) (by rfl) (fun K hK => ?_)
      go_simp
      refine hK.out _ _ (fun h => absurd rfl h) ?_
      clear hK K
      refine wpL_done (by kernel_rfl) ?_
      refine NoPanic.normal ?_
      have HM2 : Hid ((Ks ++ [(((.mk op num nm ds names t body), ⟨.slice a1 names.length c1, .slice a2 n2 c2, .slice b3 m3 e3, .slice b4 body.length e4⟩) : Kst)]).map (·.1) = l.take (i + 1)) := by show _ = _; rw [List.map_append, HM.out, HTT.out]; rfl
      have HK2 : Hid ((Ks ++ [(((.mk op num nm ds names t body), ⟨.slice a1 names.length c1, .slice a2 n2 c2, .slice b3 m3 e3, .slice b4 body.length e4⟩) : Kst)]).length = i + 1) := by show _ = _; rw [List.length_append, HKl.out]; rfl
      go_wp2_with fail
      exact ⟨⟨i + 1, _, by omega, by go_num, HK2, HI9.out.1, HM2⟩, by simp [intOf]; omega⟩
    · have he : i = l.length := by omega
      have HF : Hid (Sds wr (fun b => b < lo ∨ w.heap.size ≤ b) l (.slice va l.length vc)) := by
        have h1 := HI.out.st.sds (S := fun b => b < lo ∨ w.heap.size ≤ b) (fun b h _ => h) (fun b hb => Or.inr (HI.out.st.own.lt b hb).1)
        rw [HM.out, he, List.take_length] at h1
        exact h1
      have HBw := hid HI.out.bel
      subst he
      clear HI
      go_wp2_with fail
      go_ret
      exact ⟨va, vc, rfl, HBw.out, HF.out⟩
end Go.Proofs.YtjppcfjjpkniaaaGreatDoor
namespace Go.Proofs.YtjppcfjjpkniaaaGreatDoor
open Go.ChangeShapes Go.WideShapes Go.ChangeAt Go.RowKit Go.Deep
attribute [local go_sem ↓] Go.wp_at_zero Go.wp_at_succ

structure S4 (Z Y b1 o1 b2 o2 : Nat) (oZ oY : Obj) (l1 l2 : List Value) (W : World) : Prop where
  z : W.heap[Z]? = some oZ
  y : W.heap[Y]? = some oY
  r1 : W.rangeAt b1 o1 l1
  r2 : W.rangeAt b2 o2 l2
  l1 : b1 < W.heap.size
  l2 : b2 < W.heap.size
theorem S4.below {Z Y b1 o1 b2 o2 : Nat} {oZ oY : Obj} {l1 l2 : List Value} {W W' : World} (h : S4 Z Y b1 o1 b2 o2 oZ oY l1 l2 W) (hb : Below W.heap.size W W') : S4 Z Y b1 o1 b2 o2 oZ oY l1 l2 W' :=
  ⟨blk_below h.z hb, blk_below h.y hb, range_keep h.r1 (hb.block b1 h.l1), range_keep h.r2 (hb.block b2 h.l2), Nat.lt_of_lt_of_le h.l1 hb.size, Nat.lt_of_lt_of_le h.l2 hb.size⟩
theorem eq_of_get {l1 l2 : List Bs} (hl : l1.length = l2.length) (h : ∀ m (h1 : m < l1.length) (h2 : m < l2.length), l1[m] = l2[m]) : l1 = l2 := List.ext_getElem hl h
theorem sameL_take : ∀ (la lb : List Ty) (i : Nat) (h1 : i < la.length) (h2 : i < lb.length), sameL (la.take (i + 1)) (lb.take (i + 1)) = (sameL (la.take i) (lb.take i) && sameB la[i] lb[i])
  | _ :: _, _ :: _, 0, _, _ => by simp [sameL]
  | a :: r, b :: s, i + 1, h1, h2 => by
    have := sameL_take r s i (by simpa using h1) (by simpa using h2)
    simp only [List.take_succ_cons, sameL, List.getElem_cons_succ, this, Bool.and_assoc]
theorem sameL_no : ∀ (la lb : List Ty) (i : Nat) (h1 : i < la.length) (h2 : i < lb.length), sameB la[i] lb[i] = false → sameL la lb = false
  | a :: r, b :: s, 0, _, _, h => by have h' : sameB a b = false := h; simp [sameL, h']
  | a :: r, b :: s, i + 1, h1, h2, h => by simp [sameL, sameL_no r s i (by simpa using h1) (by simpa using h2) h]
set_option maxRecDepth 100000 in
set_option maxHeartbeats 12800000 in
theorem rsame_in (k n : Int) (names : List Bs) (kids : List Ty) (k2 n2 : Int) (names2 : List Bs) (kids2 : List Ty) (w : World) (S : Nat → Prop) (nv kv mv lv : Value) (hR : Rd w S (.mk k n names kids) nv kv) (hQ : Rd w S (.mk k2 n2 names2 kids2) mv lv)
    (hih : ∀ x ∈ kids, ∀ (y : Ty) (w : World) (nv kv mv lv : Value), Rd w S x nv kv → Rd w S y mv lv → Calls Tryz.prog 36 #[tyV x.kind x.num nv kv, tyV y.kind y.num mv lv] w fun e w' => e = .returned (.bool (sameB x y)) ∧ Below w.heap.size w w') :
    Calls Tryz.prog 36 #[tyV k n nv kv, tyV k2 n2 mv lv] w fun e w' => e = .returned (.bool (sameB (.mk k n names kids) (.mk k2 n2 names2 kids2))) ∧ Below w.heap.size w w' := by
  obtain ⟨Rr, hRe⟩ : ∃ Rr, Rr = sameB (.mk k n names kids) (.mk k2 n2 names2 kids2) := ⟨_, rfl⟩
  have HRe : Hid (Rr = (decide (k = k2) && decide (n = n2) && decide (names = names2) && decide (kids.length = kids2.length) && sameL kids kids2)) := by show _ = _; rw [hRe, sameB]
  rw [← hRe]
  clear hRe
  have HIH := hid hih
  have HRd := hid hR
  have HQd := hid hQ
  obtain ⟨⟨an, cn, rfl, hnl, hz1, hz2⟩, hkl, ak, ck, rfl, hz3⟩ := hR.kid
  clear hz1 hz2 hz3
  obtain ⟨⟨am, cm, rfl, hml, hz1, hz2⟩, hll, al, cl, rfl, hz3⟩ := hQ.kid
  clear hz1 hz2 hz3
  unfold maxLen at hnl hkl hml hll
  have HX : Hid (((w.alloc (.cells #[i64 k, i64 n, .slice an names.length cn, .slice ak kids.length ck] 64)).alloc (.cells #[i64 k2, i64 n2, .slice am names2.length cm, .slice al kids2.length cl] 64)).heap[w.heap.size]? = some (.cells #[i64 k, i64 n, .slice an names.length cn, .slice ak kids.length ck] 64)) := blk_alloc (heap_last w _) _
  have HY : Hid (((w.alloc (.cells #[i64 k, i64 n, .slice an names.length cn, .slice ak kids.length ck] 64)).alloc (.cells #[i64 k2, i64 n2, .slice am names2.length cm, .slice al kids2.length cl] 64)).heap[w.heap.size + 1]? = some (.cells #[i64 k2, i64 n2, .slice am names2.length cm, .slice al kids2.length cl] 64)) := heap_at3 _ _ _ (by simp)
  have HBV : Hid (Below w.heap.size w ((w.alloc (.cells #[i64 k, i64 n, .slice an names.length cn, .slice ak kids.length ck] 64)).alloc (.cells #[i64 k2, i64 n2, .slice am names2.length cm, .slice al kids2.length cl] 64))) := (below_one w _).trans ((below_one _ _).mono (by simp))
  clear hR hQ hih
  go_enter Tryz.func36, Tryz.ntmps36
  go_upto_region 1 with fail
  generalize (w.alloc (.cells #[i64 k, i64 n, .slice an names.length cn, .slice ak kids.length ck] 64)).alloc (.cells #[i64 k2, i64 n2, .slice am names2.length cm, .slice al kids2.length cl] 64) = V at *
  obtain ⟨Z, hZ⟩ : ∃ Z, Z = w.heap.size := ⟨_, rfl⟩
  obtain ⟨Y, hY⟩ : ∃ Y, Y = w.heap.size + 1 := ⟨_, rfl⟩
  rw [← hZ] at HX
  rw [← hY] at HY
  rw [← hY, ← hZ]
  clear hZ hY
  have zc0 : V.cell? ⟨Z, 0, none⟩ = some (i64 k) := blk_cell HX.out 0
  have zc1 : V.cell? ⟨Z, 1, none⟩ = some (i64 n) := blk_cell HX.out 1
  have zc2 : V.cell? ⟨Z, 2, none⟩ = some (.slice an names.length cn) := blk_cell HX.out 2
  have zc3 : V.cell? ⟨Z, 3, none⟩ = some (.slice ak kids.length ck) := blk_cell HX.out 3
  have yc0 : V.cell? ⟨Y, 0, none⟩ = some (i64 k2) := blk_cell HY.out 0
  have yc1 : V.cell? ⟨Y, 1, none⟩ = some (i64 n2) := blk_cell HY.out 1
  have yc2 : V.cell? ⟨Y, 2, none⟩ = some (.slice am names2.length cm) := blk_cell HY.out 2
  have yc3 : V.cell? ⟨Y, 3, none⟩ = some (.slice al kids2.length cl) := blk_cell HY.out 3
  by_cases hk : k = k2
  · by_cases hn : n = n2
    · by_cases hl : names.length = names2.length
      · by_cases hm : kids.length = kids2.length
        · have HR2 : Hid (Rr = (decide (names = names2) && sameL kids kids2)) := by show _ = _; rw [HRe.out, decide_eq_true hk, decide_eq_true hn, decide_eq_true hm]; simp
          have e1 : (k != k2) = false := by simpa using hk
          have e2 : (n != n2) = false := by simpa using hn
          have e3 : ((names.length : Int) != names2.length) = false := by simp [hl]
          have e4 : ((kids.length : Int) != kids2.length) = false := by simp [hm]
          have e3' : (names.length != names2.length) = false := by simp [hl]
          have e4' : (kids.length != kids2.length) = false := by simp [hm]
          have HK := hid hk
          have HNn := hid hn
          have HL := hid hl
          have HMm := hid hm
          clear hk hn hl hm HRe
          go_wp2_with fail
          go_loopw [40] (fun u wr => ∃ (i : Nat), i ≤ names.length ∧ u = i64 i ∧ Hid (∀ m (h1 : m < i) (h2 : m < names.length) (h3 : m < names2.length), names[m] = names2[m]) ∧ Hid (wr.heap[Z]? = some (.cells #[i64 k, i64 n, .slice an names.length cn, .slice ak kids.length ck] 64)) ∧ Hid (wr.heap[Y]? = some (.cells #[i64 k2, i64 n2, .slice am names2.length cm, .slice al kids2.length cl] 64)) ∧ Hid (Below w.heap.size w wr)) (fun u _ => names.length - (intOf u).toNat)
          case atStart => exact ⟨0, by omega, rfl, by intro m h1; omega, HX, HY, HBV⟩
          case round =>
            obtain ⟨i, hi, rfl, HNs, HXr, HYr, HB⟩ := hrel
            clear zc0 zc1 zc2 zc3 yc0 yc1 yc2 yc3
            by_cases hlt : i < names.length
            · have hlt2 : i < names2.length := by have := HL.out; omega
              obtain ⟨ao1, cp1, he1, hat1⟩ := (HRd.out.under HB.out).kid.1.at
              cases he1
              obtain ⟨b1, o1, rfl, hb1, cA⟩ := hat1 i hlt
              obtain ⟨ao2, cp2, he2, hat2⟩ := (HQd.out.under HB.out).kid.1.at
              cases he2
              obtain ⟨b2, o2, rfl, hb2, cB⟩ := hat2 i hlt2
              obtain ⟨x, hx⟩ : ∃ x, x = names[i] := ⟨_, rfl⟩
              obtain ⟨y, hy⟩ : ∃ y, y = names2[i] := ⟨_, rfl⟩
              rw [← hx] at cA
              rw [← hy] at cB
              have z2 : wr.cell? ⟨Z, 2, none⟩ = some (.slice (some ⟨b1, o1, none⟩) names.length cn) := blk_cell HXr.out 2
              have y2 : wr.cell? ⟨Y, 2, none⟩ = some (.slice (some ⟨b2, o2, none⟩) names2.length cm) := blk_cell HYr.out 2
              have hl2I : (i : Int) < names2.length := by omega
              have HXe := hid hx
              have HYe := hid hy
              clear hx hy hat1 hat2
              by_cases hxy : x = y
              · have q1 : (x != y) = false := by simpa using hxy
                have q2 : (x == y) = true := by simpa using hxy
                have HN2 : Hid (∀ m (h1 : m < i + 1) (h2 : m < names.length) (h3 : m < names2.length), names[m] = names2[m]) := by
                  intro m h1 h2 h3
                  by_cases e : m = i
                  · subst e; rw [← HXe.out, ← HYe.out]; exact hxy
                  · exact HNs.out m (by omega) h2 h3
                clear hxy
                go_upto_region 6 with fail
                go_quiet (fail)
                go_wp2_with fail
                exact ⟨⟨i + 1, by omega, by go_num, HN2, HXr, HYr, below_drewN HB.out _⟩, by simp [intOf]; omega⟩
              · have q1 : (x != y) = true := by simpa using hxy
                have q2 : (x == y) = false := by simpa using hxy
                have HF : Hid (Rr = false) := by
                  show _ = _
                  rw [HR2.out, decide_eq_false (fun e => hxy ?_)]
                  · rfl
                  · rw [HXe.out, HYe.out]; simp only [e]
                clear hxy
                go_upto_region 6 with fail
                go_quiet (fail)
                go_wp2_with fail
                go_ret
                exact ⟨by rw [HF.out]; rfl, below_drewN HB.out _⟩
            · have HR3 : Hid (Rr = sameL kids kids2) := by
                show _ = _
                rw [HR2.out, decide_eq_true (eq_of_get HL.out (fun m h1 h2 => HNs.out m (by omega) h1 h2))]
                rfl
              have z3 : wr.cell? ⟨Z, 3, none⟩ = some (.slice ak kids.length ck) := blk_cell HXr.out 3
              clear HR2 HNs
              go_wp2_with fail
              generalize hW : wr = W0 at *
              clear hW
              go_loopw [58] (fun u wr => ∃ (i : Nat), i ≤ kids.length ∧ u = i64 i ∧ Hid (sameL (kids.take i) (kids2.take i) = true) ∧ Hid (wr.heap[Z]? = some (.cells #[i64 k, i64 n, .slice an names.length cn, .slice ak kids.length ck] 64)) ∧ Hid (wr.heap[Y]? = some (.cells #[i64 k2, i64 n2, .slice am names2.length cm, .slice al kids2.length cl] 64)) ∧ Hid (Below w.heap.size w wr)) (fun u _ => kids.length - (intOf u).toNat)
              case atStart => exact ⟨0, by omega, rfl, by show _ = _; simp [sameL], HXr, HYr, HB⟩
              case round =>
                obtain ⟨i, hi, rfl, HMs, HXs, HYs, HB⟩ := hrel
                clear z3
                by_cases hlt : i < kids.length
                · have hlt2 : i < kids2.length := by have := HMm.out; omega
                  obtain ⟨_, _, ak1, ck1, he1, hk1⟩ := (HRd.out.under HB.out).kid
                  cases he1
                  obtain ⟨b1, o1, nvx, kvx, rfl, _, hb1, hr1, hrx⟩ := hk1 i hlt
                  obtain ⟨_, _, ak2', ck2', he2, hk2⟩ := (HQd.out.under HB.out).kid
                  cases he2
                  obtain ⟨b2, o2, nvy, kvy, rfl, _, hb2, hr2, hry⟩ := hk2 i hlt2
                  obtain ⟨x, hx⟩ : ∃ x, x = kids[i] := ⟨_, rfl⟩
                  obtain ⟨y, hy⟩ : ∃ y, y = kids2[i] := ⟨_, rfl⟩
                  rw [← hx] at hr1 hrx
                  rw [← hy] at hr2 hry
                  obtain ⟨an2, cn2, rfl, ak2, ck2, rfl⟩ := hrx.form
                  obtain ⟨am2, cm2, rfl, al2, cl2, rfl⟩ := hry.form
                  have HSX : Hid (S4 Z Y b1 (o1 + i * 4) b2 (o2 + i * 4) (.cells #[i64 k, i64 n, .slice an names.length cn, .slice (some ⟨b1, o1, none⟩) kids.length ck] 64) (.cells #[i64 k2, i64 n2, .slice am names2.length cm, .slice (some ⟨b2, o2, none⟩) kids2.length cl] 64) [i64 x.kind, i64 x.num, .slice an2 x.names.length cn2, .slice ak2 x.kids.length ck2] [i64 y.kind, i64 y.num, .slice am2 y.names.length cm2, .slice al2 y.kids.length cl2] wr.drew) := ⟨HXs.out, HYs.out, hr1, hr2, hb1, hb2⟩
                  have hmx : x ∈ kids := by rw [hx]; exact List.getElem_mem hlt
                  have HCA := hid (HIH.out x hmx y wr.drew _ _ _ _ (hrx.under ⟨rfl, rfl, rfl, Nat.le_refl _, fun _ _ => rfl⟩) (hry.under ⟨rfl, rfl, rfl, Nat.le_refl _, fun _ _ => rfl⟩))
                  have HTk : Hid (sameL (kids.take (i + 1)) (kids2.take (i + 1)) = sameB x y) := by show _ = _; rw [sameL_take kids kids2 i hlt hlt2, HMs.out, ← hx, ← hy]; rfl
                  have HNo : Hid (sameB x y = false → Rr = false) := fun h => by rw [HR3.out]; exact sameL_no kids kids2 i hlt hlt2 (by rw [← hx, ← hy]; exact h)
                  have hl2I : (i : Int) < kids2.length := by omega
                  generalize sameB x y = SB at *
                  clear hx hy hr1 hr2 hrx hry hk1 hk2 hmx
                  go_upto_region 12 with fail
                  refine wp_region_noPanic ?_
                  refine wp_region_last (S4 Z Y b1 (o1 + i * 4) b2 (o2 + i * 4) (.cells #[i64 k, i64 n, .slice an names.length cn, .slice (some ⟨b1, o1, none⟩) kids.length ck] 64) (.cells #[i64 k2, i64 n2, .slice am names2.length cm, .slice (some ⟨b2, o2, none⟩) kids2.length cl] 64) [i64 x.kind, i64 x.num, .slice an2 x.names.length cn2, .slice ak2 x.kids.length ck2] [i64 y.kind, i64 y.num, .slice am2 y.names.length cm2, .slice al2 y.kids.length cl2]) 11 (by kernel_rfl) ?_
                  refine wpL_take 0 61 (.pointer (some ⟨Z, 3, none⟩)) [1, 3, 4, 10] rfl rfl (by kernel_rfl) (by decide) (by kernel_rfl) (by kernel_rfl) (by kernel_rfl) (fun _ _ _ h => h) HSX.out (by rfl) (fun W hW => by go_simp) ?_
                  simp only [Act.put, List.setIfInBounds_toArray, List.set_cons_zero, List.set_cons_succ]
                  refine wpL_take 1 62 (.slice (some ⟨b1, o1, none⟩) kids.length ck) [3, 4, 10] rfl rfl (by kernel_rfl) (by decide) (by kernel_rfl) (by kernel_rfl) (by kernel_rfl) (fun _ _ _ h => h) HSX.out (by rfl) (fun W hW => by have d0 : W.cell? ⟨Z, 3, none⟩ = some (.slice (some ⟨b1, o1, none⟩) kids.length ck) := blk_cell hW.z 3; go_simp) ?_
                  simp only [Act.put, List.setIfInBounds_toArray, List.set_cons_zero, List.set_cons_succ]
                  refine wpL_take 2 63 (i64 i) [3, 4, 10] rfl rfl (by kernel_rfl) (by decide) (by kernel_rfl) (by kernel_rfl) (by kernel_rfl) (fun _ _ _ h => h) HSX.out (by rfl) (fun W hW => by go_simp) ?_
                  simp only [Act.put, List.setIfInBounds_toArray, List.set_cons_zero, List.set_cons_succ]
                  refine wpL_take 3 64 (.pointer (some ⟨b1, o1 + i * 4, none⟩)) [4, 10] rfl rfl (by kernel_rfl) (by decide) (by kernel_rfl) (by kernel_rfl) (by kernel_rfl) (fun _ _ _ h => h) HSX.out (by rfl) (fun W hW => by go_simp) ?_
                  simp only [Act.put, List.setIfInBounds_toArray, List.set_cons_zero, List.set_cons_succ]
                  refine wpL_take 4 65 (.agg #[i64 x.kind, i64 x.num, .slice an2 x.names.length cn2, .slice ak2 x.kids.length ck2]) [10] rfl rfl (by kernel_rfl) (by decide) (by kernel_rfl) (by kernel_rfl) (by kernel_rfl) (fun _ _ _ h => h) HSX.out (by rfl) (fun W hW => by have d0 : W.cell? ⟨b1, o1 + i * 4, none⟩ = some (i64 x.kind) := hW.r1 0 _ rfl; have d1 : W.cell? ⟨b1, o1 + i * 4 + 1, none⟩ = some (i64 x.num) := hW.r1 1 _ rfl; have d2 : W.cell? ⟨b1, o1 + i * 4 + 2, none⟩ = some (.slice an2 x.names.length cn2) := hW.r1 2 _ rfl; have d3 : W.cell? ⟨b1, o1 + i * 4 + 3, none⟩ = some (.slice ak2 x.kids.length ck2) := hW.r1 3 _ rfl; go_simp) ?_
                  simp only [Act.put, List.setIfInBounds_toArray, List.set_cons_zero, List.set_cons_succ]
                  refine wpL_take 5 66 (.pointer (some ⟨Y, 3, none⟩)) [6, 8, 9, 10] rfl rfl (by kernel_rfl) (by decide) (by kernel_rfl) (by kernel_rfl) (by kernel_rfl) (fun _ _ _ h => h) HSX.out (by rfl) (fun W hW => by go_simp) ?_
                  simp only [Act.put, List.setIfInBounds_toArray, List.set_cons_zero, List.set_cons_succ]
                  refine wpL_take 6 67 (.slice (some ⟨b2, o2, none⟩) kids2.length cl) [8, 9, 10] rfl rfl (by kernel_rfl) (by decide) (by kernel_rfl) (by kernel_rfl) (by kernel_rfl) (fun _ _ _ h => h) HSX.out (by rfl) (fun W hW => by have d0 : W.cell? ⟨Y, 3, none⟩ = some (.slice (some ⟨b2, o2, none⟩) kids2.length cl) := blk_cell hW.y 3; go_simp) ?_
                  simp only [Act.put, List.setIfInBounds_toArray, List.set_cons_zero, List.set_cons_succ]
                  refine wpL_take 7 68 (i64 i) [8, 9, 10] rfl rfl (by kernel_rfl) (by decide) (by kernel_rfl) (by kernel_rfl) (by kernel_rfl) (fun _ _ _ h => h) HSX.out (by rfl) (fun W hW => by go_simp) ?_
                  simp only [Act.put, List.setIfInBounds_toArray, List.set_cons_zero, List.set_cons_succ]
                  refine wpL_take 8 69 (.pointer (some ⟨b2, o2 + i * 4, none⟩)) [9, 10] rfl rfl (by kernel_rfl) (by decide) (by kernel_rfl) (by kernel_rfl) (by kernel_rfl) (fun _ _ _ h => h) HSX.out (by rfl) (fun W hW => by go_simp) ?_
                  simp only [Act.put, List.setIfInBounds_toArray, List.set_cons_zero, List.set_cons_succ]
                  refine wpL_take 9 70 (.agg #[i64 y.kind, i64 y.num, .slice am2 y.names.length cm2, .slice al2 y.kids.length cl2]) [10] rfl rfl (by kernel_rfl) (by decide) (by kernel_rfl) (by kernel_rfl) (by kernel_rfl) (fun _ _ _ h => h) HSX.out (by rfl) (fun W hW => by have d0 : W.cell? ⟨b2, o2 + i * 4, none⟩ = some (i64 y.kind) := hW.r2 0 _ rfl; have d1 : W.cell? ⟨b2, o2 + i * 4 + 1, none⟩ = some (i64 y.num) := hW.r2 1 _ rfl; have d2 : W.cell? ⟨b2, o2 + i * 4 + 2, none⟩ = some (.slice am2 y.names.length cm2) := hW.r2 2 _ rfl; have d3 : W.cell? ⟨b2, o2 + i * 4 + 3, none⟩ = some (.slice al2 y.kids.length cl2) := hW.r2 3 _ rfl; go_simp) ?_
                  simp only [Act.put, List.setIfInBounds_toArray, List.set_cons_zero, List.set_cons_succ]
                  refine wpL_one 10 rfl (by kernel_rfl) (by rfl) (fun K hK => ?_)
                  go_simp
                  refine HCA.out.mono ?_
                  rintro e w4 ⟨rfl, hb4⟩
                  have hb4' : Below wr.heap.size wr w4 := ⟨hb4.os, hb4.tape, hb4.output, hb4.size, hb4.block⟩
                  have HS4 : Hid (S4 Z Y b1 (o1 + i * 4) b2 (o2 + i * 4) (.cells #[i64 k, i64 n, .slice an names.length cn, .slice (some ⟨b1, o1, none⟩) kids.length ck] 64) (.cells #[i64 k2, i64 n2, .slice am names2.length cm, .slice (some ⟨b2, o2, none⟩) kids2.length cl] 64) [i64 x.kind, i64 x.num, .slice an2 x.names.length cn2, .slice ak2 x.kids.length ck2] [i64 y.kind, i64 y.num, .slice am2 y.names.length cm2, .slice al2 y.kids.length cl2] w4) := HSX.out.below hb4
                  have HB4 : Hid (Below w.heap.size w w4) := HB.out.trans (hb4'.mono HB.out.size)
                  clear hb4 hb4'
                  go_simp
                  refine hK.out _ _ (fun _ => HS4.out) ?_
                  clear hK K
                  cases SB with
                  | true =>
                    have HM2 : Hid (sameL (kids.take (i + 1)) (kids2.take (i + 1)) = true) := HTk.out
                    refine wpL_one 11 rfl (by kernel_rfl) (by rfl) (fun K hK => ?_)
                    go_simp
                    refine hK.out _ _ (fun h => absurd rfl h) ?_
                    clear hK K
                    refine wpL_done (by kernel_rfl) ?_
                    refine NoPanic.normal ?_
                    go_wp2_with fail
                    exact ⟨⟨i + 1, by omega, by go_num, HM2, HS4.out.z, HS4.out.y, HB4⟩, by simp [intOf]; omega⟩
                  | false =>
                    have HF : Hid (Rr = false) := HNo.out rfl
                    refine wpL_one 11 rfl (by kernel_rfl) (by rfl) (fun K hK => ?_)
                    go_simp
                    refine hK.out _ _ (fun h => absurd rfl h) ?_
                    clear hK K
                    refine wpL_done (by kernel_rfl) ?_
                    refine NoPanic.normal ?_
                    go_wp2_with fail
                    go_ret
                    exact ⟨by rw [HF.out]; rfl, HB4.out⟩
                · have HF : Hid (Rr = true) := by
                    show _ = _
                    have h1 := HMs.out
                    rw [List.take_of_length_le (by omega), List.take_of_length_le (by have := HMm.out; omega)] at h1
                    rw [HR3.out, h1]
                  go_wp2_with fail
                  go_ret
                  exact ⟨by rw [HF.out]; rfl, HB.out⟩
        · skip
          have e1 : (k != k2) = false := by simpa using hk
          have e2 : (n != n2) = false := by simpa using hn
          have e3 : ((names.length : Int) != names2.length) = false := by simp [hl]
          have e3' : (names.length != names2.length) = false := by simp [hl]
          have e4 : ((kids.length : Int) != kids2.length) = true := by simp; omega
          have e4' : (kids.length != kids2.length) = true := by simp; omega
          have HMm := hid hm
          have HF0 : Hid (decide (kids.length = kids2.length) = false) := decide_eq_false hm
          have HKk := hid hk
          have HNn := hid hn
          have HLl := hid hl
          clear hk hn hl hm
          have HF : Hid (Rr = false) := by show _ = _; rw [HRe.out, HF0.out]; simp
          clear HRe
          go_wp2_with fail
          go_ret
          exact ⟨by rw [HF.out]; rfl, HBV.out⟩
      · skip
        have e1 : (k != k2) = false := by simpa using hk
        have e2 : (n != n2) = false := by simpa using hn
        have e3 : ((names.length : Int) != names2.length) = true := by simp; omega
        have e3' : (names.length != names2.length) = true := by simp; omega
        have HF0 : Hid (decide (names = names2) = false) := decide_eq_false (fun e => hl (by rw [e]))
        have HKk := hid hk
        have HNn := hid hn
        clear hk hn hl
        have HF : Hid (Rr = false) := by show _ = _; rw [HRe.out, HF0.out]; simp
        clear HRe
        go_wp2_with fail
        go_ret
        exact ⟨by rw [HF.out]; rfl, HBV.out⟩
    · skip
      have e1 : (k != k2) = false := by simpa using hk
      have e2 : (n != n2) = true := by simpa using hn
      have HF0 : Hid (decide (n = n2) = false) := decide_eq_false hn
      have HKk := hid hk
      clear hk hn
      have HF : Hid (Rr = false) := by show _ = _; rw [HRe.out, HF0.out]; simp
      clear HRe
      go_wp2_with fail
      go_ret
      exact ⟨by rw [HF.out]; rfl, HBV.out⟩
  · skip
    have e1 : (k != k2) = true := by simpa using hk
    have HF0 : Hid (decide (k = k2) = false) := decide_eq_false hk
    clear hk
    have HF : Hid (Rr = false) := by show _ = _; rw [HRe.out, HF0.out]; simp
    clear HRe
    go_wp2_with fail
    go_ret
    exact ⟨by rw [HF.out]; rfl, HBV.out⟩
theorem rsame_ok : ∀ (M : Nat) (x : Ty), x.count ≤ M → ∀ (y : Ty) (w : World) (S : Nat → Prop) (nv kv mv lv : Value), Rd w S x nv kv → Rd w S y mv lv → Calls Tryz.prog 36 #[tyV x.kind x.num nv kv, tyV y.kind y.num mv lv] w fun e w' => e = .returned (.bool (sameB x y)) ∧ Below w.heap.size w w'
  | 0, T, hM, _, _, _, _, _, _, _, _, _ => by have := count_pos T; omega
  | M + 1, .mk k n names kids, hM, .mk k2 n2 names2 kids2, w, S, nv, kv, mv, lv, hR, hQ => by
    simp only [Ty.count] at hM
    exact rsame_in k n names kids k2 n2 names2 kids2 w S nv kv mv lv hR hQ (fun x hx y w nv kv mv lv hR hQ => rsame_ok M x (by have := countL_mem hx; omega) y w S nv kv mv lv hR hQ)
end Go.Proofs.YtjppcfjjpkniaaaGreatDoor
namespace Go.Proofs.YtjppcfjjpkniaaaGreatDoor
open Go.ChangeShapes Go.WideShapes Go.ChangeAt Go.RowKit Go.Deep
attribute [local go_sem ↓] Go.wp_at_zero Go.wp_at_succ
set_option maxRecDepth 100000

theorem lref_all : ∀ (M : Nat), M ≤ 10001 → ∀ (l : List Sm), cntL l < M → ∀ (lo : Nat) (w : World) (bv : Value), lo ≤ w.heap.size → Sds w (fun b => b < lo) l bv → tyL l → Calls Tryz.prog 12 #[bv] w fun e w' => ∃ a c, e = .returned (.slice a l.length c) ∧ Below w.heap.size w w' ∧ Sds w' (fun b => b < lo ∨ w.heap.size ≤ b) l (.slice a l.length c)
  | 0, _, _, h => by omega
  | M + 1, hM, l, h => fun lo w bv => lref_in M (lref_all M (by omega)) l (by omega) (by omega) lo w bv
theorem lref_ok (l : List Sm) (w : World) (bv : Value) (hs : Sds w (fun _ => True) l bv) (hc : cntL l ≤ 10000) (hty : tyL l) : Calls Tryz.prog 12 #[bv] w fun e w' => ∃ a c, e = .returned (.slice a l.length c) ∧ Below w.heap.size w w' ∧ Sds w' (fun _ => True) l (.slice a l.length c) := by
  refine (lref_all (cntL l + 1) (by omega) l (by omega) w.heap.size w bv (Nat.le_refl _) (hs.mono fun b _ hlt => hlt) hty).mono ?_
  rintro e w' ⟨a, c, h1, h2, h3⟩
  exact ⟨a, c, h1, h2, h3.mono fun _ _ _ => trivial⟩
abbrev sbE (o nm dst nv k n tn tk N bv : Value) : Obj := .cells #[o, nm, dst, nv, k, n, tn, tk, N, bv] 66
theorem sfe {S : Nat} {o nm dst nv k n tn tk N bv : Value} {w : World} (h : w.heap[S]? = some (sbE o nm dst nv k n tn tk N bv)) : Sfs w S o nm dst nv k n tn tk N bv :=
  ⟨blk_cell h 0, blk_cell h 1, blk_cell h 2, blk_cell h 3, blk_cell h 4, blk_cell h 5, blk_cell h 6, blk_cell h 7, blk_cell h 8, blk_cell h 9, blk_frozen h 0, blk_frozen h 1, blk_frozen h 2, blk_frozen h 3, blk_frozen h 4, blk_frozen h 5, blk_frozen h 6, blk_frozen h 7, blk_frozen h 8, blk_frozen h 9⟩
set_option maxHeartbeats 25600000 in
theorem esame_ok (op num : Int) (nm ds : Bs) (names : List Bs) (t : Ty) (nva nvb tna tnb tka tkb : Value) (a4 : Option Addr) (n4 c4 : Nat) (b4 : Option Addr) (m4 d4 : Nat) (w : World) (hla : Strs w (fun _ => True) nva names) (hlb : Strs w (fun _ => True) nvb names) (hta : Rd w (fun _ => True) t tna tka) (htb : Rd w (fun _ => True) t tnb tkb) :
    Calls Tryz.prog 21 #[stV (i64 op) (str nm) (str ds) nva (i64 t.kind) (i64 t.num) tna tka (i64 num) (.slice a4 n4 c4), stV (i64 op) (str nm) (str ds) nvb (i64 t.kind) (i64 t.num) tnb tkb (i64 num) (.slice b4 m4 d4)] w fun e w' => e = .returned (.bool true) ∧ Below w.heap.size w w' := by
  obtain ⟨a1, c1, rfl⟩ := hla.form
  obtain ⟨b1, d1, rfl⟩ := hlb.form
  obtain ⟨⟨a2, n2, c2, rfl⟩, a3, n3, c3, rfl⟩ := hta.form2
  obtain ⟨⟨b2, m2, d2, rfl⟩, b3, m3, d3, rfl⟩ := htb.form2
  have hln : names.length ≤ 9223372036854775807 := by obtain ⟨_, _, _, h, _⟩ := hla; unfold maxLen at h; omega
  have hb2 : Below w.heap.size w ((w.alloc (sbE (i64 op) (str nm) (str ds) (.slice a1 names.length c1) (i64 t.kind) (i64 t.num) (.slice a2 n2 c2) (.slice a3 n3 c3) (i64 num) (.slice a4 n4 c4))).alloc (sbE (i64 op) (str nm) (str ds) (.slice b1 names.length d1) (i64 t.kind) (i64 t.num) (.slice b2 m2 d2) (.slice b3 m3 d3) (i64 num) (.slice b4 m4 d4))) := (below_one w _).trans ((below_one _ _).mono (below_one w _).size)
  have HLA := hid (hla.below hb2)
  have HLB := hid (hlb.below hb2)
  have HTA := hid (hta.under hb2)
  have HTB := hid (htb.under hb2)
  have HB := hid hb2
  have HZ1 : Hid (((w.alloc (sbE (i64 op) (str nm) (str ds) (.slice a1 names.length c1) (i64 t.kind) (i64 t.num) (.slice a2 n2 c2) (.slice a3 n3 c3) (i64 num) (.slice a4 n4 c4))).alloc (sbE (i64 op) (str nm) (str ds) (.slice b1 names.length d1) (i64 t.kind) (i64 t.num) (.slice b2 m2 d2) (.slice b3 m3 d3) (i64 num) (.slice b4 m4 d4))).heap[w.heap.size]? = some (sbE (i64 op) (str nm) (str ds) (.slice a1 names.length c1) (i64 t.kind) (i64 t.num) (.slice a2 n2 c2) (.slice a3 n3 c3) (i64 num) (.slice a4 n4 c4))) := heap_alloc2 w _ _
  have HZ2 : Hid (((w.alloc (sbE (i64 op) (str nm) (str ds) (.slice a1 names.length c1) (i64 t.kind) (i64 t.num) (.slice a2 n2 c2) (.slice a3 n3 c3) (i64 num) (.slice a4 n4 c4))).alloc (sbE (i64 op) (str nm) (str ds) (.slice b1 names.length d1) (i64 t.kind) (i64 t.num) (.slice b2 m2 d2) (.slice b3 m3 d3) (i64 num) (.slice b4 m4 d4))).heap[w.heap.size + 1]? = some (sbE (i64 op) (str nm) (str ds) (.slice b1 names.length d1) (i64 t.kind) (i64 t.num) (.slice b2 m2 d2) (.slice b3 m3 d3) (i64 num) (.slice b4 m4 d4))) := by
    have := heap_last (w.alloc (sbE (i64 op) (str nm) (str ds) (.slice a1 names.length c1) (i64 t.kind) (i64 t.num) (.slice a2 n2 c2) (.slice a3 n3 c3) (i64 num) (.slice a4 n4 c4))) (sbE (i64 op) (str nm) (str ds) (.slice b1 names.length d1) (i64 t.kind) (i64 t.num) (.slice b2 m2 d2) (.slice b3 m3 d3) (i64 num) (.slice b4 m4 d4))
    rw [sz_alloc] at this
    exact this
  clear hla hlb hta htb hb2
  go_enter Tryz.func21, Tryz.ntmps21
  go_upto_region 1 with fail
  obtain ⟨Z2, hZ2⟩ : ∃ Z2, Z2 = w.heap.size + 1 := ⟨_, rfl⟩
  obtain ⟨Z1, hZ1⟩ : ∃ Z1, Z1 = w.heap.size := ⟨_, rfl⟩
  rw [← hZ2] at HZ2 ⊢
  rw [← hZ1] at HZ1 ⊢
  clear hZ1 hZ2
  generalize (w.alloc (sbE (i64 op) (str nm) (str ds) (.slice a1 names.length c1) (i64 t.kind) (i64 t.num) (.slice a2 n2 c2) (.slice a3 n3 c3) (i64 num) (.slice a4 n4 c4))).alloc (sbE (i64 op) (str nm) (str ds) (.slice b1 names.length d1) (i64 t.kind) (i64 t.num) (.slice b2 m2 d2) (.slice b3 m3 d3) (i64 num) (.slice b4 m4 d4)) = V at *
  have p3 := blk_cell HZ1.out 3
  have HV : Hid (Below V.heap.size V V) := Below.refl _ _
  go_wp2_with fail
  clear p3
  go_loopw [9] (fun u wr => ∃ (i : Nat), i ≤ names.length ∧ u = i64 i ∧ Hid (Below V.heap.size V wr)) (fun u _ => names.length - (intOf u).toNat)
  case atStart => exact ⟨0, Nat.zero_le _, rfl, HV⟩
  case round =>
    obtain ⟨i, hi, rfl, HBd⟩ := hrel
    have HX1 := hid (blk_below HZ1.out HBd.out)
    have HX2 := hid (blk_below HZ2.out HBd.out)
    have hiI : (0 : Int) ≤ (i : Int) := by omega
    by_cases hlt : i < names.length
    · obtain ⟨ao1, cp1, he1, hat1⟩ := (HLA.out.below HBd.out).at
      cases he1
      obtain ⟨r1, o1, rfl, hr1, cA⟩ := hat1 i hlt
      obtain ⟨ao2, cp2, he2, hat2⟩ := (HLB.out.below HBd.out).at
      cases he2
      obtain ⟨r2, o2, rfl, hr2, cB⟩ := hat2 i hlt
      generalize names[i] = x at *
      have z3 : wr.cell? ⟨Z1, 3, none⟩ = some (.slice (some ⟨r1, o1, none⟩) names.length c1) := blk_cell HX1.out 3
      have y3 : wr.cell? ⟨Z2, 3, none⟩ = some (.slice (some ⟨r2, o2, none⟩) names.length d1) := blk_cell HX2.out 3
      have q2 : (x == x) = true := by simp
      have q1 : (x != x) = false := by simp
      have hl2I : (i : Int) < names.length := by omega
      clear hat1 hat2
      go_upto_region 4 with fail
      go_quiet (fail)
      go_wp2_with fail
      exact ⟨⟨i + 1, by omega, by go_num, below_drewN HBd.out _⟩, by simp [intOf]; omega⟩
    · have he : i = names.length := by omega
      obtain ⟨p0, p1, p2, p3, p4, p5, p6, p7, p8, p9, _, _, _, _, _, _, _, _, _, _⟩ := sfe HX1.out
      obtain ⟨q0, q1, q2, q3, q4, q5, q6, q7, q8, q9, _, _, _, _, _, _, _, _, _, _⟩ := sfe HX2.out
      have e1 : (op == op) = true := by simp
      have e2 : (nm == nm) = true := by simp
      have e3 : (ds == ds) = true := by simp
      have e4 : (num == num) = true := by simp
      have HSM : Hid (Calls Tryz.prog 36 #[tyV t.kind t.num (.slice a2 n2 c2) (.slice a3 n3 c3), tyV t.kind t.num (.slice b2 m2 d2) (.slice b3 m3 d3)] wr fun e w' => e = .returned (.bool true) ∧ Below wr.heap.size wr w') := by
        have := rsame_ok t.count t (Nat.le_refl _) t wr _ _ _ _ _ (HTA.out.under HBd.out) (HTB.out.under HBd.out)
        rw [sameB_refl] at this
        exact this
      have HB2 : Hid (Below w.heap.size w wr) := HB.out.trans (HBd.out.mono HB.out.size)
      clear he
      go_wp2_with fail
      refine HSM.out.mono ?_
      rintro e w3 ⟨rfl, hb3⟩
      have HB3 : Hid (Below w.heap.size w w3) := HB2.out.trans (hb3.mono HB2.out.size)
      have r8 : w3.cell? ⟨Z1, 8, none⟩ = some (i64 num) := blk_cell (blk_below HX1.out hb3) 8
      have s8 : w3.cell? ⟨Z2, 8, none⟩ = some (i64 num) := blk_cell (blk_below HX2.out hb3) 8
      clear hb3 HSM HB2
      go_simp
      go_wp2_with fail
      go_ret
      exact ⟨rfl, HB3.out⟩
end Go.Proofs.YtjppcfjjpkniaaaGreatDoor
namespace Go.Proofs.YtjppcfjjpkniaaaGreatDoor
open Go.ChangeShapes Go.WideShapes Go.ChangeAt Go.RowKit Go.Deep
attribute [local go_sem ↓] Go.wp_at_zero Go.wp_at_succ
set_option maxRecDepth 100000

/-- Two statements' cells. -/
structure S2e (r1 r2 k1 k2 : Nat) (op num : Int) (nm ds : Bs) (t : Ty) (nv1 tn1 tk1 bv1 nv2 tn2 tk2 bv2 : Value) (W : World) : Prop where
  x0 : W.cell? ⟨r1, k1, none⟩ = some (i64 op)
  x1 : W.cell? ⟨r1, k1 + 1, none⟩ = some (str nm)
  x2 : W.cell? ⟨r1, k1 + 2, none⟩ = some (str ds)
  x3 : W.cell? ⟨r1, k1 + 3, none⟩ = some nv1
  x4 : W.cell? ⟨r1, k1 + 4, none⟩ = some (i64 t.kind)
  x5 : W.cell? ⟨r1, k1 + 5, none⟩ = some (i64 t.num)
  x6 : W.cell? ⟨r1, k1 + 6, none⟩ = some tn1
  x7 : W.cell? ⟨r1, k1 + 7, none⟩ = some tk1
  x8 : W.cell? ⟨r1, k1 + 8, none⟩ = some (i64 num)
  x9 : W.cell? ⟨r1, k1 + 9, none⟩ = some bv1
  y0 : W.cell? ⟨r2, k2, none⟩ = some (i64 op)
  y1 : W.cell? ⟨r2, k2 + 1, none⟩ = some (str nm)
  y2 : W.cell? ⟨r2, k2 + 2, none⟩ = some (str ds)
  y3 : W.cell? ⟨r2, k2 + 3, none⟩ = some nv2
  y4 : W.cell? ⟨r2, k2 + 4, none⟩ = some (i64 t.kind)
  y5 : W.cell? ⟨r2, k2 + 5, none⟩ = some (i64 t.num)
  y6 : W.cell? ⟨r2, k2 + 6, none⟩ = some tn2
  y7 : W.cell? ⟨r2, k2 + 7, none⟩ = some tk2
  y8 : W.cell? ⟨r2, k2 + 8, none⟩ = some (i64 num)
  y9 : W.cell? ⟨r2, k2 + 9, none⟩ = some bv2
theorem S2e.below {r1 r2 k1 k2 : Nat} {op num : Int} {nm ds : Bs} {t : Ty} {nv1 tn1 tk1 bv1 nv2 tn2 tk2 bv2 : Value} {W W' : World} (h : S2e r1 r2 k1 k2 op num nm ds t nv1 tn1 tk1 bv1 nv2 tn2 tk2 bv2 W) (hb : Below W.heap.size W W') : S2e r1 r2 k1 k2 op num nm ds t nv1 tn1 tk1 bv1 nv2 tn2 tk2 bv2 W' := by
  have h1 := World.block_lt_of_cell? W _ h.x0
  have h2 := World.block_lt_of_cell? W _ h.y0
  have e1 : ∀ k, W'.cell? ⟨r1, k, none⟩ = W.cell? ⟨r1, k, none⟩ := fun k => World.cell?_of_block (w := W) (hb.block r1 h1)
  have e2 : ∀ k, W'.cell? ⟨r2, k, none⟩ = W.cell? ⟨r2, k, none⟩ := fun k => World.cell?_of_block (w := W) (hb.block r2 h2)
  exact ⟨(e1 _).trans h.x0, (e1 _).trans h.x1, (e1 _).trans h.x2, (e1 _).trans h.x3, (e1 _).trans h.x4, (e1 _).trans h.x5, (e1 _).trans h.x6, (e1 _).trans h.x7, (e1 _).trans h.x8, (e1 _).trans h.x9, (e2 _).trans h.y0, (e2 _).trans h.y1, (e2 _).trans h.y2, (e2 _).trans h.y3, (e2 _).trans h.y4, (e2 _).trans h.y5, (e2 _).trans h.y6, (e2 _).trans h.y7, (e2 _).trans h.y8, (e2 _).trans h.y9⟩
set_option maxHeartbeats 25600000 in
theorem lsame_in (M : Nat) (ih : ∀ (l : List Sm), cntL l < M → ∀ (w : World) (av bv : Value), Sds w (fun _ => True) l av → Sds w (fun _ => True) l bv → Calls Tryz.prog 11 #[av, bv] w fun e w' => e = .returned (.bool true) ∧ Below w.heap.size w w')
    (l : List Sm) (hM : cntL l ≤ M) (w : World) (av bv : Value) (ha : Sds w (fun _ => True) l av) (hb : Sds w (fun _ => True) l bv) : Calls Tryz.prog 11 #[av, bv] w fun e w' => e = .returned (.bool true) ∧ Below w.heap.size w w' := by
  obtain ⟨ao, ca, rfl, hlm, hat1⟩ := ha.at
  obtain ⟨bo, cb, rfl, _, hat2⟩ := hb.at
  have HA1 := hid hat1
  have HA2 := hid hat2
  have HIH := hid ih
  have hl5 : l.length ≤ 9223372036854775807 := by unfold maxLen at hlm; omega
  have HB0 : Hid (Below w.heap.size w w) := Below.refl _ _
  clear hat1 hat2 ih ha hb hlm
  go_enter Tryz.func11, Tryz.ntmps11
  go_upto_region 2 with fail
  go_loopw [8] (fun u wr => ∃ (i : Nat), i ≤ l.length ∧ u = i64 i ∧ Hid (Below w.heap.size w wr)) (fun u _ => l.length - (intOf u).toNat)
  case atStart => exact ⟨0, Nat.zero_le _, rfl, HB0⟩
  case round =>
    obtain ⟨i, hi, rfl, HB⟩ := hrel
    have hiI : (0 : Int) ≤ (i : Int) := by omega
    by_cases hlt : i < l.length
    · obtain ⟨r1, o1, v1, rfl, _, hr1, hg1, hs1⟩ := HA1.out i hlt
      obtain ⟨r2, o2, v2, rfl, _, hr2, hg2, hs2⟩ := HA2.out i hlt
      have hci := cntL_at l i hlt
      have hltI : (i : Int) < (l.length : Int) := by omega
      generalize l[i] = sm at *
      obtain ⟨op, num, nm, ds, names, t, body⟩ := sm
      obtain ⟨a1, c1, a2, n2, c2, a3, n3, c3, a4, c4, rfl⟩ := hs1.form
      obtain ⟨b1, d1, b2, m2, d2, b3, m3, d3, b4, d4, rfl⟩ := hs2.form
      have hp1 := (hs1.under HB.out).parts
      have hp2 := (hs2.under HB.out).parts
      have hk1 := range_keep hg1 (HB.out.block r1 hr1)
      have hk2 := range_keep hg2 (HB.out.block r2 hr2)
      have HSX : Hid (S2e r1 r2 (o1 + i * 10) (o2 + i * 10) op num nm ds t (.slice a1 names.length c1) (.slice a2 n2 c2) (.slice a3 n3 c3) (.slice a4 body.length c4) (.slice b1 names.length d1) (.slice b2 m2 d2) (.slice b3 m3 d3) (.slice b4 body.length d4) wr.drew) := ⟨hk1 0 _ rfl, hk1 1 _ rfl, hk1 2 _ rfl, hk1 3 _ rfl, hk1 4 _ rfl, hk1 5 _ rfl, hk1 6 _ rfl, hk1 7 _ rfl, hk1 8 _ rfl, hk1 9 _ rfl, hk2 0 _ rfl, hk2 1 _ rfl, hk2 2 _ rfl, hk2 3 _ rfl, hk2 4 _ rfl, hk2 5 _ rfl, hk2 6 _ rfl, hk2 7 _ rfl, hk2 8 _ rfl, hk2 9 _ rfl⟩
      have hdr : Below wr.heap.size wr wr.drew := ⟨rfl, rfl, rfl, Nat.le_refl _, fun _ _ => rfl⟩
      have HBD : Hid (Below w.heap.size w wr.drew) := HB.out.trans (hdr.mono HB.out.size)
      have HC1 := hid (esame_ok op num nm ds names t _ _ _ _ _ _ a4 body.length c4 b4 body.length d4 wr.drew (hp1.1.below hdr) (hp2.1.below hdr) (hp1.2.1.under hdr) (hp2.2.1.under hdr))
      have HBA : Hid (Sds w (fun _ => True) body (.slice a4 body.length c4)) := hs1.parts.2.2
      have HBB : Hid (Sds w (fun _ => True) body (.slice b4 body.length d4)) := hs2.parts.2.2
      have HCI : Hid (cntL body < M) := by show _ < _; simp only [Sm.count] at hci; omega
      clear hg1 hg2 hs1 hs2 hp1 hp2 hk1 hk2 hdr hci hr1 hr2
      go_upto_region 4 with fail
      refine wp_region_noPanic ?_
      refine wp_region_last (S2e r1 r2 (o1 + i * 10) (o2 + i * 10) op num nm ds t (.slice a1 names.length c1) (.slice a2 n2 c2) (.slice a3 n3 c3) (.slice a4 body.length c4) (.slice b1 names.length d1) (.slice b2 m2 d2) (.slice b3 m3 d3) (.slice b4 body.length d4)) 29 (by kernel_rfl) ?_
      refine wpL_take 0 11 (i64 i) [3, 4, 13, 16] rfl rfl (by kernel_rfl) (by decide) (by kernel_rfl) (by kernel_rfl) (by kernel_rfl) (fun _ _ _ h => h) HSX.out (by rfl) (fun W hW => by go_simp) ?_
      simp only [Act.put, List.setIfInBounds_toArray, List.set_cons_zero, List.set_cons_succ]
      refine wpL_take 1 12 (.slice (some ⟨r2, o2, none⟩) l.length cb) [2, 3, 4, 13, 16] rfl rfl (by kernel_rfl) (by decide) (by kernel_rfl) (by kernel_rfl) (by kernel_rfl) (fun _ _ _ h => h) HSX.out (by rfl) (fun W hW => by go_simp) ?_
      simp only [Act.put, List.setIfInBounds_toArray, List.set_cons_zero, List.set_cons_succ]
      refine wpL_take 2 13 (i64 (l.length : Int)) [3, 4, 13, 16] rfl rfl (by kernel_rfl) (by decide) (by kernel_rfl) (by kernel_rfl) (by kernel_rfl) (fun _ _ _ h => h) HSX.out (by rfl) (fun W hW => by go_simp) ?_
      simp only [Act.put, List.setIfInBounds_toArray, List.set_cons_zero, List.set_cons_succ]
      refine wpL_take 3 14 (.bool false) [4, 13, 16] rfl rfl (by kernel_rfl) (by decide) (by kernel_rfl) (by kernel_rfl) (by kernel_rfl) (fun _ _ _ h => h) HSX.out (by rfl) (fun W hW => by go_simp) ?_
      simp only [Act.put, List.setIfInBounds_toArray, List.set_cons_zero, List.set_cons_succ]
      refine wpL_take 4 15 (.bool false) [13, 16] rfl rfl (by kernel_rfl) (by decide) (by kernel_rfl) (by kernel_rfl) (by kernel_rfl) (fun _ _ _ h => h) HSX.out (by rfl) (fun W hW => by go_simp) ?_
      simp only [Act.put, List.setIfInBounds_toArray, List.set_cons_zero, List.set_cons_succ]
      refine wpL_take 5 16 (.slice (some ⟨r1, o1, none⟩) l.length ca) [7, 8, 13, 16] rfl rfl (by kernel_rfl) (by decide) (by kernel_rfl) (by kernel_rfl) (by kernel_rfl) (fun _ _ _ h => h) HSX.out (by rfl) (fun W hW => by go_simp) ?_
      simp only [Act.put, List.setIfInBounds_toArray, List.set_cons_zero, List.set_cons_succ]
      refine wpL_take 6 17 (i64 i) [7, 8, 13, 16] rfl rfl (by kernel_rfl) (by decide) (by kernel_rfl) (by kernel_rfl) (by kernel_rfl) (fun _ _ _ h => h) HSX.out (by rfl) (fun W hW => by go_simp) ?_
      simp only [Act.put, List.setIfInBounds_toArray, List.set_cons_zero, List.set_cons_succ]
      refine wpL_take 7 18 (.pointer (some ⟨r1, o1 + i * 10, none⟩)) [8, 13, 16] rfl rfl (by kernel_rfl) (by decide) (by kernel_rfl) (by kernel_rfl) (by kernel_rfl) (fun _ _ _ h => h) HSX.out (by rfl) (fun W hW => by go_simp) ?_
      simp only [Act.put, List.setIfInBounds_toArray, List.set_cons_zero, List.set_cons_succ]
      refine wpL_take 8 19 (stV (i64 op) (str nm) (str ds) (.slice a1 names.length c1) (i64 t.kind) (i64 t.num) (.slice a2 n2 c2) (.slice a3 n3 c3) (i64 num) (.slice a4 body.length c4)) [13, 16] rfl rfl (by kernel_rfl) (by decide) (by kernel_rfl) (by kernel_rfl) (by kernel_rfl) (fun _ _ _ h => h) HSX.out (by rfl) (fun W hW => by have d0 := hW.x0; have d1 := hW.x1; have d2 := hW.x2; have d3 := hW.x3; have d4 := hW.x4; have d5 := hW.x5; have d6 := hW.x6; have d7 := hW.x7; have d8 := hW.x8; have d9 := hW.x9; go_simp) ?_
      simp only [Act.put, List.setIfInBounds_toArray, List.set_cons_zero, List.set_cons_succ]
      refine wpL_take 9 20 (.slice (some ⟨r2, o2, none⟩) l.length cb) [11, 12, 13, 16] rfl rfl (by kernel_rfl) (by decide) (by kernel_rfl) (by kernel_rfl) (by kernel_rfl) (fun _ _ _ h => h) HSX.out (by rfl) (fun W hW => by go_simp) ?_
      simp only [Act.put, List.setIfInBounds_toArray, List.set_cons_zero, List.set_cons_succ]
      refine wpL_take 10 21 (i64 i) [11, 12, 13, 16] rfl rfl (by kernel_rfl) (by decide) (by kernel_rfl) (by kernel_rfl) (by kernel_rfl) (fun _ _ _ h => h) HSX.out (by rfl) (fun W hW => by go_simp) ?_
      simp only [Act.put, List.setIfInBounds_toArray, List.set_cons_zero, List.set_cons_succ]
      refine wpL_take 11 22 (.pointer (some ⟨r2, o2 + i * 10, none⟩)) [12, 13, 16] rfl rfl (by kernel_rfl) (by decide) (by kernel_rfl) (by kernel_rfl) (by kernel_rfl) (fun _ _ _ h => h) HSX.out (by rfl) (fun W hW => by go_simp) ?_
      simp only [Act.put, List.setIfInBounds_toArray, List.set_cons_zero, List.set_cons_succ]
      refine wpL_take 12 23 (stV (i64 op) (str nm) (str ds) (.slice b1 names.length d1) (i64 t.kind) (i64 t.num) (.slice b2 m2 d2) (.slice b3 m3 d3) (i64 num) (.slice b4 body.length d4)) [13, 16] rfl rfl (by kernel_rfl) (by decide) (by kernel_rfl) (by kernel_rfl) (by kernel_rfl) (fun _ _ _ h => h) HSX.out (by rfl) (fun W hW => by have d0 := hW.y0; have d1 := hW.y1; have d2 := hW.y2; have d3 := hW.y3; have d4 := hW.y4; have d5 := hW.y5; have d6 := hW.y6; have d7 := hW.y7; have d8 := hW.y8; have d9 := hW.y9; go_simp) ?_
      simp only [Act.put, List.setIfInBounds_toArray, List.set_cons_zero, List.set_cons_succ]
      refine wpL_one 13 rfl (by kernel_rfl) (by rfl) (fun K hK => ?_)
      go_simp
      refine HC1.out.mono ?_
      rintro e w4 ⟨rfl, hb⟩
      have HSY := hid (HSX.out.below hb)
      have HB13 : Hid (Below w.heap.size w w4) := HBD.out.trans (hb.mono HBD.out.size)
      clear hb
      go_simp
      refine hK.out _ _ (fun _ => HSY.out) ?_
      clear hK K
      try simp only [Act.put, List.setIfInBounds_toArray, List.set_cons_zero, List.set_cons_succ]
      have HC2 := hid (HIH.out body HCI.out w4 _ _ (HBA.out.under HB13.out) (HBB.out.under HB13.out))
      refine wpL_take 14 25 (.bool false) [15, 16] rfl rfl (by kernel_rfl) (by decide) (by kernel_rfl) (by kernel_rfl) (by kernel_rfl) (fun _ _ _ h => h) HSY.out (by rfl) (fun W hW => by go_simp) ?_
      simp only [Act.put, List.setIfInBounds_toArray, List.set_cons_zero, List.set_cons_succ]
      refine wpL_take 15 26 (.bool false) [16] rfl rfl (by kernel_rfl) (by decide) (by kernel_rfl) (by kernel_rfl) (by kernel_rfl) (fun _ _ _ h => h) HSY.out (by rfl) (fun W hW => by go_simp) ?_
      simp only [Act.put, List.setIfInBounds_toArray, List.set_cons_zero, List.set_cons_succ]
      refine wpL_take 16 27 (.bool false) [] rfl rfl (by kernel_rfl) (by decide) (by kernel_rfl) (by kernel_rfl) (by kernel_rfl) (fun _ _ _ h => h) HSY.out (by rfl) (fun W hW => by go_simp) ?_
      simp only [Act.put, List.setIfInBounds_toArray, List.set_cons_zero, List.set_cons_succ]
      refine wpL_take 17 28 (.slice (some ⟨r1, o1, none⟩) l.length ca) [19, 20, 21, 27, 28] rfl rfl (by kernel_rfl) (by decide) (by kernel_rfl) (by kernel_rfl) (by kernel_rfl) (fun _ _ _ h => h) HSY.out (by rfl) (fun W hW => by go_simp) ?_
      simp only [Act.put, List.setIfInBounds_toArray, List.set_cons_zero, List.set_cons_succ]
      refine wpL_take 18 29 (i64 i) [19, 20, 21, 27, 28] rfl rfl (by kernel_rfl) (by decide) (by kernel_rfl) (by kernel_rfl) (by kernel_rfl) (fun _ _ _ h => h) HSY.out (by rfl) (fun W hW => by go_simp) ?_
      simp only [Act.put, List.setIfInBounds_toArray, List.set_cons_zero, List.set_cons_succ]
      refine wpL_take 19 30 (.pointer (some ⟨r1, o1 + i * 10, none⟩)) [20, 21, 27, 28] rfl rfl (by kernel_rfl) (by decide) (by kernel_rfl) (by kernel_rfl) (by kernel_rfl) (fun _ _ _ h => h) HSY.out (by rfl) (fun W hW => by go_simp) ?_
      simp only [Act.put, List.setIfInBounds_toArray, List.set_cons_zero, List.set_cons_succ]
      refine wpL_take 20 31 (.pointer (some ⟨r1, o1 + i * 10 + 9, none⟩)) [21, 27, 28] rfl rfl (by kernel_rfl) (by decide) (by kernel_rfl) (by kernel_rfl) (by kernel_rfl) (fun _ _ _ h => h) HSY.out (by rfl) (fun W hW => by go_simp) ?_
      simp only [Act.put, List.setIfInBounds_toArray, List.set_cons_zero, List.set_cons_succ]
      refine wpL_take 21 32 (.slice a4 body.length c4) [27, 28] rfl rfl (by kernel_rfl) (by decide) (by kernel_rfl) (by kernel_rfl) (by kernel_rfl) (fun _ _ _ h => h) HSY.out (by rfl) (fun W hW => by have d9 := hW.x9; go_simp) ?_
      simp only [Act.put, List.setIfInBounds_toArray, List.set_cons_zero, List.set_cons_succ]
      refine wpL_take 22 33 (.slice (some ⟨r2, o2, none⟩) l.length cb) [24, 25, 26, 27, 28] rfl rfl (by kernel_rfl) (by decide) (by kernel_rfl) (by kernel_rfl) (by kernel_rfl) (fun _ _ _ h => h) HSY.out (by rfl) (fun W hW => by go_simp) ?_
      simp only [Act.put, List.setIfInBounds_toArray, List.set_cons_zero, List.set_cons_succ]
      refine wpL_take 23 34 (i64 i) [24, 25, 26, 27, 28] rfl rfl (by kernel_rfl) (by decide) (by kernel_rfl) (by kernel_rfl) (by kernel_rfl) (fun _ _ _ h => h) HSY.out (by rfl) (fun W hW => by go_simp) ?_
      simp only [Act.put, List.setIfInBounds_toArray, List.set_cons_zero, List.set_cons_succ]
      refine wpL_take 24 35 (.pointer (some ⟨r2, o2 + i * 10, none⟩)) [25, 26, 27, 28] rfl rfl (by kernel_rfl) (by decide) (by kernel_rfl) (by kernel_rfl) (by kernel_rfl) (fun _ _ _ h => h) HSY.out (by rfl) (fun W hW => by go_simp) ?_
      simp only [Act.put, List.setIfInBounds_toArray, List.set_cons_zero, List.set_cons_succ]
      refine wpL_take 25 36 (.pointer (some ⟨r2, o2 + i * 10 + 9, none⟩)) [26, 27, 28] rfl rfl (by kernel_rfl) (by decide) (by kernel_rfl) (by kernel_rfl) (by kernel_rfl) (fun _ _ _ h => h) HSY.out (by rfl) (fun W hW => by go_simp) ?_
      simp only [Act.put, List.setIfInBounds_toArray, List.set_cons_zero, List.set_cons_succ]
      refine wpL_take 26 37 (.slice b4 body.length d4) [27, 28] rfl rfl (by kernel_rfl) (by decide) (by kernel_rfl) (by kernel_rfl) (by kernel_rfl) (fun _ _ _ h => h) HSY.out (by rfl) (fun W hW => by have d9 := hW.y9; go_simp) ?_
      simp only [Act.put, List.setIfInBounds_toArray, List.set_cons_zero, List.set_cons_succ]
      refine wpL_one 27 rfl (by kernel_rfl) (by rfl) (fun K hK => ?_)
      go_simp
      refine HC2.out.mono ?_
      rintro e w5 ⟨rfl, hb⟩
      have HSZ := hid (HSY.out.below hb)
      have HB27 : Hid (Below w.heap.size w w5) := HB13.out.trans (hb.mono HB13.out.size)
      clear hb
      go_simp
      refine hK.out _ _ (fun _ => HSZ.out) ?_
      clear hK K
      try simp only [Act.put, List.setIfInBounds_toArray, List.set_cons_zero, List.set_cons_succ]
      refine wpL_take 28 39 (.bool false) [] rfl rfl (by kernel_rfl) (by decide) (by kernel_rfl) (by kernel_rfl) (by kernel_rfl) (fun _ _ _ h => h) HSZ.out (by rfl) (fun W hW => by go_simp) ?_
      simp only [Act.put, List.setIfInBounds_toArray, List.set_cons_zero, List.set_cons_succ]
      refine wpL_one 29 rfl (by kernel_rfl) (by rfl) (fun K hK => ?_)
      go_simp
      refine hK.out _ _ (fun h => absurd rfl h) ?_
      clear hK K
      refine wpL_done (by kernel_rfl) ?_
      refine NoPanic.normal ?_
      go_wp2_with fail
      exact ⟨⟨i + 1, by omega, by go_num, HB27⟩, by simp [intOf]; omega⟩
    · have he : i = l.length := by omega
      clear he
      go_wp2_with fail
      go_ret
      exact ⟨by simp, HB.out⟩
theorem lsame_all : ∀ (M : Nat) (l : List Sm), cntL l < M → ∀ (w : World) (av bv : Value), Sds w (fun _ => True) l av → Sds w (fun _ => True) l bv → Calls Tryz.prog 11 #[av, bv] w fun e w' => e = .returned (.bool true) ∧ Below w.heap.size w w'
  | 0, _, h => by omega
  | M + 1, l, h => fun w av bv => lsame_in M (lsame_all M) l (by omega) w av bv
theorem lsame_ok (l : List Sm) (w : World) (av bv : Value) (ha : Sds w (fun _ => True) l av) (hb : Sds w (fun _ => True) l bv) : Calls Tryz.prog 11 #[av, bv] w fun e w' => e = .returned (.bool true) ∧ Below w.heap.size w w' := lsame_all (cntL l + 1) l (by omega) w av bv ha hb
end Go.Proofs.YtjppcfjjpkniaaaGreatDoor
namespace Go.Proofs.YtjppcfjjpkniaaaGreatDoor
open Go.ChangeShapes Go.WideShapes Go.ChangeAt Go.RowKit Go.Deep
set_option maxRecDepth 100000

theorem readS_ty {ws : List Bs} {s : Sm} (h : readS ws = some s) : ∀ l, tyL l → tyS (s.withBody l) ∧ (l = [] → tyS s) := fun l hl => by
  have h1 := readS_cnt h
  have h2 := readS_body h
  obtain ⟨op, num, nm, ds, names, t, body⟩ := s
  simp only [Sm.ty, Sm.body] at h1 h2
  subst h2
  exact ⟨⟨Nat.le_trans h1 (by omega), hl⟩, fun _ => ⟨Nat.le_trans h1 (by omega), trivial⟩⟩
theorem blk_ty : ∀ (f : Nat) (rows : List Bs) (i line cnt : Nat) (l : List Sm) (rest : List Bs) (a b : Nat), blk f rows i line cnt = .ok l rest a b → tyL l
  | 0, _, _, _, _, _, _, _, _, h => by simp [blk] at h
  | f + 1, rows, i, line, cnt, l, rest, a, b, h => by
    unfold blk at h
    cases rows with
    | nil =>
      simp only at h
      split at h
      · cases h; trivial
      · cases h
    | cons x rs =>
      simp only at h
      split at h
      · exact blk_ty f _ _ _ _ _ _ _ _ h
      split at h
      · split at h
        · cases h; trivial
        · cases h
      split at h
      · cases h
      rename_i s hs
      split at h
      · cases h
      split at h
      · split at h
        · cases h
        split at h
        · cases h
        rename_i B rs' line' cnt' hB
        have h1 := blk_ty f _ _ _ _ _ _ _ _ hB
        generalize hR : blk f rs' i line' cnt' = R at h
        cases R with
        | bad k => simp [Rs.cons] at h
        | ok l2 r2 a2 b2 =>
          simp only [Rs.cons] at h
          cases h
          exact ⟨(readS_ty hs B h1).1, blk_ty f _ _ _ _ _ _ _ _ hR⟩
      · generalize hR : blk f rs i (line + 1) (cnt + 1) = R at h
        cases R with
        | bad k => simp [Rs.cons] at h
        | ok l2 r2 a2 b2 =>
          simp only [Rs.cons] at h
          cases h
          exact ⟨(readS_ty hs [] trivial).2 rfl, blk_ty f _ _ _ _ _ _ _ _ hR⟩
theorem parse_ty (t : Bs) : tyL (parseR t).1 := by
  unfold parseR
  split
  · trivial
  · rename_i l r a b hk
    exact blk_ty _ _ _ _ _ _ _ _ _ hk
theorem parse_cnt (t : Bs) : cntL (parseR t).1 ≤ 60 := by
  unfold parseR
  split
  · simp [cntL]
  · rename_i l r a b hk
    have := blk_cnt _ _ _ _ _ _ _ _ _ hk
    simp only
    omega
/-- Statements more, at a row's end. -/
theorem push_stms {V : World} {lo : Nat} {bv u : Value} {Ks : List Kst} {m : List Sm} (h : StmR V lo (fun b => b < lo) bv Ks) (hm : Sds V (fun b => b < lo) m u) (hn : Ks.length + m.length ≤ 3000000) (hlo : lo ≤ V.heap.size) :
    ∃ ao cap w' Ms, (Builtin.append_ #[23, 23] 23 #[bv, u]).run Tryz.prog V = .ok (.slice ao (Ks.length + m.length) cap) w' ∧ Ms.map Prod.fst = m ∧ StmR w' lo (fun b => b < lo) (.slice ao (Ks.length + m.length) cap) (Ks ++ Ms) ∧ Below lo V w' := by
  obtain ⟨i, hi, hz, hs, hb⟩ := info_parts info51
  obtain ⟨au, cu, rfl, hml, hat⟩ := hm
  have hsub : ∀ (w' : World) (v' : Value) (Ms : List Kst), Below lo V w' → (∀ k, v'.ownBlock = some k → lo ≤ k) → (∀ x ∈ Ms, Sd V (fun b => b < lo) x.1 x.2) → ∀ x ∈ Ks ++ Ms, Sd w' (fun b => b < lo ∧ some b ≠ v'.ownBlock) x.1 x.2 := fun w' v' Ms hbl hov hms x hx => by
    have mv : Sd V (fun b => b < lo) x.1 x.2 → Sd w' (fun b => b < lo ∧ some b ≠ v'.ownBlock) x.1 x.2 := fun h => h.move hbl.size fun b hb hlt => ⟨⟨hb, fun e => by have := hov b e.symm; omega⟩, hbl.block b hb⟩
    rcases List.mem_append.1 hx with hx | hx
    · exact mv ((h.sub x hx).mono fun b hb _ => hb.1)
    · exact mv (hms x hx)
  have some_case : ∀ (a : Addr) (Ms : List Kst), au = some a → Ms.map Prod.fst = m → (∀ j x, (kss Ms)[j]? = some x → V.cell? (a.add j) = some x) → (∀ x ∈ Ms, Sd V (fun b => b < lo) x.1 x.2) → ∃ ao cap w' Ms, (Builtin.append_ #[23, 23] 23 #[bv, .slice au m.length cu]).run Tryz.prog V = .ok (.slice ao (Ks.length + m.length) cap) w' ∧ Ms.map Prod.fst = m ∧ StmR w' lo (fun b => b < lo) (.slice ao (Ks.length + m.length) cap) (Ks ++ Ms) ∧ Below lo V w' := fun a Ms ha hMs hnews hms => by
    subst ha
    have hlen : Ms.length = m.length := by rw [← hMs]; simp
    have hone : ∀ u ∈ kss Ms, u.oneCell' = true := fun u hu => by
      obtain ⟨x, hx, hux⟩ := List.mem_flatMap.1 hu
      obtain ⟨a1, c1, a2, n2, c2, a3, n3, c3, a4, c4, hv⟩ := (hms x hx).form
      rw [hv] at hux
      simp only [List.mem_cons, List.not_mem_nil, or_false] at hux
      rcases hux with rfl | rfl | rfl | rfl | rfl | rfl | rfl | rfl | rfl | rfl <;> rfl
    obtain ⟨v', w', hr, h2, h3, _, h5⟩ := run_append_own_at (P := Tryz.prog) V lo 23 23 51 i _ 10 160 under51s hi hz hs hb rfl (by omega) bv Ks.length (kss Ks) h.own a m.length cu (kss Ms) (by rw [kss_len, hlen]) hnews hone (by unfold maxLen; omega) (by omega) hlo
    obtain ⟨ao, cap, rfl, _⟩ := own_slice h2
    have hbl : Below lo V w' := ⟨h3.os, h3.tape, h3.output, h3.size, fun k hk => h3.block k (by omega) (fun hE => by have := (h.own.lt k hE.symm).1; omega)⟩
    refine ⟨ao, cap, w', Ms, hr, hMs, ⟨?_, hsub w' _ Ms hbl (fun k hk => (h2.lt k hk).1) hms⟩, hbl⟩
    rw [List.length_append, kss_app, hlen]; exact h2
  rcases hat with rfl | ⟨b, off, rfl, hbS, hlt, hcell⟩
  · cases au with
    | none =>
      obtain ⟨ao, cap, rfl, _⟩ := own_slice h.own
      refine ⟨ao, cap, V, [], run_append_owned_none (P := Tryz.prog) V lo 23 23 51 i 10 under51s hi _ Ks.length (kss Ks) h.own, rfl, ?_, Below.refl _ _⟩
      rw [List.append_nil]
      exact h
    | some a => exact some_case a [] rfl rfl (fun j x hx => by simp [kss] at hx) (fun x hx => by cases hx)
  · have : ∀ k, ∃ v : SV, ∀ s, m[k]? = some s → V.rangeAt b (off + k * 10) (sc s v) ∧ Sd V (fun b => b < lo) s v := fun k => by
      cases hk : m[k]? with
      | none => exact ⟨⟨undef, undef, undef, undef⟩, fun s hs => by cases hs⟩
      | some s =>
        obtain ⟨v, hv⟩ := hcell k s hk
        exact ⟨v, fun s' hs => by cases hs; exact hv⟩
    obtain ⟨vs, hvs⟩ := Classical.axiomOfChoice this
    have hget : ∀ k x, (m.zipIdx.map fun p => ((p.1, vs p.2) : Kst))[k]? = some x → m[k]? = some x.1 ∧ x.2 = vs k := fun k x hx => by
      rw [List.getElem?_map, List.getElem?_zipIdx] at hx
      cases hk : m[k]? with
      | none => rw [hk] at hx; simp at hx
      | some s => rw [hk] at hx; simp at hx; rw [← hx]; exact ⟨rfl, rfl⟩
    refine some_case ⟨b, off, none⟩ (m.zipIdx.map fun p => ((p.1, vs p.2) : Kst)) rfl ?_ ?_ ?_
    · rw [List.map_map]
      have : (Prod.fst ∘ fun p : Sm × Nat => ((p.1, vs p.2) : Kst)) = Prod.fst := rfl
      rw [this, List.zipIdx_map_fst]
    · intro j x hx
      have hadd : (⟨b, off, none⟩ : Addr).add j = ⟨b, off + j, none⟩ := by unfold Addr.add; split <;> simp_all
      rw [hadd]
      have hj := (List.getElem?_eq_some_iff.1 hx).1
      rw [kss_len] at hj
      have hq : j / 10 < (m.zipIdx.map fun p => ((p.1, vs p.2) : Kst)).length := by omega
      have hgx := List.getElem?_eq_getElem hq
      obtain ⟨g1, g2⟩ := hget _ _ hgx
      have hjj : j = j / 10 * 10 + j % 10 := by omega
      have h10 : j % 10 < 10 := by omega
      rw [hjj, kss_get _ (j / 10) (j % 10) _ hgx h10, g2] at hx
      have := (hvs (j / 10) _ g1).1 (j % 10) x hx
      rw [show off + j = off + j / 10 * 10 + j % 10 by omega]
      exact this
    · intro x hx
      obtain ⟨k, hk⟩ := List.mem_iff_getElem?.1 hx
      obtain ⟨g1, g2⟩ := hget k x hk
      rw [g2]
      exact (hvs k _ g1).2
end Go.Proofs.YtjppcfjjpkniaaaGreatDoor
