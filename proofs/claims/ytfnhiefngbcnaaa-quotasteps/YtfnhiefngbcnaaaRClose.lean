/- imagoref10.Book's Close: its contract; no statement is proved in this text. -/
import Derived.Test.YtfnhiefngbcnaaaRFree
namespace Go.Proofs.Ytfnhiefngbcnaaa
open Go.ChangeShapes Go.WideShapes Go.ChangeAt Go.RowKit Go.Deep

theorem info42x : (Try.prog.info? 42).map (fun i => (i.zero, i.size, i.bytes)) = some (some (.agg #[i64 0, i64 0, i64 0, i64 0, i64 0, i64 0, i64 0]), 7, 56) := by kernel_rfl
theorem under31 : Try.prog.underlying 31 = some (.slice 42) := by kernel_rfl
theorem wpList_app_run {P : Program} {w : World} {ops : Array Oper} {rest : List Oper} {o : Oper} {a : Act} {Q : Exit → Act → World → Prop} (hgd : o.guard = none) (s x : Operand) (t : TypeId)
    (ho : o.op = .call { callee := .builtin .append, args := #[s, x], argTypes := #[t, t] }) (v1 v2 : Value) (hs : a.eval s = v1) (hx : a.eval x = v2) (ty : TypeId) (hty : o.type = ty) (r : Value) (w' : World)
    (hr : (Builtin.append_ #[t, t] ty #[v1, v2]).run P w = .ok r w') (h : wpList P ops Q rest (a.put o.dst r) w') : wpList P ops Q (o :: rest) a w :=
  wpList_plain hgd fun _ hK => by
    unfold Oper.wp execOp
    simp only [ho, resolve, invoke, builtin, Sem.run_bind, Sem.run_pure, Result.andThen_ok, List.map_toArray, List.map_cons, List.map_nil, hs, hx, hty, hr]
    exact hK _ _ h
theorem rapp {V : World} {base : Nat} {v : Value} {L1 : List Pr} (ho : V.ownsRow base 42 7 v L1.length (pcells L1)) (L2 : List Pr) (ad : Addr) (c : Nat) (hnews : ∀ j u, (pcells L2)[j]? = some u → V.cell? (ad.add j) = some u) (hl : L1.length + L2.length ≤ 4) (hB : base ≤ V.heap.size) :
    ∃ v' w', (Builtin.append_ #[31, 31] 31 #[v, .slice (some ad) L2.length c]).run Try.prog V = .ok v' w' ∧ w'.ownsRow base 42 7 v' (L1 ++ L2).length (pcells (L1 ++ L2)) ∧ Fr base [42] V w' ∧ (v.ownBlock = none → Below V.heap.size V w') := by
  obtain ⟨i, hi, hz, hs, hby⟩ := info_parts info42x
  obtain ⟨v', w', hr, h2, h3, _, _⟩ := run_append_own_at (P := Try.prog) V base 31 31 42 i (.agg #[i64 0, i64 0, i64 0, i64 0, i64 0, i64 0, i64 0]) 7 56 under31 hi hz hs hby rfl (by omega) v L1.length (pcells L1) ho ad L2.length c (pcells L2) (pcells_len L2) hnews (pcells_one L2) (by unfold maxLen; omega) (by omega) hB
  rw [← pcells_app, ← List.length_append] at h2
  refine ⟨v', w', hr, h2, ⟨⟨h3.os, h3.tape, h3.output, h3.size, fun k hk => h3.block k (by omega) (fun e => by have := (ho.lt k e.symm).1; omega)⟩, fun k o hk hko => ?_⟩, fun hn => ⟨h3.os, h3.tape, h3.output, h3.size, fun k hk => h3.block k hk (by rw [hn]; simp)⟩⟩
  rw [h3.block k (blk_lt hk) (fun e => ?_)]
  · exact hk
  · rcases ho.2 with ⟨rfl, _⟩ | ⟨g, cap, cur, rfl, _, hgg, _⟩
    · simp [Value.ownBlock] at e
    · simp [Value.ownBlock] at e
      subst e
      rw [hgg] at hk
      cases hk
      simp [keeps] at hko
theorem pcells_pre (L : List Pr) (k : Nat) : ∀ (j : Nat) u, (pcells (L.take k))[j]? = some u → (pcells L)[j]? = some u := fun j u hu => by
  have : pcells L = pcells (L.take k) ++ pcells (L.drop k) := by rw [← pcells_app, List.take_append_drop]
  rw [this, List.getElem?_append_left (List.getElem?_eq_some_iff.1 hu).1]
  exact hu
theorem pcells_suf (L : List Pr) (k : Nat) (hk : k ≤ L.length) : ∀ (j : Nat) u, (pcells (L.drop k))[j]? = some u → (pcells L)[k * 7 + j]? = some u := fun j u hu => by
  have : pcells L = pcells (L.take k) ++ pcells (L.drop k) := by rw [← pcells_app, List.take_append_drop]
  have hl : (pcells (L.take k)).length = k * 7 := by rw [pcells_len, List.length_take, Nat.min_eq_left hk]
  rw [this, List.getElem?_append_right (by omega), hl, Nat.add_sub_cancel_left]
  exact hu
set_option maxRecDepth 100000 in
theorem rclose_none {w : World} {base r : Nat} {t : T} {L : List Pr} (h : Rb w base r t L) (hl : L.length ≤ 3) (env : Int) (hi : idx L env = -1) :
    Calls Try.prog 24 #[.pointer (some ⟨r, 0, none⟩), i64 env] w fun e w' => e = .returned (i64 6) ∧ Below w.heap.size w w' := by
  have HR : Hid (Rb w base r t L) := h
  have HI : Hid (idx L env = -1) := hi
  have HLL : Hid (L.length ≤ 3) := hl
  clear h hi hl
  go_enter Try.func24, Try.ntmps24
  go_wp2_with fail
  refine (rat_ok HR.out HLL.out env).mono ?_
  rintro e w1 ⟨rfl, hb1⟩
  rw [HI.out]
  have HB1 : Hid (Below w.heap.size w w1) := hb1
  clear hb1
  go_wp2_with fail
  go_ret
  exact ⟨rfl, HB1.out⟩
set_option maxRecDepth 100000 in
set_option maxHeartbeats 2000000 in
theorem rclose_in {w : World} {base r : Nat} {t : T} {L : List Pr} (h : Rb w base r t L) (hl : L.length ≤ 3) (env : Int) (k : Nat) (p : Pr) (hp : L[k]? = some p) (hi : idx L env = k) :
    Calls Try.prog 24 #[.pointer (some ⟨r, 0, none⟩), i64 env] w fun e w' => e = .returned (i64 0) ∧ Rb w' base r t (L.take k ++ L.drop (k + 1)) ∧ Fr base [33, 42] w w' := by
  have HR : Hid (Rb w base r t L) := h
  have HP : Hid (L[k]? = some p) := hp
  have HI : Hid (idx L env = k) := hi
  have HLL : Hid (L.length ≤ 3) := hl
  have hkL : k < L.length := (List.getElem?_eq_some_iff.1 hp).1
  have hlo : base ≤ w.heap.size := by have := h.lt; have := h.lo; omega
  have hrl := h.lt
  clear h hi hp
  go_enter Try.func24, Try.ntmps24
  go_wp2_with fail
  refine (rat_ok HR.out HLL.out env).mono ?_
  rintro e w1 ⟨rfl, hb1⟩
  rw [HI.out]
  obtain ⟨ao, cap, hbk, hown, hrow⟩ := (HR.out.below hb1).row
  obtain ⟨g, rfl, hbg, hgl, hgr, _, _⟩ := hrow k p HP.out
  have hcap : L.length ≤ cap := by
    rcases hown.2 with ⟨h', _⟩ | ⟨g', cap', cur, h', _, _, hnc, _⟩
    · simp at h'
    · simp only [Value.slice.injEq] at h'
      rw [h'.2.2]; exact hnc
  have hs1 := hb1.size
  have hadd : ∀ o j, (⟨g, o, none⟩ : Addr).add j = ⟨g, o + j, none⟩ := fun o j => Addr.add_mid g o j
  have hcells : ∀ (j : Nat) u, (pcells L)[j]? = some u → w1.cell? ⟨g, j, none⟩ = some u := fun j u hu => by
    have := hown.cells (g := g) rfl j u hu
    rw [hadd, Nat.zero_add] at this
    exact this
  obtain ⟨v2, w2, hrun1, hown2, hfr2, hbel2⟩ := rapp (V := w1) (base := base) (v := .slice none 0 0) (L1 := []) (World.ownsRow_nil w1 base 42 7) (L.take k) ⟨g, 0, none⟩ cap (fun j u hu => by rw [hadd, Nat.zero_add]; exact hcells j u (pcells_pre L k j u hu)) (by simp; omega) (by omega)
  have hb2 := hbel2 rfl
  have hs2 := hb2.size
  have hlt : (L.take k).length = k := by rw [List.length_take]; omega
  have hld : (L.drop (k + 1)).length = L.length - (k + 1) := List.length_drop
  simp only [List.nil_append] at hown2
  obtain ⟨o2, c2, hsl⟩ : ∃ o2 c2, (cap = k + 1 ∧ o2 = 0 ∧ c2 = 0) ∨ (¬ cap = k + 1 ∧ o2 = (k + 1) * 7 ∧ c2 = cap - (k + 1)) := by
    by_cases hc : cap = k + 1
    · exact ⟨0, 0, Or.inl ⟨hc, rfl, rfl⟩⟩
    · exact ⟨_, _, Or.inr ⟨hc, rfl, rfl⟩⟩
  obtain ⟨v3, w3, hrun2, hown3, hfr3, _⟩ := rapp hown2 (L.drop (k + 1)) ⟨g, o2, none⟩ c2 (fun j u hu => by
    rcases hsl with ⟨hc, rfl, _⟩ | ⟨_, rfl, _⟩
    · rw [List.drop_eq_nil_of_le (by omega)] at hu
      simp [pcells] at hu
    · rw [hadd, hb2.cell (by exact hgl)]; exact hcells _ u (pcells_suf L (k + 1) (by omega) j u hu)) (by rw [hlt, hld]; omega) (by omega)
  obtain ⟨ao3, cap3, rfl, _⟩ := own_slice hown3
  rw [hlt] at hrun1
  rw [hld] at hrun2
  obtain ⟨M, hM⟩ : ∃ M, (L.take k ++ L.drop (k + 1)).length = M := ⟨_, rfl⟩
  rw [hM] at hrun2
  have hown4 : w3.ownsRow base 42 7 (.slice ao3 M cap3) (L.take k ++ L.drop (k + 1)).length (pcells (L.take k ++ L.drop (k + 1))) := by rw [← hM]; exact hown3
  have hbk3 : w3.heap[r]? = some (.cells #[i64 t.a, i64 t.b, i64 t.c, .slice (some ⟨g, 0, none⟩) L.length cap] 33) := hfr3.kept _ _ (blk_below hbk hb2) (by rfl)
  have b1 : w1.cell? ⟨r, 3, none⟩ = some (.slice (some ⟨g, 0, none⟩) L.length cap) := blk_cell hbk 3
  have b2 : w2.cell? ⟨r, 3, none⟩ = some (.slice (some ⟨g, 0, none⟩) L.length cap) := blk_cell (blk_below hbk hb2) 3
  have b3 : w3.cell? ⟨r, 3, none⟩ = some (.slice (some ⟨g, 0, none⟩) L.length cap) := blk_cell hbk3 3
  have f3 : w3.frozen? ⟨r, 3, none⟩ = false := blk_frozen hbk3 3
  have HR1 : Hid ((Builtin.append_ #[31, 31] 31 #[.slice none 0 0, .slice (some ⟨g, 0, none⟩) k cap]).run Try.prog w1 = .ok v2 w2) := hrun1
  have HR2 : Hid ((Builtin.append_ #[31, 31] 31 #[v2, .slice (some ⟨g, o2, none⟩) (L.length - (k + 1)) c2]).run Try.prog w2 = .ok (.slice ao3 M cap3) w3) := hrun2
  have HO3 : Hid (w3.ownsRow base 42 7 (.slice ao3 M cap3) (L.take k ++ L.drop (k + 1)).length (pcells (L.take k ++ L.drop (k + 1)))) := hown4
  have HBK3 : Hid (w3.heap[r]? = some (.cells #[i64 t.a, i64 t.b, i64 t.c, .slice (some ⟨g, 0, none⟩) L.length cap] 33)) := hbk3
  have HF3 : Hid (Fr base [33, 42] w w3) := ((Fr.of_below [33, 42] hb1 hlo).trans (Fr.of_below [33, 42] hb2 (by omega))).trans (hfr3.mono (fun o ho => by
    cases o with
    | cells C t fr => simp [keeps] at ho ⊢; exact ho.2
    | _ => rfl))
  have hcI : ((k : Int) + 1 ≤ cap) := by omega
  have hNI : ((k : Int) + 1 ≤ L.length) := by omega
  have hNc : ((L.length : Int) ≤ cap) := by omega
  have h3I : ((L.length : Int) ≤ 3) := by omega
  clear hb1 hbk hown hrow hcells hrun1 hown2 hfr2 hbel2 hb2 hrun2 hown3 hown4 hM hfr3 hbk3 hadd hlt hld
  generalize L.length = N at *
  rcases hsl with ⟨hc, rfl, rfl⟩ | ⟨hc, rfl, rfl⟩
  all_goals
    go_wp2_with (at_builtin; first | refine wpList_app_run rfl (.tmp 12) (.tmp 18) 31 rfl _ _ rfl rfl 31 rfl _ _ HR1.out ?_ | refine wpList_app_run rfl (.tmp 20) (.tmp 27) 31 rfl _ _ rfl rfl 31 rfl _ _ HR2.out ?_)
    go_ret
    exact ⟨rfl, ⟨HR.out.lo, _, heap_setCell_same w3 r 3 _ 33 _ HBK3.out, own_keep HO3.out (fun k' C hC => by rw [heap_setCell_other _ _ _ _ (fun e => by have hC' := hC; rw [show k' = r from e, HBK3.out] at hC'; simp at hC')]; exact hC)⟩, HF3.out.trans (Fr.of_touch ((Touch.refl r w3).setCell rfl _) HBK3.out (by rfl) HR.out.lo)⟩
end Go.Proofs.Ytfnhiefngbcnaaa
