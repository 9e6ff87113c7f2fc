/- imagoref15's Field and imagoref16's At: their contracts; no statement is proved in this text. -/
import Derived.BigQuiet
import Derived.Test.YtgiemijhndanjaaDoorAt
import Derived.Test.YtgiemijhndanjaaDoorDg
import Derived.Test.YtgiemijhndanjaaDoorKd
namespace Go.Proofs.YtgiemijhndanjaaDoor
open Go.ChangeShapes Go.WideShapes Go.ChangeAt Go.RowKit Go.Deep
attribute [local go_sem ↓] Go.wp_at_zero Go.wp_at_succ

theorem idx_hit (l : List Bs) (x : Bs) (i : Nat) (h : i < l.length) (hx : l[i] = x) (hne : ∀ m (_h1 : m < i) (h2 : m < l.length), l[m] ≠ x) : Lib.idxOfS (l.map ba) (ba x) = i := by
  have := Lib.idxOfS_hit (l.map ba) l.length i (ba x) h (by simp) (by
      rw [List.getD_eq_getElem?_getD, List.getElem?_map, List.getElem?_eq_getElem h, hx]
      rfl) (fun j hj => by
      rw [List.getD_eq_getElem?_getD, List.getElem?_map, List.getElem?_eq_getElem (by omega)]
      intro e
      exact hne j hj (by omega) (ba_inj e))
  rw [List.take_of_length_le (by simp)] at this
  exact this
theorem idx_miss (l : List Bs) (x : Bs) (hne : ∀ m (h2 : m < l.length), l[m] ≠ x) : Lib.idxOfS (l.map ba) (ba x) = -1 := by
  have := Lib.idxOfS_miss (l.map ba) l.length (ba x) (fun j hj => by
      rw [List.getD_eq_getElem?_getD, List.getElem?_map, List.getElem?_eq_getElem hj]
      intro e
      exact hne j hj (ba_inj e))
  rw [List.take_of_length_le (by simp)] at this
  exact this
set_option maxRecDepth 100000 in
set_option maxHeartbeats 3200000 in
theorem rfield_in (k n : Int) (names : List Bs) (kids : List Ty) (x : Bs) (w : World) (S : Nat → Prop) (nv kv : Value) (hR : Rd w S (.mk k n names kids) nv kv) : Calls Tryd.prog 45 #[tyV k n nv kv, str x] w fun e w' => e = .returned (i64 (fieldF (.mk k n names kids) x)) ∧ Below w.heap.size w w' := by
  obtain ⟨ANS, hA⟩ : ∃ ANS, ANS = fieldF (.mk k n names kids) x := ⟨_, rfl⟩
  have HA : Hid (ANS = if k = 4 then Lib.idxOfS (names.map ba) (ba x) else -1) := hA
  rw [← hA]
  clear hA
  have HRd : Hid (Rd w S (.mk k n names kids) nv kv) := hR
  obtain ⟨⟨an, cn, rfl, hnl, hz1, hz2⟩, hkl, ak, ck, rfl, hz3⟩ := hR.kid
  clear hz1 hz2 hz3
  unfold maxLen at hnl hkl
  have HX : Hid ((w.alloc (.cells #[i64 k, i64 n, .slice an names.length cn, .slice ak kids.length ck] 37)).heap[w.heap.size]? = some (.cells #[i64 k, i64 n, .slice an names.length cn, .slice ak kids.length ck] 37)) := heap_last w _
  have HBV : Hid (Below w.heap.size w (w.alloc (.cells #[i64 k, i64 n, .slice an names.length cn, .slice ak kids.length ck] 37))) := below_one w _
  clear hR 
  go_enter Tryd.func45, Tryd.ntmps45
  go_upto_region 1 with fail
  obtain ⟨Z, hZ⟩ : ∃ Z, Z = w.heap.size := ⟨_, rfl⟩
  rw [← hZ] at HX ⊢
  generalize w.alloc (.cells #[i64 k, i64 n, .slice an names.length cn, .slice ak kids.length ck] 37) = V at *
  have y0 : V.cell? ⟨Z, 0, none⟩ = some (i64 k) := blk_cell HX.out 0
  have y1 : V.cell? ⟨Z, 1, none⟩ = some (i64 n) := blk_cell HX.out 1
  have y2 : V.cell? ⟨Z, 2, none⟩ = some (.slice an names.length cn) := blk_cell HX.out 2
  have y3 : V.cell? ⟨Z, 3, none⟩ = some (.slice ak kids.length ck) := blk_cell HX.out 3
  have hZV : Z < V.heap.size := blk_lt HX.out
  have HZ := hid hZ
  clear hZ
  go_wp2_with fail
  go_loopw [10] (fun u wr => ∃ (i : Nat), i ≤ names.length ∧ u = i64 i ∧ Hid (k = 4 → ∀ m (h1 : m < i) (h2 : m < names.length), names[m] ≠ x) ∧ Hid (wr.heap[Z]? = some (.cells #[i64 k, i64 n, .slice an names.length cn, .slice ak kids.length ck] 37)) ∧ Hid (Below w.heap.size w wr)) (fun u _ => names.length - (intOf u).toNat)
  case atStart => exact ⟨0, by omega, rfl, by intro _ m h1; omega, HX, HBV⟩
  case round =>
    obtain ⟨i, hi, rfl, HN, HXr, HB⟩ := hrel
    clear y0 y1 y2 y3 hZV
    by_cases hlt : i < names.length
    · obtain ⟨ao1, cp1, he1, hat1⟩ := (HRd.out.under HB.out).kid.1.at
      cases he1
      obtain ⟨b1, o1, rfl, hb1, cA⟩ := hat1 i hlt
      obtain ⟨y, hy⟩ : ∃ y, y = names[i] := ⟨_, rfl⟩
      rw [← hy] at cA
      have z0 : wr.cell? ⟨Z, 0, none⟩ = some (i64 k) := blk_cell HXr.out 0
      have HYe := hid hy
      clear hy hat1
      by_cases hk : k = 4
      · have e1 : (k == 4) = true := by simpa using hk
        by_cases hxy : y = x
        · have q2 : (y == x) = true := by simpa using hxy
          have HF : Hid (ANS = i) := by show _ = _; rw [HA.out, if_pos hk]; exact idx_hit names x i hlt (by rw [← HYe.out]; exact hxy) (HN.out hk)
          have HK := hid hk
          clear hk hxy
          go_wp2_with fail
          go_ret
          exact ⟨by rw [HF.out]; rfl, HB.out⟩
        · have q2 : (y == x) = false := by simpa using hxy
          have HN2 : Hid (k = 4 → ∀ m (h1 : m < i + 1) (h2 : m < names.length), names[m] ≠ x) := by
            intro h4 m h1 h2
            by_cases e : m = i
            · subst e; rw [← HYe.out]; exact hxy
            · exact HN.out h4 m (by omega) h2
          have HK := hid hk
          clear hk hxy
          go_wp2_with fail
          exact ⟨⟨i + 1, by omega, by go_num, HN2, HXr, HB⟩, by simp [intOf]; omega⟩
      · have e1 : (k == 4) = false := by simpa using hk
        have HN2 : Hid (k = 4 → ∀ m (h1 : m < i + 1) (h2 : m < names.length), names[m] ≠ x) := fun h4 => absurd h4 hk
        have HK := hid hk
        clear hk
        go_wp2_with fail
        exact ⟨⟨i + 1, by omega, by go_num, HN2, HXr, HB⟩, by simp [intOf]; omega⟩
    · have HF : Hid (ANS = -1) := by
        show _ = _
        rw [HA.out]
        by_cases hk : k = 4
        · rw [if_pos hk]; exact idx_miss names x (fun m h2 => HN.out hk m (by omega) h2)
        · rw [if_neg hk]
      go_wp2_with fail
      go_ret
      exact ⟨by rw [HF.out]; rfl, HB.out⟩
theorem rfield_ok (T : Ty) (x : Bs) (w : World) (S : Nat → Prop) (nv kv : Value) (hR : Rd w S T nv kv) : Calls Tryd.prog 45 #[tyV T.kind T.num nv kv, str x] w fun e w' => e = .returned (i64 (fieldF T x)) ∧ Below w.heap.size w w' := by
  obtain ⟨k, n, names, kids⟩ := T
  exact rfield_in k n names kids x w S nv kv hR
theorem exec_slice {P : Program} {op : Oper} {a : Act} {w : World} {u v : Value} (ty : TypeId) (x : Operand) (lo hi : Option Operand) (vl vh : Option Value) (ho : op.op = .slice ty x lo hi none) (hx : a.eval x = v) (hl : lo.map a.eval = vl) (hh : hi.map a.eval = vh)
    (h : (Instr.sliceAt ty v vl vh none).run P w = .ok u w) : (execOp a.eval op).run P w = .ok (.value u) w := by
  unfold execOp
  simp only [ho, hx, hl, hh, Option.map_none, Sem.run_bind, Sem.run_pure, Result.andThen_ok, h]
theorem strs_tail {w : World} {S : Nat → Prop} {v : Value} {x : Bs} {r : List Bs} (h : Strs w S v (x :: r)) : ∃ v', (∀ W, (Instr.sliceAt 25 v (some (i64 1)) none none).run Tryd.prog W = .ok v' W) ∧ Strs w S v' r := by
  obtain ⟨ao, cap, rfl, hm, ⟨hc, hx⟩, hz⟩ := h
  have hs : ∀ w, (Go.sizeOf 9).run Tryd.prog w = .ok 1 w := fun w => by kernel_rfl
  have hl : (x :: r).length = r.length + 1 := rfl
  rw [hl] at hc hm ⊢
  refine ⟨.slice (if cap = 1 then ao else ao.map (·.add (1 * 1))) (r.length + 1 - 1) (cap - 1), fun W => ?_, ?_⟩
  · simp only [Instr.sliceAt, Instr.slice, run_underlying Tryd.underlying25, Instr.sliceBounds, Instr.sliceBound, asIntOf, Sem.run_bind, Sem.run_pure, Result.andThen_ok, hs]
    rw [if_pos ⟨by omega, by omega⟩]
    simp only [Sem.run_pure, Result.andThen_ok]
    rfl
  · refine ⟨_, cap - 1, rfl, by omega, ⟨by omega, fun y hy => hx y (by simp [hy])⟩, ?_⟩
    by_cases h1 : cap = 1
    · exact .inl (List.eq_nil_of_length_eq_zero (by omega))
    · rw [if_neg h1]
      rcases hz with hz | ⟨b, off, rfl, hS, hb, hcell⟩
      · cases hz
      · refine .inr ⟨b, off + 1, ?_, hS, hb, fun i y hy => ?_⟩
        · rw [Option.map_some, Addr.add_mid]
        · have := hcell (i + 1) y (by simpa using hy)
          rw [show off + 1 + i = off + (i + 1) by omega]
          exact this
/-- The number of digits. -/
def valDg (l : Bs) : Nat := l.foldl (fun a c => a * 10 + (c.toNat - 48)) 0
theorem valDg_dec (n : Nat) : valDg (Lib.decDigits n) = n := by
  induction n using Nat.strongRecOn with
  | _ n ih =>
    rw [Lib.decDigits]
    by_cases h : n < 10
    · rw [dif_pos h]
      have : (UInt8.ofNat (48 + n)).toNat = 48 + n := by rw [UInt8.toNat_ofNat']; omega
      simp only [valDg, List.foldl_cons, List.foldl_nil, this]
      omega
    · rw [dif_neg h]
      have e := ih (n / 10) (by omega)
      have : (UInt8.ofNat (48 + n % 10)).toNat = 48 + n % 10 := by rw [UInt8.toNat_ofNat']; omega
      unfold valDg at e ⊢
      rw [List.foldl_append, e]
      simp only [List.foldl_cons, List.foldl_nil, this]
      omega
theorem dec_inj {a b : Nat} (h : Lib.decDigits a = Lib.decDigits b) : a = b := by
  have := congrArg valDg h
  rw [valDg_dec, valDg_dec] at this
  exact this
theorem itoa_dec (i : Nat) : Lib.itoa (i : Int) = Lib.decDigits i := by unfold Lib.itoa; rw [if_neg (by omega)]; rfl
theorem idxFrom_hit (x : Bs) (j : Nat) (hx : Lib.decDigits j = x) : ∀ (f i : Nat), i ≤ j → j < i + f → idxFrom x f i = j
  | 0, i, h1, h2 => by omega
  | f + 1, i, h1, h2 => by
    unfold idxFrom
    rw [itoa_dec]
    by_cases e : i = j
    · subst e; rw [if_pos hx]
    · rw [if_neg (fun h => e (dec_inj (h.trans hx.symm)))]
      exact idxFrom_hit x j hx f (i + 1) (by omega) (by omega)
theorem idxFrom_miss (x : Bs) : ∀ (f i : Nat), (∀ j, i ≤ j → j < i + f → Lib.decDigits j ≠ x) → idxFrom x f i = -1
  | 0, i, _ => rfl
  | f + 1, i, h => by
    unfold idxFrom
    rw [itoa_dec, if_neg (h i (Nat.le_refl _) (by omega))]
    exact idxFrom_miss x f (i + 1) (fun j h1 h2 => h j (by omega) (by omega))
abbrev zO5 : Obj := .cells #[i64 0, i64 0, .string ⟨#[]⟩, .slice none 0 0, i64 0] 57
theorem set5 {V : World} {b : Nat} {x0 x1 x2 x3 x4 : Value} {t : TypeId} (h : V.heap[b]? = some (.cells #[x0, x1, x2, x3, x4] t)) (a0 a1 a2 a3 a4 : Value) : (((((V.setCell ⟨b, 0, none⟩ a0).setCell ⟨b, 1, none⟩ a1).setCell ⟨b, 2, none⟩ a2).setCell ⟨b, 3, none⟩ a3).setCell ⟨b, 4, none⟩ a4).heap[b]? = some (.cells #[a0, a1, a2, a3, a4] t) := by
  have h0 := heap_setCell_same V b 0 _ t a0 h
  have h1 := heap_setCell_same _ b 1 _ t a1 h0
  have h2 := heap_setCell_same _ b 2 _ t a2 h1
  have h3 := heap_setCell_same _ b 3 _ t a3 h2
  have h4 := heap_setCell_same _ b 4 _ t a4 h3
  simpa using h4
theorem bset5 {w W : World} {lo R : Nat} (h : Below lo w W) (hR : lo ≤ R) (a0 a1 a2 a3 a4 : Value) : Below lo w (((((W.setCell ⟨R, 0, none⟩ a0).setCell ⟨R, 1, none⟩ a1).setCell ⟨R, 2, none⟩ a2).setCell ⟨R, 3, none⟩ a3).setCell ⟨R, 4, none⟩ a4) :=
  (bset4 h hR a0 a1 a2 a3).setCell hR _
theorem oset5 {W : World} {R b : Nat} (hb : b ≠ R) (a0 a1 a2 a3 a4 : Value) : (((((W.setCell ⟨R, 0, none⟩ a0).setCell ⟨R, 1, none⟩ a1).setCell ⟨R, 2, none⟩ a2).setCell ⟨R, 3, none⟩ a3).setCell ⟨R, 4, none⟩ a4).heap[b]? = W.heap[b]? := by
  rw [Below.heap_setCell _ _ _ _ hb, Below.heap_setCell _ _ _ _ hb, Below.heap_setCell _ _ _ _ hb, Below.heap_setCell _ _ _ _ hb, Below.heap_setCell _ _ _ _ hb]
theorem load57 {W : World} {b : Nat} {a0 a1 a2 a3 a4 : Value} (h : W.heap[b]? = some (.cells #[a0, a1, a2, a3, a4] 57)) : (loadVar 57 ⟨b, 0, none⟩).run Tryd.prog W = .ok (.agg #[a0, a1, a2, a3, a4]) W := by
  refine run_loadVar_mid _ _ 0 57 [a0, a1, a2, a3, a4] _ (fun j v hv => ?_) Tryd.underlying57 rfl (by kernel_rfl)
  rw [Nat.zero_add, cell_of_row _ _ _ _ 57 (0, 0) h]
  simpa using hv
theorem load37b {W : World} {b : Nat} {k n : Int} {s kv : Value} (h : W.heap[b]? = some (.cells #[i64 k, i64 n, s, kv] 37)) : (loadVar 37 ⟨b, 0, none⟩).run Tryd.prog W = .ok (.agg #[i64 k, i64 n, s, kv]) W := by
  refine run_loadVar_mid _ _ 0 37 [i64 k, i64 n, s, kv] _ (fun j v hv => ?_) Tryd.underlying37 rfl (by kernel_rfl)
  rw [Nat.zero_add, cell_of_row _ _ _ _ 37 (0, 0) h]
  simpa using hv
theorem load33r {W : World} {b o : Nat} {l : List Value} (hl : l.length = 4) (h : W.rangeAt b o l) : (loadVar 33 ⟨b, o, none⟩).run Tryd.prog W = .ok (.agg l.toArray) W :=
  run_loadVar_mid _ _ o 33 l _ h Tryd.underlying33 rfl (by rw [hl]; kernel_rfl)
/-- What the document's At answers. -/
def GotOk (w : World) (S0 : Nat → Prop) (ro : Option Vl) (e : Ending) (w' : World) : Prop := Below w.heap.size w w' ∧ ((ro = none ∧ e = .returned (.agg #[i64 0, i64 0, .string ⟨#[]⟩, .slice none 0 0, i64 6])) ∨ ∃ U a c, ro = some U ∧ e = .returned (.agg #[i64 U.kind, i64 U.num, str U.s, .slice a U.kids.length c, i64 0]) ∧ Vd w' S0 U (.slice a U.kids.length c))
structure Sr (Z Y b o : Nat) (oz oy : Obj) (l : List Value) (W : World) : Prop where
  z : W.heap[Z]? = some oz
  y : W.heap[Y]? = some oy
  r : W.rangeAt b o l
  bl : b < W.heap.size
theorem Sr.under {Z Y b o : Nat} {oz oy : Obj} {l : List Value} {W W' : World} (h : Sr Z Y b o oz oy l W) (hb : Below W.heap.size W W') : Sr Z Y b o oz oy l W' := ⟨blk_below h.z hb, blk_below h.y hb, range_keep h.r (hb.block b h.bl), Nat.lt_of_lt_of_le h.bl hb.size⟩
set_option maxRecDepth 100000 in
set_option maxHeartbeats 12800000 in
theorem rat_nil (V : Vl) (T : Ty) (lo : Nat) (S0 : Nat → Prop) (hS0 : ∀ b, S0 b → b < lo) (w : World) (kv nv tv wv : Value) (hlo : lo ≤ w.heap.size) (hV : Vd w S0 V kv) (hR : Rd w (fun _ => True) T nv tv) (hw : Strs w (fun _ => True) wv []) : Calls Tryd.prog 27 #[vlV V kv, tyV T.kind T.num nv tv, wv] w (GotOk w S0 (some V)) := by
  have HLo := hid hlo
  have HS0 := hid hS0
  clear hS0
  have HVd := hid hV
  have HRd := hid hR
  have HWy := hid hw
  have hul := hV.lens.2
  unfold maxLen at hul
  obtain ⟨ak, ck, rfl⟩ := hV.form
  obtain ⟨an, cn, rfl, at_, ct, rfl⟩ := hR.form
  have HX : Hid ((((w.alloc (.cells #[i64 V.kind, i64 V.num, str V.s, .slice ak V.kids.length ck] 33)).alloc (.cells #[i64 T.kind, i64 T.num, .slice an T.names.length cn, .slice at_ T.kids.length ct] 37)).alloc zO5).heap[w.heap.size]? = some (.cells #[i64 V.kind, i64 V.num, str V.s, .slice ak V.kids.length ck] 33)) := blk_alloc (blk_alloc (heap_last w _) _) _
  have HY : Hid ((((w.alloc (.cells #[i64 V.kind, i64 V.num, str V.s, .slice ak V.kids.length ck] 33)).alloc (.cells #[i64 T.kind, i64 T.num, .slice an T.names.length cn, .slice at_ T.kids.length ct] 37)).alloc zO5).heap[w.heap.size + 1]? = some (.cells #[i64 T.kind, i64 T.num, .slice an T.names.length cn, .slice at_ T.kids.length ct] 37)) := blk_alloc (heap_at3 _ _ _ (by simp)) _
  have HR0 : Hid ((((w.alloc (.cells #[i64 V.kind, i64 V.num, str V.s, .slice ak V.kids.length ck] 33)).alloc (.cells #[i64 T.kind, i64 T.num, .slice an T.names.length cn, .slice at_ T.kids.length ct] 37)).alloc zO5).heap[w.heap.size + 2]? = some zO5) := heap_at3 _ _ _ (by simp)
  have HBV : Hid (Below w.heap.size w (((w.alloc (.cells #[i64 V.kind, i64 V.num, str V.s, .slice ak V.kids.length ck] 33)).alloc (.cells #[i64 T.kind, i64 T.num, .slice an T.names.length cn, .slice at_ T.kids.length ct] 37)).alloc zO5)) := ((below_one w _).trans ((below_one _ _).mono (by simp))).trans ((below_one _ _).mono (by simp; omega))
  obtain ⟨aw, cw, rfl, _, _, _⟩ := hw
  clear hV hR
  go_enter Tryd.func27, Tryd.ntmps27
  go_upto_region 1 with fail
  obtain ⟨Z, hZ⟩ : ∃ Z, Z = w.heap.size := ⟨_, rfl⟩
  obtain ⟨Y, hY⟩ : ∃ Y, Y = w.heap.size + 1 := ⟨_, rfl⟩
  obtain ⟨R, hR⟩ : ∃ R, R = w.heap.size + 2 := ⟨_, rfl⟩
  generalize (((w.alloc (.cells #[i64 V.kind, i64 V.num, str V.s, .slice ak V.kids.length ck] 33)).alloc (.cells #[i64 T.kind, i64 T.num, .slice an T.names.length cn, .slice at_ T.kids.length ct] 37)).alloc zO5) = V0 at *
  rw [← hZ] at HX
  rw [← hY] at HY
  rw [← hR] at HR0
  try rw [show w.heap.size + 1 + 1 = w.heap.size + 2 by omega]
  rw [← hR, ← hY, ← hZ]
  have HRw : Hid (w.heap.size ≤ R) := by show _ ≤ _; omega
  clear hZ hY hR
  have zc0 : V0.cell? ⟨Z, 0, none⟩ = some (i64 V.kind) := blk_cell HX.out 0
  have zc1 : V0.cell? ⟨Z, 1, none⟩ = some (i64 V.num) := blk_cell HX.out 1
  have zc2 : V0.cell? ⟨Z, 2, none⟩ = some (str V.s) := blk_cell HX.out 2
  have zc3 : V0.cell? ⟨Z, 3, none⟩ = some (.slice ak V.kids.length ck) := blk_cell HX.out 3
  have r0 : V0.cell? ⟨R, 0, none⟩ = some (i64 0) := blk_cell HR0.out 0
  have f0 : V0.frozen? ⟨R, 0, none⟩ = false := blk_frozen HR0.out 0
  have r1 : V0.cell? ⟨R, 1, none⟩ = some (i64 0) := blk_cell HR0.out 1
  have f1 : V0.frozen? ⟨R, 1, none⟩ = false := blk_frozen HR0.out 1
  have r2 : V0.cell? ⟨R, 2, none⟩ = some (.string ⟨#[]⟩) := blk_cell HR0.out 2
  have f2 : V0.frozen? ⟨R, 2, none⟩ = false := blk_frozen HR0.out 2
  have r3 : V0.cell? ⟨R, 3, none⟩ = some (.slice none 0 0) := blk_cell HR0.out 3
  have f3 : V0.frozen? ⟨R, 3, none⟩ = false := blk_frozen HR0.out 3
  have r4 : V0.cell? ⟨R, 4, none⟩ = some (i64 0) := blk_cell HR0.out 4
  have f4 : V0.frozen? ⟨R, 4, none⟩ = false := blk_frozen HR0.out 4
  go_wp2_with fail
  refine bodyPost_ret (v := .agg #[i64 V.kind, i64 V.num, str V.s, .slice ak V.kids.length ck, i64 0]) (results_one Tryd.results27 rfl (load57 (set5 HR0.out _ _ _ _ _))) rfl ?_
  refine ⟨bset5 HBV.out HRw.out _ _ _ _ _, .inr ⟨V, ak, ck, rfl, rfl, HVd.out.move (by have := HBV.out.size; simpa [World.setCell] using this) fun b hb hlt => ⟨hb, ?_⟩⟩⟩
  rw [oset5 (by have := HRw.out; have := HLo.out; have := HS0.out b hb; omega)]
  exact HBV.out.block b hlt
set_option maxRecDepth 100000 in
set_option maxHeartbeats 25600000 in
theorem rat_cons (x : Bs) (rest : List Bs) (lo : Nat) (S0 : Nat → Prop) (hS0 : ∀ b, S0 b → b < lo)
    (hih : ∀ (V : Vl) (T : Ty) (w : World) (kv nv tv wv : Value), lo ≤ w.heap.size → Vd w S0 V kv → Rd w (fun _ => True) T nv tv → Strs w (fun _ => True) wv rest → T.formed = true → firstF V T = [] → V.size ≤ 400 → Calls Tryd.prog 27 #[vlV V kv, tyV T.kind T.num nv tv, wv] w (GotOk w S0 (atW rest V T)))
    (V : Vl) (T : Ty) (w : World) (kv nv tv wv : Value) (hlo : lo ≤ w.heap.size) (hV : Vd w S0 V kv) (hR : Rd w (fun _ => True) T nv tv) (hw : Strs w (fun _ => True) wv (x :: rest)) (hfm : T.formed = true) (hfn : firstF V T = []) (hsz : V.size ≤ 400) : Calls Tryd.prog 27 #[vlV V kv, tyV T.kind T.num nv tv, wv] w (GotOk w S0 (atW (x :: rest) V T)) := by
  have HIH := hid hih
  have HLo := hid hlo
  have HS0 := hid hS0
  clear hS0
  have HFm := hid hfm
  have HFn := hid hfn
  clear hih hlo hfm hfn
  have HVd := hid hV
  have HRd := hid hR
  have HWy := hid hw
  have hul := hV.lens.2
  unfold maxLen at hul
  obtain ⟨ak, ck, rfl⟩ := hV.form
  obtain ⟨an, cn, rfl, at_, ct, rfl⟩ := hR.form
  have HX : Hid ((((w.alloc (.cells #[i64 V.kind, i64 V.num, str V.s, .slice ak V.kids.length ck] 33)).alloc (.cells #[i64 T.kind, i64 T.num, .slice an T.names.length cn, .slice at_ T.kids.length ct] 37)).alloc zO5).heap[w.heap.size]? = some (.cells #[i64 V.kind, i64 V.num, str V.s, .slice ak V.kids.length ck] 33)) := blk_alloc (blk_alloc (heap_last w _) _) _
  have HY : Hid ((((w.alloc (.cells #[i64 V.kind, i64 V.num, str V.s, .slice ak V.kids.length ck] 33)).alloc (.cells #[i64 T.kind, i64 T.num, .slice an T.names.length cn, .slice at_ T.kids.length ct] 37)).alloc zO5).heap[w.heap.size + 1]? = some (.cells #[i64 T.kind, i64 T.num, .slice an T.names.length cn, .slice at_ T.kids.length ct] 37)) := blk_alloc (heap_at3 _ _ _ (by simp)) _
  have HR0 : Hid ((((w.alloc (.cells #[i64 V.kind, i64 V.num, str V.s, .slice ak V.kids.length ck] 33)).alloc (.cells #[i64 T.kind, i64 T.num, .slice an T.names.length cn, .slice at_ T.kids.length ct] 37)).alloc zO5).heap[w.heap.size + 2]? = some zO5) := heap_at3 _ _ _ (by simp)
  have HBV : Hid (Below w.heap.size w (((w.alloc (.cells #[i64 V.kind, i64 V.num, str V.s, .slice ak V.kids.length ck] 33)).alloc (.cells #[i64 T.kind, i64 T.num, .slice an T.names.length cn, .slice at_ T.kids.length ct] 37)).alloc zO5)) := ((below_one w _).trans ((below_one _ _).mono (by simp))).trans ((below_one _ _).mono (by simp; omega))
  obtain ⟨WV2, htl, hst⟩ := strs_tail hw
  have HTl := hid htl
  have HTl2 := hid hst
  obtain ⟨aw, cw, hwv, hsc⟩ := hw.at
  obtain ⟨wb, wo, hao, hwb, hx0⟩ := hsc 0 (by simp)
  subst hao
  have hx1 : w.cell? ⟨wb, wo, none⟩ = some (str x) := hx0
  obtain ⟨nw, hnw⟩ : ∃ nw, nw = (x :: rest).length := ⟨_, rfl⟩
  have hnw1 : 0 < nw := by rw [hnw]; simp
  have hnwI : (0 : Int) < nw := by omega
  have hnwm : nw ≤ 9223372036854775807 := by
    obtain ⟨_, _, _, hm, _⟩ := hw
    unfold maxLen at hm
    rw [hnw]
    exact hm
  rw [← hnw] at hwv
  subst hwv
  obtain ⟨ro, hro⟩ : ∃ ro, ro = atW (x :: rest) V T := ⟨_, rfl⟩
  rw [← hro]
  have HRo : Hid (ro = if placeF V T x < 0 then none else atW rest (V.kids.getD (placeF V T x).toNat (.mk 0 0 [] [])) (kidT T (placeF V T x).toNat)) := hro
  have HPR : Hid (0 ≤ placeF V T x → (placeF V T x).toNat < V.kids.length) := fun h => place_room HFm.out (first_nil HFn.out).1 h
  obtain ⟨PL, hPL⟩ : ∃ PL, PL = placeF V T x := ⟨_, rfl⟩
  rw [← hPL] at HRo HPR
  have HPl := hid hPL
  have hk400 : V.kids.length ≤ 400 := by have h2 := V.size_eq; have h3 := sizeL_len V.kids; omega
  have HX1 := hid hx1
  clear hV hR hw hro hPL htl hst hsc hx0 hnw
  go_enter Tryd.func27, Tryd.ntmps27
  go_upto_region 1 with fail
  obtain ⟨Z, hZ⟩ : ∃ Z, Z = w.heap.size := ⟨_, rfl⟩
  obtain ⟨Y, hY⟩ : ∃ Y, Y = w.heap.size + 1 := ⟨_, rfl⟩
  obtain ⟨R, hR⟩ : ∃ R, R = w.heap.size + 2 := ⟨_, rfl⟩
  generalize (((w.alloc (.cells #[i64 V.kind, i64 V.num, str V.s, .slice ak V.kids.length ck] 33)).alloc (.cells #[i64 T.kind, i64 T.num, .slice an T.names.length cn, .slice at_ T.kids.length ct] 37)).alloc zO5) = V0 at *
  rw [← hZ] at HX
  rw [← hY] at HY
  rw [← hR] at HR0
  try rw [show w.heap.size + 1 + 1 = w.heap.size + 2 by omega]
  rw [← hR, ← hY, ← hZ]
  have HRw : Hid (w.heap.size ≤ R) := by show _ ≤ _; omega
  clear hZ hY hR
  have y0 : V0.cell? ⟨Y, 0, none⟩ = some (i64 T.kind) := blk_cell HY.out 0
  have hx2 : V0.cell? ⟨wb, wo, none⟩ = some (str x) := by rw [HBV.out.cell (by exact hwb)]; exact hx1
  have hwbV : wb < V0.heap.size := Nat.lt_of_lt_of_le hwb HBV.out.size
  by_cases h4 : T.kind = 4
  · have q4 : (T.kind == 4) = true := by simpa using h4
    have q3 : (T.kind == 3) = false := by simp only [beq_eq_false_iff_ne]; omega
    have HPe : Hid (PL = fieldF T x) := by show _ = _; rw [HPl.out]; unfold placeF; rw [if_neg (by omega)]
    have HFd : Hid (Calls Tryd.prog 45 #[tyV T.kind T.num (.slice an T.names.length cn) (.slice at_ T.kids.length ct), str x] V0.drew fun e w' => e = .returned (i64 PL) ∧ Below V0.drew.heap.size V0.drew w') := by
      rw [HPe.out]
      exact rfield_ok T x V0.drew _ _ _ ((HRd.out.under HBV.out).under (below_drewN (Below.refl _ V0) 1))
    have HBd0 : Hid (Below w.heap.size w V0.drew) := below_drewN HBV.out 1
    have HSx : Hid (V0.drew.heap[Y]? = some (.cells #[i64 T.kind, i64 T.num, .slice an T.names.length cn, .slice at_ T.kids.length ct] 37) ∧ V0.drew.cell? ⟨wb, wo, none⟩ = some (str x)) := ⟨HY.out, hx2⟩
    clear h4 hx1
    go_upto_region 5 with fail
    clear y0 hx2
    refine wp_region_noPanic ?_
    refine wp_region_last (fun W => W.heap[Y]? = some (.cells #[i64 T.kind, i64 T.num, .slice an T.names.length cn, .slice at_ T.kids.length ct] 37) ∧ W.cell? ⟨wb, wo, none⟩ = some (str x)) 5 (by kernel_rfl) ?_
    refine wpL_take 0 17 (.agg #[i64 T.kind, i64 T.num, .slice an T.names.length cn, .slice at_ T.kids.length ct]) [] rfl rfl (by kernel_rfl) (by decide) (by kernel_rfl) (by kernel_rfl) (by kernel_rfl) (fun _ _ _ h => h) HSx.out (by rfl) (fun W hW => by exact exec_load 37 (.tmp 4) rfl rfl (load37b hW.1)) ?_
    simp only [Act.put, List.setIfInBounds_toArray, List.set_cons_zero, List.set_cons_succ]
    refine wpL_take 1 18 (.slice (some ⟨wb, wo, none⟩) nw cw) [] rfl rfl (by kernel_rfl) (by decide) (by kernel_rfl) (by kernel_rfl) (by kernel_rfl) (fun _ _ _ h => h) HSx.out (by rfl) (fun W hW => by go_simp) ?_
    simp only [Act.put, List.setIfInBounds_toArray, List.set_cons_zero, List.set_cons_succ]
    refine wpL_take 2 19 (.pointer (some ⟨wb, wo, none⟩)) [] rfl rfl (by kernel_rfl) (by decide) (by kernel_rfl) (by kernel_rfl) (by kernel_rfl) (fun _ _ _ h => h) HSx.out (by rfl) (fun W hW => by go_simp) ?_
    simp only [Act.put, List.setIfInBounds_toArray, List.set_cons_zero, List.set_cons_succ]
    refine wpL_take 3 20 (str x) [] rfl rfl (by kernel_rfl) (by decide) (by kernel_rfl) (by kernel_rfl) (by kernel_rfl) (fun _ _ _ h => h) HSx.out (by rfl) (fun W hW => by have e := hW.2; go_simp) ?_
    simp only [Act.put, List.setIfInBounds_toArray, List.set_cons_zero, List.set_cons_succ]
    refine wpL_one 4 rfl (by kernel_rfl) (by rfl) (fun K hK => ?_)
    go_simp
    refine HFd.out.mono ?_
    rintro e w5 ⟨rfl, hb5⟩
    have HB5 : Hid (Below w.heap.size w w5) := HBd0.out.trans (hb5.mono HBd0.out.size)
    have HX5 : Hid (w5.heap[Z]? = some (.cells #[i64 V.kind, i64 V.num, str V.s, .slice ak V.kids.length ck] 33)) := blk_below HX.out (below_of_drewN (n := 1) hb5)
    have HY5 : Hid (w5.heap[Y]? = some (.cells #[i64 T.kind, i64 T.num, .slice an T.names.length cn, .slice at_ T.kids.length ct] 37)) := blk_below HY.out (below_of_drewN (n := 1) hb5)
    have HR5 : Hid (w5.heap[R]? = some zO5) := blk_below HR0.out (below_of_drewN (n := 1) hb5)
    have HS5 : Hid (w5.heap[Y]? = some (.cells #[i64 T.kind, i64 T.num, .slice an T.names.length cn, .slice at_ T.kids.length ct] 37) ∧ w5.cell? ⟨wb, wo, none⟩ = some (str x)) := ⟨HY5.out, by rw [hb5.cell (by exact hwbV)]; exact HSx.out.2⟩
    clear hb5
    go_simp
    refine hK.out _ _ (fun _ => HS5.out) ?_
    clear hK K
    refine wpL_one 5 rfl (by kernel_rfl) (by rfl) (fun K hK => ?_)
    go_simp
    refine hK.out _ _ (fun h => absurd rfl h) ?_
    clear hK K
    refine wpL_done (by kernel_rfl) ?_
    refine NoPanic.normal ?_
    have y5 : w5.cell? ⟨Y, 0, none⟩ = some (i64 T.kind) := blk_cell HY5.out 0
    by_cases hneg : PL < 0
    · have HRn : Hid (ro = none) := by show _ = _; rw [HRo.out, if_pos hneg]
      have r0 : w5.cell? ⟨R, 0, none⟩ = some (i64 0) := blk_cell HR5.out 0
      have f0 : w5.frozen? ⟨R, 0, none⟩ = false := blk_frozen HR5.out 0
      have r1 : w5.cell? ⟨R, 1, none⟩ = some (i64 0) := blk_cell HR5.out 1
      have f1 : w5.frozen? ⟨R, 1, none⟩ = false := blk_frozen HR5.out 1
      have r2 : w5.cell? ⟨R, 2, none⟩ = some (.string ⟨#[]⟩) := blk_cell HR5.out 2
      have f2 : w5.frozen? ⟨R, 2, none⟩ = false := blk_frozen HR5.out 2
      have r3 : w5.cell? ⟨R, 3, none⟩ = some (.slice none 0 0) := blk_cell HR5.out 3
      have f3 : w5.frozen? ⟨R, 3, none⟩ = false := blk_frozen HR5.out 3
      have r4 : w5.cell? ⟨R, 4, none⟩ = some (i64 0) := blk_cell HR5.out 4
      have f4 : w5.frozen? ⟨R, 4, none⟩ = false := blk_frozen HR5.out 4
      go_wp2_with fail
      refine bodyPost_ret (v := .agg #[i64 0, i64 0, .string ⟨#[]⟩, .slice none 0 0, i64 6]) (results_one Tryd.results27 rfl (load57 (set5 HR5.out _ _ _ _ _))) rfl ?_
      exact ⟨bset5 HB5.out HRw.out _ _ _ _ _, .inl ⟨HRn.out, rfl⟩⟩
    · obtain ⟨j, hj⟩ : ∃ j : Nat, j = PL.toNat := ⟨_, rfl⟩
      have hjP : PL = (j : Int) := by omega
      have hroom : j < V.kids.length := by rw [hj]; exact HPR.out (by omega)
      have HRo2 : Hid (ro = atW rest V.kids[j] (kidT T j)) := by show _ = _; rw [HRo.out, if_neg hneg, ← hj, getD_lt _ _ _ hroom]
      obtain ⟨b, off, kv2, rfl, hbS, hblt, hr, hrd⟩ := (HVd.out.move HB5.out.size (fun b hb hlt => ⟨hb, HB5.out.block b hlt⟩) : Vd w5 S0 V (.slice ak V.kids.length ck)).kid j hroom
      obtain ⟨K2, hK2⟩ : ∃ K2, K2 = V.kids[j] := ⟨_, rfl⟩
      rw [← hK2] at hr hrd HRo2
      obtain ⟨ak2, ck2, rfl⟩ := hrd.form
      have HK2 : Hid ((kidT T j).formed = true ∧ firstF K2 (kidT T j) = [] ∧ K2.size ≤ 400) := by
        obtain ⟨g1, g2⟩ := first_nil HFn.out
        obtain ⟨g3, g4⟩ := kid_room HFm.out g1 j hroom
        refine ⟨kidT_formed HFm.out j g3 g4, by rw [hK2]; exact g2 j hroom, ?_⟩
        have h1 : K2 ∈ V.kids := by rw [hK2]; exact List.getElem_mem hroom
        have h2 := sizeL_mem h1
        have h3 := V.size_eq
        omega
      have HRM := hid (kid_room HFm.out (first_nil HFn.out).1 j hroom)
      have HKv : Hid (Vd w5.drew S0 K2 (.slice ak2 K2.kids.length ck2)) := hrd.under (below_drewN (Below.refl _ w5) 1)
      have HBd : Hid (Below w.heap.size w w5.drew) := below_drewN HB5.out 1
      have HKd := hid (kid_ok T j w5.drew (fun _ => True) _ _ (HRd.out.under HBd.out) HRM.out.1 HRM.out.2)
      have HSd : Hid (Sr Z Y b (off + j * 4) (.cells #[i64 V.kind, i64 V.num, str V.s, .slice (some ⟨b, off, none⟩) V.kids.length ck] 33) (.cells #[i64 T.kind, i64 T.num, .slice an T.names.length cn, .slice at_ T.kids.length ct] 37) [i64 K2.kind, i64 K2.num, str K2.s, .slice ak2 K2.kids.length ck2] w5.drew) := ⟨HX5.out, HY5.out, hr, hblt⟩
      have HRd1 : Hid (w5.drew.heap[R]? = some zO5) := HR5.out
      have HT2 : Hid (Strs w5.drew (fun _ => True) WV2 rest) := HTl2.out.below HBd.out
      have hjI : (j : Int) < V.kids.length := by omega
      subst hjP
      clear hj hr hrd hK2 hneg hbS hblt HRo hroom
      go_upto_region 15 with fail
      refine wp_region_noPanic ?_
      refine wp_region_last (Sr Z Y b (off + j * 4) (.cells #[i64 V.kind, i64 V.num, str V.s, .slice (some ⟨b, off, none⟩) V.kids.length ck] 33) (.cells #[i64 T.kind, i64 T.num, .slice an T.names.length cn, .slice at_ T.kids.length ct] 37) [i64 K2.kind, i64 K2.num, str K2.s, .slice ak2 K2.kids.length ck2]) 11 (by kernel_rfl) ?_
      refine wpL_take 0 42 (.pointer (some ⟨Z, 3, none⟩)) [] rfl rfl (by kernel_rfl) (by decide) (by kernel_rfl) (by kernel_rfl) (by kernel_rfl) (fun _ _ _ h => h) HSd.out (by rfl) (fun W hW => by go_simp) ?_
      simp only [Act.put, List.setIfInBounds_toArray, List.set_cons_zero, List.set_cons_succ]
      refine wpL_take 1 43 (.slice (some ⟨b, off, none⟩) V.kids.length ck) [] rfl rfl (by kernel_rfl) (by decide) (by kernel_rfl) (by kernel_rfl) (by kernel_rfl) (fun _ _ _ h => h) HSd.out (by rfl) (fun W hW => by have e : W.cell? ⟨Z, 3, none⟩ = some (.slice (some ⟨b, off, none⟩) V.kids.length ck) := blk_cell hW.z 3; go_simp) ?_
      simp only [Act.put, List.setIfInBounds_toArray, List.set_cons_zero, List.set_cons_succ]
      refine wpL_take 2 44 (i64 j) [] rfl rfl (by kernel_rfl) (by decide) (by kernel_rfl) (by kernel_rfl) (by kernel_rfl) (fun _ _ _ h => h) HSd.out (by rfl) (fun W hW => by go_simp) ?_
      simp only [Act.put, List.setIfInBounds_toArray, List.set_cons_zero, List.set_cons_succ]
      refine wpL_take 3 45 (.pointer (some ⟨b, off + j * 4, none⟩)) [] rfl rfl (by kernel_rfl) (by decide) (by kernel_rfl) (by kernel_rfl) (by kernel_rfl) (fun _ _ _ h => h) HSd.out (by rfl) (fun W hW => by go_simp) ?_
      simp only [Act.put, List.setIfInBounds_toArray, List.set_cons_zero, List.set_cons_succ]
      refine wpL_take 4 46 (.agg #[i64 K2.kind, i64 K2.num, str K2.s, .slice ak2 K2.kids.length ck2]) [] rfl rfl (by kernel_rfl) (by decide) (by kernel_rfl) (by kernel_rfl) (by kernel_rfl) (fun _ _ _ h => h) HSd.out (by rfl) (fun W hW => by exact exec_load 33 (.tmp 45) rfl rfl (load33r rfl hW.r)) ?_
      simp only [Act.put, List.setIfInBounds_toArray, List.set_cons_zero, List.set_cons_succ]
      refine wpL_take 5 47 (.agg #[i64 T.kind, i64 T.num, .slice an T.names.length cn, .slice at_ T.kids.length ct]) [] rfl rfl (by kernel_rfl) (by decide) (by kernel_rfl) (by kernel_rfl) (by kernel_rfl) (fun _ _ _ h => h) HSd.out (by rfl) (fun W hW => by exact exec_load 37 (.tmp 4) rfl rfl (load37b hW.y)) ?_
      simp only [Act.put, List.setIfInBounds_toArray, List.set_cons_zero, List.set_cons_succ]
      refine wpL_take 6 48 (i64 j) [] rfl rfl (by kernel_rfl) (by decide) (by kernel_rfl) (by kernel_rfl) (by kernel_rfl) (fun _ _ _ h => h) HSd.out (by rfl) (fun W hW => by go_simp) ?_
      simp only [Act.put, List.setIfInBounds_toArray, List.set_cons_zero, List.set_cons_succ]
      refine wpL_take 8 50 (.slice (some ⟨wb, wo, none⟩) nw cw) [] rfl rfl (by kernel_rfl) (by decide) (by kernel_rfl) (by kernel_rfl) (by kernel_rfl) (fun _ _ _ h => h) HSd.out (by rfl) (fun W hW => by go_simp) ?_
      simp only [Act.put, List.setIfInBounds_toArray, List.set_cons_zero, List.set_cons_succ]
      refine wpL_take 9 51 (WV2) [] rfl rfl (by kernel_rfl) (by decide) (by kernel_rfl) (by kernel_rfl) (by kernel_rfl) (fun _ _ _ h => h) HSd.out (by rfl) (fun W hW => by exact exec_slice 25 (.tmp 50) (some (.const (i64 1))) none (some (i64 1)) none rfl rfl rfl rfl (HTl.out W)) ?_
      simp only [Act.put, List.setIfInBounds_toArray, List.set_cons_zero, List.set_cons_succ]
      refine wpL_one 7 rfl (by kernel_rfl) (by rfl) (fun K hK => ?_)
      go_simp
      refine HKd.out.mono ?_
      rintro e w4 ⟨k1, k2, k3, k4, rfl, hb4, hr4⟩
      have HB4 : Hid (Below w.heap.size w w4) := HBd.out.trans (hb4.mono HBd.out.size)
      have HS4 : Hid (Sr Z Y b (off + j * 4) (.cells #[i64 V.kind, i64 V.num, str V.s, .slice (some ⟨b, off, none⟩) V.kids.length ck] 33) (.cells #[i64 T.kind, i64 T.num, .slice an T.names.length cn, .slice at_ T.kids.length ct] 37) [i64 K2.kind, i64 K2.num, str K2.s, .slice ak2 K2.kids.length ck2] w4) := HSd.out.under hb4
      have HR4 : Hid (w4.heap[R]? = some zO5) := blk_below HRd1.out hb4
      have HC4 := hid (HIH.out K2 (kidT T j) w4 (.slice ak2 K2.kids.length ck2) _ _ WV2 (Nat.le_trans HLo.out HB4.out.size) (HKv.out.under hb4) hr4 (HT2.out.below hb4) HK2.out.1 HK2.out.2.1 HK2.out.2.2)
      clear hb4 hr4 HKd
      go_simp
      refine hK.out _ _ (fun _ => HS4.out) ?_
      clear hK K
      refine wpL_one 10 rfl (by kernel_rfl) (by rfl) (fun K hK => ?_)
      go_simp
      refine HC4.out.mono ?_
      rintro e w6 ⟨hb6, hg6⟩
      have HB6 : Hid (Below w.heap.size w w6) := HB4.out.trans (hb6.mono HB4.out.size)
      have HS6 : Hid (Sr Z Y b (off + j * 4) (.cells #[i64 V.kind, i64 V.num, str V.s, .slice (some ⟨b, off, none⟩) V.kids.length ck] 33) (.cells #[i64 T.kind, i64 T.num, .slice an T.names.length cn, .slice at_ T.kids.length ct] 37) [i64 K2.kind, i64 K2.num, str K2.s, .slice ak2 K2.kids.length ck2] w6) := HS4.out.under hb6
      have HR6 : Hid (w6.heap[R]? = some zO5) := blk_below HR4.out hb6
      have HL6 : Hid (lo ≤ w6.heap.size) := Nat.le_trans HLo.out HB6.out.size
      rcases hg6 with ⟨hn6, rfl⟩ | ⟨U, a6, c6, hs6, rfl, hv6⟩
      · have HN6 := hid hn6
        clear hb6 hn6
        go_simp
        refine hK.out _ _ (fun _ => HS6.out) ?_
        clear hK K
        refine wpL_one 11 rfl (by kernel_rfl) (by rfl) (fun K hK => ?_)
        have r0 : w6.cell? ⟨R, 0, none⟩ = some (i64 0) := blk_cell HR6.out 0
        have f0 : w6.frozen? ⟨R, 0, none⟩ = false := blk_frozen HR6.out 0
        have r1 : w6.cell? ⟨R, 1, none⟩ = some (i64 0) := blk_cell HR6.out 1
        have f1 : w6.frozen? ⟨R, 1, none⟩ = false := blk_frozen HR6.out 1
        have r2 : w6.cell? ⟨R, 2, none⟩ = some (.string ⟨#[]⟩) := blk_cell HR6.out 2
        have f2 : w6.frozen? ⟨R, 2, none⟩ = false := blk_frozen HR6.out 2
        have r3 : w6.cell? ⟨R, 3, none⟩ = some (.slice none 0 0) := blk_cell HR6.out 3
        have f3 : w6.frozen? ⟨R, 3, none⟩ = false := blk_frozen HR6.out 3
        have r4 : w6.cell? ⟨R, 4, none⟩ = some (i64 0) := blk_cell HR6.out 4
        have f4 : w6.frozen? ⟨R, 4, none⟩ = false := blk_frozen HR6.out 4
        go_simp
        refine hK.out _ _ (fun h => absurd rfl h) ?_
        clear hK K
        refine wpL_done (by kernel_rfl) ?_
        refine NoPanic.normal ?_
        go_wp2_with fail
        refine bodyPost_ret (v := .agg #[i64 0, i64 0, .string ⟨#[]⟩, .slice none 0 0, i64 6]) (results_one Tryd.results27 rfl (load57 (set5 HR6.out _ _ _ _ _))) rfl ?_
        exact ⟨bset5 HB6.out HRw.out _ _ _ _ _, .inl ⟨by rw [HRo2.out]; exact HN6.out, rfl⟩⟩
      · have HN6 := hid hs6
        have HV6 := hid hv6
        clear hb6 hs6 hv6
        go_simp
        refine hK.out _ _ (fun _ => HS6.out) ?_
        clear hK K
        refine wpL_one 11 rfl (by kernel_rfl) (by rfl) (fun K hK => ?_)
        have r0 : w6.cell? ⟨R, 0, none⟩ = some (i64 0) := blk_cell HR6.out 0
        have f0 : w6.frozen? ⟨R, 0, none⟩ = false := blk_frozen HR6.out 0
        have r1 : w6.cell? ⟨R, 1, none⟩ = some (i64 0) := blk_cell HR6.out 1
        have f1 : w6.frozen? ⟨R, 1, none⟩ = false := blk_frozen HR6.out 1
        have r2 : w6.cell? ⟨R, 2, none⟩ = some (.string ⟨#[]⟩) := blk_cell HR6.out 2
        have f2 : w6.frozen? ⟨R, 2, none⟩ = false := blk_frozen HR6.out 2
        have r3 : w6.cell? ⟨R, 3, none⟩ = some (.slice none 0 0) := blk_cell HR6.out 3
        have f3 : w6.frozen? ⟨R, 3, none⟩ = false := blk_frozen HR6.out 3
        have r4 : w6.cell? ⟨R, 4, none⟩ = some (i64 0) := blk_cell HR6.out 4
        have f4 : w6.frozen? ⟨R, 4, none⟩ = false := blk_frozen HR6.out 4
        go_simp
        refine hK.out _ _ (fun h => absurd rfl h) ?_
        clear hK K
        refine wpL_done (by kernel_rfl) ?_
        refine NoPanic.normal ?_
        go_wp2_with fail
        refine bodyPost_ret (v := .agg #[i64 U.kind, i64 U.num, str U.s, .slice a6 U.kids.length c6, i64 0]) (results_one Tryd.results27 rfl (load57 (set5 HR6.out _ _ _ _ _))) rfl ?_
        refine ⟨bset5 HB6.out HRw.out _ _ _ _ _, .inr ⟨U, a6, c6, by rw [HRo2.out]; exact HN6.out, rfl, HV6.out.move (by simp [World.setCell]) fun b hb _ => ⟨hb, oset5 (by have := HRw.out; have := HLo.out; have := HS0.out b hb; omega) _ _ _ _ _⟩⟩⟩
  · have q4 : (T.kind == 4) = false := by simpa using h4
    by_cases h3 : T.kind = 3
    · have q3 : (T.kind == 3) = true := by simpa using h3
      have HPe : Hid (PL = idxFrom x V.kids.length 0) := by show _ = _; rw [HPl.out]; unfold placeF; rw [if_pos h3]
      have z3 : V0.cell? ⟨Z, 3, none⟩ = some (.slice ak V.kids.length ck) := blk_cell HX.out 3
      clear h4 h3 hx1
      go_wp2_with fail
      clear y0 z3 hx2
      go_loopw [7, 8, 28] (fun u7 _ u wr => ∃ (k : Nat) (A : Int), k ≤ V.kids.length ∧ u = i64 k ∧ u7 = i64 A ∧ Hid ((A = -1 ∧ ∀ j, j < k → Lib.decDigits j ≠ x) ∨ ∃ j, j < k ∧ A = (j : Int) ∧ Lib.decDigits j = x) ∧ Hid (wr.heap[Z]? = some (.cells #[i64 V.kind, i64 V.num, str V.s, .slice ak V.kids.length ck] 33)) ∧ Hid (wr.heap[Y]? = some (.cells #[i64 T.kind, i64 T.num, .slice an T.names.length cn, .slice at_ T.kids.length ct] 37)) ∧ Hid (wr.heap[R]? = some zO5) ∧ Hid (Below w.heap.size w wr)) (fun _ _ u _ => V.kids.length - (intOf u).toNat)
      case atStart => exact ⟨0, -1, by omega, rfl, rfl, .inl ⟨rfl, fun j hj => absurd hj (by omega)⟩, HX, HY, HR0, HBV⟩
      case round =>
        obtain ⟨k, A, hk, rfl, rfl, HA, HXk, HYk, HRk, HBk⟩ := hrel
        have hwbk : wb < wr.heap.size := Nat.lt_of_lt_of_le hwb HBk.out.size
        by_cases hlt : k < V.kids.length
        · have hkI : (k : Int) < V.kids.length := by omega
          have HSx : Hid (wr.drew.cell? ⟨wb, wo, none⟩ = some (str x)) := by show wr.cell? _ = _; rw [HBk.out.cell (by exact hwb)]; exact HX1.out
          have HDg := hid (digits_ok k (by omega) wr.drew)
          go_upto_region 10 with fail
          by_cases hd : Lib.decDigits k = x
          · have hde : (Lib.decDigits k == x) = true := by simpa using hd
            have HA2 : Hid (((k : Int) = -1 ∧ ∀ j, j < k + 1 → Lib.decDigits j ≠ x) ∨ ∃ j, j < k + 1 ∧ (k : Int) = (j : Int) ∧ Lib.decDigits j = x) := .inr ⟨k, by omega, rfl, hd⟩
            clear hd
            refine wp_region_noPanic ?_
            refine wp_region_last (fun W => W.cell? ⟨wb, wo, none⟩ = some (str x)) 5 (by kernel_rfl) ?_
            refine wpL_take 0 31 (i64 k) [1] rfl rfl (by kernel_rfl) (by decide) (by kernel_rfl) (by kernel_rfl) (by kernel_rfl) (fun _ _ _ h => h) HSx.out (by rfl) (fun W hW => by go_simp) ?_
            simp only [Act.put, List.setIfInBounds_toArray, List.set_cons_zero, List.set_cons_succ]
            refine wpL_take 2 33 (.slice (some ⟨wb, wo, none⟩) nw cw) [3, 4] rfl rfl (by kernel_rfl) (by decide) (by kernel_rfl) (by kernel_rfl) (by kernel_rfl) (fun _ _ _ h => h) HSx.out (by rfl) (fun W hW => by go_simp) ?_
            simp only [Act.put, List.setIfInBounds_toArray, List.set_cons_zero, List.set_cons_succ]
            refine wpL_take 3 34 (.pointer (some ⟨wb, wo, none⟩)) [4] rfl rfl (by kernel_rfl) (by decide) (by kernel_rfl) (by kernel_rfl) (by kernel_rfl) (fun _ _ _ h => h) HSx.out (by rfl) (fun W hW => by go_simp) ?_
            simp only [Act.put, List.setIfInBounds_toArray, List.set_cons_zero, List.set_cons_succ]
            refine wpL_take 4 35 (str x) [] rfl rfl (by kernel_rfl) (by decide) (by kernel_rfl) (by kernel_rfl) (by kernel_rfl) (fun _ _ _ h => h) HSx.out (by rfl) (fun W hW => by have e := hW; go_simp) ?_
            simp only [Act.put, List.setIfInBounds_toArray, List.set_cons_zero, List.set_cons_succ]
            refine wpL_one 1 rfl (by kernel_rfl) (by rfl) (fun K hK => ?_)
            go_simp
            refine HDg.out.mono ?_
            rintro e w5 ⟨rfl, hb5⟩
            have HB5 : Hid (Below w.heap.size w w5) := HBk.out.trans ((below_of_drewN (n := 1) hb5).mono HBk.out.size)
            have HX5 : Hid (w5.heap[Z]? = some (.cells #[i64 V.kind, i64 V.num, str V.s, .slice ak V.kids.length ck] 33)) := blk_below HXk.out (below_of_drewN (n := 1) hb5)
            have HY5 : Hid (w5.heap[Y]? = some (.cells #[i64 T.kind, i64 T.num, .slice an T.names.length cn, .slice at_ T.kids.length ct] 37)) := blk_below HYk.out (below_of_drewN (n := 1) hb5)
            have HR5 : Hid (w5.heap[R]? = some zO5) := blk_below HRk.out (below_of_drewN (n := 1) hb5)
            have HS5 : Hid (w5.cell? ⟨wb, wo, none⟩ = some (str x)) := by show _ = _; rw [hb5.cell (by exact hwbk)]; exact HSx.out
            clear hb5
            go_simp
            refine hK.out _ _ (fun _ => HS5.out) ?_
            clear hK K
            refine wpL_one 5 rfl (by kernel_rfl) (by rfl) (fun K hK => ?_)
            go_simp
            refine hK.out _ _ (fun h => absurd rfl h) ?_
            clear hK K
            refine wpL_done (by kernel_rfl) ?_
            refine NoPanic.normal ?_
            go_wp2_with fail
            exact ⟨⟨k + 1, (k : Int), by omega, by go_num, rfl, HA2, HX5, HY5, HR5, HB5⟩, by simp [intOf]; omega⟩
          · have hde : (Lib.decDigits k == x) = false := by simpa using hd
            have HA2 : Hid ((A = -1 ∧ ∀ j, j < k + 1 → Lib.decDigits j ≠ x) ∨ ∃ j, j < k + 1 ∧ A = (j : Int) ∧ Lib.decDigits j = x) := by
              rcases HA.out with ⟨h1, h2⟩ | ⟨j, h1, h2, h3⟩
              · refine .inl ⟨h1, fun j hj => ?_⟩
                by_cases e : j = k
                · rw [e]; exact hd
                · exact h2 j (by omega)
              · exact .inr ⟨j, by omega, h2, h3⟩
            clear hd
            refine wp_region_noPanic ?_
            refine wp_region_last (fun W => W.cell? ⟨wb, wo, none⟩ = some (str x)) 5 (by kernel_rfl) ?_
            refine wpL_take 0 31 (i64 k) [1] rfl rfl (by kernel_rfl) (by decide) (by kernel_rfl) (by kernel_rfl) (by kernel_rfl) (fun _ _ _ h => h) HSx.out (by rfl) (fun W hW => by go_simp) ?_
            simp only [Act.put, List.setIfInBounds_toArray, List.set_cons_zero, List.set_cons_succ]
            refine wpL_take 2 33 (.slice (some ⟨wb, wo, none⟩) nw cw) [3, 4] rfl rfl (by kernel_rfl) (by decide) (by kernel_rfl) (by kernel_rfl) (by kernel_rfl) (fun _ _ _ h => h) HSx.out (by rfl) (fun W hW => by go_simp) ?_
            simp only [Act.put, List.setIfInBounds_toArray, List.set_cons_zero, List.set_cons_succ]
            refine wpL_take 3 34 (.pointer (some ⟨wb, wo, none⟩)) [4] rfl rfl (by kernel_rfl) (by decide) (by kernel_rfl) (by kernel_rfl) (by kernel_rfl) (fun _ _ _ h => h) HSx.out (by rfl) (fun W hW => by go_simp) ?_
            simp only [Act.put, List.setIfInBounds_toArray, List.set_cons_zero, List.set_cons_succ]
            refine wpL_take 4 35 (str x) [] rfl rfl (by kernel_rfl) (by decide) (by kernel_rfl) (by kernel_rfl) (by kernel_rfl) (fun _ _ _ h => h) HSx.out (by rfl) (fun W hW => by have e := hW; go_simp) ?_
            simp only [Act.put, List.setIfInBounds_toArray, List.set_cons_zero, List.set_cons_succ]
            refine wpL_one 1 rfl (by kernel_rfl) (by rfl) (fun K hK => ?_)
            go_simp
            refine HDg.out.mono ?_
            rintro e w5 ⟨rfl, hb5⟩
            have HB5 : Hid (Below w.heap.size w w5) := HBk.out.trans ((below_of_drewN (n := 1) hb5).mono HBk.out.size)
            have HX5 : Hid (w5.heap[Z]? = some (.cells #[i64 V.kind, i64 V.num, str V.s, .slice ak V.kids.length ck] 33)) := blk_below HXk.out (below_of_drewN (n := 1) hb5)
            have HY5 : Hid (w5.heap[Y]? = some (.cells #[i64 T.kind, i64 T.num, .slice an T.names.length cn, .slice at_ T.kids.length ct] 37)) := blk_below HYk.out (below_of_drewN (n := 1) hb5)
            have HR5 : Hid (w5.heap[R]? = some zO5) := blk_below HRk.out (below_of_drewN (n := 1) hb5)
            have HS5 : Hid (w5.cell? ⟨wb, wo, none⟩ = some (str x)) := by show _ = _; rw [hb5.cell (by exact hwbk)]; exact HSx.out
            clear hb5
            go_simp
            refine hK.out _ _ (fun _ => HS5.out) ?_
            clear hK K
            refine wpL_one 5 rfl (by kernel_rfl) (by rfl) (fun K hK => ?_)
            go_simp
            refine hK.out _ _ (fun h => absurd rfl h) ?_
            clear hK K
            refine wpL_done (by kernel_rfl) ?_
            refine NoPanic.normal ?_
            go_wp2_with fail
            exact ⟨⟨k + 1, A, by omega, by go_num, rfl, HA2, HX5, HY5, HR5, HB5⟩, by simp [intOf]; omega⟩
        · have HAe : Hid (A = PL) := by
            show _ = _
            have hke : k = V.kids.length := by omega
            rw [HPe.out]
            rcases HA.out with ⟨h1, h2⟩ | ⟨j, h1, h2, h3⟩
            · rw [h1, idxFrom_miss x _ 0 (fun j _ hj => h2 j (by omega))]
            · rw [h2, idxFrom_hit x j h3 _ 0 (by omega) (by omega)]
          have hAe : PL = A := HAe.out.symm
          subst hAe
          clear HA
          by_cases hneg : PL < 0
          · have HRn : Hid (ro = none) := by show _ = _; rw [HRo.out, if_pos hneg]
            have r0 : wr.cell? ⟨R, 0, none⟩ = some (i64 0) := blk_cell HRk.out 0
            have f0 : wr.frozen? ⟨R, 0, none⟩ = false := blk_frozen HRk.out 0
            have r1 : wr.cell? ⟨R, 1, none⟩ = some (i64 0) := blk_cell HRk.out 1
            have f1 : wr.frozen? ⟨R, 1, none⟩ = false := blk_frozen HRk.out 1
            have r2 : wr.cell? ⟨R, 2, none⟩ = some (.string ⟨#[]⟩) := blk_cell HRk.out 2
            have f2 : wr.frozen? ⟨R, 2, none⟩ = false := blk_frozen HRk.out 2
            have r3 : wr.cell? ⟨R, 3, none⟩ = some (.slice none 0 0) := blk_cell HRk.out 3
            have f3 : wr.frozen? ⟨R, 3, none⟩ = false := blk_frozen HRk.out 3
            have r4 : wr.cell? ⟨R, 4, none⟩ = some (i64 0) := blk_cell HRk.out 4
            have f4 : wr.frozen? ⟨R, 4, none⟩ = false := blk_frozen HRk.out 4
            go_wp2_with fail
            refine bodyPost_ret (v := .agg #[i64 0, i64 0, .string ⟨#[]⟩, .slice none 0 0, i64 6]) (results_one Tryd.results27 rfl (load57 (set5 HRk.out _ _ _ _ _))) rfl ?_
            exact ⟨bset5 HBk.out HRw.out _ _ _ _ _, .inl ⟨HRn.out, rfl⟩⟩
          · obtain ⟨j, hj⟩ : ∃ j : Nat, j = PL.toNat := ⟨_, rfl⟩
            have hjP : PL = (j : Int) := by omega
            have hroom : j < V.kids.length := by rw [hj]; exact HPR.out (by omega)
            have HRo2 : Hid (ro = atW rest V.kids[j] (kidT T j)) := by show _ = _; rw [HRo.out, if_neg hneg, ← hj, getD_lt _ _ _ hroom]
            obtain ⟨b, off, kv2, rfl, hbS, hblt, hr, hrd⟩ := (HVd.out.move HBk.out.size (fun b hb hlt => ⟨hb, HBk.out.block b hlt⟩) : Vd wr S0 V (.slice ak V.kids.length ck)).kid j hroom
            obtain ⟨K2, hK2⟩ : ∃ K2, K2 = V.kids[j] := ⟨_, rfl⟩
            rw [← hK2] at hr hrd HRo2
            obtain ⟨ak2, ck2, rfl⟩ := hrd.form
            have HK2 : Hid ((kidT T j).formed = true ∧ firstF K2 (kidT T j) = [] ∧ K2.size ≤ 400) := by
              obtain ⟨g1, g2⟩ := first_nil HFn.out
              obtain ⟨g3, g4⟩ := kid_room HFm.out g1 j hroom
              refine ⟨kidT_formed HFm.out j g3 g4, by rw [hK2]; exact g2 j hroom, ?_⟩
              have h1 : K2 ∈ V.kids := by rw [hK2]; exact List.getElem_mem hroom
              have h2 := sizeL_mem h1
              have h3 := V.size_eq
              omega
            have HRM := hid (kid_room HFm.out (first_nil HFn.out).1 j hroom)
            have HKv : Hid (Vd wr.drew S0 K2 (.slice ak2 K2.kids.length ck2)) := hrd.under (below_drewN (Below.refl _ wr) 1)
            have HBd : Hid (Below w.heap.size w wr.drew) := below_drewN HBk.out 1
            have HKd := hid (kid_ok T j wr.drew (fun _ => True) _ _ (HRd.out.under HBd.out) HRM.out.1 HRM.out.2)
            have HSd : Hid (Sr Z Y b (off + j * 4) (.cells #[i64 V.kind, i64 V.num, str V.s, .slice (some ⟨b, off, none⟩) V.kids.length ck] 33) (.cells #[i64 T.kind, i64 T.num, .slice an T.names.length cn, .slice at_ T.kids.length ct] 37) [i64 K2.kind, i64 K2.num, str K2.s, .slice ak2 K2.kids.length ck2] wr.drew) := ⟨HXk.out, HYk.out, hr, hblt⟩
            have HRd1 : Hid (wr.drew.heap[R]? = some zO5) := HRk.out
            have HT2 : Hid (Strs wr.drew (fun _ => True) WV2 rest) := HTl2.out.below HBd.out
            have hjI : (j : Int) < V.kids.length := by omega
            subst hjP
            clear hj hr hrd hK2 hneg hbS hblt HRo hroom
            go_upto_region 15 with fail
            refine wp_region_noPanic ?_
            refine wp_region_last (Sr Z Y b (off + j * 4) (.cells #[i64 V.kind, i64 V.num, str V.s, .slice (some ⟨b, off, none⟩) V.kids.length ck] 33) (.cells #[i64 T.kind, i64 T.num, .slice an T.names.length cn, .slice at_ T.kids.length ct] 37) [i64 K2.kind, i64 K2.num, str K2.s, .slice ak2 K2.kids.length ck2]) 11 (by kernel_rfl) ?_
            refine wpL_take 0 42 (.pointer (some ⟨Z, 3, none⟩)) [] rfl rfl (by kernel_rfl) (by decide) (by kernel_rfl) (by kernel_rfl) (by kernel_rfl) (fun _ _ _ h => h) HSd.out (by rfl) (fun W hW => by go_simp) ?_
            simp only [Act.put, List.setIfInBounds_toArray, List.set_cons_zero, List.set_cons_succ]
            refine wpL_take 1 43 (.slice (some ⟨b, off, none⟩) V.kids.length ck) [] rfl rfl (by kernel_rfl) (by decide) (by kernel_rfl) (by kernel_rfl) (by kernel_rfl) (fun _ _ _ h => h) HSd.out (by rfl) (fun W hW => by have e : W.cell? ⟨Z, 3, none⟩ = some (.slice (some ⟨b, off, none⟩) V.kids.length ck) := blk_cell hW.z 3; go_simp) ?_
            simp only [Act.put, List.setIfInBounds_toArray, List.set_cons_zero, List.set_cons_succ]
            refine wpL_take 2 44 (i64 j) [] rfl rfl (by kernel_rfl) (by decide) (by kernel_rfl) (by kernel_rfl) (by kernel_rfl) (fun _ _ _ h => h) HSd.out (by rfl) (fun W hW => by go_simp) ?_
            simp only [Act.put, List.setIfInBounds_toArray, List.set_cons_zero, List.set_cons_succ]
            refine wpL_take 3 45 (.pointer (some ⟨b, off + j * 4, none⟩)) [] rfl rfl (by kernel_rfl) (by decide) (by kernel_rfl) (by kernel_rfl) (by kernel_rfl) (fun _ _ _ h => h) HSd.out (by rfl) (fun W hW => by go_simp) ?_
            simp only [Act.put, List.setIfInBounds_toArray, List.set_cons_zero, List.set_cons_succ]
            refine wpL_take 4 46 (.agg #[i64 K2.kind, i64 K2.num, str K2.s, .slice ak2 K2.kids.length ck2]) [] rfl rfl (by kernel_rfl) (by decide) (by kernel_rfl) (by kernel_rfl) (by kernel_rfl) (fun _ _ _ h => h) HSd.out (by rfl) (fun W hW => by exact exec_load 33 (.tmp 45) rfl rfl (load33r rfl hW.r)) ?_
            simp only [Act.put, List.setIfInBounds_toArray, List.set_cons_zero, List.set_cons_succ]
            refine wpL_take 5 47 (.agg #[i64 T.kind, i64 T.num, .slice an T.names.length cn, .slice at_ T.kids.length ct]) [] rfl rfl (by kernel_rfl) (by decide) (by kernel_rfl) (by kernel_rfl) (by kernel_rfl) (fun _ _ _ h => h) HSd.out (by rfl) (fun W hW => by exact exec_load 37 (.tmp 4) rfl rfl (load37b hW.y)) ?_
            simp only [Act.put, List.setIfInBounds_toArray, List.set_cons_zero, List.set_cons_succ]
            refine wpL_take 6 48 (i64 j) [] rfl rfl (by kernel_rfl) (by decide) (by kernel_rfl) (by kernel_rfl) (by kernel_rfl) (fun _ _ _ h => h) HSd.out (by rfl) (fun W hW => by go_simp) ?_
            simp only [Act.put, List.setIfInBounds_toArray, List.set_cons_zero, List.set_cons_succ]
            refine wpL_take 8 50 (.slice (some ⟨wb, wo, none⟩) nw cw) [] rfl rfl (by kernel_rfl) (by decide) (by kernel_rfl) (by kernel_rfl) (by kernel_rfl) (fun _ _ _ h => h) HSd.out (by rfl) (fun W hW => by go_simp) ?_
            simp only [Act.put, List.setIfInBounds_toArray, List.set_cons_zero, List.set_cons_succ]
            refine wpL_take 9 51 (WV2) [] rfl rfl (by kernel_rfl) (by decide) (by kernel_rfl) (by kernel_rfl) (by kernel_rfl) (fun _ _ _ h => h) HSd.out (by rfl) (fun W hW => by exact exec_slice 25 (.tmp 50) (some (.const (i64 1))) none (some (i64 1)) none rfl rfl rfl rfl (HTl.out W)) ?_
            simp only [Act.put, List.setIfInBounds_toArray, List.set_cons_zero, List.set_cons_succ]
            refine wpL_one 7 rfl (by kernel_rfl) (by rfl) (fun K hK => ?_)
            go_simp
            refine HKd.out.mono ?_
            rintro e w4 ⟨k1, k2, k3, k4, rfl, hb4, hr4⟩
            have HB4 : Hid (Below w.heap.size w w4) := HBd.out.trans (hb4.mono HBd.out.size)
            have HS4 : Hid (Sr Z Y b (off + j * 4) (.cells #[i64 V.kind, i64 V.num, str V.s, .slice (some ⟨b, off, none⟩) V.kids.length ck] 33) (.cells #[i64 T.kind, i64 T.num, .slice an T.names.length cn, .slice at_ T.kids.length ct] 37) [i64 K2.kind, i64 K2.num, str K2.s, .slice ak2 K2.kids.length ck2] w4) := HSd.out.under hb4
            have HR4 : Hid (w4.heap[R]? = some zO5) := blk_below HRd1.out hb4
            have HC4 := hid (HIH.out K2 (kidT T j) w4 (.slice ak2 K2.kids.length ck2) _ _ WV2 (Nat.le_trans HLo.out HB4.out.size) (HKv.out.under hb4) hr4 (HT2.out.below hb4) HK2.out.1 HK2.out.2.1 HK2.out.2.2)
            clear hb4 hr4 HKd
            go_simp
            refine hK.out _ _ (fun _ => HS4.out) ?_
            clear hK K
            refine wpL_one 10 rfl (by kernel_rfl) (by rfl) (fun K hK => ?_)
            go_simp
            refine HC4.out.mono ?_
            rintro e w6 ⟨hb6, hg6⟩
            have HB6 : Hid (Below w.heap.size w w6) := HB4.out.trans (hb6.mono HB4.out.size)
            have HS6 : Hid (Sr Z Y b (off + j * 4) (.cells #[i64 V.kind, i64 V.num, str V.s, .slice (some ⟨b, off, none⟩) V.kids.length ck] 33) (.cells #[i64 T.kind, i64 T.num, .slice an T.names.length cn, .slice at_ T.kids.length ct] 37) [i64 K2.kind, i64 K2.num, str K2.s, .slice ak2 K2.kids.length ck2] w6) := HS4.out.under hb6
            have HR6 : Hid (w6.heap[R]? = some zO5) := blk_below HR4.out hb6
            have HL6 : Hid (lo ≤ w6.heap.size) := Nat.le_trans HLo.out HB6.out.size
            rcases hg6 with ⟨hn6, rfl⟩ | ⟨U, a6, c6, hs6, rfl, hv6⟩
            · have HN6 := hid hn6
              clear hb6 hn6
              go_simp
              refine hK.out _ _ (fun _ => HS6.out) ?_
              clear hK K
              refine wpL_one 11 rfl (by kernel_rfl) (by rfl) (fun K hK => ?_)
              have r0 : w6.cell? ⟨R, 0, none⟩ = some (i64 0) := blk_cell HR6.out 0
              have f0 : w6.frozen? ⟨R, 0, none⟩ = false := blk_frozen HR6.out 0
              have r1 : w6.cell? ⟨R, 1, none⟩ = some (i64 0) := blk_cell HR6.out 1
              have f1 : w6.frozen? ⟨R, 1, none⟩ = false := blk_frozen HR6.out 1
              have r2 : w6.cell? ⟨R, 2, none⟩ = some (.string ⟨#[]⟩) := blk_cell HR6.out 2
              have f2 : w6.frozen? ⟨R, 2, none⟩ = false := blk_frozen HR6.out 2
              have r3 : w6.cell? ⟨R, 3, none⟩ = some (.slice none 0 0) := blk_cell HR6.out 3
              have f3 : w6.frozen? ⟨R, 3, none⟩ = false := blk_frozen HR6.out 3
              have r4 : w6.cell? ⟨R, 4, none⟩ = some (i64 0) := blk_cell HR6.out 4
              have f4 : w6.frozen? ⟨R, 4, none⟩ = false := blk_frozen HR6.out 4
              go_simp
              refine hK.out _ _ (fun h => absurd rfl h) ?_
              clear hK K
              refine wpL_done (by kernel_rfl) ?_
              refine NoPanic.normal ?_
              go_wp2_with fail
              refine bodyPost_ret (v := .agg #[i64 0, i64 0, .string ⟨#[]⟩, .slice none 0 0, i64 6]) (results_one Tryd.results27 rfl (load57 (set5 HR6.out _ _ _ _ _))) rfl ?_
              exact ⟨bset5 HB6.out HRw.out _ _ _ _ _, .inl ⟨by rw [HRo2.out]; exact HN6.out, rfl⟩⟩
            · have HN6 := hid hs6
              have HV6 := hid hv6
              clear hb6 hs6 hv6
              go_simp
              refine hK.out _ _ (fun _ => HS6.out) ?_
              clear hK K
              refine wpL_one 11 rfl (by kernel_rfl) (by rfl) (fun K hK => ?_)
              have r0 : w6.cell? ⟨R, 0, none⟩ = some (i64 0) := blk_cell HR6.out 0
              have f0 : w6.frozen? ⟨R, 0, none⟩ = false := blk_frozen HR6.out 0
              have r1 : w6.cell? ⟨R, 1, none⟩ = some (i64 0) := blk_cell HR6.out 1
              have f1 : w6.frozen? ⟨R, 1, none⟩ = false := blk_frozen HR6.out 1
              have r2 : w6.cell? ⟨R, 2, none⟩ = some (.string ⟨#[]⟩) := blk_cell HR6.out 2
              have f2 : w6.frozen? ⟨R, 2, none⟩ = false := blk_frozen HR6.out 2
              have r3 : w6.cell? ⟨R, 3, none⟩ = some (.slice none 0 0) := blk_cell HR6.out 3
              have f3 : w6.frozen? ⟨R, 3, none⟩ = false := blk_frozen HR6.out 3
              have r4 : w6.cell? ⟨R, 4, none⟩ = some (i64 0) := blk_cell HR6.out 4
              have f4 : w6.frozen? ⟨R, 4, none⟩ = false := blk_frozen HR6.out 4
              go_simp
              refine hK.out _ _ (fun h => absurd rfl h) ?_
              clear hK K
              refine wpL_done (by kernel_rfl) ?_
              refine NoPanic.normal ?_
              go_wp2_with fail
              refine bodyPost_ret (v := .agg #[i64 U.kind, i64 U.num, str U.s, .slice a6 U.kids.length c6, i64 0]) (results_one Tryd.results27 rfl (load57 (set5 HR6.out _ _ _ _ _))) rfl ?_
              refine ⟨bset5 HB6.out HRw.out _ _ _ _ _, .inr ⟨U, a6, c6, by rw [HRo2.out]; exact HN6.out, rfl, HV6.out.move (by simp [World.setCell]) fun b hb _ => ⟨hb, oset5 (by have := HRw.out; have := HLo.out; have := HS0.out b hb; omega) _ _ _ _ _⟩⟩⟩
    · have q3 : (T.kind == 3) = false := by simpa using h3
      have HPe : PL = -1 := by rw [HPl.out]; unfold placeF fieldF; rw [if_neg h3, if_neg h4]
      subst HPe
      clear h3 h4 hx1 hx2
      have HRn : Hid (ro = none) := by show _ = _; rw [HRo.out, if_pos (by omega)]
      have r0 : V0.cell? ⟨R, 0, none⟩ = some (i64 0) := blk_cell HR0.out 0
      have f0 : V0.frozen? ⟨R, 0, none⟩ = false := blk_frozen HR0.out 0
      have r1 : V0.cell? ⟨R, 1, none⟩ = some (i64 0) := blk_cell HR0.out 1
      have f1 : V0.frozen? ⟨R, 1, none⟩ = false := blk_frozen HR0.out 1
      have r2 : V0.cell? ⟨R, 2, none⟩ = some (.string ⟨#[]⟩) := blk_cell HR0.out 2
      have f2 : V0.frozen? ⟨R, 2, none⟩ = false := blk_frozen HR0.out 2
      have r3 : V0.cell? ⟨R, 3, none⟩ = some (.slice none 0 0) := blk_cell HR0.out 3
      have f3 : V0.frozen? ⟨R, 3, none⟩ = false := blk_frozen HR0.out 3
      have r4 : V0.cell? ⟨R, 4, none⟩ = some (i64 0) := blk_cell HR0.out 4
      have f4 : V0.frozen? ⟨R, 4, none⟩ = false := blk_frozen HR0.out 4
      go_wp2_with fail
      refine bodyPost_ret (v := .agg #[i64 0, i64 0, .string ⟨#[]⟩, .slice none 0 0, i64 6]) (results_one Tryd.results27 rfl (load57 (set5 HR0.out _ _ _ _ _))) rfl ?_
      exact ⟨bset5 HBV.out HRw.out _ _ _ _ _, .inl ⟨HRn.out, rfl⟩⟩
theorem rat_ok (lo : Nat) (S0 : Nat → Prop) (hS0 : ∀ b, S0 b → b < lo) : ∀ (way : List Bs) (V : Vl) (T : Ty) (w : World) (kv nv tv wv : Value), lo ≤ w.heap.size → Vd w S0 V kv → Rd w (fun _ => True) T nv tv → Strs w (fun _ => True) wv way → T.formed = true → firstF V T = [] → V.size ≤ 400 → Calls Tryd.prog 27 #[vlV V kv, tyV T.kind T.num nv tv, wv] w (GotOk w S0 (atW way V T))
  | [], V, T, w, kv, nv, tv, wv, h1, h2, h3, h4, _, _, _ => rat_nil V T lo S0 hS0 w kv nv tv wv h1 h2 h3 h4
  | x :: rest, V, T, w, kv, nv, tv, wv, h1, h2, h3, h4, h5, h6, h7 => rat_cons x rest lo S0 hS0 (rat_ok lo S0 hS0 rest) V T w kv nv tv wv h1 h2 h3 h4 h5 h6 h7
end Go.Proofs.YtgiemijhndanjaaDoor
