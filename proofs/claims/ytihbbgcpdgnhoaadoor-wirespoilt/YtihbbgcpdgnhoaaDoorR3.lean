/- kids; no statement is proved in this text. -/
import Derived.Test.YtihbbgcpdgnhoaaDoorR2
import Derived.Test.YtihbbgcpdgnhoaaDoorWq
namespace Go.Proofs.YtihbbgcpdgnhoaaDoor
open Go.ChangeShapes Go.WideShapes Go.ChangeAt Go.RowKit Go.Deep
attribute [local go_sem ↓] Go.wp_at_zero Go.wp_at_succ
set_option maxRecDepth 100000

def KNo (q : Nat) (w : World) (e : Ending) (w' : World) : Prop := e = .returned (.tuple #[.slice none 0 0, .bool false]) ∧ Touch q w w'
def KYes (q : Nat) (w : World) (k : Int) (L : List Vl) (r : Bs) (e : Ending) (w' : World) : Prop := ∃ a c, e = .returned (.tuple #[.slice a L.length c, .bool true]) ∧ At w' q r ∧ Touch q w w' ∧ Vd w' (fun b => w.heap.size ≤ b) (.mk k 0 [] L) (.slice a L.length c)
def KOk (q : Nat) (w : World) (k : Int) : Option (List Vl × Bs) → Ending → World → Prop
  | none => KNo q w
  | some (L, r) => KYes q w k L r
def VOk (q : Nat) (w : World) : Option (Vl × Bs) → Ending → World → Prop
  | none => NoV q w
  | some (V, r) => YesV q w V r
def joinL (a : List Vl) : Option (List Vl × Bs) → Option (List Vl × Bs)
  | none => none
  | some (l, r) => some (a ++ l, r)
abbrev tyO (k n : Int) (nv tv : Value) : Obj := .cells #[i64 k, i64 n, nv, tv] 25
/-- Kids that are being read; the type's box O. -/
structure KI (w X : World) (q O : Nat) (o : Obj) (kv : Value) (Ks : List Kv) (l : Bs) : Prop where
  t : X.heap[O]? = some o
  k : VKids X w.heap.size 28 (fun b => w.heap.size ≤ b ∧ b ≠ O) kv Ks
  s : kv.ownBlock ≠ some O
  a : At X q l
  tc : Touch q w X
theorem KI.touch {w X X' : World} {q O : Nat} {o : Obj} {kv : Value} {Ks : List Kv} {l l' : Bs} (h : KI w X q O o kv Ks l) (hq : q < w.heap.size) (hO : w.heap.size ≤ O) (ht : Touch q X X') (ha : At X' q l') : KI w X' q O o kv Ks l' :=
  ⟨(ht.block _ (blk_lt h.t) (by omega)).trans h.t, h.k.move ht.size (fun k hk => by have := h.k.own.lt k hk; exact ht.block k this.2 (by omega)) (fun b hb hlt _ => ⟨hb, ht.block b hlt (by have := hb.1; omega)⟩), h.s, ha, h.tc.trans ht⟩
theorem KI.below {w X X' : World} {q O : Nat} {o : Obj} {kv : Value} {Ks : List Kv} {l : Bs} (h : KI w X q O o kv Ks l) (hq : q < w.heap.size) (hO : w.heap.size ≤ O) (hb : Below X.heap.size X X') : KI w X' q O o kv Ks l :=
  h.touch hq hO (Touch.of_below hb) (at_below h.a hb)
theorem KI.slice {w X : World} {q O : Nat} {o : Obj} {kv : Value} {Ks : List Kv} {l : Bs} (h : KI w X q O o kv Ks l) : ∃ a c, kv = .slice a Ks.length c := by
  obtain ⟨a, c, h2, _⟩ := own_slice h.k.own
  exact ⟨a, c, h2⟩
theorem KI.push {w X : World} {q O : Nat} {o : Obj} {kv : Value} {Ks : List Kv} {l : Bs} (h : KI w X q O o kv Ks l) (hq : q < w.heap.size) (U : Vl) (a2 : Option Addr) (n2 c2 : Nat)
    (lo : Nat) (hlo : O < lo) (hlk : ∀ k, kv.ownBlock = some k → k < lo) (hR : Vd X (fun b => lo ≤ b) U (.slice a2 n2 c2)) (hO : w.heap.size ≤ O) (hl : Ks.length ≤ 3000) :
    ∃ ao cap Y, (Builtin.append_ #[26, 26] 26 #[kv, .slice (some ⟨X.heap.size, 0, none⟩) 1 1]).run Tryd.prog (X.alloc (.cells #[i64 U.kind, i64 U.num, str U.s, .slice a2 n2 c2] 28)) = .ok (.slice ao (Ks.length + 1) cap) Y ∧ KI w Y q O o (.slice ao (Ks.length + 1) cap) (Ks ++ [(U, .slice a2 n2 c2)]) l ∧ (∀ k, k < X.heap.size → some k ≠ kv.ownBlock → Y.heap[k]? = X.heap[k]?) := by
  have hz := h.tc.size
  obtain ⟨ao, cap, Y, p1, p2, p3, p4, p5⟩ := push_val vunder22 vinfo24 h.k U a2 n2 c2 (hR.mono (fun b hb _ => ⟨⟨by omega, by omega⟩, fun e => by have := hlk b e.symm; omega⟩)) hl hz
  have hOl := blk_lt h.t
  have hql := h.a.lt
  have hqn : some q ≠ kv.ownBlock := fun e => by have := (h.k.own.lt q e.symm).1; omega
  refine ⟨ao, cap, Y, p1, ⟨(p4 O hOl (fun e => h.s e.symm)).trans h.t, p2, ?_, (p4 q hql hqn).trans h.a, ⟨p3.below.os.trans h.tc.os, p3.below.tape.trans h.tc.tape, p3.below.output.trans h.tc.output, Nat.le_trans hz p3.size, fun k hk hkq => (p3.below.block k hk).trans (h.tc.block k hk hkq)⟩⟩, p4⟩
  rcases p5 with p5 | p5
  · rw [p5]; exact h.s
  · rw [p5]; intro e; cases e; omega
def stepL (g : Bs → Option (List Vl × Bs)) : Option (Vl × Bs) → Option (List Vl × Bs)
  | none => none
  | some (v, r) => match g r with
    | none => none
    | some (l, q) => some (v :: l, q)
theorem rdL_step (rec : Ty → Bs → Option (Vl × Bs)) (T : Ty) (i m : Nat) (b : Bs) : rdL rec T i (m + 1) b = stepL (rdL rec T (i + 1) m) (rec (kidT T i) b) := by
  rw [rdL]
  cases rec (kidT T i) b <;> rfl
theorem joinL_step (g : Bs → Option (List Vl × Bs)) (a : List Vl) (v : Vl) (r : Bs) : joinL a (stepL g (some (v, r))) = joinL (a ++ [v]) (g r) := by
  show joinL a (match g r with | none => none | some (l, q) => some (v :: l, q)) = _
  cases g r with
  | none => rfl
  | some x => obtain ⟨l, q⟩ := x; simp [joinL]
/-- The kid that was read, in its box. -/
theorem kid_end {wr V : World} {q KB : Nat} {U : Vl} {kv : Value} {r : Bs} (ht : Touch q wr V) (ha : At V q r) (hz : V.heap[KB]? = some z28) (hKB : wr.heap.size ≤ KB) (hq : q < wr.heap.size) (hv : Vd V (fun b => wr.heap.size ≤ b ∧ b ≠ KB) U kv) :
    ∀ Y, Y = ((((V.setCell ⟨KB, 0, none⟩ (i64 U.kind)).setCell ⟨KB, 1, none⟩ (i64 U.num)).setCell ⟨KB, 2, none⟩ (str U.s)).setCell ⟨KB, 3, none⟩ kv) → Touch q wr Y ∧ At Y q r ∧ Y.heap[KB]? = some (vO U kv) ∧ Vd Y (fun b => wr.heap.size ≤ b) U kv := by
  rintro Y rfl
  refine ⟨touch4 ht hKB _ _ _ _, at4 ha (by omega) _ _ _ _, set4' hz _ _ _ _, hv.move (by simp [World.setCell]) (fun b hb _ => ⟨hb.1, ?_⟩)⟩
  rw [Below.heap_setCell _ _ _ _ (show b ≠ KB from hb.2), Below.heap_setCell _ _ _ _ (show b ≠ KB from hb.2), Below.heap_setCell _ _ _ _ (show b ≠ KB from hb.2), Below.heap_setCell _ _ _ _ (show b ≠ KB from hb.2)]
def CutK (wr : World) (q KB : Nat) (b : Value) (wx : World) : Option (Vl × Bs) → Prop
  | none => b = .bool false ∧ Touch q wr wx
  | some (U, r) => b = .bool true ∧ ∃ a c, Touch q wr wx ∧ At wx q r ∧ wx.heap[KB]? = some (vO U (.slice a U.kids.length c)) ∧ Vd wx (fun b => wr.heap.size ≤ b) U (.slice a U.kids.length c)
set_option maxHeartbeats 6400000 in
theorem kids_3 (f : Nat) (ih : ∀ (T : Ty), T.depth ≤ f → T.formed = true → ∀ (w : World) (q : Nat) (l : Bs) (nv kv : Value), At w q l → Rd w (fun b => b ≠ q) T nv kv → Calls Tryd.prog 35 #[tk q, tyV T.kind T.num nv kv] w (VOk q w (rdV f T l)))
    (w : World) (q m : Nat) (c : UInt8) (r0 : Bs) (tn : Int) (T : Ty) (an at_ : Option Addr) (ln cn lt_ ct : Nat) (h : At w q (c :: r0)) (hc : c.toNat = m) (hTk : T.kind = 3) (hTn : T.num = tn) (hTf : T.formed = true) (hd : T.depth ≤ f + 1) (h3 : T.kind = 3 → 0 < T.kids.length) (h4 : T.kind ≠ 3 → m = T.kids.length)
    (hR : Rd w (fun b => b ≠ q) T (.slice an ln cn) (.slice at_ lt_ ct)) : Calls Tryd.prog 50 #[tk q, .agg #[i64 3, i64 tn, .slice an ln cn, .slice at_ lt_ ct]] w (KOk q w 3 (rdL (rdV f) T 0 m r0)) := by
  have hq := h.lt
  have hm : m < 256 := by rw [← hc]; exact UInt8.toNat_lt c
  have hb0 := below_one w (tyO 3 tn (.slice an ln cn) (.slice at_ lt_ ct))
  have HIh := hid ih
  have HTk := hid hTk
  have HTn := hid hTn
  have HTf := hid hTf
  have HD := hid hd
  have H3 := hid h3
  have H4 := hid h4
  have HRd := hid hR
  have HA0 := hid (at_below h hb0)
  have HN := hid (num_yes _ q 1 m (c :: r0) r0 HA0.out (by rw [rdN_one, hc]))
  obtain ⟨X0, hX0⟩ : ∃ x, x = rdL (rdV f) T 0 m r0 := ⟨_, rfl⟩
  have HX0 := hid hX0
  rw [← hX0]
  have hz := zero28
  clear h hc ih hTk hTn hTf hd h3 h4 hR hX0
  go_enter Tryd.func50, Tryd.ntmps50
  go_wp2_with fail
  refine HN.out.mono ?_
  rintro e w1 ⟨rfl, hw⟩
  have HI1 : Hid (KI w w1 q w.heap.size (tyO 3 tn (.slice an ln cn) (.slice at_ lt_ ct)) (.slice none 0 0) [] r0) := by
    have ht := At.touch (w.alloc (tyO 3 tn (.slice an ln cn) (.slice at_ lt_ ct))) q r0
    have ha := HA0.out.set r0
    rw [← hw] at ht ha
    exact ⟨(ht.block _ (by simp) (by omega)).trans (heap_last w _), VKids.nil _ _ _ _, by simp [Value.ownBlock], ha, (Touch.of_below hb0).trans ht⟩
  have x0 := blk_cell HI1.out.t 0
  have x3 := blk_cell HI1.out.t 3
  clear hw HN HA0 hb0
  go_wp2_with fail
  go_loopw [32, 8] (fun i v wr => ∃ (k : Nat) (Ks : List Kv) (lr : Bs), k ≤ m ∧ i = i64 k ∧ Ks.length = k ∧ Hid (KI w wr q w.heap.size (tyO 3 tn (.slice an ln cn) (.slice at_ lt_ ct)) v Ks lr) ∧ Hid (X0 = joinL (Ks.map (·.1)) (rdL (rdV f) T k (m - k) lr))) (fun i _ _ => m - (intOf i).toNat)
  case atStart => exact ⟨0, [], r0, by omega, rfl, rfl, HI1, by show _ = _; rw [HX0.out, Nat.sub_zero]; cases rdL (rdV f) T 0 m r0 <;> rfl⟩
  case round =>
    obtain ⟨k, Ks, lr, hk, rfl, hKl, HI, HE⟩ := hrel
    obtain ⟨ua, uc, rfl⟩ := HI.out.slice
    rw [hKl] at HI ⊢
    have HKL := hid hKl
    clear hKl
    by_cases hlt2 : k < m
    · have hkI : (k : Int) < m := by omega
      have hk4 : T.kind ≠ 3 → k < T.kids.length := fun e => by have := H4.out e; omega
      have hkd := kid_depth (T := T) (i := k) H3.out hk4
      have HKd : Hid ((kidT T k).depth ≤ f) := by have := HD.out; show _ ≤ _; omega
      have HKf := hid (kidT_formed HTf.out k H3.out hk4)
      have HK4 := hid hk4
      obtain ⟨res, hres⟩ : ∃ res, res = rdV f (kidT T k) lr := ⟨_, rfl⟩
      have HE2 : Hid (X0 = joinL (Ks.map (·.1)) (stepL (rdL (rdV f) T (k + 1) (m - (k + 1))) res)) := by
        have h := HE.out
        have e : m - k = (m - (k + 1)) + 1 := by omega
        rw [e, rdL_step, ← hres] at h
        exact h
      have HQr := hid (Nat.lt_of_lt_of_le hq HI.out.tc.size)
      have HOr : Hid (w.heap.size < wr.heap.size) := blk_lt HI.out.t
      have HC44 : Hid (∀ V, Touch q wr V → Calls Tryd.prog 44 #[.agg #[i64 3, i64 tn, .slice an ln cn, .slice at_ lt_ ct], i64 k] V fun e w' => ∃ a1 c1 a2 c2, e = .returned (.agg #[i64 (kidT T k).kind, i64 (kidT T k).num, .slice a1 (kidT T k).names.length c1, .slice a2 (kidT T k).kids.length c2]) ∧ Below V.heap.size V w' ∧ Rd w' (fun b => b ≠ q) (kidT T k) (.slice a1 (kidT T k).names.length c1) (.slice a2 (kidT T k).kids.length c2)) := fun V hV => by
        have := wbelow_ok T k V (fun b => b ≠ q) _ _ ((HRd.out.touch HI.out.tc).touch hV) H3.out HK4.out
        rw [HTk.out, HTn.out] at this
        exact this
      have HC35 : Hid (∀ V a1 c1 a2 c2, At V q lr → Rd V (fun b => b ≠ q) (kidT T k) (.slice a1 (kidT T k).names.length c1) (.slice a2 (kidT T k).kids.length c2) → Calls Tryd.prog 35 #[tk q, .agg #[i64 (kidT T k).kind, i64 (kidT T k).num, .slice a1 (kidT T k).names.length c1, .slice a2 (kidT T k).kids.length c2]] V (VOk q V res)) := fun V a1 c1 a2 c2 hA hRR => by
        rw [hres]
        exact HIh.out (kidT T k) HKd.out HKf.out V q lr _ _ hA hRR
      clear hres hkd hk4 HE
      generalize kidT T k = TK at *
      have t0 := blk_cell HI.out.t 0
      have t1 := blk_cell HI.out.t 1
      have t2 := blk_cell HI.out.t 2
      have t3 := blk_cell HI.out.t 3
      have HC1 := hid (HC44.out wr (Touch.refl q wr))
      go_wp2_with fail
      refine HC1.out.mono ?_
      rintro e w2 ⟨a1, c1, a2, c2, rfl, hb2, hrd2⟩
      have HC2 := hid (HC35.out w2 a1 c1 a2 c2 (at_below HI.out.a hb2) hrd2)
      have HB2 := hid hb2
      clear hb2 hrd2 HC1 HC44 HC35 t0 t1 t2 t3
      go_wp2_with fail
      refine HC2.out.mono ?_
      clear HC2
      cases res with
      | none =>
        rintro e w3 ⟨⟨k9, n9, t9, a9, m9, c9, rfl⟩, ht3⟩
        have HT3 : Hid (Touch q w w3) := HI.out.tc.trans ((Touch.of_below HB2.out).trans ht3)
        clear ht3
        have hx : X0 = none := by rw [HE2.out]; rfl
        have HX := hid hx
        clear hx
        go_wp2_with fail
        go_ret2
        rw [HX.out]
        exact ⟨rfl, HT3.out.alloc _⟩
      | some x =>
        obtain ⟨U, r9⟩ := x
        rintro e w3 ⟨a9, c9, rfl, ha3, ht3, hv3⟩
        have HB3 := hid (below_one w3 (vO U (.slice a9 U.kids.length c9)))
        have HK3 := hid (heap_last w3 (vO U (.slice a9 U.kids.length c9)))
        have hsz : (w3.alloc (vO U (.slice a9 U.kids.length c9))).heap.size = w3.heap.size + 1 := by simp
        have hI3 := (HI.out.below hq (Nat.le_refl _) HB2.out).touch hq (Nat.le_refl _) ht3 ha3
        have hlo : w.heap.size < w2.heap.size := Nat.lt_of_lt_of_le HOr.out HB2.out.size
        have hlk : ∀ b, (Value.slice ua k uc).ownBlock = some b → b < w2.heap.size := fun b hb => Nat.lt_of_lt_of_le (HI.out.k.own.lt b hb).2 HB2.out.size
        obtain ⟨ao, cap, Y, hrun, hIY, _⟩ := (hI3.below hq (Nat.le_refl _) HB3.out).push hq U a9 _ c9 w2.heap.size hlo hlk (hv3.under HB3.out) (Nat.le_refl _) (by rw [HKL.out]; omega)
        rw [HKL.out, hsz] at hrun
        rw [HKL.out] at hIY
        have HRUN := hid hrun
        have HIY := hid hIY
        have HXn : Hid (X0 = joinL ((Ks ++ [((U, Value.slice a9 U.kids.length c9) : Kv)]).map (·.1)) (rdL (rdV f) T (k + 1) (m - (k + 1)) r9)) := by show _ = _; rw [HE2.out, joinL_step, List.map_append]; rfl
        have hKl2 : (Ks ++ [((U, Value.slice a9 U.kids.length c9) : Kv)]).length = k + 1 := by rw [List.length_append, HKL.out]; rfl
        have HKL2 := hid hKl2
        have k0 := blk_cell HK3.out 0
        have k1 := blk_cell HK3.out 1
        have k2 := blk_cell HK3.out 2
        have k3 := blk_cell HK3.out 3
        clear hrun hIY hI3 hlo hlk hsz ha3 ht3 hv3 hKl2
        go_wp2_with (at_builtin; refine wpList_app_run rfl (.tmp 45) (.tmp 47) 26 rfl _ _ rfl rfl 26 rfl _ _ HRUN.out ?_)
        exact ⟨⟨k + 1, _, r9, by omega, by go_num, HKL2.out, HIY, HXn⟩, by simp [intOf]; omega⟩
    · have hkm : k = m := by omega
      subst hkm
      have hx : X0 = some (Ks.map (·.1), lr) := by rw [HE.out, Nat.sub_self]; simp [joinL, rdL]
      have HX := hid hx
      clear hx
      go_wp2_with fail
      go_ret2
      rw [HX.out]
      have hl : (Ks.map (·.1)).length = k := by rw [List.length_map, HKL.out]
      refine ⟨ua, uc, by rw [hl]; rfl, HI.out.a, HI.out.tc, ?_⟩
      rw [hl]
      exact HI.out.k.rd (Nat.zero_le _) (fun b hb _ => hb.1) (fun b hb => (HI.out.k.own.lt b hb).1)
set_option maxHeartbeats 6400000 in
theorem kids_4 (f : Nat) (ih : ∀ (T : Ty), T.depth ≤ f → T.formed = true → ∀ (w : World) (q : Nat) (l : Bs) (nv kv : Value), At w q l → Rd w (fun b => b ≠ q) T nv kv → Calls Tryd.prog 35 #[tk q, tyV T.kind T.num nv kv] w (VOk q w (rdV f T l)))
    (w : World) (q m : Nat) (c : UInt8) (r0 : Bs) (tn : Int) (T : Ty) (an at_ : Option Addr) (ln cn ct : Nat) (h : At w q (c :: r0)) (hc : c.toNat = m) (hTk : T.kind = 4) (hTn : T.num = tn) (hTf : T.formed = true) (hd : T.depth ≤ f + 1) (h3 : T.kind = 3 → 0 < T.kids.length) (h4 : T.kind ≠ 3 → m = T.kids.length)
    (hR : Rd w (fun b => b ≠ q) T (.slice an ln cn) (.slice at_ m ct)) : Calls Tryd.prog 50 #[tk q, .agg #[i64 4, i64 tn, .slice an ln cn, .slice at_ m ct]] w (KOk q w 4 (rdL (rdV f) T 0 m r0)) := by
  have hq := h.lt
  have hm : m < 256 := by rw [← hc]; exact UInt8.toNat_lt c
  have hb0 := below_one w (tyO 4 tn (.slice an ln cn) (.slice at_ m ct))
  have HIh := hid ih
  have HTk := hid hTk
  have HTn := hid hTn
  have HTf := hid hTf
  have HD := hid hd
  have H3 := hid h3
  have H4 := hid h4
  have HRd := hid hR
  have HA0 := hid (at_below h hb0)
  have HN := hid (num_yes _ q 1 m (c :: r0) r0 HA0.out (by rw [rdN_one, hc]))
  obtain ⟨X0, hX0⟩ : ∃ x, x = rdL (rdV f) T 0 m r0 := ⟨_, rfl⟩
  have HX0 := hid hX0
  rw [← hX0]
  have hz := zero28
  clear h hc ih hTk hTn hTf hd h3 h4 hR hX0
  go_enter Tryd.func50, Tryd.ntmps50
  go_wp2_with fail
  refine HN.out.mono ?_
  rintro e w1 ⟨rfl, hw⟩
  have HI1 : Hid (KI w w1 q w.heap.size (tyO 4 tn (.slice an ln cn) (.slice at_ m ct)) (.slice none 0 0) [] r0) := by
    have ht := At.touch (w.alloc (tyO 4 tn (.slice an ln cn) (.slice at_ m ct))) q r0
    have ha := HA0.out.set r0
    rw [← hw] at ht ha
    exact ⟨(ht.block _ (by simp) (by omega)).trans (heap_last w _), VKids.nil _ _ _ _, by simp [Value.ownBlock], ha, (Touch.of_below hb0).trans ht⟩
  have x0 := blk_cell HI1.out.t 0
  have x3 := blk_cell HI1.out.t 3
  clear hw HN HA0 hb0
  go_wp2_with fail
  go_loopw [32, 8] (fun i v wr => ∃ (k : Nat) (Ks : List Kv) (lr : Bs), k ≤ m ∧ i = i64 k ∧ Ks.length = k ∧ Hid (KI w wr q w.heap.size (tyO 4 tn (.slice an ln cn) (.slice at_ m ct)) v Ks lr) ∧ Hid (X0 = joinL (Ks.map (·.1)) (rdL (rdV f) T k (m - k) lr))) (fun i _ _ => m - (intOf i).toNat)
  case atStart => exact ⟨0, [], r0, by omega, rfl, rfl, HI1, by show _ = _; rw [HX0.out, Nat.sub_zero]; cases rdL (rdV f) T 0 m r0 <;> rfl⟩
  case round =>
    obtain ⟨k, Ks, lr, hk, rfl, hKl, HI, HE⟩ := hrel
    obtain ⟨ua, uc, rfl⟩ := HI.out.slice
    rw [hKl] at HI ⊢
    have HKL := hid hKl
    clear hKl
    by_cases hlt2 : k < m
    · have hkI : (k : Int) < m := by omega
      have hk4 : T.kind ≠ 3 → k < T.kids.length := fun e => by have := H4.out e; omega
      have hkd := kid_depth (T := T) (i := k) H3.out hk4
      have HKd : Hid ((kidT T k).depth ≤ f) := by have := HD.out; show _ ≤ _; omega
      have HKf := hid (kidT_formed HTf.out k H3.out hk4)
      have HK4 := hid hk4
      obtain ⟨res, hres⟩ : ∃ res, res = rdV f (kidT T k) lr := ⟨_, rfl⟩
      have HE2 : Hid (X0 = joinL (Ks.map (·.1)) (stepL (rdL (rdV f) T (k + 1) (m - (k + 1))) res)) := by
        have h := HE.out
        have e : m - k = (m - (k + 1)) + 1 := by omega
        rw [e, rdL_step, ← hres] at h
        exact h
      have HQr := hid (Nat.lt_of_lt_of_le hq HI.out.tc.size)
      have HOr : Hid (w.heap.size < wr.heap.size) := blk_lt HI.out.t
      have HC44 : Hid (∀ V, Touch q wr V → Calls Tryd.prog 44 #[.agg #[i64 4, i64 tn, .slice an ln cn, .slice at_ m ct], i64 k] V fun e w' => ∃ a1 c1 a2 c2, e = .returned (.agg #[i64 (kidT T k).kind, i64 (kidT T k).num, .slice a1 (kidT T k).names.length c1, .slice a2 (kidT T k).kids.length c2]) ∧ Below V.heap.size V w' ∧ Rd w' (fun b => b ≠ q) (kidT T k) (.slice a1 (kidT T k).names.length c1) (.slice a2 (kidT T k).kids.length c2)) := fun V hV => by
        have := wbelow_ok T k V (fun b => b ≠ q) _ _ ((HRd.out.touch HI.out.tc).touch hV) H3.out HK4.out
        rw [HTk.out, HTn.out] at this
        exact this
      have HC35 : Hid (∀ V a1 c1 a2 c2, At V q lr → Rd V (fun b => b ≠ q) (kidT T k) (.slice a1 (kidT T k).names.length c1) (.slice a2 (kidT T k).kids.length c2) → Calls Tryd.prog 35 #[tk q, .agg #[i64 (kidT T k).kind, i64 (kidT T k).num, .slice a1 (kidT T k).names.length c1, .slice a2 (kidT T k).kids.length c2]] V (VOk q V res)) := fun V a1 c1 a2 c2 hA hRR => by
        rw [hres]
        exact HIh.out (kidT T k) HKd.out HKf.out V q lr _ _ hA hRR
      clear hres hkd hk4 HE
      generalize kidT T k = TK at *
      have t0 := blk_cell HI.out.t 0
      have t1 := blk_cell HI.out.t 1
      have t2 := blk_cell HI.out.t 2
      have t3 := blk_cell HI.out.t 3
      have HC1 := hid (HC44.out wr (Touch.refl q wr))
      go_wp2_with fail
      refine HC1.out.mono ?_
      rintro e w2 ⟨a1, c1, a2, c2, rfl, hb2, hrd2⟩
      have HC2 := hid (HC35.out w2 a1 c1 a2 c2 (at_below HI.out.a hb2) hrd2)
      have HB2 := hid hb2
      clear hb2 hrd2 HC1 HC44 HC35 t0 t1 t2 t3
      go_wp2_with fail
      refine HC2.out.mono ?_
      clear HC2
      cases res with
      | none =>
        rintro e w3 ⟨⟨k9, n9, t9, a9, m9, c9, rfl⟩, ht3⟩
        have HT3 : Hid (Touch q w w3) := HI.out.tc.trans ((Touch.of_below HB2.out).trans ht3)
        clear ht3
        have hx : X0 = none := by rw [HE2.out]; rfl
        have HX := hid hx
        clear hx
        go_wp2_with fail
        go_ret2
        rw [HX.out]
        exact ⟨rfl, HT3.out.alloc _⟩
      | some x =>
        obtain ⟨U, r9⟩ := x
        rintro e w3 ⟨a9, c9, rfl, ha3, ht3, hv3⟩
        have HB3 := hid (below_one w3 (vO U (.slice a9 U.kids.length c9)))
        have HK3 := hid (heap_last w3 (vO U (.slice a9 U.kids.length c9)))
        have hsz : (w3.alloc (vO U (.slice a9 U.kids.length c9))).heap.size = w3.heap.size + 1 := by simp
        have hI3 := (HI.out.below hq (Nat.le_refl _) HB2.out).touch hq (Nat.le_refl _) ht3 ha3
        have hlo : w.heap.size < w2.heap.size := Nat.lt_of_lt_of_le HOr.out HB2.out.size
        have hlk : ∀ b, (Value.slice ua k uc).ownBlock = some b → b < w2.heap.size := fun b hb => Nat.lt_of_lt_of_le (HI.out.k.own.lt b hb).2 HB2.out.size
        obtain ⟨ao, cap, Y, hrun, hIY, _⟩ := (hI3.below hq (Nat.le_refl _) HB3.out).push hq U a9 _ c9 w2.heap.size hlo hlk (hv3.under HB3.out) (Nat.le_refl _) (by rw [HKL.out]; omega)
        rw [HKL.out, hsz] at hrun
        rw [HKL.out] at hIY
        have HRUN := hid hrun
        have HIY := hid hIY
        have HXn : Hid (X0 = joinL ((Ks ++ [((U, Value.slice a9 U.kids.length c9) : Kv)]).map (·.1)) (rdL (rdV f) T (k + 1) (m - (k + 1)) r9)) := by show _ = _; rw [HE2.out, joinL_step, List.map_append]; rfl
        have hKl2 : (Ks ++ [((U, Value.slice a9 U.kids.length c9) : Kv)]).length = k + 1 := by rw [List.length_append, HKL.out]; rfl
        have HKL2 := hid hKl2
        have k0 := blk_cell HK3.out 0
        have k1 := blk_cell HK3.out 1
        have k2 := blk_cell HK3.out 2
        have k3 := blk_cell HK3.out 3
        clear hrun hIY hI3 hlo hlk hsz ha3 ht3 hv3 hKl2
        go_wp2_with (at_builtin; refine wpList_app_run rfl (.tmp 45) (.tmp 47) 26 rfl _ _ rfl rfl 26 rfl _ _ HRUN.out ?_)
        exact ⟨⟨k + 1, _, r9, by omega, by go_num, HKL2.out, HIY, HXn⟩, by simp [intOf]; omega⟩
    · have hkm : k = m := by omega
      subst hkm
      have hx : X0 = some (Ks.map (·.1), lr) := by rw [HE.out, Nat.sub_self]; simp [joinL, rdL]
      have HX := hid hx
      clear hx
      go_wp2_with fail
      go_ret2
      rw [HX.out]
      have hl : (Ks.map (·.1)).length = k := by rw [List.length_map, HKL.out]
      refine ⟨ua, uc, by rw [hl]; rfl, HI.out.a, HI.out.tc, ?_⟩
      rw [hl]
      exact HI.out.k.rd (Nat.zero_le _) (fun b hb _ => hb.1) (fun b hb => (HI.out.k.own.lt b hb).1)
end Go.Proofs.YtihbbgcpdgnhoaaDoor
