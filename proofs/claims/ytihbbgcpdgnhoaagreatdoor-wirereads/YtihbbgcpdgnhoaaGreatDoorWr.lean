/- written, below, write, Body; no statement is proved in this text. -/
import Derived.Test.YtihbbgcpdgnhoaaGreatDoorWq
import Derived.Test.YtihbbgcpdgnhoaaGreatDoorBd
import Derived.Test.YtihbbgcpdgnhoaaGreatDoorFi0
namespace Go.Proofs.YtihbbgcpdgnhoaaGreatDoor
open Go.ChangeShapes Go.WideShapes Go.ChangeAt Go.RowKit Go.Deep
attribute [local go_sem ↓] Go.wp_at_zero Go.wp_at_succ
set_option maxRecDepth 100000

set_option maxRecDepth 100000 in
set_option maxHeartbeats 3200000 in
theorem wbelow_ok (T : Ty) (i : Nat) (w : World) (S : Nat → Prop) (nv kv : Value) (hR : Rd w S T nv kv) (h3 : T.kind = 3 → 0 < T.kids.length) (h4 : T.kind ≠ 3 → i < T.kids.length) :
    Calls Tryz.prog 41 #[tyV T.kind T.num nv kv, i64 i] w fun e w' => ∃ a1 c1 a2 c2, e = .returned (tyV (kidT T i).kind (kidT T i).num (.slice a1 (kidT T i).names.length c1) (.slice a2 (kidT T i).kids.length c2)) ∧ Below w.heap.size w w' ∧ Rd w' S (kidT T i) (.slice a1 (kidT T i).names.length c1) (.slice a2 (kidT T i).kids.length c2) := by
  have hln := hR.lens.2
  unfold maxLen at hln
  obtain ⟨j, hj, hjl, hji⟩ : ∃ j, kidT T i = T.kids.getD j (.mk 0 0 [] []) ∧ j < T.kids.length ∧ ((T.kind = 3 ∧ j = 0) ∨ (T.kind ≠ 3 ∧ j = i)) := by
    by_cases h : T.kind = 3
    · exact ⟨0, by unfold kidT; rw [if_pos h], h3 h, Or.inl ⟨h, rfl⟩⟩
    · exact ⟨i, by unfold kidT; rw [if_neg h], h4 h, Or.inr ⟨h, rfl⟩⟩
  rw [getD_lt _ _ _ hjl] at hj
  obtain ⟨U, hU⟩ : ∃ U, U = kidT T i := ⟨_, rfl⟩
  rw [← hU] at hj ⊢
  clear hU h3 h4
  have HRd := hid hR
  obtain ⟨an, cn, rfl, at_, ct, rfl⟩ := hR.form
  obtain ⟨b, off, nv2, kv2, rfl, _, hblt, hr, hrd⟩ := hR.kidAt j hjl
  rw [← hj] at hr hrd
  obtain ⟨an2, cn2, rfl, ak2, ck2, rfl⟩ := hrd.form
  have HRU := hid hrd
  have HX : Hid (((w.alloc (.cells #[i64 T.kind, i64 T.num, .slice an T.names.length cn, .slice (some ⟨b, off, none⟩) T.kids.length ct] 25)).alloc (.cells #[i64 0, i64 0, .slice none 0 0, .slice none 0 0] 25)).heap[w.heap.size]? = some (.cells #[i64 T.kind, i64 T.num, .slice an T.names.length cn, .slice (some ⟨b, off, none⟩) T.kids.length ct] 25)) := blk_alloc (heap_last w _) _
  have HR0 : Hid (((w.alloc (.cells #[i64 T.kind, i64 T.num, .slice an T.names.length cn, .slice (some ⟨b, off, none⟩) T.kids.length ct] 25)).alloc (.cells #[i64 0, i64 0, .slice none 0 0, .slice none 0 0] 25)).heap[w.heap.size + 1]? = some (.cells #[i64 0, i64 0, .slice none 0 0, .slice none 0 0] 25)) := heap_at3 _ _ _ (by simp)
  have HBV : Hid (Below w.heap.size w ((w.alloc (.cells #[i64 T.kind, i64 T.num, .slice an T.names.length cn, .slice (some ⟨b, off, none⟩) T.kids.length ct] 25)).alloc (.cells #[i64 0, i64 0, .slice none 0 0, .slice none 0 0] 25))) := (below_one w _).trans ((below_one _ _).mono (by simp))
  have c0 : ((w.alloc (.cells #[i64 T.kind, i64 T.num, .slice an T.names.length cn, .slice (some ⟨b, off, none⟩) T.kids.length ct] 25)).alloc (.cells #[i64 0, i64 0, .slice none 0 0, .slice none 0 0] 25)).cell? ⟨b, off + j * 4, none⟩ = some (i64 U.kind) := (HBV.out.cell (p := ⟨b, off + j * 4, none⟩) hblt).trans (hr 0 _ rfl)
  have c1 : ((w.alloc (.cells #[i64 T.kind, i64 T.num, .slice an T.names.length cn, .slice (some ⟨b, off, none⟩) T.kids.length ct] 25)).alloc (.cells #[i64 0, i64 0, .slice none 0 0, .slice none 0 0] 25)).cell? ⟨b, off + j * 4 + 1, none⟩ = some (i64 U.num) := (HBV.out.cell (p := ⟨b, off + j * 4 + 1, none⟩) hblt).trans (hr 1 _ rfl)
  have c2 : ((w.alloc (.cells #[i64 T.kind, i64 T.num, .slice an T.names.length cn, .slice (some ⟨b, off, none⟩) T.kids.length ct] 25)).alloc (.cells #[i64 0, i64 0, .slice none 0 0, .slice none 0 0] 25)).cell? ⟨b, off + j * 4 + 2, none⟩ = some (.slice an2 U.names.length cn2) := (HBV.out.cell (p := ⟨b, off + j * 4 + 2, none⟩) hblt).trans (hr 2 _ rfl)
  have c3 : ((w.alloc (.cells #[i64 T.kind, i64 T.num, .slice an T.names.length cn, .slice (some ⟨b, off, none⟩) T.kids.length ct] 25)).alloc (.cells #[i64 0, i64 0, .slice none 0 0, .slice none 0 0] 25)).cell? ⟨b, off + j * 4 + 3, none⟩ = some (.slice ak2 U.kids.length ck2) := (HBV.out.cell (p := ⟨b, off + j * 4 + 3, none⟩) hblt).trans (hr 3 _ rfl)
  have HJ := hid hj
  clear hR hr hrd hj
  go_enter Tryz.func41, Tryz.ntmps41
  go_upto_region 1 with fail
  generalize (w.alloc (.cells #[i64 T.kind, i64 T.num, .slice an T.names.length cn, .slice (some ⟨b, off, none⟩) T.kids.length ct] 25)).alloc (.cells #[i64 0, i64 0, .slice none 0 0, .slice none 0 0] 25) = V0 at *
  obtain ⟨Z, hZ⟩ : ∃ Z, Z = w.heap.size := ⟨_, rfl⟩
  obtain ⟨R, hR⟩ : ∃ R, R = w.heap.size + 1 := ⟨_, rfl⟩
  have HRw : Hid (w.heap.size ≤ R) := by show _ ≤ _; omega
  rw [← hZ] at HX
  rw [← hR] at HR0
  rw [← hR, ← hZ]
  clear hZ hR
  have zc0 : V0.cell? ⟨Z, 0, none⟩ = some (i64 T.kind) := blk_cell HX.out 0
  have zc1 : V0.cell? ⟨Z, 1, none⟩ = some (i64 T.num) := blk_cell HX.out 1
  have zc2 : V0.cell? ⟨Z, 2, none⟩ = some (.slice an T.names.length cn) := blk_cell HX.out 2
  have zc3 : V0.cell? ⟨Z, 3, none⟩ = some (.slice (some ⟨b, off, none⟩) T.kids.length ct) := blk_cell HX.out 3
  have rc0 : V0.cell? ⟨R, 0, none⟩ = some (i64 0) := blk_cell HR0.out 0
  have rf0 : V0.frozen? ⟨R, 0, none⟩ = false := blk_frozen HR0.out 0
  have rc1 : V0.cell? ⟨R, 1, none⟩ = some (i64 0) := blk_cell HR0.out 1
  have rf1 : V0.frozen? ⟨R, 1, none⟩ = false := blk_frozen HR0.out 1
  have rc2 : V0.cell? ⟨R, 2, none⟩ = some (.slice none 0 0) := blk_cell HR0.out 2
  have rf2 : V0.frozen? ⟨R, 2, none⟩ = false := blk_frozen HR0.out 2
  have rc3 : V0.cell? ⟨R, 3, none⟩ = some (.slice none 0 0) := blk_cell HR0.out 3
  have rf3 : V0.frozen? ⟨R, 3, none⟩ = false := blk_frozen HR0.out 3
  have hjI : (j : Int) < T.kids.length := by omega
  rcases hji with ⟨hk, rfl⟩ | ⟨hk, rfl⟩
  · have hkq : (T.kind == 3) = true := by simpa using hk
    have HK := hid hk
    clear hk
    simp only [Nat.zero_mul, Nat.add_zero] at c0 c1 c2 c3
    go_wp2_with fail
    refine bodyPost_ret (v := tyV U.kind U.num (.slice an2 U.names.length cn2) (.slice ak2 U.kids.length ck2)) (results_one Tryz.results41 rfl (load25 (set4 HR0.out _ _ _ _))) rfl ?_
    exact ⟨an2, cn2, ak2, ck2, rfl, bset4 HBV.out HRw.out _ _ _ _, HRU.out.under (bset4 HBV.out HRw.out _ _ _ _)⟩
  · have hkq : (T.kind == 3) = false := by simpa using hk
    have HK := hid hk
    clear hk
    go_wp2_with fail
    refine bodyPost_ret (v := tyV U.kind U.num (.slice an2 U.names.length cn2) (.slice ak2 U.kids.length ck2)) (results_one Tryz.results41 rfl (load25 (set4 HR0.out _ _ _ _))) rfl ?_
    exact ⟨an2, cn2, ak2, ck2, rfl, bset4 HBV.out HRw.out _ _ _ _, HRU.out.under (bset4 HBV.out HRw.out _ _ _ _)⟩

set_option maxHeartbeats 800000 in
theorem written_ok (w : World) (v k : Nat) (h1 : 1 ≤ k) (h4 : k ≤ 4) (hv : v < 256 ^ k) : Calls Tryz.prog 21 #[i64 (v : Nat), i64 (k : Nat)] w fun e w' => e = .returned (str (tb v k)) ∧ Below w.heap.size w w' := by
  have hp : (2 : Nat) ^ (8 * k) = 256 ^ k := by rw [Nat.pow_mul]
  have h32 : v < 4294967296 := by
    have : (256 : Nat) ^ k ≤ 256 ^ 4 := Nat.pow_le_pow_right (by omega) h4
    have e : (256 : Nat) ^ 4 = 4294967296 := rfl
    omega
  have HB := hid (bytes_ok w v k h1 h4 h32 (decide_eq_true (by rw [hp]; exact hv)))
  have hvI : (v : Int) < 4294967296 := by omega
  have hw : IntKind.u32.wrap (v : Int) = (v : Int) := by
    simp [IntKind.wrap, IntKind.bits, IntKind.signed]
    omega
  generalize tb v k = l at *
  clear hv hp
  go_enter Tryz.func21, Tryz.ntmps21
  go_wp2_with fail
  refine HB.out.mono ?_
  rintro e w1 ⟨rfl, hb⟩
  have HB1 := hid hb
  clear hb
  go_wp2_with fail
  go_ret
  exact ⟨rfl, HB1.out⟩
theorem wrtL_snoc (T : Ty) : ∀ (a : List Vl) (v : Vl) (i : Nat), wrtL (a ++ [v]) i T = wrtL a i T ++ wrtV v (kidT T (i + a.length))
  | [], v, i => by simp [wrtL]
  | x :: a, v, i => by
    rw [List.cons_append, wrtL, wrtL, wrtL_snoc T a v (i + 1), List.append_assoc, List.length_cons, show i + 1 + a.length = i + (a.length + 1) by omega]
theorem wrtL_take (T : Ty) (l : List Vl) (k : Nat) (hk : k < l.length) : wrtL (l.take (k + 1)) 0 T = wrtL (l.take k) 0 T ++ wrtV l[k] (kidT T k) := by
  rw [List.take_succ_eq_append_getElem hk, wrtL_snoc, List.length_take, Nat.zero_add, Nat.min_eq_left (by omega)]
theorem wrtL_len (T : Ty) (l : List Vl) (k : Nat) : (wrtL (l.take k) 0 T).length ≤ (wrtL l 0 T).length := by
  have : ∀ (a b : List Vl) (i : Nat), (wrtL a i T).length ≤ (wrtL (a ++ b) i T).length := by
    intro a
    induction a with
    | nil => intro b i; simp [wrtL]
    | cons x a ih =>
      intro b i
      rw [List.cons_append, wrtL, wrtL, List.length_append, List.length_append]
      have := ih b (i + 1)
      omega
  have h := this (l.take k) (l.drop k) 0
  rwa [List.take_append_drop] at h
theorem fitL_get (T : Ty) : ∀ (l : List Vl) (i k : Nat) (hk : k < l.length), fitL l i T → fitV l[k] (kidT T (i + k))
  | v :: l, i, 0, _, h => by simpa using ((fitL_cons v l i T).1 h).1
  | v :: l, i, k + 1, hk, h => by
    have := fitL_get T l (i + 1) k (by simpa using hk) ((fitL_cons v l i T).1 h).2
    rw [show i + 1 + k = i + (k + 1) by omega] at this
    simpa using this
abbrev vO (V : Vl) (kv : Value) : Obj := .cells #[i64 V.kind, i64 V.num, str V.s, kv] 28
abbrev tO (T : Ty) (nv tv : Value) : Obj := .cells #[i64 T.kind, i64 T.num, nv, tv] 25
end Go.Proofs.YtihbbgcpdgnhoaaGreatDoor
