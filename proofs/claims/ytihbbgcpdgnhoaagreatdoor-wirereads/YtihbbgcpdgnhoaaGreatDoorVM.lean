/- Texts Tv Rr Rc in one; no statement is proved in this text. -/
import Derived.Test.YtihbbgcpdgnhoaaGreatDoorKM
import Derived.Test.YtihbbgcpdgnhoaaGreatDoorRM
import Derived.Test.YtihbbgcpdgnhoaaGreatDoorQM
import Derived.Test.YtihbbgcpdgnhoaaGreatDoorDR
import Derived.Test.YtihbbgcpdgnhoaaGreatDoorGv
import Derived.Test.YtihbbgcpdgnhoaaGreatDoorXR
namespace Go.Proofs.YtihbbgcpdgnhoaaGreatDoor
open Go.ChangeShapes Go.WideShapes Go.ChangeAt Go.RowKit Go.Deep

theorem drop_two (s : ByteArray) (a : Nat) (h : a + 2 ≤ s.size) : s.data.toList.drop a = s[a]'(by omega) :: s.data.toList.drop (a + 1) ∧ s.data.toList.drop (a + 1) = s[a + 1]'(by omega) :: s.data.toList.drop (a + 2) := by
  have hz : s.data.toList.length = s.size := by rw [Array.length_toList]; rfl
  refine ⟨?_, ?_⟩
  · rw [List.drop_eq_getElem_cons (by omega)]
    rfl
  · rw [List.drop_eq_getElem_cons (l := s.data.toList) (i := a + 1) (by omega)]
    rfl
theorem rdV_short (f : Nat) (T : Ty) (b : Bs) (h : b.length < 2) : rdV f T b = none := by
  cases f with
  | zero => rfl
  | succ f =>
    rw [rdV]
    cases b with
    | nil => rfl
    | cons c r =>
      obtain rfl : r = [] := by
        cases r with
        | nil => rfl
        | cons d r => exact absurd h (by simp only [List.length_cons]; omega)
      rw [rdN_one]
      simp only []
      have hn : ∀ k, rdN k [] = none ∨ k = 0 := by
        intro k
        unfold rdN
        by_cases hk : k = 0
        · exact .inr hk
        · rw [if_neg (by simp; omega)]; exact .inl rfl
      have h0 : ∀ k, rdN k [] = none := by
        intro k
        rcases hn k with h1 | rfl
        · exact h1
        · rfl
      unfold rdC
      rw [h0, h0]
      simp
theorem gno_gk {w : World} {size : Nat} {e : Ending} {w' : World} (h : GNo w e w') : Gk w size none e w' := ⟨h.2, fun _ => h.1, fun _ _ h2 => by cases h2⟩
theorem rdN_drop (s : ByteArray) (a k : Nat) (h1 : 1 ≤ k) (h4 : k ≤ 4) : (s.size < a + k → rdN k (s.data.toList.drop a) = none) ∧ (a + k ≤ s.size → rdN k (s.data.toList.drop a) = some (nm ((s.data.toList.drop a).take k), s.data.toList.drop (a + k))) := by
  have hz : s.data.toList.length = s.size := by rw [Array.length_toList]; rfl
  refine ⟨fun h => ?_, fun h => ?_⟩
  · unfold rdN
    rw [if_neg (by rw [List.length_drop, hz]; omega)]
  · unfold rdN
    rw [if_pos ⟨h1, h4, by rw [List.length_drop, hz]; omega⟩, List.drop_drop]
theorem gk_leaf {w w' : World} {s : ByteArray} {e : Ending} {k n : Int} {t : Bs} {E : Nat} (hE : E ≤ s.size) (ht : t.length ≤ maxLen) (h : e = .returned (gv k n (str t) (.slice none 0 0) ((E : Nat) : Int)) ∧ Below w.heap.size w w') : Gk w s.size (some (.mk k n t [], s.data.toList.drop E)) e w' := by
  have hz : s.data.toList.length = s.size := by rw [Array.length_toList]; rfl
  refine ⟨h.2, fun h => (by cases h), fun V r hv => ?_⟩
  cases hv
  refine ⟨none, 0, ?_, Vd.leaf _ _ _ _ _ ht _ _⟩
  rw [h.1, List.length_drop, hz, show s.size - (s.size - E) = E by omega]
  rfl
theorem take_ok : ∀ (f : Nat) (T : Ty), T.depth ≤ f → T.formed = true → ∀ (w : World) (s : ByteArray) (a : Nat) (S : Nat → Prop) (nv kv : Value), s.size ≤ 1000000 → a ≤ s.size → Rd w S T nv kv → Calls Tryz.prog 32 #[.string s, i64 (a : Nat), tyV T.kind T.num nv kv] w (Gk w s.size (rdV f T (s.data.toList.drop a)))
  | 0, T, hd, _ => by cases T; simp only [Ty.depth] at hd; omega
  | f + 1, T, hd, hf => by
    intro w s a S nv kv hs ha hR
    obtain ⟨an, cn, rfl, at_, ct, rfl⟩ := hR.form
    have hz : s.data.toList.length = s.size := by rw [Array.length_toList]; rfl
    show Calls Tryz.prog 32 #[.string s, i64 (a : Nat), .agg #[i64 T.kind, i64 T.num, .slice an T.names.length cn, .slice at_ T.kids.length ct]] w _
    by_cases h : s.size < a + 2
    · rw [rdV_short _ _ _ (by rw [List.length_drop, hz]; omega)]
      exact (tk7_short w s a T.kind T.num an at_ _ cn _ ct hs ha h).mono fun e w' h => gno_gk h
    have h : a + 2 ≤ s.size := by omega
    obtain ⟨hd1, hd2⟩ := drop_two s a h
    by_cases hc : ((s[a]'(by omega)).toNat : Int) = T.kind
    · rcases node_kind hf with h1 | h2 | h3 | h4
      · rw [hd1, rdV, rdN_one]
        simp only []
        rw [if_neg (by simp [hc]), if_pos h1]
        rw [h1] at hc ⊢
        have hc1 : (s[a]'(by omega)).toNat = 1 := by omega
        rcases node_1 hf h1 with hn | hn | hn
        · rw [hn]
          show Calls _ _ _ _ (Gk w s.size (match rdN 1 (s.data.toList.drop (a + 1)) with | none => none | some (n, q) => some (.mk 1 n [] [], q)))
          rw [(rdN_drop s (a + 1) 1 (by omega) (by omega)).2 (by omega)]
          exact (tk7_1_8 w s a an at_ _ cn _ ct hs h hc1 (by omega)).mono fun e w' h9 => gk_leaf (by omega) (by simp) h9
        · rw [hn]
          show Calls _ _ _ _ (Gk w s.size (match rdN 2 (s.data.toList.drop (a + 1)) with | none => none | some (n, q) => some (.mk 1 n [] [], q)))
          by_cases he : s.size < a + 1 + 2
          · rw [(rdN_drop s (a + 1) 2 (by omega) (by omega)).1 he]
            exact (tk7_1_16_no w s a an at_ _ cn _ ct hs h hc1 he).mono fun e w' h => gno_gk h
          · rw [(rdN_drop s (a + 1) 2 (by omega) (by omega)).2 (by omega)]
            exact (tk7_1_16 w s a an at_ _ cn _ ct hs h hc1 (by omega)).mono fun e w' h9 => gk_leaf (by omega) (by simp) h9
        · rw [hn]
          show Calls _ _ _ _ (Gk w s.size (match rdN 4 (s.data.toList.drop (a + 1)) with | none => none | some (n, q) => some (.mk 1 n [] [], q)))
          by_cases he : s.size < a + 1 + 4
          · rw [(rdN_drop s (a + 1) 4 (by omega) (by omega)).1 he]
            exact (tk7_1_32_no w s a an at_ _ cn _ ct hs h hc1 he).mono fun e w' h => gno_gk h
          · rw [(rdN_drop s (a + 1) 4 (by omega) (by omega)).2 (by omega)]
            exact (tk7_1_32 w s a an at_ _ cn _ ct hs h hc1 (by omega)).mono fun e w' h9 => gk_leaf (by omega) (by simp) h9
      · rw [hd1, rdV, rdN_one]
        simp only []
        rw [if_neg (by simp [hc]), if_neg (by omega), if_pos h2]
        rw [h2] at hc ⊢
        have hc2 : (s[a]'(by omega)).toNat = 2 := by omega
        unfold rdC
        rw [hd2, rdN_one]
        simp only []
        have hm := (s[a + 1]'(by omega)).toNat_lt
        by_cases he : s.size < a + 2 + (s[a + 1]'(by omega)).toNat
        · rw [if_neg (by rw [List.length_drop, hz]; omega)]
          exact (tk7_2_no w s a _ an at_ _ cn _ ct hs h hc2 he).mono fun e w' h => gno_gk h
        · rw [if_pos (by rw [List.length_drop, hz]; omega), List.drop_drop]
          exact (tk7_2 w s a _ _ an at_ _ cn _ ct hs h hc2 rfl (by omega)).mono fun e w' h9 => gk_leaf (by omega) (by rw [List.length_take]; unfold maxLen; omega) h9
      · have hn := node_3 hf h3
        have hk : ∀ W, Below w.heap.size w W → Calls Tryz.prog 54 #[.string s, i64 (a : Nat), .agg #[i64 3, i64 T.num, .slice an T.names.length cn, .slice at_ T.kids.length ct]] W (Gk W s.size (resK 3 (rdL (rdV f) T 0 (s[a + 1]'(by omega)).toNat (s.data.toList.drop (a + 2))))) := fun W hW =>
          kids7_3 W s a _ f T.num T an at_ _ cn _ ct S hs h rfl h3 rfl hf (fun _ => by omega) (fun e => absurd h3 e) (hR.under hW) fun P hP hi W2 S2 nv tv b hb hR2 => by
            obtain ⟨i, rfl, hi4⟩ := hi
            have hkd := kid_depth (T := T) (i := i) (fun _ => by omega) hi4
            exact take_ok f _ (by omega) hP W2 s b S2 nv tv hs hb hR2
        have hr : rdV (f + 1) T (s.data.toList.drop a) = resK 3 (rdL (rdV f) T 0 (s[a + 1]'(by omega)).toNat (s.data.toList.drop (a + 2))) := by
          rw [hd1, rdV_kids f T _ _ hc (by omega) (by omega), hd2, h3]
          unfold kidsR
          rw [rdN_one]
          simp only []
          rw [if_neg (by omega)]
          rfl
        rw [hr]
        rw [h3] at hc ⊢
        generalize resK 3 (rdL (rdV f) T 0 (s[a + 1]'(by omega)).toNat (s.data.toList.drop (a + 2))) = X at hk ⊢
        cases X with
        | none => exact (tk7_l3_no w s a _ an at_ _ cn _ ct hs h (by omega) fun W hW => (hk W hW).mono fun e w' h => ⟨h.no rfl, h.b⟩).mono fun e w' h => gno_gk h
        | some x =>
          obtain ⟨V, r⟩ := x
          refine (tk7_l3 w s a T.num V ((s.size - r.length : Nat) : Int) an at_ _ cn _ ct hs h (by omega) fun W hW => (hk W hW).mono fun e w' h => ?_).mono fun e w' h => ?_
          · obtain ⟨p, c, e1, hv⟩ := h.yes V r rfl
            exact ⟨p, c, e1, h.b, hv⟩
          · obtain ⟨p, c, e1, hb, hv⟩ := h
            exact ⟨hb, fun h => (by cases h), fun V2 r2 h2 => (by cases h2; exact ⟨p, c, e1, hv⟩)⟩
      · have hn := node_4 hf h4
        by_cases hm : (s[a + 1]'(by omega)).toNat = T.kids.length
        · have hk : ∀ W, Below w.heap.size w W → Calls Tryz.prog 54 #[.string s, i64 (a : Nat), .agg #[i64 4, i64 T.num, .slice an T.names.length cn, .slice at_ T.kids.length ct]] W (Gk W s.size (resK 4 (rdL (rdV f) T 0 (s[a + 1]'(by omega)).toNat (s.data.toList.drop (a + 2))))) := fun W hW =>
            kids7_4 W s a _ f T.num T an at_ _ cn _ ct S hs h rfl h4 rfl hf (fun e => by omega) (fun _ => by omega) hm (hR.under hW) fun P hP hi W2 S2 nv tv b hb hR2 => by
              obtain ⟨i, rfl, hi4⟩ := hi
              have hkd := kid_depth (T := T) (i := i) (fun e => by omega) hi4
              exact take_ok f _ (by omega) hP W2 s b S2 nv tv hs hb hR2
          have hr : rdV (f + 1) T (s.data.toList.drop a) = resK 4 (rdL (rdV f) T 0 (s[a + 1]'(by omega)).toNat (s.data.toList.drop (a + 2))) := by
            rw [hd1, rdV_kids f T _ _ hc (by omega) (by omega), hd2, h4]
            unfold kidsR
            rw [rdN_one]
            simp only []
            rw [if_neg (fun e => e.2 hm)]
            rfl
          rw [hr]
          rw [h4] at hc ⊢
          generalize resK 4 (rdL (rdV f) T 0 (s[a + 1]'(by omega)).toNat (s.data.toList.drop (a + 2))) = X at hk ⊢
          cases X with
          | none => exact (tk7_l4_no w s a _ an at_ _ cn _ ct hs h (by omega) fun W hW => (hk W hW).mono fun e w' h => ⟨h.no rfl, h.b⟩).mono fun e w' h => gno_gk h
          | some x =>
            obtain ⟨V, r⟩ := x
            refine (tk7_l4 w s a T.num V ((s.size - r.length : Nat) : Int) an at_ _ cn _ ct hs h (by omega) fun W hW => (hk W hW).mono fun e w' h => ?_).mono fun e w' h => ?_
            · obtain ⟨p, c, e1, hv⟩ := h.yes V r rfl
              exact ⟨p, c, e1, h.b, hv⟩
            · obtain ⟨p, c, e1, hb, hv⟩ := h
              exact ⟨hb, fun h => (by cases h), fun V2 r2 h2 => (by cases h2; exact ⟨p, c, e1, hv⟩)⟩
        · have hr : rdV (f + 1) T (s.data.toList.drop a) = none := by
            rw [hd1, rdV_kids f T _ _ hc (by omega) (by omega), hd2]
            unfold kidsR
            rw [rdN_one]
            simp only []
            rw [if_pos ⟨h4, hm⟩]
            rfl
          rw [hr]
          rw [h4] at hc ⊢
          exact (tk7_l4_no w s a _ an at_ _ cn _ ct hs h (by omega) fun W hW => kids4_no W s a _ an at_ _ cn _ ct hs h hm).mono fun e w' h => gno_gk h
    · have hr : rdV (f + 1) T (s.data.toList.drop a) = none := by
        rw [hd1, rdV, rdN_one]
        simp only []
        rw [if_pos hc]
      rw [hr]
      exact (tk7_tag w s a _ _ an at_ _ cn _ ct hs h hc).mono fun e w' h => gno_gk h
end Go.Proofs.YtihbbgcpdgnhoaaGreatDoor
namespace Go.Proofs.YtihbbgcpdgnhoaaGreatDoor
open Go.ChangeShapes Go.WideShapes Go.ChangeAt Go.RowKit Go.Deep
attribute [local go_sem ↓] Go.wp_at_zero Go.wp_at_succ

abbrev rsO (v : Int) (T : Ty) (V : Vl) (nv tv kv : Value) : Obj := .cells #[i64 v, i64 T.kind, i64 T.num, nv, tv, i64 V.kind, i64 V.num, str V.s, kv] 40
theorem zero40 (w : World) : (zeroValue 40).run Tryz.prog w = .ok (.agg #[i64 0, i64 0, i64 0, .slice none 0 0, .slice none 0 0, i64 0, i64 0, str [], .slice none 0 0]) w := by kernel_rfl
abbrev z40 : Obj := .cells #[i64 0, i64 0, i64 0, .slice none 0 0, .slice none 0 0, i64 0, i64 0, str [], .slice none 0 0] 40
theorem vload40 {W : World} {b : Nat} {v : Int} {T : Ty} {V : Vl} {nv tv kv : Value} (h : W.heap[b]? = some (rsO v T V nv tv kv)) : (loadVar 40 ⟨b, 0, none⟩).run Tryz.prog W = .ok (stV v T V nv tv kv) W := by
  refine run_loadVar_mid _ _ 0 40 [i64 v, i64 T.kind, i64 T.num, nv, tv, i64 V.kind, i64 V.num, str V.s, kv] _ (fun j u hu => ?_) Tryz.underlying40 rfl (by kernel_rfl)
  rw [Nat.zero_add, cell_of_row _ _ _ _ 40 (0, 0) h]
  simpa using hu
theorem below9 {w W : World} {lo R : Nat} (h : Below lo w W) (hR : lo ≤ R) (p0 p1 p2 p3 p4 p5 p6 p7 p8 : Value) : Below lo w (((((((((W.setCell ⟨R, 0, none⟩ p0).setCell ⟨R, 1, none⟩ p1).setCell ⟨R, 2, none⟩ p2).setCell ⟨R, 3, none⟩ p3).setCell ⟨R, 4, none⟩ p4).setCell ⟨R, 5, none⟩ p5).setCell ⟨R, 6, none⟩ p6).setCell ⟨R, 7, none⟩ p7).setCell ⟨R, 8, none⟩ p8) :=
  ((((((((h.setCell (p := ⟨R, 0, none⟩) hR p0).setCell (p := ⟨R, 1, none⟩) hR p1).setCell (p := ⟨R, 2, none⟩) hR p2).setCell (p := ⟨R, 3, none⟩) hR p3).setCell (p := ⟨R, 4, none⟩) hR p4).setCell (p := ⟨R, 5, none⟩) hR p5).setCell (p := ⟨R, 6, none⟩) hR p6).setCell (p := ⟨R, 7, none⟩) hR p7).setCell (p := ⟨R, 8, none⟩) hR p8
theorem nm_two (c d : UInt8) : nm [c, d] = 256 * c.toNat + d.toNat := by
  rw [nm_cons, nm_one]
  simp
  omega
/-- What is read behind the head. -/
def rdB (n : Nat) (t r : Bs) : Option (Nat × Ty × Vl) := match parseF t with
  | none => none
  | some T => match rdV 6 T r with
    | some (V, []) => if fitsB V T = true then some (n, T, V) else none
    | _ => none
theorem rdR_5 (a c x y z : UInt8) (r : Bs) : rdR (a :: c :: x :: y :: z :: r) = if a = 105 ∧ c = 109 then (if 256 * y.toNat + z.toNat ≤ r.length then rdB x.toNat (r.take (256 * y.toNat + z.toNat)) (r.drop (256 * y.toNat + z.toNat)) else none) else none := by
  unfold rdR rdS
  simp only []
  by_cases h : a = 105 ∧ c = 109
  · rw [if_pos h, if_pos h, rdN_one]
    simp only []
    have h2 : rdN 2 (y :: z :: r) = some (256 * y.toNat + z.toNat, r) := by
      unfold rdN
      rw [if_pos ⟨by omega, by omega, by simp⟩]
      show some (nm [y, z], r) = _
      rw [nm_two]
    unfold rdC
    rw [h2]
    simp only []
    by_cases hn : 256 * y.toNat + z.toNat ≤ r.length
    · rw [if_pos hn, if_pos hn]
      simp only []
      unfold rdB
      cases parseF (r.take (256 * y.toNat + z.toNat)) with
      | none => rfl
      | some T =>
        simp only []
        cases rdV 6 T (r.drop (256 * y.toNat + z.toNat)) with
        | none => rfl
        | some q =>
          obtain ⟨V, p⟩ := q
          cases p <;> rfl
    · rw [if_neg hn, if_neg hn]
  · rw [if_neg h, if_neg h]
theorem rdR_short (b : Bs) (h : b.length < 5) : rdR b = none := by
  have h0 : ∀ k l, l.length < k → rdN k l = none := by
    intro k l hl
    unfold rdN
    rw [if_neg (by omega)]
  unfold rdR rdS
  match b, h with
  | [], _ => rfl
  | [a], _ => rfl
  | [a, c], _ =>
    simp only []
    by_cases h : a = 105 ∧ c = 109
    · rw [if_pos h, h0 _ _ (by simp)]
    · rw [if_neg h]
  | a :: c :: x :: r, h =>
    simp only []
    by_cases h1 : a = 105 ∧ c = 109
    · rw [if_pos h1, rdN_one]
      simp only []
      unfold rdC
      rw [h0 2 r (by simp only [List.length_cons] at h; omega)]
    · rw [if_neg h1]
set_option maxRecDepth 100000 in
set_option maxHeartbeats 12800000 in
theorem rread_long (w : World) (s : ByteArray) (hl : 6000 < s.size) : Calls Tryz.prog 14 #[.string s] w (RNo 2 w) := by
  obtain ⟨R, hR⟩ : ∃ R, R = w.heap.size := ⟨_, rfl⟩
  have HR0 : Hid ((w.alloc z40).heap[R]? = some z40) := by rw [hR]; exact heap_last w z40
  have HB0 := hid (below_one w z40)
  have HRe : Hid (w.heap.size ≤ R) := by show _ ≤ _; omega
  have hz := zero40
  have hI : (6000 : Int) < s.size := by omega
  clear hl
  go_enter Tryz.func14, Tryz.ntmps14
  go_upto_region 1 with fail
  rw [← hR]
  clear hR
  generalize w.alloc z40 = w1 at *
  have r0 : w1.cell? ⟨R, 0, none⟩ = some (i64 0) := blk_cell HR0.out 0
  have r1 : w1.cell? ⟨R, 1, none⟩ = some (i64 0) := blk_cell HR0.out 1
  have r2 : w1.cell? ⟨R, 2, none⟩ = some (i64 0) := blk_cell HR0.out 2
  have r3 : w1.cell? ⟨R, 3, none⟩ = some (.slice none 0 0) := blk_cell HR0.out 3
  have r4 : w1.cell? ⟨R, 4, none⟩ = some (.slice none 0 0) := blk_cell HR0.out 4
  have r5 : w1.cell? ⟨R, 5, none⟩ = some (i64 0) := blk_cell HR0.out 5
  have r6 : w1.cell? ⟨R, 6, none⟩ = some (i64 0) := blk_cell HR0.out 6
  have r7 : w1.cell? ⟨R, 7, none⟩ = some (str []) := blk_cell HR0.out 7
  have r8 : w1.cell? ⟨R, 8, none⟩ = some (.slice none 0 0) := blk_cell HR0.out 8
  have rf := blk_frozen HR0.out
  go_wp2_with fail
  exact bodyPost_ret (results_cell Tryz.results14 rfl rfl (vload40 (v := 0) (T := .mk 0 0 [] []) (V := .mk 0 0 [] []) (set9 HR0.out _ _ _ _ _ _ _ _ _))) rfl (show RNo 2 w _ _ from ⟨rfl, below9 HB0.out HRe.out _ _ _ _ _ _ _ _ _⟩)
set_option maxRecDepth 100000 in
set_option maxHeartbeats 12800000 in
theorem rread_short (w : World) (s : ByteArray) (hl : s.size < 5) : Calls Tryz.prog 14 #[.string s] w (RNo 4 w) := by
  obtain ⟨R, hR⟩ : ∃ R, R = w.heap.size := ⟨_, rfl⟩
  have HR0 : Hid ((w.alloc z40).heap[R]? = some z40) := by rw [hR]; exact heap_last w z40
  have HB0 := hid (below_one w z40)
  have HRe : Hid (w.heap.size ≤ R) := by show _ ≤ _; omega
  have hz := zero40
  have hI : ¬ (6000 : Int) < s.size := by omega
  have hI5 : (s.size : Int) < 5 := by omega
  clear hl
  go_enter Tryz.func14, Tryz.ntmps14
  go_upto_region 1 with fail
  rw [← hR]
  clear hR
  generalize w.alloc z40 = w1 at *
  have r0 : w1.cell? ⟨R, 0, none⟩ = some (i64 0) := blk_cell HR0.out 0
  have r1 : w1.cell? ⟨R, 1, none⟩ = some (i64 0) := blk_cell HR0.out 1
  have r2 : w1.cell? ⟨R, 2, none⟩ = some (i64 0) := blk_cell HR0.out 2
  have r3 : w1.cell? ⟨R, 3, none⟩ = some (.slice none 0 0) := blk_cell HR0.out 3
  have r4 : w1.cell? ⟨R, 4, none⟩ = some (.slice none 0 0) := blk_cell HR0.out 4
  have r5 : w1.cell? ⟨R, 5, none⟩ = some (i64 0) := blk_cell HR0.out 5
  have r6 : w1.cell? ⟨R, 6, none⟩ = some (i64 0) := blk_cell HR0.out 6
  have r7 : w1.cell? ⟨R, 7, none⟩ = some (str []) := blk_cell HR0.out 7
  have r8 : w1.cell? ⟨R, 8, none⟩ = some (.slice none 0 0) := blk_cell HR0.out 8
  have rf := blk_frozen HR0.out
  go_wp2_with fail
  exact bodyPost_ret (results_cell Tryz.results14 rfl rfl (vload40 (v := 0) (T := .mk 0 0 [] []) (V := .mk 0 0 [] []) (set9 HR0.out _ _ _ _ _ _ _ _ _))) rfl (show RNo 4 w _ _ from ⟨rfl, below9 HB0.out HRe.out _ _ _ _ _ _ _ _ _⟩)
set_option maxRecDepth 100000 in
set_option maxHeartbeats 12800000 in
theorem rread_im (w : World) (s : ByteArray) (h6 : s.size ≤ 6000) (hl : 5 ≤ s.size) (him : s.data.toList.take 2 ≠ [105, 109]) : Calls Tryz.prog 14 #[.string s] w (RNo 4 w) := by
  obtain ⟨R, hR⟩ : ∃ R, R = w.heap.size := ⟨_, rfl⟩
  have HR0 : Hid ((w.alloc z40).heap[R]? = some z40) := by rw [hR]; exact heap_last w z40
  have HB0 := hid (below_one w z40)
  have HRe : Hid (w.heap.size ≤ R) := by show _ ≤ _; omega
  have hz := zero40
  have hI : ¬ (6000 : Int) < s.size := by omega
  have hI5 : ¬ (s.size : Int) < 5 := by omega
  have hsl : ∀ W : World, (Instr.slice 9 (.string s) none (some (i64 2)) none).run Tryz.prog W = .ok (str (s.data.toList.take 2)) W := fun W => sl_lk W s 0 2 (by omega) (by omega)
  generalize s.data.toList.take 2 = D at *
  have hq : (D == [105, 109]) = false := beq_false_of_ne him
  clear hl him h6
  go_enter Tryz.func14, Tryz.ntmps14
  go_upto_region 1 with fail
  rw [← hR]
  clear hR
  generalize w.alloc z40 = w1 at *
  have r0 : w1.cell? ⟨R, 0, none⟩ = some (i64 0) := blk_cell HR0.out 0
  have r1 : w1.cell? ⟨R, 1, none⟩ = some (i64 0) := blk_cell HR0.out 1
  have r2 : w1.cell? ⟨R, 2, none⟩ = some (i64 0) := blk_cell HR0.out 2
  have r3 : w1.cell? ⟨R, 3, none⟩ = some (.slice none 0 0) := blk_cell HR0.out 3
  have r4 : w1.cell? ⟨R, 4, none⟩ = some (.slice none 0 0) := blk_cell HR0.out 4
  have r5 : w1.cell? ⟨R, 5, none⟩ = some (i64 0) := blk_cell HR0.out 5
  have r6 : w1.cell? ⟨R, 6, none⟩ = some (i64 0) := blk_cell HR0.out 6
  have r7 : w1.cell? ⟨R, 7, none⟩ = some (str []) := blk_cell HR0.out 7
  have r8 : w1.cell? ⟨R, 8, none⟩ = some (.slice none 0 0) := blk_cell HR0.out 8
  have rf := blk_frozen HR0.out
  go_wp2_with fail
  exact bodyPost_ret (results_cell Tryz.results14 rfl rfl (vload40 (v := 0) (T := .mk 0 0 [] []) (V := .mk 0 0 [] []) (set9 HR0.out _ _ _ _ _ _ _ _ _))) rfl (show RNo 4 w _ _ from ⟨rfl, below9 HB0.out HRe.out _ _ _ _ _ _ _ _ _⟩)
set_option maxRecDepth 100000 in
set_option maxHeartbeats 12800000 in
theorem rread_end (w : World) (s : ByteArray) (n : Nat) (h6 : s.size ≤ 6000) (hl : 5 ≤ s.size) (him : s.data.toList.take 2 = [105, 109]) (hn : 256 * (s[3]'(by omega)).toNat + (s[4]'(by omega)).toNat = n) (hlong : s.size < 5 + n) : Calls Tryz.prog 14 #[.string s] w (RNo 4 w) := by
  obtain ⟨R, hR⟩ : ∃ R, R = w.heap.size := ⟨_, rfl⟩
  have HR0 : Hid ((w.alloc z40).heap[R]? = some z40) := by rw [hR]; exact heap_last w z40
  have HB0 := hid (below_one w z40)
  have HRe : Hid (w.heap.size ≤ R) := by show _ ≤ _; omega
  have hz := zero40
  have hI : ¬ (6000 : Int) < s.size := by omega
  have hI5 : ¬ (s.size : Int) < 5 := by omega
  have hsl : ∀ W : World, (Instr.slice 9 (.string s) none (some (i64 2)) none).run Tryz.prog W = .ok (str [105, 109]) W := fun W => by rw [← him]; exact sl_lk W s 0 2 (by omega) (by omega)
  have hlt3 : 3 < s.size := by omega
  have hlt3I : (3 : Int) < s.size := by omega
  have hlt4 : 4 < s.size := by omega
  have hlt4I : (4 : Int) < s.size := by omega
  have hb3 := s[3].toNat_lt
  have hb4 := s[4].toNat_lt
  have hnI : (256 : Int) * ((s[3].toNat : Nat) : Int) + ((s[4].toNat : Nat) : Int) = ((n : Nat) : Int) := by omega
  have hnU : n ≤ 65535 := by omega
  go_enter Tryz.func14, Tryz.ntmps14
  go_upto_region 1 with fail
  rw [← hR]
  clear hR
  generalize w.alloc z40 = w1 at *
  go_upto_region 5 with fail
  have HSd : Hid ((fun W : World => W.heap[R]? = some z40) w1.drew) := HR0.out
  refine wp_region_noPanic ?_
  refine wp_region_last (fun W : World => W.heap[R]? = some z40) 8 (by kernel_rfl) ?_
  refine wpL_take 0 21 (.string s) [] rfl rfl (by kernel_rfl) (by decide) (by kernel_rfl) (by kernel_rfl) (by kernel_rfl) (fun _ _ _ h => h) HSd.out (by rfl) (fun W hW => by go_simp) ?_
  simp only [Act.put, List.setIfInBounds_toArray, List.set_cons_zero, List.set_cons_succ]
  refine wpL_take 1 22 (.int .u8 (s[3].toNat : Nat)) [] rfl rfl (by kernel_rfl) (by decide) (by kernel_rfl) (by kernel_rfl) (by kernel_rfl) (fun _ _ _ h => h) HSd.out (by rfl) (fun W hW => by go_simp) ?_
  simp only [Act.put, List.setIfInBounds_toArray, List.set_cons_zero, List.set_cons_succ]
  refine wpL_take 2 23 (i64 (s[3].toNat : Nat)) [] rfl rfl (by kernel_rfl) (by decide) (by kernel_rfl) (by kernel_rfl) (by kernel_rfl) (fun _ _ _ h => h) HSd.out (by rfl) (fun W hW => by go_simp; exact wrap_id (by omega) (by omega)) ?_
  simp only [Act.put, List.setIfInBounds_toArray, List.set_cons_zero, List.set_cons_succ]
  refine wpL_take 3 24 (i64 ((256 : Int) * ((s[3].toNat : Nat) : Int))) [] rfl rfl (by kernel_rfl) (by decide) (by kernel_rfl) (by kernel_rfl) (by kernel_rfl) (fun _ _ _ h => h) HSd.out (by rfl) (fun W hW => by go_simp; exact wrap_id (by omega) (by omega)) ?_
  simp only [Act.put, List.setIfInBounds_toArray, List.set_cons_zero, List.set_cons_succ]
  refine wpL_take 4 25 (.string s) [] rfl rfl (by kernel_rfl) (by decide) (by kernel_rfl) (by kernel_rfl) (by kernel_rfl) (fun _ _ _ h => h) HSd.out (by rfl) (fun W hW => by go_simp) ?_
  simp only [Act.put, List.setIfInBounds_toArray, List.set_cons_zero, List.set_cons_succ]
  refine wpL_take 5 26 (.int .u8 (s[4].toNat : Nat)) [] rfl rfl (by kernel_rfl) (by decide) (by kernel_rfl) (by kernel_rfl) (by kernel_rfl) (fun _ _ _ h => h) HSd.out (by rfl) (fun W hW => by go_simp) ?_
  simp only [Act.put, List.setIfInBounds_toArray, List.set_cons_zero, List.set_cons_succ]
  refine wpL_take 6 27 (i64 (s[4].toNat : Nat)) [] rfl rfl (by kernel_rfl) (by decide) (by kernel_rfl) (by kernel_rfl) (by kernel_rfl) (fun _ _ _ h => h) HSd.out (by rfl) (fun W hW => by go_simp; exact wrap_id (by omega) (by omega)) ?_
  simp only [Act.put, List.setIfInBounds_toArray, List.set_cons_zero, List.set_cons_succ]
  refine wpL_take 7 28 (i64 (n : Nat)) [] rfl rfl (by kernel_rfl) (by decide) (by kernel_rfl) (by kernel_rfl) (by kernel_rfl) (fun _ _ _ h => h) HSd.out (by rfl) (fun W hW => by go_simp; exact wrap_id (by omega) (by omega)) ?_
  simp only [Act.put, List.setIfInBounds_toArray, List.set_cons_zero, List.set_cons_succ]
  refine wpL_one 8 rfl (by kernel_rfl) (by rfl) (fun K hK => ?_)
  go_simp
  refine hK.out _ _ (fun h => absurd rfl h) ?_
  clear hK K
  refine wpL_done (by kernel_rfl) ?_
  refine NoPanic.normal ?_
  have HR1 : Hid (w1.drew.heap[R]? = some z40) := HR0.out
  have HB1 : Hid (Below w.heap.size w w1.drew) := HB0.out.drew
  clear HSd HR0 HB0 hb3 hb4
  generalize w1.drew = w2 at *
  have hlI : (s.size : Int) < 5 + (n : Int) := by omega
  have r0 : w2.cell? ⟨R, 0, none⟩ = some (i64 0) := blk_cell HR1.out 0
  have r1 : w2.cell? ⟨R, 1, none⟩ = some (i64 0) := blk_cell HR1.out 1
  have r2 : w2.cell? ⟨R, 2, none⟩ = some (i64 0) := blk_cell HR1.out 2
  have r3 : w2.cell? ⟨R, 3, none⟩ = some (.slice none 0 0) := blk_cell HR1.out 3
  have r4 : w2.cell? ⟨R, 4, none⟩ = some (.slice none 0 0) := blk_cell HR1.out 4
  have r5 : w2.cell? ⟨R, 5, none⟩ = some (i64 0) := blk_cell HR1.out 5
  have r6 : w2.cell? ⟨R, 6, none⟩ = some (i64 0) := blk_cell HR1.out 6
  have r7 : w2.cell? ⟨R, 7, none⟩ = some (str []) := blk_cell HR1.out 7
  have r8 : w2.cell? ⟨R, 8, none⟩ = some (.slice none 0 0) := blk_cell HR1.out 8
  have rf := blk_frozen HR1.out
  go_wp2_with fail
  exact bodyPost_ret (results_cell Tryz.results14 rfl rfl (vload40 (v := 0) (T := .mk 0 0 [] []) (V := .mk 0 0 [] []) (set9 HR1.out _ _ _ _ _ _ _ _ _))) rfl (show RNo 4 w _ _ from ⟨rfl, below9 HB1.out HRe.out _ _ _ _ _ _ _ _ _⟩)
structure Py (P G : Nat) (o q : Obj) (W : World) : Prop where
  p : W.heap[P]? = some o
  g : W.heap[G]? = some q
set_option maxRecDepth 100000 in
set_option maxHeartbeats 12800000 in
theorem rread_in (w : World) (s : ByteArray) (n : Nat) (t : Bs) (X : Option (Nat × Ty × Vl)) (h6 : s.size ≤ 6000) (hl : 5 ≤ s.size) (him : s.data.toList.take 2 = [105, 109]) (hn : 256 * (s[3]'(by omega)).toNat + (s[4]'(by omega)).toNat = n) (hlong : 5 + n ≤ s.size) (ht : (s.data.toList.drop 5).take n = t) (hX : X = rdB (s[2]'(by omega)).toNat t (s.data.toList.drop (5 + n))) : Calls Tryz.prog 14 #[.string s] w (ROk w X) := by
  obtain ⟨R, hR⟩ : ∃ R, R = w.heap.size := ⟨_, rfl⟩
  have HR0 : Hid ((w.alloc z40).heap[R]? = some z40) := by rw [hR]; exact heap_last w z40
  have HB0 := hid (below_one w z40)
  have HRe : Hid (w.heap.size ≤ R) := by show _ ≤ _; omega
  have hz := zero40
  have hI : ¬ (6000 : Int) < s.size := by omega
  have hI5 : ¬ (s.size : Int) < 5 := by omega
  have hsl : ∀ W : World, (Instr.slice 9 (.string s) none (some (i64 2)) none).run Tryz.prog W = .ok (str [105, 109]) W := fun W => by rw [← him]; exact sl_lk W s 0 2 (by omega) (by omega)
  have hlt3 : 3 < s.size := by omega
  have hlt3I : (3 : Int) < s.size := by omega
  have hlt4 : 4 < s.size := by omega
  have hlt4I : (4 : Int) < s.size := by omega
  have hb3 := s[3].toNat_lt
  have hb4 := s[4].toNat_lt
  have hnI : (256 : Int) * ((s[3].toNat : Nat) : Int) + ((s[4].toNat : Nat) : Int) = ((n : Nat) : Int) := by omega
  have hnU : n ≤ 65535 := by omega
  have HSL : Hid (∀ W : World, (Instr.slice 9 (.string s) (some (i64 5)) (some (i64 (5 + (n : Int)))) none).run Tryz.prog W = .ok (str t) W) := fun W => by
    have := sl_i W s 5 (5 + n) 5 (5 + (n : Int)) rfl (by omega) (by omega) (by omega)
    rw [show 5 + n - 5 = n by omega, ht] at this
    exact this
  have htl : t.length = n := by rw [← ht]; exact cut_len s 5 n hlong
  have HC : Hid (∀ W : World, Calls Tryz.prog 31 #[str t] W (ParOk W t)) := fun W => by
    have := rparse_ok ⟨t.toArray⟩ W (by rw [bz]; omega)
    exact this
  have HX := hid hX
  have hnl : n ≤ 6000 := by omega
  clear ht htl hX him
  go_enter Tryz.func14, Tryz.ntmps14
  go_upto_region 1 with fail
  rw [← hR]
  clear hR
  generalize w.alloc z40 = w1 at *
  go_upto_region 5 with fail
  have HSd : Hid ((fun W : World => W.heap[R]? = some z40) w1.drew) := HR0.out
  refine wp_region_noPanic ?_
  refine wp_region_last (fun W : World => W.heap[R]? = some z40) 8 (by kernel_rfl) ?_
  refine wpL_take 0 21 (.string s) [] rfl rfl (by kernel_rfl) (by decide) (by kernel_rfl) (by kernel_rfl) (by kernel_rfl) (fun _ _ _ h => h) HSd.out (by rfl) (fun W hW => by go_simp) ?_
  simp only [Act.put, List.setIfInBounds_toArray, List.set_cons_zero, List.set_cons_succ]
  refine wpL_take 1 22 (.int .u8 (s[3].toNat : Nat)) [] rfl rfl (by kernel_rfl) (by decide) (by kernel_rfl) (by kernel_rfl) (by kernel_rfl) (fun _ _ _ h => h) HSd.out (by rfl) (fun W hW => by go_simp) ?_
  simp only [Act.put, List.setIfInBounds_toArray, List.set_cons_zero, List.set_cons_succ]
  refine wpL_take 2 23 (i64 (s[3].toNat : Nat)) [] rfl rfl (by kernel_rfl) (by decide) (by kernel_rfl) (by kernel_rfl) (by kernel_rfl) (fun _ _ _ h => h) HSd.out (by rfl) (fun W hW => by go_simp; exact wrap_id (by omega) (by omega)) ?_
  simp only [Act.put, List.setIfInBounds_toArray, List.set_cons_zero, List.set_cons_succ]
  refine wpL_take 3 24 (i64 ((256 : Int) * ((s[3].toNat : Nat) : Int))) [] rfl rfl (by kernel_rfl) (by decide) (by kernel_rfl) (by kernel_rfl) (by kernel_rfl) (fun _ _ _ h => h) HSd.out (by rfl) (fun W hW => by go_simp; exact wrap_id (by omega) (by omega)) ?_
  simp only [Act.put, List.setIfInBounds_toArray, List.set_cons_zero, List.set_cons_succ]
  refine wpL_take 4 25 (.string s) [] rfl rfl (by kernel_rfl) (by decide) (by kernel_rfl) (by kernel_rfl) (by kernel_rfl) (fun _ _ _ h => h) HSd.out (by rfl) (fun W hW => by go_simp) ?_
  simp only [Act.put, List.setIfInBounds_toArray, List.set_cons_zero, List.set_cons_succ]
  refine wpL_take 5 26 (.int .u8 (s[4].toNat : Nat)) [] rfl rfl (by kernel_rfl) (by decide) (by kernel_rfl) (by kernel_rfl) (by kernel_rfl) (fun _ _ _ h => h) HSd.out (by rfl) (fun W hW => by go_simp) ?_
  simp only [Act.put, List.setIfInBounds_toArray, List.set_cons_zero, List.set_cons_succ]
  refine wpL_take 6 27 (i64 (s[4].toNat : Nat)) [] rfl rfl (by kernel_rfl) (by decide) (by kernel_rfl) (by kernel_rfl) (by kernel_rfl) (fun _ _ _ h => h) HSd.out (by rfl) (fun W hW => by go_simp; exact wrap_id (by omega) (by omega)) ?_
  simp only [Act.put, List.setIfInBounds_toArray, List.set_cons_zero, List.set_cons_succ]
  refine wpL_take 7 28 (i64 (n : Nat)) [] rfl rfl (by kernel_rfl) (by decide) (by kernel_rfl) (by kernel_rfl) (by kernel_rfl) (fun _ _ _ h => h) HSd.out (by rfl) (fun W hW => by go_simp; exact wrap_id (by omega) (by omega)) ?_
  simp only [Act.put, List.setIfInBounds_toArray, List.set_cons_zero, List.set_cons_succ]
  refine wpL_one 8 rfl (by kernel_rfl) (by rfl) (fun K hK => ?_)
  go_simp
  refine hK.out _ _ (fun h => absurd rfl h) ?_
  clear hK K
  refine wpL_done (by kernel_rfl) ?_
  refine NoPanic.normal ?_
  have HR1 : Hid (w1.drew.heap[R]? = some z40) := HR0.out
  have HB1 : Hid (Below w.heap.size w w1.drew) := HB0.out.drew
  clear HSd HR0 HB0 hb3 hb4
  generalize w1.drew = w2 at *
  have hsl2 := HSL.out
  have hlI : ¬ (s.size : Int) < 5 + (n : Int) := by omega
  go_wp2_with fail
  refine (HC.out w2).mono ?_
  clear HC HSL hsl2 hsl
  rintro e w3 ⟨a1, n1, c1, a2, n2, c2, rfl, hb3, hr3⟩
  obtain ⟨P, hP⟩ : ∃ P, P = w3.heap.size := ⟨_, rfl⟩
  have HB4 : Hid (Below w.heap.size w (w3.alloc (.cells #[i64 (parT t).kind, i64 (parT t).num, .slice a1 n1 c1, .slice a2 n2 c2] 35))) := (HB1.out.trans (hb3.mono HB1.out.size)).alloc (HB1.out.trans (hb3.mono HB1.out.size)).size _
  have HR4 : Hid ((w3.alloc (.cells #[i64 (parT t).kind, i64 (parT t).num, .slice a1 n1 c1, .slice a2 n2 c2] 35)).heap[R]? = some z40) := blk_alloc (blk_below HR1.out hb3) _
  have HP4 : Hid ((w3.alloc (.cells #[i64 (parT t).kind, i64 (parT t).num, .slice a1 n1 c1, .slice a2 n2 c2] 35)).heap[P]? = some (.cells #[i64 (parT t).kind, i64 (parT t).num, .slice a1 n1 c1, .slice a2 n2 c2] 35)) := by rw [hP]; exact heap_last w3 _
  have hRl := blk_lt (blk_below HR1.out hb3)
  have hRl2 := blk_lt HR1.out
  have hb2 := HB1.out.size
  have hb9 := hb3.size
  have HPR : Hid (w.heap.size ≤ P ∧ P ≠ R) := by show _ ∧ _; omega
  have HRd4 : Hid (Rd (w3.alloc (.cells #[i64 (parT t).kind, i64 (parT t).num, .slice a1 n1 c1, .slice a2 n2 c2] 35)) (fun b => R < b ∧ b ≠ P) (parT t) (.slice a1 n1 c1) (.slice a2 n2 c2)) := (hr3.move (below_one w3 _).size fun b hb hlt => ⟨⟨by omega, by omega⟩, (below_one w3 _).block b hlt⟩)
  clear hb3 hr3 hRl hRl2 hb2 hb9 HB1 HR1
  cases hpf : parseF t with
  | none =>
    have hXn : X = none := by rw [HX.out]; unfold rdB; rw [hpf]
    obtain ⟨e1, e2⟩ := parse_4 hpf
    rw [e1] at HP4 HR4 HB4 HRd4 ⊢
    rw [e2]
    clear e1 e2 hpf
    subst hXn
    go_upto_region 9 with fail
    rw [← hP]
    clear hP
    generalize w3.alloc (.cells #[i64 T0.kind, i64 T0.num, .slice a1 n1 c1, .slice a2 n2 c2] 35) = w4 at *
    have r0 : w4.cell? ⟨R, 0, none⟩ = some (i64 0) := blk_cell HR4.out 0
    have r1 : w4.cell? ⟨R, 1, none⟩ = some (i64 0) := blk_cell HR4.out 1
    have r2 : w4.cell? ⟨R, 2, none⟩ = some (i64 0) := blk_cell HR4.out 2
    have r3 : w4.cell? ⟨R, 3, none⟩ = some (.slice none 0 0) := blk_cell HR4.out 3
    have r4 : w4.cell? ⟨R, 4, none⟩ = some (.slice none 0 0) := blk_cell HR4.out 4
    have r5 : w4.cell? ⟨R, 5, none⟩ = some (i64 0) := blk_cell HR4.out 5
    have r6 : w4.cell? ⟨R, 6, none⟩ = some (i64 0) := blk_cell HR4.out 6
    have r7 : w4.cell? ⟨R, 7, none⟩ = some (str []) := blk_cell HR4.out 7
    have r8 : w4.cell? ⟨R, 8, none⟩ = some (.slice none 0 0) := blk_cell HR4.out 8
    have rf := blk_frozen HR4.out
    go_wp2_with fail
    exact bodyPost_ret (results_cell Tryz.results14 rfl rfl (vload40 (v := 0) (T := .mk 0 0 [] []) (V := .mk 0 0 [] []) (set9 HR4.out _ _ _ _ _ _ _ _ _))) rfl (show RNo 4 w _ _ from ⟨rfl, below9 HB4.out HRe.out _ _ _ _ _ _ _ _ _⟩)
  | some T =>
    obtain ⟨e1, e2⟩ := parse_0 hpf
    obtain ⟨hrt, _⟩ := parseF_back hpf
    obtain ⟨hfm, hdp⟩ := right_formed hrt
    have her := (right_err T).1 hrt
    rw [e1] at HP4 HR4 HB4 HRd4 ⊢
    rw [e2]
    obtain ⟨_, _, f1, _, _, f2⟩ := HRd4.out.form
    cases f1
    cases f2
    obtain ⟨x, hx⟩ : ∃ x, x = s[2]'(by omega) := ⟨_, rfl⟩
    have HX2 : Hid (X = match rdV 6 T (s.data.toList.drop (5 + n)) with | some (V, []) => if fitsB V T = true then some (x.toNat, T, V) else none | _ => none) := by
      rw [Hid, HX.out, hx]
      unfold rdB
      rw [hpf]
    have HXv := hid hx
    have HErr := hid her
    have HFm := hid hfm
    clear hx HX hpf e1 e2 hrt her
    have HC2 : Hid (∀ W, Rd W (fun b => R < b ∧ b ≠ P) T (.slice a1 T.names.length c1) (.slice a2 T.kids.length c2) → Calls Tryz.prog 32 #[.string s, i64 (5 + (n : Int)), tyV T.kind T.num (.slice a1 T.names.length c1) (.slice a2 T.kids.length c2)] W (Gk W s.size (rdV 6 T (s.data.toList.drop (5 + n))))) := fun W hW => by
      have := take_ok 6 T hdp hfm W s (5 + n) _ _ _ (by omega) (by omega) hW
      rw [show ((5 + n : Nat) : Int) = 5 + (n : Int) by omega] at this
      exact this
    have HBk : Hid (∀ V r, rdV 6 T (s.data.toList.drop (5 + n)) = some (V, r) → r.length ≤ s.size - (5 + n)) := fun V r h => (drop_suf hlong (rdV_back 6 V T _ r h)).2
    clear hdp hfm
    generalize rdV 6 T (s.data.toList.drop (5 + n)) = rs at *
    go_upto_region 9 with fail
    rw [← hP]
    clear hP
    generalize w3.alloc (.cells #[i64 T.kind, i64 T.num, .slice a1 T.names.length c1, .slice a2 T.kids.length c2] 35) = w4 at *
    have p0 := blk_cell HP4.out 0
    have p1 := blk_cell HP4.out 1
    have p2 := blk_cell HP4.out 2
    have p3 := blk_cell HP4.out 3
    go_wp2_with fail
    refine (HC2.out w4 HRd4.out).mono ?_
    clear HC2 p0 p1 p2 p3
    rintro e w5 hgk
    obtain ⟨G, hG⟩ : ∃ G, G = w5.heap.size := ⟨_, rfl⟩
    have HGP : Hid (w.heap.size ≤ G ∧ G ≠ R ∧ P ≠ G) := by
      have h1 := blk_lt HR4.out
      have h2 := blk_lt HP4.out
      have h3 := hgk.b.size
      have h4 := HRe.out
      show _ ∧ _ ∧ _
      omega
    have HRl : Hid (R < w4.heap.size ∧ P < w4.heap.size) := ⟨blk_lt HR4.out, blk_lt HP4.out⟩
    cases rs with
    | none =>
      have hXn : X = none := HX2.out
      obtain rfl := hgk.no rfl
      have HB6 : Hid (Below w.heap.size w (w5.alloc (gO 0 0 (str []) (.slice none 0 0) (-1)))) := (HB4.out.trans (hgk.b.mono HB4.out.size)).alloc (HB4.out.trans (hgk.b.mono HB4.out.size)).size _
      have HR6 : Hid ((w5.alloc (gO 0 0 (str []) (.slice none 0 0) (-1))).heap[R]? = some z40) := blk_alloc (blk_below HR4.out hgk.b) _
      have HG6 : Hid ((w5.alloc (gO 0 0 (str []) (.slice none 0 0) (-1))).heap[G]? = some (gO 0 0 (str []) (.slice none 0 0) (-1))) := by rw [hG]; exact heap_last w5 _
      subst hXn
      have hne : ((-1 : Int) == (s.size : Int)) = false := beq_false_of_ne (by omega)
      go_upto_region 12 with fail
      rw [← hG]
      clear hG hgk
      generalize w5.alloc (gO 0 0 (str []) (.slice none 0 0) (-1)) = w6 at *
      have g4 := blk_cell HG6.out 4
      have r0 : w6.cell? ⟨R, 0, none⟩ = some (i64 0) := blk_cell HR6.out 0
      have r1 : w6.cell? ⟨R, 1, none⟩ = some (i64 0) := blk_cell HR6.out 1
      have r2 : w6.cell? ⟨R, 2, none⟩ = some (i64 0) := blk_cell HR6.out 2
      have r3 : w6.cell? ⟨R, 3, none⟩ = some (.slice none 0 0) := blk_cell HR6.out 3
      have r4 : w6.cell? ⟨R, 4, none⟩ = some (.slice none 0 0) := blk_cell HR6.out 4
      have r5 : w6.cell? ⟨R, 5, none⟩ = some (i64 0) := blk_cell HR6.out 5
      have r6 : w6.cell? ⟨R, 6, none⟩ = some (i64 0) := blk_cell HR6.out 6
      have r7 : w6.cell? ⟨R, 7, none⟩ = some (str []) := blk_cell HR6.out 7
      have r8 : w6.cell? ⟨R, 8, none⟩ = some (.slice none 0 0) := blk_cell HR6.out 8
      have rf := blk_frozen HR6.out
      go_wp2_with fail
      exact bodyPost_ret (results_cell Tryz.results14 rfl rfl (vload40 (v := 0) (T := .mk 0 0 [] []) (V := .mk 0 0 [] []) (set9 HR6.out _ _ _ _ _ _ _ _ _))) rfl (show RNo 4 w _ _ from ⟨rfl, below9 HB6.out HRe.out _ _ _ _ _ _ _ _ _⟩)
    | some vr =>
      obtain ⟨V, r⟩ := vr
      obtain ⟨p6, c6, rfl, hv6⟩ := hgk.yes V r rfl
      have hrl := HBk.out V r rfl
      have HB6 : Hid (Below w.heap.size w (w5.alloc (gO V.kind V.num (str V.s) (.slice p6 V.kids.length c6) ((s.size - r.length : Nat) : Int)))) := (HB4.out.trans (hgk.b.mono HB4.out.size)).alloc (HB4.out.trans (hgk.b.mono HB4.out.size)).size _
      have HR6 : Hid ((w5.alloc (gO V.kind V.num (str V.s) (.slice p6 V.kids.length c6) ((s.size - r.length : Nat) : Int))).heap[R]? = some z40) := blk_alloc (blk_below HR4.out hgk.b) _
      have HP6 : Hid ((w5.alloc (gO V.kind V.num (str V.s) (.slice p6 V.kids.length c6) ((s.size - r.length : Nat) : Int))).heap[P]? = some (.cells #[i64 T.kind, i64 T.num, .slice a1 T.names.length c1, .slice a2 T.kids.length c2] 35)) := blk_alloc (blk_below HP4.out hgk.b) _
      have HG6 : Hid ((w5.alloc (gO V.kind V.num (str V.s) (.slice p6 V.kids.length c6) ((s.size - r.length : Nat) : Int))).heap[G]? = some (gO V.kind V.num (str V.s) (.slice p6 V.kids.length c6) ((s.size - r.length : Nat) : Int))) := by rw [hG]; exact heap_last w5 _
      have HRd6 : Hid (Rd (w5.alloc (gO V.kind V.num (str V.s) (.slice p6 V.kids.length c6) ((s.size - r.length : Nat) : Int))) (fun b => R < b) T (.slice a1 T.names.length c1) (.slice a2 T.kids.length c2)) := ((HRd4.out.under hgk.b).under (below_one w5 _)).mono (fun b hb _ => hb.1)
      have HV6 : Hid (Vd (w5.alloc (gO V.kind V.num (str V.s) (.slice p6 V.kids.length c6) ((s.size - r.length : Nat) : Int))) (fun b => R < b) V (.slice p6 V.kids.length c6)) := (hv6.under (below_one w5 _)).mono (fun b hb _ => by have := HRl.out.1; omega)
      by_cases hr : r = []
      · subst hr
        rw [show s.size - ([] : Bs).length = s.size from rfl] at *
        have HX3 : Hid (X = if fitsB V T = true then some (x.toNat, T, V) else none) := HX2.out
        have hne : ((s.size : Int) == (s.size : Int)) = true := beq_iff_eq.2 rfl
        go_upto_region 12 with fail
        rw [← hG]
        clear hG hgk hv6 HX2 hrl HBk
        generalize w5.alloc (gO V.kind V.num (str V.s) (.slice p6 V.kids.length c6) ((s.size : Nat) : Int)) = w6 at *
        have HF := hid (rfits_ok V.size V (Nat.le_refl _) T HFm.out w6 _ _ _ _ _ HV6.out HRd6.out)
        have p0 := blk_cell HP6.out 0
        have p1 := blk_cell HP6.out 1
        have p2 := blk_cell HP6.out 2
        have p3 := blk_cell HP6.out 3
        have g0 := blk_cell HG6.out 0
        have g1 := blk_cell HG6.out 1
        have g2 := blk_cell HG6.out 2
        have g3 := blk_cell HG6.out 3
        have g4 := blk_cell HG6.out 4
        go_wp2_with fail
        refine HF.out.mono ?_
        clear HF p0 p1 p2 p3 g0 g1 g2 g3 g4
        rintro e w7 ⟨rfl, hb7⟩
        have HB7 : Hid (Below w.heap.size w w7) := HB6.out.trans (hb7.mono HB6.out.size)
        have HR7 := hid (blk_below HR6.out hb7)
        have HP7 := hid (blk_below HP6.out hb7)
        have HG7 := hid (blk_below HG6.out hb7)
        have HRd7 := hid (HRd6.out.under hb7)
        have HV7 := hid (HV6.out.under hb7)
        clear hb7 HB6 HR6 HP6 HG6 HRd6 HV6 HR4 HP4 HB4 HRd4
        cases hf : decide ((firstF V T).length = 0)
        · have hXn : X = none := by
            rw [HX3.out]
            unfold fitsB
            rw [hf, Bool.and_false]
            rfl
          subst hXn
          clear hf
          have r0 : w7.cell? ⟨R, 0, none⟩ = some (i64 0) := blk_cell HR7.out 0
          have r1 : w7.cell? ⟨R, 1, none⟩ = some (i64 0) := blk_cell HR7.out 1
          have r2 : w7.cell? ⟨R, 2, none⟩ = some (i64 0) := blk_cell HR7.out 2
          have r3 : w7.cell? ⟨R, 3, none⟩ = some (.slice none 0 0) := blk_cell HR7.out 3
          have r4 : w7.cell? ⟨R, 4, none⟩ = some (.slice none 0 0) := blk_cell HR7.out 4
          have r5 : w7.cell? ⟨R, 5, none⟩ = some (i64 0) := blk_cell HR7.out 5
          have r6 : w7.cell? ⟨R, 6, none⟩ = some (i64 0) := blk_cell HR7.out 6
          have r7 : w7.cell? ⟨R, 7, none⟩ = some (str []) := blk_cell HR7.out 7
          have r8 : w7.cell? ⟨R, 8, none⟩ = some (.slice none 0 0) := blk_cell HR7.out 8
          have rf := blk_frozen HR7.out
          go_simp
          go_wp2_with fail
          exact bodyPost_ret (results_cell Tryz.results14 rfl rfl (vload40 (v := 0) (T := .mk 0 0 [] []) (V := .mk 0 0 [] []) (set9 HR7.out _ _ _ _ _ _ _ _ _))) rfl (show RNo 4 w _ _ from ⟨rfl, below9 HB7.out HRe.out _ _ _ _ _ _ _ _ _⟩)
        · have hXs : X = some (x.toNat, T, V) := by
            rw [HX3.out]
            unfold fitsB
            rw [hf, Bool.and_true, HErr.out]
            rfl
          have hx := HXv.out
          subst hx
          subst hXs
          clear hf HX3
          have hlt2 : 2 < s.size := by omega
          have hlt2I : (2 : Int) < s.size := by omega
          have hb2 := s[2].toNat_lt
          go_simp
          go_upto_region 14 with fail
          have HSd : Hid ((Py P G (.cells #[i64 T.kind, i64 T.num, .slice a1 T.names.length c1, .slice a2 T.kids.length c2] 35) (gO V.kind V.num (str V.s) (.slice p6 V.kids.length c6) ((s.size : Nat) : Int))) w7.drew) := ⟨HP7.out, HG7.out⟩
          have HR8 : Hid (w7.drew.heap[R]? = some z40) := HR7.out
          have HB8 : Hid (Below w.heap.size w w7.drew) := HB7.out.drew
          have HRd8 : Hid (Rd w7.drew (fun b => R < b) T (.slice a1 T.names.length c1) (.slice a2 T.kids.length c2)) := HRd7.out.under (Below.refl _ _).drew
          have HV8 : Hid (Vd w7.drew (fun b => R < b) V (.slice p6 V.kids.length c6)) := HV7.out.under (Below.refl _ _).drew
          clear HR7 HB7 HRd7 HV7 HP7 HG7
          refine wp_region_noPanic ?_
          refine wp_region_last (Py P G (.cells #[i64 T.kind, i64 T.num, .slice a1 T.names.length c1, .slice a2 T.kids.length c2] 35) (gO V.kind V.num (str V.s) (.slice p6 V.kids.length c6) ((s.size : Nat) : Int))) 8 (by kernel_rfl) ?_
          generalize w7.drew = w7 at *
          have HSX : Hid ((Py P G (.cells #[i64 T.kind, i64 T.num, .slice a1 T.names.length c1, .slice a2 T.kids.length c2] 35) (gO V.kind V.num (str V.s) (.slice p6 V.kids.length c6) ((s.size : Nat) : Int))) (((((((((w7.setCell ⟨R, 0, none⟩ (i64 (s[2].toNat : Nat))).setCell ⟨R, 1, none⟩ (i64 T.kind)).setCell ⟨R, 2, none⟩ (i64 T.num)).setCell ⟨R, 3, none⟩ (.slice a1 T.names.length c1)).setCell ⟨R, 4, none⟩ (.slice a2 T.kids.length c2)).setCell ⟨R, 5, none⟩ (i64 V.kind)).setCell ⟨R, 6, none⟩ (i64 V.num)).setCell ⟨R, 7, none⟩ (str V.s)).setCell ⟨R, 8, none⟩ (.slice p6 V.kids.length c6))) := ⟨(at9 HPR.out.2 _ _ _ _ _ _ _ _ _).trans HSd.out.p, (at9 HGP.out.2.1 _ _ _ _ _ _ _ _ _).trans HSd.out.g⟩
          have r0 : w7.cell? ⟨R, 0, none⟩ = some (i64 0) := blk_cell HR8.out 0
          have r1 : w7.cell? ⟨R, 1, none⟩ = some (i64 0) := blk_cell HR8.out 1
          have r2 : w7.cell? ⟨R, 2, none⟩ = some (i64 0) := blk_cell HR8.out 2
          have r3 : w7.cell? ⟨R, 3, none⟩ = some (.slice none 0 0) := blk_cell HR8.out 3
          have r4 : w7.cell? ⟨R, 4, none⟩ = some (.slice none 0 0) := blk_cell HR8.out 4
          have r5 : w7.cell? ⟨R, 5, none⟩ = some (i64 0) := blk_cell HR8.out 5
          have r6 : w7.cell? ⟨R, 6, none⟩ = some (i64 0) := blk_cell HR8.out 6
          have r7 : w7.cell? ⟨R, 7, none⟩ = some (str []) := blk_cell HR8.out 7
          have r8 : w7.cell? ⟨R, 8, none⟩ = some (.slice none 0 0) := blk_cell HR8.out 8
          have rf := blk_frozen HR8.out
          refine wpL_take 0 64 (.string s) [] rfl rfl (by kernel_rfl) (by decide) (by kernel_rfl) (by kernel_rfl) (by kernel_rfl) (fun _ _ _ h => h) HSd.out (by rfl) (fun W hW => by have x0 : W.cell? ⟨P, 0, none⟩ = some (i64 T.kind) := blk_cell hW.p 0; have x1 : W.cell? ⟨P, 1, none⟩ = some (i64 T.num) := blk_cell hW.p 1; have x2 : W.cell? ⟨P, 2, none⟩ = some (.slice a1 T.names.length c1) := blk_cell hW.p 2; have x3 : W.cell? ⟨P, 3, none⟩ = some (.slice a2 T.kids.length c2) := blk_cell hW.p 3; have y0 : W.cell? ⟨G, 0, none⟩ = some (i64 V.kind) := blk_cell hW.g 0; have y1 : W.cell? ⟨G, 1, none⟩ = some (i64 V.num) := blk_cell hW.g 1; have y2 : W.cell? ⟨G, 2, none⟩ = some (str V.s) := blk_cell hW.g 2; have y3 : W.cell? ⟨G, 3, none⟩ = some (.slice p6 V.kids.length c6) := blk_cell hW.g 3; go_simp) ?_
          simp only [Act.put, List.setIfInBounds_toArray, List.set_cons_zero, List.set_cons_succ]
          refine wpL_take 1 65 (.int .u8 (s[2].toNat : Nat)) [] rfl rfl (by kernel_rfl) (by decide) (by kernel_rfl) (by kernel_rfl) (by kernel_rfl) (fun _ _ _ h => h) HSd.out (by rfl) (fun W hW => by have x0 : W.cell? ⟨P, 0, none⟩ = some (i64 T.kind) := blk_cell hW.p 0; have x1 : W.cell? ⟨P, 1, none⟩ = some (i64 T.num) := blk_cell hW.p 1; have x2 : W.cell? ⟨P, 2, none⟩ = some (.slice a1 T.names.length c1) := blk_cell hW.p 2; have x3 : W.cell? ⟨P, 3, none⟩ = some (.slice a2 T.kids.length c2) := blk_cell hW.p 3; have y0 : W.cell? ⟨G, 0, none⟩ = some (i64 V.kind) := blk_cell hW.g 0; have y1 : W.cell? ⟨G, 1, none⟩ = some (i64 V.num) := blk_cell hW.g 1; have y2 : W.cell? ⟨G, 2, none⟩ = some (str V.s) := blk_cell hW.g 2; have y3 : W.cell? ⟨G, 3, none⟩ = some (.slice p6 V.kids.length c6) := blk_cell hW.g 3; go_simp) ?_
          simp only [Act.put, List.setIfInBounds_toArray, List.set_cons_zero, List.set_cons_succ]
          refine wpL_take 2 66 (i64 (s[2].toNat : Nat)) [] rfl rfl (by kernel_rfl) (by decide) (by kernel_rfl) (by kernel_rfl) (by kernel_rfl) (fun _ _ _ h => h) HSd.out (by rfl) (fun W hW => by have x0 : W.cell? ⟨P, 0, none⟩ = some (i64 T.kind) := blk_cell hW.p 0; have x1 : W.cell? ⟨P, 1, none⟩ = some (i64 T.num) := blk_cell hW.p 1; have x2 : W.cell? ⟨P, 2, none⟩ = some (.slice a1 T.names.length c1) := blk_cell hW.p 2; have x3 : W.cell? ⟨P, 3, none⟩ = some (.slice a2 T.kids.length c2) := blk_cell hW.p 3; have y0 : W.cell? ⟨G, 0, none⟩ = some (i64 V.kind) := blk_cell hW.g 0; have y1 : W.cell? ⟨G, 1, none⟩ = some (i64 V.num) := blk_cell hW.g 1; have y2 : W.cell? ⟨G, 2, none⟩ = some (str V.s) := blk_cell hW.g 2; have y3 : W.cell? ⟨G, 3, none⟩ = some (.slice p6 V.kids.length c6) := blk_cell hW.g 3; go_simp; exact wrap_id (by omega) (by omega)) ?_
          simp only [Act.put, List.setIfInBounds_toArray, List.set_cons_zero, List.set_cons_succ]
          refine wpL_take 3 67 (.agg #[i64 T.kind, i64 T.num, .slice a1 T.names.length c1, .slice a2 T.kids.length c2]) [] rfl rfl (by kernel_rfl) (by decide) (by kernel_rfl) (by kernel_rfl) (by kernel_rfl) (fun _ _ _ h => h) HSd.out (by rfl) (fun W hW => by have x0 : W.cell? ⟨P, 0, none⟩ = some (i64 T.kind) := blk_cell hW.p 0; have x1 : W.cell? ⟨P, 1, none⟩ = some (i64 T.num) := blk_cell hW.p 1; have x2 : W.cell? ⟨P, 2, none⟩ = some (.slice a1 T.names.length c1) := blk_cell hW.p 2; have x3 : W.cell? ⟨P, 3, none⟩ = some (.slice a2 T.kids.length c2) := blk_cell hW.p 3; have y0 : W.cell? ⟨G, 0, none⟩ = some (i64 V.kind) := blk_cell hW.g 0; have y1 : W.cell? ⟨G, 1, none⟩ = some (i64 V.num) := blk_cell hW.g 1; have y2 : W.cell? ⟨G, 2, none⟩ = some (str V.s) := blk_cell hW.g 2; have y3 : W.cell? ⟨G, 3, none⟩ = some (.slice p6 V.kids.length c6) := blk_cell hW.g 3; go_simp) ?_
          simp only [Act.put, List.setIfInBounds_toArray, List.set_cons_zero, List.set_cons_succ]
          refine wpL_take 4 68 (.pointer (some ⟨G, 0, none⟩)) [] rfl rfl (by kernel_rfl) (by decide) (by kernel_rfl) (by kernel_rfl) (by kernel_rfl) (fun _ _ _ h => h) HSd.out (by rfl) (fun W hW => by have x0 : W.cell? ⟨P, 0, none⟩ = some (i64 T.kind) := blk_cell hW.p 0; have x1 : W.cell? ⟨P, 1, none⟩ = some (i64 T.num) := blk_cell hW.p 1; have x2 : W.cell? ⟨P, 2, none⟩ = some (.slice a1 T.names.length c1) := blk_cell hW.p 2; have x3 : W.cell? ⟨P, 3, none⟩ = some (.slice a2 T.kids.length c2) := blk_cell hW.p 3; have y0 : W.cell? ⟨G, 0, none⟩ = some (i64 V.kind) := blk_cell hW.g 0; have y1 : W.cell? ⟨G, 1, none⟩ = some (i64 V.num) := blk_cell hW.g 1; have y2 : W.cell? ⟨G, 2, none⟩ = some (str V.s) := blk_cell hW.g 2; have y3 : W.cell? ⟨G, 3, none⟩ = some (.slice p6 V.kids.length c6) := blk_cell hW.g 3; go_simp) ?_
          simp only [Act.put, List.setIfInBounds_toArray, List.set_cons_zero, List.set_cons_succ]
          refine wpL_take 5 69 (.agg #[i64 V.kind, i64 V.num, str V.s, .slice p6 V.kids.length c6]) [] rfl rfl (by kernel_rfl) (by decide) (by kernel_rfl) (by kernel_rfl) (by kernel_rfl) (fun _ _ _ h => h) HSd.out (by rfl) (fun W hW => by have x0 : W.cell? ⟨P, 0, none⟩ = some (i64 T.kind) := blk_cell hW.p 0; have x1 : W.cell? ⟨P, 1, none⟩ = some (i64 T.num) := blk_cell hW.p 1; have x2 : W.cell? ⟨P, 2, none⟩ = some (.slice a1 T.names.length c1) := blk_cell hW.p 2; have x3 : W.cell? ⟨P, 3, none⟩ = some (.slice a2 T.kids.length c2) := blk_cell hW.p 3; have y0 : W.cell? ⟨G, 0, none⟩ = some (i64 V.kind) := blk_cell hW.g 0; have y1 : W.cell? ⟨G, 1, none⟩ = some (i64 V.num) := blk_cell hW.g 1; have y2 : W.cell? ⟨G, 2, none⟩ = some (str V.s) := blk_cell hW.g 2; have y3 : W.cell? ⟨G, 3, none⟩ = some (.slice p6 V.kids.length c6) := blk_cell hW.g 3; go_simp) ?_
          simp only [Act.put, List.setIfInBounds_toArray, List.set_cons_zero, List.set_cons_succ]
          refine wpL_take 6 70 (.agg #[i64 (s[2].toNat : Nat), i64 T.kind, i64 T.num, .slice a1 T.names.length c1, .slice a2 T.kids.length c2, i64 V.kind, i64 V.num, str V.s, .slice p6 V.kids.length c6]) [] rfl rfl (by kernel_rfl) (by decide) (by kernel_rfl) (by kernel_rfl) (by kernel_rfl) (fun _ _ _ h => h) HSd.out (by rfl) (fun W hW => by have x0 : W.cell? ⟨P, 0, none⟩ = some (i64 T.kind) := blk_cell hW.p 0; have x1 : W.cell? ⟨P, 1, none⟩ = some (i64 T.num) := blk_cell hW.p 1; have x2 : W.cell? ⟨P, 2, none⟩ = some (.slice a1 T.names.length c1) := blk_cell hW.p 2; have x3 : W.cell? ⟨P, 3, none⟩ = some (.slice a2 T.kids.length c2) := blk_cell hW.p 3; have y0 : W.cell? ⟨G, 0, none⟩ = some (i64 V.kind) := blk_cell hW.g 0; have y1 : W.cell? ⟨G, 1, none⟩ = some (i64 V.num) := blk_cell hW.g 1; have y2 : W.cell? ⟨G, 2, none⟩ = some (str V.s) := blk_cell hW.g 2; have y3 : W.cell? ⟨G, 3, none⟩ = some (.slice p6 V.kids.length c6) := blk_cell hW.g 3; go_simp) ?_
          simp only [Act.put, List.setIfInBounds_toArray, List.set_cons_zero, List.set_cons_succ]
          refine wpL_one 7 rfl (by kernel_rfl) (by rfl) (fun K hK => ?_)
          go_simp
          refine hK.out _ _ (fun _ => HSX.out) ?_
          clear hK K
          refine wpL_one 8 rfl (by kernel_rfl) (by rfl) (fun K hK => ?_)
          go_simp
          refine hK.out _ _ (fun h => absurd rfl h) ?_
          clear hK K
          refine wpL_done (by kernel_rfl) ?_
          refine NoPanic.normal ?_
          go_wp2_with fail
          refine bodyPost_ret (results_cell Tryz.results14 rfl rfl (vload40 (v := ((s[2].toNat : Nat) : Int)) (T := T) (V := V) (set9 HR8.out _ _ _ _ _ _ _ _ _))) rfl (show RYes w s[2].toNat T V _ _ from ⟨a1, c1, a2, c2, p6, c6, rfl, below9 HB8.out HRe.out _ _ _ _ _ _ _ _ _, ?_, ?_⟩)
          · exact HRd8.out.move (by simp [World.setCell]) (fun b hb _ => ⟨by have := HRe.out; omega, at9 (by omega) _ _ _ _ _ _ _ _ _⟩)
          · exact HV8.out.move (by simp [World.setCell]) (fun b hb _ => ⟨by have := HRe.out; omega, at9 (by omega) _ _ _ _ _ _ _ _ _⟩)
      · have hXn : X = none := by
          rw [HX2.out]
          cases r with
          | nil => exact absurd rfl hr
          | cons => rfl
        have hr0 : 0 < r.length := List.length_pos_iff.2 hr
        subst hXn
        generalize hE : s.size - r.length = E at *
        have hne : ((E : Int) == (s.size : Int)) = false := beq_false_of_ne (by omega)
        have hneI : ¬ ((E : Int) = (s.size : Int)) := by omega
        have hneN : ¬ E = s.size := by omega
        go_upto_region 12 with fail
        rw [← hG]
        clear hG hgk hv6 hrl HBk hE
        generalize w5.alloc (gO V.kind V.num (str V.s) (.slice p6 V.kids.length c6) ((E : Nat) : Int)) = w6 at *
        have g4 := blk_cell HG6.out 4
        have r0 : w6.cell? ⟨R, 0, none⟩ = some (i64 0) := blk_cell HR6.out 0
        have r1 : w6.cell? ⟨R, 1, none⟩ = some (i64 0) := blk_cell HR6.out 1
        have r2 : w6.cell? ⟨R, 2, none⟩ = some (i64 0) := blk_cell HR6.out 2
        have r3 : w6.cell? ⟨R, 3, none⟩ = some (.slice none 0 0) := blk_cell HR6.out 3
        have r4 : w6.cell? ⟨R, 4, none⟩ = some (.slice none 0 0) := blk_cell HR6.out 4
        have r5 : w6.cell? ⟨R, 5, none⟩ = some (i64 0) := blk_cell HR6.out 5
        have r6 : w6.cell? ⟨R, 6, none⟩ = some (i64 0) := blk_cell HR6.out 6
        have r7 : w6.cell? ⟨R, 7, none⟩ = some (str []) := blk_cell HR6.out 7
        have r8 : w6.cell? ⟨R, 8, none⟩ = some (.slice none 0 0) := blk_cell HR6.out 8
        have rf := blk_frozen HR6.out
        go_wp2_with fail
        exact bodyPost_ret (results_cell Tryz.results14 rfl rfl (vload40 (v := 0) (T := .mk 0 0 [] []) (V := .mk 0 0 [] []) (set9 HR6.out _ _ _ _ _ _ _ _ _))) rfl (show RNo 4 w _ _ from ⟨rfl, below9 HB6.out HRe.out _ _ _ _ _ _ _ _ _⟩)
theorem rread_ok (w : World) (s : ByteArray) (h : s.size ≤ 6000) : Calls Tryz.prog 14 #[.string s] w (ROk w (rdR s.data.toList)) := by
  have hz : s.data.toList.length = s.size := by rw [Array.length_toList]; rfl
  by_cases h5 : s.size < 5
  · rw [rdR_short _ (by rw [hz]; exact h5)]
    exact rread_short w s h5
  · have h5 : 5 ≤ s.size := by omega
    obtain ⟨d0, d1⟩ := drop_two s 0 (by omega)
    obtain ⟨d2, d3⟩ := drop_two s 2 (by omega)
    obtain ⟨_, d4⟩ := drop_two s 3 (by omega)
    have e : s.data.toList.drop 0 = s[0]'(by omega) :: s[1]'(by omega) :: s[2]'(by omega) :: s[3]'(by omega) :: s[4]'(by omega) :: s.data.toList.drop 5 := by rw [d0, d1, d2, d3, d4]
    rw [List.drop_zero] at e
    have hl5 : (s.data.toList.drop 5).length = s.size - 5 := by rw [List.length_drop, hz]
    have htk : s.data.toList.take 2 = [s[0]'(by omega), s[1]'(by omega)] := by rw [e]; rfl
    have hR : rdR s.data.toList = if s[0]'(by omega) = 105 ∧ s[1]'(by omega) = 109 then (if 256 * (s[3]'(by omega)).toNat + (s[4]'(by omega)).toNat ≤ (s.data.toList.drop 5).length then rdB (s[2]'(by omega)).toNat ((s.data.toList.drop 5).take (256 * (s[3]'(by omega)).toNat + (s[4]'(by omega)).toNat)) ((s.data.toList.drop 5).drop (256 * (s[3]'(by omega)).toNat + (s[4]'(by omega)).toNat)) else none) else none := (congrArg rdR e).trans (rdR_5 _ _ _ _ _ _)
    rw [hR]
    by_cases him : s[0]'(by omega) = 105 ∧ s[1]'(by omega) = 109
    · rw [if_pos him, hl5]
      rw [him.1, him.2] at htk
      by_cases hn : 256 * (s[3]'(by omega)).toNat + (s[4]'(by omega)).toNat ≤ s.size - 5
      · rw [if_pos hn, List.drop_drop]
        exact rread_in w s _ _ _ h h5 htk rfl (by omega) rfl rfl
      · rw [if_neg hn]
        exact rread_end w s _ h h5 htk rfl (by omega)
    · rw [if_neg him]
      exact rread_im w s h h5 (fun e2 => him (by rw [htk] at e2; simpa using e2))
end Go.Proofs.YtihbbgcpdgnhoaaGreatDoor
namespace Go.Proofs.YtihbbgcpdgnhoaaGreatDoor
open Go.ChangeShapes Go.WideShapes Go.ChangeAt Go.RowKit Go.Deep
attribute [local go_sem ↓] Go.wp_at_zero Go.wp_at_succ

/-- What either Read answers. -/
def RdOk (w : World) (v : Int) (T : Ty) (V : Vl) (E : Int) (e : Ending) (w' : World) : Prop := ∃ a1 c1 a2 c2 a3 c3, e = .returned (.tuple #[stV v T V (.slice a1 T.names.length c1) (.slice a2 T.kids.length c2) (.slice a3 V.kids.length c3), i64 E]) ∧ Below w.heap.size w w' ∧ Rd w' (fun _ => True) T (.slice a1 T.names.length c1) (.slice a2 T.kids.length c2) ∧ Vd w' (fun _ => True) V (.slice a3 V.kids.length c3)
theorem rd_no {w w' : World} {E : Int} {e : Ending} (h : RNo E w e w') : RdOk w 0 (.mk 0 0 [] []) (.mk 0 0 [] []) E e w' := ⟨none, 0, none, 0, none, 0, h.1, h.2, Rd.leaf _ _ _ _, Vd.leaf _ _ _ _ _ (by simp) _ _⟩
theorem rd_yes {w w' : World} {v : Nat} {T : Ty} {V : Vl} {e : Ending} (h : RYes w v T V e w') : RdOk w (v : Nat) T V 0 e w' := by
  obtain ⟨a1, c1, a2, c2, a3, c3, he, hb, hR, hV⟩ := h
  exact ⟨a1, c1, a2, c2, a3, c3, he, hb, hR.mono (fun _ _ _ => trivial), hV.mono (fun _ _ _ => trivial)⟩
theorem rdR_some {l : Bs} {v : Nat} {T : Ty} {V : Vl} (h : rdR l = some (v, T, V)) : V.size ≤ l.length ∧ T.count ≤ 100 := by
  unfold rdR at h
  split at h
  · rename_i v' T' V' hS
    split at h
    · rename_i hf
      cases h
      refine ⟨rdS_size hS, ?_⟩
      have he : T.err = 0 := by
        unfold fitsB at hf
        simp only [Bool.and_eq_true, decide_eq_true_eq] at hf
        exact hf.1
      unfold Ty.err at he
      split at he
      · rename_i hc
        exact hc.2
      · cases he
    · cases h
  · cases h
theorem read_both (l : Bs) (h : l.length ≤ 2500 ∨ 6000 < l.length) : ∃ v T V E, V.size ≤ 3000 ∧ T.count ≤ 1000 ∧ (∀ w, Ml w → Calls Tryz.prog 13 #[str l] w (RdOk w v T V E)) ∧ ∀ w, Calls Tryz.prog 14 #[str l] w (RdOk w v T V E) := by
  have hz := bsize l
  rcases h with h | h
  · cases hr : rdR l with
    | none =>
      refine ⟨0, .mk 0 0 [] [], .mk 0 0 [] [], 4, by decide, by decide, fun w hM => ?_, fun w => ?_⟩
      · have := wread_ok w l (by omega) hM
        rw [hr] at this
        exact this.mono fun e w' h => rd_no h
      · have := rread_ok w ⟨l.toArray⟩ (by rw [bz]; omega)
        rw [show (⟨l.toArray⟩ : ByteArray).data.toList = l from rfl, hr] at this
        exact this.mono fun e w' h => rd_no h
    | some x =>
      obtain ⟨v, T, V⟩ := x
      obtain ⟨h1, h2⟩ := rdR_some hr
      refine ⟨(v : Nat), T, V, 0, by omega, by omega, fun w hM => ?_, fun w => ?_⟩
      · have := wread_ok w l (by omega) hM
        rw [hr] at this
        exact this.mono fun e w' h => rd_yes h
      · have := rread_ok w ⟨l.toArray⟩ (by rw [bz]; omega)
        rw [show (⟨l.toArray⟩ : ByteArray).data.toList = l from rfl, hr] at this
        exact this.mono fun e w' h => rd_yes h
  · refine ⟨0, .mk 0 0 [] [], .mk 0 0 [] [], 2, by decide, by decide, fun w _ => (wread_long w l h).mono fun e w' h => rd_no h, fun w => ?_⟩
    exact (rread_long w ⟨l.toArray⟩ (by rw [bz]; exact h)).mono fun e w' h => rd_no h
set_option maxRecDepth 100000 in
set_option maxHeartbeats 12800000 in
theorem reads_core (l : Bs) (w : World) (hP : Pw w) (hM : Ml w) : Calls Tryz.prog 4 #[str l] w fun e w' => e = .returned (.bool true) ∧ Below w.heap.size w w' := by
  have hs := bsize l
  have W7 := hid fun W (hb : Below w.heap.size w W) => word_ok W (hP.below hb) (hM.below hb)
  by_cases hmid : 2500 < l.length ∧ l.length ≤ 6000
  · have h1 : (2500 : Int) < l.length := by omega
    have h2 : (l.length : Int) ≤ 6000 := by omega
    clear hmid hP hM
    go_enter Tryz.func4, Tryz.ntmps4
    go_wp2_with fail
    refine (W7.out w (Below.refl _ _)).mono ?_
    rintro e wz ⟨rfl, hbz⟩
    have HBz := hid hbz
    clear hbz
    go_wp2_with fail
    go_ret
    exact ⟨rfl, HBz.out⟩
  obtain ⟨v, T, V, E, hsz, hct, hw, hd⟩ := read_both l (by omega)
  have HRF : Hid (∀ W nv tv kv, Rd W (fun _ => True) T nv tv → Vd W (fun _ => True) V kv → Calls Tryz.prog 7 #[stV v T V nv tv kv] W (RefOk W v T V)) := fun W nv tv kv hR hV => refs_ok v T V W kv nv tv hV hR hct hsz
  have HRF : Hid (∀ W, ∀ {nv tv kv : Value}, Rd W (fun _ => True) T nv tv → Vd W (fun _ => True) V kv → Calls Tryz.prog 7 #[stV v T V nv tv kv] W (RefOk W v T V)) := fun W {nv tv kv} hR hV => HRF.out W nv tv kv hR hV
  have HSame : Hid (∀ (W : World) (nv tv kv nv' tv' kv' : Value), Rd W (fun _ => True) T nv tv → Vd W (fun _ => True) V kv → Rd W (fun _ => True) T nv' tv' → Vd W (fun _ => True) V kv' → Calls Tryz.prog 15 #[stV v T V nv tv kv, stV v T V nv' tv' kv'] W fun e w' => e = .returned (.bool true) ∧ Below W.heap.size W w') := fun W nv tv kv nv' tv' kv' h1 h2 h3 h4 => by
    have := rst_same v v T T V V W (fun _ => True) nv tv kv nv' tv' kv' h1 h2 h3 h4
    rw [sameS_refl] at this
    exact this
  have HW := hid fun W (hb : Below w.heap.size w W) => hw W (hM.below hb)
  have HD := hid hd
  clear hP hM hw hd hsz hct
  by_cases h1 : 2500 < l.length
  · have h1I : (2500 : Int) < l.length := by omega
    have h2I : ¬ (l.length : Int) ≤ 6000 := by omega
    clear hmid h1
    go_enter Tryz.func4, Tryz.ntmps4
    go_wp2_with fail
    refine (HW.out w (Below.refl _ _)).mono ?_
    rintro e w1 ⟨a1, c1, a2, c2, a3, c3, rfl, hb1, hR1, hV1⟩
    obtain ⟨A, hA⟩ : ∃ A, A = w1.heap.size := ⟨_, rfl⟩
    have HB2 : Hid (Below w.heap.size w (w1.alloc (stC v T V (.slice a1 T.names.length c1) (.slice a2 T.kids.length c2) (.slice a3 V.kids.length c3)))) := hb1.alloc hb1.size _
    have HA2 : Hid ((w1.alloc (stC v T V (.slice a1 T.names.length c1) (.slice a2 T.kids.length c2) (.slice a3 V.kids.length c3))).heap[A]? = some (stC v T V (.slice a1 T.names.length c1) (.slice a2 T.kids.length c2) (.slice a3 V.kids.length c3))) := by rw [hA]; exact heap_last w1 _
    have HR2 := hid (hR1.under (below_one w1 (stC v T V (.slice a1 T.names.length c1) (.slice a2 T.kids.length c2) (.slice a3 V.kids.length c3))))
    have HV2 := hid (hV1.under (below_one w1 (stC v T V (.slice a1 T.names.length c1) (.slice a2 T.kids.length c2) (.slice a3 V.kids.length c3))))
    clear hb1 hR1 hV1
    go_upto_region 4 with fail
    rw [← hA]
    clear hA
    generalize w1.alloc (stC v T V (.slice a1 T.names.length c1) (.slice a2 T.kids.length c2) (.slice a3 V.kids.length c3)) = w2 at *
    go_wp2_with fail
    refine (HD.out w2).mono ?_
    rintro e w3 ⟨b1, d1, b2, d2, b3, d3, rfl, hb3, hR3, hV3⟩
    obtain ⟨B, hB⟩ : ∃ B, B = w3.heap.size := ⟨_, rfl⟩
    have hbb := hb3.trans ((below_one w3 (stD v T V (.slice b1 T.names.length d1) (.slice b2 T.kids.length d2) (.slice b3 V.kids.length d3))).mono hb3.size)
    have HB4 : Hid (Below w.heap.size w (w3.alloc (stD v T V (.slice b1 T.names.length d1) (.slice b2 T.kids.length d2) (.slice b3 V.kids.length d3)))) := HB2.out.trans (hbb.mono HB2.out.size)
    have HA4 : Hid ((w3.alloc (stD v T V (.slice b1 T.names.length d1) (.slice b2 T.kids.length d2) (.slice b3 V.kids.length d3))).heap[A]? = some (stC v T V (.slice a1 T.names.length c1) (.slice a2 T.kids.length c2) (.slice a3 V.kids.length c3))) := blk_below HA2.out hbb
    have HG4 : Hid ((w3.alloc (stD v T V (.slice b1 T.names.length d1) (.slice b2 T.kids.length d2) (.slice b3 V.kids.length d3))).heap[B]? = some (stD v T V (.slice b1 T.names.length d1) (.slice b2 T.kids.length d2) (.slice b3 V.kids.length d3))) := by rw [hB]; exact heap_last w3 _
    have HRA4 := hid (HR2.out.under hbb)
    have HVA4 := hid (HV2.out.under hbb)
    have HRB4 := hid (hR3.under (below_one w3 (stD v T V (.slice b1 T.names.length d1) (.slice b2 T.kids.length d2) (.slice b3 V.kids.length d3))))
    have HVB4 := hid (hV3.under (below_one w3 (stD v T V (.slice b1 T.names.length d1) (.slice b2 T.kids.length d2) (.slice b3 V.kids.length d3))))
    clear hb3 hR3 hV3 hbb HB2 HA2 HR2 HV2 HD HW
    go_upto_region 5 with fail
    rw [← hB]
    clear hB
    generalize w3.alloc (stD v T V (.slice b1 T.names.length d1) (.slice b2 T.kids.length d2) (.slice b3 V.kids.length d3)) = w4 at *
    have HSd : Hid ((Py A B (stC v T V (.slice a1 T.names.length c1) (.slice a2 T.kids.length c2) (.slice a3 V.kids.length c3)) (stD v T V (.slice b1 T.names.length d1) (.slice b2 T.kids.length d2) (.slice b3 V.kids.length d3))) w4.drew) := ⟨HA4.out, HG4.out⟩
    have HB5 : Hid (Below w.heap.size w w4.drew) := HB4.out.drew
    have HRA := hid (HRA4.out.under (Below.refl _ _).drew)
    have HVA := hid (HVA4.out.under (Below.refl _ _).drew)
    have HRB := hid (HRB4.out.under (Below.refl _ _).drew)
    have HVB := hid (HVB4.out.under (Below.refl _ _).drew)
    clear HA4 HG4 HB4 HRA4 HVA4 HRB4 HVB4
    refine wp_region_noPanic ?_
    refine wp_region_last (Py A B (stC v T V (.slice a1 T.names.length c1) (.slice a2 T.kids.length c2) (.slice a3 V.kids.length c3)) (stD v T V (.slice b1 T.names.length d1) (.slice b2 T.kids.length d2) (.slice b3 V.kids.length d3))) 12 (by kernel_rfl) ?_
    generalize w4.drew = w5 at *
    refine wpL_take 0 26 (.agg #[i64 v, i64 T.kind, i64 T.num, .slice a1 T.names.length c1, .slice a2 T.kids.length c2, i64 V.kind, i64 V.num, str V.s, .slice a3 V.kids.length c3]) [] rfl rfl (by kernel_rfl) (by decide) (by kernel_rfl) (by kernel_rfl) (by kernel_rfl) (fun _ _ _ h => h) HSd.out (by rfl) (fun W hW => by have x0 : W.cell? ⟨A, 0, none⟩ = some (i64 v) := blk_cell hW.p 0; have x1 : W.cell? ⟨A, 1, none⟩ = some (i64 T.kind) := blk_cell hW.p 1; have x2 : W.cell? ⟨A, 2, none⟩ = some (i64 T.num) := blk_cell hW.p 2; have x3 : W.cell? ⟨A, 3, none⟩ = some (.slice a1 T.names.length c1) := blk_cell hW.p 3; have x4 : W.cell? ⟨A, 4, none⟩ = some (.slice a2 T.kids.length c2) := blk_cell hW.p 4; have x5 : W.cell? ⟨A, 5, none⟩ = some (i64 V.kind) := blk_cell hW.p 5; have x6 : W.cell? ⟨A, 6, none⟩ = some (i64 V.num) := blk_cell hW.p 6; have x7 : W.cell? ⟨A, 7, none⟩ = some (str V.s) := blk_cell hW.p 7; have x8 : W.cell? ⟨A, 8, none⟩ = some (.slice a3 V.kids.length c3) := blk_cell hW.p 8; have y0 : W.cell? ⟨B, 0, none⟩ = some (i64 v) := blk_cell hW.g 0; have y1 : W.cell? ⟨B, 1, none⟩ = some (i64 T.kind) := blk_cell hW.g 1; have y2 : W.cell? ⟨B, 2, none⟩ = some (i64 T.num) := blk_cell hW.g 2; have y3 : W.cell? ⟨B, 3, none⟩ = some (.slice b1 T.names.length d1) := blk_cell hW.g 3; have y4 : W.cell? ⟨B, 4, none⟩ = some (.slice b2 T.kids.length d2) := blk_cell hW.g 4; have y5 : W.cell? ⟨B, 5, none⟩ = some (i64 V.kind) := blk_cell hW.g 5; have y6 : W.cell? ⟨B, 6, none⟩ = some (i64 V.num) := blk_cell hW.g 6; have y7 : W.cell? ⟨B, 7, none⟩ = some (str V.s) := blk_cell hW.g 7; have y8 : W.cell? ⟨B, 8, none⟩ = some (.slice b3 V.kids.length d3) := blk_cell hW.g 8; go_simp) ?_
    simp only [Act.put, List.setIfInBounds_toArray, List.set_cons_zero, List.set_cons_succ]
    refine wpL_take 2 28 (.agg #[i64 v, i64 T.kind, i64 T.num, .slice b1 T.names.length d1, .slice b2 T.kids.length d2, i64 V.kind, i64 V.num, str V.s, .slice b3 V.kids.length d3]) [] rfl rfl (by kernel_rfl) (by decide) (by kernel_rfl) (by kernel_rfl) (by kernel_rfl) (fun _ _ _ h => h) HSd.out (by rfl) (fun W hW => by have x0 : W.cell? ⟨A, 0, none⟩ = some (i64 v) := blk_cell hW.p 0; have x1 : W.cell? ⟨A, 1, none⟩ = some (i64 T.kind) := blk_cell hW.p 1; have x2 : W.cell? ⟨A, 2, none⟩ = some (i64 T.num) := blk_cell hW.p 2; have x3 : W.cell? ⟨A, 3, none⟩ = some (.slice a1 T.names.length c1) := blk_cell hW.p 3; have x4 : W.cell? ⟨A, 4, none⟩ = some (.slice a2 T.kids.length c2) := blk_cell hW.p 4; have x5 : W.cell? ⟨A, 5, none⟩ = some (i64 V.kind) := blk_cell hW.p 5; have x6 : W.cell? ⟨A, 6, none⟩ = some (i64 V.num) := blk_cell hW.p 6; have x7 : W.cell? ⟨A, 7, none⟩ = some (str V.s) := blk_cell hW.p 7; have x8 : W.cell? ⟨A, 8, none⟩ = some (.slice a3 V.kids.length c3) := blk_cell hW.p 8; have y0 : W.cell? ⟨B, 0, none⟩ = some (i64 v) := blk_cell hW.g 0; have y1 : W.cell? ⟨B, 1, none⟩ = some (i64 T.kind) := blk_cell hW.g 1; have y2 : W.cell? ⟨B, 2, none⟩ = some (i64 T.num) := blk_cell hW.g 2; have y3 : W.cell? ⟨B, 3, none⟩ = some (.slice b1 T.names.length d1) := blk_cell hW.g 3; have y4 : W.cell? ⟨B, 4, none⟩ = some (.slice b2 T.kids.length d2) := blk_cell hW.g 4; have y5 : W.cell? ⟨B, 5, none⟩ = some (i64 V.kind) := blk_cell hW.g 5; have y6 : W.cell? ⟨B, 6, none⟩ = some (i64 V.num) := blk_cell hW.g 6; have y7 : W.cell? ⟨B, 7, none⟩ = some (str V.s) := blk_cell hW.g 7; have y8 : W.cell? ⟨B, 8, none⟩ = some (.slice b3 V.kids.length d3) := blk_cell hW.g 8; go_simp) ?_
    simp only [Act.put, List.setIfInBounds_toArray, List.set_cons_zero, List.set_cons_succ]
    refine wpL_one 1 rfl (by kernel_rfl) (by rfl) (fun K hK => ?_)
    go_simp
    refine (HRF.out w5 HRA.out HVA.out).mono ?_
    rintro e w6 ⟨p1, q1, p2, q2, p3, q3, rfl, hb6, hr6, hv6⟩
    have HB6 : Hid (Below w.heap.size w w6) := HB5.out.trans (hb6.mono HB5.out.size)
    have HS6 : Hid ((Py A B (stC v T V (.slice a1 T.names.length c1) (.slice a2 T.kids.length c2) (.slice a3 V.kids.length c3)) (stD v T V (.slice b1 T.names.length d1) (.slice b2 T.kids.length d2) (.slice b3 V.kids.length d3))) w6) := ⟨blk_below HSd.out.p hb6, blk_below HSd.out.g hb6⟩
    have HRB6 := hid (HRB.out.under hb6)
    have HVB6 := hid (HVB.out.under hb6)
    have HSM := hid (HSame.out w6 _ _ _ _ _ _ hr6 hv6 HRB6.out HVB6.out)
    clear hb6 hr6 hv6 HRF HRA HVA HRB HVB
    go_simp
    refine hK.out _ _ (fun _ => HS6.out) ?_
    clear hK K
    refine wpL_one 3 rfl (by kernel_rfl) (by rfl) (fun K hK => ?_)
    go_simp
    refine HSM.out.mono ?_
    rintro e w7 ⟨rfl, hb7⟩
    have HB7 : Hid (Below w.heap.size w w7) := HB6.out.trans (hb7.mono HB6.out.size)
    have HS7 : Hid ((Py A B (stC v T V (.slice a1 T.names.length c1) (.slice a2 T.kids.length c2) (.slice a3 V.kids.length c3)) (stD v T V (.slice b1 T.names.length d1) (.slice b2 T.kids.length d2) (.slice b3 V.kids.length d3))) w7) := ⟨blk_below HS6.out.p hb7, blk_below HS6.out.g hb7⟩
    clear hb7 HSM HRB6 HVB6
    go_simp
    refine hK.out _ _ (fun _ => HS7.out) ?_
    clear hK K
    refine wpL_take 4 30 (.bool true) [] rfl rfl (by kernel_rfl) (by decide) (by kernel_rfl) (by kernel_rfl) (by kernel_rfl) (fun _ _ _ h => h) HS7.out (by rfl) (fun W hW => by have x0 : W.cell? ⟨A, 0, none⟩ = some (i64 v) := blk_cell hW.p 0; have x1 : W.cell? ⟨A, 1, none⟩ = some (i64 T.kind) := blk_cell hW.p 1; have x2 : W.cell? ⟨A, 2, none⟩ = some (i64 T.num) := blk_cell hW.p 2; have x3 : W.cell? ⟨A, 3, none⟩ = some (.slice a1 T.names.length c1) := blk_cell hW.p 3; have x4 : W.cell? ⟨A, 4, none⟩ = some (.slice a2 T.kids.length c2) := blk_cell hW.p 4; have x5 : W.cell? ⟨A, 5, none⟩ = some (i64 V.kind) := blk_cell hW.p 5; have x6 : W.cell? ⟨A, 6, none⟩ = some (i64 V.num) := blk_cell hW.p 6; have x7 : W.cell? ⟨A, 7, none⟩ = some (str V.s) := blk_cell hW.p 7; have x8 : W.cell? ⟨A, 8, none⟩ = some (.slice a3 V.kids.length c3) := blk_cell hW.p 8; have y0 : W.cell? ⟨B, 0, none⟩ = some (i64 v) := blk_cell hW.g 0; have y1 : W.cell? ⟨B, 1, none⟩ = some (i64 T.kind) := blk_cell hW.g 1; have y2 : W.cell? ⟨B, 2, none⟩ = some (i64 T.num) := blk_cell hW.g 2; have y3 : W.cell? ⟨B, 3, none⟩ = some (.slice b1 T.names.length d1) := blk_cell hW.g 3; have y4 : W.cell? ⟨B, 4, none⟩ = some (.slice b2 T.kids.length d2) := blk_cell hW.g 4; have y5 : W.cell? ⟨B, 5, none⟩ = some (i64 V.kind) := blk_cell hW.g 5; have y6 : W.cell? ⟨B, 6, none⟩ = some (i64 V.num) := blk_cell hW.g 6; have y7 : W.cell? ⟨B, 7, none⟩ = some (str V.s) := blk_cell hW.g 7; have y8 : W.cell? ⟨B, 8, none⟩ = some (.slice b3 V.kids.length d3) := blk_cell hW.g 8; go_simp) ?_
    simp only [Act.put, List.setIfInBounds_toArray, List.set_cons_zero, List.set_cons_succ]
    refine wpL_take 5 31 (i64 E) [] rfl rfl (by kernel_rfl) (by decide) (by kernel_rfl) (by kernel_rfl) (by kernel_rfl) (fun _ _ _ h => h) HS7.out (by rfl) (fun W hW => by have x0 : W.cell? ⟨A, 0, none⟩ = some (i64 v) := blk_cell hW.p 0; have x1 : W.cell? ⟨A, 1, none⟩ = some (i64 T.kind) := blk_cell hW.p 1; have x2 : W.cell? ⟨A, 2, none⟩ = some (i64 T.num) := blk_cell hW.p 2; have x3 : W.cell? ⟨A, 3, none⟩ = some (.slice a1 T.names.length c1) := blk_cell hW.p 3; have x4 : W.cell? ⟨A, 4, none⟩ = some (.slice a2 T.kids.length c2) := blk_cell hW.p 4; have x5 : W.cell? ⟨A, 5, none⟩ = some (i64 V.kind) := blk_cell hW.p 5; have x6 : W.cell? ⟨A, 6, none⟩ = some (i64 V.num) := blk_cell hW.p 6; have x7 : W.cell? ⟨A, 7, none⟩ = some (str V.s) := blk_cell hW.p 7; have x8 : W.cell? ⟨A, 8, none⟩ = some (.slice a3 V.kids.length c3) := blk_cell hW.p 8; have y0 : W.cell? ⟨B, 0, none⟩ = some (i64 v) := blk_cell hW.g 0; have y1 : W.cell? ⟨B, 1, none⟩ = some (i64 T.kind) := blk_cell hW.g 1; have y2 : W.cell? ⟨B, 2, none⟩ = some (i64 T.num) := blk_cell hW.g 2; have y3 : W.cell? ⟨B, 3, none⟩ = some (.slice b1 T.names.length d1) := blk_cell hW.g 3; have y4 : W.cell? ⟨B, 4, none⟩ = some (.slice b2 T.kids.length d2) := blk_cell hW.g 4; have y5 : W.cell? ⟨B, 5, none⟩ = some (i64 V.kind) := blk_cell hW.g 5; have y6 : W.cell? ⟨B, 6, none⟩ = some (i64 V.num) := blk_cell hW.g 6; have y7 : W.cell? ⟨B, 7, none⟩ = some (str V.s) := blk_cell hW.g 7; have y8 : W.cell? ⟨B, 8, none⟩ = some (.slice b3 V.kids.length d3) := blk_cell hW.g 8; go_simp) ?_
    simp only [Act.put, List.setIfInBounds_toArray, List.set_cons_zero, List.set_cons_succ]
    refine wpL_take 6 32 (i64 E) [] rfl rfl (by kernel_rfl) (by decide) (by kernel_rfl) (by kernel_rfl) (by kernel_rfl) (fun _ _ _ h => h) HS7.out (by rfl) (fun W hW => by have x0 : W.cell? ⟨A, 0, none⟩ = some (i64 v) := blk_cell hW.p 0; have x1 : W.cell? ⟨A, 1, none⟩ = some (i64 T.kind) := blk_cell hW.p 1; have x2 : W.cell? ⟨A, 2, none⟩ = some (i64 T.num) := blk_cell hW.p 2; have x3 : W.cell? ⟨A, 3, none⟩ = some (.slice a1 T.names.length c1) := blk_cell hW.p 3; have x4 : W.cell? ⟨A, 4, none⟩ = some (.slice a2 T.kids.length c2) := blk_cell hW.p 4; have x5 : W.cell? ⟨A, 5, none⟩ = some (i64 V.kind) := blk_cell hW.p 5; have x6 : W.cell? ⟨A, 6, none⟩ = some (i64 V.num) := blk_cell hW.p 6; have x7 : W.cell? ⟨A, 7, none⟩ = some (str V.s) := blk_cell hW.p 7; have x8 : W.cell? ⟨A, 8, none⟩ = some (.slice a3 V.kids.length c3) := blk_cell hW.p 8; have y0 : W.cell? ⟨B, 0, none⟩ = some (i64 v) := blk_cell hW.g 0; have y1 : W.cell? ⟨B, 1, none⟩ = some (i64 T.kind) := blk_cell hW.g 1; have y2 : W.cell? ⟨B, 2, none⟩ = some (i64 T.num) := blk_cell hW.g 2; have y3 : W.cell? ⟨B, 3, none⟩ = some (.slice b1 T.names.length d1) := blk_cell hW.g 3; have y4 : W.cell? ⟨B, 4, none⟩ = some (.slice b2 T.kids.length d2) := blk_cell hW.g 4; have y5 : W.cell? ⟨B, 5, none⟩ = some (i64 V.kind) := blk_cell hW.g 5; have y6 : W.cell? ⟨B, 6, none⟩ = some (i64 V.num) := blk_cell hW.g 6; have y7 : W.cell? ⟨B, 7, none⟩ = some (str V.s) := blk_cell hW.g 7; have y8 : W.cell? ⟨B, 8, none⟩ = some (.slice b3 V.kids.length d3) := blk_cell hW.g 8; go_simp) ?_
    simp only [Act.put, List.setIfInBounds_toArray, List.set_cons_zero, List.set_cons_succ]
    refine wpL_take 7 33 (.bool true) [] rfl rfl (by kernel_rfl) (by decide) (by kernel_rfl) (by kernel_rfl) (by kernel_rfl) (fun _ _ _ h => h) HS7.out (by rfl) (fun W hW => by have x0 : W.cell? ⟨A, 0, none⟩ = some (i64 v) := blk_cell hW.p 0; have x1 : W.cell? ⟨A, 1, none⟩ = some (i64 T.kind) := blk_cell hW.p 1; have x2 : W.cell? ⟨A, 2, none⟩ = some (i64 T.num) := blk_cell hW.p 2; have x3 : W.cell? ⟨A, 3, none⟩ = some (.slice a1 T.names.length c1) := blk_cell hW.p 3; have x4 : W.cell? ⟨A, 4, none⟩ = some (.slice a2 T.kids.length c2) := blk_cell hW.p 4; have x5 : W.cell? ⟨A, 5, none⟩ = some (i64 V.kind) := blk_cell hW.p 5; have x6 : W.cell? ⟨A, 6, none⟩ = some (i64 V.num) := blk_cell hW.p 6; have x7 : W.cell? ⟨A, 7, none⟩ = some (str V.s) := blk_cell hW.p 7; have x8 : W.cell? ⟨A, 8, none⟩ = some (.slice a3 V.kids.length c3) := blk_cell hW.p 8; have y0 : W.cell? ⟨B, 0, none⟩ = some (i64 v) := blk_cell hW.g 0; have y1 : W.cell? ⟨B, 1, none⟩ = some (i64 T.kind) := blk_cell hW.g 1; have y2 : W.cell? ⟨B, 2, none⟩ = some (i64 T.num) := blk_cell hW.g 2; have y3 : W.cell? ⟨B, 3, none⟩ = some (.slice b1 T.names.length d1) := blk_cell hW.g 3; have y4 : W.cell? ⟨B, 4, none⟩ = some (.slice b2 T.kids.length d2) := blk_cell hW.g 4; have y5 : W.cell? ⟨B, 5, none⟩ = some (i64 V.kind) := blk_cell hW.g 5; have y6 : W.cell? ⟨B, 6, none⟩ = some (i64 V.num) := blk_cell hW.g 6; have y7 : W.cell? ⟨B, 7, none⟩ = some (str V.s) := blk_cell hW.g 7; have y8 : W.cell? ⟨B, 8, none⟩ = some (.slice b3 V.kids.length d3) := blk_cell hW.g 8; go_simp) ?_
    simp only [Act.put, List.setIfInBounds_toArray, List.set_cons_zero, List.set_cons_succ]
    refine wpL_take 8 34 (.bool true) [] rfl rfl (by kernel_rfl) (by decide) (by kernel_rfl) (by kernel_rfl) (by kernel_rfl) (fun _ _ _ h => h) HS7.out (by rfl) (fun W hW => by have x0 : W.cell? ⟨A, 0, none⟩ = some (i64 v) := blk_cell hW.p 0; have x1 : W.cell? ⟨A, 1, none⟩ = some (i64 T.kind) := blk_cell hW.p 1; have x2 : W.cell? ⟨A, 2, none⟩ = some (i64 T.num) := blk_cell hW.p 2; have x3 : W.cell? ⟨A, 3, none⟩ = some (.slice a1 T.names.length c1) := blk_cell hW.p 3; have x4 : W.cell? ⟨A, 4, none⟩ = some (.slice a2 T.kids.length c2) := blk_cell hW.p 4; have x5 : W.cell? ⟨A, 5, none⟩ = some (i64 V.kind) := blk_cell hW.p 5; have x6 : W.cell? ⟨A, 6, none⟩ = some (i64 V.num) := blk_cell hW.p 6; have x7 : W.cell? ⟨A, 7, none⟩ = some (str V.s) := blk_cell hW.p 7; have x8 : W.cell? ⟨A, 8, none⟩ = some (.slice a3 V.kids.length c3) := blk_cell hW.p 8; have y0 : W.cell? ⟨B, 0, none⟩ = some (i64 v) := blk_cell hW.g 0; have y1 : W.cell? ⟨B, 1, none⟩ = some (i64 T.kind) := blk_cell hW.g 1; have y2 : W.cell? ⟨B, 2, none⟩ = some (i64 T.num) := blk_cell hW.g 2; have y3 : W.cell? ⟨B, 3, none⟩ = some (.slice b1 T.names.length d1) := blk_cell hW.g 3; have y4 : W.cell? ⟨B, 4, none⟩ = some (.slice b2 T.kids.length d2) := blk_cell hW.g 4; have y5 : W.cell? ⟨B, 5, none⟩ = some (i64 V.kind) := blk_cell hW.g 5; have y6 : W.cell? ⟨B, 6, none⟩ = some (i64 V.num) := blk_cell hW.g 6; have y7 : W.cell? ⟨B, 7, none⟩ = some (str V.s) := blk_cell hW.g 7; have y8 : W.cell? ⟨B, 8, none⟩ = some (.slice b3 V.kids.length d3) := blk_cell hW.g 8; go_simp) ?_
    simp only [Act.put, List.setIfInBounds_toArray, List.set_cons_zero, List.set_cons_succ]
    refine wpL_take 9 35 (.bool true) [] rfl rfl (by kernel_rfl) (by decide) (by kernel_rfl) (by kernel_rfl) (by kernel_rfl) (fun _ _ _ h => h) HS7.out (by rfl) (fun W hW => by have x0 : W.cell? ⟨A, 0, none⟩ = some (i64 v) := blk_cell hW.p 0; have x1 : W.cell? ⟨A, 1, none⟩ = some (i64 T.kind) := blk_cell hW.p 1; have x2 : W.cell? ⟨A, 2, none⟩ = some (i64 T.num) := blk_cell hW.p 2; have x3 : W.cell? ⟨A, 3, none⟩ = some (.slice a1 T.names.length c1) := blk_cell hW.p 3; have x4 : W.cell? ⟨A, 4, none⟩ = some (.slice a2 T.kids.length c2) := blk_cell hW.p 4; have x5 : W.cell? ⟨A, 5, none⟩ = some (i64 V.kind) := blk_cell hW.p 5; have x6 : W.cell? ⟨A, 6, none⟩ = some (i64 V.num) := blk_cell hW.p 6; have x7 : W.cell? ⟨A, 7, none⟩ = some (str V.s) := blk_cell hW.p 7; have x8 : W.cell? ⟨A, 8, none⟩ = some (.slice a3 V.kids.length c3) := blk_cell hW.p 8; have y0 : W.cell? ⟨B, 0, none⟩ = some (i64 v) := blk_cell hW.g 0; have y1 : W.cell? ⟨B, 1, none⟩ = some (i64 T.kind) := blk_cell hW.g 1; have y2 : W.cell? ⟨B, 2, none⟩ = some (i64 T.num) := blk_cell hW.g 2; have y3 : W.cell? ⟨B, 3, none⟩ = some (.slice b1 T.names.length d1) := blk_cell hW.g 3; have y4 : W.cell? ⟨B, 4, none⟩ = some (.slice b2 T.kids.length d2) := blk_cell hW.g 4; have y5 : W.cell? ⟨B, 5, none⟩ = some (i64 V.kind) := blk_cell hW.g 5; have y6 : W.cell? ⟨B, 6, none⟩ = some (i64 V.num) := blk_cell hW.g 6; have y7 : W.cell? ⟨B, 7, none⟩ = some (str V.s) := blk_cell hW.g 7; have y8 : W.cell? ⟨B, 8, none⟩ = some (.slice b3 V.kids.length d3) := blk_cell hW.g 8; go_simp) ?_
    simp only [Act.put, List.setIfInBounds_toArray, List.set_cons_zero, List.set_cons_succ]
    refine wpL_one 10 rfl (by kernel_rfl) (by rfl) (fun K hK => ?_)
    go_simp
    refine (W7.out w7 HB7.out).mono ?_
    rintro e w8 ⟨rfl, hb8⟩
    have HB8 : Hid (Below w.heap.size w w8) := HB7.out.trans (hb8.mono HB7.out.size)
    have HS8 : Hid ((Py A B (stC v T V (.slice a1 T.names.length c1) (.slice a2 T.kids.length c2) (.slice a3 V.kids.length c3)) (stD v T V (.slice b1 T.names.length d1) (.slice b2 T.kids.length d2) (.slice b3 V.kids.length d3))) w8) := ⟨blk_below HS7.out.p hb8, blk_below HS7.out.g hb8⟩
    clear hb8
    go_simp
    refine hK.out _ _ (fun _ => HS8.out) ?_
    clear hK K
    refine wpL_take 11 37 (.bool true) [] rfl rfl (by kernel_rfl) (by decide) (by kernel_rfl) (by kernel_rfl) (by kernel_rfl) (fun _ _ _ h => h) HS8.out (by rfl) (fun W hW => by have x0 : W.cell? ⟨A, 0, none⟩ = some (i64 v) := blk_cell hW.p 0; have x1 : W.cell? ⟨A, 1, none⟩ = some (i64 T.kind) := blk_cell hW.p 1; have x2 : W.cell? ⟨A, 2, none⟩ = some (i64 T.num) := blk_cell hW.p 2; have x3 : W.cell? ⟨A, 3, none⟩ = some (.slice a1 T.names.length c1) := blk_cell hW.p 3; have x4 : W.cell? ⟨A, 4, none⟩ = some (.slice a2 T.kids.length c2) := blk_cell hW.p 4; have x5 : W.cell? ⟨A, 5, none⟩ = some (i64 V.kind) := blk_cell hW.p 5; have x6 : W.cell? ⟨A, 6, none⟩ = some (i64 V.num) := blk_cell hW.p 6; have x7 : W.cell? ⟨A, 7, none⟩ = some (str V.s) := blk_cell hW.p 7; have x8 : W.cell? ⟨A, 8, none⟩ = some (.slice a3 V.kids.length c3) := blk_cell hW.p 8; have y0 : W.cell? ⟨B, 0, none⟩ = some (i64 v) := blk_cell hW.g 0; have y1 : W.cell? ⟨B, 1, none⟩ = some (i64 T.kind) := blk_cell hW.g 1; have y2 : W.cell? ⟨B, 2, none⟩ = some (i64 T.num) := blk_cell hW.g 2; have y3 : W.cell? ⟨B, 3, none⟩ = some (.slice b1 T.names.length d1) := blk_cell hW.g 3; have y4 : W.cell? ⟨B, 4, none⟩ = some (.slice b2 T.kids.length d2) := blk_cell hW.g 4; have y5 : W.cell? ⟨B, 5, none⟩ = some (i64 V.kind) := blk_cell hW.g 5; have y6 : W.cell? ⟨B, 6, none⟩ = some (i64 V.num) := blk_cell hW.g 6; have y7 : W.cell? ⟨B, 7, none⟩ = some (str V.s) := blk_cell hW.g 7; have y8 : W.cell? ⟨B, 8, none⟩ = some (.slice b3 V.kids.length d3) := blk_cell hW.g 8; go_simp) ?_
    simp only [Act.put, List.setIfInBounds_toArray, List.set_cons_zero, List.set_cons_succ]
    refine wpL_one 12 rfl (by kernel_rfl) (by rfl) (fun K hK => ?_)
    go_simp
    refine hK.out _ _ (fun h => absurd rfl h) ?_
    clear hK K
    refine wpL_done (by kernel_rfl) ?_
    refine NoPanic.normal ?_
    go_wp2_with fail
    go_ret
    exact ⟨rfl, HB8.out⟩
  · have h1I : ¬ (2500 : Int) < l.length := by omega
    clear hmid h1
    go_enter Tryz.func4, Tryz.ntmps4
    go_wp2_with fail
    refine (HW.out w (Below.refl _ _)).mono ?_
    rintro e w1 ⟨a1, c1, a2, c2, a3, c3, rfl, hb1, hR1, hV1⟩
    obtain ⟨A, hA⟩ : ∃ A, A = w1.heap.size := ⟨_, rfl⟩
    have HB2 : Hid (Below w.heap.size w (w1.alloc (stC v T V (.slice a1 T.names.length c1) (.slice a2 T.kids.length c2) (.slice a3 V.kids.length c3)))) := hb1.alloc hb1.size _
    have HA2 : Hid ((w1.alloc (stC v T V (.slice a1 T.names.length c1) (.slice a2 T.kids.length c2) (.slice a3 V.kids.length c3))).heap[A]? = some (stC v T V (.slice a1 T.names.length c1) (.slice a2 T.kids.length c2) (.slice a3 V.kids.length c3))) := by rw [hA]; exact heap_last w1 _
    have HR2 := hid (hR1.under (below_one w1 (stC v T V (.slice a1 T.names.length c1) (.slice a2 T.kids.length c2) (.slice a3 V.kids.length c3))))
    have HV2 := hid (hV1.under (below_one w1 (stC v T V (.slice a1 T.names.length c1) (.slice a2 T.kids.length c2) (.slice a3 V.kids.length c3))))
    clear hb1 hR1 hV1
    go_upto_region 4 with fail
    rw [← hA]
    clear hA
    generalize w1.alloc (stC v T V (.slice a1 T.names.length c1) (.slice a2 T.kids.length c2) (.slice a3 V.kids.length c3)) = w2 at *
    go_wp2_with fail
    refine (HD.out w2).mono ?_
    rintro e w3 ⟨b1, d1, b2, d2, b3, d3, rfl, hb3, hR3, hV3⟩
    obtain ⟨B, hB⟩ : ∃ B, B = w3.heap.size := ⟨_, rfl⟩
    have hbb := hb3.trans ((below_one w3 (stD v T V (.slice b1 T.names.length d1) (.slice b2 T.kids.length d2) (.slice b3 V.kids.length d3))).mono hb3.size)
    have HB4 : Hid (Below w.heap.size w (w3.alloc (stD v T V (.slice b1 T.names.length d1) (.slice b2 T.kids.length d2) (.slice b3 V.kids.length d3)))) := HB2.out.trans (hbb.mono HB2.out.size)
    have HA4 : Hid ((w3.alloc (stD v T V (.slice b1 T.names.length d1) (.slice b2 T.kids.length d2) (.slice b3 V.kids.length d3))).heap[A]? = some (stC v T V (.slice a1 T.names.length c1) (.slice a2 T.kids.length c2) (.slice a3 V.kids.length c3))) := blk_below HA2.out hbb
    have HG4 : Hid ((w3.alloc (stD v T V (.slice b1 T.names.length d1) (.slice b2 T.kids.length d2) (.slice b3 V.kids.length d3))).heap[B]? = some (stD v T V (.slice b1 T.names.length d1) (.slice b2 T.kids.length d2) (.slice b3 V.kids.length d3))) := by rw [hB]; exact heap_last w3 _
    have HRA4 := hid (HR2.out.under hbb)
    have HVA4 := hid (HV2.out.under hbb)
    have HRB4 := hid (hR3.under (below_one w3 (stD v T V (.slice b1 T.names.length d1) (.slice b2 T.kids.length d2) (.slice b3 V.kids.length d3))))
    have HVB4 := hid (hV3.under (below_one w3 (stD v T V (.slice b1 T.names.length d1) (.slice b2 T.kids.length d2) (.slice b3 V.kids.length d3))))
    clear hb3 hR3 hV3 hbb HB2 HA2 HR2 HV2 HD HW
    go_upto_region 5 with fail
    rw [← hB]
    clear hB
    generalize w3.alloc (stD v T V (.slice b1 T.names.length d1) (.slice b2 T.kids.length d2) (.slice b3 V.kids.length d3)) = w4 at *
    have HSd : Hid ((Py A B (stC v T V (.slice a1 T.names.length c1) (.slice a2 T.kids.length c2) (.slice a3 V.kids.length c3)) (stD v T V (.slice b1 T.names.length d1) (.slice b2 T.kids.length d2) (.slice b3 V.kids.length d3))) w4.drew) := ⟨HA4.out, HG4.out⟩
    have HB5 : Hid (Below w.heap.size w w4.drew) := HB4.out.drew
    have HRA := hid (HRA4.out.under (Below.refl _ _).drew)
    have HVA := hid (HVA4.out.under (Below.refl _ _).drew)
    have HRB := hid (HRB4.out.under (Below.refl _ _).drew)
    have HVB := hid (HVB4.out.under (Below.refl _ _).drew)
    clear HA4 HG4 HB4 HRA4 HVA4 HRB4 HVB4
    refine wp_region_noPanic ?_
    refine wp_region_last (Py A B (stC v T V (.slice a1 T.names.length c1) (.slice a2 T.kids.length c2) (.slice a3 V.kids.length c3)) (stD v T V (.slice b1 T.names.length d1) (.slice b2 T.kids.length d2) (.slice b3 V.kids.length d3))) 12 (by kernel_rfl) ?_
    generalize w4.drew = w5 at *
    refine wpL_take 0 26 (.agg #[i64 v, i64 T.kind, i64 T.num, .slice a1 T.names.length c1, .slice a2 T.kids.length c2, i64 V.kind, i64 V.num, str V.s, .slice a3 V.kids.length c3]) [] rfl rfl (by kernel_rfl) (by decide) (by kernel_rfl) (by kernel_rfl) (by kernel_rfl) (fun _ _ _ h => h) HSd.out (by rfl) (fun W hW => by have x0 : W.cell? ⟨A, 0, none⟩ = some (i64 v) := blk_cell hW.p 0; have x1 : W.cell? ⟨A, 1, none⟩ = some (i64 T.kind) := blk_cell hW.p 1; have x2 : W.cell? ⟨A, 2, none⟩ = some (i64 T.num) := blk_cell hW.p 2; have x3 : W.cell? ⟨A, 3, none⟩ = some (.slice a1 T.names.length c1) := blk_cell hW.p 3; have x4 : W.cell? ⟨A, 4, none⟩ = some (.slice a2 T.kids.length c2) := blk_cell hW.p 4; have x5 : W.cell? ⟨A, 5, none⟩ = some (i64 V.kind) := blk_cell hW.p 5; have x6 : W.cell? ⟨A, 6, none⟩ = some (i64 V.num) := blk_cell hW.p 6; have x7 : W.cell? ⟨A, 7, none⟩ = some (str V.s) := blk_cell hW.p 7; have x8 : W.cell? ⟨A, 8, none⟩ = some (.slice a3 V.kids.length c3) := blk_cell hW.p 8; have y0 : W.cell? ⟨B, 0, none⟩ = some (i64 v) := blk_cell hW.g 0; have y1 : W.cell? ⟨B, 1, none⟩ = some (i64 T.kind) := blk_cell hW.g 1; have y2 : W.cell? ⟨B, 2, none⟩ = some (i64 T.num) := blk_cell hW.g 2; have y3 : W.cell? ⟨B, 3, none⟩ = some (.slice b1 T.names.length d1) := blk_cell hW.g 3; have y4 : W.cell? ⟨B, 4, none⟩ = some (.slice b2 T.kids.length d2) := blk_cell hW.g 4; have y5 : W.cell? ⟨B, 5, none⟩ = some (i64 V.kind) := blk_cell hW.g 5; have y6 : W.cell? ⟨B, 6, none⟩ = some (i64 V.num) := blk_cell hW.g 6; have y7 : W.cell? ⟨B, 7, none⟩ = some (str V.s) := blk_cell hW.g 7; have y8 : W.cell? ⟨B, 8, none⟩ = some (.slice b3 V.kids.length d3) := blk_cell hW.g 8; go_simp) ?_
    simp only [Act.put, List.setIfInBounds_toArray, List.set_cons_zero, List.set_cons_succ]
    refine wpL_take 2 28 (.agg #[i64 v, i64 T.kind, i64 T.num, .slice b1 T.names.length d1, .slice b2 T.kids.length d2, i64 V.kind, i64 V.num, str V.s, .slice b3 V.kids.length d3]) [] rfl rfl (by kernel_rfl) (by decide) (by kernel_rfl) (by kernel_rfl) (by kernel_rfl) (fun _ _ _ h => h) HSd.out (by rfl) (fun W hW => by have x0 : W.cell? ⟨A, 0, none⟩ = some (i64 v) := blk_cell hW.p 0; have x1 : W.cell? ⟨A, 1, none⟩ = some (i64 T.kind) := blk_cell hW.p 1; have x2 : W.cell? ⟨A, 2, none⟩ = some (i64 T.num) := blk_cell hW.p 2; have x3 : W.cell? ⟨A, 3, none⟩ = some (.slice a1 T.names.length c1) := blk_cell hW.p 3; have x4 : W.cell? ⟨A, 4, none⟩ = some (.slice a2 T.kids.length c2) := blk_cell hW.p 4; have x5 : W.cell? ⟨A, 5, none⟩ = some (i64 V.kind) := blk_cell hW.p 5; have x6 : W.cell? ⟨A, 6, none⟩ = some (i64 V.num) := blk_cell hW.p 6; have x7 : W.cell? ⟨A, 7, none⟩ = some (str V.s) := blk_cell hW.p 7; have x8 : W.cell? ⟨A, 8, none⟩ = some (.slice a3 V.kids.length c3) := blk_cell hW.p 8; have y0 : W.cell? ⟨B, 0, none⟩ = some (i64 v) := blk_cell hW.g 0; have y1 : W.cell? ⟨B, 1, none⟩ = some (i64 T.kind) := blk_cell hW.g 1; have y2 : W.cell? ⟨B, 2, none⟩ = some (i64 T.num) := blk_cell hW.g 2; have y3 : W.cell? ⟨B, 3, none⟩ = some (.slice b1 T.names.length d1) := blk_cell hW.g 3; have y4 : W.cell? ⟨B, 4, none⟩ = some (.slice b2 T.kids.length d2) := blk_cell hW.g 4; have y5 : W.cell? ⟨B, 5, none⟩ = some (i64 V.kind) := blk_cell hW.g 5; have y6 : W.cell? ⟨B, 6, none⟩ = some (i64 V.num) := blk_cell hW.g 6; have y7 : W.cell? ⟨B, 7, none⟩ = some (str V.s) := blk_cell hW.g 7; have y8 : W.cell? ⟨B, 8, none⟩ = some (.slice b3 V.kids.length d3) := blk_cell hW.g 8; go_simp) ?_
    simp only [Act.put, List.setIfInBounds_toArray, List.set_cons_zero, List.set_cons_succ]
    refine wpL_one 1 rfl (by kernel_rfl) (by rfl) (fun K hK => ?_)
    go_simp
    refine (HRF.out w5 HRA.out HVA.out).mono ?_
    rintro e w6 ⟨p1, q1, p2, q2, p3, q3, rfl, hb6, hr6, hv6⟩
    have HB6 : Hid (Below w.heap.size w w6) := HB5.out.trans (hb6.mono HB5.out.size)
    have HS6 : Hid ((Py A B (stC v T V (.slice a1 T.names.length c1) (.slice a2 T.kids.length c2) (.slice a3 V.kids.length c3)) (stD v T V (.slice b1 T.names.length d1) (.slice b2 T.kids.length d2) (.slice b3 V.kids.length d3))) w6) := ⟨blk_below HSd.out.p hb6, blk_below HSd.out.g hb6⟩
    have HRB6 := hid (HRB.out.under hb6)
    have HVB6 := hid (HVB.out.under hb6)
    have HSM := hid (HSame.out w6 _ _ _ _ _ _ hr6 hv6 HRB6.out HVB6.out)
    clear hb6 hr6 hv6 HRF HRA HVA HRB HVB
    go_simp
    refine hK.out _ _ (fun _ => HS6.out) ?_
    clear hK K
    refine wpL_one 3 rfl (by kernel_rfl) (by rfl) (fun K hK => ?_)
    go_simp
    refine HSM.out.mono ?_
    rintro e w7 ⟨rfl, hb7⟩
    have HB7 : Hid (Below w.heap.size w w7) := HB6.out.trans (hb7.mono HB6.out.size)
    have HS7 : Hid ((Py A B (stC v T V (.slice a1 T.names.length c1) (.slice a2 T.kids.length c2) (.slice a3 V.kids.length c3)) (stD v T V (.slice b1 T.names.length d1) (.slice b2 T.kids.length d2) (.slice b3 V.kids.length d3))) w7) := ⟨blk_below HS6.out.p hb7, blk_below HS6.out.g hb7⟩
    clear hb7 HSM HRB6 HVB6
    go_simp
    refine hK.out _ _ (fun _ => HS7.out) ?_
    clear hK K
    refine wpL_take 4 30 (.bool true) [] rfl rfl (by kernel_rfl) (by decide) (by kernel_rfl) (by kernel_rfl) (by kernel_rfl) (fun _ _ _ h => h) HS7.out (by rfl) (fun W hW => by have x0 : W.cell? ⟨A, 0, none⟩ = some (i64 v) := blk_cell hW.p 0; have x1 : W.cell? ⟨A, 1, none⟩ = some (i64 T.kind) := blk_cell hW.p 1; have x2 : W.cell? ⟨A, 2, none⟩ = some (i64 T.num) := blk_cell hW.p 2; have x3 : W.cell? ⟨A, 3, none⟩ = some (.slice a1 T.names.length c1) := blk_cell hW.p 3; have x4 : W.cell? ⟨A, 4, none⟩ = some (.slice a2 T.kids.length c2) := blk_cell hW.p 4; have x5 : W.cell? ⟨A, 5, none⟩ = some (i64 V.kind) := blk_cell hW.p 5; have x6 : W.cell? ⟨A, 6, none⟩ = some (i64 V.num) := blk_cell hW.p 6; have x7 : W.cell? ⟨A, 7, none⟩ = some (str V.s) := blk_cell hW.p 7; have x8 : W.cell? ⟨A, 8, none⟩ = some (.slice a3 V.kids.length c3) := blk_cell hW.p 8; have y0 : W.cell? ⟨B, 0, none⟩ = some (i64 v) := blk_cell hW.g 0; have y1 : W.cell? ⟨B, 1, none⟩ = some (i64 T.kind) := blk_cell hW.g 1; have y2 : W.cell? ⟨B, 2, none⟩ = some (i64 T.num) := blk_cell hW.g 2; have y3 : W.cell? ⟨B, 3, none⟩ = some (.slice b1 T.names.length d1) := blk_cell hW.g 3; have y4 : W.cell? ⟨B, 4, none⟩ = some (.slice b2 T.kids.length d2) := blk_cell hW.g 4; have y5 : W.cell? ⟨B, 5, none⟩ = some (i64 V.kind) := blk_cell hW.g 5; have y6 : W.cell? ⟨B, 6, none⟩ = some (i64 V.num) := blk_cell hW.g 6; have y7 : W.cell? ⟨B, 7, none⟩ = some (str V.s) := blk_cell hW.g 7; have y8 : W.cell? ⟨B, 8, none⟩ = some (.slice b3 V.kids.length d3) := blk_cell hW.g 8; go_simp) ?_
    simp only [Act.put, List.setIfInBounds_toArray, List.set_cons_zero, List.set_cons_succ]
    refine wpL_take 5 31 (i64 E) [] rfl rfl (by kernel_rfl) (by decide) (by kernel_rfl) (by kernel_rfl) (by kernel_rfl) (fun _ _ _ h => h) HS7.out (by rfl) (fun W hW => by have x0 : W.cell? ⟨A, 0, none⟩ = some (i64 v) := blk_cell hW.p 0; have x1 : W.cell? ⟨A, 1, none⟩ = some (i64 T.kind) := blk_cell hW.p 1; have x2 : W.cell? ⟨A, 2, none⟩ = some (i64 T.num) := blk_cell hW.p 2; have x3 : W.cell? ⟨A, 3, none⟩ = some (.slice a1 T.names.length c1) := blk_cell hW.p 3; have x4 : W.cell? ⟨A, 4, none⟩ = some (.slice a2 T.kids.length c2) := blk_cell hW.p 4; have x5 : W.cell? ⟨A, 5, none⟩ = some (i64 V.kind) := blk_cell hW.p 5; have x6 : W.cell? ⟨A, 6, none⟩ = some (i64 V.num) := blk_cell hW.p 6; have x7 : W.cell? ⟨A, 7, none⟩ = some (str V.s) := blk_cell hW.p 7; have x8 : W.cell? ⟨A, 8, none⟩ = some (.slice a3 V.kids.length c3) := blk_cell hW.p 8; have y0 : W.cell? ⟨B, 0, none⟩ = some (i64 v) := blk_cell hW.g 0; have y1 : W.cell? ⟨B, 1, none⟩ = some (i64 T.kind) := blk_cell hW.g 1; have y2 : W.cell? ⟨B, 2, none⟩ = some (i64 T.num) := blk_cell hW.g 2; have y3 : W.cell? ⟨B, 3, none⟩ = some (.slice b1 T.names.length d1) := blk_cell hW.g 3; have y4 : W.cell? ⟨B, 4, none⟩ = some (.slice b2 T.kids.length d2) := blk_cell hW.g 4; have y5 : W.cell? ⟨B, 5, none⟩ = some (i64 V.kind) := blk_cell hW.g 5; have y6 : W.cell? ⟨B, 6, none⟩ = some (i64 V.num) := blk_cell hW.g 6; have y7 : W.cell? ⟨B, 7, none⟩ = some (str V.s) := blk_cell hW.g 7; have y8 : W.cell? ⟨B, 8, none⟩ = some (.slice b3 V.kids.length d3) := blk_cell hW.g 8; go_simp) ?_
    simp only [Act.put, List.setIfInBounds_toArray, List.set_cons_zero, List.set_cons_succ]
    refine wpL_take 6 32 (i64 E) [] rfl rfl (by kernel_rfl) (by decide) (by kernel_rfl) (by kernel_rfl) (by kernel_rfl) (fun _ _ _ h => h) HS7.out (by rfl) (fun W hW => by have x0 : W.cell? ⟨A, 0, none⟩ = some (i64 v) := blk_cell hW.p 0; have x1 : W.cell? ⟨A, 1, none⟩ = some (i64 T.kind) := blk_cell hW.p 1; have x2 : W.cell? ⟨A, 2, none⟩ = some (i64 T.num) := blk_cell hW.p 2; have x3 : W.cell? ⟨A, 3, none⟩ = some (.slice a1 T.names.length c1) := blk_cell hW.p 3; have x4 : W.cell? ⟨A, 4, none⟩ = some (.slice a2 T.kids.length c2) := blk_cell hW.p 4; have x5 : W.cell? ⟨A, 5, none⟩ = some (i64 V.kind) := blk_cell hW.p 5; have x6 : W.cell? ⟨A, 6, none⟩ = some (i64 V.num) := blk_cell hW.p 6; have x7 : W.cell? ⟨A, 7, none⟩ = some (str V.s) := blk_cell hW.p 7; have x8 : W.cell? ⟨A, 8, none⟩ = some (.slice a3 V.kids.length c3) := blk_cell hW.p 8; have y0 : W.cell? ⟨B, 0, none⟩ = some (i64 v) := blk_cell hW.g 0; have y1 : W.cell? ⟨B, 1, none⟩ = some (i64 T.kind) := blk_cell hW.g 1; have y2 : W.cell? ⟨B, 2, none⟩ = some (i64 T.num) := blk_cell hW.g 2; have y3 : W.cell? ⟨B, 3, none⟩ = some (.slice b1 T.names.length d1) := blk_cell hW.g 3; have y4 : W.cell? ⟨B, 4, none⟩ = some (.slice b2 T.kids.length d2) := blk_cell hW.g 4; have y5 : W.cell? ⟨B, 5, none⟩ = some (i64 V.kind) := blk_cell hW.g 5; have y6 : W.cell? ⟨B, 6, none⟩ = some (i64 V.num) := blk_cell hW.g 6; have y7 : W.cell? ⟨B, 7, none⟩ = some (str V.s) := blk_cell hW.g 7; have y8 : W.cell? ⟨B, 8, none⟩ = some (.slice b3 V.kids.length d3) := blk_cell hW.g 8; go_simp) ?_
    simp only [Act.put, List.setIfInBounds_toArray, List.set_cons_zero, List.set_cons_succ]
    refine wpL_take 7 33 (.bool true) [] rfl rfl (by kernel_rfl) (by decide) (by kernel_rfl) (by kernel_rfl) (by kernel_rfl) (fun _ _ _ h => h) HS7.out (by rfl) (fun W hW => by have x0 : W.cell? ⟨A, 0, none⟩ = some (i64 v) := blk_cell hW.p 0; have x1 : W.cell? ⟨A, 1, none⟩ = some (i64 T.kind) := blk_cell hW.p 1; have x2 : W.cell? ⟨A, 2, none⟩ = some (i64 T.num) := blk_cell hW.p 2; have x3 : W.cell? ⟨A, 3, none⟩ = some (.slice a1 T.names.length c1) := blk_cell hW.p 3; have x4 : W.cell? ⟨A, 4, none⟩ = some (.slice a2 T.kids.length c2) := blk_cell hW.p 4; have x5 : W.cell? ⟨A, 5, none⟩ = some (i64 V.kind) := blk_cell hW.p 5; have x6 : W.cell? ⟨A, 6, none⟩ = some (i64 V.num) := blk_cell hW.p 6; have x7 : W.cell? ⟨A, 7, none⟩ = some (str V.s) := blk_cell hW.p 7; have x8 : W.cell? ⟨A, 8, none⟩ = some (.slice a3 V.kids.length c3) := blk_cell hW.p 8; have y0 : W.cell? ⟨B, 0, none⟩ = some (i64 v) := blk_cell hW.g 0; have y1 : W.cell? ⟨B, 1, none⟩ = some (i64 T.kind) := blk_cell hW.g 1; have y2 : W.cell? ⟨B, 2, none⟩ = some (i64 T.num) := blk_cell hW.g 2; have y3 : W.cell? ⟨B, 3, none⟩ = some (.slice b1 T.names.length d1) := blk_cell hW.g 3; have y4 : W.cell? ⟨B, 4, none⟩ = some (.slice b2 T.kids.length d2) := blk_cell hW.g 4; have y5 : W.cell? ⟨B, 5, none⟩ = some (i64 V.kind) := blk_cell hW.g 5; have y6 : W.cell? ⟨B, 6, none⟩ = some (i64 V.num) := blk_cell hW.g 6; have y7 : W.cell? ⟨B, 7, none⟩ = some (str V.s) := blk_cell hW.g 7; have y8 : W.cell? ⟨B, 8, none⟩ = some (.slice b3 V.kids.length d3) := blk_cell hW.g 8; go_simp) ?_
    simp only [Act.put, List.setIfInBounds_toArray, List.set_cons_zero, List.set_cons_succ]
    refine wpL_take 8 34 (.bool true) [] rfl rfl (by kernel_rfl) (by decide) (by kernel_rfl) (by kernel_rfl) (by kernel_rfl) (fun _ _ _ h => h) HS7.out (by rfl) (fun W hW => by have x0 : W.cell? ⟨A, 0, none⟩ = some (i64 v) := blk_cell hW.p 0; have x1 : W.cell? ⟨A, 1, none⟩ = some (i64 T.kind) := blk_cell hW.p 1; have x2 : W.cell? ⟨A, 2, none⟩ = some (i64 T.num) := blk_cell hW.p 2; have x3 : W.cell? ⟨A, 3, none⟩ = some (.slice a1 T.names.length c1) := blk_cell hW.p 3; have x4 : W.cell? ⟨A, 4, none⟩ = some (.slice a2 T.kids.length c2) := blk_cell hW.p 4; have x5 : W.cell? ⟨A, 5, none⟩ = some (i64 V.kind) := blk_cell hW.p 5; have x6 : W.cell? ⟨A, 6, none⟩ = some (i64 V.num) := blk_cell hW.p 6; have x7 : W.cell? ⟨A, 7, none⟩ = some (str V.s) := blk_cell hW.p 7; have x8 : W.cell? ⟨A, 8, none⟩ = some (.slice a3 V.kids.length c3) := blk_cell hW.p 8; have y0 : W.cell? ⟨B, 0, none⟩ = some (i64 v) := blk_cell hW.g 0; have y1 : W.cell? ⟨B, 1, none⟩ = some (i64 T.kind) := blk_cell hW.g 1; have y2 : W.cell? ⟨B, 2, none⟩ = some (i64 T.num) := blk_cell hW.g 2; have y3 : W.cell? ⟨B, 3, none⟩ = some (.slice b1 T.names.length d1) := blk_cell hW.g 3; have y4 : W.cell? ⟨B, 4, none⟩ = some (.slice b2 T.kids.length d2) := blk_cell hW.g 4; have y5 : W.cell? ⟨B, 5, none⟩ = some (i64 V.kind) := blk_cell hW.g 5; have y6 : W.cell? ⟨B, 6, none⟩ = some (i64 V.num) := blk_cell hW.g 6; have y7 : W.cell? ⟨B, 7, none⟩ = some (str V.s) := blk_cell hW.g 7; have y8 : W.cell? ⟨B, 8, none⟩ = some (.slice b3 V.kids.length d3) := blk_cell hW.g 8; go_simp) ?_
    simp only [Act.put, List.setIfInBounds_toArray, List.set_cons_zero, List.set_cons_succ]
    refine wpL_take 9 35 (.bool true) [] rfl rfl (by kernel_rfl) (by decide) (by kernel_rfl) (by kernel_rfl) (by kernel_rfl) (fun _ _ _ h => h) HS7.out (by rfl) (fun W hW => by have x0 : W.cell? ⟨A, 0, none⟩ = some (i64 v) := blk_cell hW.p 0; have x1 : W.cell? ⟨A, 1, none⟩ = some (i64 T.kind) := blk_cell hW.p 1; have x2 : W.cell? ⟨A, 2, none⟩ = some (i64 T.num) := blk_cell hW.p 2; have x3 : W.cell? ⟨A, 3, none⟩ = some (.slice a1 T.names.length c1) := blk_cell hW.p 3; have x4 : W.cell? ⟨A, 4, none⟩ = some (.slice a2 T.kids.length c2) := blk_cell hW.p 4; have x5 : W.cell? ⟨A, 5, none⟩ = some (i64 V.kind) := blk_cell hW.p 5; have x6 : W.cell? ⟨A, 6, none⟩ = some (i64 V.num) := blk_cell hW.p 6; have x7 : W.cell? ⟨A, 7, none⟩ = some (str V.s) := blk_cell hW.p 7; have x8 : W.cell? ⟨A, 8, none⟩ = some (.slice a3 V.kids.length c3) := blk_cell hW.p 8; have y0 : W.cell? ⟨B, 0, none⟩ = some (i64 v) := blk_cell hW.g 0; have y1 : W.cell? ⟨B, 1, none⟩ = some (i64 T.kind) := blk_cell hW.g 1; have y2 : W.cell? ⟨B, 2, none⟩ = some (i64 T.num) := blk_cell hW.g 2; have y3 : W.cell? ⟨B, 3, none⟩ = some (.slice b1 T.names.length d1) := blk_cell hW.g 3; have y4 : W.cell? ⟨B, 4, none⟩ = some (.slice b2 T.kids.length d2) := blk_cell hW.g 4; have y5 : W.cell? ⟨B, 5, none⟩ = some (i64 V.kind) := blk_cell hW.g 5; have y6 : W.cell? ⟨B, 6, none⟩ = some (i64 V.num) := blk_cell hW.g 6; have y7 : W.cell? ⟨B, 7, none⟩ = some (str V.s) := blk_cell hW.g 7; have y8 : W.cell? ⟨B, 8, none⟩ = some (.slice b3 V.kids.length d3) := blk_cell hW.g 8; go_simp) ?_
    simp only [Act.put, List.setIfInBounds_toArray, List.set_cons_zero, List.set_cons_succ]
    refine wpL_one 10 rfl (by kernel_rfl) (by rfl) (fun K hK => ?_)
    go_simp
    refine (W7.out w7 HB7.out).mono ?_
    rintro e w8 ⟨rfl, hb8⟩
    have HB8 : Hid (Below w.heap.size w w8) := HB7.out.trans (hb8.mono HB7.out.size)
    have HS8 : Hid ((Py A B (stC v T V (.slice a1 T.names.length c1) (.slice a2 T.kids.length c2) (.slice a3 V.kids.length c3)) (stD v T V (.slice b1 T.names.length d1) (.slice b2 T.kids.length d2) (.slice b3 V.kids.length d3))) w8) := ⟨blk_below HS7.out.p hb8, blk_below HS7.out.g hb8⟩
    clear hb8
    go_simp
    refine hK.out _ _ (fun _ => HS8.out) ?_
    clear hK K
    refine wpL_take 11 37 (.bool true) [] rfl rfl (by kernel_rfl) (by decide) (by kernel_rfl) (by kernel_rfl) (by kernel_rfl) (fun _ _ _ h => h) HS8.out (by rfl) (fun W hW => by have x0 : W.cell? ⟨A, 0, none⟩ = some (i64 v) := blk_cell hW.p 0; have x1 : W.cell? ⟨A, 1, none⟩ = some (i64 T.kind) := blk_cell hW.p 1; have x2 : W.cell? ⟨A, 2, none⟩ = some (i64 T.num) := blk_cell hW.p 2; have x3 : W.cell? ⟨A, 3, none⟩ = some (.slice a1 T.names.length c1) := blk_cell hW.p 3; have x4 : W.cell? ⟨A, 4, none⟩ = some (.slice a2 T.kids.length c2) := blk_cell hW.p 4; have x5 : W.cell? ⟨A, 5, none⟩ = some (i64 V.kind) := blk_cell hW.p 5; have x6 : W.cell? ⟨A, 6, none⟩ = some (i64 V.num) := blk_cell hW.p 6; have x7 : W.cell? ⟨A, 7, none⟩ = some (str V.s) := blk_cell hW.p 7; have x8 : W.cell? ⟨A, 8, none⟩ = some (.slice a3 V.kids.length c3) := blk_cell hW.p 8; have y0 : W.cell? ⟨B, 0, none⟩ = some (i64 v) := blk_cell hW.g 0; have y1 : W.cell? ⟨B, 1, none⟩ = some (i64 T.kind) := blk_cell hW.g 1; have y2 : W.cell? ⟨B, 2, none⟩ = some (i64 T.num) := blk_cell hW.g 2; have y3 : W.cell? ⟨B, 3, none⟩ = some (.slice b1 T.names.length d1) := blk_cell hW.g 3; have y4 : W.cell? ⟨B, 4, none⟩ = some (.slice b2 T.kids.length d2) := blk_cell hW.g 4; have y5 : W.cell? ⟨B, 5, none⟩ = some (i64 V.kind) := blk_cell hW.g 5; have y6 : W.cell? ⟨B, 6, none⟩ = some (i64 V.num) := blk_cell hW.g 6; have y7 : W.cell? ⟨B, 7, none⟩ = some (str V.s) := blk_cell hW.g 7; have y8 : W.cell? ⟨B, 8, none⟩ = some (.slice b3 V.kids.length d3) := blk_cell hW.g 8; go_simp) ?_
    simp only [Act.put, List.setIfInBounds_toArray, List.set_cons_zero, List.set_cons_succ]
    refine wpL_one 12 rfl (by kernel_rfl) (by rfl) (fun K hK => ?_)
    go_simp
    refine hK.out _ _ (fun h => absurd rfl h) ?_
    clear hK K
    refine wpL_done (by kernel_rfl) ?_
    refine NoPanic.normal ?_
    go_wp2_with fail
    go_ret
    exact ⟨rfl, HB8.out⟩
end Go.Proofs.YtihbbgcpdgnhoaaGreatDoor
