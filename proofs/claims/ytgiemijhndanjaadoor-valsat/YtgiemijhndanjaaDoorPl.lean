/- vals' place: its contract; what At finds; no statement is proved in this text. -/
import Derived.Test.YtgiemijhndanjaaDoorFit
import Derived.Test.YtgiemijhndanjaaDoorSz
import Derived.Test.YtgiemijhndanjaaDoorFld
import Derived.Test.YtgiemijhndanjaaDoorTx0
import Derived.Test.YtgiemijhndanjaaDoorOrd3
namespace Go.Proofs.YtgiemijhndanjaaDoor
open Go.ChangeShapes Go.WideShapes Go.ChangeAt Go.RowKit Go.Deep
attribute [local go_sem ↓] Go.wp_at_zero Go.wp_at_succ

def idxFrom (x : Bs) : Nat → Nat → Int
  | 0, _ => -1
  | f + 1, i => if Lib.itoa (i : Nat) = x then (i : Int) else idxFrom x f (i + 1)
theorem idxFrom_lt (x : Bs) : ∀ (f i : Nat), 0 ≤ idxFrom x f i → idxFrom x f i < i + f
  | 0, i, h => by simp [idxFrom] at h
  | f + 1, i, h => by
    unfold idxFrom at h ⊢
    split
    · omega
    · rename_i hne
      rw [if_neg hne] at h
      have := idxFrom_lt x f (i + 1) h
      omega
def placeF (V : Vl) (T : Ty) (x : Bs) : Int := if T.kind = 3 then idxFrom x V.kids.length 0 else fieldF T x
set_option maxRecDepth 100000 in
set_option maxHeartbeats 12800000 in
theorem place_ok (V : Vl) (T : Ty) (x : Bs) (w : World) (S S' : Nat → Prop) (kv nv tv : Value) (hV : Vd w S V kv) (hR : Rd w S' T nv tv) (hP : Pw w) (hsz : V.kids.length ≤ 60000) : Calls Tryd.prog 43 #[vlV V kv, tyV T.kind T.num nv tv, str x] w fun e w' => e = .returned (i64 (placeF V T x)) ∧ Below w.heap.size w w' := by
  obtain ⟨R, hRe⟩ : ∃ R, R = placeF V T x := ⟨_, rfl⟩
  have HRe : Hid (R = if T.kind = 3 then idxFrom x V.kids.length 0 else fieldF T x) := hRe
  rw [← hRe]
  clear hRe
  have HP := hid hP
  have HFL : Hid (∀ W nv tv, Rd W S' T nv tv → Calls Tryd.prog 54 #[tyV T.kind T.num nv tv, str x] W fun e w' => e = .returned (i64 (fieldF T x)) ∧ Below W.heap.size W w') := fun W nv tv h => field_ok T x W S' nv tv h
  generalize fieldF T x = FX at *
  have HVd := hid hV
  have HRd := hid hR
  obtain ⟨ak, ck, rfl⟩ := hV.form
  obtain ⟨an, cn, rfl, at_, ct, rfl⟩ := hR.form
  have HX : Hid (((w.alloc (.cells #[i64 V.kind, i64 V.num, str V.s, .slice ak V.kids.length ck] 24)).alloc (.cells #[i64 T.kind, i64 T.num, .slice an T.names.length cn, .slice at_ T.kids.length ct] 28)).heap[w.heap.size]? = some (.cells #[i64 V.kind, i64 V.num, str V.s, .slice ak V.kids.length ck] 24)) := blk_alloc (heap_last w _) _
  have HY : Hid (((w.alloc (.cells #[i64 V.kind, i64 V.num, str V.s, .slice ak V.kids.length ck] 24)).alloc (.cells #[i64 T.kind, i64 T.num, .slice an T.names.length cn, .slice at_ T.kids.length ct] 28)).heap[w.heap.size + 1]? = some (.cells #[i64 T.kind, i64 T.num, .slice an T.names.length cn, .slice at_ T.kids.length ct] 28)) := heap_at3 _ _ _ (by simp)
  have HBV : Hid (Below w.heap.size w ((w.alloc (.cells #[i64 V.kind, i64 V.num, str V.s, .slice ak V.kids.length ck] 24)).alloc (.cells #[i64 T.kind, i64 T.num, .slice an T.names.length cn, .slice at_ T.kids.length ct] 28))) := (below_one w _).trans ((below_one _ _).mono (by simp))
  clear hV hR hP
  go_enter Tryd.func43, Tryd.ntmps43
  go_upto_region 1 with fail
  generalize (w.alloc (.cells #[i64 V.kind, i64 V.num, str V.s, .slice ak V.kids.length ck] 24)).alloc (.cells #[i64 T.kind, i64 T.num, .slice an T.names.length cn, .slice at_ T.kids.length ct] 28) = V0 at *
  obtain ⟨Z, hZ⟩ : ∃ Z, Z = w.heap.size := ⟨_, rfl⟩
  obtain ⟨Y, hY⟩ : ∃ Y, Y = w.heap.size + 1 := ⟨_, rfl⟩
  rw [← hZ] at HX
  rw [← hY] at HY
  rw [← hY, ← hZ]
  clear hZ hY
  have zc0 : V0.cell? ⟨Z, 0, none⟩ = some (i64 V.kind) := blk_cell HX.out 0
  have zc1 : V0.cell? ⟨Z, 1, none⟩ = some (i64 V.num) := blk_cell HX.out 1
  have zc2 : V0.cell? ⟨Z, 2, none⟩ = some (str V.s) := blk_cell HX.out 2
  have zc3 : V0.cell? ⟨Z, 3, none⟩ = some (.slice ak V.kids.length ck) := blk_cell HX.out 3
  have yc0 : V0.cell? ⟨Y, 0, none⟩ = some (i64 T.kind) := blk_cell HY.out 0
  have yc1 : V0.cell? ⟨Y, 1, none⟩ = some (i64 T.num) := blk_cell HY.out 1
  have yc2 : V0.cell? ⟨Y, 2, none⟩ = some (.slice an T.names.length cn) := blk_cell HY.out 2
  have yc3 : V0.cell? ⟨Y, 3, none⟩ = some (.slice at_ T.kids.length ct) := blk_cell HY.out 3
  by_cases hk : T.kind = 3
  · have hkq : (T.kind != 3) = false := by simpa using hk
    have HR2 : Hid (R = idxFrom x (V.kids.length - 0) 0) := by show _ = _; rw [HRe.out, if_pos hk]; rfl
    have HK := hid hk
    clear hk HRe
    go_wp2_with fail
    go_loopw [17] (fun u wr => ∃ i : Nat, i ≤ V.kids.length ∧ u = i64 i ∧ Hid (Below w.heap.size w wr) ∧ Hid (R = idxFrom x (V.kids.length - i) i)) (fun u _ => V.kids.length - (intOf u).toNat)
    case atStart => exact ⟨0, Nat.zero_le _, rfl, HBV, HR2⟩
    case round =>
      obtain ⟨i, hi, rfl, HB, HRi⟩ := hrel
      by_cases hlt : i < V.kids.length
      · have HIT := hid (itoa_w wr (HP.out.below HB.out) i (by omega) (by omega))
        have HRs : Hid (R = if Lib.itoa (i : Nat) = x then (i : Int) else idxFrom x (V.kids.length - (i + 1)) (i + 1)) := by
          show _ = _
          rw [HRi.out, show V.kids.length - i = (V.kids.length - (i + 1)) + 1 by omega]
          rfl
        generalize Lib.itoa (i : Nat) = y at *
        clear HRi
        by_cases hy : y = x
        · have HF : Hid (R = (i : Int)) := by show _ = _; rw [HRs.out, if_pos hy]
          subst hy
          have q1 : (y == y) = true := by simp
          clear HRs
          go_wp2_with fail
          refine HIT.out.mono ?_
          rintro e w1 ⟨rfl, hb1⟩
          have HB1 : Hid (Below w.heap.size w w1) := HB.out.trans (hb1.mono HB.out.size)
          clear hb1
          go_wp2_with fail
          go_ret
          exact ⟨by rw [HF.out]; rfl, HB1.out⟩
        · have HF : Hid (R = idxFrom x (V.kids.length - (i + 1)) (i + 1)) := by show _ = _; rw [HRs.out, if_neg hy]
          have q1 : (y == x) = false := by simpa using hy
          have HY2 := hid hy
          clear HRs hy
          go_wp2_with fail
          refine HIT.out.mono ?_
          rintro e w1 ⟨rfl, hb1⟩
          have HB1 : Hid (Below w.heap.size w w1) := HB.out.trans (hb1.mono HB.out.size)
          clear hb1
          go_wp2_with fail
          exact ⟨⟨i + 1, by omega, by go_num, HB1, HF⟩, by simp [intOf]; omega⟩
      · have HF : Hid (R = -1) := by show _ = _; rw [HRi.out, show V.kids.length - i = 0 by omega]; rfl
        go_wp2_with fail
        go_ret
        exact ⟨by rw [HF.out]; rfl, HB.out⟩
  · have hkq : (T.kind != 3) = true := by simpa using hk
    have HR2 : Hid (R = FX) := by show _ = _; rw [HRe.out, if_neg hk]
    have HK := hid hk
    have HC := hid (HFL.out V0 _ _ (HRd.out.under HBV.out))
    clear hk HRe
    go_wp2_with fail
    refine HC.out.mono ?_
    rintro e w1 ⟨rfl, hb1⟩
    have HB1 : Hid (Below w.heap.size w w1) := HBV.out.trans (hb1.mono HBV.out.size)
    clear hb1
    go_wp2_with fail
    go_ret
    exact ⟨by rw [HR2.out]; rfl, HB1.out⟩
/-- What At finds of what fits. -/
def atW : List Bs → Vl → Ty → Option Vl
  | [], V, _ => some V
  | x :: r, V, T => if placeF V T x < 0 then none else atW r (V.kids.getD (placeF V T x).toNat (.mk 0 0 [] [])) (kidT T (placeF V T x).toNat)
theorem idxFromS_lt (x : ByteArray) : ∀ (zs : List ByteArray) (i : Nat), 0 ≤ Lib.idxFromS zs x i → Lib.idxFromS zs x i < i + zs.length
  | [], i, h => by simp [Lib.idxFromS] at h
  | z :: zs, i, h => by
    unfold Lib.idxFromS at h ⊢
    split
    · simp; omega
    · rename_i hne
      rw [if_neg hne] at h
      have := idxFromS_lt x zs (i + 1) h
      simp only [List.length_cons]
      omega
theorem idxOf_lt (l : List Bs) (x : Bs) (h : 0 ≤ Lib.idxOfS (l.map ba) (ba x)) : Lib.idxOfS (l.map ba) (ba x) < l.length := by
  have := idxFromS_lt (ba x) (l.map ba) 0 h
  simpa [Lib.idxOfS] using this
theorem first_nil {V : Vl} {T : Ty} (h : firstF V T = []) : aloneB V T = true ∧ ∀ i, (hi : i < V.kids.length) → firstF V.kids[i] (kidT T i) = [] := by
  rw [firstF_eq] at h
  split at h
  · rename_i ha
    refine ⟨ha, ?_⟩
    have hl : ∀ (l : List Vl) (k : Nat), firstL l k T = [] → ∀ i, (hi : i < l.length) → firstF l[i] (kidT T (k + i)) = [] := by
      intro l
      induction l with
      | nil => intro k _ i hi; simp at hi
      | cons v r ih =>
        intro k h i hi
        simp only [firstL] at h
        split at h
        · rename_i h0
          cases i with
          | zero => exact List.eq_nil_of_length_eq_zero h0
          | succ i =>
            have := ih (k + 1) h i (by simpa using hi)
            rw [show k + (i + 1) = k + 1 + i by omega]
            exact this
        · cases h
    intro i hi
    have := hl V.kids 0 h i hi
    rw [Nat.zero_add] at this
    exact this
  · cases h
theorem alone_kids {V : Vl} {T : Ty} (hf : T.formed = true) (ha : aloneB V T = true) (h4 : T.kind = 4) : V.kids.length = T.kids.length ∧ T.names.length = T.kids.length := by
  have hn := (formed_node hf).1
  unfold nodeB at hn
  rw [if_neg (by omega), if_neg (by omega), if_neg (by omega), if_pos h4] at hn
  simp only [Bool.and_eq_true, decide_eq_true_eq] at hn
  unfold aloneB alB at ha
  split at ha
  · cases ha
  · rename_i hk
    have hk : V.kind = T.kind := Classical.byContradiction hk
    rw [if_neg (by omega), if_neg (by omega), if_neg (by omega)] at ha
    simp only [Bool.and_eq_true, decide_eq_true_eq] at ha
    omega
theorem place_room {V : Vl} {T : Ty} {x : Bs} (hf : T.formed = true) (ha : aloneB V T = true) (h : 0 ≤ placeF V T x) : (placeF V T x).toNat < V.kids.length := by
  unfold placeF at h ⊢
  split
  · rename_i h3
    rw [if_pos h3] at h
    have := idxFrom_lt x V.kids.length 0 h
    omega
  · rename_i h3
    rw [if_neg h3] at h
    unfold fieldF at h ⊢
    split
    · rename_i h4
      rw [if_pos h4] at h
      have h5 := idxOf_lt T.names x h
      obtain ⟨h6, h7⟩ := alone_kids hf ha h4
      omega
    · rename_i h4
      rw [if_neg h4] at h
      omega
end Go.Proofs.YtgiemijhndanjaaDoor
