/- Texts La Lb Txr RecI Rec Read Par in one; no statement is proved in this text. -/
import Derived.Test.YtjppcfjjpkniaaaGreatDoorUD
import Derived.Test.YtjppcfjjpkniaaaGreatDoorUB
import Derived.Test.YtjppcfjjpkniaaaGreatDoorUC
namespace Go.Proofs.YtjppcfjjpkniaaaGreatDoor
open Go.ChangeShapes Go.WideShapes Go.ChangeAt Go.RowKit Go.Deep
attribute [local go_sem ↓] Go.wp_at_zero Go.wp_at_succ
set_option maxRecDepth 100000

theorem var_below {w w' : World} (hb : Below w.heap.size w w') {s : String} {C : Array Value} (h : w.var? Tryz.prog s = some C) : w'.var? Tryz.prog s = some C := by
  unfold World.var? at *
  cases hg : Tryz.prog.globalNamed s with
  | none => simp only [hg] at h; cases h
  | some g =>
    simp only [hg, Option.bind_some] at h ⊢
    rcases Nat.lt_or_ge g w.heap.size with e | e
    · rw [hb.block g e]; exact h
    · rw [Array.getElem?_eq_none e] at h; cases h
def formsC : Array Value := #[str [], i64 0, str wRename, i64 0, str wDrop, i64 0, str wAdd, i64 0, str wWiden, i64 0, str wEach, i64 0, str wShare, i64 2, str wSort, i64 1, str wNest, i64 1, str wLift, i64 0]
/-- What the program's variables hold. -/
structure Env (w : World) : Prop where
  pw : Pw w
  ml : ∃ m, w.cell? ⟨1, 0, none⟩ = some (i64 m)
  fo : w.var? Tryz.prog "imago/lang.forms" = some formsC
  es : ∃ tp p, w.var? Tryz.prog "strconv.ErrSyntax" = some #[.iface tp p]
  er : ∃ tp p, w.var? Tryz.prog "strconv.ErrRange" = some #[.iface tp p]
theorem Env.below {w w' : World} (h : Env w) (hb : Below w.heap.size w w') : Env w' := by
  obtain ⟨h1, ⟨m, h2⟩, h3, ⟨t4, p4, h4⟩, t5, p5, h5⟩ := h
  exact ⟨h1.below hb, ⟨m, by rw [World.cell?_of_block (w := w) (hb.block 1 (World.block_lt_of_cell? w _ h2))]; exact h2⟩, var_below hb h3, ⟨t4, p4, var_below hb h4⟩, ⟨t5, p5, var_below hb h5⟩⟩
/-- What was there ahead of B is as it was where the program's variables were good. -/
def Gl (B : Nat) (w : World) : Prop := ∃ W0, Env W0 ∧ W0.heap.size ≤ B ∧ Below W0.heap.size W0 w ∧ B ≤ w.heap.size
theorem Gl.env {B : Nat} {w : World} (h : Gl B w) : Env w := by obtain ⟨W0, h1, _, h3, _⟩ := h; exact h1.below h3
theorem Gl.below {B : Nat} {w w' : World} (h : Gl B w) (hb : Below B w w') : Gl B w' := by
  obtain ⟨W0, h1, h2, h3, h4⟩ := h
  exact ⟨W0, h1, h2, h3.trans (hb.mono h2), Nat.le_trans h4 hb.size⟩
theorem Gl.touch {B q : Nat} {w w' : World} (h : Gl B w) (ht : Touch q w w') (hq : B ≤ q) : Gl B w' := by
  have h4 : B ≤ w.heap.size := by obtain ⟨_, _, _, _, h4⟩ := h; exact h4
  exact h.below (ht.below hq h4)
theorem Gl.under {B : Nat} {w w' : World} (h : Gl B w) (hb : Below w.heap.size w w') : Gl B w' := by
  have h4 : B ≤ w.heap.size := by obtain ⟨_, _, _, _, h4⟩ := h; exact h4
  exact h.below (hb.mono h4)
theorem Gl.le {B : Nat} {w : World} (h : Gl B w) : B ≤ w.heap.size := by obtain ⟨_, _, _, _, h4⟩ := h; exact h4
theorem Gl.max {w : World} (h : Env w) : Gl w.heap.size w := ⟨w, h, Nat.le_refl _, Below.refl _ _, Nat.le_refl _⟩
theorem Gl.cell {B : Nat} {w : World} (h : Gl B w) (k : Nat) : w.cell? ⟨0, k, none⟩ = formsC[k]? := by
  have h3 := h.env.fo
  have hg : Tryz.prog.globalNamed "imago/lang.forms" = some 0 := by kernel_rfl
  unfold World.var? at h3
  rw [hg, Option.bind_some] at h3
  split at h3
  · rename_i cs t x hh
    cases h3
    exact cell_of_row w 0 k formsC t _ hh
  · cases h3

/-! ### Cuts and trims -/
theorem lindex (c : UInt8) : ∀ l : Bs, Lib.index l [c] = if c ∈ l then ((l.takeWhile (fun b => b != c)).length : Int) else -1
  | [] => by simp [Lib.index]
  | b :: l => by
    have ih := lindex c l
    unfold Lib.index
    by_cases h : c = b
    · subst h
      simp
    · have h1 : [c].isPrefixOf (b :: l) = false := by simp [List.isPrefixOf, h]
      have h2 : (b != c) = true := by simpa using fun e : b = c => h e.symm
      rw [h1, ih]
      simp only [Bool.false_eq_true, if_false, List.mem_cons, h, false_or, List.takeWhile_cons, h2, if_true, List.length_cons]
      by_cases h3 : c ∈ l
      · rw [if_pos h3, if_pos h3]
        have : ((((l.takeWhile (fun b => b != c)).length : Nat) : Int) == -1) = false := by simp
        rw [this]
        simp
      · rw [if_neg h3, if_neg h3]
        rfl
theorem ltake_tw (p : UInt8 → Bool) : ∀ l : Bs, l.take (l.takeWhile p).length = l.takeWhile p
  | [] => rfl
  | b :: l => by
    rw [List.takeWhile_cons]
    split
    · rw [List.length_cons, List.take_succ_cons, ltake_tw p l]
    · rfl
theorem ldrop_tw (p : UInt8 → Bool) : ∀ l : Bs, l.drop (l.takeWhile p).length = l.dropWhile p
  | [] => rfl
  | b :: l => by
    rw [List.takeWhile_cons, List.dropWhile_cons]
    split
    · rw [List.length_cons, List.drop_succ_cons, ldrop_tw p l]
    · rfl
theorem tw_all (c : UInt8) : ∀ l : Bs, c ∉ l → l.takeWhile (fun b => b != c) = l
  | [], _ => rfl
  | b :: l, h => by
    simp only [List.mem_cons, not_or] at h
    have h2 : (b != c) = true := by simpa using fun e : b = c => h.1 e.symm
    rw [List.takeWhile_cons, h2, if_pos rfl, tw_all c l h.2]
theorem dw_all (c : UInt8) : ∀ l : Bs, c ∉ l → l.dropWhile (fun b => b != c) = []
  | [], _ => rfl
  | b :: l, h => by
    simp only [List.mem_cons, not_or] at h
    have h2 : (b != c) = true := by simpa using fun e : b = c => h.1 e.symm
    rw [List.dropWhile_cons, h2, if_pos rfl, dw_all c l h.2]
theorem cut_tw (c : UInt8) (l : Bs) : Lib.cut l [c] = (l.takeWhile (fun b => b != c), (l.dropWhile (fun b => b != c)).tail, decide (c ∈ l)) := by
  unfold Lib.cut
  rw [lindex]
  by_cases h : c ∈ l
  · rw [if_pos h, if_pos (by omega), Int.toNat_natCast, ltake_tw]
    rw [List.length_singleton, ← List.drop_drop, ldrop_tw, List.drop_one]
    simp [h]
  · rw [if_neg h, if_neg (by omega), tw_all c l h, dw_all c l h]
    simp [h]
theorem lcut_ok (c : UInt8) (l : Bs) (w : World) (hl : l.length < 4294967281) (he : Env w) : Calls Tryz.prog 41 #[str l, .string ⟨#[c]⟩] w fun e w' => e = .returned (.tuple #[str (l.takeWhile (fun b => b != c)), str (l.dropWhile (fun b => b != c)).tail, .bool (decide (c ∈ l))]) ∧ Below w.heap.size w w' := by
  obtain ⟨m, hm⟩ := he.ml
  refine (Tryz.strings_Cut ⟨l.toArray⟩ ⟨#[c]⟩ m w (by rw [bz]; exact hl) hm).mono ?_
  rintro e w' ⟨rfl, n, rfl⟩
  rw [show (⟨#[c]⟩ : ByteArray).data.toList = [c] from rfl, cut_tw]
  exact ⟨rfl, below_drewN (Below.refl _ _) n⟩
theorem trim_ok (l : Bs) (w : World) : Calls Tryz.prog 46 #[str l, .string ⟨#[32]⟩] w fun e w' => e = .returned (str (trimL l)) ∧ w' = w := by
  refine (Tryz.strings_TrimLeft_one ⟨l.toArray⟩ 32 (by decide) w).mono ?_
  rintro e w' ⟨rfl, rfl⟩
  exact ⟨rfl, rfl⟩

/-! ### Words -/
theorem lres_one {W : World} {t : Array Value} {a : Addr} {u : Value} {F : Func} {n : Nat} {ty : TypeId} (hr : F.results = #[.cell n ty]) (h6 : t.getD n undef = .pointer (some a)) (g : (loadVar ty a).run Tryz.prog W = .ok u W) :
    (results F t).run Tryz.prog W = .ok u W := by
  simp only [results, hr]
  simp [asAddr, h6, g, -Array.getD_eq_getD_getElem?]
abbrev wdO (l : Bs) : Obj := .cells #[str l] 83
theorem vload83 {W : World} {b : Nat} {l : Bs} (h : W.heap[b]? = some (wdO l)) : (loadVar 83 ⟨b, 0, none⟩).run Tryz.prog W = .ok (.agg #[str l]) W := by
  refine run_loadVar_mid _ _ 0 83 [str l] _ (fun j u hu => ?_) Tryz.underlying83 rfl (by kernel_rfl)
  rw [Nat.zero_add, cell_of_row _ _ _ _ 83 (0, 0) h]
  simpa using hu
set_option maxHeartbeats 1600000 in
theorem take_ok {B q : Nat} (l : Bs) (w : World) (hg : Gl B w) (hl : l.length < 4294967281) (hq : w.heap[q]? = some (wdO l)) : Calls Tryz.prog 34 #[pq q] w fun e w' => e = .returned (str (wd l)) ∧ w'.heap[q]? = some (wdO (aft l)) ∧ Touch q w w' := by
  have HC := hid (lcut_ok 32 l w hl hg.env)
  have HT := hid fun w => trim_ok (l.dropWhile (fun b => b != 32)).tail w
  have HQ := hid hq
  have x0 := blk_cell hq 0
  unfold wd aft
  generalize (l.dropWhile (fun b => b != 32)).tail = r at *
  generalize l.takeWhile (fun b => b != 32) = a at *
  clear hg hl hq
  go_enter Tryz.func34, Tryz.ntmps34
  go_wp2_with fail
  refine HC.out.mono ?_
  rintro e w1 ⟨rfl, hb⟩
  have HQ1 := hid (blk_below HQ.out hb)
  have HB := hid hb
  have x1 := blk_cell HQ1.out 0
  have f1 := blk_frozen HQ1.out 0
  clear hb HC x0
  go_wp2_with fail
  refine (HT.out _).mono ?_
  rintro e w2 ⟨rfl, rfl⟩
  clear HT
  go_wp2_with fail
  go_ret
  refine ⟨rfl, ?_, Touch.setCell (p := ⟨q, 0, none⟩) (Touch.of_below HB.out) rfl _⟩
  have := heap_setCell_same w2 q 0 _ 83 (str (trimL r)) HQ1.out
  simpa using this
set_option maxHeartbeats 1600000 in
theorem split_ok (l : Bs) (w : World) (he : Env w) (hl : l.length < 4294967281) : Calls Tryz.prog 42 #[str l] w fun e w' => e = .returned (.agg #[str (lineT l)]) ∧ Below w.heap.size w w' := by
  have he2 : Env (w.alloc (wdO [])) := he.below (below_one w _)
  have HC := hid (lcut_ok 59 l _ hl he2)
  have HT := hid fun w => trim_ok (semi l) w
  have HY : Hid ((w.alloc (wdO [])).heap[w.heap.size]? = some (wdO [])) := heap_last w _
  have HB0 : Hid (Below w.heap.size w (w.alloc (wdO []))) := below_one w _
  unfold lineT
  unfold semi at *
  generalize l.takeWhile (fun b => b != 59) = a at *
  clear he hl he2
  go_enter Tryz.func42, Tryz.ntmps42
  go_upto_region 1 with fail
  obtain ⟨Y, hY⟩ : ∃ Y, Y = w.heap.size := ⟨_, rfl⟩
  have HYe : Hid (w.heap.size ≤ Y) := by show _ ≤ _; omega
  rw [← hY] at HY ⊢
  clear hY
  generalize w.alloc (wdO []) = V at *
  go_wp2_with fail
  refine HC.out.mono ?_
  rintro e w1 ⟨rfl, hb⟩
  have HY1 := hid (blk_below HY.out hb)
  have HB1 : Hid (Below w.heap.size w w1) := HB0.out.trans (hb.mono HB0.out.size)
  have x1 := blk_cell HY1.out 0
  have f1 := blk_frozen HY1.out 0
  clear hb HC
  go_wp2_with fail
  refine (HT.out _).mono ?_
  rintro e w2 ⟨rfl, rfl⟩
  clear HT
  go_wp2_with fail
  refine bodyPost_ret (lres_one Tryz.results42 rfl (vload83 (l := trimL a) ?_)) rfl ⟨rfl, Below.setCell (p := ⟨Y, 0, none⟩) HB1.out HYe.out _⟩
  have := heap_setCell_same w2 Y 0 _ 83 (str (trimL a)) HY1.out
  simpa using this
end Go.Proofs.YtjppcfjjpkniaaaGreatDoor
namespace Go.Proofs.YtjppcfjjpkniaaaGreatDoor
open Go.ChangeShapes Go.WideShapes Go.ChangeAt Go.RowKit Go.Deep
attribute [local go_sem ↓] Go.wp_at_zero Go.wp_at_succ
set_option maxRecDepth 100000

theorem words_one (l x : Bs) (hx : x ≠ []) : wordsF l = [x] ↔ wd l = x ∧ aft l = [] := by
  by_cases h : l = []
  · subst h
    simp only [wordsF_nil, wd_nil]
    constructor
    · intro h; cases h
    · rintro ⟨h, _⟩; exact absurd h.symm hx
  · rw [wordsF_cons h]
    by_cases h2 : aft l = []
    · rw [h2, wordsF_nil]; simp
    · rw [wordsF_cons h2]; simp [h2]
theorem str_eq (a b : Bs) : ((⟨a.toArray⟩ : ByteArray) == ⟨b.toArray⟩) = decide (a = b) := ba_beq a b
set_option maxHeartbeats 1600000 in
theorem end_ok (l : Bs) (w : World) (he : Env w) (hl : l.length < 4294967281) : Calls Tryz.prog 32 #[.agg #[str l]] w fun e w' => e = .returned (.bool (decide (wordsF l = [wEnd]))) ∧ Below w.heap.size w w' := by
  have HT := hid (take_ok l (w.alloc (wdO l)) ((Gl.max he).below (below_one w _)) hl (heap_last w _))
  have HB0 : Hid (Below w.heap.size w (w.alloc (wdO l))) := below_one w _
  have HE : Hid (decide (wordsF l = [wEnd]) = (decide (wd l = wEnd) && decide (aft l = []))) := by
    show _ = _
    rw [← Bool.decide_and]
    exact decide_eq_decide.2 (words_one l wEnd (by decide))
  rw [HE.out]
  clear HE hl he
  generalize wd l = a at *
  generalize aft l = r at *
  go_enter Tryz.func32, Tryz.ntmps32
  go_upto_region 1 with fail
  obtain ⟨Y, hY⟩ : ∃ Y, Y = w.heap.size := ⟨_, rfl⟩
  have HYe : Hid (w.heap.size ≤ Y) := by show _ ≤ _; omega
  rw [← hY] at HT ⊢
  clear hY
  generalize w.alloc (wdO l) = V at *
  go_wp2_with fail
  refine HT.out.mono ?_
  rintro e w1 ⟨rfl, hq, ht⟩
  have x1 := blk_cell hq 0
  have HB1 : Hid (Below w.heap.size w w1) := HB0.out.trans (ht.below HYe.out HB0.out.size)
  clear HT ht hq HB0
  by_cases h : a = wEnd
  · subst h
    have hb : ((⟨wEnd.toArray⟩ : ByteArray) == ⟨#[101, 110, 100]⟩) = true := by decide
    by_cases h2 : r = []
    · subst h2
      have hb2 : ((⟨([] : Bs).toArray⟩ : ByteArray) == ⟨#[]⟩) = true := by decide
      go_wp2_with fail
      go_ret
      exact ⟨rfl, HB1.out⟩
    · have hb2 : ((⟨r.toArray⟩ : ByteArray) == ⟨#[]⟩) = false := by
        rw [show (⟨#[]⟩ : ByteArray) = ⟨([] : Bs).toArray⟩ from rfl, ba_beq]; simp [h2]
      have h2' : decide (r = []) = false := by simp [h2]
      go_wp2_with fail
      go_ret
      cases r with
      | nil => exact absurd rfl h2
      | cons c r => exact ⟨rfl, HB1.out⟩
  · have hb : ((⟨a.toArray⟩ : ByteArray) == ⟨#[101, 110, 100]⟩) = false := by
      rw [show (⟨#[101, 110, 100]⟩ : ByteArray) = ⟨wEnd.toArray⟩ from rfl, ba_beq]; simp [h]
    have h' : decide (a = wEnd) = false := by simp [h]
    go_wp2_with fail
    go_ret
    exact ⟨by rw [h']; rfl, HB1.out⟩


theorem forms_word {w : World} (he : Env w) (k : Nat) (h1 : 1 ≤ k) (h2 : k ≤ 9) : w.cell? ⟨0, k * 2, none⟩ = some (str (opNm k)) := by
  rw [(Gl.max he).cell]
  have : k = 1 ∨ k = 2 ∨ k = 3 ∨ k = 4 ∨ k = 5 ∨ k = 6 ∨ k = 7 ∨ k = 8 ∨ k = 9 := by omega
  rcases this with rfl | rfl | rfl | rfl | rfl | rfl | rfl | rfl | rfl <;> rfl
theorem forms_least {w : World} (he : Env w) (k : Nat) (h1 : 1 ≤ k) (h2 : k ≤ 9) : w.cell? ⟨0, k * 2 + 1, none⟩ = some (i64 (leastF k : Nat)) := by
  rw [(Gl.max he).cell]
  have : k = 1 ∨ k = 2 ∨ k = 3 ∨ k = 4 ∨ k = 5 ∨ k = 6 ∨ k = 7 ∨ k = 8 ∨ k = 9 := by omega
  rcases this with rfl | rfl | rfl | rfl | rfl | rfl | rfl | rfl | rfl <;> rfl
theorem opF_le (l : Bs) : opF l ≤ 9 := by
  unfold opF
  repeat' split
  all_goals omega
theorem opF_at (k : Nat) (h1 : 1 ≤ k) (h2 : k ≤ 9) : opF (opNm k) = k := by
  have : k = 1 ∨ k = 2 ∨ k = 3 ∨ k = 4 ∨ k = 5 ∨ k = 6 ∨ k = 7 ∨ k = 8 ∨ k = 9 := by omega
  rcases this with rfl | rfl | rfl | rfl | rfl | rfl | rfl | rfl | rfl <;> decide
theorem opF_no (l : Bs) (h : ∀ k, 1 ≤ k → k ≤ 9 → opNm k ≠ l) : opF l = 0 := by
  have h' : ∀ (k : Nat) (x : Bs), opNm k = x → 1 ≤ k → k ≤ 9 → ¬ l = x := fun k x e h1 h2 e2 => h k h1 h2 (e.trans e2.symm)
  unfold opF
  rw [if_neg (h' 1 wRename rfl (by omega) (by omega)), if_neg (h' 2 wDrop rfl (by omega) (by omega)), if_neg (h' 3 wAdd rfl (by omega) (by omega)), if_neg (h' 4 wWiden rfl (by omega) (by omega)), if_neg (h' 5 wEach rfl (by omega) (by omega)), if_neg (h' 6 wShare rfl (by omega) (by omega)), if_neg (h' 7 wSort rfl (by omega) (by omega)), if_neg (h' 8 wNest rfl (by omega) (by omega)), if_neg (h' 9 wLift rfl (by omega) (by omega))]
set_option maxHeartbeats 1600000 in
theorem opOf_ok (l : Bs) (w : World) (he : Env w) : Calls Tryz.prog 43 #[str l] w fun e w' => e = .returned (i64 (opF l : Nat)) ∧ w' = w := by
  have HF : Hid (∀ k, 1 ≤ k → k ≤ 9 → w.cell? ⟨0, k * 2, none⟩ = some (str (opNm k))) := fun k => forms_word he k
  clear he
  obtain ⟨N, hN⟩ : ∃ N, N = opF l := ⟨_, rfl⟩
  have HN := hid hN
  rw [← hN]
  clear hN
  go_enter Tryz.func43, Tryz.ntmps43
  go_wp2
  go_loop [3] (fun u => ∃ k : Nat, 1 ≤ k ∧ k ≤ 10 ∧ u = .int .i64 k ∧ Hid (∀ j, 1 ≤ j → j < k → opNm j ≠ l)) (fun u => 10 - (intOf u).toNat)
  case atStart => exact ⟨1, by omega, by omega, rfl, fun j h1 h2 => by omega⟩
  case round =>
    obtain ⟨k, hk1, hk, rfl, HA⟩ := hrel
    by_cases hlt : k ≤ 9
    · have x1 := HF.out k hk1 hlt
      generalize hO : opNm k = o at *
      have HO := hid hO
      clear hO
      by_cases h3 : o = l
      · subst h3
        have HE : Hid (N = k) := by show _ = _; rw [HN.out, ← HO.out]; exact opF_at k hk1 hlt
        go_wp2
        go_ret
        exact ⟨by rw [HE.out]; rfl, rfl⟩
      · have HA2 : Hid (∀ j, 1 ≤ j → j < k + 1 → opNm j ≠ l) := fun j h1 h2 => by
          by_cases hj : j < k
          · exact HA.out j h1 hj
          · obtain rfl : j = k := by omega
            rw [HO.out]; exact h3
        have hb : (o == l) = false := by simp [h3]
        go_wp2
        go_round
        case rel => exact ⟨k + 1, by omega, by omega, by go_num, HA2⟩
        case measure => simp [intOf]; omega
    · have HE : Hid (N = 0) := by show _ = _; rw [HN.out]; exact opF_no l fun j h1 h2 => HA.out j h1 (by omega)
      go_wp2
      go_ret
      exact ⟨by rw [HE.out]; rfl, rfl⟩
end Go.Proofs.YtjppcfjjpkniaaaGreatDoor
namespace Go.Proofs.YtjppcfjjpkniaaaGreatDoor
open Go.ChangeShapes Go.WideShapes Go.ChangeAt Go.RowKit Go.Deep
attribute [local go_sem ↓] Go.wp_at_zero Go.wp_at_succ

theorem field_snoc (names : List Bs) (kids : List Ty) (i : Nat) (h1 : i < names.length) (h2 : i < kids.length) : (fieldL names (txtL kids)).take (i + 1) = (fieldL names (txtL kids)).take i ++ [names[i] ++ 58 :: kids[i].txt] := by
  rw [List.take_add_one, fieldL_get names (txtL kids) i h1 (by rw [txtL_len]; exact h2), txtL_get kids i h2]
  rfl
/-- The facts that a round of textOf's loop reads. -/
structure Sx (Z Y b ix : Nat) (oZ oY : Obj) (x : Bs) (W : World) : Prop where
  z : W.heap[Z]? = some oZ
  y : W.heap[Y]? = some oY
  c : W.cell? ⟨b, ix, none⟩ = some (str x)
theorem Sx.move {Z Y b ix : Nat} {oZ oY : Obj} {x : Bs} {W W' : World} (h : Sx Z Y b ix oZ oY x W) (h1 : W'.heap[Z]? = W.heap[Z]?) (h2 : W'.heap[Y]? = W.heap[Y]?) (h3 : W'.heap[b]? = W.heap[b]?) : Sx Z Y b ix oZ oY x W' :=
  ⟨h1.trans h.z, h2.trans h.y, by rw [World.cell?_of_block (w := W) h3]; exact h.c⟩
theorem Sx.below {Z Y b ix : Nat} {oZ oY : Obj} {x : Bs} {W W' : World} (h : Sx Z Y b ix oZ oY x W) (hb : Below W.heap.size W W') : Sx Z Y b ix oZ oY x W' :=
  h.move (hb.block Z (blk_lt h.z)) (hb.block Y (blk_lt h.y)) (hb.block b (World.block_lt_of_cell? W _ h.c))
set_option maxRecDepth 100000 in
set_option maxHeartbeats 12800000 in
theorem text_4 (names : List Bs) (kids : List Ty) (w : World) (S : Nat → Prop) (nv kv : Value) (hP : Pw w) (hl1 : names.length = kids.length) (hl2 : 1 ≤ kids.length) (hl3 : kids.length ≤ 12) (hns : ∀ x ∈ names, x.length ≤ 8) (hln : ∀ T ∈ kids, T.txt.length ≤ 3000000) (hft : (fieldT names (txtL kids)).length ≤ 3000000) (hR : Rd w S (.mk 4 0 names kids) nv kv)
    (hih : ∀ T ∈ kids, ∀ (w : World) (nv kv : Value), Pw w → Rd w S T nv kv → Calls Tryz.prog 93 #[tyV T.kind T.num nv kv] w fun e w' => e = .returned (str T.txt) ∧ Below w.heap.size w w') : Calls Tryz.prog 93 #[tyV 4 0 nv kv] w fun e w' => e = .returned (str (Ty.mk 4 0 names kids).txt) ∧ Below w.heap.size w w' := by
  have HRES : Hid (str (Ty.mk 4 0 names kids).txt = .string (((⟨#[114, 40]⟩ : ByteArray) ++ ⟨(fieldT names (txtL kids)).toArray⟩) ++ ⟨#[41]⟩)) := by
    show _ = _
    rw [txt_4]
    refine congrArg Value.string ?_
    apply ByteArray.ext
    simp
  have HJ : Hid (Lib.join (fieldL names (txtL kids)) [44] = fieldT names (txtL kids)) := join_field names (txtL kids) (by rw [txtL_len]; exact hl1)
  have HFL : Hid ((fieldL names (txtL kids)).length = kids.length) := by show _ = _; rw [fieldL_len _ _ (by rw [txtL_len]; exact hl1), hl1]
  have HSN : Hid (∀ i (h1 : i < names.length) (h2 : i < kids.length), (fieldL names (txtL kids)).take (i + 1) = (fieldL names (txtL kids)).take i ++ [names[i] ++ 58 :: kids[i].txt]) := field_snoc names kids
  have hbf := bz (fieldT names (txtL kids))
  generalize (Ty.mk 4 0 names kids).txt = TX at *
  generalize fieldL names (txtL kids) = FL at *
  generalize fieldT names (txtL kids) = FT at *
  have HP := hid hP
  have HIH := hid hih
  have HL1 := hid hl1
  have HNS := hid hns
  have HLN := hid hln
  clear hl1 hns hln
  have HRd : Hid (Rd w S (.mk 4 0 names kids) nv kv) := hR
  obtain ⟨⟨an, cn, rfl, hnl, hz1, hz2⟩, hkl, ak, ck, rfl, hz3⟩ := hR.kid
  clear hz1 hz2 hz3
  unfold maxLen at hnl hkl
  have HX : Hid ((w.alloc (.cells #[i64 4, i64 0, .slice an names.length cn, .slice ak kids.length ck] 49)).heap[w.heap.size]? = some (.cells #[i64 4, i64 0, .slice an names.length cn, .slice ak kids.length ck] 49)) := heap_last w _
  have HBV : Hid (Below w.heap.size w (w.alloc (.cells #[i64 4, i64 0, .slice an names.length cn, .slice ak kids.length ck] 49))) := below_one w _
  clear hR hP hih
  go_enter Tryz.func93, Tryz.ntmps93
  go_upto_region 1 with fail
  obtain ⟨Z, hZ⟩ : ∃ Z, Z = w.heap.size := ⟨_, rfl⟩
  rw [← hZ] at HX ⊢
  generalize w.alloc (.cells #[i64 4, i64 0, .slice an names.length cn, .slice ak kids.length ck] 49) = V at *
  have y0 : V.cell? ⟨Z, 0, none⟩ = some (i64 4) := blk_cell HX.out 0
  have y1 : V.cell? ⟨Z, 1, none⟩ = some (i64 0) := blk_cell HX.out 1
  have y2 : V.cell? ⟨Z, 2, none⟩ = some (.slice an names.length cn) := blk_cell HX.out 2
  have y3 : V.cell? ⟨Z, 3, none⟩ = some (.slice ak kids.length ck) := blk_cell HX.out 3
  have hZV : Z < V.heap.size := blk_lt HX.out
  have HZ := hid hZ
  clear hZ
  have HIT : Hid (Calls Tryz.prog 71 #[i64 0] V fun e w' => e = .returned (str (Lib.itoa 0)) ∧ Below V.heap.size V w') := itoa_w V (HP.out.below (HZ.out ▸ HBV.out)) 0 (by omega) (by omega)
  generalize Lib.itoa 0 = IT at *
  go_wp2_with fail
  refine HIT.out.mono ?_
  rintro e w1 ⟨rfl, hb1⟩
  have HB1 : Hid (Below w.heap.size w w1) := HBV.out.trans (hb1.mono HBV.out.size)
  have HX1 := hid (blk_below HX.out hb1)
  have HZlo : Hid (w.heap.size ≤ Z) := by show _ ≤ _; have := HZ.out; omega
  clear hb1 y0 y1 y2 y3
  have y0 : w1.cell? ⟨Z, 0, none⟩ = some (i64 4) := blk_cell HX1.out 0
  have y3 : w1.cell? ⟨Z, 3, none⟩ = some (.slice ak kids.length ck) := blk_cell HX1.out 3
  go_wp2_with fail
  go_loopw [4, 35] (fun a u wr => ∃ (i : Nat), i ≤ kids.length ∧ u = i64 i ∧ Hid (wr.ownsRow w.heap.size 9 1 a i ((FL.take i).map str)) ∧ Hid (wr.heap[Z]? = some (.cells #[i64 4, i64 0, .slice an names.length cn, .slice ak kids.length ck] 49)) ∧ Hid (Below w.heap.size w wr)) (fun _ u _ => kids.length - (intOf u).toNat)
  case atStart => exact ⟨0, by omega, rfl, ⟨rfl, Or.inl ⟨rfl, rfl⟩⟩, HX1, HB1⟩
  case round =>
    obtain ⟨i, hi, rfl, HO, HXr, HB⟩ := hrel
    obtain ⟨fa, fc, rfl, _⟩ := own_slice HO.out
    by_cases hlt : i < kids.length
    · clear y0 y3
      obtain ⟨_, _, ak1, ck1, he, hkid⟩ := (HRd.out.under HB.out).kid
      cases he
      obtain ⟨b, off, nv2, kv2, rfl, hbS, hblt, hr, hrd⟩ := hkid i hlt
      obtain ⟨T, hT⟩ : ∃ T, T = kids[i] := ⟨_, rfl⟩
      rw [← hT] at hr hrd
      have HTm : Hid (T ∈ kids) := by show _; rw [hT]; exact List.getElem_mem hlt
      have HTe : Hid (T = kids[i]) := hT
      have c0 : wr.cell? ⟨b, off + i * 4, none⟩ = some (i64 T.kind) := hr 0 _ rfl
      have c1 : wr.cell? ⟨b, off + i * 4 + 1, none⟩ = some (i64 T.num) := hr 1 _ rfl
      have c2 : wr.cell? ⟨b, off + i * 4 + 2, none⟩ = some nv2 := hr 2 _ rfl
      have c3 : wr.cell? ⟨b, off + i * 4 + 3, none⟩ = some kv2 := hr 3 _ rfl
      obtain ⟨an2, cn2, rfl, ak2, ck2, rfl⟩ := hrd.form
      have HX2 : Hid ((wr.alloc (.cells #[i64 T.kind, i64 T.num, .slice an2 T.names.length cn2, .slice ak2 T.kids.length ck2] 49)).heap[wr.heap.size]? = some (.cells #[i64 T.kind, i64 T.num, .slice an2 T.names.length cn2, .slice ak2 T.kids.length ck2] 49)) := heap_last wr _
      have HBX : Hid (Below wr.heap.size wr (wr.alloc (.cells #[i64 T.kind, i64 T.num, .slice an2 T.names.length cn2, .slice ak2 T.kids.length ck2] 49))) := below_one wr _
      have HRT : Hid (Rd (wr.alloc (.cells #[i64 T.kind, i64 T.num, .slice an2 T.names.length cn2, .slice ak2 T.kids.length ck2] 49)) _ T (.slice an2 T.names.length cn2) (.slice ak2 T.kids.length ck2)) := hrd.under HBX.out
      clear hT hr hrd hkid hbS
      go_upto_region 13 with fail
      obtain ⟨Y, hY⟩ : ∃ Y, Y = wr.heap.size := ⟨_, rfl⟩
      rw [← hY] at HX2 ⊢
      generalize wr.alloc (.cells #[i64 T.kind, i64 T.num, .slice an2 T.names.length cn2, .slice ak2 T.kids.length ck2] 49) = X at *
      have z0 : X.cell? ⟨Y, 0, none⟩ = some (i64 T.kind) := blk_cell HX2.out 0
      have z1 : X.cell? ⟨Y, 1, none⟩ = some (i64 T.num) := blk_cell HX2.out 1
      have z2 : X.cell? ⟨Y, 2, none⟩ = some (.slice an2 T.names.length cn2) := blk_cell HX2.out 2
      have z3 : X.cell? ⟨Y, 3, none⟩ = some (.slice ak2 T.kids.length ck2) := blk_cell HX2.out 3
      have hYX : Y < X.heap.size := blk_lt HX2.out
      have HY := hid hY
      clear c0 c1 c2 c3 hY
      obtain ⟨hs, _⟩ := (HRd.out.under HB.out).kid
      obtain ⟨ao', cap', he, hat⟩ := hs.at
      cases he
      have hlt2 : i < names.length := by have := HL1.out; omega
      obtain ⟨nb, no, rfl, hnlt, cN⟩ := hat i hlt2
      have hnlo : nb < w.heap.size := by
        obtain ⟨hs0, _⟩ := HRd.out.kid
        obtain ⟨_, _, he0, hat0⟩ := hs0.at
        cases he0
        obtain ⟨b0, o0, he1, h1, _⟩ := hat0 i hlt2
        cases he1
        exact h1
      obtain ⟨nm, hnm⟩ : ∃ nm, nm = names[i] := ⟨_, rfl⟩
      rw [← hnm] at cN
      have hnm8 : nm.length ≤ 8 := by rw [hnm]; exact HNS.out _ (List.getElem_mem hlt2)
      have HSN2 : Hid (FL.take (i + 1) = FL.take i ++ [nm ++ 58 :: T.txt]) := by show _ = _; rw [HSN.out i hlt2 hlt, ← hnm, ← HTe.out]
      have HCA := hid (HIH.out T HTm.out)
      have hTl := HLN.out T HTm.out
      have hbn := bz nm
      have hbt := bz T.txt
      have hFl : (FL.take i).length = i := by rw [List.length_take, HFL.out]; omega
      have HFl := hid hFl
      have hiN : (i : Int) < names.length := by omega
      clear hnm hat hs hFl
      have HSX : Hid (Sx Z Y nb (no + i) (.cells #[i64 4, i64 0, .slice (some ⟨nb, no, none⟩) names.length cn, .slice (some ⟨b, off, none⟩) kids.length ck] 49) (.cells #[i64 T.kind, i64 T.num, .slice an2 T.names.length cn2, .slice ak2 T.kids.length ck2] 49) nm X.drew) := ⟨(blk_below HXr.out HBX.out : X.heap[Z]? = _), HX2.out, by have := HBX.out.cell (p := ⟨nb, no + i, none⟩) hnlt; exact this.trans cN⟩
      have HOX : Hid (X.ownsRow w.heap.size 9 1 (.slice fa i fc) i ((FL.take i).map str)) := own_keep1 HO.out (fun k hk => HBX.out.block k (HO.out.lt k hk).2)
      have HBXw : Hid (Below w.heap.size w X) := HB.out.trans (HBX.out.mono HB.out.size)
      clear hnlt cN
      generalize hTT : T.txt = TT at *
      generalize hFF : FL.take i = FF at *
      clear hTT hFF HTe HX2
      refine wp_region_noPanic ?_
      refine wp_region_last (Sx Z Y nb (no + i) (.cells #[i64 4, i64 0, .slice (some ⟨nb, no, none⟩) names.length cn, .slice (some ⟨b, off, none⟩) kids.length ck] 49) (.cells #[i64 T.kind, i64 T.num, .slice an2 T.names.length cn2, .slice ak2 T.kids.length ck2] 49) nm) 12 (by kernel_rfl) ?_
      refine wpL_take 0 40 (.slice fa i fc) [] rfl rfl (by kernel_rfl) (by decide) (by kernel_rfl) (by kernel_rfl) (by kernel_rfl) (fun _ _ _ h => h) HSX.out (by rfl) (fun W hW => by go_simp) ?_
      simp only [Act.put, List.setIfInBounds_toArray, List.set_cons_zero, List.set_cons_succ]
      refine wpL_take 1 41 (.pointer (some ⟨Z, 2, none⟩)) [] rfl rfl (by kernel_rfl) (by decide) (by kernel_rfl) (by kernel_rfl) (by kernel_rfl) (fun _ _ _ h => h) HSX.out (by rfl) (fun W hW => by go_simp) ?_
      simp only [Act.put, List.setIfInBounds_toArray, List.set_cons_zero, List.set_cons_succ]
      refine wpL_take 2 42 (.slice (some ⟨nb, no, none⟩) names.length cn) [] rfl rfl (by kernel_rfl) (by decide) (by kernel_rfl) (by kernel_rfl) (by kernel_rfl) (fun _ _ _ h => h) HSX.out (by rfl) (fun W hW => by have d0 : W.cell? ⟨Z, 2, none⟩ = some (.slice (some ⟨nb, no, none⟩) names.length cn) := blk_cell hW.z 2; go_simp) ?_
      simp only [Act.put, List.setIfInBounds_toArray, List.set_cons_zero, List.set_cons_succ]
      refine wpL_take 3 43 (i64 i) [] rfl rfl (by kernel_rfl) (by decide) (by kernel_rfl) (by kernel_rfl) (by kernel_rfl) (fun _ _ _ h => h) HSX.out (by rfl) (fun W hW => by go_simp) ?_
      simp only [Act.put, List.setIfInBounds_toArray, List.set_cons_zero, List.set_cons_succ]
      refine wpL_take 4 44 (.pointer (some ⟨nb, no + i, none⟩)) [] rfl rfl (by kernel_rfl) (by decide) (by kernel_rfl) (by kernel_rfl) (by kernel_rfl) (fun _ _ _ h => h) HSX.out (by rfl) (fun W hW => by go_simp) ?_
      simp only [Act.put, List.setIfInBounds_toArray, List.set_cons_zero, List.set_cons_succ]
      refine wpL_take 5 45 (str nm) [] rfl rfl (by kernel_rfl) (by decide) (by kernel_rfl) (by kernel_rfl) (by kernel_rfl) (fun _ _ _ h => h) HSX.out (by rfl) (fun W hW => by have d0 := hW.c; go_simp) ?_
      simp only [Act.put, List.setIfInBounds_toArray, List.set_cons_zero, List.set_cons_succ]
      refine wpL_take 6 46 (.string ((⟨nm.toArray⟩ : ByteArray) ++ ⟨#[58]⟩)) [] rfl rfl (by kernel_rfl) (by decide) (by kernel_rfl) (by kernel_rfl) (by kernel_rfl) (fun _ _ _ h => h) HSX.out (by rfl) (fun W hW => by go_simp; omega) ?_
      simp only [Act.put, List.setIfInBounds_toArray, List.set_cons_zero, List.set_cons_succ]
      refine wpL_take 7 47 (.agg #[i64 T.kind, i64 T.num, .slice an2 T.names.length cn2, .slice ak2 T.kids.length ck2]) [] rfl rfl (by kernel_rfl) (by decide) (by kernel_rfl) (by kernel_rfl) (by kernel_rfl) (fun _ _ _ h => h) HSX.out (by rfl) (fun W hW => by have d0 : W.cell? ⟨Y, 0, none⟩ = some (i64 T.kind) := blk_cell hW.y 0; have d1 : W.cell? ⟨Y, 1, none⟩ = some (i64 T.num) := blk_cell hW.y 1; have d2 : W.cell? ⟨Y, 2, none⟩ = some (.slice an2 T.names.length cn2) := blk_cell hW.y 2; have d3 : W.cell? ⟨Y, 3, none⟩ = some (.slice ak2 T.kids.length ck2) := blk_cell hW.y 3; go_simp) ?_
      simp only [Act.put, List.setIfInBounds_toArray, List.set_cons_zero, List.set_cons_succ]
      refine wpL_one 8 rfl (by kernel_rfl) (by rfl) (fun K hK => ?_)
      go_simp
      refine (HCA.out X.drew _ _ (HP.out.below (below_drewN HBXw.out 1)) (HRT.out.under ⟨rfl, rfl, rfl, Nat.le_refl _, fun _ _ => rfl⟩)).mono ?_
      rintro e w4 ⟨rfl, hb4⟩
      have hb4' : Below X.heap.size X w4 := ⟨hb4.os, hb4.tape, hb4.output, hb4.size, hb4.block⟩
      have HS4 : Hid (Sx Z Y nb (no + i) (.cells #[i64 4, i64 0, .slice (some ⟨nb, no, none⟩) names.length cn, .slice (some ⟨b, off, none⟩) kids.length ck] 49) (.cells #[i64 T.kind, i64 T.num, .slice an2 T.names.length cn2, .slice ak2 T.kids.length ck2] 49) nm w4) := HSX.out.below hb4
      have HO4 : Hid (w4.ownsRow w.heap.size 9 1 (.slice fa i fc) i (FF.map str)) := own_keep1 HOX.out (fun k hk => hb4'.block k (HOX.out.lt k hk).2)
      have HB4 : Hid (Below w.heap.size w w4) := HBXw.out.trans (hb4'.mono HBXw.out.size)
      clear hb4 hb4'
      go_simp
      refine hK.out _ _ (fun _ => HS4.out) ?_
      clear hK K
      have hstr : Value.string (((⟨nm.toArray⟩ : ByteArray) ++ ⟨#[58]⟩) ++ ⟨TT.toArray⟩) = str (nm ++ 58 :: TT) := by
        refine congrArg Value.string ?_
        apply ByteArray.ext
        simp
      refine wpL_take 9 49 (str (nm ++ 58 :: TT)) [] rfl rfl (by kernel_rfl) (by decide) (by kernel_rfl) (by kernel_rfl) (by kernel_rfl) (fun _ _ _ h => h) HS4.out (by rfl) (fun W hW => by rw [← hstr]; go_simp; omega) ?_
      simp only [Act.put, List.setIfInBounds_toArray, List.set_cons_zero, List.set_cons_succ]
      have HOE : Hid (w4.ownsRow w.heap.size 9 1 (.slice fa i fc) FF.length (FF.map str)) := by show World.ownsRow _ _ _ _ _ _ _; rw [HFl.out]; exact HO4.out
      obtain ⟨ao9, cap9, Y9, hrun, hown, hfr, hfar, hnew⟩ := push_name HOE.out (nm ++ 58 :: TT) (by rw [HFl.out]; omega) HB4.out.size
      rw [HFl.out] at hrun hown hnew
      have HRUN := hid hrun
      have HSA : Hid (Sx Z Y nb (no + i) (.cells #[i64 4, i64 0, .slice (some ⟨nb, no, none⟩) names.length cn, .slice (some ⟨b, off, none⟩) kids.length ck] 49) (.cells #[i64 T.kind, i64 T.num, .slice an2 T.names.length cn2, .slice ak2 T.kids.length ck2] 49) nm (w4.alloc (.cells #[str (nm ++ 58 :: TT)] 9))) := HS4.out.below (below_one w4 _)
      have hg1 : some nb ≠ (Value.slice fa i fc).ownBlock := fun e => by have := (HO4.out.lt nb e.symm).1; omega
      have HS9 : Hid (Sx Z Y nb (no + i) (.cells #[i64 4, i64 0, .slice (some ⟨nb, no, none⟩) names.length cn, .slice (some ⟨b, off, none⟩) kids.length ck] 49) (.cells #[i64 T.kind, i64 T.num, .slice an2 T.names.length cn2, .slice ak2 T.kids.length ck2] 49) nm Y9) := ⟨hfr.kept _ _ HS4.out.z (by rfl), hfr.kept _ _ HS4.out.y (by rfl), by rw [World.cell?_of_block (w := w4) (hfar nb (World.block_lt_of_cell? w4 _ HS4.out.c) hg1)]; exact HS4.out.c⟩
      have HO9 : Hid (Y9.ownsRow w.heap.size 9 1 (.slice ao9 (i + 1) cap9) (i + 1) ((FL.take (i + 1)).map str)) := by show World.ownsRow _ _ _ _ _ _ _; rw [HSN2.out]; have := hown; rw [List.length_append, HFl.out] at this; exact this
      have HB9 : Hid (Below w.heap.size w Y9) := HB4.out.trans hfr.below
      clear hrun hown hfr hfar hnew hg1 hstr
      refine wpL_one 10 rfl (by kernel_rfl) (by rfl) (fun K hK => ?_)
      go_simp
      refine hK.out _ _ (fun _ => HSA.out) ?_
      clear hK K
      refine wpL_one 11 rfl (by kernel_rfl) (by rfl) (fun K hK => ?_)
      refine wp_app_run (.tmp 40) (.tmp 50) 46 rfl _ _ (by rfl) (by rfl) _ rfl _ _ HRUN.out ?_
      refine hK.out _ _ (fun _ => HS9.out) ?_
      clear hK K
      simp only [Act.put, List.setIfInBounds_toArray]
      refine wpL_one 12 rfl (by kernel_rfl) (by rfl) (fun K hK => ?_)
      go_simp
      refine hK.out _ _ (fun h => absurd rfl h) ?_
      clear hK K
      refine wpL_done (by kernel_rfl) ?_
      refine NoPanic.normal ?_
      go_wp2_with fail
      exact ⟨⟨i + 1, by omega, by go_num, HO9, HS9.out.z, HB9⟩, by simp [intOf]; omega⟩
    · have he : i = kids.length := by omega
      have HOF : Hid (wr.ownsRow w.heap.size 9 1 (.slice fa kids.length fc) kids.length (FL.map str)) := by
        show World.ownsRow _ _ _ _ _ _ _
        have := HO.out
        rw [he, List.take_of_length_le (by rw [HFL.out]; omega)] at this
        exact this
      subst he
      obtain ⟨g, cur, rfl, hg, hcap⟩ : ∃ g cur, fa = some ⟨g, 0, none⟩ ∧ wr.heap[g]? = some (.cells cur 9) ∧ kids.length ≤ fc := by
        rcases HOF.out.2 with ⟨_, h0⟩ | ⟨g, cap, cur, hv, _, hg, hc, _⟩
        · omega
        · cases hv
          exact ⟨g, cur, rfl, hg, hc⟩
      have HJN : Hid (Calls Tryz.prog 52 #[.slice (some ⟨g, 0, none⟩) kids.length fc, str [44]] wr fun e w' => e = .returned (str FT) ∧ Below wr.heap.size wr w') := by
        have hmm : (FL.map ba).map (·.data.toList) = FL := by rw [List.map_map]; exact (List.map_congr_left (fun x _ => rfl)).trans (List.map_id FL)
        have hj := Tryz.strings_Join g 0 fc (FL.map ba) ⟨#[44]⟩ wr (fun j x hx => by
            rw [List.getElem?_map] at hx
            obtain ⟨y, h1, rfl⟩ := Option.map_eq_some_iff.1 hx
            have hj := (List.getElem?_eq_some_iff.1 h1).1
            rw [HFL.out] at hj
            rw [Nat.zero_add, HOF.out.cellAt j (by omega)]
            simp [h1]) (blk_lt hg) (by simp only [List.length_map, HFL.out]; omega) (by simp only [List.length_map, HFL.out]; exact hcap) (by rw [hmm]; show (Lib.join FL [44]).length ≤ _; rw [HJ.out]; omega)
        rw [hmm] at hj
        have e1 : (FL.map ba).length = kids.length := by simp only [List.length_map, HFL.out]
        rw [e1] at hj
        have e2 : Lib.join FL [44] = FT := HJ.out
        change Calls Tryz.prog 52 #[.slice (some ⟨g, 0, none⟩) kids.length fc, str [44]] wr (fun e w' => e = .returned (str (Lib.join FL [44])) ∧ Below wr.heap.size wr w') at hj
        rw [e2] at hj
        exact hj
      clear hg hcap y0 y3
      go_wp2_with fail
      refine HJN.out.mono ?_
      rintro e w5 ⟨rfl, hb5⟩
      have HB5 : Hid (Below w.heap.size w w5) := HB.out.trans (hb5.mono HB.out.size)
      clear hb5
      go_wp2_with fail
      go_ret
      exact ⟨by rw [HRES.out]; rfl, HB5.out⟩
theorem textOf_ok : ∀ (M : Nat) (T : Ty), T.count ≤ M → T.count ≤ 1000 → T.formed = true → ∀ (w : World) (S : Nat → Prop) (nv kv : Value), Pw w → Rd w S T nv kv → Calls Tryz.prog 93 #[tyV T.kind T.num nv kv] w fun e w' => e = .returned (str T.txt) ∧ Below w.heap.size w w'
  | 0, T, hM, _, _, _, _, _, _, _, _ => by have := count_pos T; omega
  | M + 1, .mk k n names kids, hM, hC, hf, w, S, nv, kv, hP, hR => by
    have hf0 := hf
    simp only [Ty.count] at hM hC
    simp only [Ty.formed, Bool.and_eq_true] at hf
    obtain ⟨hn, hl⟩ := hf
    have hnode := nodeB_node hn
    have ih : ∀ T ∈ kids, ∀ (w : World) (nv kv : Value), Pw w → Rd w S T nv kv → Calls Tryz.prog 93 #[tyV T.kind T.num nv kv] w fun e w' => e = .returned (str T.txt) ∧ Below w.heap.size w w' := fun T hT w nv kv hP hR => textOf_ok M T (by have := countL_mem hT; omega) (by have := countL_mem hT; omega) (formedL_mem hl hT) w S nv kv hP hR
    have hle : ∀ T ∈ kids, T.txt.length ≤ 3000000 := fun T hT => by have h1 := txt_le T.count T (Nat.le_refl _) (formedL_mem hl hT); have h2 := countL_mem hT; omega
    generalize hkn : kids.length = kn at hnode
    cases hnode with
    | int h0 h1 =>
      obtain rfl := List.eq_nil_of_length_eq_zero hkn
      exact text_1 n w S nv kv hP h0 h1 hR
    | text h0 h1 =>
      obtain rfl := List.eq_nil_of_length_eq_zero hkn
      exact text_2 n w S nv kv hP h0 h1 hR
    | list h0 h1 =>
      obtain ⟨T, rfl⟩ : ∃ T, kids = [T] := by cases kids with
        | nil => simp at hkn
        | cons T r => have : r = [] := by simpa using hkn
                      exact ⟨T, by rw [this]⟩
      exact text_3 n T w S nv kv hP h0 h1 hR (hle T (by simp)) (fun w nv kv hP hR => ih T (by simp) w nv kv hP hR)
    | rc h0 h1 h2 h3 =>
      have hft := fieldT_le names kids (by omega) (fun x hx => nameB_le (namesTo_mem h3 hx)) (fun T hT => txt_le T.count T (Nat.le_refl _) (formedL_mem hl hT))
      exact text_4 names kids w S nv kv hP (by omega) (by omega) (by omega) (fun x hx => nameB_le (namesTo_mem h3 hx)) hle (by omega) hR ih
end Go.Proofs.YtjppcfjjpkniaaaGreatDoor
namespace Go.Proofs.YtjppcfjjpkniaaaGreatDoor
open Go.ChangeShapes Go.WideShapes Go.ChangeAt Go.RowKit Go.Deep

abbrev recO (nv kv : Value) : Obj := .cells #[i64 4, i64 0, nv, kv] 49
/-- Where a kid may stand. -/
def Avr (lo q R Tb : Nat) (nv : Value) (b : Nat) : Prop := lo ≤ b ∧ b ≠ q ∧ b ≠ R ∧ b ≠ Tb ∧ some b ≠ nv.ownBlock
structure RecI (w wr : World) (q R Tb L i : Nat) (N : List Bs) (Ks : List Kd) (nv kv : Value) (l1 : Bs) : Prop where
  hq : wr.heap[q]? = some (.cells #[str l1] 170)
  hl : l1.length ≤ L
  hR : wr.heap[R]? = some zT
  hT : wr.heap[Tb]? = some (recO nv kv)
  on : wr.ownsRow w.heap.size 9 1 nv N.length (N.map str)
  ok : KidsR wr w.heap.size 49 (Avr w.heap.size q R Tb nv) kv Ks
  s1 : kv.ownBlock ≠ some R
  s2 : kv.ownBlock ≠ some Tb
  ln : N.length = i
  lk : Ks.length = i
  ns : ∀ x ∈ N, x.length ≤ maxLen
  tt : Touch q w wr
structure Lows (w : World) (q R Tb : Nat) : Prop where
  q : q < w.heap.size
  r : w.heap.size ≤ R
  t : w.heap.size ≤ Tb
  ne : R ≠ Tb
/-- The slices of a record that is being read. -/
theorem RecI.nvF {w wr : World} {q R Tb L i : Nat} {N : List Bs} {Ks : List Kd} {nv kv : Value} {l1 : Bs} (h : RecI w wr q R Tb L i N Ks nv kv l1) : (∃ a c, nv = .slice a i c) ∧ ∃ a c, kv = .slice a i c := by
  obtain ⟨a, c, h1, _⟩ := own_slice h.on
  obtain ⟨a', c', h2, _⟩ := own_slice h.ok.own
  rw [h.ln] at h1
  rw [h.lk] at h2
  exact ⟨⟨a, c, h1⟩, a', c', h2⟩
/-- Another world, that changed block q alone. -/
theorem RecI.touch {w wr wr' : World} {q R Tb L i : Nat} {N : List Bs} {Ks : List Kd} {nv kv : Value} {l1 l2 : Bs} (hw : Lows w q R Tb) (h : RecI w wr q R Tb L i N Ks nv kv l1) (ht : Touch q wr wr') (hq : wr'.heap[q]? = some (.cells #[str l2] 170)) (hl : l2.length ≤ L) : RecI w wr' q R Tb L i N Ks nv kv l2 := by
  have h1 := hw.q
  have h2 := hw.r
  have h3 := hw.t
  refine ⟨hq, hl, ?_, ?_, own_keep1 h.on fun k hk => ht.block k (h.on.lt k hk).2 (by have := (h.on.lt k hk).1; omega), ?_, h.s1, h.s2, h.ln, h.lk, h.ns, h.tt.trans ht⟩
  · rw [ht.block R (blk_lt h.hR) (by omega)]; exact h.hR
  · rw [ht.block Tb (blk_lt h.hT) (by omega)]; exact h.hT
  · exact h.ok.move ht.size (fun k hk => ht.block k (h.ok.own.lt k hk).2 (by have := (h.ok.own.lt k hk).1; omega)) fun b hb hlt _ => ⟨hb, ht.block b hlt hb.2.1⟩
theorem RecI.below {w wr wr' : World} {q R Tb L i : Nat} {N : List Bs} {Ks : List Kd} {nv kv : Value} {l1 : Bs} (hw : Lows w q R Tb) (h : RecI w wr q R Tb L i N Ks nv kv l1) (hb : Below wr.heap.size wr wr') : RecI w wr' q R Tb L i N Ks nv kv l1 :=
  h.touch hw (Touch.of_below hb) (by rw [hb.block q (blk_lt h.hq)]; exact h.hq) h.hl
set_option maxHeartbeats 1600000 in
/-- A field more. -/
theorem rec_push {w X : World} {q R Tb L i : Nat} {N : List Bs} {Ks : List Kd} {nv kv : Value} {l1 : Bs} (hw : Lows w q R Tb) (h : RecI w X q R Tb L i N Ks nv kv l1) (T : Ty) (a1 : Option Addr) (n1 c1 : Nat) (a2 : Option Addr) (n2 c2 : Nat)
    (hK : Rd X (fun b => Avr w.heap.size q R Tb nv b ∧ some b ≠ kv.ownBlock) T (.slice a1 n1 c1) (.slice a2 n2 c2)) (x : Bs) (hx : x.length ≤ maxLen) (hi : i < 12) (Kb : Nat) (kO : Array Value) (hKb : X.heap[Kb]? = some (.cells kO 49)) (hKT : Kb ≠ Tb) :
    ∃ ao1 cap1 Y1 ao2 cap2 Y3, (Builtin.append_ #[46, 46] 46 #[nv, .slice (some ⟨X.heap.size, 0, none⟩) 1 1]).run Tryz.prog (X.alloc (.cells #[str x] 9)) = .ok (.slice ao1 (i + 1) cap1) Y1 ∧ Y1.heap[Tb]? = some (recO nv kv) ∧
      (Y1.setCell ⟨Tb, 2, none⟩ (.slice ao1 (i + 1) cap1)).heap[Tb]? = some (recO (.slice ao1 (i + 1) cap1) kv) ∧ (Y1.setCell ⟨Tb, 2, none⟩ (.slice ao1 (i + 1) cap1)).heap[Kb]? = some (.cells kO 49) ∧
      (Builtin.append_ #[47, 47] 47 #[kv, .slice (some ⟨(Y1.setCell ⟨Tb, 2, none⟩ (.slice ao1 (i + 1) cap1)).heap.size, 0, none⟩) 1 1]).run Tryz.prog ((Y1.setCell ⟨Tb, 2, none⟩ (.slice ao1 (i + 1) cap1)).alloc (.cells #[i64 T.kind, i64 T.num, .slice a1 n1 c1, .slice a2 n2 c2] 49)) = .ok (.slice ao2 (i + 1) cap2) Y3 ∧
      Y3.heap[Tb]? = some (recO (.slice ao1 (i + 1) cap1) kv) ∧ RecI w (Y3.setCell ⟨Tb, 3, none⟩ (.slice ao2 (i + 1) cap2)) q R Tb L (i + 1) (N ++ [x]) (Ks ++ [(T, .slice a1 n1 c1, .slice a2 n2 c2)]) (.slice ao1 (i + 1) cap1) (.slice ao2 (i + 1) cap2) l1 := by
  have z1 := hw.q
  have z2 := hw.r
  have z3 := hw.t
  have z4 := hw.ne
  have hXz := h.tt.size
  obtain ⟨ao1, cap1, Y1, g1, g2, g3, g4, g5⟩ := push_name h.on x (by have := h.ln; omega) hXz
  rw [h.ln] at g1 g2 g5
  have eT : Y1.heap[Tb]? = some (recO nv kv) := g3.kept _ _ h.hT (by rfl)
  have eR : Y1.heap[R]? = some zT := g3.kept _ _ h.hR (by rfl)
  have eQ : Y1.heap[q]? = some (.cells #[str l1] 170) := g3.kept _ _ h.hq (by rfl)
  have eK : Y1.heap[Kb]? = some (.cells kO 49) := g3.kept _ _ hKb (by rfl)
  generalize hs1 : (Value.slice ao1 (i + 1) cap1) = s1 at *
  have fT : (Y1.setCell ⟨Tb, 2, none⟩ s1).heap[Tb]? = some (recO s1 kv) := by
    have := heap_setCell_same Y1 Tb 2 _ 49 s1 eT
    simpa using this
  have fK : (Y1.setCell ⟨Tb, 2, none⟩ s1).heap[Kb]? = some (.cells kO 49) := by rw [Below.heap_setCell _ _ _ _ hKT]; exact eK
  have fR : (Y1.setCell ⟨Tb, 2, none⟩ s1).heap[R]? = some zT := by rw [Below.heap_setCell _ _ _ _ (show R ≠ Tb from z4)]; exact eR
  have fQ : (Y1.setCell ⟨Tb, 2, none⟩ s1).heap[q]? = some (.cells #[str l1] 170) := by rw [Below.heap_setCell _ _ _ _ (show q ≠ Tb by omega)]; exact eQ
  have fz : X.heap.size ≤ (Y1.setCell ⟨Tb, 2, none⟩ s1).heap.size := by have := g3.size; simpa [World.setCell] using this
  have nT : s1.ownBlock ≠ some Tb := by
    intro e
    obtain ⟨c, hc⟩ := own_tag g2 e
    rw [eT] at hc
    cases hc
  have f1 : (Y1.setCell ⟨Tb, 2, none⟩ s1).ownsRow w.heap.size 9 1 s1 (N ++ [x]).length ((N ++ [x]).map str) := own_keep1 g2 fun k hk => Below.heap_setCell _ _ _ _ (fun e => nT (by rw [hk]; exact congrArg some e))
  have old : ∀ k, k < X.heap.size → some k ≠ nv.ownBlock → k ≠ Tb → (Y1.setCell ⟨Tb, 2, none⟩ s1).heap[k]? = X.heap[k]? := fun k hk hn ht => by
    rw [Below.heap_setCell _ _ _ _ ht]; exact g4 k hk hn
  have av : ∀ b, Avr w.heap.size q R Tb nv b → b < X.heap.size → Avr w.heap.size q R Tb s1 b := fun b hb hlt => ⟨hb.1, hb.2.1, hb.2.2.1, hb.2.2.2.1, by
    rcases g5 with g5 | g5
    · rw [g5]; exact hb.2.2.2.2
    · rw [g5]; intro e; cases e; omega⟩
  have f2 : KidsR (Y1.setCell ⟨Tb, 2, none⟩ s1) w.heap.size 49 (Avr w.heap.size q R Tb s1) kv Ks := h.ok.move fz
    (fun k hk => old k (h.ok.own.lt k hk).2 (own_apart h.ok.own h.on (by decide) hk) (fun e => h.s2 (by rw [hk, e])))
    (fun b hb hlt _ => ⟨av b hb hlt, old b hlt hb.2.2.2.2 hb.2.2.2.1⟩)
  have fR2 : Rd (Y1.setCell ⟨Tb, 2, none⟩ s1) (fun b => Avr w.heap.size q R Tb s1 b ∧ some b ≠ kv.ownBlock) T (.slice a1 n1 c1) (.slice a2 n2 c2) := hK.move fz fun b hb hlt => ⟨⟨av b hb.1 hlt, hb.2⟩, old b hlt hb.1.2.2.2.2 hb.1.2.2.2.1⟩
  have fTt : Touch q w (Y1.setCell ⟨Tb, 2, none⟩ s1) := by
    refine Touch.setNew (p := ⟨Tb, 2, none⟩) ?_ z3 _
    exact ⟨g3.below.os.trans h.tt.os, g3.below.tape.trans h.tt.tape, g3.below.output.trans h.tt.output, Nat.le_trans h.tt.size g3.size, fun k hk hkq => (g3.below.block k hk).trans (h.tt.block k hk hkq)⟩
  generalize hY2 : Y1.setCell ⟨Tb, 2, none⟩ s1 = Y2 at *
  obtain ⟨ao2, cap2, Y3, p1, p2, p3, p4, p5⟩ := push_kid under23 info25 f2 T a1 n1 c1 a2 n2 c2 fR2 (by have := h.lk; omega) (by omega)
  rw [h.lk] at p1 p2 p5
  have nT2 : (Value.slice ao2 (i + 1) cap2).ownBlock ≠ some Tb := by
    rcases p5 with p5 | p5
    · rw [p5]; exact h.s2
    · rw [p5]; intro e; cases e; have := blk_lt fT; omega
  have nR2 : (Value.slice ao2 (i + 1) cap2).ownBlock ≠ some R := by
    rcases p5 with p5 | p5
    · rw [p5]; exact h.s1
    · rw [p5]; intro e; cases e; have := blk_lt fR; omega
  have qT : Y3.heap[Tb]? = some (recO s1 kv) := by rw [p4 Tb (blk_lt fT) (fun e => h.s2 e.symm)]; exact fT
  have qR : Y3.heap[R]? = some zT := by rw [p4 R (blk_lt fR) (fun e => h.s1 e.symm)]; exact fR
  have qQ : Y3.heap[q]? = some (.cells #[str l1] 170) := p3.kept _ _ fQ (by rfl)
  have qz : Y3.heap.size ≤ (Y3.setCell ⟨Tb, 3, none⟩ (.slice ao2 (i + 1) cap2)).heap.size := by simp [World.setCell]
  have q1 : Y3.ownsRow w.heap.size 9 1 s1 (N ++ [x]).length ((N ++ [x]).map str) := own_keep1 f1 fun k hk => p4 k (f1.lt k hk).2 (own_apart f1 f2.own (by decide) hk)
  subst hs1
  refine ⟨ao1, cap1, Y1, ao2, cap2, Y3, g1, eT, by rw [hY2]; exact fT, by rw [hY2]; exact fK, by rw [hY2]; exact p1, qT, ?_⟩
  refine ⟨?_, h.hl, ?_, ?_, ?_, ?_, nR2, nT2, by simp [h.ln], by simp [h.lk], fun y hy => ?_, ?_⟩
  · rw [Below.heap_setCell _ _ _ _ (show q ≠ Tb by omega)]; exact qQ
  · rw [Below.heap_setCell _ _ _ _ (show R ≠ Tb from z4)]; exact qR
  · have := heap_setCell_same Y3 Tb 3 _ 49 (.slice ao2 (i + 1) cap2) qT
    simpa using this
  · exact own_keep1 q1 fun k hk => Below.heap_setCell _ _ _ _ (fun e => nT (by rw [hk]; exact congrArg some e))
  · exact p2.move qz (fun k hk => Below.heap_setCell _ _ _ _ (fun e => nT2 (by rw [hk]; exact congrArg some e))) fun b hb _ _ => ⟨hb, Below.heap_setCell _ _ _ _ (show b ≠ Tb from hb.2.2.2.1)⟩
  · rcases List.mem_append.1 hy with hy | hy
    · exact h.ns y hy
    · rw [List.mem_singleton.1 hy]; exact hx
  · refine Touch.setNew (p := ⟨Tb, 3, none⟩) ?_ z3 _
    exact ⟨p3.below.os.trans fTt.os, p3.below.tape.trans fTt.tape, p3.below.output.trans fTt.output, Nat.le_trans fTt.size p3.size, fun k hk hkq => (p3.below.block k hk).trans (fTt.block k hk hkq)⟩
/-- The record that was read. -/
theorem RecI.rd {w wr : World} {q R Tb L i : Nat} {N : List Bs} {Ks : List Kd} {nv kv : Value} {l1 : Bs} (h : RecI w wr q R Tb L i N Ks nv kv l1) (a0 b1 b2 b3 : Value) :
    Rd ((((wr.setCell ⟨R, 0, none⟩ a0).setCell ⟨R, 1, none⟩ b1).setCell ⟨R, 2, none⟩ b2).setCell ⟨R, 3, none⟩ b3) (fun b => w.heap.size ≤ b) (.mk 4 0 N (Ks.map (·.1))) nv kv := by
  have hnR : nv.ownBlock ≠ some R := by
    intro e
    obtain ⟨c, hc⟩ := own_tag h.on e
    rw [h.hR] at hc
    cases hc
  have h1 : Strs wr (fun b => w.heap.size ≤ b ∧ b ≠ R) nv N := own_strs h.on h.ns (fun b hb => ⟨(h.on.lt b hb).1, fun e => hnR (by rw [hb, e])⟩)
  have h2 : Rd wr (fun b => w.heap.size ≤ b ∧ b ≠ R) (.mk 4 0 N (Ks.map (·.1))) nv kv := h.ok.rd h1 (fun b hb _ => ⟨hb.1, hb.2.2.1⟩) (fun b hb => ⟨(h.ok.own.lt b hb).1, fun e => h.s1 (by rw [hb, e])⟩)
  refine h2.move (by simp [World.setCell]) (fun b hb _ => ⟨hb.1, ?_⟩)
  rw [Below.heap_setCell _ _ _ _ (show b ≠ R from hb.2), Below.heap_setCell _ _ _ _ (show b ≠ R from hb.2), Below.heap_setCell _ _ _ _ (show b ≠ R from hb.2), Below.heap_setCell _ _ _ _ (show b ≠ R from hb.2)]
end Go.Proofs.YtjppcfjjpkniaaaGreatDoor
namespace Go.Proofs.YtjppcfjjpkniaaaGreatDoor
open Go.ChangeShapes Go.WideShapes Go.ChangeAt Go.RowKit Go.Deep
attribute [local go_sem ↓] Go.wp_at_zero Go.wp_at_succ

theorem tw_none (c : UInt8) : ∀ l : Bs, c ∉ l → l.takeWhile (fun b => b != c) = l ∧ l.dropWhile (fun b => b != c) = []
  | [], _ => ⟨rfl, rfl⟩
  | b :: l, h => by
    simp only [List.mem_cons, not_or] at h
    have h2 : (b != c) = true := by simpa using fun e : b = c => h.1 e.symm
    obtain ⟨i1, i2⟩ := tw_none c l h.2
    rw [List.takeWhile_cons, List.dropWhile_cons, h2, if_pos rfl, if_pos rfl, i1, i2]
    exact ⟨rfl, rfl⟩
theorem index_one (c : UInt8) : ∀ l : Bs, Lib.index l [c] = if c ∈ l then ((l.takeWhile (fun b => b != c)).length : Int) else -1
  | [] => by simp [Lib.index]
  | b :: l => by
    have ih := index_one c l
    unfold Lib.index
    by_cases h : c = b
    · subst h
      simp
    · have h1 : [c].isPrefixOf (b :: l) = false := by simp [List.isPrefixOf, h]
      have h2 : (b != c) = true := by simpa using fun e : b = c => h e.symm
      rw [h1, ih]
      simp only [Bool.false_eq_true, if_false, List.mem_cons, h, false_or, List.takeWhile_cons, h2, if_true, List.length_cons]
      by_cases h3 : c ∈ l
      · rw [if_pos h3, if_pos h3]
        have : ((((l.takeWhile (fun b => b != c)).length : Nat) : Int) == -1) = false := by simp
        rw [this]
        simp
      · rw [if_neg h3, if_neg h3]
        rfl
theorem take_of_tw (p : UInt8 → Bool) (l : Bs) : l.take (l.takeWhile p).length = l.takeWhile p := by
  rw [tw_pre p l _ (Nat.le_refl _), List.take_of_length_le (Nat.le_refl _)]
theorem drop_of_tw (p : UInt8 → Bool) (l : Bs) : l.drop (l.takeWhile p).length = l.dropWhile p := by
  have h := List.takeWhile_append_dropWhile (p := p) (l := l)
  generalize l.takeWhile p = a at *
  generalize l.dropWhile p = b at *
  rw [← h, List.drop_left]
theorem cut_one (c : UInt8) (l : Bs) : (Lib.cut l [c]).1 = l.takeWhile (fun b => b != c) ∧ (Lib.cut l [c]).2.1 = (l.dropWhile (fun b => b != c)).tail := by
  unfold Lib.cut
  rw [index_one]
  by_cases h : c ∈ l
  · rw [if_pos h, if_pos (by omega), Int.toNat_natCast, take_of_tw]
    refine ⟨rfl, ?_⟩
    show l.drop ((l.takeWhile (fun b => b != c)).length + [c].length) = _
    rw [List.length_singleton, ← List.drop_drop, drop_of_tw, List.drop_one]
  · obtain ⟨h1, h2⟩ := tw_none c l h
    rw [if_neg h, if_neg (by omega), h1, h2]
    exact ⟨rfl, rfl⟩
theorem cut_ok (l : Bs) (w : World) (q : Nat) (hl : l.length ≤ 30000000) (hM : Mx w q) : Calls Tryz.prog 41 #[str l, str [58]] w fun e w' => ∃ b, e = .returned (.tuple #[str (l.takeWhile (fun b => b != 58)), str ((l.dropWhile (fun b => b != 58)).tail), .bool b]) ∧ ∃ n, w' = w.drewN n := by
  obtain ⟨_, m, hm⟩ := hM
  have hsz : (⟨l.toArray⟩ : ByteArray).size < 4294967281 := by show l.toArray.size < _; simp; omega
  refine (Tryz.strings_Cut ⟨l.toArray⟩ ⟨#[58]⟩ m w hsz hm).mono fun e w' ⟨h1, h2⟩ => ?_
  obtain ⟨c1, c2⟩ := cut_one 58 l
  refine ⟨(Lib.cut l [58]).2.2, ?_, h2⟩
  rw [h1]
  show Ending.returned (.tuple #[str (Lib.cut l [58]).1, str (Lib.cut l [58]).2.1, _]) = _
  rw [c1, c2]
theorem tw_le (p : UInt8 → Bool) (l : Bs) : (l.takeWhile p).length ≤ l.length ∧ (l.dropWhile p).tail.length ≤ l.length := by
  have h := congrArg List.length (List.takeWhile_append_dropWhile (p := p) (l := l))
  rw [List.length_append] at h
  have h2 : (l.dropWhile p).tail.length ≤ (l.dropWhile p).length := by rw [List.length_tail]; omega
  omega
def recP0 (f : Nat) (l : Bs) : Option (Ty × Bs) := match l with
  | 40 :: r2 => recP (readP f) 12 r2 [] []
  | _ => none
def recEnd (read : Bs → Option (Ty × Bs)) (m : Nat) (N : List Bs) (K : List Ty) (r : Bs) : Option (Ty × Bs) := match r with
  | [] => none
  | c :: r' => if c = 44 then recP read m r' N K else if c = 41 then some (.mk 4 0 N K, r') else none
theorem recP_end (read : Bs → Option (Ty × Bs)) (m : Nat) (s : Bs) (N : List Bs) (K : List Ty) {T : Ty} {r : Bs} (h : read (s.dropWhile (fun b => b != 58)).tail = some (T, r)) :
    recP read (m + 1) s N K = recEnd read m (N ++ [s.takeWhile (fun b => b != 58)]) (K ++ [T]) r := by
  simp only [recP, h]
  cases r <;> rfl
theorem recEnd_go (read : Bs → Option (Ty × Bs)) (m : Nat) (N : List Bs) (K : List Ty) (r : Bs) : recEnd read m N K (44 :: r) = recP read m r N K := rfl
theorem recEnd_end (read : Bs → Option (Ty × Bs)) (m : Nat) (N : List Bs) (K : List Ty) (r : Bs) : recEnd read m N K (41 :: r) = some (.mk 4 0 N K, r) := rfl
theorem recEnd_no (read : Bs → Option (Ty × Bs)) (m : Nat) (N : List Bs) (K : List Ty) (l : Bs) (h1 : ¬ ∃ r, l = 44 :: r) (h2 : ¬ ∃ r, l = 41 :: r) : recEnd read m N K l = none := by
  cases l with
  | nil => rfl
  | cons c r => 
    show (if c = 44 then _ else if c = 41 then _ else _) = _
    rw [if_neg (fun e => h1 ⟨r, by rw [e]⟩), if_neg (fun e => h2 ⟨r, by rw [e]⟩)]
theorem recP_none (read : Bs → Option (Ty × Bs)) (m : Nat) (s : Bs) (N : List Bs) (K : List Ty) (h : read (s.dropWhile (fun b => b != 58)).tail = none) : recP read (m + 1) s N K = none := by rw [recP, h]
set_option maxRecDepth 100000 in
set_option maxHeartbeats 12800000 in
theorem record_ok (f : Nat) (hrd : ∀ (w : World) (q : Nat) (l : Bs), w.heap[q]? = some (.cells #[str l] 170) → l.length ≤ 30000000 → Mx w q → Calls Tryz.prog 101 #[pq q, i64 (7 - f)] w (Rok w q l.length (readP f l)))
    (hf : f ≤ 6) (w : World) (q : Nat) (l : Bs) (hq : w.heap[q]? = some (.cells #[str l] 170)) (hl : l.length ≤ 30000000) (hM : Mx w q) : Calls Tryz.prog 117 #[pq q, i64 (6 - f)] w (Rok w q l.length (recP0 f l)) := by
  obtain ⟨res, hres⟩ : ∃ res, res = recP0 f l := ⟨_, rfl⟩
  have HRes0 := hid hres
  obtain ⟨L, hL⟩ : ∃ L, L = l.length := ⟨_, rfl⟩
  have HLe := hid hL
  have hL6 : L ≤ 30000000 := by omega
  rw [← hres, ← hL]
  clear hL
  have HRD := hid hrd
  have HM := hid hM
  have hqlt := blk_lt hq
  obtain ⟨D, hD⟩ : ∃ D, D = (6 : Int) - f := ⟨_, rfl⟩
  have hD1 : D + 1 = 7 - f := by omega
  have hD0 : 0 ≤ D := by omega
  have hD2 : D ≤ 6 := by omega
  have HD1 := hid hD1
  rw [← hD]
  have HR0 : Hid ((w.alloc zT).heap[w.heap.size]? = some zT) := heap_last w _
  have HQ0 : Hid ((w.alloc zT).heap[q]? = some (.cells #[str l] 170)) := blk_alloc hq _
  have HT0 : Hid (Touch q w (w.alloc zT)) := hid ((Touch.refl q w).alloc _)
  have hqR : Hid (q ≠ w.heap.size) := by show q ≠ _; omega
  have HRlt : Hid (w.heap.size < (w.alloc zT).heap.size) := by show _ < _; simp
  have HQL := hid hqlt
  clear hres hrd hM hq hD hD1 hqlt
  go_enter Tryz.func117, Tryz.ntmps117
  go_upto_region 1 with fail
  obtain ⟨R, hR⟩ : ∃ R, R = w.heap.size := ⟨_, rfl⟩
  rw [← hR] at HR0 hqR HRlt ⊢
  have HRe : Hid (w.heap.size ≤ R) := by show _ ≤ _; omega
  clear hR
  generalize w.alloc zT = V at *
  by_cases hp : ∃ r2, l = 40 :: r2
  · obtain ⟨r2, rfl⟩ := hp
    go_wp2_with fail
    refine (take_hit V q 40 r2 HQ0.out).mono ?_
    rintro e w1 ⟨rfl, hq1, ht1⟩
    have HQ1 := hid hq1
    have HT1 : Hid (Touch q w w1) := HT0.out.trans ht1
    have HR1 : Hid (w1.heap[R]? = some zT) := by show _ = _; rw [ht1.block R HRlt.out (fun e => hqR.out e.symm)]; exact HR0.out
    have HB1 : Hid (Below w1.heap.size w1 (w1.alloc (recO (.slice none 0 0) (.slice none 0 0)))) := below_one w1 _
    have HX1 : Hid ((w1.alloc (recO (.slice none 0 0) (.slice none 0 0))).heap[w1.heap.size]? = some (recO (.slice none 0 0) (.slice none 0 0))) := heap_last w1 _
    have HRes1 : Hid (res = recP (readP f) 12 r2 [] []) := HRes0.out
    clear hq1 ht1
    go_upto_region 4 with fail
    obtain ⟨Tb, hTb⟩ : ∃ Tb, Tb = w1.heap.size := ⟨_, rfl⟩
    have HTe := hid hTb
    rw [← hTb] at HX1 ⊢
    clear hTb
    have HW : Hid (Lows w q R Tb) := ⟨HQL.out, HRe.out, by rw [HTe.out]; exact HT1.out.size, by have := blk_lt HR1.out; have := HTe.out; omega⟩
    have HI0 : Hid (RecI w (w1.alloc (recO (.slice none 0 0) (.slice none 0 0))) q R Tb L 0 [] [] (.slice none 0 0) (.slice none 0 0) r2) :=
      ⟨blk_below HQ1.out HB1.out, by rw [HLe.out]; simp, blk_below HR1.out HB1.out, HX1.out, ⟨rfl, Or.inl ⟨rfl, rfl⟩⟩, KidsR.nil _ _ _ _, by simp [Value.ownBlock], by simp [Value.ownBlock], rfl, rfl, (fun x hx => by cases hx), HT1.out.trans (Touch.of_below HB1.out)⟩
    generalize w1.alloc (recO (.slice none 0 0) (.slice none 0 0)) = V1 at *
    clear HX1 HB1
    go_wp2_with fail
    go_loopw [17] (fun u wr => ∃ (i : Nat) (N : List Bs) (Ks : List Kd) (nv kv : Value) (l1 : Bs), i ≤ 12 ∧ u = i64 i ∧ Hid (RecI w wr q R Tb L i N Ks nv kv l1) ∧ Hid (res = recP (readP f) (12 - i) l1 N (Ks.map (·.1)))) (fun u _ => 12 - (intOf u).toNat)
    case atStart => exact ⟨0, [], [], _, _, r2, by omega, rfl, HI0, HRes1⟩
    case round =>
      obtain ⟨i, N, Ks, nv, kv, l1, hi, rfl, HI, HRs⟩ := hrel
      by_cases hlt : i < 12
      · obtain ⟨⟨an, cn, rfl⟩, ak, ck, rfl⟩ := HI.out.nvF
        have y0 : wr.cell? ⟨q, 0, none⟩ = some (str l1) := blk_cell HI.out.hq 0
        have HMr : Hid (Mx wr q) := HM.out.touch HI.out.tt
        have HL1 : Hid (l1.length ≤ 30000000) := by show _ ≤ _; have := HI.out.hl; omega
        have HCU := hid (cut_ok l1 wr q HL1.out HMr.out)
        have HRs2 : Hid (res = recP (readP f) ((11 - i) + 1) l1 N (Ks.map (·.1))) := by show _ = _; rw [HRs.out]; congr 1; omega
        have HTW := hid (tw_le (fun b => b != 58) l1)
        generalize hnm : l1.takeWhile (fun b => b != 58) = nm at *
        generalize hlf : (l1.dropWhile (fun b => b != 58)).tail = lf at *
        have HNM := hid hnm
        have HLF := hid hlf
        clear hnm hlf
        go_wp2_with fail
        refine HCU.out.mono ?_
        rintro e w2 ⟨bb, rfl, nd, rfl⟩
        have HID : Hid (RecI w (wr.drewN nd) q R Tb L i N Ks (.slice an i cn) (.slice ak i ck) l1) := HI.out.below HW.out ⟨rfl, rfl, rfl, Nat.le_refl _, fun _ _ => rfl⟩
        have HTs : Hid (Touch q (wr.drewN nd) ((wr.drewN nd).setCell ⟨q, 0, none⟩ (str lf))) := hid ((Touch.refl q (wr.drewN nd)).setCell rfl _)
        have HI2 : Hid (RecI w ((wr.drewN nd).setCell ⟨q, 0, none⟩ (str lf)) q R Tb L i N Ks (.slice an i cn) (.slice ak i ck) lf) := HID.out.touch HW.out HTs.out (set1 HID.out.hq _) (by have := HTW.out.2; have := HI.out.hl; omega)
        have y1 : (wr.drewN nd).cell? ⟨q, 0, none⟩ = some (str l1) := blk_cell HID.out.hq 0
        have f1 : (wr.drewN nd).frozen? ⟨q, 0, none⟩ = false := blk_frozen HID.out.hq 0
        clear y0
        go_upto_region 8 with fail
        generalize (wr.drewN nd).setCell ⟨q, 0, none⟩ (str lf) = W2 at *
        have HM2 : Hid (Mx W2 q) := HM.out.touch HI2.out.tt
        have HLl : Hid (lf.length ≤ 30000000) := by show _ ≤ _; have := HI2.out.hl; omega
        have HC2 : Hid (Calls Tryz.prog 101 #[pq q, i64 (D + 1)] W2 (Rok W2 q lf.length (readP f lf))) := by show Calls _ _ _ _ _; rw [HD1.out]; exact HRD.out W2 q lf HI2.out.hq HLl.out HM2.out
        clear y1 f1 HID HTs HCU HMr
        go_wp2_with fail
        refine HC2.out.mono ?_
        rintro e w3 ⟨k1, m1, a1, n1, c1, a2, n2, c2, l3, rfl, hq3, hl3, ht3, hf3⟩
        have HI3 : Hid (RecI w w3 q R Tb L i N Ks (.slice an i cn) (.slice ak i ck) l3) := HI2.out.touch HW.out ht3 hq3 (by have := HI2.out.hl; omega)
        have HF3 : Hid (∀ T r, readP f lf = some (T, r) → l3 = r ∧ k1 = T.kind ∧ m1 = T.num ∧ Rd w3 (fun b => W2.heap.size ≤ b) T (.slice a1 n1 c1) (.slice a2 n2 c2)) := hf3
        have HBK : Hid (Below w3.heap.size w3 (w3.alloc (.cells #[i64 k1, i64 m1, .slice a1 n1 c1, .slice a2 n2 c2] 49))) := below_one w3 _
        have HKX : Hid ((w3.alloc (.cells #[i64 k1, i64 m1, .slice a1 n1 c1, .slice a2 n2 c2] 49)).heap[w3.heap.size]? = some (.cells #[i64 k1, i64 m1, .slice a1 n1 c1, .slice a2 n2 c2] 49)) := heap_last w3 _
        clear hq3 hl3 ht3 hf3 HC2
        go_upto_region 9 with fail
        obtain ⟨Kb, hKb⟩ : ∃ Kb, Kb = w3.heap.size := ⟨_, rfl⟩
        have HKe := hid hKb
        rw [← hKb] at HKX ⊢
        clear hKb
        have HI4 : Hid (RecI w (w3.alloc (.cells #[i64 k1, i64 m1, .slice a1 n1 c1, .slice a2 n2 c2] 49)) q R Tb L i N Ks (.slice an i cn) (.slice ak i ck) l3) := HI3.out.below HW.out HBK.out
        have HKT : Hid (Kb ≠ Tb) := by show Kb ≠ Tb; have := blk_lt HI3.out.hT; have := HKe.out; omega
        cases hread : readP f lf with
        | none =>
          have HRes : Hid (res = none) := by show _ = _; rw [HRs2.out]; exact recP_none _ _ _ _ _ (by rw [HLF.out]; exact hread)
          have HRX : Hid ((w3.alloc (.cells #[i64 k1, i64 m1, .slice a1 n1 c1, .slice a2 n2 c2] 49)).heap[R]? = some zT) := HI4.out.hR
          have HQX : Hid ((w3.alloc (.cells #[i64 k1, i64 m1, .slice a1 n1 c1, .slice a2 n2 c2] 49)).heap[q]? = some (.cells #[str l3] 170)) := HI4.out.hq
          have HTX : Hid (Touch q w (w3.alloc (.cells #[i64 k1, i64 m1, .slice a1 n1 c1, .slice a2 n2 c2] 49))) := HI4.out.tt
          have HLX : Hid (l3.length ≤ L) := HI4.out.hl
          clear HF3 hread HRs HRs2 HI HI2 HI3 HI4
          generalize w3.alloc (.cells #[i64 k1, i64 m1, .slice a1 n1 c1, .slice a2 n2 c2] 49) = X at *
          have rc0 : X.cell? ⟨R, 0, none⟩ = some (i64 0) := blk_cell HRX.out 0
          have rf0 : X.frozen? ⟨R, 0, none⟩ = false := blk_frozen HRX.out 0
          have rc1 : X.cell? ⟨R, 1, none⟩ = some (i64 0) := blk_cell HRX.out 1
          have rf1 : X.frozen? ⟨R, 1, none⟩ = false := blk_frozen HRX.out 1
          have rc2 : X.cell? ⟨R, 2, none⟩ = some (.slice none 0 0) := blk_cell HRX.out 2
          have rf2 : X.frozen? ⟨R, 2, none⟩ = false := blk_frozen HRX.out 2
          have rc3 : X.cell? ⟨R, 3, none⟩ = some (.slice none 0 0) := blk_cell HRX.out 3
          have rf3 : X.frozen? ⟨R, 3, none⟩ = false := blk_frozen HRX.out 3
          go_wp2_with fail
          refine bodyPost_ret (v := .tuple #[tyV 0 0 (.slice none 0 0) (.slice none 0 0), .bool false]) (results_cell Tryz.results117 rfl rfl (load25 (set4 HRX.out _ _ _ _))) rfl ?_
          exact ⟨0, 0, none, 0, 0, none, 0, 0, _, by rw [HRes.out]; rfl, set4_ne HQX.out hqR.out _ _ _ _, HLX.out, HTX.out.set4 HRe.out _ _ _ _, fun T r h => by rw [HRes.out] at h; cases h⟩
        | some x =>
          obtain ⟨T, rr⟩ := x
          obtain ⟨g1, g2, g3, g4⟩ := HF3.out T rr hread
          subst g1
          have HKR : Hid (Rd (w3.alloc (.cells #[i64 k1, i64 m1, .slice a1 n1 c1, .slice a2 n2 c2] 49)) (fun b => Avr w.heap.size q R Tb (.slice an i cn) b ∧ some b ≠ (Value.slice ak i ck).ownBlock) T (.slice a1 n1 c1) (.slice a2 n2 c2)) := by
            show Rd _ _ _ _ _
            have t1 := blk_lt HI2.out.hq
            have t2 := blk_lt HI2.out.hR
            have t3 := blk_lt HI2.out.hT
            have t4 := HI2.out.tt.size
            refine g4.move HBK.out.size fun b hb hlt => ⟨⟨⟨by omega, by omega, by omega, by omega, fun e => ?_⟩, fun e => ?_⟩, HBK.out.block b hlt⟩
            · have := (HI2.out.on.lt b e.symm).2; omega
            · have := (HI2.out.ok.own.lt b e.symm).2; omega
          subst g2 g3
          have hpush := rec_push HW.out HI4.out T a1 n1 c1 a2 n2 c2 HKR.out nm (by have := HTW.out.1; have := HL1.out; unfold maxLen; omega) hlt Kb _ HKX.out HKT.out
          obtain ⟨ao1, cap1, Y1, ao2, cap2, Y3, hrun1, hT1, hT2, hK2, hrun2, hT3, hI5⟩ := hpush
          have HRUN1 := hid hrun1
          have HRUN2 := hid hrun2
          have HI5 := hid hI5
          have HTX0 : Hid ((w3.alloc (.cells #[i64 T.kind, i64 T.num, .slice a1 n1 c1, .slice a2 n2 c2] 49)).heap[Tb]? = some (recO (.slice an i cn) (.slice ak i ck))) := HI4.out.hT
          have HTY1 := hid hT1
          have HTY2 := hid hT2
          have HKY2 := hid hK2
          have HTY3 := hid hT3
          have HRs3 : Hid (res = recEnd (readP f) (11 - i) (N ++ [nm]) (Ks.map (·.1) ++ [T]) l3) := by
            show _ = _
            rw [HRs2.out, recP_end (readP f) (11 - i) l1 N (Ks.map (·.1)) (by rw [HLF.out]; exact hread), HNM.out]
          clear hrun1 hrun2 hI5 hT1 hT2 hK2 hT3 g4 HF3 hread HRs HRs2 HI HI2 HI3 HI4 HKR HBK HLF HNM HTW
          generalize w3.alloc (.cells #[i64 T.kind, i64 T.num, .slice a1 n1 c1, .slice a2 n2 c2] 49) = X at *
          have x2 : X.cell? ⟨Tb, 2, none⟩ = some (.slice an i cn) := blk_cell HTX0.out 2
          have x3 : X.cell? ⟨Tb, 3, none⟩ = some (.slice ak i ck) := blk_cell HTX0.out 3
          have u2 : Y1.cell? ⟨Tb, 2, none⟩ = some (.slice an i cn) := blk_cell HTY1.out 2
          have uf2 : Y1.frozen? ⟨Tb, 2, none⟩ = false := blk_frozen HTY1.out 2
          go_upto_region 12 with (at_builtin; refine wpList_app_run rfl (.tmp 43) (.tmp 45) 46 rfl _ _ rfl rfl 46 rfl _ _ HRUN1.out ?_)
          generalize Y1.setCell ⟨Tb, 2, none⟩ (.slice ao1 (i + 1) cap1) = Y2 at *
          clear x2 x3 u2 uf2
          have v3 : Y2.cell? ⟨Tb, 3, none⟩ = some (.slice ak i ck) := blk_cell HTY2.out 3
          have kc0 : Y2.cell? ⟨Kb, 0, none⟩ = some (i64 T.kind) := blk_cell HKY2.out 0
          have kc1 : Y2.cell? ⟨Kb, 1, none⟩ = some (i64 T.num) := blk_cell HKY2.out 1
          have kc2 : Y2.cell? ⟨Kb, 2, none⟩ = some (.slice a1 n1 c1) := blk_cell HKY2.out 2
          have kc3 : Y2.cell? ⟨Kb, 3, none⟩ = some (.slice a2 n2 c2) := blk_cell HKY2.out 3
          have s3 : Y3.cell? ⟨Tb, 3, none⟩ = some (.slice ak i ck) := blk_cell HTY3.out 3
          have sf3 : Y3.frozen? ⟨Tb, 3, none⟩ = false := blk_frozen HTY3.out 3
          go_upto_region 13 with (at_builtin; refine wpList_app_run rfl (.tmp 49) (.tmp 51) 47 rfl _ _ rfl rfl 47 rfl _ _ HRUN2.out ?_)
          generalize Y3.setCell ⟨Tb, 3, none⟩ (.slice ao2 (i + 1) cap2) = Y4 at *
          clear v3 s3 sf3 HRUN1 HRUN2 HTY1 HTY2 HTY3 HKY2 HTX0 HKX
          clear kc0 kc1 kc2 kc3
          by_cases h44 : ∃ r', l3 = 44 :: r'
          · obtain ⟨r', rfl⟩ := h44
            have HRs4 : Hid (res = recP (readP f) (12 - (i + 1)) r' (N ++ [nm]) ((Ks ++ [((T, Value.slice a1 n1 c1, Value.slice a2 n2 c2) : Kd)]).map (·.1))) := by
              show _ = _
              rw [HRs3.out, List.map_append, recEnd_go]
              congr 1
              omega
            go_wp2_with fail
            refine (take_hit Y4 q 44 r' HI5.out.hq).mono ?_
            rintro e w6 ⟨rfl, hq6, ht6⟩
            have HI6 := hid (HI5.out.touch HW.out ht6 hq6 (by have := HI5.out.hl; rw [List.length_cons] at this; omega))
            clear hq6 ht6
            go_wp2_with fail
            exact ⟨⟨i + 1, _, _, _, _, r', by omega, by go_num, HI6, HRs4⟩, by simp [intOf]; omega⟩
          · go_wp2_with fail
            refine (take_miss Y4 q 44 l3 (fun r e => h44 ⟨r, e⟩) HI5.out.hq).mono ?_
            rintro e w6 ⟨rfl, hq6, ht6⟩
            have HI6 := hid (HI5.out.touch HW.out ht6 hq6 HI5.out.hl)
            clear hq6 ht6 HI5
            have HSX : Hid ((fun W => W.heap[Tb]? = some (recO (.slice ao1 (i + 1) cap1) (.slice ao2 (i + 1) cap2))) w6.drew) := HI6.out.hT
            have HQ6 : Hid (w6.drew.heap[q]? = some (.cells #[str l3] 170)) := HI6.out.hq
            go_upto_region 14 with fail
            by_cases h41 : ∃ r', l3 = 41 :: r'
            · obtain ⟨r', rfl⟩ := h41
              have HRes : Hid (res = some (.mk 4 0 (N ++ [nm]) ((Ks ++ [((T, Value.slice a1 n1 c1, Value.slice a2 n2 c2) : Kd)]).map (·.1)), r')) := by
                show _ = _
                rw [HRs3.out, List.map_append, recEnd_end]
                rfl
              have HTK : Hid (Calls Tryz.prog 114 #[pq q, str [41]] w6.drew fun e w' => e = .returned (.bool true) ∧ w'.heap[q]? = some (.cells #[str r'] 170) ∧ Touch q w6.drew w') := take_hit w6.drew q 41 r' HQ6.out
              refine wp_region_noPanic ?_
              refine wp_region_last (fun W => W.heap[Tb]? = some (recO (.slice ao1 (i + 1) cap1) (.slice ao2 (i + 1) cap2))) 4 (by kernel_rfl) ?_
              refine wpL_take 0 57 (.agg #[i64 4, i64 0, .slice ao1 (i + 1) cap1, .slice ao2 (i + 1) cap2]) [] rfl rfl (by kernel_rfl) (by decide) (by kernel_rfl) (by kernel_rfl) (by kernel_rfl) (fun _ _ _ h => h) HSX.out (by rfl) (fun W hW => by have d0 : W.cell? ⟨Tb, 0, none⟩ = some (i64 4) := blk_cell hW 0; have d1 : W.cell? ⟨Tb, 1, none⟩ = some (i64 0) := blk_cell hW 1; have d2 : W.cell? ⟨Tb, 2, none⟩ = some (.slice ao1 (i + 1) cap1) := blk_cell hW 2; have d3 : W.cell? ⟨Tb, 3, none⟩ = some (.slice ao2 (i + 1) cap2) := blk_cell hW 3; go_simp) ?_
              simp only [Act.put, List.setIfInBounds_toArray, List.set_cons_zero, List.set_cons_succ]
              refine wpL_take 1 58 (pq q) [] rfl rfl (by kernel_rfl) (by decide) (by kernel_rfl) (by kernel_rfl) (by kernel_rfl) (fun _ _ _ h => h) HSX.out (by rfl) (fun W hW => by go_simp) ?_
              simp only [Act.put, List.setIfInBounds_toArray, List.set_cons_zero, List.set_cons_succ]
              refine wpL_one 2 rfl (by kernel_rfl) (by rfl) (fun K hK => ?_)
              go_simp
              refine HTK.out.mono ?_
              rintro e w7 ⟨rfl, hq7, ht7⟩
              have HI7 := hid (HI6.out.touch HW.out (Touch.of_drew ht7) hq7 (by have := HI6.out.hl; rw [List.length_cons] at this; omega))
              have HS7 : Hid ((fun W => W.heap[Tb]? = some (recO (.slice ao1 (i + 1) cap1) (.slice ao2 (i + 1) cap2))) w7) := HI7.out.hT
              clear hq7 ht7
              go_simp
              refine hK.out _ _ (fun _ => HS7.out) ?_
              clear hK K
              have rc0 : w7.cell? ⟨R, 0, none⟩ = some (i64 0) := blk_cell HI7.out.hR 0
              have rf0 : w7.frozen? ⟨R, 0, none⟩ = false := blk_frozen HI7.out.hR 0
              have rc1 : w7.cell? ⟨R, 1, none⟩ = some (i64 0) := blk_cell HI7.out.hR 1
              have rf1 : w7.frozen? ⟨R, 1, none⟩ = false := blk_frozen HI7.out.hR 1
              have rc2 : w7.cell? ⟨R, 2, none⟩ = some (.slice none 0 0) := blk_cell HI7.out.hR 2
              have rf2 : w7.frozen? ⟨R, 2, none⟩ = false := blk_frozen HI7.out.hR 2
              have rc3 : w7.cell? ⟨R, 3, none⟩ = some (.slice none 0 0) := blk_cell HI7.out.hR 3
              have rf3 : w7.frozen? ⟨R, 3, none⟩ = false := blk_frozen HI7.out.hR 3
              refine wpL_one 3 rfl (by kernel_rfl) (by rfl) (fun K hK => ?_)
              go_simp
              refine hK.out _ _ (fun _ => set4_ne HS7.out (show Tb ≠ R from fun e => HW.out.ne e.symm) _ _ _ _) ?_
              clear hK K
              refine wpL_one 4 rfl (by kernel_rfl) (by rfl) (fun K hK => ?_)
              go_simp
              refine hK.out _ _ (fun h => absurd rfl h) ?_
              clear hK K
              refine wpL_done (by kernel_rfl) ?_
              refine NoPanic.normal ?_
              go_wp2_with fail
              refine bodyPost_ret (v := .tuple #[tyV 4 0 (.slice ao1 (i + 1) cap1) (.slice ao2 (i + 1) cap2), .bool true]) (results_cell Tryz.results117 rfl rfl (load25 (set4 HI7.out.hR _ _ _ _))) rfl ?_
              exact ⟨4, 0, ao1, i + 1, cap1, ao2, i + 1, cap2, r', by rw [HRes.out]; rfl, set4_ne HI7.out.hq hqR.out _ _ _ _, HI7.out.hl, HI7.out.tt.set4 HRe.out _ _ _ _, fun T' r'' h => by rw [HRes.out] at h; cases h; exact ⟨rfl, rfl, rfl, HI7.out.rd _ _ _ _⟩⟩
            · have HRes : Hid (res = none) := by
                show _ = _
                rw [HRs3.out]
                exact recEnd_no _ _ _ _ _ h44 h41
              have HTK : Hid (Calls Tryz.prog 114 #[pq q, str [41]] w6.drew fun e w' => e = .returned (.bool false) ∧ w'.heap[q]? = some (.cells #[str l3] 170) ∧ Touch q w6.drew w') := take_miss w6.drew q 41 l3 (fun r e => h41 ⟨r, e⟩) HQ6.out
              refine wp_region_noPanic ?_
              refine wp_region_last (fun W => W.heap[Tb]? = some (recO (.slice ao1 (i + 1) cap1) (.slice ao2 (i + 1) cap2))) 4 (by kernel_rfl) ?_
              refine wpL_take 0 57 (.agg #[i64 4, i64 0, .slice ao1 (i + 1) cap1, .slice ao2 (i + 1) cap2]) [] rfl rfl (by kernel_rfl) (by decide) (by kernel_rfl) (by kernel_rfl) (by kernel_rfl) (fun _ _ _ h => h) HSX.out (by rfl) (fun W hW => by have d0 : W.cell? ⟨Tb, 0, none⟩ = some (i64 4) := blk_cell hW 0; have d1 : W.cell? ⟨Tb, 1, none⟩ = some (i64 0) := blk_cell hW 1; have d2 : W.cell? ⟨Tb, 2, none⟩ = some (.slice ao1 (i + 1) cap1) := blk_cell hW 2; have d3 : W.cell? ⟨Tb, 3, none⟩ = some (.slice ao2 (i + 1) cap2) := blk_cell hW 3; go_simp) ?_
              simp only [Act.put, List.setIfInBounds_toArray, List.set_cons_zero, List.set_cons_succ]
              refine wpL_take 1 58 (pq q) [] rfl rfl (by kernel_rfl) (by decide) (by kernel_rfl) (by kernel_rfl) (by kernel_rfl) (fun _ _ _ h => h) HSX.out (by rfl) (fun W hW => by go_simp) ?_
              simp only [Act.put, List.setIfInBounds_toArray, List.set_cons_zero, List.set_cons_succ]
              refine wpL_one 2 rfl (by kernel_rfl) (by rfl) (fun K hK => ?_)
              go_simp
              refine HTK.out.mono ?_
              rintro e w7 ⟨rfl, hq7, ht7⟩
              have HI7 := hid (HI6.out.touch HW.out (Touch.of_drew ht7) hq7 (HI6.out.hl))
              have HS7 : Hid ((fun W => W.heap[Tb]? = some (recO (.slice ao1 (i + 1) cap1) (.slice ao2 (i + 1) cap2))) w7) := HI7.out.hT
              clear hq7 ht7
              go_simp
              refine hK.out _ _ (fun _ => HS7.out) ?_
              clear hK K
              have rc0 : w7.cell? ⟨R, 0, none⟩ = some (i64 0) := blk_cell HI7.out.hR 0
              have rf0 : w7.frozen? ⟨R, 0, none⟩ = false := blk_frozen HI7.out.hR 0
              have rc1 : w7.cell? ⟨R, 1, none⟩ = some (i64 0) := blk_cell HI7.out.hR 1
              have rf1 : w7.frozen? ⟨R, 1, none⟩ = false := blk_frozen HI7.out.hR 1
              have rc2 : w7.cell? ⟨R, 2, none⟩ = some (.slice none 0 0) := blk_cell HI7.out.hR 2
              have rf2 : w7.frozen? ⟨R, 2, none⟩ = false := blk_frozen HI7.out.hR 2
              have rc3 : w7.cell? ⟨R, 3, none⟩ = some (.slice none 0 0) := blk_cell HI7.out.hR 3
              have rf3 : w7.frozen? ⟨R, 3, none⟩ = false := blk_frozen HI7.out.hR 3
              refine wpL_one 3 rfl (by kernel_rfl) (by rfl) (fun K hK => ?_)
              go_simp
              refine hK.out _ _ (fun _ => set4_ne HS7.out (show Tb ≠ R from fun e => HW.out.ne e.symm) _ _ _ _) ?_
              clear hK K
              refine wpL_one 4 rfl (by kernel_rfl) (by rfl) (fun K hK => ?_)
              go_simp
              refine hK.out _ _ (fun h => absurd rfl h) ?_
              clear hK K
              refine wpL_done (by kernel_rfl) ?_
              refine NoPanic.normal ?_
              go_wp2_with fail
              refine bodyPost_ret (v := .tuple #[tyV 4 0 (.slice ao1 (i + 1) cap1) (.slice ao2 (i + 1) cap2), .bool false]) (results_cell Tryz.results117 rfl rfl (load25 (set4 HI7.out.hR _ _ _ _))) rfl ?_
              exact ⟨4, 0, ao1, i + 1, cap1, ao2, i + 1, cap2, l3, by rw [HRes.out]; rfl, set4_ne HI7.out.hq hqR.out _ _ _ _, HI7.out.hl, HI7.out.tt.set4 HRe.out _ _ _ _, fun T' r'' h => by rw [HRes.out] at h; cases h⟩
      · have HRes : Hid (res = none) := by
          show _ = _
          rw [HRs.out, show 12 - i = 0 by omega]
          rfl
        have HRX : Hid (wr.heap[R]? = some zT) := HI.out.hR
        have HQX : Hid (wr.heap[q]? = some (.cells #[str l1] 170)) := HI.out.hq
        have HTX : Hid (Touch q w wr) := HI.out.tt
        have HLX : Hid (l1.length ≤ L) := HI.out.hl
        clear HI HRs
        have rc0 : wr.cell? ⟨R, 0, none⟩ = some (i64 0) := blk_cell HRX.out 0
        have rf0 : wr.frozen? ⟨R, 0, none⟩ = false := blk_frozen HRX.out 0
        have rc1 : wr.cell? ⟨R, 1, none⟩ = some (i64 0) := blk_cell HRX.out 1
        have rf1 : wr.frozen? ⟨R, 1, none⟩ = false := blk_frozen HRX.out 1
        have rc2 : wr.cell? ⟨R, 2, none⟩ = some (.slice none 0 0) := blk_cell HRX.out 2
        have rf2 : wr.frozen? ⟨R, 2, none⟩ = false := blk_frozen HRX.out 2
        have rc3 : wr.cell? ⟨R, 3, none⟩ = some (.slice none 0 0) := blk_cell HRX.out 3
        have rf3 : wr.frozen? ⟨R, 3, none⟩ = false := blk_frozen HRX.out 3
        go_wp2_with fail
        refine bodyPost_ret (v := .tuple #[tyV 0 0 (.slice none 0 0) (.slice none 0 0), .bool false]) (results_cell Tryz.results117 rfl rfl (load25 (set4 HRX.out _ _ _ _))) rfl ?_
        exact ⟨0, 0, none, 0, 0, none, 0, 0, _, by rw [HRes.out]; rfl, set4_ne HQX.out hqR.out _ _ _ _, HLX.out, HTX.out.set4 HRe.out _ _ _ _, fun T r h => by rw [HRes.out] at h; cases h⟩
  · have HRes : Hid (res = none) := by
      show _ = _
      rw [HRes0.out]
      unfold recP0
      split
      · exact absurd ⟨_, rfl⟩ hp
      · rfl
    have HLX : Hid (l.length ≤ L) := by show _ ≤ _; rw [HLe.out]; exact Nat.le_refl _
    go_wp2_with fail
    refine (take_miss V q 40 l (fun r e => hp ⟨r, e⟩) HQ0.out).mono ?_
    rintro e w2 ⟨rfl, hq2, ht2⟩
    have HQ2 := hid hq2
    have HT2 : Hid (Touch q w w2) := HT0.out.trans ht2
    have HR2 : Hid (w2.heap[R]? = some zT) := by show _ = _; rw [ht2.block R HRlt.out (fun e => hqR.out e.symm)]; exact HR0.out
    clear hq2 ht2
    have rc0 : w2.cell? ⟨R, 0, none⟩ = some (i64 0) := blk_cell HR2.out 0
    have rf0 : w2.frozen? ⟨R, 0, none⟩ = false := blk_frozen HR2.out 0
    have rc1 : w2.cell? ⟨R, 1, none⟩ = some (i64 0) := blk_cell HR2.out 1
    have rf1 : w2.frozen? ⟨R, 1, none⟩ = false := blk_frozen HR2.out 1
    have rc2 : w2.cell? ⟨R, 2, none⟩ = some (.slice none 0 0) := blk_cell HR2.out 2
    have rf2 : w2.frozen? ⟨R, 2, none⟩ = false := blk_frozen HR2.out 2
    have rc3 : w2.cell? ⟨R, 3, none⟩ = some (.slice none 0 0) := blk_cell HR2.out 3
    have rf3 : w2.frozen? ⟨R, 3, none⟩ = false := blk_frozen HR2.out 3
    go_wp2_with fail
    refine bodyPost_ret (v := .tuple #[tyV 0 0 (.slice none 0 0) (.slice none 0 0), .bool false]) (results_cell Tryz.results117 rfl rfl (load25 (set4 HR2.out _ _ _ _))) rfl ?_
    exact ⟨0, 0, none, 0, 0, none, 0, 0, _, by rw [HRes.out]; rfl, set4_ne HQ2.out hqR.out _ _ _ _, HLX.out, HT2.out.set4 HRe.out _ _ _ _, fun T r h => by rw [HRes.out] at h; cases h⟩
end Go.Proofs.YtjppcfjjpkniaaaGreatDoor
namespace Go.Proofs.YtjppcfjjpkniaaaGreatDoor
open Go.ChangeShapes Go.WideShapes Go.ChangeAt Go.RowKit Go.Deep
attribute [local go_sem ↓] Go.wp_at_zero Go.wp_at_succ

theorem Rd.leaf (w : World) (S : Nat → Prop) (k n : Int) : Rd w S (.mk k n [] []) (.slice none 0 0) (.slice none 0 0) :=
  .mk (kids := []) 0 0 (fun _ => undef) (fun _ => undef) ⟨none, 0, rfl, Nat.zero_le _, ⟨Nat.le_refl _, fun x hx => by cases hx⟩, Or.inl rfl⟩ (Nat.zero_le _) (Or.inl rfl) (fun i T hT => by simp at hT) (fun i T hT => by simp at hT)
theorem Rd.set4 {w : World} {lo lo' R : Nat} {T : Ty} {nv kv : Value} (h : Rd w (fun b => lo' ≤ b) T nv kv) (h1 : R < lo') (h2 : lo ≤ lo') (a0 a1 a2 a3 : Value) : Rd ((((w.setCell ⟨R, 0, none⟩ a0).setCell ⟨R, 1, none⟩ a1).setCell ⟨R, 2, none⟩ a2).setCell ⟨R, 3, none⟩ a3) (fun b => lo ≤ b) T nv kv := by
  refine h.move (by simp [World.setCell]) (fun b hb _ => ⟨by omega, ?_⟩)
  have hne : b ≠ R := by omega
  rw [Below.heap_setCell _ _ _ _ hne, Below.heap_setCell _ _ _ _ hne, Below.heap_setCell _ _ _ _ hne, Below.heap_setCell _ _ _ _ hne]
theorem readP_i (f : Nat) (r : Bs) : readP (f + 1) (105 :: r) = (numP r).map fun x => (.mk 1 x.1 [] [], x.2) := rfl
theorem readP_t (f : Nat) (r : Bs) : readP (f + 1) (116 :: r) = (numP r).map fun x => (.mk 2 x.1 [] [], x.2) := rfl
theorem readP_l (f : Nat) (r : Bs) : readP (f + 1) (108 :: r) = listP f r := rfl
theorem readP_r (f : Nat) (r : Bs) : readP (f + 1) (114 :: r) = recP0 f r := rfl
theorem readP_no (f : Nat) (l : Bs) (h1 : ∀ r, l ≠ 105 :: r) (h2 : ∀ r, l ≠ 116 :: r) (h3 : ∀ r, l ≠ 108 :: r) (h4 : ∀ r, l ≠ 114 :: r) : readP (f + 1) l = none := by
  cases l with
  | nil => rfl
  | cons c r =>
    show (if c = 105 then _ else if c = 116 then _ else if c = 108 then _ else if c = 114 then _ else _) = _
    rw [if_neg (fun e => h1 r (by rw [e])), if_neg (fun e => h2 r (by rw [e])), if_neg (fun e => h3 r (by rw [e])), if_neg (fun e => h4 r (by rw [e]))]
set_option maxRecDepth 100000 in
set_option maxHeartbeats 3200000 in
theorem read_i (f : Nat) (hf : f ≤ 5) (w : World) (q : Nat) (l : Bs) (hq : w.heap[q]? = some (.cells #[str l] 170)) (hl : l.length ≤ 30000000) (hM : Mx w q) (r : Bs) (hlr0 : l = 105 :: r) : Calls Tryz.prog 101 #[pq q, i64 (6 - f)] w (Rok w q l.length (readP (f + 1) l)) := by
  obtain ⟨res, hres⟩ : ∃ res, res = readP (f + 1) l := ⟨_, rfl⟩
  have HRes0 := hid hres
  obtain ⟨L, hL⟩ : ∃ L, L = l.length := ⟨_, rfl⟩
  have HLe := hid hL
  have hL6 : L ≤ 30000000 := by omega
  rw [← hres, ← hL]
  clear hL
  have HM := hid hM
  have hqlt := blk_lt hq
  obtain ⟨D, hD⟩ : ∃ D, D = (6 : Int) - f := ⟨_, rfl⟩
  have HDe := hid hD
  have hD0 : 0 ≤ D := by omega
  have hD2 : D ≤ 6 := by omega
  rw [← hD]
  have HR0 : Hid ((w.alloc zT).heap[w.heap.size]? = some zT) := heap_last w _
  have HQ0 : Hid ((w.alloc zT).heap[q]? = some (.cells #[str l] 170)) := blk_alloc hq _
  have HT0 : Hid (Touch q w (w.alloc zT)) := hid ((Touch.refl q w).alloc _)
  have hqR : Hid (q ≠ w.heap.size) := by show q ≠ _; omega
  clear hres hM hq hD hqlt
  go_enter Tryz.func101, Tryz.ntmps101
  go_upto_region 1 with fail
  obtain ⟨R, hR⟩ : ∃ R, R = w.heap.size := ⟨_, rfl⟩
  rw [← hR] at HR0 hqR ⊢
  have HRe : Hid (w.heap.size ≤ R) := by show _ ≤ _; omega
  clear hR
  generalize w.alloc zT = v0 at *
  have hlr := hid hlr0
  clear hlr0
  have HQh : Hid (v0.heap[q]? = some (.cells #[str (105 :: r)] 170)) := by have := HQ0.out; rw [hlr.out] at this; exact this
  go_wp2_with fail
  refine (take_hit v0 q 105 r HQh.out).mono ?_
  rintro e v1 ⟨rfl, hq1, ht1⟩
  have HQ1 := hid hq1
  have HT1 : Hid (Touch q w v1) := HT0.out.trans ht1
  have HR1 : Hid (v1.heap[R]? = some zT) := by show _ = _; rw [ht1.block R (blk_lt HR0.out) (fun e => hqR.out e.symm)]; exact HR0.out
  clear hq1 ht1
  have HLr : Hid (r.length + 1 = L) := by show _ = _; rw [HLe.out, hlr.out]; rfl
  have HNU : Hid (Calls Tryz.prog 115 #[pq q] v1 fun e w' => e = .returned (.tuple #[i64 (valD (digs3 r) : Nat), .bool (numOk (digs3 r))]) ∧ w'.heap[q]? = some (.cells #[str (r.drop (digs3 r).length)] 170) ∧ Touch q v1 w') := number_ok v1 q r (by have := HLr.out; omega) HQ1.out
  have HRs : Hid (res = (numP r).map fun x => (.mk 1 x.1 [] [], x.2)) := by show _ = _; rw [HRes0.out, hlr.out]; rfl
  have HNN := hid (numP_none (l := r))
  have HNS := hid (numP_some (l := r))
  have HLn : Hid ((r.drop (digs3 r).length).length ≤ L) := by show _ ≤ _; rw [List.length_drop]; have := HLr.out; omega
  generalize numOk (digs3 r) = OK at *
  generalize valD (digs3 r) = NV at *
  generalize r.drop (digs3 r).length = l1 at *
  go_wp2_with fail
  refine HNU.out.mono ?_
  rintro e w1 ⟨rfl, hq1, ht1⟩
  have HQw := hid hq1
  have HTw : Hid (Touch q w w1) := HT1.out.trans ht1
  have HRw : Hid (w1.heap[R]? = some zT) := by show _ = _; rw [ht1.block R (blk_lt HR1.out) (fun e => hqR.out e.symm)]; exact HR1.out
  clear hq1 ht1 HNU
  have rc0 : w1.cell? ⟨R, 0, none⟩ = some (i64 0) := blk_cell HRw.out 0
  have rf0 : w1.frozen? ⟨R, 0, none⟩ = false := blk_frozen HRw.out 0
  have rc1 : w1.cell? ⟨R, 1, none⟩ = some (i64 0) := blk_cell HRw.out 1
  have rf1 : w1.frozen? ⟨R, 1, none⟩ = false := blk_frozen HRw.out 1
  have rc2 : w1.cell? ⟨R, 2, none⟩ = some (.slice none 0 0) := blk_cell HRw.out 2
  have rf2 : w1.frozen? ⟨R, 2, none⟩ = false := blk_frozen HRw.out 2
  have rc3 : w1.cell? ⟨R, 3, none⟩ = some (.slice none 0 0) := blk_cell HRw.out 3
  have rf3 : w1.frozen? ⟨R, 3, none⟩ = false := blk_frozen HRw.out 3
  cases OK with
  | false =>
    have HRes : Hid (res = none) := by show _ = _; rw [HRs.out, HNN.out rfl]; rfl
    go_wp2_with fail
    refine bodyPost_ret (v := .tuple #[tyV 1 NV (.slice none 0 0) (.slice none 0 0), .bool false]) (results_cell Tryz.results101 rfl rfl (load25 (set4 HRw.out _ _ _ _))) rfl ?_
    exact ⟨1, NV, none, 0, 0, none, 0, 0, _, by rw [HRes.out]; rfl, set4_ne HQw.out hqR.out _ _ _ _, HLn.out, HTw.out.set4 HRe.out _ _ _ _, fun T r h => by rw [HRes.out] at h; cases h⟩
  | true =>
    have HRes : Hid (res = some (.mk 1 NV [] [], l1)) := by show _ = _; rw [HRs.out, HNS.out rfl]; rfl
    go_wp2_with fail
    refine bodyPost_ret (v := .tuple #[tyV 1 NV (.slice none 0 0) (.slice none 0 0), .bool true]) (results_cell Tryz.results101 rfl rfl (load25 (set4 HRw.out _ _ _ _))) rfl ?_
    exact ⟨1, NV, none, 0, 0, none, 0, 0, _, by rw [HRes.out]; rfl, set4_ne HQw.out hqR.out _ _ _ _, HLn.out, HTw.out.set4 HRe.out _ _ _ _, fun T r h => by rw [HRes.out] at h; cases h; exact ⟨rfl, rfl, rfl, Rd.leaf _ _ _ _⟩⟩
set_option maxRecDepth 100000 in
set_option maxHeartbeats 3200000 in
theorem read_t (f : Nat) (hf : f ≤ 5) (w : World) (q : Nat) (l : Bs) (hq : w.heap[q]? = some (.cells #[str l] 170)) (hl : l.length ≤ 30000000) (hM : Mx w q) (r : Bs) (hlr0 : l = 116 :: r) : Calls Tryz.prog 101 #[pq q, i64 (6 - f)] w (Rok w q l.length (readP (f + 1) l)) := by
  obtain ⟨res, hres⟩ : ∃ res, res = readP (f + 1) l := ⟨_, rfl⟩
  have HRes0 := hid hres
  obtain ⟨L, hL⟩ : ∃ L, L = l.length := ⟨_, rfl⟩
  have HLe := hid hL
  have hL6 : L ≤ 30000000 := by omega
  rw [← hres, ← hL]
  clear hL
  have HM := hid hM
  have hqlt := blk_lt hq
  obtain ⟨D, hD⟩ : ∃ D, D = (6 : Int) - f := ⟨_, rfl⟩
  have HDe := hid hD
  have hD0 : 0 ≤ D := by omega
  have hD2 : D ≤ 6 := by omega
  rw [← hD]
  have HR0 : Hid ((w.alloc zT).heap[w.heap.size]? = some zT) := heap_last w _
  have HQ0 : Hid ((w.alloc zT).heap[q]? = some (.cells #[str l] 170)) := blk_alloc hq _
  have HT0 : Hid (Touch q w (w.alloc zT)) := hid ((Touch.refl q w).alloc _)
  have hqR : Hid (q ≠ w.heap.size) := by show q ≠ _; omega
  clear hres hM hq hD hqlt
  go_enter Tryz.func101, Tryz.ntmps101
  go_upto_region 1 with fail
  obtain ⟨R, hR⟩ : ∃ R, R = w.heap.size := ⟨_, rfl⟩
  rw [← hR] at HR0 hqR ⊢
  have HRe : Hid (w.heap.size ≤ R) := by show _ ≤ _; omega
  clear hR
  generalize w.alloc zT = v0 at *
  have hlr := hid hlr0
  clear hlr0
  have hn0 : Hid (∀ r', l ≠ 105 :: r') := by intro r' e; rw [hlr.out] at e; cases e
  go_wp2_with fail
  refine (take_miss v0 q 105 l hn0.out HQ0.out).mono ?_
  rintro e v1 ⟨rfl, hq1, ht1⟩
  have HQ1 := hid hq1
  have HT1 : Hid (Touch q w v1) := HT0.out.trans ht1
  have HR1 : Hid (v1.heap[R]? = some zT) := by show _ = _; rw [ht1.block R (blk_lt HR0.out) (fun e => hqR.out e.symm)]; exact HR0.out
  clear hq1 ht1
  have HQh : Hid (v1.heap[q]? = some (.cells #[str (116 :: r)] 170)) := by have := HQ1.out; rw [hlr.out] at this; exact this
  go_wp2_with fail
  refine (take_hit v1 q 116 r HQh.out).mono ?_
  rintro e v2 ⟨rfl, hq1, ht1⟩
  have HQ2 := hid hq1
  have HT2 : Hid (Touch q w v2) := HT1.out.trans ht1
  have HR2 : Hid (v2.heap[R]? = some zT) := by show _ = _; rw [ht1.block R (blk_lt HR1.out) (fun e => hqR.out e.symm)]; exact HR1.out
  clear hq1 ht1
  have HLr : Hid (r.length + 1 = L) := by show _ = _; rw [HLe.out, hlr.out]; rfl
  have HNU : Hid (Calls Tryz.prog 115 #[pq q] v2 fun e w' => e = .returned (.tuple #[i64 (valD (digs3 r) : Nat), .bool (numOk (digs3 r))]) ∧ w'.heap[q]? = some (.cells #[str (r.drop (digs3 r).length)] 170) ∧ Touch q v2 w') := number_ok v2 q r (by have := HLr.out; omega) HQ2.out
  have HRs : Hid (res = (numP r).map fun x => (.mk 2 x.1 [] [], x.2)) := by show _ = _; rw [HRes0.out, hlr.out]; rfl
  have HNN := hid (numP_none (l := r))
  have HNS := hid (numP_some (l := r))
  have HLn : Hid ((r.drop (digs3 r).length).length ≤ L) := by show _ ≤ _; rw [List.length_drop]; have := HLr.out; omega
  generalize numOk (digs3 r) = OK at *
  generalize valD (digs3 r) = NV at *
  generalize r.drop (digs3 r).length = l1 at *
  go_wp2_with fail
  refine HNU.out.mono ?_
  rintro e w1 ⟨rfl, hq1, ht1⟩
  have HQw := hid hq1
  have HTw : Hid (Touch q w w1) := HT2.out.trans ht1
  have HRw : Hid (w1.heap[R]? = some zT) := by show _ = _; rw [ht1.block R (blk_lt HR2.out) (fun e => hqR.out e.symm)]; exact HR2.out
  clear hq1 ht1 HNU
  have rc0 : w1.cell? ⟨R, 0, none⟩ = some (i64 0) := blk_cell HRw.out 0
  have rf0 : w1.frozen? ⟨R, 0, none⟩ = false := blk_frozen HRw.out 0
  have rc1 : w1.cell? ⟨R, 1, none⟩ = some (i64 0) := blk_cell HRw.out 1
  have rf1 : w1.frozen? ⟨R, 1, none⟩ = false := blk_frozen HRw.out 1
  have rc2 : w1.cell? ⟨R, 2, none⟩ = some (.slice none 0 0) := blk_cell HRw.out 2
  have rf2 : w1.frozen? ⟨R, 2, none⟩ = false := blk_frozen HRw.out 2
  have rc3 : w1.cell? ⟨R, 3, none⟩ = some (.slice none 0 0) := blk_cell HRw.out 3
  have rf3 : w1.frozen? ⟨R, 3, none⟩ = false := blk_frozen HRw.out 3
  cases OK with
  | false =>
    have HRes : Hid (res = none) := by show _ = _; rw [HRs.out, HNN.out rfl]; rfl
    go_wp2_with fail
    refine bodyPost_ret (v := .tuple #[tyV 2 NV (.slice none 0 0) (.slice none 0 0), .bool false]) (results_cell Tryz.results101 rfl rfl (load25 (set4 HRw.out _ _ _ _))) rfl ?_
    exact ⟨2, NV, none, 0, 0, none, 0, 0, _, by rw [HRes.out]; rfl, set4_ne HQw.out hqR.out _ _ _ _, HLn.out, HTw.out.set4 HRe.out _ _ _ _, fun T r h => by rw [HRes.out] at h; cases h⟩
  | true =>
    have HRes : Hid (res = some (.mk 2 NV [] [], l1)) := by show _ = _; rw [HRs.out, HNS.out rfl]; rfl
    go_wp2_with fail
    refine bodyPost_ret (v := .tuple #[tyV 2 NV (.slice none 0 0) (.slice none 0 0), .bool true]) (results_cell Tryz.results101 rfl rfl (load25 (set4 HRw.out _ _ _ _))) rfl ?_
    exact ⟨2, NV, none, 0, 0, none, 0, 0, _, by rw [HRes.out]; rfl, set4_ne HQw.out hqR.out _ _ _ _, HLn.out, HTw.out.set4 HRe.out _ _ _ _, fun T r h => by rw [HRes.out] at h; cases h; exact ⟨rfl, rfl, rfl, Rd.leaf _ _ _ _⟩⟩
set_option maxRecDepth 100000 in
set_option maxHeartbeats 3200000 in
theorem read_l (f : Nat) (hrd : ∀ (w : World) (q : Nat) (l : Bs), w.heap[q]? = some (.cells #[str l] 170) → l.length ≤ 30000000 → Mx w q → Calls Tryz.prog 101 #[pq q, i64 (7 - f)] w (Rok w q l.length (readP f l))) (hf : f ≤ 5) (w : World) (q : Nat) (l : Bs) (hq : w.heap[q]? = some (.cells #[str l] 170)) (hl : l.length ≤ 30000000) (hM : Mx w q) (r : Bs) (hlr0 : l = 108 :: r) : Calls Tryz.prog 101 #[pq q, i64 (6 - f)] w (Rok w q l.length (readP (f + 1) l)) := by
  obtain ⟨res, hres⟩ : ∃ res, res = readP (f + 1) l := ⟨_, rfl⟩
  have HRes0 := hid hres
  obtain ⟨L, hL⟩ : ∃ L, L = l.length := ⟨_, rfl⟩
  have HLe := hid hL
  have hL6 : L ≤ 30000000 := by omega
  rw [← hres, ← hL]
  clear hL
  have HM := hid hM
  have hqlt := blk_lt hq
  obtain ⟨D, hD⟩ : ∃ D, D = (6 : Int) - f := ⟨_, rfl⟩
  have HDe := hid hD
  have hD0 : 0 ≤ D := by omega
  have hD2 : D ≤ 6 := by omega
  rw [← hD]
  have HR0 : Hid ((w.alloc zT).heap[w.heap.size]? = some zT) := heap_last w _
  have HQ0 : Hid ((w.alloc zT).heap[q]? = some (.cells #[str l] 170)) := blk_alloc hq _
  have HT0 : Hid (Touch q w (w.alloc zT)) := hid ((Touch.refl q w).alloc _)
  have hqR : Hid (q ≠ w.heap.size) := by show q ≠ _; omega
  clear hres hM hq hD hqlt
  go_enter Tryz.func101, Tryz.ntmps101
  go_upto_region 1 with fail
  obtain ⟨R, hR⟩ : ∃ R, R = w.heap.size := ⟨_, rfl⟩
  rw [← hR] at HR0 hqR ⊢
  have HRe : Hid (w.heap.size ≤ R) := by show _ ≤ _; omega
  clear hR
  generalize w.alloc zT = v0 at *
  have hlr := hid hlr0
  have HRD := hid hrd
  clear hlr0 hrd
  have hn0 : Hid (∀ r', l ≠ 105 :: r') := by intro r' e; rw [hlr.out] at e; cases e
  go_wp2_with fail
  refine (take_miss v0 q 105 l hn0.out HQ0.out).mono ?_
  rintro e v1 ⟨rfl, hq1, ht1⟩
  have HQ1 := hid hq1
  have HT1 : Hid (Touch q w v1) := HT0.out.trans ht1
  have HR1 : Hid (v1.heap[R]? = some zT) := by show _ = _; rw [ht1.block R (blk_lt HR0.out) (fun e => hqR.out e.symm)]; exact HR0.out
  clear hq1 ht1
  have hn1 : Hid (∀ r', l ≠ 116 :: r') := by intro r' e; rw [hlr.out] at e; cases e
  go_wp2_with fail
  refine (take_miss v1 q 116 l hn1.out HQ1.out).mono ?_
  rintro e v2 ⟨rfl, hq1, ht1⟩
  have HQ2 := hid hq1
  have HT2 : Hid (Touch q w v2) := HT1.out.trans ht1
  have HR2 : Hid (v2.heap[R]? = some zT) := by show _ = _; rw [ht1.block R (blk_lt HR1.out) (fun e => hqR.out e.symm)]; exact HR1.out
  clear hq1 ht1
  have HQh : Hid (v2.heap[q]? = some (.cells #[str (108 :: r)] 170)) := by have := HQ2.out; rw [hlr.out] at this; exact this
  go_wp2_with fail
  refine (take_hit v2 q 108 r HQh.out).mono ?_
  rintro e v3 ⟨rfl, hq1, ht1⟩
  have HQ3 := hid hq1
  have HT3 : Hid (Touch q w v3) := HT2.out.trans ht1
  have HR3 : Hid (v3.heap[R]? = some zT) := by show _ = _; rw [ht1.block R (blk_lt HR2.out) (fun e => hqR.out e.symm)]; exact HR2.out
  clear hq1 ht1
  have HLr : Hid (r.length + 1 = L) := by show _ = _; rw [HLe.out, hlr.out]; rfl
  have HRs : Hid (res = listP f r) := by show _ = _; rw [HRes0.out, hlr.out]; rfl
  have HCA : Hid (Calls Tryz.prog 116 #[pq q, i64 D] v3 (Rok v3 q r.length (listP f r))) := by show Calls _ _ _ _ _; rw [HDe.out]; exact list_ok f HRD.out (by omega) v3 q r HQ3.out (by have := HLr.out; omega) (HM.out.touch HT3.out)
  generalize listP f r = res1 at *
  go_wp2_with fail
  refine HCA.out.mono ?_
  rintro e w3 ⟨k1, m1, a1, n1, c1, a2, n2, c2, l3, rfl, hq3, hl3, ht3, hf3⟩
  have HQ9 := hid hq3
  have HL9 : Hid (l3.length ≤ L) := by show _ ≤ _; have := HLr.out; omega
  have HT9 : Hid (Touch q w w3) := HT3.out.trans ht3
  have HR9 : Hid (w3.heap[R]? = some zT) := by show _ = _; rw [ht3.block R (blk_lt HR3.out) (fun e => hqR.out e.symm)]; exact HR3.out
  have HF9 := hid hf3
  have HRlo : Hid (R < v3.heap.size) := blk_lt HR3.out
  clear hq3 hl3 ht3 hf3
  have rc0 : w3.cell? ⟨R, 0, none⟩ = some (i64 0) := blk_cell HR9.out 0
  have rf0 : w3.frozen? ⟨R, 0, none⟩ = false := blk_frozen HR9.out 0
  have rc1 : w3.cell? ⟨R, 1, none⟩ = some (i64 0) := blk_cell HR9.out 1
  have rf1 : w3.frozen? ⟨R, 1, none⟩ = false := blk_frozen HR9.out 1
  have rc2 : w3.cell? ⟨R, 2, none⟩ = some (.slice none 0 0) := blk_cell HR9.out 2
  have rf2 : w3.frozen? ⟨R, 2, none⟩ = false := blk_frozen HR9.out 2
  have rc3 : w3.cell? ⟨R, 3, none⟩ = some (.slice none 0 0) := blk_cell HR9.out 3
  have rf3 : w3.frozen? ⟨R, 3, none⟩ = false := blk_frozen HR9.out 3
  go_wp2_with fail
  refine bodyPost_ret (v := .tuple #[tyV k1 m1 (.slice a1 n1 c1) (.slice a2 n2 c2), .bool res1.isSome]) (results_cell Tryz.results101 rfl rfl (load25 (set4 HR9.out _ _ _ _))) rfl ?_
  exact ⟨k1, m1, a1, n1, c1, a2, n2, c2, l3, by rw [HRs.out], set4_ne HQ9.out hqR.out _ _ _ _, HL9.out, HT9.out.set4 HRe.out _ _ _ _, fun T r' h => by
    rw [HRs.out] at h
    obtain ⟨g1, g2, g3, g4⟩ := HF9.out T r' h
    exact ⟨g1, g2, g3, g4.set4 HRlo.out HT3.out.size _ _ _ _⟩⟩
set_option maxRecDepth 100000 in
set_option maxHeartbeats 3200000 in
theorem read_r (f : Nat) (hrd : ∀ (w : World) (q : Nat) (l : Bs), w.heap[q]? = some (.cells #[str l] 170) → l.length ≤ 30000000 → Mx w q → Calls Tryz.prog 101 #[pq q, i64 (7 - f)] w (Rok w q l.length (readP f l))) (hf : f ≤ 5) (w : World) (q : Nat) (l : Bs) (hq : w.heap[q]? = some (.cells #[str l] 170)) (hl : l.length ≤ 30000000) (hM : Mx w q) (r : Bs) (hlr0 : l = 114 :: r) : Calls Tryz.prog 101 #[pq q, i64 (6 - f)] w (Rok w q l.length (readP (f + 1) l)) := by
  obtain ⟨res, hres⟩ : ∃ res, res = readP (f + 1) l := ⟨_, rfl⟩
  have HRes0 := hid hres
  obtain ⟨L, hL⟩ : ∃ L, L = l.length := ⟨_, rfl⟩
  have HLe := hid hL
  have hL6 : L ≤ 30000000 := by omega
  rw [← hres, ← hL]
  clear hL
  have HM := hid hM
  have hqlt := blk_lt hq
  obtain ⟨D, hD⟩ : ∃ D, D = (6 : Int) - f := ⟨_, rfl⟩
  have HDe := hid hD
  have hD0 : 0 ≤ D := by omega
  have hD2 : D ≤ 6 := by omega
  rw [← hD]
  have HR0 : Hid ((w.alloc zT).heap[w.heap.size]? = some zT) := heap_last w _
  have HQ0 : Hid ((w.alloc zT).heap[q]? = some (.cells #[str l] 170)) := blk_alloc hq _
  have HT0 : Hid (Touch q w (w.alloc zT)) := hid ((Touch.refl q w).alloc _)
  have hqR : Hid (q ≠ w.heap.size) := by show q ≠ _; omega
  clear hres hM hq hD hqlt
  go_enter Tryz.func101, Tryz.ntmps101
  go_upto_region 1 with fail
  obtain ⟨R, hR⟩ : ∃ R, R = w.heap.size := ⟨_, rfl⟩
  rw [← hR] at HR0 hqR ⊢
  have HRe : Hid (w.heap.size ≤ R) := by show _ ≤ _; omega
  clear hR
  generalize w.alloc zT = v0 at *
  have hlr := hid hlr0
  have HRD := hid hrd
  clear hlr0 hrd
  have hn0 : Hid (∀ r', l ≠ 105 :: r') := by intro r' e; rw [hlr.out] at e; cases e
  go_wp2_with fail
  refine (take_miss v0 q 105 l hn0.out HQ0.out).mono ?_
  rintro e v1 ⟨rfl, hq1, ht1⟩
  have HQ1 := hid hq1
  have HT1 : Hid (Touch q w v1) := HT0.out.trans ht1
  have HR1 : Hid (v1.heap[R]? = some zT) := by show _ = _; rw [ht1.block R (blk_lt HR0.out) (fun e => hqR.out e.symm)]; exact HR0.out
  clear hq1 ht1
  have hn1 : Hid (∀ r', l ≠ 116 :: r') := by intro r' e; rw [hlr.out] at e; cases e
  go_wp2_with fail
  refine (take_miss v1 q 116 l hn1.out HQ1.out).mono ?_
  rintro e v2 ⟨rfl, hq1, ht1⟩
  have HQ2 := hid hq1
  have HT2 : Hid (Touch q w v2) := HT1.out.trans ht1
  have HR2 : Hid (v2.heap[R]? = some zT) := by show _ = _; rw [ht1.block R (blk_lt HR1.out) (fun e => hqR.out e.symm)]; exact HR1.out
  clear hq1 ht1
  have hn2 : Hid (∀ r', l ≠ 108 :: r') := by intro r' e; rw [hlr.out] at e; cases e
  go_wp2_with fail
  refine (take_miss v2 q 108 l hn2.out HQ2.out).mono ?_
  rintro e v3 ⟨rfl, hq1, ht1⟩
  have HQ3 := hid hq1
  have HT3 : Hid (Touch q w v3) := HT2.out.trans ht1
  have HR3 : Hid (v3.heap[R]? = some zT) := by show _ = _; rw [ht1.block R (blk_lt HR2.out) (fun e => hqR.out e.symm)]; exact HR2.out
  clear hq1 ht1
  have HQh : Hid (v3.heap[q]? = some (.cells #[str (114 :: r)] 170)) := by have := HQ3.out; rw [hlr.out] at this; exact this
  go_wp2_with fail
  refine (take_hit v3 q 114 r HQh.out).mono ?_
  rintro e v4 ⟨rfl, hq1, ht1⟩
  have HQ4 := hid hq1
  have HT4 : Hid (Touch q w v4) := HT3.out.trans ht1
  have HR4 : Hid (v4.heap[R]? = some zT) := by show _ = _; rw [ht1.block R (blk_lt HR3.out) (fun e => hqR.out e.symm)]; exact HR3.out
  clear hq1 ht1
  have HLr : Hid (r.length + 1 = L) := by show _ = _; rw [HLe.out, hlr.out]; rfl
  have HRs : Hid (res = recP0 f r) := by show _ = _; rw [HRes0.out, hlr.out]; rfl
  have HCA : Hid (Calls Tryz.prog 117 #[pq q, i64 D] v4 (Rok v4 q r.length (recP0 f r))) := by show Calls _ _ _ _ _; rw [HDe.out]; exact record_ok f HRD.out (by omega) v4 q r HQ4.out (by have := HLr.out; omega) (HM.out.touch HT4.out)
  generalize recP0 f r = res1 at *
  go_wp2_with fail
  refine HCA.out.mono ?_
  rintro e w3 ⟨k1, m1, a1, n1, c1, a2, n2, c2, l3, rfl, hq3, hl3, ht3, hf3⟩
  have HQ9 := hid hq3
  have HL9 : Hid (l3.length ≤ L) := by show _ ≤ _; have := HLr.out; omega
  have HT9 : Hid (Touch q w w3) := HT4.out.trans ht3
  have HR9 : Hid (w3.heap[R]? = some zT) := by show _ = _; rw [ht3.block R (blk_lt HR4.out) (fun e => hqR.out e.symm)]; exact HR4.out
  have HF9 := hid hf3
  have HRlo : Hid (R < v4.heap.size) := blk_lt HR4.out
  clear hq3 hl3 ht3 hf3
  have rc0 : w3.cell? ⟨R, 0, none⟩ = some (i64 0) := blk_cell HR9.out 0
  have rf0 : w3.frozen? ⟨R, 0, none⟩ = false := blk_frozen HR9.out 0
  have rc1 : w3.cell? ⟨R, 1, none⟩ = some (i64 0) := blk_cell HR9.out 1
  have rf1 : w3.frozen? ⟨R, 1, none⟩ = false := blk_frozen HR9.out 1
  have rc2 : w3.cell? ⟨R, 2, none⟩ = some (.slice none 0 0) := blk_cell HR9.out 2
  have rf2 : w3.frozen? ⟨R, 2, none⟩ = false := blk_frozen HR9.out 2
  have rc3 : w3.cell? ⟨R, 3, none⟩ = some (.slice none 0 0) := blk_cell HR9.out 3
  have rf3 : w3.frozen? ⟨R, 3, none⟩ = false := blk_frozen HR9.out 3
  go_wp2_with fail
  refine bodyPost_ret (v := .tuple #[tyV k1 m1 (.slice a1 n1 c1) (.slice a2 n2 c2), .bool res1.isSome]) (results_cell Tryz.results101 rfl rfl (load25 (set4 HR9.out _ _ _ _))) rfl ?_
  exact ⟨k1, m1, a1, n1, c1, a2, n2, c2, l3, by rw [HRs.out], set4_ne HQ9.out hqR.out _ _ _ _, HL9.out, HT9.out.set4 HRe.out _ _ _ _, fun T r' h => by
    rw [HRs.out] at h
    obtain ⟨g1, g2, g3, g4⟩ := HF9.out T r' h
    exact ⟨g1, g2, g3, g4.set4 HRlo.out HT4.out.size _ _ _ _⟩⟩
set_option maxRecDepth 100000 in
set_option maxHeartbeats 3200000 in
theorem read_no (f : Nat) (hf : f ≤ 5) (w : World) (q : Nat) (l : Bs) (hq : w.heap[q]? = some (.cells #[str l] 170)) (hl : l.length ≤ 30000000) (hM : Mx w q) (h1 : ∀ r, l ≠ 105 :: r) (h2 : ∀ r, l ≠ 116 :: r) (h3 : ∀ r, l ≠ 108 :: r) (h4 : ∀ r, l ≠ 114 :: r) : Calls Tryz.prog 101 #[pq q, i64 (6 - f)] w (Rok w q l.length (readP (f + 1) l)) := by
  obtain ⟨res, hres⟩ : ∃ res, res = readP (f + 1) l := ⟨_, rfl⟩
  have HRes0 := hid hres
  obtain ⟨L, hL⟩ : ∃ L, L = l.length := ⟨_, rfl⟩
  have HLe := hid hL
  have hL6 : L ≤ 30000000 := by omega
  rw [← hres, ← hL]
  clear hL
  have HM := hid hM
  have hqlt := blk_lt hq
  obtain ⟨D, hD⟩ : ∃ D, D = (6 : Int) - f := ⟨_, rfl⟩
  have HDe := hid hD
  have hD0 : 0 ≤ D := by omega
  have hD2 : D ≤ 6 := by omega
  rw [← hD]
  have HR0 : Hid ((w.alloc zT).heap[w.heap.size]? = some zT) := heap_last w _
  have HQ0 : Hid ((w.alloc zT).heap[q]? = some (.cells #[str l] 170)) := blk_alloc hq _
  have HT0 : Hid (Touch q w (w.alloc zT)) := hid ((Touch.refl q w).alloc _)
  have hqR : Hid (q ≠ w.heap.size) := by show q ≠ _; omega
  clear hres hM hq hD hqlt
  go_enter Tryz.func101, Tryz.ntmps101
  go_upto_region 1 with fail
  obtain ⟨R, hR⟩ : ∃ R, R = w.heap.size := ⟨_, rfl⟩
  rw [← hR] at HR0 hqR ⊢
  have HRe : Hid (w.heap.size ≤ R) := by show _ ≤ _; omega
  clear hR
  generalize w.alloc zT = v0 at *
  have HRes : Hid (res = none) := by show _ = _; rw [HRes0.out]; exact readP_no f l h1 h2 h3 h4
  have hn0 := hid h1
  have hn1 := hid h2
  have hn2 := hid h3
  have hn3 := hid h4
  have HLX : Hid (l.length ≤ L) := by show _ ≤ _; rw [HLe.out]; exact Nat.le_refl _
  clear h1 h2 h3 h4
  go_wp2_with fail
  refine (take_miss v0 q 105 l hn0.out HQ0.out).mono ?_
  rintro e v1 ⟨rfl, hq1, ht1⟩
  have HQ1 := hid hq1
  have HT1 : Hid (Touch q w v1) := HT0.out.trans ht1
  have HR1 : Hid (v1.heap[R]? = some zT) := by show _ = _; rw [ht1.block R (blk_lt HR0.out) (fun e => hqR.out e.symm)]; exact HR0.out
  clear hq1 ht1
  go_wp2_with fail
  refine (take_miss v1 q 116 l hn1.out HQ1.out).mono ?_
  rintro e v2 ⟨rfl, hq1, ht1⟩
  have HQ2 := hid hq1
  have HT2 : Hid (Touch q w v2) := HT1.out.trans ht1
  have HR2 : Hid (v2.heap[R]? = some zT) := by show _ = _; rw [ht1.block R (blk_lt HR1.out) (fun e => hqR.out e.symm)]; exact HR1.out
  clear hq1 ht1
  go_wp2_with fail
  refine (take_miss v2 q 108 l hn2.out HQ2.out).mono ?_
  rintro e v3 ⟨rfl, hq1, ht1⟩
  have HQ3 := hid hq1
  have HT3 : Hid (Touch q w v3) := HT2.out.trans ht1
  have HR3 : Hid (v3.heap[R]? = some zT) := by show _ = _; rw [ht1.block R (blk_lt HR2.out) (fun e => hqR.out e.symm)]; exact HR2.out
  clear hq1 ht1
  go_wp2_with fail
  refine (take_miss v3 q 114 l hn3.out HQ3.out).mono ?_
  rintro e v4 ⟨rfl, hq1, ht1⟩
  have HQ4 := hid hq1
  have HT4 : Hid (Touch q w v4) := HT3.out.trans ht1
  have HR4 : Hid (v4.heap[R]? = some zT) := by show _ = _; rw [ht1.block R (blk_lt HR3.out) (fun e => hqR.out e.symm)]; exact HR3.out
  clear hq1 ht1
  have rc0 : v4.cell? ⟨R, 0, none⟩ = some (i64 0) := blk_cell HR4.out 0
  have rf0 : v4.frozen? ⟨R, 0, none⟩ = false := blk_frozen HR4.out 0
  have rc1 : v4.cell? ⟨R, 1, none⟩ = some (i64 0) := blk_cell HR4.out 1
  have rf1 : v4.frozen? ⟨R, 1, none⟩ = false := blk_frozen HR4.out 1
  have rc2 : v4.cell? ⟨R, 2, none⟩ = some (.slice none 0 0) := blk_cell HR4.out 2
  have rf2 : v4.frozen? ⟨R, 2, none⟩ = false := blk_frozen HR4.out 2
  have rc3 : v4.cell? ⟨R, 3, none⟩ = some (.slice none 0 0) := blk_cell HR4.out 3
  have rf3 : v4.frozen? ⟨R, 3, none⟩ = false := blk_frozen HR4.out 3
  go_wp2_with fail
  refine bodyPost_ret (v := .tuple #[tyV 0 0 (.slice none 0 0) (.slice none 0 0), .bool false]) (results_cell Tryz.results101 rfl rfl (load25 (set4 HR4.out _ _ _ _))) rfl ?_
  exact ⟨0, 0, none, 0, 0, none, 0, 0, _, by rw [HRes.out]; rfl, set4_ne HQ4.out hqR.out _ _ _ _, HLX.out, HT4.out.set4 HRe.out _ _ _ _, fun T r h => by rw [HRes.out] at h; cases h⟩
set_option maxRecDepth 100000 in
set_option maxHeartbeats 3200000 in
theorem read_deep (w : World) (q : Nat) (l : Bs) (hq : w.heap[q]? = some (.cells #[str l] 170)) : Calls Tryz.prog 101 #[pq q, i64 7] w (Rok w q l.length (readP 0 l)) := by
  obtain ⟨res, hres⟩ : ∃ res, res = readP 0 l := ⟨_, rfl⟩
  have HRes : Hid (res = none) := by show _ = _; rw [hres]; rfl
  rw [← hres]
  have hqlt := blk_lt hq
  have HR0 : Hid ((w.alloc zT).heap[w.heap.size]? = some zT) := heap_last w _
  have HQ0 : Hid ((w.alloc zT).heap[q]? = some (.cells #[str l] 170)) := blk_alloc hq _
  have HT0 : Hid (Touch q w (w.alloc zT)) := hid ((Touch.refl q w).alloc _)
  have hqR : Hid (q ≠ w.heap.size) := by show q ≠ _; omega
  have HLX : Hid (l.length ≤ l.length) := Nat.le_refl _
  clear hres hq hqlt
  go_enter Tryz.func101, Tryz.ntmps101
  go_upto_region 1 with fail
  obtain ⟨R, hR⟩ : ∃ R, R = w.heap.size := ⟨_, rfl⟩
  rw [← hR] at HR0 hqR ⊢
  have HRe : Hid (w.heap.size ≤ R) := by show _ ≤ _; omega
  clear hR
  generalize w.alloc zT = v0 at *
  have rc0 : v0.cell? ⟨R, 0, none⟩ = some (i64 0) := blk_cell HR0.out 0
  have rf0 : v0.frozen? ⟨R, 0, none⟩ = false := blk_frozen HR0.out 0
  have rc1 : v0.cell? ⟨R, 1, none⟩ = some (i64 0) := blk_cell HR0.out 1
  have rf1 : v0.frozen? ⟨R, 1, none⟩ = false := blk_frozen HR0.out 1
  have rc2 : v0.cell? ⟨R, 2, none⟩ = some (.slice none 0 0) := blk_cell HR0.out 2
  have rf2 : v0.frozen? ⟨R, 2, none⟩ = false := blk_frozen HR0.out 2
  have rc3 : v0.cell? ⟨R, 3, none⟩ = some (.slice none 0 0) := blk_cell HR0.out 3
  have rf3 : v0.frozen? ⟨R, 3, none⟩ = false := blk_frozen HR0.out 3
  go_wp2_with fail
  refine bodyPost_ret (v := .tuple #[tyV 0 0 (.slice none 0 0) (.slice none 0 0), .bool false]) (results_cell Tryz.results101 rfl rfl (load25 (set4 HR0.out _ _ _ _))) rfl ?_
  exact ⟨0, 0, none, 0, 0, none, 0, 0, _, by rw [HRes.out]; rfl, set4_ne HQ0.out hqR.out _ _ _ _, HLX.out, HT0.out.set4 HRe.out _ _ _ _, fun T r h => by rw [HRes.out] at h; cases h⟩
theorem read_ok : ∀ (f : Nat), f ≤ 6 → ∀ (w : World) (q : Nat) (l : Bs), w.heap[q]? = some (.cells #[str l] 170) → l.length ≤ 30000000 → Mx w q → Calls Tryz.prog 101 #[pq q, i64 (7 - f)] w (Rok w q l.length (readP f l))
  | 0, _, w, q, l, hq, _, _ => by
    have := read_deep w q l hq
    simpa using this
  | f + 1, hf, w, q, l, hq, hl, hM => by
    have e : (7 : Int) - ((f + 1 : Nat) : Int) = 6 - f := by omega
    rw [e]
    have ih := read_ok f (by omega)
    by_cases h1 : ∃ r, l = 105 :: r
    · obtain ⟨r, h⟩ := h1; exact read_i f (by omega) w q l hq hl hM r h
    by_cases h2 : ∃ r, l = 116 :: r
    · obtain ⟨r, h⟩ := h2; exact read_t f (by omega) w q l hq hl hM r h
    by_cases h3 : ∃ r, l = 108 :: r
    · obtain ⟨r, h⟩ := h3; exact read_l f ih (by omega) w q l hq hl hM r h
    by_cases h4 : ∃ r, l = 114 :: r
    · obtain ⟨r, h⟩ := h4; exact read_r f ih (by omega) w q l hq hl hM r h
    exact read_no f (by omega) w q l hq hl hM (fun r e => h1 ⟨r, e⟩) (fun r e => h2 ⟨r, e⟩) (fun r e => h3 ⟨r, e⟩) (fun r e => h4 ⟨r, e⟩)
end Go.Proofs.YtjppcfjjpkniaaaGreatDoor
namespace Go.Proofs.YtjppcfjjpkniaaaGreatDoor
open Go.ChangeShapes Go.WideShapes Go.ChangeAt Go.RowKit Go.Deep
attribute [local go_sem ↓] Go.wp_at_zero Go.wp_at_succ

set_option maxRecDepth 100000 in
set_option maxHeartbeats 3200000 in
theorem print_ok (T : Ty) (w : World) (S : Nat → Prop) (nv kv : Value) (hP : Pw w) (hR : Rd w S T nv kv) : Calls Tryz.prog 70 #[tyV T.kind T.num nv kv] w fun e w' => e = .returned (.tuple #[str (if T.err = 0 then T.txt else []), i64 T.err]) ∧ Below w.heap.size w w' := by
  have HP := hid hP
  clear hP
  obtain ⟨PT, hPT⟩ : ∃ PT, PT = if T.err = 0 then T.txt else [] := ⟨_, rfl⟩
  obtain ⟨E, hE⟩ : ∃ E, E = T.err := ⟨_, rfl⟩
  have HE := hid hE
  rw [← hPT, ← hE]
  rw [← hE] at hPT
  have HPT := hid hPT
  clear hPT hE
  have HRd := hid hR
  obtain ⟨an, cn, rfl, ak, ck, rfl⟩ := hR.form
  have HX : Hid ((w.alloc (.cells #[i64 T.kind, i64 T.num, .slice an T.names.length cn, .slice ak T.kids.length ck] 49)).heap[w.heap.size]? = some (.cells #[i64 T.kind, i64 T.num, .slice an T.names.length cn, .slice ak T.kids.length ck] 49)) := heap_last w _
  have HBV : Hid (Below w.heap.size w (w.alloc (.cells #[i64 T.kind, i64 T.num, .slice an T.names.length cn, .slice ak T.kids.length ck] 49))) := below_one w _
  clear hR
  go_enter Tryz.func70, Tryz.ntmps70
  go_upto_region 1 with fail
  obtain ⟨Z, hZ⟩ : ∃ Z, Z = w.heap.size := ⟨_, rfl⟩
  rw [← hZ] at HX ⊢
  generalize w.alloc (.cells #[i64 T.kind, i64 T.num, .slice an T.names.length cn, .slice ak T.kids.length ck] 49) = V at *
  have HZ := hid hZ
  clear hZ
  have yc0 : V.cell? ⟨Z, 0, none⟩ = some (i64 T.kind) := blk_cell HX.out 0
  have yc1 : V.cell? ⟨Z, 1, none⟩ = some (i64 T.num) := blk_cell HX.out 1
  have yc2 : V.cell? ⟨Z, 2, none⟩ = some (.slice an T.names.length cn) := blk_cell HX.out 2
  have yc3 : V.cell? ⟨Z, 3, none⟩ = some (.slice ak T.kids.length ck) := blk_cell HX.out 3
  have HCK : Hid (Calls Tryz.prog 92 #[tyV T.kind T.num (.slice an T.names.length cn) (.slice ak T.kids.length ck)] V fun e w' => e = .returned (i64 E) ∧ Below V.heap.size V w') := by show Calls _ _ _ _ _; rw [HE.out]; exact check_ok T V S _ _ (HRd.out.under (HZ.out ▸ HBV.out))
  have HTX : Hid (E = 0 → ∀ W, Below w.heap.size w W → Calls Tryz.prog 93 #[tyV T.kind T.num (.slice an T.names.length cn) (.slice ak T.kids.length ck)] W fun e w' => e = .returned (str T.txt) ∧ Below W.heap.size W w') := fun h W hW => by
    have hr := (right_err T).2 (HE.out ▸ h)
    have hc : T.count ≤ 100 := by unfold Ty.right at hr; simp only [Bool.and_eq_true, decide_eq_true_eq] at hr; exact hr.1.2
    exact textOf_ok T.count T (Nat.le_refl _) (by omega) (right_formed hr).1 W S _ _ (HP.out.below hW) (HRd.out.under hW)
  clear HE
  go_wp2_with fail
  refine HCK.out.mono ?_
  rintro e w1 ⟨rfl, hb1⟩
  have HB1 : Hid (Below w.heap.size w w1) := HBV.out.trans (hb1.mono HBV.out.size)
  have HX1 := hid (blk_below HX.out hb1)
  clear hb1 yc0 yc1 yc2 yc3
  have yc0 : w1.cell? ⟨Z, 0, none⟩ = some (i64 T.kind) := blk_cell HX1.out 0
  have yc1 : w1.cell? ⟨Z, 1, none⟩ = some (i64 T.num) := blk_cell HX1.out 1
  have yc2 : w1.cell? ⟨Z, 2, none⟩ = some (.slice an T.names.length cn) := blk_cell HX1.out 2
  have yc3 : w1.cell? ⟨Z, 3, none⟩ = some (.slice ak T.kids.length ck) := blk_cell HX1.out 3
  by_cases h0 : E = 0
  · subst h0
    have HPT2 : Hid (PT = T.txt) := by show _ = _; rw [HPT.out, if_pos rfl]
    clear HPT
    have HCA := hid (HTX.out rfl w1 HB1.out)
    go_wp2_with fail
    refine HCA.out.mono ?_
    rintro e w2 ⟨rfl, hb2⟩
    have HB2 : Hid (Below w.heap.size w w2) := HB1.out.trans (hb2.mono HB1.out.size)
    clear hb2
    go_wp2_with fail
    go_ret2
    exact ⟨by rw [HPT2.out]; rfl, HB2.out⟩
  · have hne : (E != 0) = true := by simpa using h0
    have HPT2 : Hid (PT = []) := by show _ = _; rw [HPT.out, if_neg h0]
    clear h0
    go_wp2_with fail
    go_ret2
    exact ⟨by rw [HPT2.out]; rfl, HB1.out⟩
/-- Where a field stands. -/
def fieldF (T : Ty) (x : Bs) : Int := if T.kind = 4 then Lib.idxOfS (T.names.map ba) (ba x) else -1
theorem index_ok (l : List Bs) (x : Bs) (w : World) (S : Nat → Prop) (v : Value) (h : Strs w S v l) : Calls Tryz.prog 143 #[v, str x] w fun e w' => e = .returned (i64 (Lib.idxOfS (l.map ba) (ba x))) ∧ w' = w := by
  have hl : l.length ≤ maxLen := by obtain ⟨_, _, _, h, _, _⟩ := h; exact h
  unfold maxLen at hl
  obtain ⟨ao, cap, rfl, _, hc⟩ := h.cells
  rcases hc with rfl | ⟨b, off, rfl, _, hcs⟩
  · exact Tryz.slices_Index_string_empty ao cap (ba x) w
  · have := Tryz.slices_Index_string b off l.length cap (l.map ba) (ba x) w (by simp) (by omega) (bas_cells hcs)
    rw [List.take_of_length_le (by simp)] at this
    exact this
abbrev T0 : Ty := .mk 0 0 [] []
theorem bel4 {w W : World} (h : Below w.heap.size w W) {R : Nat} (hR : w.heap.size ≤ R) (a0 a1 a2 a3 : Value) : Below w.heap.size w ((((W.setCell ⟨R, 0, none⟩ a0).setCell ⟨R, 1, none⟩ a1).setCell ⟨R, 2, none⟩ a2).setCell ⟨R, 3, none⟩ a3) :=
  (((h.setCell (p := ⟨R, 0, none⟩) hR a0).setCell (p := ⟨R, 1, none⟩) hR a1).setCell (p := ⟨R, 2, none⟩) hR a2).setCell (p := ⟨R, 3, none⟩) hR a3
/-- What Parse answers. -/
def parT (l : Bs) : Ty := (parseF l).getD T0
def parE (l : Bs) : Int := if (parseF l).isSome = true then 0 else 4
def ParOk (w : World) (l : Bs) (e : Ending) (w' : World) : Prop :=
  ∃ (a1 : Option Addr) (n1 c1 : Nat) (a2 : Option Addr) (n2 c2 : Nat), e = .returned (.tuple #[tyV (parT l).kind (parT l).num (.slice a1 n1 c1) (.slice a2 n2 c2), i64 (parE l)]) ∧ Below w.heap.size w w' ∧ Rd w' (fun b => w.heap.size ≤ b) (parT l) (.slice a1 n1 c1) (.slice a2 n2 c2)
theorem parse_4 {l : Bs} (h : parseF l = none) : parT l = T0 ∧ parE l = 4 := by unfold parT parE; rw [h]; exact ⟨rfl, rfl⟩
theorem parse_0 {l : Bs} {T : Ty} (h : parseF l = some T) : parT l = T ∧ parE l = 0 := by unfold parT parE; rw [h]; exact ⟨rfl, rfl⟩
theorem parse_no {l : Bs} (h : readP 6 l = none) : parseF l = none := by unfold parseF; rw [h]
theorem parse_more {l : Bs} {T : Ty} {r : Bs} (h : readP 6 l = some (T, r)) (hr : r ≠ []) : parseF l = none := by
  unfold parseF
  rw [h]
  cases r with
  | nil => exact absurd rfl hr
  | cons => rfl
theorem parse_bad {l : Bs} {T : Ty} (h : readP 6 l = some (T, [])) (hr : T.err ≠ 0) : parseF l = none := by
  unfold parseF
  rw [h]
  exact if_neg (fun e => hr ((right_err T).1 e))
theorem parse_good {l : Bs} {T : Ty} (h : readP 6 l = some (T, [])) (hr : T.err = 0) : parseF l = some T := by
  unfold parseF
  rw [h]
  exact if_pos ((right_err T).2 hr)
/-- What Cut asks of the world. -/
def Ml (w : World) : Prop := ∃ m, w.cell? ⟨1, 0, none⟩ = some (i64 m)
theorem Ml.below {w w' : World} (h : Ml w) (hb : Below w.heap.size w w') : Ml w' := by
  obtain ⟨m, hm⟩ := h
  exact ⟨m, by rw [hb.cell (World.block_lt_of_cell? w _ hm)]; exact hm⟩
set_option maxRecDepth 100000 in
set_option maxHeartbeats 6400000 in
theorem parse_ok (l : Bs) (w : World) (hl : l.length ≤ 30000000) (hM : Ml w) : Calls Tryz.prog 82 #[str l] w (ParOk w l) := by
  have h1lt : 1 < w.heap.size := by obtain ⟨m, hm⟩ := hM; exact World.block_lt_of_cell? w _ hm
  have HM := hid hM
  have HR0 : Hid ((w.alloc zT).heap[w.heap.size]? = some zT) := heap_last w _
  have HB0 : Hid (Below w.heap.size w (w.alloc zT)) := below_one w _
  clear hM
  go_enter Tryz.func82, Tryz.ntmps82
  go_upto_region 1 with fail
  obtain ⟨R, hR⟩ : ∃ R, R = w.heap.size := ⟨_, rfl⟩
  rw [← hR] at HR0 ⊢
  have HRe : Hid (w.heap.size ≤ R) := by show _ ≤ _; omega
  clear hR
  generalize w.alloc zT = V at *
  have HQ0 : Hid ((V.alloc (.cells #[str l] 170)).heap[V.heap.size]? = some (.cells #[str l] 170)) := heap_last V _
  have HR1 : Hid ((V.alloc (.cells #[str l] 170)).heap[R]? = some zT) := blk_alloc HR0.out _
  have HB1 : Hid (Below w.heap.size w (V.alloc (.cells #[str l] 170))) := HB0.out.trans ((below_one V _).mono HB0.out.size)
  have HRV := hid (blk_lt HR0.out)
  go_upto_region 2 with fail
  obtain ⟨q, hq⟩ : ∃ q, q = V.heap.size := ⟨_, rfl⟩
  rw [← hq] at HQ0 HRV ⊢
  have HQe : Hid (w.heap.size ≤ q) := by show _ ≤ _; have := HB0.out.size; omega
  clear hq
  have HRq : Hid (R ≠ q) := by show R ≠ q; have := HRV.out; omega
  generalize V.alloc (.cells #[str l] 170) = U at *
  have HMx : Hid (Mx U q) := ⟨by have := HQe.out; omega, HM.out.below HB1.out⟩
  have HCA : Hid (Calls Tryz.prog 101 #[pq q, i64 1] U (Rok U q l.length (readP 6 l))) := by
    have h7 := read_ok 6 (by omega) U q l HQ0.out hl HMx.out
    have e7 : (7 : Int) - ((6 : Nat) : Int) = 1 := by decide
    rw [e7] at h7
    exact h7
  generalize hres : readP 6 l = res at *
  have HRes := hid hres
  clear hres
  go_wp2_with fail
  refine HCA.out.mono ?_
  rintro e w3 ⟨k1, m1, a1, n1, c1, a2, n2, c2, l3, rfl, hq3, hl3, ht3, hf3⟩
  have HQ3 := hid hq3
  have HR3 : Hid (w3.heap[R]? = some zT) := by show _ = _; rw [ht3.block R (blk_lt HR1.out) HRq.out]; exact HR1.out
  have HB3 : Hid (Below w.heap.size w w3) := HB1.out.trans (ht3.below HQe.out HB1.out.size)
  have HF3 : Hid (∀ T r, res = some (T, r) → l3 = r ∧ k1 = T.kind ∧ m1 = T.num ∧ Rd w3 (fun b => U.heap.size ≤ b) T (.slice a1 n1 c1) (.slice a2 n2 c2)) := hf3
  have HBK : Hid (Below w3.heap.size w3 (w3.alloc (.cells #[i64 k1, i64 m1, .slice a1 n1 c1, .slice a2 n2 c2] 49))) := below_one w3 _
  have HKX : Hid ((w3.alloc (.cells #[i64 k1, i64 m1, .slice a1 n1 c1, .slice a2 n2 c2] 49)).heap[w3.heap.size]? = some (.cells #[i64 k1, i64 m1, .slice a1 n1 c1, .slice a2 n2 c2] 49)) := heap_last w3 _
  have HRU := hid (blk_lt HR1.out)
  clear hq3 hl3 ht3 hf3 HCA
  go_upto_region 3 with fail
  obtain ⟨Kb, hKb⟩ : ∃ Kb, Kb = w3.heap.size := ⟨_, rfl⟩
  have HKR : Hid (Kb ≠ R) := by show Kb ≠ R; have := blk_lt HR3.out; omega
  rw [← hKb] at HKX ⊢
  clear hKb
  have HRX : Hid ((w3.alloc (.cells #[i64 k1, i64 m1, .slice a1 n1 c1, .slice a2 n2 c2] 49)).heap[R]? = some zT) := blk_below HR3.out HBK.out
  have HQX : Hid ((w3.alloc (.cells #[i64 k1, i64 m1, .slice a1 n1 c1, .slice a2 n2 c2] 49)).heap[q]? = some (.cells #[str l3] 170)) := blk_below HQ3.out HBK.out
  have HBX : Hid (Below w.heap.size w (w3.alloc (.cells #[i64 k1, i64 m1, .slice a1 n1 c1, .slice a2 n2 c2] 49))) := HB3.out.trans (HBK.out.mono HB3.out.size)
  have HFX : Hid (∀ T r, res = some (T, r) → l3 = r ∧ k1 = T.kind ∧ m1 = T.num ∧ Rd (w3.alloc (.cells #[i64 k1, i64 m1, .slice a1 n1 c1, .slice a2 n2 c2] 49)) (fun b => U.heap.size ≤ b) T (.slice a1 n1 c1) (.slice a2 n2 c2)) := fun T r h => by
    obtain ⟨g1, g2, g3, g4⟩ := HF3.out T r h
    exact ⟨g1, g2, g3, g4.under HBK.out⟩
  clear HF3 HBK
  generalize w3.alloc (.cells #[i64 k1, i64 m1, .slice a1 n1 c1, .slice a2 n2 c2] 49) = X at *
  have rc0 : X.cell? ⟨R, 0, none⟩ = some (i64 0) := blk_cell HRX.out 0
  have rf0 : X.frozen? ⟨R, 0, none⟩ = false := blk_frozen HRX.out 0
  have rc1 : X.cell? ⟨R, 1, none⟩ = some (i64 0) := blk_cell HRX.out 1
  have rf1 : X.frozen? ⟨R, 1, none⟩ = false := blk_frozen HRX.out 1
  have rc2 : X.cell? ⟨R, 2, none⟩ = some (.slice none 0 0) := blk_cell HRX.out 2
  have rf2 : X.frozen? ⟨R, 2, none⟩ = false := blk_frozen HRX.out 2
  have rc3 : X.cell? ⟨R, 3, none⟩ = some (.slice none 0 0) := blk_cell HRX.out 3
  have rf3 : X.frozen? ⟨R, 3, none⟩ = false := blk_frozen HRX.out 3
  have kc0 : X.cell? ⟨Kb, 0, none⟩ = some (i64 k1) := blk_cell HKX.out 0
  have kc1 : X.cell? ⟨Kb, 1, none⟩ = some (i64 m1) := blk_cell HKX.out 1
  have kc2 : X.cell? ⟨Kb, 2, none⟩ = some (.slice a1 n1 c1) := blk_cell HKX.out 2
  have kc3 : X.cell? ⟨Kb, 3, none⟩ = some (.slice a2 n2 c2) := blk_cell HKX.out 3
  have hqc : X.cell? ⟨q, 0, none⟩ = some (str l3) := blk_cell HQX.out 0
  cases res with
  | none =>
    have H4 := hid (parse_4 (parse_no HRes.out))
    go_wp2_with fail
    refine bodyPost_ret (v := .tuple #[tyV 0 0 (.slice none 0 0) (.slice none 0 0), i64 4]) (results_cell Tryz.results82 rfl rfl (load25 (set4 HRX.out _ _ _ _))) rfl ?_
    refine ⟨none, 0, 0, none, 0, 0, ?_, (bel4 HBX.out HRe.out _ _ _ _), ?_⟩
    · rw [H4.out.1, H4.out.2]; rfl
    · rw [H4.out.1]; exact Rd.leaf _ _ _ _
  | some x =>
    obtain ⟨T, rr⟩ := x
    obtain ⟨g1, g2, g3, g4⟩ := HFX.out T rr rfl
    subst g1
    subst g2 g3
    have HRT := hid g4
    clear g4
    by_cases hl3 : l3 = []
    · subst hl3
      have HCK := hid (check_ok T X _ _ _ HRT.out)
      have HG := hid (parse_good HRes.out)
      have HBd := hid (parse_bad HRes.out)
      generalize hE : T.err = E at *
      clear hE
      go_wp2_with fail
      refine HCK.out.mono ?_
      rintro e w5 ⟨rfl, hb5⟩
      have HB5 : Hid (Below w.heap.size w w5) := HBX.out.trans (hb5.mono HBX.out.size)
      have HR5 : Hid (w5.heap[R]? = some zT) := blk_below HRX.out hb5
      have HK5 := hid (blk_below HKX.out hb5)
      have HT5 := hid (HRT.out.under hb5)
      clear hb5 rc0 rc1 rc2 rc3 rf0 rf1 rf2 rf3 kc0 kc1 kc2 kc3 hqc
      have rc0 : w5.cell? ⟨R, 0, none⟩ = some (i64 0) := blk_cell HR5.out 0
      have rf0 : w5.frozen? ⟨R, 0, none⟩ = false := blk_frozen HR5.out 0
      have rc1 : w5.cell? ⟨R, 1, none⟩ = some (i64 0) := blk_cell HR5.out 1
      have rf1 : w5.frozen? ⟨R, 1, none⟩ = false := blk_frozen HR5.out 1
      have rc2 : w5.cell? ⟨R, 2, none⟩ = some (.slice none 0 0) := blk_cell HR5.out 2
      have rf2 : w5.frozen? ⟨R, 2, none⟩ = false := blk_frozen HR5.out 2
      have rc3 : w5.cell? ⟨R, 3, none⟩ = some (.slice none 0 0) := blk_cell HR5.out 3
      have rf3 : w5.frozen? ⟨R, 3, none⟩ = false := blk_frozen HR5.out 3
      have kc0 : w5.cell? ⟨Kb, 0, none⟩ = some (i64 T.kind) := blk_cell HK5.out 0
      have kc1 : w5.cell? ⟨Kb, 1, none⟩ = some (i64 T.num) := blk_cell HK5.out 1
      have kc2 : w5.cell? ⟨Kb, 2, none⟩ = some (.slice a1 n1 c1) := blk_cell HK5.out 2
      have kc3 : w5.cell? ⟨Kb, 3, none⟩ = some (.slice a2 n2 c2) := blk_cell HK5.out 3
      by_cases h0 : E = 0
      · subst h0
        have H0 := hid (parse_0 (HG.out rfl))
        go_wp2_with fail
        refine bodyPost_ret (v := .tuple #[tyV T.kind T.num (.slice a1 n1 c1) (.slice a2 n2 c2), i64 0]) (results_cell Tryz.results82 rfl rfl (load25 (set4 HR5.out _ _ _ _))) rfl ?_
        refine ⟨a1, n1, c1, a2, n2, c2, ?_, (bel4 HB5.out HRe.out _ _ _ _), ?_⟩
        · rw [H0.out.1, H0.out.2]
        · rw [H0.out.1]; exact HT5.out.set4 HRU.out HB1.out.size _ _ _ _
      · have hne : (E != 0) = true := by simpa using h0
        have H4 := hid (parse_4 (HBd.out h0))
        clear h0
        go_wp2_with fail
        refine bodyPost_ret (v := .tuple #[tyV 0 0 (.slice none 0 0) (.slice none 0 0), i64 4]) (results_cell Tryz.results82 rfl rfl (load25 (set4 HR5.out _ _ _ _))) rfl ?_
        refine ⟨none, 0, 0, none, 0, 0, ?_, (bel4 HB5.out HRe.out _ _ _ _), ?_⟩
        · rw [H4.out.1, H4.out.2]; rfl
        · rw [H4.out.1]; exact Rd.leaf _ _ _ _
    · have H4 := hid (parse_4 (parse_more HRes.out hl3))
      have hne : (l3 != []) = true := by simpa using hl3
      have hne2 : (l3 == []) = false := by simpa using hl3
      have hl3H := hid hl3
      clear hl3
      go_wp2_with fail
      refine bodyPost_ret (v := .tuple #[tyV 0 0 (.slice none 0 0) (.slice none 0 0), i64 4]) (results_cell Tryz.results82 rfl rfl (load25 (set4 HRX.out _ _ _ _))) rfl ?_
      refine ⟨none, 0, 0, none, 0, 0, ?_, (bel4 HBX.out HRe.out _ _ _ _), ?_⟩
      · rw [H4.out.1, H4.out.2]; rfl
      · rw [H4.out.1]; exact Rd.leaf _ _ _ _
end Go.Proofs.YtjppcfjjpkniaaaGreatDoor
