/- No statement here. -/
import Derived.ChangeKeysEq
import Derived.Test.YtnknhencobhjdaaMQtFit
set_option maxRecDepth 100000
namespace Go.Proofs.Ytnknhencobhjdaa.Qt
open Go.ChangeShapes Go.WideShapes Go.ChangeAt Go.RowKit Go.Deep
theorem info22x : (Try.prog.info? 22).map (fun i => (i.zero, i.size, i.bytes)) = some (some (.agg #[i64 0, i64 0, i64 0]), 3, 24) := by kernel_rfl
theorem under61 : Try.prog.underlying 138 = some (.slice 22) := by kernel_rfl
def tcells : List T → List Value
  | [] => []
  | u :: r => i64 u.a :: i64 u.b :: i64 u.c :: tcells r
theorem tcells_app : ∀ a b : List T, tcells (a ++ b) = tcells a ++ tcells b
  | [], b => rfl
  | u :: r, b => by simp [tcells, tcells_app r b]
theorem tcells_get : ∀ (ts : List T) (i : Nat) (x : T), ts[i]? = some x → (tcells ts)[i * 3]? = some (i64 x.a) ∧ (tcells ts)[i * 3 + 1]? = some (i64 x.b) ∧ (tcells ts)[i * 3 + 2]? = some (i64 x.c)
  | [], i, x, h => by simp at h
  | u :: r, 0, x, h => by
    simp at h
    subst h
    exact ⟨rfl, rfl, rfl⟩
  | u :: r, i + 1, x, h => by
    have := tcells_get r i x (by simpa using h)
    rw [show (i + 1) * 3 = i * 3 + 1 + 1 + 1 by omega]
    simpa [tcells] using this
def told (s : St) (f : Pge → T) : Nat → List T
  | 0 => []
  | k + 1 => told s f k ++ (match s k with | none => [] | some x => [f x])
theorem own_tsl {w : World} {base : Nat} {v : Value} {ts : List T} (h : w.ownsRow base 22 3 v ts.length (tcells ts)) : ∃ ao cap, v = .slice ao ts.length cap ∧ TSl w ao ts := by
  rcases h.2 with ⟨rfl, h0⟩ | ⟨g, cap, cur, rfl, hb, hg, _⟩
  · exact ⟨none, 0, by rw [h0], Or.inl (List.eq_nil_of_length_eq_zero h0)⟩
  · refine ⟨_, cap, rfl, Or.inr ⟨g, rfl, blk_lt hg, fun i x hx => ?_⟩⟩
    have hi : i < ts.length := (List.getElem?_eq_some_iff.1 hx).1
    rw [h.cellAt _ (by omega), h.cellAt _ (by omega), h.cellAt _ (by omega)]
    exact tcells_get ts i x hx
theorem pidx0 (x y z : Value) (w : World) : (Instr.index 116 (.agg #[x, y, z]) (.int .i64 0)).run Try.prog w = .ok x w := by kernel_rfl
theorem pidx1 (x y z : Value) (w : World) : (Instr.index 116 (.agg #[x, y, z]) (.int .i64 1)).run Try.prog w = .ok y w := by kernel_rfl
theorem pidx2 (x y z : Value) (w : World) : (Instr.index 116 (.agg #[x, y, z]) (.int .i64 2)).run Try.prog w = .ok z w := by kernel_rfl
theorem told_le (s : St) (f : Pge → T) : ∀ k, (told s f k).length ≤ k
  | 0 => Nat.le_refl _
  | k + 1 => by
    have := told_le s f k
    unfold told
    rw [List.length_append]
    cases s k <;> simp <;> omega
theorem own_below {w w' : World} {base : Nat} {e : TypeId} {size : Nat} {v : Value} {n : Nat} {xs : List Value} (h : w.ownsRow base e size v n xs) (hb : Below w.heap.size w w') : w'.ownsRow base e size v n xs := by
  refine ⟨h.1, ?_⟩
  rcases h.2 with hn | ⟨g, cap, cur, rfl, hbg, hgg, rest⟩
  · exact .inl hn
  · exact .inr ⟨g, cap, cur, rfl, hbg, bkb hgg hb, rest⟩
theorem tcells_one : ∀ ts : List T, ∀ v ∈ tcells ts, v.oneCell' = true
  | [], v, h => by cases h
  | u :: r, v, h => by
    simp only [tcells, List.mem_cons] at h
    rcases h with rfl | rfl | rfl | h
    · rfl
    · rfl
    · rfl
    · exact tcells_one r v h
theorem new_tri (w : World) (x : T) : ∀ j u, (tcells [x])[j]? = some u → (w.alloc (triO x)).cell? ((⟨w.heap.size, 0, none⟩ : Addr).add j) = some u :=
  fun j u hu => World.news_of_block (hlx w (triO x)) j u hu
theorem below_grown {B : Nat} {w w' : World} {row : Option Nat} (h : w.grownBy w' row) (hB : B ≤ w.heap.size) (hr : ∀ g, row = some g → B ≤ g) : Below B w w' :=
  ⟨h.os, h.tape, h.output, h.size, fun k hk => h.block k (by omega) (fun e => by have := hr k e.symm; omega)⟩
theorem block_old {B : Nat} {w w' : World} (h : Below B w w') {b : Nat} (hb : b < B) : w'.heap[b]? = w.heap[b]? := h.block b hb
theorem c30_ok (w : World) (x : Pge) (hp : w.heap[x.p]? = some (pgO x.q x.h)) :
    Calls Try.prog 78 #[.pointer (some ⟨x.p, 0, none⟩)] w fun e w' => e = .returned x.q.v ∧ Below w.heap.size w w' := by
  have HB : Hid (∀ o, Below w.heap.size w (w.alloc o)) := fun o => (Below.refl _ _).alloc (Nat.le_refl _) o
  have hpl := blk_lt hp
  have d0 : w.cell? ⟨x.p, 0, none⟩ = some (i64 x.q.a) := bkc hp 0
  have d1 : w.cell? ⟨x.p, 1, none⟩ = some (i64 x.q.b) := bkc hp 1
  have d2 : w.cell? ⟨x.p, 2, none⟩ = some (i64 x.q.c) := bkc hp 2
  clear hp
  go_enter Try.func78, Try.ntmps78
  go_wp2_with fail
  refine bodyPost_ret (v := x.q.v) (by simp [results, Try.results78, go_sem]) rfl ⟨rfl, ?_⟩
  exact HB.out _
set_option maxHeartbeats 2000000 in
theorem all30_ok {w : World} {base b : Nat} {t : T} {s : St} (h : Bk w base b t s) :
    Calls Try.prog 75 #[.pointer (some ⟨b, 0, none⟩), .func (.func 78) #[] #[]] w fun e w' => ∃ v, e = .returned v ∧ w'.ownsRow w.heap.size 22 3 v (told s (·.q) 3).length (tcells (told s (·.q) 3)) ∧ Below w.heap.size w w' := by
  obtain ⟨i22, hi, hz, hs, hby⟩ := info_parts info22x
  have HI : Hid (Try.prog.info? 22 = some i22) := hi
  have HK : Hid (Bk w base b t s) := h
  have hbk := h.book
  have b0 : w.cell? ⟨b, 3, none⟩ = some (ptr (s 0)) := bkc hbk 3
  have b1 : w.cell? ⟨b, 4, none⟩ = some (ptr (s 1)) := bkc hbk 4
  have b2 : w.cell? ⟨b, 5, none⟩ = some (ptr (s 2)) := bkc hbk 5
  obtain ⟨P0, hP0⟩ : ∃ P, ptr (s 0) = P := ⟨_, rfl⟩
  obtain ⟨P1, hP1⟩ : ∃ P, ptr (s 1) = P := ⟨_, rfl⟩
  obtain ⟨P2, hP2⟩ : ∃ P, ptr (s 2) = P := ⟨_, rfl⟩
  rw [hP0] at b0
  rw [hP1] at b1
  rw [hP2] at b2
  have HP0 : Hid (ptr (s 0) = P0) := hP0
  have HP1 : Hid (ptr (s 1) = P1) := hP1
  have HP2 : Hid (ptr (s 2) = P2) := hP2
  clear hP0 hP1 hP2
  clear h hi hbk
  go_enter Try.func75, Try.ntmps75
  go_wp2_with fail
  go_loopw [5, 12] (fun v i wr => ∃ k : Nat, k ≤ 3 ∧ i = i64 k ∧ wr.ownsRow w.heap.size 22 3 v (told s (·.q) k).length (tcells (told s (·.q) k)) ∧ Below w.heap.size w wr) (fun _ i _ => 3 - (intOf i).toNat)
  case atStart => exact ⟨0, by omega, rfl, World.ownsRow_nil _ _ _ _, Below.refl _ _⟩
  case round =>
    obtain ⟨k, hk, rfl, how, hbw⟩ := hrel
    have HO : Hid (wr.ownsRow w.heap.size 22 3 u5 (told s (·.q) k).length (tcells (told s (·.q) k))) := how
    have HB : Hid (Below w.heap.size w wr) := hbw
    clear how hbw
    obtain rfl | rfl | rfl | rfl : k = 0 ∨ k = 1 ∨ k = 2 ∨ k = 3 := by omega
    · cases hx : s 0 with
      | none =>
        have ix : ∀ w, (Instr.index 116 (.agg #[P0, P1, P2]) (.int .i64 0)).run Try.prog w = .ok (.pointer none) w := fun w => (pidx0 P0 P1 P2 w).trans (by rw [← HP0.out, hx]; rfl)
        have HT : Hid (told s (·.q) 1 = told s (·.q) 0) := by show _ = _; simp [told, hx]
        clear hx
        go_wp2_with fail
        exact ⟨⟨1, by omega, by go_num, by rw [HT.out]; exact HO.out, HB.out⟩, by simp [intOf]⟩
      | some x =>
        have ix : ∀ w, (Instr.index 116 (.agg #[P0, P1, P2]) (.int .i64 0)).run Try.prog w = .ok (.pointer (some ⟨x.p, 0, none⟩)) w := fun w => (pidx0 P0 P1 P2 w).trans (by rw [← HP0.out, hx]; rfl)
        have HT : Hid (told s (·.q) 1 = told s (·.q) 0 ++ [x.q]) := by show _ = _; simp [told, hx]
        have HX : Hid (s 0 = some x) := hx
        have HL : Hid ((told s (·.q) 0).length ≤ 0) := told_le s _ 0
        clear hx
        go_wp2_with fail
        refine (c30_ok wr x (by rw [block_old HB.out (blk_lt (HK.out.page 0 x HX.out).1)]; exact (HK.out.page 0 x HX.out).1)).mono ?_
        rintro e w2 ⟨rfl, hb2⟩
        have HB2 : Hid (Below w.heap.size w w2) := HB.out.trans (hb2.mono HB.out.size)
        have HO2 : Hid (w2.ownsRow w.heap.size 22 3 u5 (told s (·.q) 0).length (tcells (told s (·.q) 0))) := own_below HO.out hb2
        clear hb2
        go_wp2_with (at_builtin; refine wpList_append_own _ rfl (.tmp 17) (.tmp 21) 138 rfl w.heap.size 22 i22 (.agg #[i64 0, i64 0, i64 0]) 3 24 under61 HI.out hz hs hby rfl (by omega) u5 _ _ rfl (HO2.out.alloc _) ⟨_, 0, none⟩ 1 1 (tcells [x.q]) rfl rfl (new_tri _ _) (tcells_one _) (by have := HL.out; unfold maxLen; omega) (by have := HL.out; omega) (by have := HB2.out.size; simp; omega) ?_; intro v' w3 ho3 hg3 _; have HB3 : Hid (Below w.heap.size w w3) := (HB2.out.alloc HB2.out.size _).trans (below_grown hg3 (by have := HB2.out.size; simp; omega) (fun g hg => (HO2.out.lt g hg).1)); have HO3 : Hid (w3.ownsRow w.heap.size 22 3 v' ((told s (·.q) 0).length + 1) (tcells (told s (·.q) 0) ++ tcells [x.q])) := ho3; clear ho3 hg3)
        exact ⟨⟨1, by omega, by go_num, by rw [HT.out, List.length_append, tcells_app]; exact HO3.out, HB3.out⟩, by simp [intOf]⟩
    · cases hx : s 1 with
      | none =>
        have ix : ∀ w, (Instr.index 116 (.agg #[P0, P1, P2]) (.int .i64 1)).run Try.prog w = .ok (.pointer none) w := fun w => (pidx1 P0 P1 P2 w).trans (by rw [← HP1.out, hx]; rfl)
        have HT : Hid (told s (·.q) 2 = told s (·.q) 1) := by show _ = _; simp [told, hx]
        clear hx
        go_wp2_with fail
        exact ⟨⟨2, by omega, by go_num, by rw [HT.out]; exact HO.out, HB.out⟩, by simp [intOf]⟩
      | some x =>
        have ix : ∀ w, (Instr.index 116 (.agg #[P0, P1, P2]) (.int .i64 1)).run Try.prog w = .ok (.pointer (some ⟨x.p, 0, none⟩)) w := fun w => (pidx1 P0 P1 P2 w).trans (by rw [← HP1.out, hx]; rfl)
        have HT : Hid (told s (·.q) 2 = told s (·.q) 1 ++ [x.q]) := by show _ = _; simp [told, hx]
        have HX : Hid (s 1 = some x) := hx
        have HL : Hid ((told s (·.q) 1).length ≤ 1) := told_le s _ 1
        clear hx
        go_wp2_with fail
        refine (c30_ok wr x (by rw [block_old HB.out (blk_lt (HK.out.page 1 x HX.out).1)]; exact (HK.out.page 1 x HX.out).1)).mono ?_
        rintro e w2 ⟨rfl, hb2⟩
        have HB2 : Hid (Below w.heap.size w w2) := HB.out.trans (hb2.mono HB.out.size)
        have HO2 : Hid (w2.ownsRow w.heap.size 22 3 u5 (told s (·.q) 1).length (tcells (told s (·.q) 1))) := own_below HO.out hb2
        clear hb2
        go_wp2_with (at_builtin; refine wpList_append_own _ rfl (.tmp 17) (.tmp 21) 138 rfl w.heap.size 22 i22 (.agg #[i64 0, i64 0, i64 0]) 3 24 under61 HI.out hz hs hby rfl (by omega) u5 _ _ rfl (HO2.out.alloc _) ⟨_, 0, none⟩ 1 1 (tcells [x.q]) rfl rfl (new_tri _ _) (tcells_one _) (by have := HL.out; unfold maxLen; omega) (by have := HL.out; omega) (by have := HB2.out.size; simp; omega) ?_; intro v' w3 ho3 hg3 _; have HB3 : Hid (Below w.heap.size w w3) := (HB2.out.alloc HB2.out.size _).trans (below_grown hg3 (by have := HB2.out.size; simp; omega) (fun g hg => (HO2.out.lt g hg).1)); have HO3 : Hid (w3.ownsRow w.heap.size 22 3 v' ((told s (·.q) 1).length + 1) (tcells (told s (·.q) 1) ++ tcells [x.q])) := ho3; clear ho3 hg3)
        exact ⟨⟨2, by omega, by go_num, by rw [HT.out, List.length_append, tcells_app]; exact HO3.out, HB3.out⟩, by simp [intOf]⟩
    · cases hx : s 2 with
      | none =>
        have ix : ∀ w, (Instr.index 116 (.agg #[P0, P1, P2]) (.int .i64 2)).run Try.prog w = .ok (.pointer none) w := fun w => (pidx2 P0 P1 P2 w).trans (by rw [← HP2.out, hx]; rfl)
        have HT : Hid (told s (·.q) 3 = told s (·.q) 2) := by show _ = _; simp [told, hx]
        clear hx
        go_wp2_with fail
        exact ⟨⟨3, by omega, by go_num, by rw [HT.out]; exact HO.out, HB.out⟩, by simp [intOf]⟩
      | some x =>
        have ix : ∀ w, (Instr.index 116 (.agg #[P0, P1, P2]) (.int .i64 2)).run Try.prog w = .ok (.pointer (some ⟨x.p, 0, none⟩)) w := fun w => (pidx2 P0 P1 P2 w).trans (by rw [← HP2.out, hx]; rfl)
        have HT : Hid (told s (·.q) 3 = told s (·.q) 2 ++ [x.q]) := by show _ = _; simp [told, hx]
        have HX : Hid (s 2 = some x) := hx
        have HL : Hid ((told s (·.q) 2).length ≤ 2) := told_le s _ 2
        clear hx
        go_wp2_with fail
        refine (c30_ok wr x (by rw [block_old HB.out (blk_lt (HK.out.page 2 x HX.out).1)]; exact (HK.out.page 2 x HX.out).1)).mono ?_
        rintro e w2 ⟨rfl, hb2⟩
        have HB2 : Hid (Below w.heap.size w w2) := HB.out.trans (hb2.mono HB.out.size)
        have HO2 : Hid (w2.ownsRow w.heap.size 22 3 u5 (told s (·.q) 2).length (tcells (told s (·.q) 2))) := own_below HO.out hb2
        clear hb2
        go_wp2_with (at_builtin; refine wpList_append_own _ rfl (.tmp 17) (.tmp 21) 138 rfl w.heap.size 22 i22 (.agg #[i64 0, i64 0, i64 0]) 3 24 under61 HI.out hz hs hby rfl (by omega) u5 _ _ rfl (HO2.out.alloc _) ⟨_, 0, none⟩ 1 1 (tcells [x.q]) rfl rfl (new_tri _ _) (tcells_one _) (by have := HL.out; unfold maxLen; omega) (by have := HL.out; omega) (by have := HB2.out.size; simp; omega) ?_; intro v' w3 ho3 hg3 _; have HB3 : Hid (Below w.heap.size w w3) := (HB2.out.alloc HB2.out.size _).trans (below_grown hg3 (by have := HB2.out.size; simp; omega) (fun g hg => (HO2.out.lt g hg).1)); have HO3 : Hid (w3.ownsRow w.heap.size 22 3 v' ((told s (·.q) 2).length + 1) (tcells (told s (·.q) 2) ++ tcells [x.q])) := ho3; clear ho3 hg3)
        exact ⟨⟨3, by omega, by go_num, by rw [HT.out, List.length_append, tcells_app]; exact HO3.out, HB3.out⟩, by simp [intOf]⟩
    · go_wp2_with fail
      go_ret
      exact ⟨_, rfl, HO.out, HB.out⟩
theorem c28_ok (w : World) (x : Pge) (hp : w.heap[x.p]? = some (pgO x.q x.h)) :
    Calls Try.prog 76 #[.pointer (some ⟨x.p, 0, none⟩)] w fun e w' => e = .returned x.h.v ∧ Below w.heap.size w w' := by
  have HB : Hid (∀ o, Below w.heap.size w (w.alloc o)) := fun o => (Below.refl _ _).alloc (Nat.le_refl _) o
  have hpl := blk_lt hp
  have d0 : w.cell? ⟨x.p, 3, none⟩ = some (i64 x.h.a) := bkc hp 3
  have d1 : w.cell? ⟨x.p, 4, none⟩ = some (i64 x.h.b) := bkc hp 4
  have d2 : w.cell? ⟨x.p, 5, none⟩ = some (i64 x.h.c) := bkc hp 5
  clear hp
  go_enter Try.func76, Try.ntmps76
  go_wp2_with fail
  refine bodyPost_ret (v := x.h.v) (by simp [results, Try.results76, go_sem]) rfl ⟨rfl, ?_⟩
  exact HB.out _
set_option maxHeartbeats 2000000 in
theorem all28_ok {w : World} {base b : Nat} {t : T} {s : St} (h : Bk w base b t s) :
    Calls Try.prog 75 #[.pointer (some ⟨b, 0, none⟩), .func (.func 76) #[] #[]] w fun e w' => ∃ v, e = .returned v ∧ w'.ownsRow w.heap.size 22 3 v (told s (·.h) 3).length (tcells (told s (·.h) 3)) ∧ Below w.heap.size w w' := by
  obtain ⟨i22, hi, hz, hs, hby⟩ := info_parts info22x
  have HI : Hid (Try.prog.info? 22 = some i22) := hi
  have HK : Hid (Bk w base b t s) := h
  have hbk := h.book
  have b0 : w.cell? ⟨b, 3, none⟩ = some (ptr (s 0)) := bkc hbk 3
  have b1 : w.cell? ⟨b, 4, none⟩ = some (ptr (s 1)) := bkc hbk 4
  have b2 : w.cell? ⟨b, 5, none⟩ = some (ptr (s 2)) := bkc hbk 5
  obtain ⟨P0, hP0⟩ : ∃ P, ptr (s 0) = P := ⟨_, rfl⟩
  obtain ⟨P1, hP1⟩ : ∃ P, ptr (s 1) = P := ⟨_, rfl⟩
  obtain ⟨P2, hP2⟩ : ∃ P, ptr (s 2) = P := ⟨_, rfl⟩
  rw [hP0] at b0
  rw [hP1] at b1
  rw [hP2] at b2
  have HP0 : Hid (ptr (s 0) = P0) := hP0
  have HP1 : Hid (ptr (s 1) = P1) := hP1
  have HP2 : Hid (ptr (s 2) = P2) := hP2
  clear hP0 hP1 hP2
  clear h hi hbk
  go_enter Try.func75, Try.ntmps75
  go_wp2_with fail
  go_loopw [5, 12] (fun v i wr => ∃ k : Nat, k ≤ 3 ∧ i = i64 k ∧ wr.ownsRow w.heap.size 22 3 v (told s (·.h) k).length (tcells (told s (·.h) k)) ∧ Below w.heap.size w wr) (fun _ i _ => 3 - (intOf i).toNat)
  case atStart => exact ⟨0, by omega, rfl, World.ownsRow_nil _ _ _ _, Below.refl _ _⟩
  case round =>
    obtain ⟨k, hk, rfl, how, hbw⟩ := hrel
    have HO : Hid (wr.ownsRow w.heap.size 22 3 u5 (told s (·.h) k).length (tcells (told s (·.h) k))) := how
    have HB : Hid (Below w.heap.size w wr) := hbw
    clear how hbw
    obtain rfl | rfl | rfl | rfl : k = 0 ∨ k = 1 ∨ k = 2 ∨ k = 3 := by omega
    · cases hx : s 0 with
      | none =>
        have ix : ∀ w, (Instr.index 116 (.agg #[P0, P1, P2]) (.int .i64 0)).run Try.prog w = .ok (.pointer none) w := fun w => (pidx0 P0 P1 P2 w).trans (by rw [← HP0.out, hx]; rfl)
        have HT : Hid (told s (·.h) 1 = told s (·.h) 0) := by show _ = _; simp [told, hx]
        clear hx
        go_wp2_with fail
        exact ⟨⟨1, by omega, by go_num, by rw [HT.out]; exact HO.out, HB.out⟩, by simp [intOf]⟩
      | some x =>
        have ix : ∀ w, (Instr.index 116 (.agg #[P0, P1, P2]) (.int .i64 0)).run Try.prog w = .ok (.pointer (some ⟨x.p, 0, none⟩)) w := fun w => (pidx0 P0 P1 P2 w).trans (by rw [← HP0.out, hx]; rfl)
        have HT : Hid (told s (·.h) 1 = told s (·.h) 0 ++ [x.h]) := by show _ = _; simp [told, hx]
        have HX : Hid (s 0 = some x) := hx
        have HL : Hid ((told s (·.h) 0).length ≤ 0) := told_le s _ 0
        clear hx
        go_wp2_with fail
        refine (c28_ok wr x (by rw [block_old HB.out (blk_lt (HK.out.page 0 x HX.out).1)]; exact (HK.out.page 0 x HX.out).1)).mono ?_
        rintro e w2 ⟨rfl, hb2⟩
        have HB2 : Hid (Below w.heap.size w w2) := HB.out.trans (hb2.mono HB.out.size)
        have HO2 : Hid (w2.ownsRow w.heap.size 22 3 u5 (told s (·.h) 0).length (tcells (told s (·.h) 0))) := own_below HO.out hb2
        clear hb2
        go_wp2_with (at_builtin; refine wpList_append_own _ rfl (.tmp 17) (.tmp 21) 138 rfl w.heap.size 22 i22 (.agg #[i64 0, i64 0, i64 0]) 3 24 under61 HI.out hz hs hby rfl (by omega) u5 _ _ rfl (HO2.out.alloc _) ⟨_, 0, none⟩ 1 1 (tcells [x.h]) rfl rfl (new_tri _ _) (tcells_one _) (by have := HL.out; unfold maxLen; omega) (by have := HL.out; omega) (by have := HB2.out.size; simp; omega) ?_; intro v' w3 ho3 hg3 _; have HB3 : Hid (Below w.heap.size w w3) := (HB2.out.alloc HB2.out.size _).trans (below_grown hg3 (by have := HB2.out.size; simp; omega) (fun g hg => (HO2.out.lt g hg).1)); have HO3 : Hid (w3.ownsRow w.heap.size 22 3 v' ((told s (·.h) 0).length + 1) (tcells (told s (·.h) 0) ++ tcells [x.h])) := ho3; clear ho3 hg3)
        exact ⟨⟨1, by omega, by go_num, by rw [HT.out, List.length_append, tcells_app]; exact HO3.out, HB3.out⟩, by simp [intOf]⟩
    · cases hx : s 1 with
      | none =>
        have ix : ∀ w, (Instr.index 116 (.agg #[P0, P1, P2]) (.int .i64 1)).run Try.prog w = .ok (.pointer none) w := fun w => (pidx1 P0 P1 P2 w).trans (by rw [← HP1.out, hx]; rfl)
        have HT : Hid (told s (·.h) 2 = told s (·.h) 1) := by show _ = _; simp [told, hx]
        clear hx
        go_wp2_with fail
        exact ⟨⟨2, by omega, by go_num, by rw [HT.out]; exact HO.out, HB.out⟩, by simp [intOf]⟩
      | some x =>
        have ix : ∀ w, (Instr.index 116 (.agg #[P0, P1, P2]) (.int .i64 1)).run Try.prog w = .ok (.pointer (some ⟨x.p, 0, none⟩)) w := fun w => (pidx1 P0 P1 P2 w).trans (by rw [← HP1.out, hx]; rfl)
        have HT : Hid (told s (·.h) 2 = told s (·.h) 1 ++ [x.h]) := by show _ = _; simp [told, hx]
        have HX : Hid (s 1 = some x) := hx
        have HL : Hid ((told s (·.h) 1).length ≤ 1) := told_le s _ 1
        clear hx
        go_wp2_with fail
        refine (c28_ok wr x (by rw [block_old HB.out (blk_lt (HK.out.page 1 x HX.out).1)]; exact (HK.out.page 1 x HX.out).1)).mono ?_
        rintro e w2 ⟨rfl, hb2⟩
        have HB2 : Hid (Below w.heap.size w w2) := HB.out.trans (hb2.mono HB.out.size)
        have HO2 : Hid (w2.ownsRow w.heap.size 22 3 u5 (told s (·.h) 1).length (tcells (told s (·.h) 1))) := own_below HO.out hb2
        clear hb2
        go_wp2_with (at_builtin; refine wpList_append_own _ rfl (.tmp 17) (.tmp 21) 138 rfl w.heap.size 22 i22 (.agg #[i64 0, i64 0, i64 0]) 3 24 under61 HI.out hz hs hby rfl (by omega) u5 _ _ rfl (HO2.out.alloc _) ⟨_, 0, none⟩ 1 1 (tcells [x.h]) rfl rfl (new_tri _ _) (tcells_one _) (by have := HL.out; unfold maxLen; omega) (by have := HL.out; omega) (by have := HB2.out.size; simp; omega) ?_; intro v' w3 ho3 hg3 _; have HB3 : Hid (Below w.heap.size w w3) := (HB2.out.alloc HB2.out.size _).trans (below_grown hg3 (by have := HB2.out.size; simp; omega) (fun g hg => (HO2.out.lt g hg).1)); have HO3 : Hid (w3.ownsRow w.heap.size 22 3 v' ((told s (·.h) 1).length + 1) (tcells (told s (·.h) 1) ++ tcells [x.h])) := ho3; clear ho3 hg3)
        exact ⟨⟨2, by omega, by go_num, by rw [HT.out, List.length_append, tcells_app]; exact HO3.out, HB3.out⟩, by simp [intOf]⟩
    · cases hx : s 2 with
      | none =>
        have ix : ∀ w, (Instr.index 116 (.agg #[P0, P1, P2]) (.int .i64 2)).run Try.prog w = .ok (.pointer none) w := fun w => (pidx2 P0 P1 P2 w).trans (by rw [← HP2.out, hx]; rfl)
        have HT : Hid (told s (·.h) 3 = told s (·.h) 2) := by show _ = _; simp [told, hx]
        clear hx
        go_wp2_with fail
        exact ⟨⟨3, by omega, by go_num, by rw [HT.out]; exact HO.out, HB.out⟩, by simp [intOf]⟩
      | some x =>
        have ix : ∀ w, (Instr.index 116 (.agg #[P0, P1, P2]) (.int .i64 2)).run Try.prog w = .ok (.pointer (some ⟨x.p, 0, none⟩)) w := fun w => (pidx2 P0 P1 P2 w).trans (by rw [← HP2.out, hx]; rfl)
        have HT : Hid (told s (·.h) 3 = told s (·.h) 2 ++ [x.h]) := by show _ = _; simp [told, hx]
        have HX : Hid (s 2 = some x) := hx
        have HL : Hid ((told s (·.h) 2).length ≤ 2) := told_le s _ 2
        clear hx
        go_wp2_with fail
        refine (c28_ok wr x (by rw [block_old HB.out (blk_lt (HK.out.page 2 x HX.out).1)]; exact (HK.out.page 2 x HX.out).1)).mono ?_
        rintro e w2 ⟨rfl, hb2⟩
        have HB2 : Hid (Below w.heap.size w w2) := HB.out.trans (hb2.mono HB.out.size)
        have HO2 : Hid (w2.ownsRow w.heap.size 22 3 u5 (told s (·.h) 2).length (tcells (told s (·.h) 2))) := own_below HO.out hb2
        clear hb2
        go_wp2_with (at_builtin; refine wpList_append_own _ rfl (.tmp 17) (.tmp 21) 138 rfl w.heap.size 22 i22 (.agg #[i64 0, i64 0, i64 0]) 3 24 under61 HI.out hz hs hby rfl (by omega) u5 _ _ rfl (HO2.out.alloc _) ⟨_, 0, none⟩ 1 1 (tcells [x.h]) rfl rfl (new_tri _ _) (tcells_one _) (by have := HL.out; unfold maxLen; omega) (by have := HL.out; omega) (by have := HB2.out.size; simp; omega) ?_; intro v' w3 ho3 hg3 _; have HB3 : Hid (Below w.heap.size w w3) := (HB2.out.alloc HB2.out.size _).trans (below_grown hg3 (by have := HB2.out.size; simp; omega) (fun g hg => (HO2.out.lt g hg).1)); have HO3 : Hid (w3.ownsRow w.heap.size 22 3 v' ((told s (·.h) 2).length + 1) (tcells (told s (·.h) 2) ++ tcells [x.h])) := ho3; clear ho3 hg3)
        exact ⟨⟨3, by omega, by go_num, by rw [HT.out, List.length_append, tcells_app]; exact HO3.out, HB3.out⟩, by simp [intOf]⟩
    · go_wp2_with fail
      go_ret
      exact ⟨_, rfl, HO.out, HB.out⟩
end Go.Proofs.Ytnknhencobhjdaa.Qt
namespace Go.Proofs.Ytnknhencobhjdaa.Qt
open Go.ChangeShapes Go.WideShapes Go.ChangeAt Go.RowKit Go.Deep
theorem Le.small {t q : T} (h : Le t q) (k : Le q ⟨64, 64, 64⟩) : Small 64 t := by
  obtain ⟨a0, a1, b0, b1, c0, c1⟩ := h
  obtain ⟨d0, d1, e0, e1, f0, f1⟩ := k
  simp only at d1 e1 f1
  unfold Small
  omega
theorem tsl_one {w : World} {b : Nat} {u : T} (h : w.heap[b]? = some (triO u)) : TSl w (some ⟨b, 0, none⟩) [u] :=
  Or.inr ⟨b, rfl, blk_lt h, fun i x hx => by
    rcases i with _ | i
    · simp at hx; subst hx; exact ⟨bkc h 0, bkc h 1, bkc h 2⟩
    · simp at hx⟩
def lfT : Option Pge → T
  | none => zT
  | some x => sub x.q x.h
set_option maxHeartbeats 1000000 in
theorem left_ok {w : World} {base b : Nat} {t : T} {s : St} (h : Bk w base b t s) (env : Int) :
    Calls Try.prog 61 #[.pointer (some ⟨b, 0, none⟩), i64 env] w fun e w' => e = .returned (.tuple #[(lfT (at_ s env)).v, i64 (pE (at_ s env))]) ∧ Below w.heap.size w w' := by
  have HB : Hid (∀ o, Below w.heap.size w (w.alloc o)) := fun o => (Below.refl _ _).alloc (Nat.le_refl _) o
  have HK : Hid (∀ o, Bk (w.alloc o) base b t s) := fun o => h.below ((Below.refl _ _).alloc (Nat.le_refl _) o)
  cases hx : at_ s env with
  | none =>
    have HX : Hid (at_ s env = none) := hx
    clear h hx
    go_enter Try.func61, Try.ntmps61
    go_wp2_with fail
    refine (pageOf_ok (HK.out _) env).mono ?_
    rintro e w1 ⟨rfl, hb1⟩
    rw [HX.out]
    have hz : w.heap.size < w1.heap.size := by have := hb1.size; simp at this; omega
    have hc : ∀ j, w1.cell? ⟨w.heap.size, j, none⟩ = (#[i64 0, i64 0, i64 0] : Array Value)[j]? := fun j => by
      rw [hb1.cell (by show w.heap.size < _; simp)]; exact bkc (hlx w _) j
    have hf : ∀ j, w1.frozen? ⟨w.heap.size, j, none⟩ = false := fun j => by
      rw [hb1.frozen (by show w.heap.size < _; simp)]; exact bkf (hlx w _) j
    have c0 : w1.cell? ⟨w.heap.size, 0, none⟩ = some (i64 0) := hc 0
    have c1 : w1.cell? ⟨w.heap.size, 1, none⟩ = some (i64 0) := hc 1
    have c2 : w1.cell? ⟨w.heap.size, 2, none⟩ = some (i64 0) := hc 2
    have HB1 : Hid (Below w.heap.size w w1) := (HB.out _).trans (hb1.mono (by simp))
    clear hb1 hc
    unfold ptr
    go_wp2_with fail
    refine bodyPost_ret (v := .tuple #[zT.v, i64 6]) (by simp [results, Try.results61, go_sem, zT, c0, c1, c2]) rfl ⟨rfl, ?_⟩
    exact ((((HB1.out).setCell (by simp) _).setCell (by simp) _).setCell (by simp) _)
  | some x =>
    have HX : Hid (at_ s env = some x) := hx
    have hs := (at_some hx).2.2
    have hp := (h.page _ x hs).1
    have HQ : Hid (Small 64 x.q) := (h.wf.le64 hs).small ⟨by decide, by decide, by decide, by decide, by decide, by decide⟩
    have HH : Hid (Small 64 x.h) := (h.wf.le_at hs).small (h.wf.le64 hs)
    have hpl := blk_lt hp
    have hne : x.p ≠ w.heap.size := by omega
    clear h hx hs
    go_enter Try.func61, Try.ntmps61
    go_wp2_with fail
    refine (pageOf_ok (HK.out _) env).mono ?_
    rintro e w1 ⟨rfl, hb1⟩
    rw [HX.out]
    have hz : w.heap.size < w1.heap.size := by have := hb1.size; simp at this; omega
    have hr1 : w1.heap[w.heap.size]? = some (triO zT) := by rw [hb1.block _ (by simp)]; exact hlx w _
    have hp1 := bkb (bka hp _) hb1
    have HR1 : Hid (w1.heap[w.heap.size]? = some (triO zT)) := hr1
    have HP1 : Hid (w1.heap[x.p]? = some (pgO x.q x.h)) := hp1
    have q0 : w1.cell? ⟨x.p, 0, none⟩ = some (i64 x.q.a) := bkc hp1 0
    have q1 : w1.cell? ⟨x.p, 1, none⟩ = some (i64 x.q.b) := bkc hp1 1
    have q2 : w1.cell? ⟨x.p, 2, none⟩ = some (i64 x.q.c) := bkc hp1 2
    have d0 : w1.cell? ⟨x.p, 3, none⟩ = some (i64 x.h.a) := bkc hp1 3
    have d1 : w1.cell? ⟨x.p, 4, none⟩ = some (i64 x.h.b) := bkc hp1 4
    have d2 : w1.cell? ⟨x.p, 5, none⟩ = some (i64 x.h.c) := bkc hp1 5
    have HB1 : Hid (Below w.heap.size w w1) := (HB.out _).trans (hb1.mono (by simp))
    have HUP : Hid (∀ U : World, U.heap[x.p]? = some (pgO x.q x.h) → (U.cell? ⟨x.p, 0, none⟩ = some (i64 x.q.a) ∧ U.cell? ⟨x.p, 1, none⟩ = some (i64 x.q.b) ∧ U.cell? ⟨x.p, 2, none⟩ = some (i64 x.q.c) ∧ U.cell? ⟨x.p, 3, none⟩ = some (i64 x.h.a) ∧ U.cell? ⟨x.p, 4, none⟩ = some (i64 x.h.b) ∧ U.cell? ⟨x.p, 5, none⟩ = some (i64 x.h.c))) := fun U hU => ⟨bkc hU 0, bkc hU 1, bkc hU 2, bkc hU 3, bkc hU 4, bkc hU 5⟩
    have HLT : Hid (lessT x.q [x.h] = sub x.q x.h) := rfl
    clear hb1 hp1 hp hr1
    unfold ptr
    go_wp2_with fail
    go_region_held3 (fun U => U.cell? ⟨x.p, 0, none⟩ = some (i64 x.q.a) ∧ U.cell? ⟨x.p, 1, none⟩ = some (i64 x.q.b) ∧ U.cell? ⟨x.p, 2, none⟩ = some (i64 x.q.c) ∧ U.cell? ⟨x.p, 3, none⟩ = some (i64 x.h.a) ∧ U.cell? ⟨x.p, 4, none⟩ = some (i64 x.h.b) ∧ U.cell? ⟨x.p, 5, none⟩ = some (i64 x.h.c)) (first | exact HUP.out _ HP1.out | exact HUP.out _ (bka HP1.out _) | exact HUP.out _ (bka (w := w1.drew) HP1.out _) | exact HUP.out _ HP5.out | exact HUP.out _ (by rw [heap_setCell_other _ _ _ _ hne, heap_setCell_other _ _ _ _ hne, heap_setCell_other _ _ _ _ hne]; exact HP5.out))
      ((go_at_call 74; refine (less_ok (w1.alloc (triO x.h)).drew x.q (some ⟨w1.heap.size, 0, none⟩) 1 [x.h] (tsl_one (w := (w1.alloc (triO x.h)).drew) (hlx w1 _)) (by simp) HQ.out (by simpa using HH.out)).mono ?_; rintro e w5 ⟨rfl, hb5⟩; have HP5 : Hid (w5.heap[x.p]? = some (pgO x.q x.h)) := bkb (w := (w1.alloc (triO x.h)).drew) (bka HP1.out _) hb5; have hr5 : w5.heap[w.heap.size]? = some (triO zT) := bkb (w := (w1.alloc (triO x.h)).drew) (bka HR1.out _) hb5; have hz5 : w.heap.size < w5.heap.size := blk_lt hr5; have r0 : w5.cell? ⟨w.heap.size, 0, none⟩ = some (i64 0) := bkc hr5 0; have r1 : w5.cell? ⟨w.heap.size, 1, none⟩ = some (i64 0) := bkc hr5 1; have r2 : w5.cell? ⟨w.heap.size, 2, none⟩ = some (i64 0) := bkc hr5 2; have rf : ∀ j, w5.frozen? ⟨w.heap.size, j, none⟩ = false := bkf hr5; have HB5 : Hid (Below w.heap.size w w5) := (Below.drew (HB1.out.alloc HB1.out.size (triO x.h))).trans (hb5.mono (by have := HB1.out.size; simp; omega)); clear hb5 hr5; rw [HLT.out]))
    all_goals go_wp2_with fail
    refine bodyPost_ret (v := .tuple #[(sub x.q x.h).v, i64 0]) (by simp [results, Try.results61, go_sem, r0, r1, r2]) rfl ⟨rfl, ?_⟩
    exact ((((HB5.out).setCell (by simp) _).setCell (by simp) _).setCell (by simp) _)
theorem told_mem {s : St} {f : Pge → T} {u : T} : ∀ {k : Nat}, u ∈ told s f k → ∃ e x, s e = some x ∧ u = f x
  | 0, h => by cases h
  | k + 1, h => by
    unfold told at h
    rw [List.mem_append] at h
    rcases h with h | h
    · exact told_mem h
    · cases hx : s k with
      | none => rw [hx] at h; cases h
      | some x => rw [hx] at h; simp at h; exact ⟨k, x, hx, h⟩
def freeT (t : T) (s : St) : T := lessT t (told s (·.h) 3)
set_option maxHeartbeats 1000000 in
theorem free_ok {w : World} {base b : Nat} {t : T} {s : St} (h : Bk w base b t s) :
    Calls Try.prog 52 #[.pointer (some ⟨b, 0, none⟩)] w fun e w' => e = .returned (freeT t s).v ∧ Below w.heap.size w w' := by
  have HB : Hid (∀ o, Below w.heap.size w (w.alloc o)) := fun o => (Below.refl _ _).alloc (Nat.le_refl _) o
  have HK : Hid (Bk w base b t s) := h
  have hbk := h.book
  have hbl := blk_lt hbk
  have hne : b ≠ w.heap.size := by omega
  have HT : Hid (Small 64 t) := h.wf.tot.small ⟨by decide, by decide, by decide, by decide, by decide, by decide⟩
  have HS : Hid (∀ u ∈ told s (·.h) 3, Small 64 u) := fun u hu => by
    obtain ⟨e, x, hx, rfl⟩ := told_mem hu
    exact (h.wf.le_at hx).small (h.wf.le64 hx)
  have HL : Hid ((told s (·.h) 3).length ≤ 3) := told_le s _ 3
  have HUP : Hid (∀ U : World, U.heap[b]? = some (bkO t s) → (U.cell? ⟨b, 0, none⟩ = some (i64 t.a) ∧ U.cell? ⟨b, 1, none⟩ = some (i64 t.b) ∧ U.cell? ⟨b, 2, none⟩ = some (i64 t.c))) := fun U hU => ⟨bkc hU 0, bkc hU 1, bkc hU 2⟩
  have HF : Hid (freeT t s = lessT t (told s (·.h) 3)) := rfl
  obtain ⟨V, hV⟩ : ∃ V, V = w.alloc (triO zT) := ⟨_, rfl⟩
  have HKV : Hid (Bk V base b t s) := by rw [hV]; exact h.below (HB.out _)
  have HRV : Hid (V.heap[w.heap.size]? = some (triO zT)) := by rw [hV]; exact hlx w _
  have HBV : Hid (Below w.heap.size w V) := by rw [hV]; exact HB.out _
  have hzV : w.heap.size < V.heap.size := by rw [hV]; simp
  have HV : Hid (V = w.alloc (triO zT)) := hV
  obtain ⟨v0, v1, v2⟩ := HUP.out V HKV.out.book
  clear h hbk hV
  go_enter Try.func52, Try.ntmps52
  go_wp2_with fail
  rw [show w.alloc (Obj.cells #[Value.int IntKind.i64 0, Value.int IntKind.i64 0, Value.int IntKind.i64 0] 22) = V from HV.out.symm]
  go_region_held3 (fun U => U.cell? ⟨b, 0, none⟩ = some (i64 t.a) ∧ U.cell? ⟨b, 1, none⟩ = some (i64 t.b) ∧ U.cell? ⟨b, 2, none⟩ = some (i64 t.c)) (first | exact HUP.out _ HKV.out.book | exact HUP.out _ HP3.out | exact HUP.out _ HP5.out | exact HUP.out _ (by rw [heap_setCell_other _ _ _ _ hne, heap_setCell_other _ _ _ _ hne, heap_setCell_other _ _ _ _ hne]; exact HP5.out))
    ((first
      | (go_at_call 75; refine (all28_ok (w := V.drew) (HKV.out.same (fun _ _ h _ => h))).mono ?_; rintro e w3 ⟨v, rfl, ho3, hb3⟩; obtain ⟨ao, cap, rfl, hts⟩ := own_tsl ho3; have HTS : Hid (TSl w3 ao (told s (·.h) 3)) := hts; have HP3 : Hid (w3.heap[b]? = some (bkO t s)) := bkb (w := V.drew) HKV.out.book hb3; have HR3 : Hid (w3.heap[w.heap.size]? = some (triO zT)) := bkb (w := V.drew) HRV.out hb3; have HB3 : Hid (Below w.heap.size w w3) := (Below.drew HBV.out).trans (hb3.mono HBV.out.size); clear ho3 hb3 hts)
      | (go_at_call 74; refine (less_ok w3 t ao cap (told s (·.h) 3) HTS.out HL.out HT.out HS.out).mono ?_; rintro e w5 ⟨rfl, hb5⟩; have HP5 : Hid (w5.heap[b]? = some (bkO t s)) := bkb HP3.out hb5; have hr5 : w5.heap[w.heap.size]? = some (triO zT) := bkb HR3.out hb5; have hz5 : w.heap.size < w5.heap.size := blk_lt hr5; have r0 : w5.cell? ⟨w.heap.size, 0, none⟩ = some (i64 0) := bkc hr5 0; have r1 : w5.cell? ⟨w.heap.size, 1, none⟩ = some (i64 0) := bkc hr5 1; have r2 : w5.cell? ⟨w.heap.size, 2, none⟩ = some (i64 0) := bkc hr5 2; have rf : ∀ j, w5.frozen? ⟨w.heap.size, j, none⟩ = false := bkf hr5; have HB5 : Hid (Below w.heap.size w w5) := HB3.out.trans (hb5.mono HB3.out.size); clear hb5 hr5)))
  all_goals go_wp2_with fail
  refine bodyPost_ret (v := (freeT t s).v) (by rw [HF.out]; simp [results, Try.results52, go_sem, r0, r1, r2]) rfl ⟨rfl, ?_⟩
  exact ((((HB5.out).setCell (by simp) _).setCell (by simp) _).setCell (by simp) _)
def clE (o : Option Pge) : Int := pE o
def clS (s : St) (env : Int) : St :=
  match at_ s env with
  | none => s
  | some _ => upd s (env - 1).toNat none
theorem Bk.drop {w w' : World} {base b : Nat} {t : T} {s : St} (h : Bk w base b t s) {e : Nat} (ht : Touch b w w') (hb : w'.heap[b]? = some (bkO t (upd s e none))) :
    Bk w' base b t (upd s e none) ∧ Fr base [118, 141] w w' := by
  have hne : ∀ i y, s i = some y → y.p ≠ b := fun i y hy e => by have h1 := h.book; rw [← e, (h.page i y hy).1] at h1; simp at h1
  have hu : ∀ i y, upd s e none i = some y → s i = some y := fun i y hy => by
    unfold upd at hy
    by_cases hi : i = e
    · rw [if_pos hi] at hy; cases hy
    · rw [if_neg hi] at hy; exact hy
  have hle : ∀ i, (qT (upd s e none i)).a ≤ (qT (s i)).a ∧ (qT (upd s e none i)).b ≤ (qT (s i)).b ∧ (qT (upd s e none i)).c ≤ (qT (s i)).c := fun i => by
    unfold upd
    by_cases hi : i = e
    · rw [if_pos hi]
      have := h.wf.le i
      exact ⟨Int.le_trans this.a0 this.a1, Int.le_trans this.b0 this.b1, Int.le_trans this.c0 this.c1⟩
    · rw [if_neg hi]; exact ⟨Int.le_refl _, Int.le_refl _, Int.le_refl _⟩
  have h0 := hle 0
  have h1 := hle 1
  have h2 := hle 2
  refine ⟨⟨hb, h.lo, fun i y hy => ?_, fun i j y z hy hz => h.apart i j y z (hu i y hy) (hu j z hz), ⟨fun i hi => ?_, h.wf.tot, fun i => ?_, ?_, ?_, ?_⟩⟩, Fr.of_touch ht h.book (by rfl) h.lo⟩
  · have := h.page i y (hu i y hy)
    exact ⟨by rw [ht.block y.p (blk_lt this.1) (hne i y (hu i y hy))]; exact this.1, this.2⟩
  · unfold upd
    by_cases hi' : i = e
    · rw [if_pos hi']
    · rw [if_neg hi']; exact h.wf.out i hi
  · unfold upd
    by_cases hi : i = e
    · rw [if_pos hi]; exact ⟨Int.le_refl _, Int.le_refl _, Int.le_refl _, Int.le_refl _, Int.le_refl _, Int.le_refl _⟩
    · rw [if_neg hi]; exact h.wf.le i
  · have := h.wf.sa; omega
  · have := h.wf.sb; omega
  · have := h.wf.sc; omega
theorem touch_book {w w1 : World} {b : Nat} {t : T} {s : St} (hp : w.heap[b]? = some (bkO t s)) (hb : Below w.heap.size w w1) (j : Nat) (v : Value) :
    Touch b w (w1.setCell ⟨b, j, none⟩ v) ∧ (w1.setCell ⟨b, j, none⟩ v).heap[b]? = some (.cells (#[i64 t.a, i64 t.b, i64 t.c, ptr (s 0), ptr (s 1), ptr (s 2)].setIfInBounds j v) 118) := by
  have h1 := bkb hp hb
  have ht : Touch b w w1 := ⟨hb.os, hb.tape, hb.output, hb.size, fun k hk _ => hb.block k hk⟩
  exact ⟨ht.setCell rfl _, heap_setCell_same w1 b j _ 118 _ h1⟩
theorem close_ok {w : World} {base b : Nat} {t : T} {s : St} (h : Bk w base b t s) (env : Int) :
    Calls Try.prog 59 #[.pointer (some ⟨b, 0, none⟩), i64 env] w fun e w' => e = .returned (i64 (clE (at_ s env))) ∧ Bk w' base b t (clS s env) ∧ Fr base [118, 141] w w' := by
  have hlo : base ≤ w.heap.size := by have := blk_lt h.book; have := h.lo; omega
  have HK : Hid (Bk w base b t s) := h
  unfold clE clS
  cases hx : at_ s env with
  | none =>
    have HX : Hid (at_ s env = none) := hx
    clear h hx
    go_enter Try.func59, Try.ntmps59
    go_wp2_with fail
    refine (pageOf_ok HK.out env).mono ?_
    rintro e w1 ⟨rfl, hb1⟩
    rw [HX.out]
    have HB1 : Hid (Below w.heap.size w w1) := hb1
    clear hb1
    unfold ptr
    go_wp2_with fail
    go_ret
    exact ⟨rfl, HK.out.below HB1.out, Fr.of_below _ HB1.out hlo⟩
  | some x =>
    have HX : Hid (at_ s env = some x) := hx
    obtain ⟨e1, e2, hs⟩ := at_some hx
    clear h hx hs
    obtain rfl | rfl | rfl : env = 1 ∨ env = 2 ∨ env = 3 := by omega
    · go_enter Try.func59, Try.ntmps59
      go_wp2_with fail
      refine (pageOf_ok HK.out 1).mono ?_
      rintro e w1 ⟨rfl, hb1⟩
      rw [HX.out]
      have hbk := bkb HK.out.book hb1
      have d0 : w1.cell? ⟨b, 3, none⟩ = some (ptr (s 0)) := bkc hbk 3
      have f0 : w1.frozen? ⟨b, 3, none⟩ = false := bkf hbk 3
      have HB1 : Hid (Below w.heap.size w w1) := hb1
      clear hb1 hbk
      generalize ptr (s 0) = P at *
      unfold ptr
      go_wp2_with fail
      go_ret
      have ht := touch_book HK.out.book HB1.out 3 (.pointer none)
      exact ⟨rfl, HK.out.drop ht.1 (ht.2.trans (by rfl))⟩
    · go_enter Try.func59, Try.ntmps59
      go_wp2_with fail
      refine (pageOf_ok HK.out 2).mono ?_
      rintro e w1 ⟨rfl, hb1⟩
      rw [HX.out]
      have hbk := bkb HK.out.book hb1
      have d0 : w1.cell? ⟨b, 4, none⟩ = some (ptr (s 1)) := bkc hbk 4
      have f0 : w1.frozen? ⟨b, 4, none⟩ = false := bkf hbk 4
      have HB1 : Hid (Below w.heap.size w w1) := hb1
      clear hb1 hbk
      generalize ptr (s 1) = P at *
      unfold ptr
      go_wp2_with fail
      go_ret
      have ht := touch_book HK.out.book HB1.out 4 (.pointer none)
      exact ⟨rfl, HK.out.drop ht.1 (ht.2.trans (by rfl))⟩
    · go_enter Try.func59, Try.ntmps59
      go_wp2_with fail
      refine (pageOf_ok HK.out 3).mono ?_
      rintro e w1 ⟨rfl, hb1⟩
      rw [HX.out]
      have hbk := bkb HK.out.book hb1
      have d0 : w1.cell? ⟨b, 5, none⟩ = some (ptr (s 2)) := bkc hbk 5
      have f0 : w1.frozen? ⟨b, 5, none⟩ = false := bkf hbk 5
      have HB1 : Hid (Below w.heap.size w w1) := hb1
      clear hb1 hbk
      generalize ptr (s 2) = P at *
      unfold ptr
      go_wp2_with fail
      go_ret
      have ht := touch_book HK.out.book HB1.out 5 (.pointer none)
      exact ⟨rfl, HK.out.drop ht.1 (ht.2.trans (by rfl))⟩
end Go.Proofs.Ytnknhencobhjdaa.Qt
namespace Go.Proofs.Ytnknhencobhjdaa.Qt
def add (t u : T) : T := ⟨t.a + u.a, t.b + u.b, t.c + u.c⟩
def sum : List T → T
  | [] => zT
  | u :: r => add u (sum r)
theorem sum_app : ∀ (a b : List T), sum (a ++ b) = add (sum a) (sum b)
  | [], b => by simp [sum, add, zT]
  | u :: r, b => by
    show add u (sum (r ++ b)) = add (add u (sum r)) (sum b)
    rw [sum_app r b]
    simp only [add, T.mk.injEq]
    omega
def Pos (t : T) : Prop := 0 ≤ t.a ∧ 0 ≤ t.b ∧ 0 ≤ t.c
theorem sum_pos : ∀ {ts : List T}, (∀ u ∈ ts, Pos u) → Pos (sum ts)
  | [], _ => ⟨Int.le_refl _, Int.le_refl _, Int.le_refl _⟩
  | u :: r, h => by
    have h1 := h u (by simp)
    have h2 := sum_pos (ts := r) (fun v hv => h v (by simp [hv]))
    unfold Pos at *
    simp only [sum, add]
    omega
theorem fits_iff : ∀ (ts : List T) (t : T), Pos t → (∀ u ∈ ts, Pos u) → (fits t ts = true ↔ (sum ts).a ≤ t.a ∧ (sum ts).b ≤ t.b ∧ (sum ts).c ≤ t.c)
  | [], t, ht, _ => by
    unfold Pos at ht
    simp [fits, sum, zT]
    omega
  | u :: r, t, ht, h => by
    have h1 := h u (by simp)
    have h2 := sum_pos (ts := r) (fun v hv => h v (by simp [hv]))
    by_cases hc : t.a < u.a ∨ t.b < u.b ∨ t.c < u.c
    · rw [fits_no hc]
      unfold Pos at *
      simp only [sum, add]
      simp
      omega
    · have hp : Pos (sub t u) := by unfold Pos sub at *; simp only; omega
      rw [fits_go (by omega) (by omega) (by omega), fits_iff r (sub t u) hp (fun v hv => h v (by simp [hv]))]
      simp only [sum, add, sub]
      omega
theorem lessT_sum : ∀ (ts : List T) (t : T), lessT t ts = sub t (sum ts)
  | [], t => by simp [lessT, sum, sub, zT]
  | u :: r, t => by
    show lessT (sub t u) r = _
    rw [lessT_sum r]
    simp only [sum, add, sub, T.mk.injEq]
    omega
theorem sum_told (s : St) (f : Pge → T) : sum (told s f 3) = add (add (match s 0 with | none => zT | some x => f x) (match s 1 with | none => zT | some x => f x)) (match s 2 with | none => zT | some x => f x) := by
  unfold told told told told
  rw [sum_app, sum_app, sum_app]
  cases s 0 <;> cases s 1 <;> cases s 2 <;> simp [sum, add, zT]
theorem sum_q (s : St) : sum (told s (·.q) 3) = add (add (qT (s 0)) (qT (s 1))) (qT (s 2)) := by
  rw [sum_told]
  cases s 0 <;> cases s 1 <;> cases s 2 <;> rfl
def roomB (t : T) (s : St) (q : T) : Bool := decide ((qT (s 0)).a + (qT (s 1)).a + (qT (s 2)).a + q.a ≤ t.a ∧ (qT (s 0)).b + (qT (s 1)).b + (qT (s 2)).b + q.b ≤ t.b ∧ (qT (s 0)).c + (qT (s 1)).c + (qT (s 2)).c + q.c ≤ t.c)
theorem Le.pos {h q : T} (k : Le h q) : Pos h ∧ Pos q := by
  obtain ⟨a0, a1, b0, b1, c0, c1⟩ := k
  unfold Pos
  omega
theorem told_pos {t : T} {s : St} (h : Wf t s) : ∀ u ∈ told s (·.q) 3, Pos u := fun u hu => by
  obtain ⟨e, x, hx, rfl⟩ := told_mem hu
  exact (h.le_at hx).pos.2
theorem fits_room {t : T} {s : St} (h : Wf t s) {q : T} (hq : Pos q) : fits t (told s (·.q) 3 ++ [q]) = roomB t s q := by
  have := fits_iff (told s (·.q) 3 ++ [q]) t h.tot.pos.1 (fun u hu => by
    rw [List.mem_append] at hu
    rcases hu with hu | hu
    · exact told_pos h u hu
    · simp at hu; subst hu; exact hq)
  rw [Bool.eq_iff_iff, this, sum_app, sum_q]
  simp [roomB, sum, add, zT]
theorem Wf.enter {t : T} {s : St} (h : Wf t s) {e : Nat} (he : e < 3) (hs : s e = none) {q : T} (hq : Pos q) (hr : roomB t s q = true) (p : Nat) : Wf t (upd s e (some ⟨p, q, zT⟩)) := by
  unfold roomB at hr
  simp at hr
  unfold Pos at hq
  have hz : qT (s e) = zT := by rw [hs]; rfl
  have hza : (qT (s e)).a = 0 ∧ (qT (s e)).b = 0 ∧ (qT (s e)).c = 0 := by rw [hz]; exact ⟨rfl, rfl, rfl⟩
  have hu : ∀ i, qT (upd s e (some ⟨p, q, zT⟩) i) = if i = e then q else qT (s i) := fun i => by
    unfold upd
    by_cases hi : i = e
    · rw [if_pos hi, if_pos hi]; rfl
    · rw [if_neg hi, if_neg hi]
  refine ⟨fun i hi => ?_, h.tot, fun i => ?_, ?_, ?_, ?_⟩
  · unfold upd
    rw [if_neg (by omega)]
    exact h.out i hi
  · unfold upd
    by_cases hi : i = e
    · rw [if_pos hi]; exact ⟨Int.le_refl _, hq.1, Int.le_refl _, hq.2.1, Int.le_refl _, hq.2.2⟩
    · rw [if_neg hi]; exact h.le i
  all_goals
    rw [hu, hu, hu]
    obtain rfl | rfl | rfl : e = 0 ∨ e = 1 ∨ e = 2 := by omega
    all_goals
      simp
      omega
end Go.Proofs.Ytnknhencobhjdaa.Qt
namespace Go.Proofs.Ytnknhencobhjdaa.Qt
open Go.ChangeShapes Go.WideShapes Go.ChangeAt Go.RowKit Go.Deep
def badB (env : Int) (q : T) : Bool := outB 1 3 [env] || outB 0 9223372036854775807 q.l
theorem open_bad (w : World) (bv : Value) (env : Int) (q : T) (hbad : badB env q = true) :
    Calls Try.prog 53 #[bv, i64 env, q.v] w fun e w' => e = .returned (i64 1) ∧ Below w.heap.size w w' := by
  have HB : Hid (∀ o o', Below w.heap.size w ((w.alloc o).alloc o')) := fun o o' => ((Below.refl _ _).alloc (Nat.le_refl _) o).alloc (by simp) o'
  unfold badB at hbad
  by_cases h1 : outB 1 3 [env] = true
  · have H1 : Hid (outB 1 3 [env] = true) := h1
    clear hbad h1
    go_enter Try.func53, Try.ntmps53
    go_wp2_with fail
    refine (outside_one _ 1 3 env _ (heap_last2 w _ _)).mono ?_
    rintro e w1 ⟨rfl, rfl⟩
    rw [H1.out]
    go_wp2_with fail
    go_ret
    exact ⟨rfl, HB.out _ _⟩
  · have h1' : outB 1 3 [env] = false := by simpa using h1
    have h2 : outB 0 9223372036854775807 q.l = true := by simpa [h1'] using hbad
    have H1 : Hid (outB 1 3 [env] = false) := h1'
    have H2 : Hid (outB 0 9223372036854775807 q.l = true) := h2
    clear hbad h1 h1' h2
    go_enter Try.func53, Try.ntmps53
    go_wp2_with fail
    refine (outside_one _ 1 3 env _ (heap_last2 w _ _)).mono ?_
    rintro e w1 ⟨rfl, rfl⟩
    rw [H1.out]
    go_wp2_with fail
    refine (outside_tri _ 0 9223372036854775807 q _ (bka (hlx w _) _)).mono ?_
    rintro e w1 ⟨rfl, rfl⟩
    rw [H2.out]
    go_wp2_with fail
    go_ret
    exact ⟨rfl, HB.out _ _⟩
theorem open_same {w : World} {base b : Nat} {t : T} {s : St} (h : Bk w base b t s) (env : Int) (q : T) (hbad : badB env q = false) (x : Pge) (hx : at_ s env = some x) :
    Calls Try.prog 53 #[.pointer (some ⟨b, 0, none⟩), i64 env, q.v] w fun e w' => e = .returned (i64 8) ∧ Below w.heap.size w w' := by
  have HB : Hid (∀ o o', Below w.heap.size w ((w.alloc o).alloc o')) := fun o o' => ((Below.refl _ _).alloc (Nat.le_refl _) o).alloc (by simp) o'
  have HK : Hid (Bk w base b t s) := h
  have HX : Hid (at_ s env = some x) := hx
  unfold badB at hbad
  rw [Bool.or_eq_false_iff] at hbad
  have H1 : Hid (outB 1 3 [env] = false) := hbad.1
  have H2 : Hid (outB 0 9223372036854775807 q.l = false) := hbad.2
  clear hbad h hx
  go_enter Try.func53, Try.ntmps53
  go_wp2_with fail
  refine (outside_one _ 1 3 env _ (heap_last2 w _ _)).mono ?_
  rintro e w1 ⟨rfl, rfl⟩
  rw [H1.out]
  go_wp2_with fail
  refine (outside_tri _ 0 9223372036854775807 q _ (bka (hlx w _) _)).mono ?_
  rintro e w1 ⟨rfl, rfl⟩
  rw [H2.out]
  go_wp2_with fail
  refine (pageOf_ok (HK.out.below (HB.out _ _)) env).mono ?_
  rintro e w2 ⟨rfl, hb2⟩
  rw [HX.out]
  have HB2 : Hid (Below w.heap.size w w2) := (HB.out _ _).trans (hb2.mono (by simp; omega))
  clear hb2
  unfold ptr
  go_wp2_with fail
  go_ret
  exact ⟨rfl, HB2.out⟩
theorem Bk.enter {w w' : World} {base b : Nat} {t : T} {s : St} (h : Bk w base b t s) {e : Nat} (q : T) (p : Nat) (hp : w.heap[p]? = some (pgO q zT)) (hlo : base ≤ p) (hn : ∀ i y, s i = some y → y.p ≠ p) (hw : Wf t (upd s e (some ⟨p, q, zT⟩))) (ht : Touch b w w') (hb : w'.heap[b]? = some (bkO t (upd s e (some ⟨p, q, zT⟩)))) :
    Bk w' base b t (upd s e (some ⟨p, q, zT⟩)) ∧ Fr base [118, 141] w w' := by
  have hne : ∀ i y, s i = some y → y.p ≠ b := fun i y hy e => by have h1 := h.book; rw [← e, (h.page i y hy).1] at h1; simp at h1
  have hpb : p ≠ b := fun e => by have h1 := h.book; rw [← e, hp] at h1; simp at h1
  refine ⟨⟨hb, h.lo, fun i y hy => ?_, fun i j y z hy hz hij => ?_, hw⟩, Fr.of_touch ht h.book (by rfl) h.lo⟩
  · unfold upd at hy
    by_cases hi : i = e
    · rw [if_pos hi] at hy
      cases hy
      exact ⟨by rw [ht.block p (blk_lt hp) hpb]; exact hp, hlo⟩
    · rw [if_neg hi] at hy
      have := h.page i y hy
      exact ⟨by rw [ht.block y.p (blk_lt this.1) (hne i y hy)]; exact this.1, this.2⟩
  · unfold upd at hy hz
    by_cases hi : i = e <;> by_cases hj : j = e
    · omega
    · rw [if_pos hi] at hy
      rw [if_neg hj] at hz
      cases hy
      exact fun e => hn j z hz e.symm
    · rw [if_neg hi] at hy
      rw [if_pos hj] at hz
      cases hz
      exact hn i y hy
    · rw [if_neg hi] at hy
      rw [if_neg hj] at hz
      exact h.apart i j y z hy hz hij
end Go.Proofs.Ytnknhencobhjdaa.Qt
namespace Go.Proofs.Ytnknhencobhjdaa.Qt
open Go.ChangeShapes Go.WideShapes Go.ChangeAt Go.RowKit Go.Deep
attribute [local go_sem ↓] Go.wp_at_zero Go.wp_at_succ
theorem badB_pos {env : Int} {q : T} (h : badB env q = false) : Pos q ∧ 1 ≤ env ∧ env ≤ 3 := by
  unfold badB outB T.l at h
  simp at h
  unfold Pos
  omega
theorem step_app_run {P : Program} {w : World} {ops : Array Oper} {o : Oper} {a : Act} {K : Act → World → Prop} {Q : Exit → Act → World → Prop} {E : Prop} (hgd : o.guard = none) (s x : Operand) (t : TypeId)
    (ho : o.op = .call { callee := .builtin .append, args := #[s, x], argTypes := #[t, t] }) (v1 v2 : Value) (hs : a.eval s = v1) (hx : a.eval x = v2) (ty : TypeId) (hty : o.type = ty) (r : Value) (w' : World)
    (hr : (Builtin.append_ #[t, t] ty #[v1, v2]).run P w = .ok r w') (h : K (a.put o.dst r) w') : if Region.wanted o (yielded ops a.tmps) = true then Oper.wp P o a w K Q else E := by
  have hw : Region.wanted o (yielded ops a.tmps) = true := by simp [Region.wanted, hgd]
  rw [if_pos hw]
  unfold Oper.wp execOp
  simp only [ho, resolve, invoke, builtin, Sem.run_bind, Sem.run_pure, Result.andThen_ok, List.map_toArray, List.map_cons, List.map_nil, hs, hx, hty, hr]
  exact h
theorem open_end {w w5 : World} {base b : Nat} {t q : T} {s : St} (h : Bk w base b t s) (hB : Below w.heap.size w w5) (k : Nat) (hk : k < 3) (hW : ∀ p, Wf t (upd s k (some ⟨p, q, zT⟩))) :
    Bk ((w5.setCell ⟨b, 3 + k, none⟩ (.pointer (some ⟨w5.heap.size, 0, none⟩))).alloc (pgO q zT)).drew base b t (upd s k (some ⟨w5.heap.size, q, zT⟩)) ∧ Fr base [118, 141] w ((w5.setCell ⟨b, 3 + k, none⟩ (.pointer (some ⟨w5.heap.size, 0, none⟩))).alloc (pgO q zT)).drew := by
  have h5 := h.below hB
  have hlo5 : base ≤ w5.heap.size := by have := blk_lt h5.book; have := h.lo; omega
  have hBa : Below w5.heap.size w5 (w5.alloc (pgO q zT)) := (Below.refl _ _).alloc (Nat.le_refl _) _
  have hbl := blk_lt h5.book
  obtain ⟨S, hS⟩ : ∃ S, S = w5.setCell ⟨b, 3 + k, none⟩ (.pointer (some ⟨w5.heap.size, 0, none⟩)) := ⟨_, rfl⟩
  have hSz : S.heap.size = w5.heap.size := by rw [hS]; simp
  have ht : Touch b (w5.alloc (pgO q zT)) (S.alloc (pgO q zT)).drew := by
    refine ⟨by rw [hS]; rfl, by rw [hS]; rfl, by rw [hS]; rfl, by simp [hSz], fun i hi hne => ?_⟩
    show (S.alloc (pgO q zT)).heap[i]? = _
    have hi' : i < w5.heap.size + 1 := by simpa using hi
    by_cases hlt : i < w5.heap.size
    · rw [Below.heap_alloc _ _ _ (by omega), Below.heap_alloc _ _ _ hlt, hS, heap_setCell_other _ _ _ _ hne]
    · obtain rfl : i = w5.heap.size := by omega
      rw [hlx w5, ← hSz, hlx S]
  have hbk : (S.alloc (pgO q zT)).drew.heap[b]? = some (bkO t (upd s k (some ⟨w5.heap.size, q, zT⟩))) := by
    show (S.alloc (pgO q zT)).heap[b]? = _
    rw [Below.heap_alloc _ _ _ (by omega), hS, heap_setCell_same w5 b (3 + k) _ 118 _ h5.book]
    obtain rfl | rfl | rfl : k = 0 ∨ k = 1 ∨ k = 2 := by omega
    all_goals rfl
  have hen := (h5.below hBa).enter (w' := (S.alloc (pgO q zT)).drew) (e := k) q w5.heap.size (hlx w5 _) hlo5 (fun i y hy he => by have := blk_lt (h5.page i y hy).1; omega) (hW _) ht hbk
  rw [hS] at hen
  exact ⟨hen.1, (Fr.of_below _ hB (by have := blk_lt h.book; have := h.lo; omega)).trans ((Fr.of_below _ hBa hlo5).trans hen.2)⟩
theorem app_run {V : World} {B : Nat} {v : Value} {ts : List T} (ho : V.ownsRow B 22 3 v ts.length (tcells ts)) (hl : ts.length ≤ 3) (hB : B ≤ V.heap.size) (q : T) :
    ∃ g cap w4, (Builtin.append_ #[138, 138] 138 #[v, .slice (some ⟨V.heap.size, 0, none⟩) 1 1]).run Try.prog (V.alloc (triO q)).drew = .ok (.slice (some ⟨g, 0, none⟩) (ts.length + 1) cap) w4 ∧ TSl w4 (some ⟨g, 0, none⟩) (ts ++ [q]) ∧ Below B V w4 := by
  obtain ⟨i22, hi, hz, hs, hby⟩ := info_parts info22x
  obtain ⟨g, cap, w4, hr, ho4, hg4, _, _⟩ := run_append_lies (P := Try.prog) (V.alloc (triO q)).drew 138 138 B 22 i22 (.agg #[i64 0, i64 0, i64 0]) 3 24 under61 hi hz hs hby rfl (by omega) v ts.length (tcells ts) (show (V.alloc (triO q)).drew.ownsRow B 22 3 v ts.length (tcells ts) from ho.alloc _) ⟨V.heap.size, 0, none⟩ 1 1 (tcells [q]) rfl (fun j u hu => by rw [World.cell?_drew]; exact new_tri V q j u hu) (tcells_one [q]) (by omega) (by unfold maxLen; omega) (by omega) (by simp; omega) _ rfl
  refine ⟨g, cap, w4, hr, ?_, ?_⟩
  · rw [← tcells_app] at ho4
    have : w4.ownsRow B 22 3 (.slice (some ⟨g, 0, none⟩) (ts.length + 1) cap) (ts ++ [q]).length (tcells (ts ++ [q])) := by rw [List.length_append]; exact ho4
    obtain ⟨ao, cap', he, ht⟩ := own_tsl this
    simp only [Value.slice.injEq] at he
    rw [he.1]
    exact ht
  · have h1 : Below B V (V.alloc (triO q)).drew := Below.drew ((Below.refl _ _).alloc hB _)
    exact h1.trans (below_grown hg4 (by simp; omega) (fun k hk => (ho.lt k hk).1))
set_option maxHeartbeats 4000000 in
theorem open_in {w : World} {base b : Nat} {t : T} {s : St} (h : Bk w base b t s) (env : Int) (q : T) (hbad : badB env q = false) (hx : at_ s env = none) (hr : roomB t s q = true) :
    Calls Try.prog 53 #[.pointer (some ⟨b, 0, none⟩), i64 env, q.v] w fun e w' => e = .returned (i64 0) ∧ ∃ p, Bk w' base b t (upd s (env - 1).toNat (some ⟨p, q, zT⟩)) ∧ Fr base [118, 141] w w' := by
  have HB : Hid (∀ o o', Below w.heap.size w ((w.alloc o).alloc o')) := fun o o' => ((Below.refl _ _).alloc (Nat.le_refl _) o).alloc (by simp) o'
  have HK : Hid (Bk w base b t s) := h
  have HX : Hid (at_ s env = none) := hx
  obtain ⟨hpos, e1, e2⟩ := badB_pos hbad
  have hs0 : s (env - 1).toNat = none := by unfold at_ at hx; rw [if_pos ⟨e1, e2⟩] at hx; exact hx
  have HW : Hid (∀ p, Wf t (upd s (env - 1).toNat (some ⟨p, q, zT⟩))) := fun p => h.wf.enter (by omega) hs0 hpos hr p
  have HF : Hid (fits t (told s (·.q) 3 ++ [q]) = true) := (fits_room h.wf hpos).trans hr
  have HL : Hid ((told s (·.q) 3).length ≤ 3) := told_le s _ 3
  have HP : Hid (∀ u ∈ told s (·.q) 3 ++ [q], 0 ≤ u.a ∧ 0 ≤ u.b ∧ 0 ≤ u.c) := fun u hu => by
    rw [List.mem_append] at hu
    rcases hu with hu | hu
    · exact told_pos h.wf u hu
    · simp at hu; subst hu; exact hpos
  have HT : Hid (Le t ⟨64, 64, 64⟩) := h.wf.tot
  have hbl := blk_lt h.book
  have hlo := h.lo
  unfold badB at hbad
  rw [Bool.or_eq_false_iff] at hbad
  have H1 : Hid (outB 1 3 [env] = false) := hbad.1
  have H2 : Hid (outB 0 9223372036854775807 q.l = false) := hbad.2
  have HUP : Hid (∀ U : World, U.heap[b]? = some (bkO t s) → U.heap[w.heap.size]? = some (triO q) → (U.cell? ⟨b, 0, none⟩ = some (i64 t.a) ∧ U.cell? ⟨b, 1, none⟩ = some (i64 t.b) ∧ U.cell? ⟨b, 2, none⟩ = some (i64 t.c) ∧ U.cell? ⟨w.heap.size, 0, none⟩ = some (i64 q.a) ∧ U.cell? ⟨w.heap.size, 1, none⟩ = some (i64 q.b) ∧ U.cell? ⟨w.heap.size, 2, none⟩ = some (i64 q.c))) := fun U hU hV => ⟨bkc hU 0, bkc hU 1, bkc hU 2, bkc hV 0, bkc hV 1, bkc hV 2⟩
  clear hbad h hx hr hpos hs0
  go_enter Try.func53, Try.ntmps53
  go_wp2_with fail
  refine (outside_one _ 1 3 env _ (heap_last2 w _ _)).mono ?_
  rintro e w1 ⟨rfl, rfl⟩
  rw [H1.out]
  go_wp2_with fail
  refine (outside_tri _ 0 9223372036854775807 q _ (bka (hlx w _) _)).mono ?_
  rintro e w1 ⟨rfl, rfl⟩
  rw [H2.out]
  go_wp2_with fail
  refine (pageOf_ok (HK.out.below (HB.out _ _)) env).mono ?_
  rintro e w2 ⟨rfl, hb2⟩
  rw [HX.out]
  have HQ2 : Hid (w2.heap[w.heap.size]? = some (triO q)) := bkb (bka (hlx w _) _) hb2
  have HB2 : Hid (Below w.heap.size w w2) := (HB.out _ _).trans (hb2.mono (by simp; omega))
  clear hb2
  unfold ptr
  go_wp2_with fail
  refine (all30_ok (HK.out.below HB2.out)).mono ?_
  rintro e V ⟨v, rfl, ho, hb3⟩
  have hV2 : w.heap.size < w2.heap.size := blk_lt HQ2.out
  have HKV : Hid (Bk V base b t s) := (HK.out.below HB2.out).below hb3
  have HQV : Hid (V.heap[w.heap.size]? = some (triO q)) := bkb HQ2.out hb3
  have HBV : Hid (Below w.heap.size w V) := HB2.out.trans (hb3.mono HB2.out.size)
  have hs3 := hb3.size
  obtain ⟨ao, cap, rfl, _⟩ := own_tsl ho
  obtain ⟨g, cap4, w4, hrun, hts, hb4⟩ := app_run ho HL.out hs3 q
  have hb4s := hb4.size
  have HTS : Hid (TSl w4 (some ⟨g, 0, none⟩) (told s (·.q) 3 ++ [q])) := hts
  have HK4 : Hid (w4.heap[b]? = some (bkO t s)) := by rw [Hid, hb4.block b (by have := HB2.out.size; omega)]; exact HKV.out.book
  have HQ4 : Hid (w4.heap[w.heap.size]? = some (triO q)) := by rw [Hid, hb4.block _ hV2]; exact HQV.out
  have HB4 : Hid (Below w2.heap.size V w4) := hb4
  have HN : Hid ((told s (·.q) 3 ++ [q]).length = (told s (·.q) 3).length + 1) := by simp [Hid]
  generalize (told s (·.q) 3).length = n at *
  have HRUN : Hid ((Builtin.append_ #[138, 138] 138 #[.slice ao n cap, .slice (some ⟨V.heap.size, 0, none⟩) 1 1]).run Try.prog (V.alloc (triO q)).drew = .ok (.slice (some ⟨g, 0, none⟩) (n + 1) cap4) w4) := hrun
  clear ho hb3 hb4 hts hrun
  obtain ⟨v0, v1, v2, v3, v4, v5⟩ := HUP.out V HKV.out.book HQV.out
  go_wp2_with fail
  go_region_held3 (fun U => U.cell? ⟨b, 0, none⟩ = some (i64 t.a) ∧ U.cell? ⟨b, 1, none⟩ = some (i64 t.b) ∧ U.cell? ⟨b, 2, none⟩ = some (i64 t.c) ∧ U.cell? ⟨w.heap.size, 0, none⟩ = some (i64 q.a) ∧ U.cell? ⟨w.heap.size, 1, none⟩ = some (i64 q.b) ∧ U.cell? ⟨w.heap.size, 2, none⟩ = some (i64 q.c)) (first | exact HUP.out _ HKV.out.book HQV.out | exact HUP.out _ HK4.out HQ4.out | exact HUP.out _ (bka HKV.out.book _) (bka HQV.out _) | exact HUP.out _ HK5.out HQ5.out)
    ((first | (refine step_app_run ?_ (.tmp 27) (.tmp 29) 138 ?_ _ _ ?_ ?_ 138 ?_ _ _ HRUN.out ?_; rfl; rfl; rfl; rfl; rfl) | (go_at_call 79; refine (by have := fit_ok w4 t (some ⟨g, 0, none⟩) cap4 (told s (·.q) 3 ++ [q]) HTS.out (by have := HN.out; have := HL.out; omega) HT.out HP.out; rw [HN.out, HF.out] at this; exact this : Calls Try.prog 79 #[t.v, .slice (some ⟨g, 0, none⟩) (n + 1) cap4] w4 fun e w' => e = .returned (.bool true) ∧ Below w4.heap.size w4 w').mono ?_; rintro e w5 ⟨rfl, hb5⟩; have HK5 : Hid (w5.heap[b]? = some (bkO t s)) := bkb HK4.out hb5; have HQ5 : Hid (w5.heap[w.heap.size]? = some (triO q)) := bkb HQ4.out hb5; have HB5 : Hid (Below w2.heap.size V w5) := HB4.out.trans (hb5.mono HB4.out.size |>.mono (by have := HB4.out.size; omega)); clear hb5)))
  all_goals go_wp2_with fail
  have hb5s := HB5.out.size
  have hq5 := blk_lt HQ5.out
  have hb5 := blk_lt HK5.out
  obtain ⟨z0, z1, z2, z3, z4, z5⟩ := HUP.out w5 HK5.out HQ5.out
  have fz : ∀ j, w5.frozen? ⟨b, j, none⟩ = false := bkf HK5.out
  have g0 : w5.cell? ⟨b, 3, none⟩ = some (ptr (s 0)) := bkc HK5.out 3
  have g1 : w5.cell? ⟨b, 4, none⟩ = some (ptr (s 1)) := bkc HK5.out 4
  have g2 : w5.cell? ⟨b, 5, none⟩ = some (ptr (s 2)) := bkc HK5.out 5
  generalize ptr (s 0) = P0 at g0
  generalize ptr (s 1) = P1 at g1
  generalize ptr (s 2) = P2 at g2
  clear v0 v1 v2 v3 v4 v5
  obtain rfl | rfl | rfl : env = 1 ∨ env = 2 ∨ env = 3 := by omega
  · go_region
    all_goals go_wp2_with fail
    all_goals go_ret
    all_goals exact ⟨rfl, _, open_end HK.out (HBV.out.trans (HB5.out.mono HB2.out.size)) 0 (by omega) HW.out⟩
  · go_region
    all_goals go_wp2_with fail
    all_goals go_ret
    all_goals exact ⟨rfl, _, open_end HK.out (HBV.out.trans (HB5.out.mono HB2.out.size)) 1 (by omega) HW.out⟩
  · go_region
    all_goals go_wp2_with fail
    all_goals go_ret
    all_goals exact ⟨rfl, _, open_end HK.out (HBV.out.trans (HB5.out.mono HB2.out.size)) 2 (by omega) HW.out⟩
set_option maxHeartbeats 4000000 in
theorem open_full {w : World} {base b : Nat} {t : T} {s : St} (h : Bk w base b t s) (env : Int) (q : T) (hbad : badB env q = false) (hx : at_ s env = none) (hr : roomB t s q = false) :
    Calls Try.prog 53 #[.pointer (some ⟨b, 0, none⟩), i64 env, q.v] w fun e w' => e = .returned (i64 5) ∧ Below w.heap.size w w' := by
  have HB : Hid (∀ o o', Below w.heap.size w ((w.alloc o).alloc o')) := fun o o' => ((Below.refl _ _).alloc (Nat.le_refl _) o).alloc (by simp) o'
  have HK : Hid (Bk w base b t s) := h
  have HX : Hid (at_ s env = none) := hx
  obtain ⟨hpos, e1, e2⟩ := badB_pos hbad
  have HF : Hid (fits t (told s (·.q) 3 ++ [q]) = false) := (fits_room h.wf hpos).trans hr
  have HL : Hid ((told s (·.q) 3).length ≤ 3) := told_le s _ 3
  have HP : Hid (∀ u ∈ told s (·.q) 3 ++ [q], 0 ≤ u.a ∧ 0 ≤ u.b ∧ 0 ≤ u.c) := fun u hu => by
    rw [List.mem_append] at hu
    rcases hu with hu | hu
    · exact told_pos h.wf u hu
    · simp at hu; subst hu; exact hpos
  have HT : Hid (Le t ⟨64, 64, 64⟩) := h.wf.tot
  have hbl := blk_lt h.book
  unfold badB at hbad
  rw [Bool.or_eq_false_iff] at hbad
  have H1 : Hid (outB 1 3 [env] = false) := hbad.1
  have H2 : Hid (outB 0 9223372036854775807 q.l = false) := hbad.2
  have HUP : Hid (∀ U : World, U.heap[b]? = some (bkO t s) → U.heap[w.heap.size]? = some (triO q) → (U.cell? ⟨b, 0, none⟩ = some (i64 t.a) ∧ U.cell? ⟨b, 1, none⟩ = some (i64 t.b) ∧ U.cell? ⟨b, 2, none⟩ = some (i64 t.c) ∧ U.cell? ⟨w.heap.size, 0, none⟩ = some (i64 q.a) ∧ U.cell? ⟨w.heap.size, 1, none⟩ = some (i64 q.b) ∧ U.cell? ⟨w.heap.size, 2, none⟩ = some (i64 q.c))) := fun U hU hV => ⟨bkc hU 0, bkc hU 1, bkc hU 2, bkc hV 0, bkc hV 1, bkc hV 2⟩
  clear hbad h hx hr hpos
  go_enter Try.func53, Try.ntmps53
  go_wp2_with fail
  refine (outside_one _ 1 3 env _ (heap_last2 w _ _)).mono ?_
  rintro e w1 ⟨rfl, rfl⟩
  rw [H1.out]
  go_wp2_with fail
  refine (outside_tri _ 0 9223372036854775807 q _ (bka (hlx w _) _)).mono ?_
  rintro e w1 ⟨rfl, rfl⟩
  rw [H2.out]
  go_wp2_with fail
  refine (pageOf_ok (HK.out.below (HB.out _ _)) env).mono ?_
  rintro e w2 ⟨rfl, hb2⟩
  rw [HX.out]
  have HQ2 : Hid (w2.heap[w.heap.size]? = some (triO q)) := bkb (bka (hlx w _) _) hb2
  have HB2 : Hid (Below w.heap.size w w2) := (HB.out _ _).trans (hb2.mono (by simp; omega))
  clear hb2
  unfold ptr
  go_wp2_with fail
  refine (all30_ok (HK.out.below HB2.out)).mono ?_
  rintro e V ⟨v, rfl, ho, hb3⟩
  have hV2 : w.heap.size < w2.heap.size := blk_lt HQ2.out
  have HKV : Hid (Bk V base b t s) := (HK.out.below HB2.out).below hb3
  have HQV : Hid (V.heap[w.heap.size]? = some (triO q)) := bkb HQ2.out hb3
  have HBV : Hid (Below w.heap.size w V) := HB2.out.trans (hb3.mono HB2.out.size)
  have hs3 := hb3.size
  obtain ⟨ao, cap, rfl, _⟩ := own_tsl ho
  obtain ⟨g, cap4, w4, hrun, hts, hb4⟩ := app_run ho HL.out hs3 q
  have hb4s := hb4.size
  have HTS : Hid (TSl w4 (some ⟨g, 0, none⟩) (told s (·.q) 3 ++ [q])) := hts
  have HK4 : Hid (w4.heap[b]? = some (bkO t s)) := by rw [Hid, hb4.block b (by have := HB2.out.size; omega)]; exact HKV.out.book
  have HQ4 : Hid (w4.heap[w.heap.size]? = some (triO q)) := by rw [Hid, hb4.block _ hV2]; exact HQV.out
  have HB4 : Hid (Below w2.heap.size V w4) := hb4
  have HN : Hid ((told s (·.q) 3 ++ [q]).length = (told s (·.q) 3).length + 1) := by simp [Hid]
  generalize (told s (·.q) 3).length = n at *
  have HRUN : Hid ((Builtin.append_ #[138, 138] 138 #[.slice ao n cap, .slice (some ⟨V.heap.size, 0, none⟩) 1 1]).run Try.prog (V.alloc (triO q)).drew = .ok (.slice (some ⟨g, 0, none⟩) (n + 1) cap4) w4) := hrun
  clear ho hb3 hb4 hts hrun
  obtain ⟨v0, v1, v2, v3, v4, v5⟩ := HUP.out V HKV.out.book HQV.out
  go_wp2_with fail
  go_region_held3 (fun U => U.cell? ⟨b, 0, none⟩ = some (i64 t.a) ∧ U.cell? ⟨b, 1, none⟩ = some (i64 t.b) ∧ U.cell? ⟨b, 2, none⟩ = some (i64 t.c) ∧ U.cell? ⟨w.heap.size, 0, none⟩ = some (i64 q.a) ∧ U.cell? ⟨w.heap.size, 1, none⟩ = some (i64 q.b) ∧ U.cell? ⟨w.heap.size, 2, none⟩ = some (i64 q.c)) (first | exact HUP.out _ HKV.out.book HQV.out | exact HUP.out _ HK4.out HQ4.out | exact HUP.out _ (bka HKV.out.book _) (bka HQV.out _) | exact HUP.out _ HK5.out HQ5.out)
    ((first | (refine step_app_run ?_ (.tmp 27) (.tmp 29) 138 ?_ _ _ ?_ ?_ 138 ?_ _ _ HRUN.out ?_; rfl; rfl; rfl; rfl; rfl) | (go_at_call 79; refine (by have := fit_ok w4 t (some ⟨g, 0, none⟩) cap4 (told s (·.q) 3 ++ [q]) HTS.out (by have := HN.out; have := HL.out; omega) HT.out HP.out; rw [HN.out, HF.out] at this; exact this : Calls Try.prog 79 #[t.v, .slice (some ⟨g, 0, none⟩) (n + 1) cap4] w4 fun e w' => e = .returned (.bool false) ∧ Below w4.heap.size w4 w').mono ?_; rintro e w5 ⟨rfl, hb5⟩; have HK5 : Hid (w5.heap[b]? = some (bkO t s)) := bkb HK4.out hb5; have HQ5 : Hid (w5.heap[w.heap.size]? = some (triO q)) := bkb HQ4.out hb5; have HB5 : Hid (Below w2.heap.size V w5) := HB4.out.trans (hb5.mono HB4.out.size |>.mono (by have := HB4.out.size; omega)); clear hb5)))
  all_goals go_wp2_with fail
  go_ret
  exact ⟨rfl, HBV.out.trans (HB5.out.mono HB2.out.size)⟩
def opE (t : T) (s : St) (env : Int) (q : T) : Int :=
  if badB env q = true then 1 else match at_ s env with
    | some _ => 8
    | none => if roomB t s q = true then 0 else 5
def OpS (t : T) (s s' : St) (env : Int) (q : T) : Prop :=
  if opE t s env q = 0 then ∃ p, s' = upd s (env - 1).toNat (some ⟨p, q, zT⟩) else s' = s
theorem open_ok {w : World} {base b : Nat} {t : T} {s : St} (h : Bk w base b t s) (env : Int) (q : T) :
    Calls Try.prog 53 #[.pointer (some ⟨b, 0, none⟩), i64 env, q.v] w fun e w' => e = .returned (i64 (opE t s env q)) ∧ ∃ s', OpS t s s' env q ∧ Bk w' base b t s' ∧ Fr base [118, 141] w w' := by
  have hlo : base ≤ w.heap.size := by have := blk_lt h.book; have := h.lo; omega
  have fin : ∀ (c : Int), opE t s env q = c → c ≠ 0 → Calls Try.prog 53 #[.pointer (some ⟨b, 0, none⟩), i64 env, q.v] w (fun e w' => e = .returned (i64 c) ∧ Below w.heap.size w w') → Calls Try.prog 53 #[.pointer (some ⟨b, 0, none⟩), i64 env, q.v] w (fun e w' => e = .returned (i64 (opE t s env q)) ∧ ∃ s', OpS t s s' env q ∧ Bk w' base b t s' ∧ Fr base [118, 141] w w') := fun c hc h0 hcall =>
    hcall.mono fun e w' ⟨he, hb⟩ => ⟨by rw [he, hc], s, by unfold OpS; rw [hc, if_neg h0], h.below hb, Fr.of_below _ hb hlo⟩
  by_cases hbad : badB env q = true
  · exact fin 1 (by unfold opE; rw [if_pos hbad]) (by decide) (open_bad w _ env q hbad)
  · have hbad' : badB env q = false := by simpa using hbad
    cases hx : at_ s env with
    | some x => exact fin 8 (by unfold opE; rw [if_neg hbad, hx]) (by decide) (open_same h env q hbad' x hx)
    | none =>
      by_cases hr : roomB t s q = true
      · have h0 : opE t s env q = 0 := by unfold opE; rw [if_neg hbad, hx]; simp only; rw [if_pos hr]
        refine (open_in h env q hbad' hx hr).mono fun e w' ⟨he, p, hb, hf⟩ => ⟨by rw [he, h0], _, ?_, hb, hf⟩
        unfold OpS
        rw [if_pos h0]
        exact ⟨p, rfl⟩
      · exact fin 5 (by unfold opE; rw [if_neg hbad, hx]; simp only; rw [if_neg hr]) (by decide) (open_full h env q hbad' hx (by simpa using hr))
end Go.Proofs.Ytnknhencobhjdaa.Qt
namespace Go.Proofs.Ytnknhencobhjdaa.Qt
open Go.ChangeShapes Go.WideShapes Go.ChangeAt Go.RowKit Go.Deep
theorem cells3 : Try.prog.cellsOf 3 = 1 := by kernel_rfl
theorem eqIn22 (d : Nat) (t u : T) (w : World) : (Op.equalIn (d + 2) 22 t.v u.v).run Try.prog w = .ok (decide (t = u)) w := by
  obtain ⟨i, hi⟩ := info_of_underlying Try.underlying3
  rw [run_equalIn_array w (d + 1) _ _ Try.underlying22 hi, cells3]
  have p0 : ∀ (x y z : Int) (w : World), (part 3 #[i64 x, i64 y, i64 z] 0).run Try.prog w = .ok (i64 x) w := fun x y z w => by kernel_rfl
  have p1 : ∀ (x y z : Int) (w : World), (part 3 #[i64 x, i64 y, i64 z] 1).run Try.prog w = .ok (i64 y) w := fun x y z w => by kernel_rfl
  have p2 : ∀ (x y z : Int) (w : World), (part 3 #[i64 x, i64 y, i64 z] 2).run Try.prog w = .ok (i64 z) w := fun x y z w => by kernel_rfl
  have hq : ∀ (x y : Int) (w : World), (Op.equalIn (d + 1) 3 (i64 x) (i64 y)).run Try.prog w = .ok (x == y) w := fun x y w => run_equalIn_int w d 3 .i64 .i64 x y Try.underlying3
  rcases t with ⟨a1, a2, a3⟩
  rcases u with ⟨b1, b2, b3⟩
  have hr : List.range 3 = [0, 1, 2] := rfl
  rw [hr]
  by_cases h1 : a1 = b1 <;> by_cases h2 : a2 = b2 <;> by_cases h3 : a3 = b3 <;> simp [Op.eqItems, p0, p1, p2, hq, h1, h2, h3, Result.andThen]
end Go.Proofs.Ytnknhencobhjdaa.Qt
namespace Go.Proofs.Ytnknhencobhjdaa.Qt
open Go.ChangeShapes Go.WideShapes Go.ChangeAt Go.RowKit Go.Deep
structure Sp where
  what : Int
  env : Int
  kind : Int
  n : Int
  q : T
abbrev Sp.c (s : Sp) : List Value := [i64 s.what, i64 s.env, i64 s.kind, i64 s.n, i64 s.q.a, i64 s.q.b, i64 s.q.c]
abbrev Sp.v (s : Sp) : Value := .agg #[i64 s.what, i64 s.env, i64 s.kind, i64 s.n, i64 s.q.a, i64 s.q.b, i64 s.q.c]
abbrev spO (s : Sp) : Obj := .cells #[i64 s.what, i64 s.env, i64 s.kind, i64 s.n, i64 s.q.a, i64 s.q.b, i64 s.q.c] 35
theorem badB_eq (env : Int) (q : T) (ha : q.a ≤ 9223372036854775807) (hb : q.b ≤ 9223372036854775807) (hc : q.c ≤ 9223372036854775807) : badB env q = decide (env < 1 ∨ 3 < env ∨ q.a < 0 ∨ q.b < 0 ∨ q.c < 0) := by
  unfold badB outB T.l
  rw [Bool.eq_iff_iff]
  simp
  omega
end Go.Proofs.Ytnknhencobhjdaa.Qt
