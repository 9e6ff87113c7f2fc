/- quota.Book's all, with both functions that are handed to it: contracts; no statement is proved in this text. -/
import Derived.Test.YtnknhencobhjdaaQtFit
namespace Go.Proofs.Ytnknhencobhjdaa.Qt
open Go.ChangeShapes Go.WideShapes Go.ChangeAt Go.RowKit Go.Deep

theorem info22x : (Try.prog.info? 22).map (fun i => (i.zero, i.size, i.bytes)) = some (some (.agg #[i64 0, i64 0, i64 0]), 3, 24) := by kernel_rfl
theorem under61 : Try.prog.underlying 138 = some (.slice 22) := by kernel_rfl
def tcells : List T → List Value
  | [] => []
  | u :: r => i64 u.a :: i64 u.b :: i64 u.c :: tcells r
theorem tcells_len : ∀ ts : List T, (tcells ts).length = ts.length * 3
  | [] => rfl
  | u :: r => by simp [tcells, tcells_len r]; omega
theorem tcells_app : ∀ a b : List T, tcells (a ++ b) = tcells a ++ tcells b
  | [], b => rfl
  | u :: r, b => by simp [tcells, tcells_app r b]
theorem tcells_get : ∀ (ts : List T) (i : Nat) (x : T), ts[i]? = some x → (tcells ts)[i * 3]? = some (i64 x.a) ∧ (tcells ts)[i * 3 + 1]? = some (i64 x.b) ∧ (tcells ts)[i * 3 + 2]? = some (i64 x.c)
  | [], i, x, h => by simp at h
  | u :: r, 0, x, h => by
    simp at h
    subst h
    exact ⟨rfl, rfl, rfl⟩
  | u :: r, i + 1, x, h => by
    have := tcells_get r i x (by simpa using h)
    rw [show (i + 1) * 3 = i * 3 + 1 + 1 + 1 by omega]
    simpa [tcells] using this
def told (s : St) (f : Pge → T) : Nat → List T
  | 0 => []
  | k + 1 => told s f k ++ (match s k with | none => [] | some x => [f x])
theorem ptr_one (o : Option Pge) : (ptr o).oneCell' = true := by cases o <;> rfl
theorem own_tsl {w : World} {base : Nat} {v : Value} {ts : List T} (h : w.ownsRow base 22 3 v ts.length (tcells ts)) : ∃ ao cap, v = .slice ao ts.length cap ∧ TSl w ao ts := by
  rcases h.2 with ⟨rfl, h0⟩ | ⟨g, cap, cur, rfl, hb, hg, _⟩
  · exact ⟨none, 0, by rw [h0], Or.inl (List.eq_nil_of_length_eq_zero h0)⟩
  · refine ⟨_, cap, rfl, Or.inr ⟨g, rfl, blk_lt hg, fun i x hx => ?_⟩⟩
    have hi : i < ts.length := (List.getElem?_eq_some_iff.1 hx).1
    rw [h.cellAt _ (by omega), h.cellAt _ (by omega), h.cellAt _ (by omega)]
    exact tcells_get ts i x hx
theorem pidx0 (x y z : Value) (w : World) : (Instr.index 116 (.agg #[x, y, z]) (.int .i64 0)).run Try.prog w = .ok x w := by kernel_rfl
theorem pidx1 (x y z : Value) (w : World) : (Instr.index 116 (.agg #[x, y, z]) (.int .i64 1)).run Try.prog w = .ok y w := by kernel_rfl
theorem pidx2 (x y z : Value) (w : World) : (Instr.index 116 (.agg #[x, y, z]) (.int .i64 2)).run Try.prog w = .ok z w := by kernel_rfl
theorem told_le (s : St) (f : Pge → T) : ∀ k, (told s f k).length ≤ k
  | 0 => Nat.le_refl _
  | k + 1 => by
    have := told_le s f k
    unfold told
    rw [List.length_append]
    cases s k <;> simp <;> omega
theorem own_below {w w' : World} {base : Nat} {e : TypeId} {size : Nat} {v : Value} {n : Nat} {xs : List Value} (h : w.ownsRow base e size v n xs) (hb : Below w.heap.size w w') : w'.ownsRow base e size v n xs := by
  refine ⟨h.1, ?_⟩
  rcases h.2 with hn | ⟨g, cap, cur, rfl, hbg, hgg, rest⟩
  · exact .inl hn
  · exact .inr ⟨g, cap, cur, rfl, hbg, blk_below hgg hb, rest⟩
theorem tcells_one : ∀ ts : List T, ∀ v ∈ tcells ts, v.oneCell' = true
  | [], v, h => by cases h
  | u :: r, v, h => by
    simp only [tcells, List.mem_cons] at h
    rcases h with rfl | rfl | rfl | h
    · rfl
    · rfl
    · rfl
    · exact tcells_one r v h
theorem new_tri (w : World) (x : T) : ∀ j u, (tcells [x])[j]? = some u → (w.alloc (triO x)).cell? ((⟨w.heap.size, 0, none⟩ : Addr).add j) = some u :=
  fun j u hu => World.news_of_block (heap_last w (triO x)) j u hu
theorem below_grown {B : Nat} {w w' : World} {row : Option Nat} (h : w.grownBy w' row) (hB : B ≤ w.heap.size) (hr : ∀ g, row = some g → B ≤ g) : Below B w w' :=
  ⟨h.os, h.tape, h.output, h.size, fun k hk => h.block k (by omega) (fun e => by have := hr k e.symm; omega)⟩
theorem block_old {B : Nat} {w w' : World} (h : Below B w w') {b : Nat} (hb : b < B) : w'.heap[b]? = w.heap[b]? := h.block b hb
set_option maxRecDepth 100000 in
theorem c30_ok (w : World) (x : Pge) (hp : w.heap[x.p]? = some (pgO x.q x.h)) :
    Calls Try.prog 78 #[.pointer (some ⟨x.p, 0, none⟩)] w fun e w' => e = .returned x.q.v ∧ Below w.heap.size w w' := by
  have HB : Hid (∀ o, Below w.heap.size w (w.alloc o)) := fun o => (Below.refl _ _).alloc (Nat.le_refl _) o
  have hpl := blk_lt hp
  have d0 : w.cell? ⟨x.p, 0, none⟩ = some (i64 x.q.a) := blk_cell hp 0
  have d1 : w.cell? ⟨x.p, 1, none⟩ = some (i64 x.q.b) := blk_cell hp 1
  have d2 : w.cell? ⟨x.p, 2, none⟩ = some (i64 x.q.c) := blk_cell hp 2
  clear hp
  go_enter Try.func78, Try.ntmps78
  go_wp2_with fail
  refine bodyPost_ret (v := x.q.v) (by simp [results, Try.results78, go_sem]) rfl ⟨rfl, ?_⟩
  exact HB.out _
set_option maxRecDepth 100000 in
set_option maxHeartbeats 2000000 in
theorem all30_ok {w : World} {base b : Nat} {t : T} {s : St} (h : Bk w base b t s) :
    Calls Try.prog 75 #[.pointer (some ⟨b, 0, none⟩), .func (.func 78) #[] #[]] w fun e w' => ∃ v, e = .returned v ∧ w'.ownsRow w.heap.size 22 3 v (told s (·.q) 3).length (tcells (told s (·.q) 3)) ∧ Below w.heap.size w w' := by
  obtain ⟨i22, hi, hz, hs, hby⟩ := info_parts info22x
  have HI : Hid (Try.prog.info? 22 = some i22) := hi
  have HK : Hid (Bk w base b t s) := h
  have hbk := h.book
  have b0 : w.cell? ⟨b, 3, none⟩ = some (ptr (s 0)) := blk_cell hbk 3
  have b1 : w.cell? ⟨b, 4, none⟩ = some (ptr (s 1)) := blk_cell hbk 4
  have b2 : w.cell? ⟨b, 5, none⟩ = some (ptr (s 2)) := blk_cell hbk 5
  obtain ⟨P0, hP0⟩ : ∃ P, ptr (s 0) = P := ⟨_, rfl⟩
  obtain ⟨P1, hP1⟩ : ∃ P, ptr (s 1) = P := ⟨_, rfl⟩
  obtain ⟨P2, hP2⟩ : ∃ P, ptr (s 2) = P := ⟨_, rfl⟩
  rw [hP0] at b0
  rw [hP1] at b1
  rw [hP2] at b2
  have HP0 : Hid (ptr (s 0) = P0) := hP0
  have HP1 : Hid (ptr (s 1) = P1) := hP1
  have HP2 : Hid (ptr (s 2) = P2) := hP2
  clear hP0 hP1 hP2
  clear h hi hbk
  go_enter Try.func75, Try.ntmps75
  go_wp2_with fail
  go_loopw [5, 12] (fun v i wr => ∃ k : Nat, k ≤ 3 ∧ i = i64 k ∧ wr.ownsRow w.heap.size 22 3 v (told s (·.q) k).length (tcells (told s (·.q) k)) ∧ Below w.heap.size w wr) (fun _ i _ => 3 - (intOf i).toNat)
  case atStart => exact ⟨0, by omega, rfl, World.ownsRow_nil _ _ _ _, Below.refl _ _⟩
  case round =>
    obtain ⟨k, hk, rfl, how, hbw⟩ := hrel
    have HO : Hid (wr.ownsRow w.heap.size 22 3 u5 (told s (·.q) k).length (tcells (told s (·.q) k))) := how
    have HB : Hid (Below w.heap.size w wr) := hbw
    clear how hbw
    obtain rfl | rfl | rfl | rfl : k = 0 ∨ k = 1 ∨ k = 2 ∨ k = 3 := by omega
    · cases hx : s 0 with
      | none =>
        have ix : ∀ w, (Instr.index 116 (.agg #[P0, P1, P2]) (.int .i64 0)).run Try.prog w = .ok (.pointer none) w := fun w => (pidx0 P0 P1 P2 w).trans (by rw [← HP0.out, hx]; rfl)
        have HT : Hid (told s (·.q) 1 = told s (·.q) 0) := by show _ = _; simp [told, hx]
        clear hx
        go_wp2_with fail
        exact ⟨⟨1, by omega, by go_num, by rw [HT.out]; exact HO.out, HB.out⟩, by simp [intOf]⟩
      | some x =>
        have ix : ∀ w, (Instr.index 116 (.agg #[P0, P1, P2]) (.int .i64 0)).run Try.prog w = .ok (.pointer (some ⟨x.p, 0, none⟩)) w := fun w => (pidx0 P0 P1 P2 w).trans (by rw [← HP0.out, hx]; rfl)
        have HT : Hid (told s (·.q) 1 = told s (·.q) 0 ++ [x.q]) := by show _ = _; simp [told, hx]
        have HX : Hid (s 0 = some x) := hx
        have HL : Hid ((told s (·.q) 0).length ≤ 0) := told_le s _ 0
        clear hx
        go_wp2_with fail
        refine (c30_ok wr x (by rw [block_old HB.out (blk_lt (HK.out.page 0 x HX.out).1)]; exact (HK.out.page 0 x HX.out).1)).mono ?_
        rintro e w2 ⟨rfl, hb2⟩
        have HB2 : Hid (Below w.heap.size w w2) := HB.out.trans (hb2.mono HB.out.size)
        have HO2 : Hid (w2.ownsRow w.heap.size 22 3 u5 (told s (·.q) 0).length (tcells (told s (·.q) 0))) := own_below HO.out hb2
        clear hb2
        go_wp2_with (at_builtin; refine wpList_append_own _ rfl (.tmp 17) (.tmp 21) 138 rfl w.heap.size 22 i22 (.agg #[i64 0, i64 0, i64 0]) 3 24 under61 HI.out hz hs hby rfl (by omega) u5 _ _ rfl (HO2.out.alloc _) ⟨_, 0, none⟩ 1 1 (tcells [x.q]) rfl rfl (new_tri _ _) (tcells_one _) (by have := HL.out; unfold maxLen; omega) (by have := HL.out; omega) (by have := HB2.out.size; simp; omega) ?_; intro v' w3 ho3 hg3 _; have HB3 : Hid (Below w.heap.size w w3) := (HB2.out.alloc HB2.out.size _).trans (below_grown hg3 (by have := HB2.out.size; simp; omega) (fun g hg => (HO2.out.lt g hg).1)); have HO3 : Hid (w3.ownsRow w.heap.size 22 3 v' ((told s (·.q) 0).length + 1) (tcells (told s (·.q) 0) ++ tcells [x.q])) := ho3; clear ho3 hg3)
        exact ⟨⟨1, by omega, by go_num, by rw [HT.out, List.length_append, tcells_app]; exact HO3.out, HB3.out⟩, by simp [intOf]⟩
    · cases hx : s 1 with
      | none =>
        have ix : ∀ w, (Instr.index 116 (.agg #[P0, P1, P2]) (.int .i64 1)).run Try.prog w = .ok (.pointer none) w := fun w => (pidx1 P0 P1 P2 w).trans (by rw [← HP1.out, hx]; rfl)
        have HT : Hid (told s (·.q) 2 = told s (·.q) 1) := by show _ = _; simp [told, hx]
        clear hx
        go_wp2_with fail
        exact ⟨⟨2, by omega, by go_num, by rw [HT.out]; exact HO.out, HB.out⟩, by simp [intOf]⟩
      | some x =>
        have ix : ∀ w, (Instr.index 116 (.agg #[P0, P1, P2]) (.int .i64 1)).run Try.prog w = .ok (.pointer (some ⟨x.p, 0, none⟩)) w := fun w => (pidx1 P0 P1 P2 w).trans (by rw [← HP1.out, hx]; rfl)
        have HT : Hid (told s (·.q) 2 = told s (·.q) 1 ++ [x.q]) := by show _ = _; simp [told, hx]
        have HX : Hid (s 1 = some x) := hx
        have HL : Hid ((told s (·.q) 1).length ≤ 1) := told_le s _ 1
        clear hx
        go_wp2_with fail
        refine (c30_ok wr x (by rw [block_old HB.out (blk_lt (HK.out.page 1 x HX.out).1)]; exact (HK.out.page 1 x HX.out).1)).mono ?_
        rintro e w2 ⟨rfl, hb2⟩
        have HB2 : Hid (Below w.heap.size w w2) := HB.out.trans (hb2.mono HB.out.size)
        have HO2 : Hid (w2.ownsRow w.heap.size 22 3 u5 (told s (·.q) 1).length (tcells (told s (·.q) 1))) := own_below HO.out hb2
        clear hb2
        go_wp2_with (at_builtin; refine wpList_append_own _ rfl (.tmp 17) (.tmp 21) 138 rfl w.heap.size 22 i22 (.agg #[i64 0, i64 0, i64 0]) 3 24 under61 HI.out hz hs hby rfl (by omega) u5 _ _ rfl (HO2.out.alloc _) ⟨_, 0, none⟩ 1 1 (tcells [x.q]) rfl rfl (new_tri _ _) (tcells_one _) (by have := HL.out; unfold maxLen; omega) (by have := HL.out; omega) (by have := HB2.out.size; simp; omega) ?_; intro v' w3 ho3 hg3 _; have HB3 : Hid (Below w.heap.size w w3) := (HB2.out.alloc HB2.out.size _).trans (below_grown hg3 (by have := HB2.out.size; simp; omega) (fun g hg => (HO2.out.lt g hg).1)); have HO3 : Hid (w3.ownsRow w.heap.size 22 3 v' ((told s (·.q) 1).length + 1) (tcells (told s (·.q) 1) ++ tcells [x.q])) := ho3; clear ho3 hg3)
        exact ⟨⟨2, by omega, by go_num, by rw [HT.out, List.length_append, tcells_app]; exact HO3.out, HB3.out⟩, by simp [intOf]⟩
    · cases hx : s 2 with
      | none =>
        have ix : ∀ w, (Instr.index 116 (.agg #[P0, P1, P2]) (.int .i64 2)).run Try.prog w = .ok (.pointer none) w := fun w => (pidx2 P0 P1 P2 w).trans (by rw [← HP2.out, hx]; rfl)
        have HT : Hid (told s (·.q) 3 = told s (·.q) 2) := by show _ = _; simp [told, hx]
        clear hx
        go_wp2_with fail
        exact ⟨⟨3, by omega, by go_num, by rw [HT.out]; exact HO.out, HB.out⟩, by simp [intOf]⟩
      | some x =>
        have ix : ∀ w, (Instr.index 116 (.agg #[P0, P1, P2]) (.int .i64 2)).run Try.prog w = .ok (.pointer (some ⟨x.p, 0, none⟩)) w := fun w => (pidx2 P0 P1 P2 w).trans (by rw [← HP2.out, hx]; rfl)
        have HT : Hid (told s (·.q) 3 = told s (·.q) 2 ++ [x.q]) := by show _ = _; simp [told, hx]
        have HX : Hid (s 2 = some x) := hx
        have HL : Hid ((told s (·.q) 2).length ≤ 2) := told_le s _ 2
        clear hx
        go_wp2_with fail
        refine (c30_ok wr x (by rw [block_old HB.out (blk_lt (HK.out.page 2 x HX.out).1)]; exact (HK.out.page 2 x HX.out).1)).mono ?_
        rintro e w2 ⟨rfl, hb2⟩
        have HB2 : Hid (Below w.heap.size w w2) := HB.out.trans (hb2.mono HB.out.size)
        have HO2 : Hid (w2.ownsRow w.heap.size 22 3 u5 (told s (·.q) 2).length (tcells (told s (·.q) 2))) := own_below HO.out hb2
        clear hb2
        go_wp2_with (at_builtin; refine wpList_append_own _ rfl (.tmp 17) (.tmp 21) 138 rfl w.heap.size 22 i22 (.agg #[i64 0, i64 0, i64 0]) 3 24 under61 HI.out hz hs hby rfl (by omega) u5 _ _ rfl (HO2.out.alloc _) ⟨_, 0, none⟩ 1 1 (tcells [x.q]) rfl rfl (new_tri _ _) (tcells_one _) (by have := HL.out; unfold maxLen; omega) (by have := HL.out; omega) (by have := HB2.out.size; simp; omega) ?_; intro v' w3 ho3 hg3 _; have HB3 : Hid (Below w.heap.size w w3) := (HB2.out.alloc HB2.out.size _).trans (below_grown hg3 (by have := HB2.out.size; simp; omega) (fun g hg => (HO2.out.lt g hg).1)); have HO3 : Hid (w3.ownsRow w.heap.size 22 3 v' ((told s (·.q) 2).length + 1) (tcells (told s (·.q) 2) ++ tcells [x.q])) := ho3; clear ho3 hg3)
        exact ⟨⟨3, by omega, by go_num, by rw [HT.out, List.length_append, tcells_app]; exact HO3.out, HB3.out⟩, by simp [intOf]⟩
    · go_wp2_with fail
      go_ret
      exact ⟨_, rfl, HO.out, HB.out⟩
set_option maxRecDepth 100000 in
theorem c28_ok (w : World) (x : Pge) (hp : w.heap[x.p]? = some (pgO x.q x.h)) :
    Calls Try.prog 76 #[.pointer (some ⟨x.p, 0, none⟩)] w fun e w' => e = .returned x.h.v ∧ Below w.heap.size w w' := by
  have HB : Hid (∀ o, Below w.heap.size w (w.alloc o)) := fun o => (Below.refl _ _).alloc (Nat.le_refl _) o
  have hpl := blk_lt hp
  have d0 : w.cell? ⟨x.p, 3, none⟩ = some (i64 x.h.a) := blk_cell hp 3
  have d1 : w.cell? ⟨x.p, 4, none⟩ = some (i64 x.h.b) := blk_cell hp 4
  have d2 : w.cell? ⟨x.p, 5, none⟩ = some (i64 x.h.c) := blk_cell hp 5
  clear hp
  go_enter Try.func76, Try.ntmps76
  go_wp2_with fail
  refine bodyPost_ret (v := x.h.v) (by simp [results, Try.results76, go_sem]) rfl ⟨rfl, ?_⟩
  exact HB.out _
set_option maxRecDepth 100000 in
set_option maxHeartbeats 2000000 in
theorem all28_ok {w : World} {base b : Nat} {t : T} {s : St} (h : Bk w base b t s) :
    Calls Try.prog 75 #[.pointer (some ⟨b, 0, none⟩), .func (.func 76) #[] #[]] w fun e w' => ∃ v, e = .returned v ∧ w'.ownsRow w.heap.size 22 3 v (told s (·.h) 3).length (tcells (told s (·.h) 3)) ∧ Below w.heap.size w w' := by
  obtain ⟨i22, hi, hz, hs, hby⟩ := info_parts info22x
  have HI : Hid (Try.prog.info? 22 = some i22) := hi
  have HK : Hid (Bk w base b t s) := h
  have hbk := h.book
  have b0 : w.cell? ⟨b, 3, none⟩ = some (ptr (s 0)) := blk_cell hbk 3
  have b1 : w.cell? ⟨b, 4, none⟩ = some (ptr (s 1)) := blk_cell hbk 4
  have b2 : w.cell? ⟨b, 5, none⟩ = some (ptr (s 2)) := blk_cell hbk 5
  obtain ⟨P0, hP0⟩ : ∃ P, ptr (s 0) = P := ⟨_, rfl⟩
  obtain ⟨P1, hP1⟩ : ∃ P, ptr (s 1) = P := ⟨_, rfl⟩
  obtain ⟨P2, hP2⟩ : ∃ P, ptr (s 2) = P := ⟨_, rfl⟩
  rw [hP0] at b0
  rw [hP1] at b1
  rw [hP2] at b2
  have HP0 : Hid (ptr (s 0) = P0) := hP0
  have HP1 : Hid (ptr (s 1) = P1) := hP1
  have HP2 : Hid (ptr (s 2) = P2) := hP2
  clear hP0 hP1 hP2
  clear h hi hbk
  go_enter Try.func75, Try.ntmps75
  go_wp2_with fail
  go_loopw [5, 12] (fun v i wr => ∃ k : Nat, k ≤ 3 ∧ i = i64 k ∧ wr.ownsRow w.heap.size 22 3 v (told s (·.h) k).length (tcells (told s (·.h) k)) ∧ Below w.heap.size w wr) (fun _ i _ => 3 - (intOf i).toNat)
  case atStart => exact ⟨0, by omega, rfl, World.ownsRow_nil _ _ _ _, Below.refl _ _⟩
  case round =>
    obtain ⟨k, hk, rfl, how, hbw⟩ := hrel
    have HO : Hid (wr.ownsRow w.heap.size 22 3 u5 (told s (·.h) k).length (tcells (told s (·.h) k))) := how
    have HB : Hid (Below w.heap.size w wr) := hbw
    clear how hbw
    obtain rfl | rfl | rfl | rfl : k = 0 ∨ k = 1 ∨ k = 2 ∨ k = 3 := by omega
    · cases hx : s 0 with
      | none =>
        have ix : ∀ w, (Instr.index 116 (.agg #[P0, P1, P2]) (.int .i64 0)).run Try.prog w = .ok (.pointer none) w := fun w => (pidx0 P0 P1 P2 w).trans (by rw [← HP0.out, hx]; rfl)
        have HT : Hid (told s (·.h) 1 = told s (·.h) 0) := by show _ = _; simp [told, hx]
        clear hx
        go_wp2_with fail
        exact ⟨⟨1, by omega, by go_num, by rw [HT.out]; exact HO.out, HB.out⟩, by simp [intOf]⟩
      | some x =>
        have ix : ∀ w, (Instr.index 116 (.agg #[P0, P1, P2]) (.int .i64 0)).run Try.prog w = .ok (.pointer (some ⟨x.p, 0, none⟩)) w := fun w => (pidx0 P0 P1 P2 w).trans (by rw [← HP0.out, hx]; rfl)
        have HT : Hid (told s (·.h) 1 = told s (·.h) 0 ++ [x.h]) := by show _ = _; simp [told, hx]
        have HX : Hid (s 0 = some x) := hx
        have HL : Hid ((told s (·.h) 0).length ≤ 0) := told_le s _ 0
        clear hx
        go_wp2_with fail
        refine (c28_ok wr x (by rw [block_old HB.out (blk_lt (HK.out.page 0 x HX.out).1)]; exact (HK.out.page 0 x HX.out).1)).mono ?_
        rintro e w2 ⟨rfl, hb2⟩
        have HB2 : Hid (Below w.heap.size w w2) := HB.out.trans (hb2.mono HB.out.size)
        have HO2 : Hid (w2.ownsRow w.heap.size 22 3 u5 (told s (·.h) 0).length (tcells (told s (·.h) 0))) := own_below HO.out hb2
        clear hb2
        go_wp2_with (at_builtin; refine wpList_append_own _ rfl (.tmp 17) (.tmp 21) 138 rfl w.heap.size 22 i22 (.agg #[i64 0, i64 0, i64 0]) 3 24 under61 HI.out hz hs hby rfl (by omega) u5 _ _ rfl (HO2.out.alloc _) ⟨_, 0, none⟩ 1 1 (tcells [x.h]) rfl rfl (new_tri _ _) (tcells_one _) (by have := HL.out; unfold maxLen; omega) (by have := HL.out; omega) (by have := HB2.out.size; simp; omega) ?_; intro v' w3 ho3 hg3 _; have HB3 : Hid (Below w.heap.size w w3) := (HB2.out.alloc HB2.out.size _).trans (below_grown hg3 (by have := HB2.out.size; simp; omega) (fun g hg => (HO2.out.lt g hg).1)); have HO3 : Hid (w3.ownsRow w.heap.size 22 3 v' ((told s (·.h) 0).length + 1) (tcells (told s (·.h) 0) ++ tcells [x.h])) := ho3; clear ho3 hg3)
        exact ⟨⟨1, by omega, by go_num, by rw [HT.out, List.length_append, tcells_app]; exact HO3.out, HB3.out⟩, by simp [intOf]⟩
    · cases hx : s 1 with
      | none =>
        have ix : ∀ w, (Instr.index 116 (.agg #[P0, P1, P2]) (.int .i64 1)).run Try.prog w = .ok (.pointer none) w := fun w => (pidx1 P0 P1 P2 w).trans (by rw [← HP1.out, hx]; rfl)
        have HT : Hid (told s (·.h) 2 = told s (·.h) 1) := by show _ = _; simp [told, hx]
        clear hx
        go_wp2_with fail
        exact ⟨⟨2, by omega, by go_num, by rw [HT.out]; exact HO.out, HB.out⟩, by simp [intOf]⟩
      | some x =>
        have ix : ∀ w, (Instr.index 116 (.agg #[P0, P1, P2]) (.int .i64 1)).run Try.prog w = .ok (.pointer (some ⟨x.p, 0, none⟩)) w := fun w => (pidx1 P0 P1 P2 w).trans (by rw [← HP1.out, hx]; rfl)
        have HT : Hid (told s (·.h) 2 = told s (·.h) 1 ++ [x.h]) := by show _ = _; simp [told, hx]
        have HX : Hid (s 1 = some x) := hx
        have HL : Hid ((told s (·.h) 1).length ≤ 1) := told_le s _ 1
        clear hx
        go_wp2_with fail
        refine (c28_ok wr x (by rw [block_old HB.out (blk_lt (HK.out.page 1 x HX.out).1)]; exact (HK.out.page 1 x HX.out).1)).mono ?_
        rintro e w2 ⟨rfl, hb2⟩
        have HB2 : Hid (Below w.heap.size w w2) := HB.out.trans (hb2.mono HB.out.size)
        have HO2 : Hid (w2.ownsRow w.heap.size 22 3 u5 (told s (·.h) 1).length (tcells (told s (·.h) 1))) := own_below HO.out hb2
        clear hb2
        go_wp2_with (at_builtin; refine wpList_append_own _ rfl (.tmp 17) (.tmp 21) 138 rfl w.heap.size 22 i22 (.agg #[i64 0, i64 0, i64 0]) 3 24 under61 HI.out hz hs hby rfl (by omega) u5 _ _ rfl (HO2.out.alloc _) ⟨_, 0, none⟩ 1 1 (tcells [x.h]) rfl rfl (new_tri _ _) (tcells_one _) (by have := HL.out; unfold maxLen; omega) (by have := HL.out; omega) (by have := HB2.out.size; simp; omega) ?_; intro v' w3 ho3 hg3 _; have HB3 : Hid (Below w.heap.size w w3) := (HB2.out.alloc HB2.out.size _).trans (below_grown hg3 (by have := HB2.out.size; simp; omega) (fun g hg => (HO2.out.lt g hg).1)); have HO3 : Hid (w3.ownsRow w.heap.size 22 3 v' ((told s (·.h) 1).length + 1) (tcells (told s (·.h) 1) ++ tcells [x.h])) := ho3; clear ho3 hg3)
        exact ⟨⟨2, by omega, by go_num, by rw [HT.out, List.length_append, tcells_app]; exact HO3.out, HB3.out⟩, by simp [intOf]⟩
    · cases hx : s 2 with
      | none =>
        have ix : ∀ w, (Instr.index 116 (.agg #[P0, P1, P2]) (.int .i64 2)).run Try.prog w = .ok (.pointer none) w := fun w => (pidx2 P0 P1 P2 w).trans (by rw [← HP2.out, hx]; rfl)
        have HT : Hid (told s (·.h) 3 = told s (·.h) 2) := by show _ = _; simp [told, hx]
        clear hx
        go_wp2_with fail
        exact ⟨⟨3, by omega, by go_num, by rw [HT.out]; exact HO.out, HB.out⟩, by simp [intOf]⟩
      | some x =>
        have ix : ∀ w, (Instr.index 116 (.agg #[P0, P1, P2]) (.int .i64 2)).run Try.prog w = .ok (.pointer (some ⟨x.p, 0, none⟩)) w := fun w => (pidx2 P0 P1 P2 w).trans (by rw [← HP2.out, hx]; rfl)
        have HT : Hid (told s (·.h) 3 = told s (·.h) 2 ++ [x.h]) := by show _ = _; simp [told, hx]
        have HX : Hid (s 2 = some x) := hx
        have HL : Hid ((told s (·.h) 2).length ≤ 2) := told_le s _ 2
        clear hx
        go_wp2_with fail
        refine (c28_ok wr x (by rw [block_old HB.out (blk_lt (HK.out.page 2 x HX.out).1)]; exact (HK.out.page 2 x HX.out).1)).mono ?_
        rintro e w2 ⟨rfl, hb2⟩
        have HB2 : Hid (Below w.heap.size w w2) := HB.out.trans (hb2.mono HB.out.size)
        have HO2 : Hid (w2.ownsRow w.heap.size 22 3 u5 (told s (·.h) 2).length (tcells (told s (·.h) 2))) := own_below HO.out hb2
        clear hb2
        go_wp2_with (at_builtin; refine wpList_append_own _ rfl (.tmp 17) (.tmp 21) 138 rfl w.heap.size 22 i22 (.agg #[i64 0, i64 0, i64 0]) 3 24 under61 HI.out hz hs hby rfl (by omega) u5 _ _ rfl (HO2.out.alloc _) ⟨_, 0, none⟩ 1 1 (tcells [x.h]) rfl rfl (new_tri _ _) (tcells_one _) (by have := HL.out; unfold maxLen; omega) (by have := HL.out; omega) (by have := HB2.out.size; simp; omega) ?_; intro v' w3 ho3 hg3 _; have HB3 : Hid (Below w.heap.size w w3) := (HB2.out.alloc HB2.out.size _).trans (below_grown hg3 (by have := HB2.out.size; simp; omega) (fun g hg => (HO2.out.lt g hg).1)); have HO3 : Hid (w3.ownsRow w.heap.size 22 3 v' ((told s (·.h) 2).length + 1) (tcells (told s (·.h) 2) ++ tcells [x.h])) := ho3; clear ho3 hg3)
        exact ⟨⟨3, by omega, by go_num, by rw [HT.out, List.length_append, tcells_app]; exact HO3.out, HB3.out⟩, by simp [intOf]⟩
    · go_wp2_with fail
      go_ret
      exact ⟨_, rfl, HO.out, HB.out⟩
end Go.Proofs.Ytnknhencobhjdaa.Qt
