/- The tests of tlb's drops, and what is left behind a drop, as lists; no statement is proved in this text. -/
import Derived.Test.YtblhoaggonjhkaaGet
namespace Go.Proofs.Ytblhoaggonjhkaa
open Go.ChangeShapes Go.WideShapes Go.ChangeAt Go.RowKit Go.Deep

theorem eqlV (a b : K3) (w : World) : (binOp .eql 31 (keyV a) (keyV b)).run Try.prog w = .ok (.bool (decide (a = b))) w := by
  rw [run_eql_struct]
  have := eql a b w
  unfold Op.equal Op.maxDepth at this
  rw [this]
  rfl
theorem cl_drop (w : World) (a k : K3) (e : En) (B : Nat) (c0 : w.cell? ⟨B, 0, none⟩ = some (i64 k.env)) (c1 : w.cell? ⟨B, 1, none⟩ = some (i64 k.proc)) (c2 : w.cell? ⟨B, 2, none⟩ = some (i64 k.page)) :
    Calls Try.prog 25 #[keyV a, entV e, .pointer (some ⟨B, 0, none⟩)] w fun e' w' => e' = .returned (.bool (decide (a = k))) ∧ Below w.heap.size w w' := by
  have hB := World.block_lt_of_cell? w _ c0
  have hq : ∀ W, (binOp .eql 31 (.agg #[i64 a.env, i64 a.proc, i64 a.page]) (.agg #[i64 k.env, i64 k.proc, i64 k.page])).run Try.prog W = .ok (.bool (decide (a = k))) W := fun W => eqlV a k W
  generalize decide (a = k) = T at *
  have hb : Below w.heap.size w ((w.alloc (.cells #[i64 a.env, i64 a.proc, i64 a.page] 31)).alloc (.cells #[i64 e.frame, .bool e.wr] 33)) := ((Below.refl _ _).alloc (Nat.le_refl _) _).alloc (by simp) _
  have HB : Hid (Below w.heap.size w ((w.alloc (.cells #[i64 a.env, i64 a.proc, i64 a.page] 31)).alloc (.cells #[i64 e.frame, .bool e.wr] 33))) := hb
  have d0 := (hb.cell (p := ⟨B, 0, none⟩) hB).trans c0
  have d1 := (hb.cell (p := ⟨B, 1, none⟩) hB).trans c1
  have d2 := (hb.cell (p := ⟨B, 2, none⟩) hB).trans c2
  clear hb
  go_enter Try.func25, Try.ntmps25
  go_wp2_with fail
  go_ret
  exact ⟨rfl, HB.out⟩
theorem cl_proc (w : World) (a : K3) (e : En) (x y : Int) (B C : Nat) (c0 : w.cell? ⟨B, 0, none⟩ = some (i64 x)) (c1 : w.cell? ⟨C, 0, none⟩ = some (i64 y)) :
    Calls Try.prog 26 #[keyV a, entV e, .pointer (some ⟨B, 0, none⟩), .pointer (some ⟨C, 0, none⟩)] w fun e' w' => e' = .returned (.bool (a.env == x && a.proc == y)) ∧ Below w.heap.size w w' := by
  have hB := World.block_lt_of_cell? w _ c0
  have hC := World.block_lt_of_cell? w _ c1
  have hb : Below w.heap.size w ((w.alloc (.cells #[i64 a.env, i64 a.proc, i64 a.page] 31)).alloc (.cells #[i64 e.frame, .bool e.wr] 33)) := ((Below.refl _ _).alloc (Nat.le_refl _) _).alloc (by simp) _
  have HB : Hid (Below w.heap.size w ((w.alloc (.cells #[i64 a.env, i64 a.proc, i64 a.page] 31)).alloc (.cells #[i64 e.frame, .bool e.wr] 33))) := hb
  have d0 := (hb.cell (p := ⟨B, 0, none⟩) hB).trans c0
  have d1 := (hb.cell (p := ⟨C, 0, none⟩) hC).trans c1
  clear hb
  by_cases hx : a.env = x
  · have hx' : (a.env == x) = true := by simpa using hx
    clear hx
    go_enter Try.func26, Try.ntmps26
    go_wp2_with fail
    go_ret
    exact ⟨by simp, HB.out⟩
  · have hx' : (a.env == x) = false := by simpa using hx
    clear hx
    go_enter Try.func26, Try.ntmps26
    go_wp2_with fail
    go_ret
    exact ⟨by simp, HB.out⟩
theorem cl_env (w : World) (a : K3) (e : En) (x : Int) (B : Nat) (c0 : w.cell? ⟨B, 0, none⟩ = some (i64 x)) :
    Calls Try.prog 27 #[keyV a, entV e, .pointer (some ⟨B, 0, none⟩)] w fun e' w' => e' = .returned (.bool (a.env == x)) ∧ Below w.heap.size w w' := by
  have hB := World.block_lt_of_cell? w _ c0
  have hb : Below w.heap.size w ((w.alloc (.cells #[i64 a.env, i64 a.proc, i64 a.page] 31)).alloc (.cells #[i64 e.frame, .bool e.wr] 33)) := ((Below.refl _ _).alloc (Nat.le_refl _) _).alloc (by simp) _
  have HB : Hid (Below w.heap.size w ((w.alloc (.cells #[i64 a.env, i64 a.proc, i64 a.page] 31)).alloc (.cells #[i64 e.frame, .bool e.wr] 33))) := hb
  have d0 := (hb.cell (p := ⟨B, 0, none⟩) hB).trans c0
  clear hb
  go_enter Try.func27, Try.ntmps27
  go_wp2_with fail
  go_ret
  exact ⟨rfl, HB.out⟩
theorem cl_frame (w : World) (a : K3) (e : En) (x : Int) (B : Nat) (c0 : w.cell? ⟨B, 0, none⟩ = some (i64 x)) :
    Calls Try.prog 28 #[keyV a, entV e, .pointer (some ⟨B, 0, none⟩)] w fun e' w' => e' = .returned (.bool (e.frame == x)) ∧ Below w.heap.size w w' := by
  have hB := World.block_lt_of_cell? w _ c0
  have hb : Below w.heap.size w ((w.alloc (.cells #[i64 a.env, i64 a.proc, i64 a.page] 31)).alloc (.cells #[i64 e.frame, .bool e.wr] 33)) := ((Below.refl _ _).alloc (Nat.le_refl _) _).alloc (by simp) _
  have HB : Hid (Below w.heap.size w ((w.alloc (.cells #[i64 a.env, i64 a.proc, i64 a.page] 31)).alloc (.cells #[i64 e.frame, .bool e.wr] 33))) := hb
  have d0 := (hb.cell (p := ⟨B, 0, none⟩) hB).trans c0
  clear hb
  go_enter Try.func28, Try.ntmps28
  go_wp2_with fail
  go_ret
  exact ⟨rfl, HB.out⟩

/-! ### What is left, as lists -/
def keysOf (L : Ls) : List K3 := L.map Prod.fst
def dropF (f : K3 × En → Bool) (L : Ls) : Ls := L.filter (fun p => !f p)
/-- Behind k rounds. -/
def midF (f : K3 × En → Bool) (L : Ls) (k : Nat) : Ls := dropF f (L.take k) ++ L.drop k
theorem midF_zero (f : K3 × En → Bool) (L : Ls) : midF f L 0 = L := by simp [midF, dropF]
theorem midF_end (f : K3 × En → Bool) (L : Ls) : midF f L L.length = dropF f L := by simp [midF]
theorem nd_sub {L M : Ls} (h : ND L) (hs : M.Sublist L) : ND M := h.sublist (hs.map _)
theorem dropF_sub (f : K3 × En → Bool) (L : Ls) : (dropF f L).Sublist L := List.filter_sublist
theorem midF_sub (f : K3 × En → Bool) (L : Ls) (k : Nat) : (midF f L k).Sublist L := by
  have := List.Sublist.append (dropF_sub f (L.take k)) (List.Sublist.refl (L.drop k))
  rw [List.take_append_drop] at this
  exact this
theorem midF_at (f : K3 × En → Bool) (L : Ls) (k : Nat) (hk : k < L.length) : midF f L k = dropF f (L.take k) ++ L[k] :: L.drop (k + 1) := by
  unfold midF
  rw [List.drop_eq_getElem_cons hk]
theorem take_succ (f : K3 × En → Bool) (L : Ls) (k : Nat) (hk : k < L.length) : dropF f (L.take (k + 1)) = if f L[k] = true then dropF f (L.take k) else dropF f (L.take k) ++ [L[k]] := by
  unfold dropF
  rw [← List.take_append_getElem hk, List.filter_append]
  by_cases h : f L[k] = true
  · rw [if_pos h]; simp [h]
  · rw [if_neg h]; simp [h]
theorem midF_gone (f : K3 × En → Bool) (L : Ls) (k : Nat) (hk : k < L.length) (h : f L[k] = true) : midF f L (k + 1) = dropF f (L.take k) ++ L.drop (k + 1) := by
  unfold midF
  rw [take_succ f L k hk, if_pos h]
theorem midF_stay (f : K3 × En → Bool) (L : Ls) (k : Nat) (hk : k < L.length) (h : f L[k] = false) : midF f L (k + 1) = midF f L k := by
  rw [midF_at f L k hk]
  unfold midF
  rw [take_succ f L k hk, if_neg (by simp [h]), List.append_assoc]
  rfl
theorem midF_del (f : K3 × En → Bool) (L : Ls) (k : Nat) (hk : k < L.length) (nd : ND L) (h : f L[k] = true) : ∀ p, p ∈ midF f L (k + 1) ↔ (p ∈ midF f L k ∧ p.1 ≠ L[k].1) := by
  have nd2 : ND (midF f L k) := nd_sub nd (midF_sub f L k)
  rw [midF_at f L k hk] at nd2 ⊢
  rw [midF_gone f L k hk h]
  intro p
  have hn : (keysOf (dropF f (L.take k) ++ L[k] :: L.drop (k + 1))).Nodup := nd2
  unfold keysOf at hn
  rw [List.map_append, List.map_cons, List.nodup_append] at hn
  obtain ⟨h1, h2, h3⟩ := hn
  rw [List.nodup_cons] at h2
  constructor
  · intro hp
    rcases List.mem_append.1 hp with hp | hp
    · exact ⟨by simp [hp], fun e => h3 p.1 (List.mem_map.2 ⟨p, hp, rfl⟩) L[k].1 (by simp) e⟩
    · exact ⟨List.mem_append.2 (Or.inr (List.mem_cons.2 (Or.inr hp))), fun e => h2.1 (List.mem_map.2 ⟨p, hp, e⟩)⟩
  · rintro ⟨hp, hne⟩
    rcases List.mem_append.1 hp with hp | hp
    · simp [hp]
    · rcases List.mem_cons.1 hp with rfl | hp
      · exact absurd rfl hne
      · simp [hp]
theorem look_mid (f : K3 × En → Bool) (L : Ls) (k : Nat) (hk : k < L.length) (nd : ND L) : look (midF f L k) L[k].1 = some L[k].2 :=
  look_some (nd_sub nd (midF_sub f L k)) (by rw [midF_at f L k hk]; exact List.mem_append.2 (Or.inr (List.mem_cons.2 (Or.inl rfl))))
end Go.Proofs.Ytblhoaggonjhkaa
