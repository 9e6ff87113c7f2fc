/- imagoref02.New: its contract; no statement is proved in this text. -/
import Derived.Test.YtjfgeledmlkppabRefLoad
namespace Go.Proofs.Ytjfgeledmlkppab
open Go.ChangeShapes Go.WideShapes Go.ChangeAt Go.RowKit

theorem info5x : (Try.prog.info? 5).map (fun i => (i.zero, i.size, i.bytes)) = some (some (.int .u8 0), 1, 1) := by kernel_rfl
theorem under54 : Try.prog.underlying 54 = some (.slice 5) := by kernel_rfl

theorem new_one (w : World) (v : Value) (t : TypeId) : ∀ j u, [v][j]? = some u → (w.alloc (.cells #[v] t)).cell? ((⟨w.heap.size, 0, none⟩ : Addr).add j) = some u := by
  intro j u hu
  have hj : j = 0 := by
    rcases j with _ | j
    · rfl
    · simp at hu
  subst hj
  rw [Addr.add_mid]
  exact new_cell _ _ _ _ _ (by simpa using hu)

/-- What stands between two rounds of New's loop. -/
structure Grow (w wr : World) (v : Value) (k : Nat) : Prop where
  hd : wr.cell? ⟨w.heap.size, 0, none⟩ = some v
  fz : wr.frozen? ⟨w.heap.size, 0, none⟩ = false
  own : wr.ownsRow (w.heap.size + 1) 5 1 v k (List.replicate k (.int .u8 0))
  bel : Below w.heap.size w wr
  sz : w.heap.size + 1 ≤ wr.heap.size

theorem Grow.next {w wr w2 : World} {v v' : Value} {k : Nat} {o : Obj} (h : Grow w wr v k) (ho : w2.ownsRow (w.heap.size + 1) 5 1 v' (k + 1) (List.replicate k (.int .u8 0) ++ [.int .u8 0])) (hg : (wr.alloc o).grownBy w2 v.ownBlock) :
    w2.cell? ⟨w.heap.size, 0, none⟩ = some v ∧ w2.frozen? ⟨w.heap.size, 0, none⟩ = false ∧ Grow w (w2.setCell ⟨w.heap.size, 0, none⟩ v') v' (k + 1) := by
  have hs := h.sz
  have hne : some w.heap.size ≠ v.ownBlock := fun e => by
    have := (h.own.lt w.heap.size e.symm).1
    omega
  have hsz : (wr.alloc o).heap.size = wr.heap.size + 1 := by simp
  have hblk : w2.heap[w.heap.size]? = wr.heap[w.heap.size]? := (hg.block _ (by omega) hne).trans (Below.heap_alloc _ _ _ (by omega))
  have hc : w2.cell? ⟨w.heap.size, 0, none⟩ = some v := (World.cell?_of_block (w := wr) hblk).trans h.hd
  have hf : w2.frozen? ⟨w.heap.size, 0, none⟩ = false := (World.frozen?_of_block (w := wr) hblk).trans h.fz
  refine ⟨hc, hf, ?_⟩
  have hg2 := hg.size
  refine ⟨World.cell?_setCell_same _ _ _ hc, by rw [World.frozen?_setCell]; exact hf, ?_, ?_, ?_⟩
  · rw [List.replicate_succ']
    exact ownsRow_setCell_below ho (by show w.heap.size < _; omega) _
  · exact ((h.bel.alloc h.bel.size o).grown hg (by omega) (fun r hr => by have := (h.own.lt r hr).1; omega)).setCell (Nat.le_refl _) _
  · have : (w2.setCell ⟨w.heap.size, 0, none⟩ v').heap.size = w2.heap.size := by simp [World.setCell]
    omega

theorem Grow.mem {w wr : World} {v : Value} {n : Nat} (h : Grow w wr v (16 * n)) (hn : 1 ≤ n) : ∃ r cap, v = .slice (some ⟨r, 0, none⟩) (16 * n) cap ∧ 16 * n ≤ cap ∧ w.heap.size < r ∧ RMem wr w.heap.size r n (16 * n) cap (List.replicate (16 * n) 0) := by
  rcases h.own.2 with ⟨_, h0⟩ | ⟨g, cap, cur, rfl, hb, hg, hle, hmx, hsz, htake⟩
  · omega
  · refine ⟨g, cap, rfl, hle, by omega, h.hd, ?_, ?_, by simp, by omega, hn⟩
    · intro j x hx
      have hj : j < 16 * n := by have := (List.getElem?_eq_some_iff.1 hx).1; rw [cells_len] at this; simpa using this
      rw [Nat.zero_add, cell_of_row wr g j cur 5 (0, 0) hg, ← hx]
      have : cur.toList[j]? = (List.replicate (16 * n) (Value.int .u8 0))[j]? := by
        rw [← htake, List.getElem?_take_of_lt (by omega)]
      rw [Array.getElem?_toList] at this
      rw [this]
      simp [cells, hj]
    · intro j hj
      rw [Nat.zero_add]
      refine ⟨?_, ?_⟩
      · rw [cell_of_row wr g j cur 5 (0, 0) hg, Array.getElem?_eq_getElem (by omega)]; rfl
      · unfold World.frozen?
        rw [show wr.heap[(⟨g, j, none⟩ : Addr).block]? = _ from hg]
        simp

theorem own_form {w : World} {base : Nat} {e : TypeId} {size : Nat} {v : Value} {n : Nat} {xs : List Value} (h : w.ownsRow base e size v (n + 1) xs) : ∃ g cap, v = .slice (some ⟨g, 0, none⟩) (n + 1) cap := by
  rcases h.2 with ⟨_, h0⟩ | ⟨g, cap, cur, rfl, _⟩
  · omega
  · exact ⟨g, cap, rfl⟩

set_option maxHeartbeats 800000 in
theorem rnew_ok (w : World) (n : Nat) (h1 : 1 ≤ n) (h2 : n ≤ 64) :
    Calls Try.prog 10 #[.int .i64 n] w fun e w' => e = .returned (.pointer (some ⟨w.heap.size, 0, none⟩)) ∧ Below w.heap.size w w' ∧ ∃ r cap, 16 * n ≤ cap ∧ w.heap.size < r ∧ RMem w' w.heap.size r n (16 * n) cap (List.replicate (16 * n) 0) := by
  obtain ⟨i5, hi, hz, hs, hby⟩ := info_parts info5x
  have hg0 : Grow w (w.alloc (.cells #[.slice none 0 0] 56)) (.slice none 0 0) 0 :=
    ⟨new_cell _ _ _ _ _ rfl, new_frozen _ _ _ _, World.ownsRow_nil _ _ _ _, (Below.refl _ _).alloc (Nat.le_refl _) _, by simp⟩
  have HG0 : Hid _ := hg0
  have HI : Hid _ := hi
  have HZ : Hid _ := hz
  have HS : Hid _ := hs
  have HY : Hid _ := hby
  clear hg0 hi hz hs hby
  go_enter Try.func10, Try.ntmps10
  go_wp2_with fail
  go_loopw [4] (fun i wr => ∃ (k : Nat) (v : Value), k ≤ 16 * n ∧ i = .int .i64 k ∧ Grow w wr v k) (fun i _ => 16 * n - (intOf i).toNat)
  case atStart => exact ⟨0, _, by omega, rfl, HG0.out⟩
  case round =>
    obtain ⟨k, v, hk, rfl, hgr⟩ := hrel
    by_cases hlt : k < 16 * n
    · have hd := hgr.hd
      have HG : Hid _ := hgr
      clear hgr
      go_wp2_with (at_builtin; refine wpList_append_own _ rfl (.tmp 17) (.tmp 18) 54 rfl (w.heap.size + 1) 5 i5 (.int .u8 0) 1 1 under54 HI.out HZ.out HS.out HY.out rfl (by omega) v k (List.replicate k (.int .u8 0)) rfl (HG.out.own.alloc _) ⟨_, 0, none⟩ 1 1 [.int .u8 0] rfl rfl (new_one _ _ _) (by simp [Value.oneCell']) (by unfold maxLen; omega) (by omega) (by have := HG.out.sz; simp; omega) ?_; intro v' w2 ho2 hg2 _; obtain ⟨g, cp, rfl⟩ := own_form ho2; obtain ⟨hc2, hf2, hn2⟩ := HG.out.next ho2 hg2; have HN : Hid _ := hn2; clear ho2 hg2 hn2)
      go_roundw
      case rel => exact ⟨k + 1, _, by omega, by go_num, HN.out⟩
      case measure => simp [intOf]; omega
    · obtain rfl : k = 16 * n := by omega
      obtain ⟨r, cap, rfl, hle, hr, hmem⟩ := hgr.mem h1
      have HM : Hid _ := hmem
      have HB : Hid _ := hgr.bel
      clear hmem hgr
      go_wp2_with fail
      go_ret
      exact ⟨rfl, HB.out, r, cap, hle, hr, HM.out⟩
end Go.Proofs.Ytjfgeledmlkppab
