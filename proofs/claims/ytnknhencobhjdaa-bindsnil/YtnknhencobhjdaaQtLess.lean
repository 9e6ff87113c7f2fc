/- quota.less: its contract; no statement is proved in this text. -/
import Derived.Test.YtnknhencobhjdaaQtTake2
namespace Go.Proofs.Ytnknhencobhjdaa.Qt
open Go.ChangeShapes Go.WideShapes Go.ChangeAt Go.RowKit Go.Deep

abbrev triO (t : T) : Obj := .cells #[i64 t.a, i64 t.b, i64 t.c] 22
/-- A slice of arrays that reads as ts. -/
def TSl (w : World) (ao : Option Addr) (ts : List T) : Prop :=
  ts = [] ∨ ∃ b, ao = some ⟨b, 0, none⟩ ∧ b < w.heap.size ∧ ∀ i x, ts[i]? = some x → w.cell? ⟨b, i * 3, none⟩ = some (i64 x.a) ∧ w.cell? ⟨b, i * 3 + 1, none⟩ = some (i64 x.b) ∧ w.cell? ⟨b, i * 3 + 2, none⟩ = some (i64 x.c)
theorem TSl.below {w w' : World} {ao : Option Addr} {xs : List T} (h : TSl w ao xs) (hb : Below w.heap.size w w') : TSl w' ao xs := by
  rcases h with h | ⟨b, rfl, hlt, hc⟩
  · exact Or.inl h
  · exact Or.inr ⟨b, rfl, Nat.lt_of_lt_of_le hlt hb.size, fun i x hx => by rw [hb.cell (by exact hlt), hb.cell (by exact hlt), hb.cell (by exact hlt)]; exact hc i x hx⟩
theorem TSl.at {w : World} {ao : Option Addr} {xs : List T} (h : TSl w ao xs) {k : Nat} (hk : k < xs.length) : ∃ b, ao = some ⟨b, 0, none⟩ ∧ b < w.heap.size ∧ w.cell? ⟨b, k * 3, none⟩ = some (i64 xs[k].a) ∧ w.cell? ⟨b, k * 3 + 1, none⟩ = some (i64 xs[k].b) ∧ w.cell? ⟨b, k * 3 + 2, none⟩ = some (i64 xs[k].c) := by
  rcases h with rfl | ⟨b, rfl, hlt, hc⟩
  · simp at hk
  · exact ⟨b, rfl, hlt, hc k _ (List.getElem?_eq_getElem hk)⟩
def sub (t u : T) : T := ⟨t.a - u.a, t.b - u.b, t.c - u.c⟩
def lessT (t : T) : List T → T
  | [] => t
  | u :: r => lessT (sub t u) r
theorem lessT_snoc (t : T) (xs : List T) (x : T) : lessT t (xs ++ [x]) = sub (lessT t xs) x := by
  induction xs generalizing t with
  | nil => rfl
  | cons u r ih => exact ih (sub t u)
theorem lessT_next (t : T) (xs : List T) (k : Nat) (h : k < xs.length) : lessT t (xs.take (k + 1)) = sub (lessT t (xs.take k)) xs[k] := by
  rw [List.take_succ_eq_append_getElem h, lessT_snoc]
/-- The first k numbers of t, less those of u. -/
def mix (k : Nat) (t u : T) : T := ⟨if 0 < k then t.a - u.a else t.a, if 1 < k then t.b - u.b else t.b, if 2 < k then t.c - u.c else t.c⟩
theorem mix3 (t u : T) : mix 3 t u = sub t u := rfl
def Small (B : Int) (t : T) : Prop := -B ≤ t.a ∧ t.a ≤ B ∧ -B ≤ t.b ∧ t.b ≤ B ∧ -B ≤ t.c ∧ t.c ≤ B
theorem Small.sub {B C : Int} {t u : T} (h : Small B t) (k : Small C u) : Small (B + C) (sub t u) := by
  unfold Small Ytnknhencobhjdaa.Qt.sub at *
  simp only
  omega
theorem small_take {t : T} {ts : List T} (ht : Small 64 t) (hs : ∀ u ∈ ts, Small 64 u) : ∀ k, k ≤ ts.length → Small (64 + 64 * k) (lessT t (ts.take k))
  | 0, _ => by simpa [lessT] using ht
  | k + 1, hk => by
    rw [lessT_next t ts k (by omega)]
    have h1 := (small_take ht hs k (by omega)).sub (hs ts[k] (List.getElem_mem (by omega)))
    have : (64 + 64 * (k : Int) + 64) = 64 + 64 * ((k + 1 : Nat) : Int) := by push_cast; omega
    rw [this] at h1
    exact h1

theorem idx0 (x y z : Int) (w : World) : (Instr.index 22 (.agg #[i64 x, i64 y, i64 z]) (.int .i64 0)).run Try.prog w = .ok (i64 x) w := by kernel_rfl
theorem idx1 (x y z : Int) (w : World) : (Instr.index 22 (.agg #[i64 x, i64 y, i64 z]) (.int .i64 1)).run Try.prog w = .ok (i64 y) w := by kernel_rfl
theorem idx2 (x y z : Int) (w : World) : (Instr.index 22 (.agg #[i64 x, i64 y, i64 z]) (.int .i64 2)).run Try.prog w = .ok (i64 z) w := by kernel_rfl

/-- What has become of the world inside less. -/
structure Ls (w wr : World) (t : T) : Prop where
  bel : Below w.heap.size w wr
  num : wr.heap[w.heap.size]? = some (triO t)
  res : wr.heap[w.heap.size + 1]? = some (triO zT)
  sz : w.heap.size + 1 < wr.heap.size
theorem Ls.set {w wr : World} {t t' : T} (h : Ls w wr t) (j : Nat) (v : Int) (he : (#[i64 t.a, i64 t.b, i64 t.c] : Array Value).setIfInBounds j (i64 v) = #[i64 t'.a, i64 t'.b, i64 t'.c]) : Ls w (wr.setCell ⟨w.heap.size, j, none⟩ (i64 v)) t' :=
  ⟨h.bel.setCell (Nat.le_refl _) _, by rw [heap_setCell_same wr _ j _ 22 _ h.num, he], by rw [heap_setCell_other wr _ _ _ (by simp)]; exact h.res, by simpa using h.sz⟩
theorem Ls.alloc {w wr : World} {t : T} (h : Ls w wr t) (o : Obj) : Ls w (wr.alloc o) t :=
  ⟨h.bel.alloc h.bel.size o, blk_alloc h.num o, blk_alloc h.res o, by have := h.sz; simp; omega⟩

set_option maxRecDepth 100000 in
set_option maxHeartbeats 2000000 in
theorem less_ok (w : World) (t : T) (ao : Option Addr) (cap : Nat) (ts : List T) (hI : TSl w ao ts) (hl : ts.length ≤ 3) (ht : Small 64 t) (hs : ∀ u ∈ ts, Small 64 u) :
    Calls Try.prog 74 #[t.v, .slice ao ts.length cap] w fun e w' => e = .returned (lessT t ts).v ∧ Below w.heap.size w w' := by
  have HI : Hid (TSl w ao ts) := hI
  have HT : Hid (∀ k, k ≤ ts.length → Small (64 + 64 * k) (lessT t (ts.take k))) := small_take ht hs
  have HU : Hid (∀ u ∈ ts, Small 64 u) := hs
  clear hI ht hs
  obtain ⟨N, hN⟩ : ∃ N, N = ts.length := ⟨_, rfl⟩
  have HN : Hid (N = ts.length) := hN
  rw [← hN] at hl ⊢
  clear hN
  have HL0 : Hid (Ls w ((w.alloc (triO t)).alloc (triO zT)) t) := ⟨((Below.refl _ _).alloc (Nat.le_refl _) _).alloc (by simp) _, blk_alloc (heap_last w _) _, heap_last2 w _ _, by simp⟩
  go_enter Try.func74, Try.ntmps74
  go_wp2_with fail
  go_loopw [11] (fun i wr => ∃ k : Nat, k ≤ N ∧ i = i64 k ∧ Ls w wr (lessT t (ts.take k))) (fun i _ => N - (intOf i).toNat)
  case atStart => exact ⟨0, by omega, rfl, HL0.out⟩
  case round =>
    obtain ⟨k, hk, rfl, hls⟩ := hrel
    by_cases hlt : k < N
    · have hlt2 : k < ts.length := by rw [← HN.out]; exact hlt
      obtain ⟨b, rfl, hbl, c0, c1, c2⟩ := (HI.out.below hls.bel).at hlt2
      have HX := HU.out _ (List.getElem_mem hlt2)
      have HY := HT.out k (by omega)
      have HF : Hid (lessT t (ts.take (k + 1)) = sub (lessT t (ts.take k)) ts[k]) := lessT_next t ts k hlt2
      generalize ts[k] = u at *
      generalize lessT t (ts.take k) = v at *
      unfold Small at HX HY
      obtain ⟨x1, x2, x3, x4, x5, x6⟩ := HX
      obtain ⟨y1, y2, y3, y4, y5, y6⟩ := HY
      have hk3 : (k : Int) ≤ 3 := by omega
      have HLS : Hid (Ls w wr v) := hls
      clear hls
      go_wp2_with fail
      go_loopw [16] (fun i wq => ∃ j : Nat, j ≤ 3 ∧ i = i64 j ∧ Ls w wq (mix j v u)) (fun i _ => 3 - (intOf i).toNat)
      case atStart => exact ⟨0, by omega, rfl, HLS.out.alloc _⟩
      case round =>
        obtain ⟨j, hj, rfl, hm⟩ := hrel
        have HM : Hid (Ls w wr (mix j v u)) := hm
        have hnum := hm.num
        have hfz : ∀ o, wr.frozen? ⟨w.heap.size, o, none⟩ = false := blk_frozen hnum
        have hcl : ∀ o, wr.cell? ⟨w.heap.size, o, none⟩ = (#[i64 (mix j v u).a, i64 (mix j v u).b, i64 (mix j v u).c] : Array Value)[o]? := blk_cell hnum
        clear hm hnum
        obtain rfl | rfl | rfl | rfl : j = 0 ∨ j = 1 ∨ j = 2 ∨ j = 3 := by omega
        · have ix := idx0 u.a u.b u.c
          have d0 : wr.cell? ⟨w.heap.size, 0, none⟩ = some (i64 v.a) := hcl 0
          clear hcl
          go_wp2_with fail
          go_roundw
          case rel => exact ⟨1, by omega, by go_num, HM.out.set 0 (v.a - u.a) rfl⟩
          case measure => simp [intOf]
        · have ix := idx1 u.a u.b u.c
          have d0 : wr.cell? ⟨w.heap.size, 1, none⟩ = some (i64 v.b) := hcl 1
          clear hcl
          go_wp2_with fail
          go_roundw
          case rel => exact ⟨2, by omega, by go_num, HM.out.set 1 (v.b - u.b) rfl⟩
          case measure => simp [intOf]
        · have ix := idx2 u.a u.b u.c
          have d0 : wr.cell? ⟨w.heap.size, 2, none⟩ = some (i64 v.c) := hcl 2
          clear hcl
          go_wp2_with fail
          go_roundw
          case rel => exact ⟨3, by omega, by go_num, HM.out.set 2 (v.c - u.c) rfl⟩
          case measure => simp [intOf]
        · have HS : Hid (Ls w wr (sub v u)) := HM.out
          clear hcl
          go_wp2_with fail
          exact ⟨⟨k + 1, by omega, by go_num, by rw [HF.out]; exact HS.out⟩, by simp [intOf]; omega⟩
    · have HE : Hid (Ls w wr (lessT t ts)) := by
        have := hls
        rw [List.take_of_length_le (by have := HN.out; omega)] at this
        exact this
      clear hls
      generalize hv : lessT t ts = v at *
      have HV : Hid (lessT t ts = v) := hv
      clear hv
      have hnum := HE.out.num
      have hres := HE.out.res
      have d0 : wr.cell? ⟨w.heap.size, 0, none⟩ = some (i64 v.a) := blk_cell hnum 0
      have d1 : wr.cell? ⟨w.heap.size, 1, none⟩ = some (i64 v.b) := blk_cell hnum 1
      have d2 : wr.cell? ⟨w.heap.size, 2, none⟩ = some (i64 v.c) := blk_cell hnum 2
      have e0 : wr.cell? ⟨w.heap.size + 1, 0, none⟩ = some (i64 0) := blk_cell hres 0
      have e1 : wr.cell? ⟨w.heap.size + 1, 1, none⟩ = some (i64 0) := blk_cell hres 1
      have e2 : wr.cell? ⟨w.heap.size + 1, 2, none⟩ = some (i64 0) := blk_cell hres 2
      have hfz : ∀ o, wr.frozen? ⟨w.heap.size + 1, o, none⟩ = false := blk_frozen hres
      clear hnum hres
      go_wp2_with fail
      refine bodyPost_ret (v := v.v) (by simp [results, Try.results74, go_sem, e0, e1, e2]) rfl ⟨by rw [HV.out], ?_⟩
      exact ((((HE.out.bel).setCell (by simp) _).setCell (by simp) _).setCell (by simp) _)
end Go.Proofs.Ytnknhencobhjdaa.Qt
