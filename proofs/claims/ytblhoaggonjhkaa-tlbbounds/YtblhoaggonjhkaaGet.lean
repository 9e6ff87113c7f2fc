/- tlb.Buffer's Keys and Get: their contracts; no statement is proved in this text. -/
import Derived.Test.YtblhoaggonjhkaaBuf
namespace Go.Proofs.Ytblhoaggonjhkaa
open Go.ChangeShapes Go.WideShapes Go.ChangeAt Go.RowKit Go.Deep

theorem info31x : (Try.prog.info? 31).map (fun i => (i.zero, i.size, i.bytes)) = some (some (.agg #[.int .i64 0, .int .i64 0, .int .i64 0]), 3, 24) := by kernel_rfl
theorem under37 : Try.prog.underlying 37 = some (.slice 31) := by kernel_rfl
theorem app_nil (w : World) : (Builtin.append_ #[37, 37] 37 #[.slice none 0 0, .slice none 0 0]).run Try.prog w = .ok (.slice none 0 0) w := by kernel_rfl

set_option maxHeartbeats 800000 in
theorem keys_ok {w : World} {base p : Nat} {L : Ls} {ks : List K3} {h m : Nat} (b : Buf w base p L ks h m) (hl : ks.length ≤ 1000) :
    Calls Try.prog 10 #[.pointer (some ⟨p, 0, none⟩)] w fun e w' => Below w.heap.size w w' ∧ ∃ v, e = .returned v ∧ w'.ownsRow w.heap.size 31 3 v ks.length (kcells ks) := by
  obtain ⟨mv, kv, h1, _, ho⟩ := b.ex
  obtain ⟨⟨_, c1, _, _⟩, _⟩ := four_cells h1
  obtain ⟨i31, hi, hz, hs, hby⟩ := info_parts info31x
  have HI : Hid (Try.prog.info? 31 = some i31) := hi
  clear h1 b hi
  rcases ho.2 with ⟨rfl, h0⟩ | ⟨g, cap, cur, rfl, _⟩
  · have hks : ks = [] := List.eq_nil_of_length_eq_zero h0
    subst hks
    have hn := app_nil w
    clear ho
    go_enter Try.func10, Try.ntmps10
    go_wp2_with fail
    go_ret
    exact ⟨Below.refl _ _, _, rfl, World.ownsRow_nil _ _ _ _⟩
  · have HO : Hid (w.ownsRow base 31 3 (.slice (some ⟨g, 0, none⟩) ks.length cap) ks.length (kcells ks)) := ho
    have hkl := kcells_len ks
    have HK : Hid (∀ v ∈ kcells ks, v.oneCell' = true) := kcells_one ks
    clear ho
    generalize kcells ks = C at *
    generalize ks.length = n at *
    go_enter Try.func10, Try.ntmps10
    go_wp2_with (at_builtin; refine wpList_append_own _ rfl _ (.tmp 8) 37 rfl w.heap.size 31 i31 (.agg #[.int .i64 0, .int .i64 0, .int .i64 0]) 3 24 under37 HI.out hz hs hby rfl (by omega) (.slice none 0 0) 0 [] rfl (World.ownsRow_nil _ _ _ _) ⟨g, 0, none⟩ n cap C rfl hkl (fun j u hu => HO.out.cells rfl j u hu) HK.out (by unfold maxLen; omega) (by omega) (Nat.le_refl _) ?_; intro v' w2 ho2 hg2 _; have HO2 : Hid (w2.ownsRow w.heap.size 31 3 v' (0 + n) ([] ++ C)) := ho2; have HB2 : Hid (Below w.heap.size w w2) := (Below.refl _ _).grown hg2 (Nat.le_refl _) (fun r hr => by cases hr); clear ho2 hg2)
    go_ret
    exact ⟨HB2.out, _, rfl, by have := HO2.out; rw [Nat.zero_add, List.nil_append] at this; exact this⟩

theorem set_block {w : World} {p : Nat} {C : Array Value} {t : TypeId} {f : Nat × Nat} (h : w.heap[p]? = some (.cells C t f)) (j : Nat) (v : Value) : (w.setCell ⟨p, j, none⟩ v).heap[p]? = some (.cells (C.setIfInBounds j v) t f) := by
  simp [World.setCell, Array.getElem?_modify, h]
theorem set_other {w : World} {p q : Nat} (hq : q ≠ p) (j : Nat) (v : Value) : (w.setCell ⟨p, j, none⟩ v).heap[q]? = w.heap[q]? := Below.heap_setCell _ _ _ _ hq
/-- Another block of the buffer's own kind is no block of it. -/
theorem buf_turn {w w' : World} {base p : Nat} {L : Ls} {ks : List K3} {h m h' m' : Nat} {mv kv : Value} (h1 : w.heap[p]? = some (.cells #[mv, kv, i64 h, i64 m] 56 (0, 0))) (hmv : MapV w base mv L) (ho : w.ownsRow base 31 3 kv ks.length (kcells ks)) (nd : ND L) (bp : base ≤ p) (t : Touch p w w')
    (h2 : w'.heap[p]? = some (.cells #[mv, kv, i64 h', i64 m'] 56 (0, 0))) : Buf w' base p L ks h' m' :=
  ⟨⟨mv, kv, h2, hmv.kept (fun b es c hb => (t.block b (Array.getElem?_eq_some_iff.1 hb).1 (fun e => by subst e; rw [h1] at hb; cases hb)).trans hb),
    own_kept ho (fun b C hb => (t.block b (Array.getElem?_eq_some_iff.1 hb).1 (fun e => by
      subst e
      rw [h1] at hb
      simp only [Option.some.injEq, Obj.cells.injEq] at hb
      exact absurd hb.2.1 (by decide))).trans hb)⟩, nd, bp⟩

/-- What the two stores of Get leave. -/
theorem get_after {w W : World} {base p : Nat} {L : Ls} {ks : List K3} {h m : Nat} {mv kv : Value} (h1 : w.heap[p]? = some (.cells #[mv, kv, i64 h, i64 m] 56 (0, 0))) (hmv : MapV w base mv L) (ho : w.ownsRow base 31 3 kv ks.length (kcells ks)) (nd : ND L) (bp : base ≤ p) (hb : Below w.heap.size w W)
    (j : Nat) (n h' m' : Nat) (hj : (#[mv, kv, i64 h, i64 m] : Array Value).setIfInBounds j (i64 n) = #[mv, kv, i64 h', i64 m']) (r : Nat) (hr : w.heap.size ≤ r) (a b : Value) :
    Fr base [56] false w (((W.setCell ⟨p, j, none⟩ (i64 n)).setCell ⟨r, 0, none⟩ a).setCell ⟨r, 1, none⟩ b) ∧ Buf (((W.setCell ⟨p, j, none⟩ (i64 n)).setCell ⟨r, 0, none⟩ a).setCell ⟨r, 1, none⟩ b) base p L ks h' m' := by
  have hplt := (Array.getElem?_eq_some_iff.1 h1).1
  have hpW : W.heap[p]? = some (.cells #[mv, kv, i64 h, i64 m] 56 (0, 0)) := (hb.block p hplt).trans h1
  have t : Touch p w (((W.setCell ⟨p, j, none⟩ (i64 n)).setCell ⟨r, 0, none⟩ a).setCell ⟨r, 1, none⟩ b) := by
    refine Touch.setNew (Touch.setNew (Touch.trans ⟨hb.os, hb.tape, hb.output, hb.size, fun k hk _ => hb.block k hk⟩ ((Touch.refl p W).setCell rfl _)) hr _) hr _
  have h2 := set_block hpW j (i64 n)
  rw [hj] at h2
  have h3 : (((W.setCell ⟨p, j, none⟩ (i64 n)).setCell ⟨r, 0, none⟩ a).setCell ⟨r, 1, none⟩ b).heap[p]? = some (.cells #[mv, kv, i64 h', i64 m'] 56 (0, 0)) := by
    rw [set_other (by omega), set_other (by omega)]; exact h2
  exact ⟨Fr.of_touch t h1 (by simp [keeps]) bp, buf_turn h1 hmv ho nd bp t h3⟩

set_option maxRecDepth 100000 in
set_option maxHeartbeats 800000 in
theorem get_ok {w : World} {base p : Nat} {L : Ls} {ks : List K3} {h m : Nat} (b : Buf w base p L ks h m) (k : K3) (hh : h ≤ 100000) (hm : m ≤ 100000) :
    Calls Try.prog 12 #[.pointer (some ⟨p, 0, none⟩), keyV k] w fun e w' => e = .returned (.tuple #[entV ((look L k).getD zeroE), .bool (look L k).isSome]) ∧ Fr base [56] false w w' ∧ Buf w' base p L ks (if (look L k).isSome = true then h + 1 else h) (if (look L k).isSome = true then m else m + 1) := by
  obtain ⟨mv, kv, h1, hmv, ho⟩ := b.ex
  obtain ⟨⟨c0, _, c2, c3⟩, fz⟩ := four_cells h1
  have hplt := b.plt
  have hlk : ∀ W, Below w.heap.size w W → (Instr.lookup 54 mv (keyV k) true).run Try.prog W = .ok (.tuple #[entV ((look L k).getD zeroE), .bool (look L k).isSome]) W := fun W hb => (hmv.kept (fun i es clock hi => (hb.block i (Array.getElem?_eq_some_iff.1 hi).1).trans hi)).lkup b.nd k true
  have hb0 : Below w.heap.size w ((w.alloc (.cells #[i64 k.env, i64 k.proc, i64 k.page] 31)).alloc (.cells #[i64 0, .bool false] 33)) := ((Below.refl _ _).alloc (Nat.le_refl _) _).alloc (by simp) _
  have hb1 : Below w.heap.size w (((w.alloc (.cells #[i64 k.env, i64 k.proc, i64 k.page] 31)).alloc (.cells #[i64 0, .bool false] 33)).alloc (.cells #[i64 0, .bool false] 33)) := hb0.alloc (by simp; omega) _
  have hA := hlk _ hb0.drew
  have hB := hlk _ hb1.drew
  have cA := (hb0.drew.cell (p := ⟨p, 0, none⟩) hplt).trans c0
  have cB := (hb1.drew.cell (p := ⟨p, 0, none⟩) hplt).trans c0
  clear hlk
  generalize (look L k).getD zeroE = E at *
  generalize (look L k).isSome = T at *
  go_enter Try.func12, Try.ntmps12
  go_wp2_with fail
  go_region
  all_goals (
    obtain ⟨W, hW⟩ : ∃ W, W = (((w.alloc (.cells #[i64 k.env, i64 k.proc, i64 k.page] 31)).alloc (.cells #[i64 0, .bool false] 33)).alloc (.cells #[i64 E.frame, .bool E.wr] 33)).drew := ⟨_, rfl⟩
    have hbW : Below w.heap.size w W := by rw [hW]; exact (hb0.alloc (by simp; omega) _).drew
    have hpW : W.heap[p]? = some (.cells #[mv, kv, i64 h, i64 m] 56 (0, 0)) := (hbW.block p hplt).trans h1
    have s2 : ((w.alloc (.cells #[i64 k.env, i64 k.proc, i64 k.page] 31)).alloc (.cells #[i64 0, .bool false] 33)).heap.size = w.heap.size + 1 + 1 := by simp
    have hE2 : W.heap[w.heap.size + 1 + 1]? = some (.cells #[i64 E.frame, .bool E.wr] 33 (0, 0)) := by
      rw [hW, ← s2]; exact heap_last _ _
    have hE1 : W.heap[w.heap.size + 1]? = some (.cells #[i64 0, .bool false] 33 (0, 0)) := by
      rw [hW]
      show ((((w.alloc _).alloc _).alloc _).heap)[_]? = _
      rw [Below.heap_alloc _ _ _ (by simp)]
      have s1 : (w.alloc (.cells #[i64 k.env, i64 k.proc, i64 k.page] 31)).heap.size = w.heap.size + 1 := by simp
      rw [← s1]; exact heap_last _ _
    have HB : Hid (Below w.heap.size w W) := hbW
    have HA : Hid (∀ (j n h' m' : Nat), (#[mv, kv, i64 h, i64 m] : Array Value).setIfInBounds j (i64 n) = #[mv, kv, i64 h', i64 m'] → ∀ (r : Nat), w.heap.size ≤ r → ∀ a b, Fr base [56] false w (((W.setCell ⟨p, j, none⟩ (i64 n)).setCell ⟨r, 0, none⟩ a).setCell ⟨r, 1, none⟩ b) ∧ Buf (((W.setCell ⟨p, j, none⟩ (i64 n)).setCell ⟨r, 0, none⟩ a).setCell ⟨r, 1, none⟩ b) base p L ks h' m') := fun j n h' m' hj r hr a b' => get_after h1 hmv ho b.nd b.bp hbW j n h' m' hj r hr a b'
    rw [← hW]
    obtain ⟨⟨_, _, d2, d3⟩, dfz⟩ := four_cells hpW
    have q2 := dfz 2
    have q3 := dfz 3
    have two : ∀ (W' : World) (B : Nat) (u v : Value) (t : TypeId), W'.heap[B]? = some (.cells #[u, v] t (0, 0)) → (W'.cell? ⟨B, 0, none⟩ = some u ∧ W'.cell? ⟨B, 1, none⟩ = some v) ∧ ∀ j, W'.frozen? ⟨B, j, none⟩ = false := fun W' B u v t hh => ⟨by
      rw [cell_of_row W' B 0 _ t (0, 0) hh, cell_of_row W' B 1 _ t (0, 0) hh]
      exact ⟨rfl, rfl⟩, fun j => by
      unfold World.frozen?
      rw [show W'.heap[(⟨B, j, none⟩ : Addr).block]? = _ from hh]
      simp⟩
    have hne2 : p ≠ w.heap.size + 1 + 1 := by omega
    have hne1 : p ≠ w.heap.size + 1 := by omega
    have g1 : ∀ j v, (W.setCell ⟨p, j, none⟩ v).heap[w.heap.size + 1]? = some (.cells #[i64 0, .bool false] 33 (0, 0)) := fun j v => (set_other (Ne.symm hne1) j v).trans hE1
    have g2 : ∀ j v, (W.setCell ⟨p, j, none⟩ v).heap[w.heap.size + 1 + 1]? = some (.cells #[i64 E.frame, .bool E.wr] 33 (0, 0)) := fun j v => (set_other (Ne.symm hne2) j v).trans hE2
    have t1 := fun j v => two _ _ _ _ _ (g1 j v)
    have t2 := fun j v => two _ _ _ _ _ (g2 j v)
    have e10 := fun j v => (t1 j v).1.1
    have e11 := fun j v => (t1 j v).1.2
    have e1f := fun j v => (t1 j v).2
    have e20 := fun j v => (t2 j v).1.1
    have e21 := fun j v => (t2 j v).1.2
    clear t1 t2 g1 g2 two hE1 hE2 s2 hW hbW hpW hb0 hb1 hA hB cA cB fz ho hmv h1 b dfz
    have r0 : ∀ j v a, ((W.setCell ⟨p, j, none⟩ v).setCell ⟨w.heap.size + 1, 0, none⟩ a).cell? ⟨w.heap.size + 1, 0, none⟩ = some a := fun j v a => World.cell?_setCell_same _ _ _ (e10 j v)
    have r1 : ∀ j v a b, (((W.setCell ⟨p, j, none⟩ v).setCell ⟨w.heap.size + 1, 0, none⟩ a).setCell ⟨w.heap.size + 1, 1, none⟩ b).cell? ⟨w.heap.size + 1, 1, none⟩ = some b := fun j v a b => World.cell?_setCell_same _ _ _ ((World.cell?_setCell_other _ _ _ _ (by simp)).trans (e11 j v))
    cases T
    · go_wp2_with fail
      refine bodyPost_ret (v := .tuple #[entV E, .bool false]) (by simp [results, Try.results12, go_sem, r0, r1]) rfl ⟨rfl, ?_⟩
      exact HA.out 3 (m + 1) _ (m + 1) rfl _ (by omega) _ _
    · go_wp2_with fail
      refine bodyPost_ret (v := .tuple #[entV E, .bool true]) (by simp [results, Try.results12, go_sem, r0, r1]) rfl ⟨rfl, ?_⟩
      exact HA.out 2 (h + 1) (h + 1) m rfl _ (by omega) _ _)
end Go.Proofs.Ytblhoaggonjhkaa
