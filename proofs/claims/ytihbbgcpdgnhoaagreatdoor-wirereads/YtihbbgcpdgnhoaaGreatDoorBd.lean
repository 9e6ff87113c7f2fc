/- A builder's bytes: WriteString; written; no statement is proved in this text. -/
import Derived.Test.YtihbbgcpdgnhoaaGreatDoorBy
import Derived.Test.YtihbbgcpdgnhoaaGreatDoorShelf
import Derived.Shelf.Strings.Builder1
namespace Go.Proofs.YtihbbgcpdgnhoaaGreatDoor
open Go.ChangeShapes Go.WideShapes Go.ChangeAt Go.RowKit Go.Deep
attribute [local go_sem ↓] Go.wp_at_zero Go.wp_at_succ
set_option maxRecDepth 100000

/-- Block b is a builder that has the bytes l. -/
abbrev Bl (B b : Nat) (l : Bs) (w : World) : Prop := Lib.IsBuilder 71 5 B b (Lib.byteCells l) w
theorem info78x : ∃ j, Tryz.prog.info? 71 = some j ∧ j.size = 2 := by
  have : (Tryz.prog.info? 71).map (·.size) = some 2 := by kernel_rfl
  exact Option.map_eq_some_iff.1 this
theorem lies71 : liesAt Tryz.prog Tryz.prog.depth 71 (2 / Tryz.prog.cellsOf 71) 0 71 1 = true := by kernel_rfl
set_option maxHeartbeats 1600000 in
theorem bcheck_used (b : Nat) (w : World) (h0 : w.cell? ⟨b, 0, none⟩ = some (pq b)) : Calls Tryz.prog 65 #[pq b] w fun e w' => e = .returned (.tuple #[]) ∧ w' = w := by
  obtain ⟨j, hj, _⟩ := info78x
  go_enter Tryz.func65, Tryz.ntmps65
  go_wp2
  rw [Lib.run_neq_ptr_same w _ Tryz.underlying69 hj]
  go_wp2
  go_end0
  exact ⟨rfl, rfl⟩
theorem noesc (x : Value) (w : World) : (callFunc 81 #[x]).run Tryz.prog w = .ok (.value x) w := by
  rw [run_callFunc_extern Tryz.func81 (by kernel_rfl) (by kernel_rfl) (by kernel_rfl) (e := Extern.AbiNoEscape.same) (by kernel_rfl)]
  rfl
set_option maxHeartbeats 1600000 in
theorem bcheck_fresh (b : Nat) (w : World) (h0 : w.cell? ⟨b, 0, none⟩ = some (.pointer none)) (hsh : w.shape? b = some (71, 2)) (hfz : w.frozen? ⟨b, 0, none⟩ = false) : Calls Tryz.prog 65 #[pq b] w fun e w' => e = .returned (.tuple #[]) ∧ w' = w.setCell ⟨b, 0, none⟩ (pq b) := by
  obtain ⟨j, hj, hs⟩ := info78x
  have r1 := Lib.run_to_unsafe (P := Tryz.prog) w ⟨b, 0, none⟩ Tryz.underlying69 Tryz.underlying142 hj (by rw [hs]; decide) hsh (Nat.zero_lt_succ 1)
  have r2 := Lib.run_from_unsafe (P := Tryz.prog) w ⟨b, 0, none⟩ Tryz.underlying142 Tryz.underlying69 hj hsh lies71
  have r3 := noesc (pq b) w
  go_enter Tryz.func65, Tryz.ntmps65
  go_wp2
  go_end0
  exact ⟨rfl, rfl⟩
theorem bcheck_ok {B b : Nat} {l : Bs} {w : World} (h : Bl B b l w) : Calls Tryz.prog 65 #[pq b] w fun e w' => e = .returned (.tuple #[]) ∧ Lib.BuilderAt 71 5 B b (pq b) (Lib.byteCells l) w' ∧ Touch b w w' := by
  rcases h with h | h
  · refine (bcheck_fresh b w h.cell0 h.shape h.frozen0).mono ?_
    rintro e w' ⟨rfl, rfl⟩
    exact ⟨rfl, h.used _, Touch.setCell (p := ⟨b, 0, none⟩) (Touch.refl b w) rfl _⟩
  · refine (bcheck_used b w h.cell0).mono ?_
    rintro e w' ⟨rfl, rfl⟩
    exact ⟨rfl, h, Touch.refl b _⟩
theorem wpList_apps_run {P : Program} {w : World} {ops : Array Oper} {rest : List Oper} {o : Oper} {a : Act} {Q : Exit → Act → World → Prop} (hgd : o.guard = none) (s x : Operand) (t u : TypeId)
    (ho : o.op = .call { callee := .builtin .append, args := #[s, x], argTypes := #[t, u] }) (v1 v2 : Value) (hs : a.eval s = v1) (hx : a.eval x = v2) (ty : TypeId) (hty : o.type = ty) (r : Value) (w' : World)
    (hr : (Builtin.append_ #[t, u] ty #[v1, v2]).run P w = .ok r w') (h : wpList P ops Q rest (a.put o.dst r) w') : wpList P ops Q (o :: rest) a w :=
  wpList_plain hgd fun _ hK => by
    unfold Oper.wp execOp
    simp only [ho, resolve, invoke, builtin, Sem.run_bind, Sem.run_pure, Result.andThen_ok, List.map_toArray, List.map_cons, List.map_nil, hs, hx, hty, hr]
    exact hK _ _ h
theorem under51 : Tryz.prog.underlying 67 = some (.slice 5) := by kernel_rfl
theorem info5y : (Tryz.prog.info? 5).map (fun i => (i.zero, i.size, i.bytes)) = some (some (.int .u8 0), 1, 1) := by kernel_rfl
theorem bl_kept {B b : Nat} {l : Bs} {w : World} (h : Lib.BuilderAt 71 5 B b (pq b) (Lib.byteCells l) w) : b < w.heap.size ∧ B ≤ b := ⟨h.lt, h.1⟩
set_option maxHeartbeats 1600000 in
theorem wstr_ok {B b : Nat} {l : Bs} (s : Bs) {w : World} (h : Bl B b l w) (hn : l.length + s.length ≤ 100000000) (hB : B ≤ w.heap.size) : Calls Tryz.prog 40 #[pq b, str s] w fun e w' => (∃ v, e = .returned v) ∧ Bl B b (l ++ s) w' ∧ Fr B [71, 5] w w' := by
  have HC := hid (bcheck_ok h)
  have HT : Hid (∃ C, w.heap[b]? = some (.cells C 71)) := by
    rcases h with h | h
    · obtain ⟨_, v, hb, _⟩ := h; exact ⟨_, hb⟩
    · obtain ⟨_, v, hb, _⟩ := h; exact ⟨_, hb⟩
  obtain ⟨i, hi, hz, hs, hby⟩ := info_parts info5y
  clear h
  go_enter Tryz.func40, Tryz.ntmps40
  go_wp2_with fail
  refine HC.out.mono ?_
  rintro e w1 ⟨rfl, h1, ht1⟩
  have hlt := h1.lt
  have hBb := h1.1
  have hw1 := ht1.size
  obtain ⟨_, v, hbk, hown, hne⟩ := h1
  have c1 : w1.cell? ⟨b, 1, none⟩ = some v := blk_cell hbk 1
  have HF1 : Hid (Fr B [71, 5] w w1) := by
    obtain ⟨C, hC⟩ := HT.out
    exact Fr.of_touch ht1 hC rfl hBb
  have hsz : (⟨s.toArray⟩ : ByteArray).size = s.length := by show s.toArray.size = _; simp
  rw [Lib.byteCells_length] at hown
  obtain ⟨v', w2, hrun, hown2, hgrow, _⟩ := Lib.run_append_own_string (P := Tryz.prog) w1 B 67 9 67 5 i under51 Tryz.underlying9 hi hz hs hby v l.length _ hown ⟨s.toArray⟩ (by rw [hsz]; unfold maxLen; omega) (by rw [hsz]; omega) (by omega)
  obtain ⟨ao', cap', rfl, _⟩ := own_slice hown2
  generalize hq : l.length + (⟨s.toArray⟩ : ByteArray).size = q at *
  have HRun := hid hrun
  have hb2 : w2.heap[b]? = some (.cells #[pq b, v] 71) := (hgrow.block b hlt (fun e => hne e.symm)).trans hbk
  have d1 : w2.cell? ⟨b, 1, none⟩ = some v := blk_cell hb2 1
  have df : w2.frozen? ⟨b, 1, none⟩ = false := blk_frozen hb2 1
  have hb3 : (w2.setCell ⟨b, 1, none⟩ (.slice ao' q cap')).heap[b]? = some (.cells #[pq b, .slice ao' q cap'] 71) := heap_setCell_same w2 b 1 #[pq b, v] 71 (.slice ao' q cap') hb2
  have hne' : (Value.slice ao' q cap').ownBlock ≠ some b := fun he => by
    rcases hown2.2 with ⟨hv, _⟩ | ⟨g, cp, cur, hv, _, hgg, _⟩
    · rw [hv] at he; simp [Value.ownBlock] at he
    · rw [hv] at he
      simp [Value.ownBlock] at he
      subst he
      rw [hb2] at hgg
      simp at hgg
  have HB : Hid (Bl B b (l ++ s) (w2.setCell ⟨b, 1, none⟩ (.slice ao' q cap'))) := by
    refine .inr ⟨hBb, .slice ao' q cap', hb3, ?_, hne'⟩
    have e1 : Lib.byteCells l ++ Lib.strCells ⟨s.toArray⟩ = Lib.byteCells (l ++ s) := by simp [Lib.byteCells, Lib.strCells]
    have e2 : q = (Lib.byteCells (l ++ s)).length := by rw [← hq, hsz, Lib.byteCells_length, List.length_append]
    rw [← e2, ← e1]
    exact own_keep1 hown2 fun k hk => Below.heap_setCell _ _ _ _ (fun e => hne' (by rw [hk, e]))
  have HF : Hid (Fr B [71, 5] w (w2.setCell ⟨b, 1, none⟩ (.slice ao' q cap'))) := by
    refine HF1.out.trans ⟨⟨hgrow.os, hgrow.tape, hgrow.output, by simpa [World.setCell] using hgrow.size, fun k hk => ?_⟩, fun k o hk ho => ?_⟩
    · rw [Below.heap_setCell _ _ _ _ (by show k ≠ b; omega)]
      exact hgrow.block k (by omega) (fun e => by have := (hown.lt k e.symm).1; omega)
    · have hkb : k ≠ b := fun e => by subst e; rw [hbk] at hk; cases hk; simp [keeps] at ho
      rw [Below.heap_setCell _ _ _ _ (by show k ≠ b; exact hkb)]
      rw [hgrow.block k (blk_lt hk) (fun e => ?_)]
      · exact hk
      · rcases hown.2 with ⟨rfl, _⟩ | ⟨g, cp, cur, rfl, _, hgg, _⟩
        · simp [Value.ownBlock] at e
        · simp [Value.ownBlock] at e
          subst e
          rw [hgg] at hk
          cases hk
          simp [keeps] at ho
  clear hq
  clear hrun hown hown2 hgrow hb2 hb3 hne hne' hbk ht1
  go_wp2_with (at_builtin; refine wpList_apps_run rfl (.tmp 12) (.tmp 13) 67 9 rfl _ _ rfl rfl 67 rfl _ _ HRun.out ?_)
  go_ret2
  exact ⟨⟨_, rfl⟩, HB.out, HF.out⟩
end Go.Proofs.YtihbbgcpdgnhoaaGreatDoor
