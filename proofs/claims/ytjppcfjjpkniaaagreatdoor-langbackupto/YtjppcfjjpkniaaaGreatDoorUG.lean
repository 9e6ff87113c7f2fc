/- Texts Bd Sm0 Sa Sm Pt Po in one; no statement is proved in this text. -/
import Derived.Test.YtjppcfjjpkniaaaGreatDoorUA
import Derived.Test.YtjppcfjjpkniaaaGreatDoorUB
import Derived.Shelf.Strings.Builder1
import Derived.Test.YtjppcfjjpkniaaaGreatDoorUE
import Derived.Deep.LoopGhost
import Derived.Test.YtjppcfjjpkniaaaGreatDoorUF
namespace Go.Proofs.YtjppcfjjpkniaaaGreatDoor
open Go.ChangeShapes Go.WideShapes Go.ChangeAt Go.RowKit Go.Deep
attribute [local go_sem ↓] Go.wp_at_zero Go.wp_at_succ
set_option maxRecDepth 100000

/-- Block b is a builder that has the bytes l. -/
abbrev Bl (B b : Nat) (l : Bs) (w : World) : Prop := Lib.IsBuilder 74 5 B b (Lib.byteCells l) w
theorem info78x : ∃ j, Tryz.prog.info? 74 = some j ∧ j.size = 2 := by
  have : (Tryz.prog.info? 74).map (·.size) = some 2 := by kernel_rfl
  exact Option.map_eq_some_iff.1 this
theorem lies71 : liesAt Tryz.prog Tryz.prog.depth 74 (2 / Tryz.prog.cellsOf 74) 0 74 1 = true := by kernel_rfl
set_option maxHeartbeats 1600000 in
theorem bcheck_used (b : Nat) (w : World) (h0 : w.cell? ⟨b, 0, none⟩ = some (pq b)) : Calls Tryz.prog 55 #[pq b] w fun e w' => e = .returned (.tuple #[]) ∧ w' = w := by
  obtain ⟨j, hj, _⟩ := info78x
  go_enter Tryz.func55, Tryz.ntmps55
  go_wp2
  rw [Lib.run_neq_ptr_same w _ Tryz.underlying71 hj]
  go_wp2
  go_end0
  exact ⟨rfl, rfl⟩
theorem noesc (x : Value) (w : World) : (callFunc 74 #[x]).run Tryz.prog w = .ok (.value x) w := by
  rw [run_callFunc_extern Tryz.func74 (by kernel_rfl) (by kernel_rfl) (by kernel_rfl) (e := Extern.AbiNoEscape.same) (by kernel_rfl)]
  rfl
set_option maxHeartbeats 1600000 in
theorem bcheck_fresh (b : Nat) (w : World) (h0 : w.cell? ⟨b, 0, none⟩ = some (.pointer none)) (hsh : w.shape? b = some (74, 2)) (hfz : w.frozen? ⟨b, 0, none⟩ = false) : Calls Tryz.prog 55 #[pq b] w fun e w' => e = .returned (.tuple #[]) ∧ w' = w.setCell ⟨b, 0, none⟩ (pq b) := by
  obtain ⟨j, hj, hs⟩ := info78x
  have r1 := Lib.run_to_unsafe (P := Tryz.prog) w ⟨b, 0, none⟩ Tryz.underlying71 Tryz.underlying145 hj (by rw [hs]; decide) hsh (Nat.zero_lt_succ 1)
  have r2 := Lib.run_from_unsafe (P := Tryz.prog) w ⟨b, 0, none⟩ Tryz.underlying145 Tryz.underlying71 hj hsh lies71
  have r3 := noesc (pq b) w
  go_enter Tryz.func55, Tryz.ntmps55
  go_wp2
  go_end0
  exact ⟨rfl, rfl⟩
theorem bcheck_ok {B b : Nat} {l : Bs} {w : World} (h : Bl B b l w) : Calls Tryz.prog 55 #[pq b] w fun e w' => e = .returned (.tuple #[]) ∧ Lib.BuilderAt 74 5 B b (pq b) (Lib.byteCells l) w' ∧ Touch b w w' := by
  rcases h with h | h
  · refine (bcheck_fresh b w h.cell0 h.shape h.frozen0).mono ?_
    rintro e w' ⟨rfl, rfl⟩
    exact ⟨rfl, h.used _, Touch.setCell (p := ⟨b, 0, none⟩) (Touch.refl b w) rfl _⟩
  · refine (bcheck_used b w h.cell0).mono ?_
    rintro e w' ⟨rfl, rfl⟩
    exact ⟨rfl, h, Touch.refl b _⟩
theorem wpList_apps_run {P : Program} {w : World} {ops : Array Oper} {rest : List Oper} {o : Oper} {a : Act} {Q : Exit → Act → World → Prop} (hgd : o.guard = none) (s x : Operand) (t u : TypeId)
    (ho : o.op = .call { callee := .builtin .append, args := #[s, x], argTypes := #[t, u] }) (v1 v2 : Value) (hs : a.eval s = v1) (hx : a.eval x = v2) (ty : TypeId) (hty : o.type = ty) (r : Value) (w' : World)
    (hr : (Builtin.append_ #[t, u] ty #[v1, v2]).run P w = .ok r w') (h : wpList P ops Q rest (a.put o.dst r) w') : wpList P ops Q (o :: rest) a w :=
  wpList_plain hgd fun _ hK => by
    unfold Oper.wp execOp
    simp only [ho, resolve, invoke, builtin, Sem.run_bind, Sem.run_pure, Result.andThen_ok, List.map_toArray, List.map_cons, List.map_nil, hs, hx, hty, hr]
    exact hK _ _ h
theorem under51 : Tryz.prog.underlying 72 = some (.slice 5) := by kernel_rfl
theorem info5y : (Tryz.prog.info? 5).map (fun i => (i.zero, i.size, i.bytes)) = some (some (.int .u8 0), 1, 1) := by kernel_rfl
theorem bl_kept {B b : Nat} {l : Bs} {w : World} (h : Lib.BuilderAt 74 5 B b (pq b) (Lib.byteCells l) w) : b < w.heap.size ∧ B ≤ b := ⟨h.lt, h.1⟩
set_option maxHeartbeats 1600000 in
theorem wstr_ok {B b : Nat} {l : Bs} (s : Bs) {w : World} (h : Bl B b l w) (hn : l.length + s.length ≤ 2000000000) (hB : B ≤ w.heap.size) : Calls Tryz.prog 38 #[pq b, str s] w fun e w' => (∃ v, e = .returned v) ∧ Bl B b (l ++ s) w' ∧ Fr B [74, 5] w w' := by
  have HC := hid (bcheck_ok h)
  have HT : Hid (∃ C, w.heap[b]? = some (.cells C 74)) := by
    rcases h with h | h
    · obtain ⟨_, v, hb, _⟩ := h; exact ⟨_, hb⟩
    · obtain ⟨_, v, hb, _⟩ := h; exact ⟨_, hb⟩
  obtain ⟨i, hi, hz, hs, hby⟩ := info_parts info5y
  clear h
  go_enter Tryz.func38, Tryz.ntmps38
  go_wp2_with fail
  refine HC.out.mono ?_
  rintro e w1 ⟨rfl, h1, ht1⟩
  have hlt := h1.lt
  have hBb := h1.1
  have hw1 := ht1.size
  obtain ⟨_, v, hbk, hown, hne⟩ := h1
  have c1 : w1.cell? ⟨b, 1, none⟩ = some v := blk_cell hbk 1
  have HF1 : Hid (Fr B [74, 5] w w1) := by
    obtain ⟨C, hC⟩ := HT.out
    exact Fr.of_touch ht1 hC rfl hBb
  have hsz : (⟨s.toArray⟩ : ByteArray).size = s.length := by show s.toArray.size = _; simp
  rw [Lib.byteCells_length] at hown
  obtain ⟨v', w2, hrun, hown2, hgrow, _⟩ := Lib.run_append_own_string (P := Tryz.prog) w1 B 72 9 72 5 i under51 Tryz.underlying9 hi hz hs hby v l.length _ hown ⟨s.toArray⟩ (by rw [hsz]; unfold maxLen; omega) (by rw [hsz]; omega) (by omega)
  obtain ⟨ao', cap', rfl, _⟩ := own_slice hown2
  generalize hq : l.length + (⟨s.toArray⟩ : ByteArray).size = q at *
  have HRun := hid hrun
  have hb2 : w2.heap[b]? = some (.cells #[pq b, v] 74) := (hgrow.block b hlt (fun e => hne e.symm)).trans hbk
  have d1 : w2.cell? ⟨b, 1, none⟩ = some v := blk_cell hb2 1
  have df : w2.frozen? ⟨b, 1, none⟩ = false := blk_frozen hb2 1
  have hb3 : (w2.setCell ⟨b, 1, none⟩ (.slice ao' q cap')).heap[b]? = some (.cells #[pq b, .slice ao' q cap'] 74) := heap_setCell_same w2 b 1 #[pq b, v] 74 (.slice ao' q cap') hb2
  have hne' : (Value.slice ao' q cap').ownBlock ≠ some b := fun he => by
    rcases hown2.2 with ⟨hv, _⟩ | ⟨g, cp, cur, hv, _, hgg, _⟩
    · rw [hv] at he; simp [Value.ownBlock] at he
    · rw [hv] at he
      simp [Value.ownBlock] at he
      subst he
      rw [hb2] at hgg
      simp at hgg
  have HB : Hid (Bl B b (l ++ s) (w2.setCell ⟨b, 1, none⟩ (.slice ao' q cap'))) := by
    refine .inr ⟨hBb, .slice ao' q cap', hb3, ?_, hne'⟩
    have e1 : Lib.byteCells l ++ Lib.strCells ⟨s.toArray⟩ = Lib.byteCells (l ++ s) := by simp [Lib.byteCells, Lib.strCells]
    have e2 : q = (Lib.byteCells (l ++ s)).length := by rw [← hq, hsz, Lib.byteCells_length, List.length_append]
    rw [← e2, ← e1]
    exact own_keep1 hown2 fun k hk => Below.heap_setCell _ _ _ _ (fun e => hne' (by rw [hk, e]))
  have HF : Hid (Fr B [74, 5] w (w2.setCell ⟨b, 1, none⟩ (.slice ao' q cap'))) := by
    refine HF1.out.trans ⟨⟨hgrow.os, hgrow.tape, hgrow.output, by simpa [World.setCell] using hgrow.size, fun k hk => ?_⟩, fun k o hk ho => ?_⟩
    · rw [Below.heap_setCell _ _ _ _ (by show k ≠ b; omega)]
      exact hgrow.block k (by omega) (fun e => by have := (hown.lt k e.symm).1; omega)
    · have hkb : k ≠ b := fun e => by subst e; rw [hbk] at hk; cases hk; simp [keeps] at ho
      rw [Below.heap_setCell _ _ _ _ (by show k ≠ b; exact hkb)]
      rw [hgrow.block k (blk_lt hk) (fun e => ?_)]
      · exact hk
      · rcases hown.2 with ⟨rfl, _⟩ | ⟨g, cp, cur, rfl, _, hgg, _⟩
        · simp [Value.ownBlock] at e
        · simp [Value.ownBlock] at e
          subst e
          rw [hgg] at hk
          cases hk
          simp [keeps] at ho
  clear hq
  clear hrun hown hown2 hgrow hb2 hb3 hne hne' hbk ht1
  go_wp2_with (at_builtin; refine wpList_apps_run rfl (.tmp 12) (.tmp 13) 72 9 rfl _ _ rfl rfl 72 rfl _ _ HRun.out ?_)
  go_ret2
  exact ⟨⟨_, rfl⟩, HB.out, HF.out⟩
end Go.Proofs.YtjppcfjjpkniaaaGreatDoor
namespace Go.Proofs.YtjppcfjjpkniaaaGreatDoor
open Go.ChangeShapes Go.WideShapes Go.ChangeAt Go.RowKit Go.Deep

def aloneS (a b : Ty) : Bool := decide (a.kind = b.kind) && decide (a.num = b.num) && decide (a.names = b.names) && decide (a.kids.length = b.kids.length)
mutual
def sameB : Ty → Ty → Bool
  | .mk k n l ks, .mk k' n' l' ks' => decide (k = k') && decide (n = n') && decide (l = l') && decide (ks.length = ks'.length) && sameL ks ks'
def sameL : List Ty → List Ty → Bool
  | [], [] => true
  | a :: r, b :: s => sameB a b && sameL r s
  | _, _ => false
end
theorem sameB_eq (a b : Ty) : sameB a b = (aloneS a b && sameL a.kids b.kids) := by
  cases a; cases b; rfl
mutual
theorem sameB_refl : ∀ a : Ty, sameB a a = true
  | .mk k n l ks => by simp [sameB, sameL_refl ks]
theorem sameL_refl : ∀ l : List Ty, sameL l l = true
  | [] => rfl
  | a :: r => by simp [sameL, sameB_refl a, sameL_refl r]
end
theorem sameL_step : ∀ (la lb : List Ty) (i : Nat) (h1 : i < la.length) (h2 : i < lb.length), sameL (la.drop i) (lb.drop i) = (sameB la[i] lb[i] && sameL (la.drop (i + 1)) (lb.drop (i + 1)))
  | _ :: _, _ :: _, 0, _, _ => rfl
  | _ :: r, _ :: s, i + 1, h1, h2 => sameL_step r s i (by simpa using h1) (by simpa using h2)
/-- Two rows, with their slices. -/
abbrev Rw : Type := List Ty × List Ty × Value × Value
def scs (Ss : List Rw) : List Value := Ss.flatMap fun x => [x.2.2.1, x.2.2.2]
theorem scs_app (a b : List Rw) : scs (a ++ b) = scs a ++ scs b := by simp [scs]
theorem scs_len : ∀ a : List Rw, (scs a).length = a.length * 2
  | [] => rfl
  | x :: r => by
    have := scs_len r
    simp only [scs, List.flatMap_cons, List.length_append, List.length_cons, List.length_nil] at this ⊢
    omega
def allS (Ss : List Rw) : Bool := Ss.all fun x => sameL x.1 x.2.1
def totS (Ss : List Rw) : Nat := (Ss.map fun x => 1 + countL x.1).sum
theorem allS_app (a b : List Rw) : allS (a ++ b) = (allS a && allS b) := by simp [allS, List.all_append]
theorem totS_app (a b : List Rw) : totS (a ++ b) = totS a + totS b := by simp [totS]
/-- A slice of kids. -/
def RowAt (V : World) (S : Nat → Prop) (l : List Ty) (v : Value) : Prop := Rd V S (.mk 0 0 [] l) (.slice none 0 0) v
theorem Rd.row {V : World} {S : Nat → Prop} {T : Ty} {nv kv : Value} (h : Rd V S T nv kv) : RowAt V S T.kids kv := by
  cases h with
  | mk b off nvs kvs hn hl ha hc hr => exact .mk b off nvs kvs ⟨none, 0, rfl, Nat.zero_le _, ⟨Nat.le_refl _, fun x hx => by cases hx⟩, Or.inl rfl⟩ hl ha hc hr
/-- Where a tree may stand: below lo, or in one of two blocks. -/
def Sx2 (lo A B b : Nat) : Prop := b < lo ∨ b = A ∨ b = B
structure Stk (V : World) (lo A B : Nat) (v : Value) (Ss : List Rw) : Prop where
  own : V.ownsRow lo 164 2 v Ss.length (scs Ss)
  row : ∀ x ∈ Ss, RowAt V (Sx2 lo A B) x.1 x.2.2.1 ∧ RowAt V (Sx2 lo A B) x.2.1 x.2.2.2 ∧ x.1.length = x.2.1.length
structure Ab (V : World) (A B : Nat) : Prop where
  a : ∃ c, V.heap[A]? = some (.cells c 49)
  b : ∃ c, V.heap[B]? = some (.cells c 49)
theorem RowAt.move {V V' : World} {S S' : Nat → Prop} {l : List Ty} {v : Value} (h : RowAt V S l v) (hz : V.heap.size ≤ V'.heap.size) (hk : ∀ b, S b → b < V.heap.size → S' b ∧ V'.heap[b]? = V.heap[b]?) : RowAt V' S' l v := Rd.move h hz hk
theorem Ab.below {V V' : World} {A B : Nat} (h : Ab V A B) (hb : Below V.heap.size V V') : Ab V' A B := by
  obtain ⟨⟨c, h1⟩, d, h2⟩ := h
  exact ⟨⟨c, blk_below h1 hb⟩, d, blk_below h2 hb⟩
theorem Stk.below {V V' : World} {lo A B : Nat} {v : Value} {Ss : List Rw} (h : Stk V lo A B v Ss) (hb : Below V.heap.size V V') : Stk V' lo A B v Ss :=
  ⟨own_keep1 h.own fun k hk => hb.block k (h.own.lt k hk).2, fun x hx => by
    obtain ⟨h1, h2, h3⟩ := h.row x hx
    exact ⟨h1.move hb.size fun b hS hlt => ⟨hS, hb.block b hlt⟩, h2.move hb.size fun b hS hlt => ⟨hS, hb.block b hlt⟩, h3⟩⟩
theorem own_pop {V : World} {lo : Nat} {e : TypeId} {s : Nat} {ao : Option Addr} {n cap : Nat} {xs ys : List Value} (h : V.ownsRow lo e s (.slice ao (n + 1) cap) (n + 1) (xs ++ ys)) (hy : ys.length = s) : V.ownsRow lo e s (.slice ao n cap) n xs ∧ ∃ g, ao = some ⟨g, 0, none⟩ ∧ g < V.heap.size ∧ n + 1 ≤ cap ∧ ∀ j v, ys[j]? = some v → V.cell? ⟨g, n * s + j, none⟩ = some v := by
  have hl := h.1
  rw [List.length_append, hy, Nat.add_mul, Nat.one_mul] at hl
  have hx : xs.length = n * s := by omega
  have h0 := h
  rcases h.2 with ⟨_, h1⟩ | ⟨g, cap', cur, hv, hb, hg, hc1, hc2, hc3, hc4⟩
  · omega
  · cases hv
    refine ⟨⟨hx, Or.inr ⟨g, cap, cur, rfl, hb, hg, by omega, hc2, hc3, ?_⟩⟩, g, rfl, blk_lt hg, hc1, fun j v hv => ?_⟩
    · have : cur.toList.take (n * s) = (cur.toList.take ((n + 1) * s)).take (n * s) := by
        rw [List.take_take]
        congr 1
        have : n * s ≤ (n + 1) * s := Nat.mul_le_mul_right s (by omega)
        omega
      rw [this, hc4, ← hx, List.take_left]
    · have hj := (List.getElem?_eq_some_iff.1 hv).1
      rw [h0.cellAt (n * s + j) (by rw [Nat.add_mul, Nat.one_mul]; omega), List.getElem?_append_right (by omega), hx, Nat.add_sub_cancel_left]
      exact hv
theorem under67 : Tryz.prog.underlying 165 = some (.slice 164) := Tryz.underlying165
theorem info66 : (Tryz.prog.info? 164).map (fun i => (i.zero, i.size, i.bytes)) = some (some (.agg #[.slice none 0 0, .slice none 0 0]), 2, 48) := by kernel_rfl
/-- A pair of rows more. -/
theorem stk_push {V : World} {lo A B : Nat} {v : Value} {Ss : List Rw} (h : Stk V lo A B v Ss) (hA : Ab V A B) (la lb : List Ty) (a1 : Option Addr) (n1 c1 : Nat) (a2 : Option Addr) (n2 c2 : Nat) (h1 : RowAt V (Sx2 lo A B) la (.slice a1 n1 c1)) (h2 : RowAt V (Sx2 lo A B) lb (.slice a2 n2 c2)) (h3 : la.length = lb.length) (hl : Ss.length ≤ 3000000) (hlo : lo ≤ V.heap.size) :
    ∃ ao cap w', (Builtin.append_ #[165, 165] 165 #[v, .slice (some ⟨V.heap.size, 0, none⟩) 1 1]).run Tryz.prog (V.alloc (.cells #[.slice a1 n1 c1, .slice a2 n2 c2] 164)) = .ok (.slice ao (Ss.length + 1) cap) w' ∧ Stk w' lo A B (.slice ao (Ss.length + 1) cap) (Ss ++ [(la, lb, .slice a1 n1 c1, .slice a2 n2 c2)]) ∧ Ab w' A B ∧ Fr lo [164] V w' ∧ (∀ k, k < V.heap.size → some k ≠ v.ownBlock → w'.heap[k]? = V.heap[k]?) ∧ ((Value.slice ao (Ss.length + 1) cap).ownBlock = v.ownBlock ∨ (Value.slice ao (Ss.length + 1) cap).ownBlock = some (V.heap.size + 1)) := by
  obtain ⟨ao, cap, w', g1, g2, g3, g4, g5⟩ := app_far (te := 164) under67 info66 rfl (by omega) (by omega) h.own [.slice a1 n1 c1, .slice a2 n2 c2] rfl (fun u hu => by
    simp only [List.mem_cons, List.not_mem_nil, or_false] at hu
    rcases hu with rfl | rfl <;> rfl) hl hlo
  have hkeep : ∀ b, Sx2 lo A B b → b < V.heap.size → Sx2 lo A B b ∧ w'.heap[b]? = V.heap[b]? := by
    intro b hb _
    refine ⟨hb, ?_⟩
    obtain ⟨⟨c, e1⟩, d, e2⟩ := hA
    rcases hb with hb | rfl | rfl
    · exact g3.below.block b hb
    · rw [g3.kept _ _ e1 (by rfl), e1]
    · rw [g3.kept _ _ e2 (by rfl), e2]
  refine ⟨ao, cap, w', g1, ⟨?_, fun x hx => ?_⟩, ?_, g3, g4, g5⟩
  · rw [List.length_append, scs_app]
    exact g2
  · rcases List.mem_append.1 hx with hx | hx
    · obtain ⟨i1, i2, i3⟩ := h.row x hx
      exact ⟨i1.move g3.size hkeep, i2.move g3.size hkeep, i3⟩
    · rw [List.mem_singleton.1 hx]
      exact ⟨h1.move g3.size hkeep, h2.move g3.size hkeep, h3⟩
  · obtain ⟨⟨c, e1⟩, d, e2⟩ := hA
    exact ⟨⟨c, g3.kept _ _ e1 (by rfl)⟩, d, g3.kept _ _ e2 (by rfl)⟩
/-- What a row's kid is. -/
theorem RowAt.kid {V : World} {S : Nat → Prop} {l : List Ty} {v : Value} (h : RowAt V S l v) : l.length ≤ maxLen ∧ ∃ ao cap, v = .slice ao l.length cap ∧
    ∀ i (hi : i < l.length), ∃ b off nv' kv', ao = some ⟨b, off, none⟩ ∧ S b ∧ b < V.heap.size ∧ V.rangeAt b (off + i * 4) [i64 l[i].kind, i64 l[i].num, nv', kv'] ∧ Rd V S l[i] nv' kv' := (Rd.kid h).2
theorem eqS_ok {V : World} {S : Nat → Prop} {v1 v2 : Value} {l1 l2 : List Bs} (h1 : Strs V S v1 l1) (h2 : Strs V S v2 l2) : Calls Tryz.prog 72 #[v1, v2] V fun e w' => e = .returned (.bool (decide (l1 = l2))) ∧ ∃ n, w' = V.drewN n := by
  have m1 : l1.length ≤ maxLen := by obtain ⟨_, _, _, h, _, _⟩ := h1; exact h
  have m2 : l2.length ≤ maxLen := by obtain ⟨_, _, _, h, _, _⟩ := h2; exact h
  unfold maxLen at m1 m2
  obtain ⟨a1, c1, rfl, _, hc1⟩ := h1.cells
  obtain ⟨a2, c2, rfl, _, hc2⟩ := h2.cells
  by_cases hne : l1.length ≠ l2.length
  · have e : decide (l1 = l2) = false := decide_eq_false (fun e => hne (by rw [e]))
    rw [e]
    exact (Tryz.slices_Equal_string_lens a1 a2 l1.length c1 l2.length c2 V hne).mono fun e w' ⟨h3, h4⟩ => ⟨h3, 0, h4⟩
  · have hne : l1.length = l2.length := by omega
    rcases hc1 with rfl | ⟨b1, o1, rfl, _, hb1⟩
    · have : l2 = [] := List.eq_nil_of_length_eq_zero hne.symm
      subst this
      exact (Tryz.slices_Equal_string_empty a1 a2 c1 0 c2 V (by omega)).mono fun e w' ⟨h3, h4⟩ => ⟨h3, 0, h4⟩
    · rcases hc2 with rfl | ⟨b2, o2, rfl, _, hb2⟩
      · have : l1 = [] := List.eq_nil_of_length_eq_zero hne
        subst this
        exact (Tryz.slices_Equal_string_empty _ a2 c1 0 c2 V (by omega)).mono fun e w' ⟨h3, h4⟩ => ⟨h3, 0, h4⟩
      · have := Tryz.slices_Equal_string b1 o1 l1.length c1 b2 o2 l2.length c2 (l1.map ba) (l2.map ba) V (by simp) (by simp) (by omega) (by omega) (bas_cells hb1) (bas_cells hb2)
        rw [List.take_of_length_le (by simp), List.take_of_length_le (by simp)] at this
        have e : decide (l1.map ba = l2.map ba) = decide (l1 = l2) := by
          by_cases e : l1 = l2
          · rw [decide_eq_true e, decide_eq_true (by rw [e])]
          · rw [decide_eq_false e, decide_eq_false (fun h => e ?_)]
            exact List.map_inj_right (fun x y h => ba_inj h) |>.1 h
        rw [e] at this
        exact this
end Go.Proofs.YtjppcfjjpkniaaaGreatDoor
namespace Go.Proofs.YtjppcfjjpkniaaaGreatDoor
open Go.ChangeShapes Go.WideShapes Go.ChangeAt Go.RowKit Go.Deep
attribute [local go_sem ↓] Go.wp_at_zero Go.wp_at_succ

theorem heap_at2 (w : World) (o : Obj) (k : Nat) (hk : k = w.heap.size) : (w.alloc o).heap[k]? = some o := by subst hk; exact heap_last w o
set_option maxRecDepth 100000 in
set_option maxHeartbeats 6400000 in
theorem sameAlone_ok (T U : Ty) (w : World) (S : Nat → Prop) (nv kv mv lv : Value) (hR : Rd w S T nv kv) (hQ : Rd w S U mv lv) : Calls Tryz.prog 95 #[tyV T.kind T.num nv kv, tyV U.kind U.num mv lv] w fun e w' => e = .returned (.bool (aloneS T U)) ∧ Below w.heap.size w w' := by
  obtain ⟨R, hRe⟩ : ∃ R, R = aloneS T U := ⟨_, rfl⟩
  have HRe : Hid (R = (decide (T.kind = U.kind) && decide (T.num = U.num) && decide (T.names = U.names) && decide (T.kids.length = U.kids.length))) := hRe
  rw [← hRe]
  clear hRe
  have HEQ : Hid (∀ W, Below w.heap.size w W → Calls Tryz.prog 72 #[nv, mv] W fun e w' => e = .returned (.bool (decide (T.names = U.names))) ∧ ∃ n, w' = W.drewN n) := fun W hW => by
    have h1 := hR.under hW
    have h2 := hQ.under hW
    obtain ⟨k, n, l, ks⟩ := T
    obtain ⟨k', n', l', ks'⟩ := U
    exact eqS_ok h1.kid.1 h2.kid.1
  have hK : T.kids.length ≤ 9223372036854775807 := by obtain ⟨k, n, l, ks⟩ := T; have := hR.kid.2.1; unfold maxLen at this; exact this
  have hL : U.kids.length ≤ 9223372036854775807 := by obtain ⟨k, n, l, ks⟩ := U; have := hQ.kid.2.1; unfold maxLen at this; exact this
  obtain ⟨an, cn, rfl, ak, ck, rfl⟩ := hR.form
  obtain ⟨am, cm, rfl, al, cl, rfl⟩ := hQ.form
  have HX : Hid (((w.alloc (.cells #[i64 T.kind, i64 T.num, .slice an T.names.length cn, .slice ak T.kids.length ck] 49)).alloc (.cells #[i64 U.kind, i64 U.num, .slice am U.names.length cm, .slice al U.kids.length cl] 49)).heap[w.heap.size]? = some (.cells #[i64 T.kind, i64 T.num, .slice an T.names.length cn, .slice ak T.kids.length ck] 49)) := blk_alloc (heap_last w _) _
  have HY : Hid (((w.alloc (.cells #[i64 T.kind, i64 T.num, .slice an T.names.length cn, .slice ak T.kids.length ck] 49)).alloc (.cells #[i64 U.kind, i64 U.num, .slice am U.names.length cm, .slice al U.kids.length cl] 49)).heap[w.heap.size + 1]? = some (.cells #[i64 U.kind, i64 U.num, .slice am U.names.length cm, .slice al U.kids.length cl] 49)) := heap_at2 _ _ _ (by simp)
  have HB : Hid (Below w.heap.size w ((w.alloc (.cells #[i64 T.kind, i64 T.num, .slice an T.names.length cn, .slice ak T.kids.length ck] 49)).alloc (.cells #[i64 U.kind, i64 U.num, .slice am U.names.length cm, .slice al U.kids.length cl] 49))) := (below_one w _).trans ((below_one _ _).mono (by simp))
  clear hR hQ
  go_enter Tryz.func95, Tryz.ntmps95
  go_upto_region 1 with fail
  generalize (w.alloc (.cells #[i64 T.kind, i64 T.num, .slice an T.names.length cn, .slice ak T.kids.length ck] 49)).alloc (.cells #[i64 U.kind, i64 U.num, .slice am U.names.length cm, .slice al U.kids.length cl] 49) = V at *
  obtain ⟨Z, hZ⟩ : ∃ Z, Z = w.heap.size := ⟨_, rfl⟩
  obtain ⟨Y, hY⟩ : ∃ Y, Y = w.heap.size + 1 := ⟨_, rfl⟩
  rw [← hZ] at HX
  rw [← hY] at HY
  rw [← hY, ← hZ]
  clear hZ hY
  have HCE := hid (HEQ.out V HB.out)
  have yc0 : V.cell? ⟨Z, 0, none⟩ = some (i64 T.kind) := blk_cell HX.out 0
  have yc1 : V.cell? ⟨Z, 1, none⟩ = some (i64 T.num) := blk_cell HX.out 1
  have yc2 : V.cell? ⟨Z, 2, none⟩ = some (.slice an T.names.length cn) := blk_cell HX.out 2
  have yc3 : V.cell? ⟨Z, 3, none⟩ = some (.slice ak T.kids.length ck) := blk_cell HX.out 3
  have xc0 : V.cell? ⟨Y, 0, none⟩ = some (i64 U.kind) := blk_cell HY.out 0
  have xc1 : V.cell? ⟨Y, 1, none⟩ = some (i64 U.num) := blk_cell HY.out 1
  have xc2 : V.cell? ⟨Y, 2, none⟩ = some (.slice am U.names.length cm) := blk_cell HY.out 2
  have xc3 : V.cell? ⟨Y, 3, none⟩ = some (.slice al U.kids.length cl) := blk_cell HY.out 3
  generalize decide (T.names = U.names) = NE at *
  generalize T.kids.length = KT at *
  generalize U.kids.length = KU at *
  by_cases h1 : T.kind = U.kind
  · by_cases h2 : T.num = U.num
    · have HR2 : Hid (R = (NE && decide (KT = KU))) := by show _ = _; rw [HRe.out, decide_eq_true h1, decide_eq_true h2]; rfl
      have e1 : (T.kind == U.kind) = true := by simpa using h1
      have e2 : (T.num == U.num) = true := by simpa using h2
      have H1 := hid h1
      have H2 := hid h2
      clear h1 h2 HRe HEQ
      go_wp2_with fail
      refine HCE.out.mono ?_
      rintro e w2 ⟨rfl, nd, rfl⟩
      have HB2 : Hid (Below w.heap.size w (V.drewN nd)) := below_drewN HB.out nd
      have z3 : (V.drewN nd).cell? ⟨Z, 3, none⟩ = some (.slice ak KT ck) := yc3
      have x3 : (V.drewN nd).cell? ⟨Y, 3, none⟩ = some (.slice al KU cl) := xc3
      cases NE with
      | false =>
        go_wp2_with fail
        go_ret
        exact ⟨by rw [HR2.out]; rfl, HB2.out⟩
      | true =>
        by_cases h4 : KT = KU
        · subst h4
          go_wp2_with fail
          go_ret
          exact ⟨by rw [HR2.out]; simp, HB2.out⟩
        · have e4 : ((KT : Int) == KU) = false := by simp; omega
          have HR3 : Hid (R = false) := by show _ = _; rw [HR2.out, decide_eq_false h4]; rfl
          clear h4
          go_wp2_with fail
          go_ret
          exact ⟨by rw [HR3.out]; rfl, HB2.out⟩
    · have e1 : (T.kind == U.kind) = true := by simpa using h1
      have e2 : (T.num == U.num) = false := by simpa using h2
      have HR3 : Hid (R = false) := by show _ = _; rw [HRe.out, decide_eq_false h2]; simp
      have H1 := hid h1
      have H2 := hid h2
      clear h1 h2
      go_wp2_with fail
      go_ret
      exact ⟨by rw [HR3.out]; rfl, HB.out⟩
  · have e1 : (T.kind == U.kind) = false := by simpa using h1
    have HR3 : Hid (R = false) := by show _ = _; rw [HRe.out, decide_eq_false h1]; simp
    have H1 := hid h1
    clear h1
    go_wp2_with fail
    go_ret
    exact ⟨by rw [HR3.out]; rfl, HB.out⟩
end Go.Proofs.YtjppcfjjpkniaaaGreatDoor
namespace Go.Proofs.YtjppcfjjpkniaaaGreatDoor
open Go.ChangeShapes Go.WideShapes Go.ChangeAt Go.RowKit Go.Deep
attribute [local go_sem ↓] Go.wp_at_zero Go.wp_at_succ

theorem tot_len : ∀ S : List Rw, S.length ≤ totS S
  | [] => by simp
  | x :: r => by
    have := tot_len r
    simp only [totS, List.map_cons, List.sum_cons, List.length_cons] at this ⊢
    omega
/-- A type alone in a row. -/
theorem row_one {V : World} {S : Nat → Prop} {T : Ty} {nv kv : Value} {A : Nat} (h : Rd V S T nv kv) (hA : V.heap[A]? = some (.cells #[i64 T.kind, i64 T.num, nv, kv] 49)) (hS : S A) : RowAt V S [T] (.slice (some ⟨A, 0, none⟩) 1 1) := Rd.one (n := 0) h hA hS |>.row
set_option maxRecDepth 100000 in
set_option maxHeartbeats 12800000 in
theorem same_ok (T U : Ty) (w : World) (nv kv mv lv : Value) (hR : Rd w (fun _ => True) T nv kv) (hQ : Rd w (fun _ => True) U mv lv) (hT : T.count ≤ 10000) : Calls Tryz.prog 73 #[tyV T.kind T.num nv kv, tyV U.kind U.num mv lv] w fun e w' => e = .returned (.bool (sameB T U)) ∧ Below w.heap.size w w' := by
  obtain ⟨R, hRe⟩ : ∃ R, R = sameB T U := ⟨_, rfl⟩
  have HRe := hid hRe
  rw [← hRe]
  clear hRe
  obtain ⟨an, cn, rfl, ak, ck, rfl⟩ := hR.form
  obtain ⟨am, cm, rfl, al, cl, rfl⟩ := hQ.form
  have HB4 : Hid (Below w.heap.size w ((((w.alloc (.cells #[i64 T.kind, i64 T.num, .slice an T.names.length cn, .slice ak T.kids.length ck] 49)).alloc (.cells #[i64 U.kind, i64 U.num, .slice am U.names.length cm, .slice al U.kids.length cl] 49)).alloc (.cells #[i64 T.kind, i64 T.num, .slice an T.names.length cn, .slice ak T.kids.length ck] 49)).alloc (.cells #[i64 U.kind, i64 U.num, .slice am U.names.length cm, .slice al U.kids.length cl] 49))) := ((((below_one w _).trans ((below_one _ _).mono (by simp))).trans ((below_one _ _).mono (by simp; omega))).trans ((below_one _ _).mono (by simp; omega)))
  have HA4 : Hid (((((w.alloc (.cells #[i64 T.kind, i64 T.num, .slice an T.names.length cn, .slice ak T.kids.length ck] 49)).alloc (.cells #[i64 U.kind, i64 U.num, .slice am U.names.length cm, .slice al U.kids.length cl] 49)).alloc (.cells #[i64 T.kind, i64 T.num, .slice an T.names.length cn, .slice ak T.kids.length ck] 49)).alloc (.cells #[i64 U.kind, i64 U.num, .slice am U.names.length cm, .slice al U.kids.length cl] 49)).heap[w.heap.size + 2]? = some (.cells #[i64 T.kind, i64 T.num, .slice an T.names.length cn, .slice ak T.kids.length ck] 49)) := by
    show _ = _
    exact blk_alloc (heap_at2 _ _ _ (by simp)) _
  have HC4 : Hid (((((w.alloc (.cells #[i64 T.kind, i64 T.num, .slice an T.names.length cn, .slice ak T.kids.length ck] 49)).alloc (.cells #[i64 U.kind, i64 U.num, .slice am U.names.length cm, .slice al U.kids.length cl] 49)).alloc (.cells #[i64 T.kind, i64 T.num, .slice an T.names.length cn, .slice ak T.kids.length ck] 49)).alloc (.cells #[i64 U.kind, i64 U.num, .slice am U.names.length cm, .slice al U.kids.length cl] 49)).heap[w.heap.size + 3]? = some (.cells #[i64 U.kind, i64 U.num, .slice am U.names.length cm, .slice al U.kids.length cl] 49)) := heap_at2 _ _ _ (by simp)
  have HZ4 : Hid (((((w.alloc (.cells #[i64 T.kind, i64 T.num, .slice an T.names.length cn, .slice ak T.kids.length ck] 49)).alloc (.cells #[i64 U.kind, i64 U.num, .slice am U.names.length cm, .slice al U.kids.length cl] 49)).alloc (.cells #[i64 T.kind, i64 T.num, .slice an T.names.length cn, .slice ak T.kids.length ck] 49)).alloc (.cells #[i64 U.kind, i64 U.num, .slice am U.names.length cm, .slice al U.kids.length cl] 49)).heap.size = w.heap.size + 4) := by show _ = _; simp
  have HBW : Hid (Below w.heap.size w (((((w.alloc (.cells #[i64 T.kind, i64 T.num, .slice an T.names.length cn, .slice ak T.kids.length ck] 49)).alloc (.cells #[i64 U.kind, i64 U.num, .slice am U.names.length cm, .slice al U.kids.length cl] 49)).alloc (.cells #[i64 T.kind, i64 T.num, .slice an T.names.length cn, .slice ak T.kids.length ck] 49)).alloc (.cells #[i64 U.kind, i64 U.num, .slice am U.names.length cm, .slice al U.kids.length cl] 49)).alloc (.cells #[.slice (some ⟨w.heap.size + 2, 0, none⟩) 1 1, .slice (some ⟨w.heap.size + 3, 0, none⟩) 1 1] 164))) := HB4.out.trans ((below_one _ _).mono HB4.out.size)
  have HS0 : Hid (Stk (((((w.alloc (.cells #[i64 T.kind, i64 T.num, .slice an T.names.length cn, .slice ak T.kids.length ck] 49)).alloc (.cells #[i64 U.kind, i64 U.num, .slice am U.names.length cm, .slice al U.kids.length cl] 49)).alloc (.cells #[i64 T.kind, i64 T.num, .slice an T.names.length cn, .slice ak T.kids.length ck] 49)).alloc (.cells #[i64 U.kind, i64 U.num, .slice am U.names.length cm, .slice al U.kids.length cl] 49)).alloc (.cells #[.slice (some ⟨w.heap.size + 2, 0, none⟩) 1 1, .slice (some ⟨w.heap.size + 3, 0, none⟩) 1 1] 164)) w.heap.size (w.heap.size + 2) (w.heap.size + 3) (.slice (some ⟨w.heap.size + 4, 0, none⟩) 1 1) [([T], [U], .slice (some ⟨w.heap.size + 2, 0, none⟩) 1 1, .slice (some ⟨w.heap.size + 3, 0, none⟩) 1 1)]) := by
    have hZ := HZ4.out
    have hg : (((((w.alloc (.cells #[i64 T.kind, i64 T.num, .slice an T.names.length cn, .slice ak T.kids.length ck] 49)).alloc (.cells #[i64 U.kind, i64 U.num, .slice am U.names.length cm, .slice al U.kids.length cl] 49)).alloc (.cells #[i64 T.kind, i64 T.num, .slice an T.names.length cn, .slice ak T.kids.length ck] 49)).alloc (.cells #[i64 U.kind, i64 U.num, .slice am U.names.length cm, .slice al U.kids.length cl] 49)).alloc (.cells #[.slice (some ⟨w.heap.size + 2, 0, none⟩) 1 1, .slice (some ⟨w.heap.size + 3, 0, none⟩) 1 1] 164)).heap[w.heap.size + 4]? = some (.cells #[.slice (some ⟨w.heap.size + 2, 0, none⟩) 1 1, .slice (some ⟨w.heap.size + 3, 0, none⟩) 1 1] 164) := by rw [← hZ]; exact heap_last _ _
    refine ⟨⟨rfl, Or.inr ⟨w.heap.size + 4, 1, _, rfl, by omega, hg, Nat.le_refl _, by unfold maxLen; simp, rfl, rfl⟩⟩, fun x hx => ?_⟩
    rw [List.mem_singleton.1 hx]
    refine ⟨row_one ((hR.mono (S' := Sx2 w.heap.size (w.heap.size + 2) (w.heap.size + 3)) (fun b _ hb => Or.inl hb)).under HBW.out) (blk_alloc HA4.out _) (Or.inr (Or.inl rfl)), row_one ((hQ.mono (S' := Sx2 w.heap.size (w.heap.size + 2) (w.heap.size + 3)) (fun b _ hb => Or.inl hb)).under HBW.out) (blk_alloc HC4.out _) (Or.inr (Or.inr rfl)), rfl⟩
  have HAB0 : Hid (Ab (((((w.alloc (.cells #[i64 T.kind, i64 T.num, .slice an T.names.length cn, .slice ak T.kids.length ck] 49)).alloc (.cells #[i64 U.kind, i64 U.num, .slice am U.names.length cm, .slice al U.kids.length cl] 49)).alloc (.cells #[i64 T.kind, i64 T.num, .slice an T.names.length cn, .slice ak T.kids.length ck] 49)).alloc (.cells #[i64 U.kind, i64 U.num, .slice am U.names.length cm, .slice al U.kids.length cl] 49)).alloc (.cells #[.slice (some ⟨w.heap.size + 2, 0, none⟩) 1 1, .slice (some ⟨w.heap.size + 3, 0, none⟩) 1 1] 164)) (w.heap.size + 2) (w.heap.size + 3)) := ⟨⟨_, blk_alloc HA4.out _⟩, _, blk_alloc HC4.out _⟩
  clear hR hQ HA4 HC4 HZ4 HB4
  go_enter Tryz.func73, Tryz.ntmps73
  go_wp2_with fail
  have HRS : Hid (R = allS [([T], [U], Value.slice (some ⟨w.heap.size + 2, 0, none⟩) 1 1, Value.slice (some ⟨w.heap.size + 3, 0, none⟩) 1 1)]) := by show _ = _; rw [HRe.out]; simp [allS, sameL]
  have HTS : Hid (totS [([T], [U], Value.slice (some ⟨w.heap.size + 2, 0, none⟩) 1 1, Value.slice (some ⟨w.heap.size + 3, 0, none⟩) 1 1)] = T.count + 1) := by show _ = _; simp [totS, countL]; omega
  clear HRe
  generalize ((((w.alloc (.cells #[i64 T.kind, i64 T.num, .slice an T.names.length cn, .slice ak T.kids.length ck] 49)).alloc (.cells #[i64 U.kind, i64 U.num, .slice am U.names.length cm, .slice al U.kids.length cl] 49)).alloc (.cells #[i64 T.kind, i64 T.num, .slice an T.names.length cn, .slice ak T.kids.length ck] 49)).alloc (.cells #[i64 U.kind, i64 U.num, .slice am U.names.length cm, .slice al U.kids.length cl] 49)).alloc (.cells #[.slice (some ⟨w.heap.size + 2, 0, none⟩) 1 1, .slice (some ⟨w.heap.size + 3, 0, none⟩) 1 1] 164) = V0 at *
  obtain ⟨lo, hlo⟩ : ∃ lo, lo = w.heap.size := ⟨_, rfl⟩
  have HLO := hid hlo
  obtain ⟨A, hA⟩ : ∃ A, A = w.heap.size + 2 := ⟨_, rfl⟩
  obtain ⟨B, hB⟩ : ∃ B, B = w.heap.size + 3 := ⟨_, rfl⟩
  obtain ⟨G, hG⟩ : ∃ G, G = w.heap.size + 4 := ⟨_, rfl⟩
  rw [← hA, ← hB, ← hG] at HS0
  rw [← hA, ← hB] at HAB0 HRS HTS
  rw [← hG]
  have HS1 : Hid (Stk V0 lo A B (.slice (some ⟨G, 0, none⟩) 1 1) [([T], [U], .slice (some ⟨A, 0, none⟩) 1 1, .slice (some ⟨B, 0, none⟩) 1 1)]) := by show Stk _ _ _ _ _ _; rw [hlo]; exact HS0.out
  clear hlo hA hB hG HS0
  go_loopg [5] (T.count + 1) (fun g v wr => ∃ Ss, totS Ss ≤ g ∧ g ≤ 10001 ∧ Hid (Stk wr lo A B v Ss) ∧ Hid (Ab wr A B) ∧ Hid (R = allS Ss) ∧ Hid (Below w.heap.size w wr))
  case atStart => exact ⟨_, Nat.le_of_eq HTS.out, by omega, HS1, HAB0, HRS, HBW⟩
  case round =>
    obtain ⟨Ss, hg1, hg2, HS, HAB, HRs, HB⟩ := hrel
    obtain ⟨va, vc, rfl, _⟩ := own_slice HS.out.own
    rcases List.eq_nil_or_concat Ss with hnil | ⟨S0, x, hcc⟩
    · subst hnil
      have HF : Hid (R = true) := HRs.out
      clear HRs
      go_wp2_with fail
      go_ret
      exact ⟨by rw [HF.out]; rfl, HB.out⟩
    · rw [List.concat_eq_append] at hcc
      subst hcc
      obtain ⟨la, lb, va1, vb1⟩ := x
      have hrow := HS.out.row (la, lb, va1, vb1) (by simp)
      obtain ⟨hra, hrb, hlen⟩ := hrow
      simp only at hra hrb hlen
      have hown := HS.out.own
      rw [List.length_append, scs_app] at hown
      obtain ⟨n, hn⟩ : ∃ n, n = S0.length := ⟨_, rfl⟩
      have hln : (S0 ++ [((la, lb, va1, vb1) : Rw)]).length = n + 1 := by rw [List.length_append, hn]; rfl
      rw [hln]
      rw [← hn] at hown
      change World.ownsRow wr lo 164 2 (.slice va (n + 1) vc) (n + 1) (scs S0 ++ [va1, vb1]) at hown
      obtain ⟨hown2, g, rfl, hglt, hcap, hcell⟩ := own_pop hown rfl
      have q0 : wr.cell? ⟨g, n * 2, none⟩ = some va1 := by have := hcell 0 _ rfl; simpa using this
      have q1 : wr.cell? ⟨g, n * 2 + 1, none⟩ = some vb1 := hcell 1 _ rfl
      obtain ⟨hla, aa, ca, rfl, _⟩ := hra.kid
      obtain ⟨hlb, ab, cb, rfl, _⟩ := hrb.kid
      unfold maxLen at hla hlb
      have htot : totS S0 + (1 + countL la) ≤ gk := by rw [totS_app] at hg1; simpa [totS] using hg1
      have hnI : n ≤ 10001 := by
        have := tot_len S0
        omega
      have HRs2 : Hid (R = (sameL la lb && allS S0)) := by show _ = _; rw [HRs.out, allS_app]; simp only [allS, List.all_cons, List.all_nil, Bool.and_true]; exact Bool.and_comm _ _
      have HSp : Hid (Stk wr lo A B (.slice (some ⟨g, 0, none⟩) n vc) S0) := ⟨by rw [← hn]; exact hown2, fun y hy => HS.out.row y (by simp [hy])⟩
      have HRA := hid hra
      have HRB := hid hrb
      have HLn := hid hlen
      have HN := hid hn
      have HTot := hid htot
      have HBx : Hid (Below wr.heap.size wr (wr.alloc (.cells #[.slice aa la.length ca, .slice ab lb.length cb] 164))) := below_one wr _
      have HXx : Hid ((wr.alloc (.cells #[.slice aa la.length ca, .slice ab lb.length cb] 164)).heap[wr.heap.size]? = some (.cells #[.slice aa la.length ca, .slice ab lb.length cb] 164)) := heap_last wr _
      have HGl := hid hglt
      clear hra hrb hlen hown hown2 hcell hn hln htot HS HRs hglt hg1
      go_upto_region 5 with fail
      obtain ⟨Rb, hRb⟩ : ∃ Rb, Rb = wr.heap.size := ⟨_, rfl⟩
      have HRb : Hid (g ≠ Rb) := by show g ≠ Rb; have := HGl.out; omega
      rw [← hRb] at HXx ⊢
      clear hRb q0 q1
      have HSx := hid (HSp.out.below HBx.out)
      have HABx := hid (HAB.out.below HBx.out)
      have HBw : Hid (Below w.heap.size w (wr.alloc (.cells #[.slice aa la.length ca, .slice ab lb.length cb] 164))) := HB.out.trans (HBx.out.mono HB.out.size)
      have HRAx : Hid (RowAt (wr.alloc (.cells #[.slice aa la.length ca, .slice ab lb.length cb] 164)) (Sx2 lo A B) la (.slice aa la.length ca)) := HRA.out.move HBx.out.size fun b hS hlt => ⟨hS, HBx.out.block b hlt⟩
      have HRBx : Hid (RowAt (wr.alloc (.cells #[.slice aa la.length ca, .slice ab lb.length cb] 164)) (Sx2 lo A B) lb (.slice ab lb.length cb)) := HRB.out.move HBx.out.size fun b hS hlt => ⟨hS, HBx.out.block b hlt⟩
      clear HSp HAB HB HRA HRB HBx HGl
      generalize wr.alloc (.cells #[.slice aa la.length ca, .slice ab lb.length cb] 164) = X at *
      have x0 : X.cell? ⟨Rb, 0, none⟩ = some (.slice aa la.length ca) := blk_cell HXx.out 0
      go_wp2_with fail
      go_loopw [5, 33] (fun v u wr => ∃ (i : Nat) (Sy : List Rw), i ≤ la.length ∧ u = i64 i ∧ Hid (Stk wr lo A B v Sy) ∧ Hid (Ab wr A B) ∧ Hid (R = (sameL (la.drop i) (lb.drop i) && allS Sy)) ∧ Hid (totS Sy ≤ totS S0 + countL (la.take i)) ∧ Hid (v.ownBlock ≠ some Rb) ∧ Hid (wr.heap[Rb]? = some (.cells #[.slice aa la.length ca, .slice ab lb.length cb] 164)) ∧ Hid (RowAt wr (Sx2 lo A B) la (.slice aa la.length ca)) ∧ Hid (RowAt wr (Sx2 lo A B) lb (.slice ab lb.length cb)) ∧ Hid (Below w.heap.size w wr)) (fun _ u _ => la.length - (intOf u).toNat)
      case atStart => exact ⟨0, S0, by omega, rfl, HSx, HABx, HRs2, by show _ ≤ _; simp [countL], by show _ ≠ _; intro e; exact HRb.out (by simpa [Value.ownBlock] using e), HXx, HRAx, HRBx, HBw⟩
      case round =>
        obtain ⟨i, Sy, hi, rfl, HSy, HABy, HRy, HTy, HOy, HXy, HRAy, HRBy, HBy⟩ := hrel
        obtain ⟨oa, oc, rfl, _⟩ := own_slice HSy.out.own
        by_cases hlt : i < la.length
        · have hlt2 : i < lb.length := by have := HLn.out; omega
          obtain ⟨_, ao1, cp1, he1, hk1⟩ := HRAy.out.kid
          cases he1
          obtain ⟨b1, o1, nvx, kvx, rfl, _, hb1, hr1, hrx⟩ := hk1 i hlt
          obtain ⟨_, ao2, cp2, he2, hk2⟩ := HRBy.out.kid
          cases he2
          obtain ⟨b2, o2, nvy, kvy, rfl, _, hb2, hr2, hry⟩ := hk2 i hlt2
          obtain ⟨x, hx⟩ : ∃ x, x = la[i] := ⟨_, rfl⟩
          obtain ⟨y, hy⟩ : ∃ y, y = lb[i] := ⟨_, rfl⟩
          rw [← hx] at hr1 hrx
          rw [← hy] at hr2 hry
          have HRz : Hid (R = ((aloneS x y && sameL x.kids y.kids && sameL (la.drop (i + 1)) (lb.drop (i + 1))) && allS Sy)) := by show _ = _; rw [HRy.out, sameL_step la lb i hlt hlt2, ← hx, ← hy, sameB_eq]
          have HTz : Hid (countL (la.take (i + 1)) = countL (la.take i) + (1 + countL x.kids)) := by
            show _ = _
            rw [take_countL la i hlt, ← hx]
            cases x
            rfl
          obtain ⟨an2, cn2, rfl, ak2, ck2, rfl⟩ := hrx.form
          obtain ⟨am2, cm2, rfl, al2, cl2, rfl⟩ := hry.form
          have c0 : wr.cell? ⟨b1, o1 + i * 4, none⟩ = some (i64 x.kind) := hr1 0 _ rfl
          have c1 : wr.cell? ⟨b1, o1 + i * 4 + 1, none⟩ = some (i64 x.num) := hr1 1 _ rfl
          have c2 : wr.cell? ⟨b1, o1 + i * 4 + 2, none⟩ = some (.slice an2 x.names.length cn2) := hr1 2 _ rfl
          have c3 : wr.cell? ⟨b1, o1 + i * 4 + 3, none⟩ = some (.slice ak2 x.kids.length ck2) := hr1 3 _ rfl
          have HB1 : Hid (Below wr.heap.size wr (wr.alloc (.cells #[i64 x.kind, i64 x.num, .slice an2 x.names.length cn2, .slice ak2 x.kids.length ck2] 49))) := below_one wr _
          have HX1 : Hid ((wr.alloc (.cells #[i64 x.kind, i64 x.num, .slice an2 x.names.length cn2, .slice ak2 x.kids.length ck2] 49)).heap[wr.heap.size]? = some (.cells #[i64 x.kind, i64 x.num, .slice an2 x.names.length cn2, .slice ak2 x.kids.length ck2] 49)) := heap_last wr _
          have d0 : (wr.alloc (.cells #[i64 x.kind, i64 x.num, .slice an2 x.names.length cn2, .slice ak2 x.kids.length ck2] 49)).cell? ⟨b2, o2 + i * 4, none⟩ = some (i64 y.kind) := (HB1.out.cell (p := ⟨b2, o2 + i * 4, none⟩) hb2).trans (hr2 0 _ rfl)
          have d1 : (wr.alloc (.cells #[i64 x.kind, i64 x.num, .slice an2 x.names.length cn2, .slice ak2 x.kids.length ck2] 49)).cell? ⟨b2, o2 + i * 4 + 1, none⟩ = some (i64 y.num) := (HB1.out.cell (p := ⟨b2, o2 + i * 4 + 1, none⟩) hb2).trans (hr2 1 _ rfl)
          have d2 : (wr.alloc (.cells #[i64 x.kind, i64 x.num, .slice an2 x.names.length cn2, .slice ak2 x.kids.length ck2] 49)).cell? ⟨b2, o2 + i * 4 + 2, none⟩ = some (.slice am2 y.names.length cm2) := (HB1.out.cell (p := ⟨b2, o2 + i * 4 + 2, none⟩) hb2).trans (hr2 2 _ rfl)
          have d3 : (wr.alloc (.cells #[i64 x.kind, i64 x.num, .slice an2 x.names.length cn2, .slice ak2 x.kids.length ck2] 49)).cell? ⟨b2, o2 + i * 4 + 3, none⟩ = some (.slice al2 y.kids.length cl2) := (HB1.out.cell (p := ⟨b2, o2 + i * 4 + 3, none⟩) hb2).trans (hr2 3 _ rfl)
          have e1 : (wr.alloc (.cells #[i64 x.kind, i64 x.num, .slice an2 x.names.length cn2, .slice ak2 x.kids.length ck2] 49)).cell? ⟨Rb, 1, none⟩ = some (.slice (some ⟨b2, o2, none⟩) lb.length cb) := blk_cell (blk_below HXy.out HB1.out) 1
          have hltB : (i : Int) < lb.length := by omega
          clear hx hy hr1 hr2 hk1 hk2 hb1 hb2 x0
          go_upto_region 8 with fail
          obtain ⟨Xb, hXb⟩ : ∃ Xb, Xb = wr.heap.size := ⟨_, rfl⟩
          have HXb := hid hXb
          rw [← hXb] at HX1 ⊢
          clear hXb c0 c1 c2 c3
          have HRX1 := hid (hrx.under HB1.out)
          have HRY1 := hid (hry.under HB1.out)
          have HS1 := hid (HSy.out.below HB1.out)
          have HA1 := hid (HABy.out.below HB1.out)
          have HQ1 := hid (blk_below HXy.out HB1.out)
          have HC1 : Hid (RowAt (wr.alloc (.cells #[i64 x.kind, i64 x.num, .slice an2 x.names.length cn2, .slice ak2 x.kids.length ck2] 49)) (Sx2 lo A B) la (.slice (some ⟨b1, o1, none⟩) la.length ca)) := HRAy.out.move HB1.out.size fun b hS hlt => ⟨hS, HB1.out.block b hlt⟩
          have HD1 : Hid (RowAt (wr.alloc (.cells #[i64 x.kind, i64 x.num, .slice an2 x.names.length cn2, .slice ak2 x.kids.length ck2] 49)) (Sx2 lo A B) lb (.slice (some ⟨b2, o2, none⟩) lb.length cb)) := HRBy.out.move HB1.out.size fun b hS hlt => ⟨hS, HB1.out.block b hlt⟩
          have HW1 : Hid (Below w.heap.size w (wr.alloc (.cells #[i64 x.kind, i64 x.num, .slice an2 x.names.length cn2, .slice ak2 x.kids.length ck2] 49))) := HBy.out.trans (HB1.out.mono HBy.out.size)
          clear hrx hry HSy HABy HXy HRAy HRBy HBy HRy HB1
          generalize wr.alloc (.cells #[i64 x.kind, i64 x.num, .slice an2 x.names.length cn2, .slice ak2 x.kids.length ck2] 49) = W1 at *
          have HB2 : Hid (Below W1.heap.size W1 (W1.alloc (.cells #[i64 y.kind, i64 y.num, .slice am2 y.names.length cm2, .slice al2 y.kids.length cl2] 49))) := below_one W1 _
          have HY2 : Hid ((W1.alloc (.cells #[i64 y.kind, i64 y.num, .slice am2 y.names.length cm2, .slice al2 y.kids.length cl2] 49)).heap[W1.heap.size]? = some (.cells #[i64 y.kind, i64 y.num, .slice am2 y.names.length cm2, .slice al2 y.kids.length cl2] 49)) := heap_last W1 _
          go_upto_region 9 with fail
          obtain ⟨Yb, hYb⟩ : ∃ Yb, Yb = W1.heap.size := ⟨_, rfl⟩
          rw [← hYb] at HY2 ⊢
          clear hYb d0 d1 d2 d3 e1
          have HX2 := hid (blk_below HX1.out HB2.out)
          have HRX2 := hid (HRX1.out.under HB2.out)
          have HRY2 := hid (HRY1.out.under HB2.out)
          have HS2 := hid (HS1.out.below HB2.out)
          have HA2 := hid (HA1.out.below HB2.out)
          have HQ2 := hid (blk_below HQ1.out HB2.out)
          have HC2 : Hid (RowAt (W1.alloc (.cells #[i64 y.kind, i64 y.num, .slice am2 y.names.length cm2, .slice al2 y.kids.length cl2] 49)) (Sx2 lo A B) la (.slice (some ⟨b1, o1, none⟩) la.length ca)) := HC1.out.move HB2.out.size fun b hS hlt => ⟨hS, HB2.out.block b hlt⟩
          have HD2 : Hid (RowAt (W1.alloc (.cells #[i64 y.kind, i64 y.num, .slice am2 y.names.length cm2, .slice al2 y.kids.length cl2] 49)) (Sx2 lo A B) lb (.slice (some ⟨b2, o2, none⟩) lb.length cb)) := HD1.out.move HB2.out.size fun b hS hlt => ⟨hS, HB2.out.block b hlt⟩
          have HW2 : Hid (Below w.heap.size w (W1.alloc (.cells #[i64 y.kind, i64 y.num, .slice am2 y.names.length cm2, .slice al2 y.kids.length cl2] 49))) := HW1.out.trans (HB2.out.mono HW1.out.size)
          clear HX1 HRX1 HRY1 HS1 HA1 HQ1 HC1 HD1 HW1 HB2
          generalize W1.alloc (.cells #[i64 y.kind, i64 y.num, .slice am2 y.names.length cm2, .slice al2 y.kids.length cl2] 49) = W2 at *
          have xc0 : W2.cell? ⟨Xb, 0, none⟩ = some (i64 x.kind) := blk_cell HX2.out 0
          have xc1 : W2.cell? ⟨Xb, 1, none⟩ = some (i64 x.num) := blk_cell HX2.out 1
          have xc2 : W2.cell? ⟨Xb, 2, none⟩ = some (.slice an2 x.names.length cn2) := blk_cell HX2.out 2
          have xc3 : W2.cell? ⟨Xb, 3, none⟩ = some (.slice ak2 x.kids.length ck2) := blk_cell HX2.out 3
          have yc0 : W2.cell? ⟨Yb, 0, none⟩ = some (i64 y.kind) := blk_cell HY2.out 0
          have yc1 : W2.cell? ⟨Yb, 1, none⟩ = some (i64 y.num) := blk_cell HY2.out 1
          have yc2 : W2.cell? ⟨Yb, 2, none⟩ = some (.slice am2 y.names.length cm2) := blk_cell HY2.out 2
          have yc3 : W2.cell? ⟨Yb, 3, none⟩ = some (.slice al2 y.kids.length cl2) := blk_cell HY2.out 3
          have HCA := hid (sameAlone_ok x y W2 _ _ _ _ _ HRX2.out HRY2.out)
          generalize hAl : aloneS x y = AL at *
          have HAl := hid hAl
          clear hAl
          go_wp2_with fail
          refine HCA.out.mono ?_
          rintro e W3 ⟨rfl, hb3⟩
          have HX3 := hid (blk_below HX2.out hb3)
          have HY3 := hid (blk_below HY2.out hb3)
          have HRX3 := hid (HRX2.out.under hb3)
          have HRY3 := hid (HRY2.out.under hb3)
          have HS3 := hid (HS2.out.below hb3)
          have HA3 := hid (HA2.out.below hb3)
          have HQ3 := hid (blk_below HQ2.out hb3)
          have HC3 : Hid (RowAt W3 (Sx2 lo A B) la (.slice (some ⟨b1, o1, none⟩) la.length ca)) := HC2.out.move hb3.size fun b hS hlt => ⟨hS, hb3.block b hlt⟩
          have HD3 : Hid (RowAt W3 (Sx2 lo A B) lb (.slice (some ⟨b2, o2, none⟩) lb.length cb)) := HD2.out.move hb3.size fun b hS hlt => ⟨hS, hb3.block b hlt⟩
          have HW3 : Hid (Below w.heap.size w W3) := HW2.out.trans (hb3.mono HW2.out.size)
          clear hb3 HX2 HY2 HRX2 HRY2 HS2 HA2 HQ2 HC2 HD2 HW2 HCA
          clear xc0 xc1 xc2 xc3 yc0 yc1 yc2 yc3
          cases AL with
          | false =>
            have HF : Hid (R = false) := by show _ = _; rw [HRz.out]; simp
            go_wp2_with fail
            go_ret
            exact ⟨by rw [HF.out]; rfl, HW3.out⟩
          | true =>
            have x3 : W3.cell? ⟨Xb, 3, none⟩ = some (.slice ak2 x.kids.length ck2) := blk_cell HX3.out 3
            have y3 : W3.cell? ⟨Yb, 3, none⟩ = some (.slice al2 y.kids.length cl2) := blk_cell HY3.out 3
            have hxl : x.kids.length ≤ 9223372036854775807 := by have := HRX3.out.row.kid.1; unfold maxLen at this; exact this
            have hkl : x.kids.length = y.kids.length := by have := HAl.out; unfold aloneS at this; simp only [Bool.and_eq_true, decide_eq_true_eq] at this; exact this.2
            have HKL := hid hkl
            clear hkl
            by_cases h0 : x.kids = []
            · have hx0 : x.kids.length = 0 := by rw [h0]; rfl
              have HR4 : Hid (R = (sameL (la.drop (i + 1)) (lb.drop (i + 1)) && allS Sy)) := by
                show _ = _
                have hy0 : y.kids = [] := List.eq_nil_of_length_eq_zero (by rw [← HKL.out]; exact hx0)
                rw [HRz.out, h0, hy0]
                rfl
              have HT4 : Hid (totS Sy ≤ totS S0 + countL (la.take (i + 1))) := by show _ ≤ _; have := HTy.out; have := HTz.out; omega
              rw [hx0] at x3
              clear h0 hx0
              go_wp2_with fail
              exact ⟨⟨i + 1, Sy, by omega, by go_num, HS3, HA3, HR4, HT4, HOy, HQ3, HC3, HD3, HW3⟩, by simp [intOf]; omega⟩
            · have hx1 : 0 < x.kids.length := List.length_pos_iff.2 h0
              have hx1I : (0 : Int) < x.kids.length := by omega
              have hSyl : Sy.length ≤ 3000000 := by
                have h1 := tot_len Sy
                have h2 := HTy.out
                have h3 := HTot.out
                have h4 := countL_take la i
                omega
              obtain ⟨ao9, cap9, W4, hrun, hst, hab, hfr, hfar, hnew⟩ := stk_push HS3.out HA3.out x.kids y.kids _ _ _ _ _ _ HRX3.out.row HRY3.out.row HKL.out hSyl (by have := HW3.out.size; have := HLO.out; omega)
              have HRUN := hid hrun
              have HS4 := hid hst
              have HA4 := hid hab
              have hOne : ∀ k, k < W3.heap.size → k ≠ Rb → True := fun _ _ _ => trivial
              have HQ4 : Hid (W4.heap[Rb]? = some (.cells #[.slice (some ⟨b1, o1, none⟩) la.length ca, .slice (some ⟨b2, o2, none⟩) lb.length cb] 164)) := by show _ = _; rw [hfar Rb (blk_lt HQ3.out) (fun e => HOy.out e.symm)]; exact HQ3.out
              have hkeep : ∀ b, Sx2 lo A B b → b < W3.heap.size → Sx2 lo A B b ∧ W4.heap[b]? = W3.heap[b]? := by
                intro b hb _
                refine ⟨hb, ?_⟩
                obtain ⟨⟨c, e1⟩, d, e2⟩ := HA3.out
                rcases hb with hb | rfl | rfl
                · exact hfr.below.block b hb
                · rw [hfr.kept _ _ e1 (by rfl), e1]
                · rw [hfr.kept _ _ e2 (by rfl), e2]
              have HC4 : Hid (RowAt W4 (Sx2 lo A B) la (.slice (some ⟨b1, o1, none⟩) la.length ca)) := HC3.out.move hfr.size hkeep
              have HD4 : Hid (RowAt W4 (Sx2 lo A B) lb (.slice (some ⟨b2, o2, none⟩) lb.length cb)) := HD3.out.move hfr.size hkeep
              have HO4 : Hid ((Value.slice ao9 (Sy.length + 1) cap9).ownBlock ≠ some Rb) := by
                show _ ≠ _
                rcases hnew with h | h
                · rw [h]; exact HOy.out
                · rw [h]; intro e; cases e; have := blk_lt HQ3.out; omega
              have HW4 : Hid (Below w.heap.size w W4) := HW3.out.trans (HLO.out ▸ hfr.below)
              have HR4 : Hid (R = (sameL (la.drop (i + 1)) (lb.drop (i + 1)) && allS (Sy ++ [(x.kids, y.kids, .slice ak2 x.kids.length ck2, .slice al2 y.kids.length cl2)]))) := by
                show _ = _
                rw [HRz.out, allS_app]
                simp only [allS, List.all_cons, List.all_nil, Bool.and_true, Bool.true_and]
                generalize sameL x.kids y.kids = p
                generalize sameL (la.drop (i + 1)) (lb.drop (i + 1)) = q
                generalize (Sy.all fun x => sameL x.1 x.2.1) = r
                cases p <;> cases q <;> cases r <;> rfl
              have HT4 : Hid (totS (Sy ++ [(x.kids, y.kids, .slice ak2 x.kids.length ck2, .slice al2 y.kids.length cl2)]) ≤ totS S0 + countL (la.take (i + 1))) := by
                show _ ≤ _
                rw [totS_app]
                have e : totS [((x.kids, y.kids, .slice ak2 x.kids.length ck2, .slice al2 y.kids.length cl2) : Rw)] = 1 + countL x.kids := by simp [totS]
                have h1 := HTy.out
                have h2 := HTz.out
                omega
              clear hrun hst hab hfr hfar hnew hkeep h0 hOne hx1
              go_wp2_with (at_builtin; refine wpList_app_run rfl (.tmp 51) (.tmp 57) 165 rfl _ _ rfl rfl 165 rfl _ _ HRUN.out ?_)
              exact ⟨⟨i + 1, _, by omega, by go_num, HS4, HA4, HR4, HT4, HO4, HQ4, HC4, HD4, HW4⟩, by simp [intOf]; omega⟩
        · have he : i = la.length := by omega
          have HR5 : Hid (R = allS Sy) := by
            show _ = _
            have h1 := HRy.out
            have h2 := HLn.out
            rw [he, List.drop_length, h2, List.drop_length] at h1
            rw [h1]
            rfl
          have HT5 : Hid (totS Sy < gk) := by
            show _ < _
            have h1 := HTy.out
            have h2 := HTot.out
            have h3 := countL_take la i
            omega
          clear he x0
          go_wp2_with fail
          go_roundg (totS Sy)
          case measure => exact HT5.out
          case rel => exact ⟨Sy, Nat.le_refl _, by have := HT5.out; omega, HSy, HABy, HR5, HBy⟩
end Go.Proofs.YtjppcfjjpkniaaaGreatDoor
namespace Go.Proofs.YtjppcfjjpkniaaaGreatDoor
open Go.ChangeShapes Go.WideShapes Go.ChangeAt Go.RowKit Go.Deep
attribute [local go_sem ↓] Go.wp_at_zero Go.wp_at_succ
set_option maxRecDepth 100000

theorem itoa_any (w : World) (hp : Pw w) (n : Int) (h0 : -9223372036854775808 ≤ n) (h1 : n ≤ 9223372036854775807) : Calls Tryz.prog 71 #[i64 n] w fun e w' => e = .returned (str (Lib.itoa n)) ∧ Below w.heap.size w w' := by
  refine (Tryz.strconv_Itoa n (by omega) (by omega) w hp).mono ?_
  rintro e w' ⟨rfl, k, os, rfl⟩
  exact ⟨rfl, grow_below _ _ _⟩
/-- Names more, at a row's end. -/
theorem push_strs {V : World} {lo : Nat} {nv u : Value} {l m : List Bs} {S : Nat → Prop} (h : V.ownsRow lo 9 1 nv l.length (l.map str)) (hm : Strs V S u m) (hn : l.length + m.length ≤ 6000000) (hlo : lo ≤ V.heap.size) :
    ∃ ao cap w', (Builtin.append_ #[46, 46] 46 #[nv, u]).run Tryz.prog V = .ok (.slice ao (l.length + m.length) cap) w' ∧ w'.ownsRow lo 9 1 (.slice ao (l.length + m.length) cap) (l ++ m).length ((l ++ m).map str) ∧ Below lo V w' ∧ (∀ k, k < V.heap.size → some k ≠ nv.ownBlock → w'.heap[k]? = V.heap[k]?) := by
  obtain ⟨i, hi, hz, hs, hb⟩ := info_parts info9
  obtain ⟨au, cu, rfl, _, _, hc⟩ := hm
  have hone : ∀ u ∈ m.map str, u.oneCell' = true := fun u hu => by
    obtain ⟨x, _, rfl⟩ := List.mem_map.1 hu
    rfl
  have some_case : ∀ a : Addr, au = some a → (∀ j x, (m.map str)[j]? = some x → V.cell? (a.add j) = some x) → ∃ ao cap w', (Builtin.append_ #[46, 46] 46 #[nv, .slice au m.length cu]).run Tryz.prog V = .ok (.slice ao (l.length + m.length) cap) w' ∧ w'.ownsRow lo 9 1 (.slice ao (l.length + m.length) cap) (l ++ m).length ((l ++ m).map str) ∧ Below lo V w' ∧ (∀ k, k < V.heap.size → some k ≠ nv.ownBlock → w'.heap[k]? = V.heap[k]?) := fun a ha hnews => by
    subst ha
    obtain ⟨v', w', hr, h2, h3, _, h5⟩ := run_append_own_at (P := Tryz.prog) V lo 46 46 9 i _ 1 16 under22 hi hz hs hb rfl (by omega) nv l.length (l.map str) h a m.length cu (m.map str) (by simp) hnews hone (by unfold maxLen; omega) (by omega) hlo
    obtain ⟨ao, cap, rfl, _⟩ := own_slice h2
    refine ⟨ao, cap, w', hr, ?_, ⟨h3.os, h3.tape, h3.output, h3.size, fun k hk => ?_⟩, fun k hk hne => h3.block k hk hne⟩
    · rw [List.length_append, List.map_append]; exact h2
    · exact h3.block k (by omega) (fun hE => by have := (h.lt k hE.symm).1; omega)
  rcases hc with rfl | ⟨b, off, rfl, _, hlt, hcell⟩
  · cases au with
    | none =>
      obtain ⟨ao, cap, rfl, _⟩ := own_slice h
      refine ⟨ao, cap, V, run_append_owned_none (P := Tryz.prog) V lo 46 46 9 i 1 under22 hi _ l.length (l.map str) h, ?_, Below.refl _ _, fun _ _ _ => rfl⟩
      rw [List.append_nil]
      exact h
    | some a => exact some_case a rfl (fun j x hx => by simp at hx)
  · refine some_case ⟨b, off, none⟩ rfl (fun j x hx => ?_)
    rw [List.getElem?_map] at hx
    obtain ⟨y, h2, rfl⟩ := Option.map_eq_some_iff.1 hx
    have hadd : (⟨b, off, none⟩ : Addr).add j = ⟨b, off + j, none⟩ := by unfold Addr.add; split <;> simp_all
    rw [hadd]
    exact hcell j y h2
theorem lit_strs {V : World} (l : List Bs) (hl : l.length ≤ 10) (hx : ∀ x ∈ l, x.length ≤ maxLen) : Strs (V.alloc (.cells (l.map str).toArray 9)) (fun _ => True) (.slice (some ⟨V.heap.size, 0, none⟩) l.length l.length) l := by
  refine ⟨_, l.length, rfl, by unfold maxLen; omega, ⟨Nat.le_refl _, hx⟩, Or.inr ⟨V.heap.size, 0, rfl, trivial, by rw [sz_alloc]; omega, fun i x h => ?_⟩⟩
  rw [Nat.zero_add, blk_cell (heap_last V _) i]
  simp [h]
theorem lit_own2 {V : World} {lo : Nat} (a b : Bs) (hlo : lo ≤ V.heap.size) : (V.alloc (.cells #[str a, str b] 9)).ownsRow lo 9 1 (.slice (some ⟨V.heap.size, 0, none⟩) 2 2) [a, b].length ([a, b].map str) :=
  World.ownsRow_lit V #[str a, str b] 2 hlo (by unfold maxLen; omega) rfl
/-- The words of a statement. -/
def prT (t : Ty) : Bs := if t.err = 0 then t.txt else []
def toldF (op : Nat) (num : Int) (nm ds : Bs) (names : List Bs) (t : Ty) : List Bs :=
  [opNm op, nm] ++ (if op = 1 ∨ op = 6 then [ds] else if op = 3 then [prT t, Lib.itoa num] else if op = 4 then [Lib.itoa num] else []) ++ names
/-- The statement among the arguments stands in a box. -/
structure Tld (w V : World) (Z : Nat) (op num : Int) (nm ds : Bs) (nv tn tk bv : Value) (t : Ty) (names : List Bs) (av : Value) (l : List Bs) : Prop where
  gl : Gl w.heap.size V
  hZ : V.heap[Z]? = some (sbO (i64 op) (str nm) (str ds) nv (i64 t.kind) (i64 t.num) tn tk (i64 num) bv)
  zl : w.heap.size ≤ Z
  hn : Strs V (fun k => k < w.heap.size) nv names
  ht : Rd V (fun k => k < w.heap.size) t tn tk
  own : V.ownsRow w.heap.size 9 1 av l.length (l.map str)
  ns : ∀ x ∈ l, x.length ≤ maxLen
  bel : Below w.heap.size w V
theorem Tld.below {w V V' : World} {Z : Nat} {op num : Int} {nm ds : Bs} {nv tn tk bv : Value} {t : Ty} {names : List Bs} {av : Value} {l : List Bs} (h : Tld w V Z op num nm ds nv tn tk bv t names av l) (hb : Below V.heap.size V V') : Tld w V' Z op num nm ds nv tn tk bv t names av l :=
  ⟨h.gl.under hb, blk_below h.hZ hb, h.zl, h.hn.below hb, h.ht.under hb, own_keep1 h.own fun k hk => hb.block k (h.own.lt k hk).2, h.ns, h.bel.trans (hb.mono h.bel.size)⟩
/-- Words more. -/
theorem Tld.push {w V : World} {Z : Nat} {op num : Int} {nm ds : Bs} {nv tn tk bv u : Value} {t : Ty} {names : List Bs} {av : Value} {l m : List Bs} {S : Nat → Prop} (h : Tld w V Z op num nm ds nv tn tk bv t names av l) (hm : Strs V S u m) (hx : ∀ x ∈ m, x.length ≤ maxLen) (hn : l.length + m.length ≤ 6000000) :
    ∃ ao cap w', (Builtin.append_ #[46, 46] 46 #[av, u]).run Tryz.prog V = .ok (.slice ao (l.length + m.length) cap) w' ∧ Tld w w' Z op num nm ds nv tn tk bv t names (.slice ao (l.length + m.length) cap) (l ++ m) := by
  have hz := h.bel.size
  obtain ⟨ao, cap, w', h1, h2, h3, h4⟩ := push_strs h.own hm hn hz
  have hZ : av.ownBlock ≠ some Z := nv_ne h.own h.hZ
  refine ⟨ao, cap, w', h1, h.gl.below h3, ?_, h.zl, ?_, ?_, h2, ?_, h.bel.trans h3⟩
  · rw [h4 Z (blk_lt h.hZ) (fun e => hZ e.symm)]; exact h.hZ
  · exact h.hn.move h3.size fun b hb hlt => ⟨hb, h3.block b hb⟩
  · exact h.ht.move h3.size fun b hb hlt => ⟨hb, h3.block b hb⟩
  · intro x hx2
    rcases List.mem_append.1 hx2 with hx2 | hx2
    · exact h.ns x hx2
    · exact hx x hx2
theorem Tld.strs {w V : World} {Z : Nat} {op num : Int} {nm ds : Bs} {nv tn tk bv : Value} {t : Ty} {names : List Bs} {av : Value} {l : List Bs} (h : Tld w V Z op num nm ds nv tn tk bv t names av l) : Strs V (fun k => w.heap.size ≤ k) av l :=
  own_strs h.own h.ns fun b hb => (h.own.lt b hb).1
/-- The last words: the names. -/
theorem Tld.last {w V : World} {Z : Nat} {op num : Int} {nm ds : Bs} {nv tn tk bv : Value} {t : Ty} {names : List Bs} {av : Value} {l : List Bs} (h : Tld w V Z op num nm ds nv tn tk bv t names av l) (hl : l.length ≤ 10) (hn : names.length ≤ 3000000) :
    ∃ ao cap w', (Builtin.append_ #[46, 46] 46 #[av, nv]).run Tryz.prog V = .ok (.slice ao (l.length + names.length) cap) w' ∧ Strs w' (fun k => w.heap.size ≤ k) (.slice ao (l.length + names.length) cap) (l ++ names) ∧ Below w.heap.size w w' := by
  have hx : ∀ x ∈ names, x.length ≤ maxLen := by obtain ⟨_, _, _, _, h2, _⟩ := h.hn; exact h2.2
  obtain ⟨ao, cap, w', h1, h2⟩ := h.push h.hn hx (by omega)
  exact ⟨ao, cap, w', h1, h2.strs, h2.bel⟩
set_option maxHeartbeats 12800000 in
theorem told_ok (op : Nat) (num : Int) (nm ds : Bs) (t : Ty) (names : List Bs) (nv tn tk : Value) (ba : Option Addr) (bn bc : Nat) (w : World) (he : Env w) (h1 : 1 ≤ op) (h9 : op ≤ 9) (hnum : -9223372036854775808 ≤ num ∧ num ≤ 9223372036854775807)
    (hn : Strs w (fun k => k < w.heap.size) nv names) (ht : Rd w (fun k => k < w.heap.size) t tn tk) (hnm : nm.length ≤ maxLen) (hds : ds.length ≤ maxLen) (hpr : (prT t).length ≤ maxLen) (hit : (Lib.itoa num).length ≤ maxLen) (hnl : names.length ≤ 3000000) :
    Calls Tryz.prog 53 #[stV (i64 (op : Int)) (str nm) (str ds) nv (i64 t.kind) (i64 t.num) tn tk (i64 num) (.slice ba bn bc)] w fun e w' => (∃ a c, e = .returned (.slice a (toldF op num nm ds names t).length c) ∧ Strs w' (fun k => w.heap.size ≤ k) (.slice a (toldF op num nm ds names t).length c) (toldF op num nm ds names t)) ∧ Below w.heap.size w w' := by
  obtain ⟨a1, c1, rfl⟩ := hn.form
  obtain ⟨⟨a2, n2, c2, rfl⟩, a3, n3, c3, rfl⟩ := ht.form2
  have hop9 : (opNm op).length ≤ maxLen := by
    have : op = 1 ∨ op = 2 ∨ op = 3 ∨ op = 4 ∨ op = 5 ∨ op = 6 ∨ op = 7 ∨ op = 8 ∨ op = 9 := by omega
    unfold maxLen
    rcases this with rfl | rfl | rfl | rfl | rfl | rfl | rfl | rfl | rfl <;> decide
  have HZ0 : Hid ((w.alloc (sbO (i64 (op : Int)) (str nm) (str ds) (.slice a1 names.length c1) (i64 t.kind) (i64 t.num) (.slice a2 n2 c2) (.slice a3 n3 c3) (i64 num) (.slice ba bn bc))).heap[w.heap.size]? = some (sbO (i64 (op : Int)) (str nm) (str ds) (.slice a1 names.length c1) (i64 t.kind) (i64 t.num) (.slice a2 n2 c2) (.slice a3 n3 c3) (i64 num) (.slice ba bn bc))) := heap_last w _
  have HB0 : Hid (Below w.heap.size w (w.alloc (sbO (i64 (op : Int)) (str nm) (str ds) (.slice a1 names.length c1) (i64 t.kind) (i64 t.num) (.slice a2 n2 c2) (.slice a3 n3 c3) (i64 num) (.slice ba bn bc)))) := below_one w _
  have HE := hid he
  have HN := hid hn
  have HT := hid ht
  have HL := hid (And.intro hnm (And.intro hds (And.intro hpr (And.intro hit (And.intro hop9 hnl)))))
  obtain ⟨RES, hRES⟩ : ∃ RES, RES = toldF op num nm ds names t := ⟨_, rfl⟩
  have HR := hid hRES
  rw [← hRES]
  clear hRES he hn ht hnm hds hpr hit hop9 hnl
  go_enter Tryz.func53, Tryz.ntmps53
  go_upto_region 1 with fail
  obtain ⟨Z, hZ⟩ : ∃ Z, Z = w.heap.size := ⟨_, rfl⟩
  have HZe : Hid (w.heap.size ≤ Z) := by show _ ≤ _; omega
  rw [← hZ] at HZ0 ⊢
  clear hZ
  generalize w.alloc (sbO (i64 (op : Int)) (str nm) (str ds) (.slice a1 names.length c1) (i64 t.kind) (i64 t.num) (.slice a2 n2 c2) (.slice a3 n3 c3) (i64 num) (.slice ba bn bc)) = V at *
  have x0 := blk_cell HZ0.out 0
  have x1 := blk_cell HZ0.out 1
  have g0 := forms_word (HE.out.below HB0.out) op h1 h9
  have hoI : (0 : Int) ≤ (op : Int) := by omega
  have hoJ : (op : Int) ≤ 9 := by omega
  go_region_held (fun U => U.cell? ⟨Z, 0, none⟩ = some (i64 (op : Int)) ∧ U.cell? ⟨Z, 1, none⟩ = some (str nm) ∧ U.cell? ⟨0, op * 2, none⟩ = some (str (opNm op))) (go_keep) (fail)
  clear x0 x1 g0
  have HT0 : Hid (Tld w (V.alloc (.cells #[str (opNm op), str nm] 9)) Z (op : Int) num nm ds (.slice a1 names.length c1) (.slice a2 n2 c2) (.slice a3 n3 c3) (.slice ba bn bc) t names (.slice (some ⟨V.heap.size, 0, none⟩) 2 2) [opNm op, nm]) :=
    ⟨((Gl.max HE.out).below HB0.out).under (below_one V _), blk_alloc HZ0.out _, HZe.out, HN.out.move (Nat.le_trans HB0.out.size (below_one V _).size) fun b hb _ => ⟨hb, by rw [(below_one V _).block b (by have := HB0.out.size; omega)]; exact HB0.out.block b hb⟩, HT.out.move (Nat.le_trans HB0.out.size (below_one V _).size) fun b hb _ => ⟨hb, by rw [(below_one V _).block b (by have := HB0.out.size; omega)]; exact HB0.out.block b hb⟩, lit_own2 _ _ HB0.out.size, (fun x hx => by
      rcases List.mem_cons.1 hx with rfl | hx
      · exact HL.out.2.2.2.2.1
      · rw [List.mem_singleton.1 hx]; exact HL.out.1), HB0.out.trans ((below_one V _).mono HB0.out.size)⟩
  have HT1 : Hid (Tld w ((V.alloc (.cells #[str (opNm op), str nm] 9)).drew) Z (op : Int) num nm ds (.slice a1 names.length c1) (.slice a2 n2 c2) (.slice a3 n3 c3) (.slice ba bn bc) t names (.slice (some ⟨V.heap.size, 0, none⟩) 2 2) [opNm op, nm]) := HT0.out.below ⟨rfl, rfl, rfl, Nat.le_refl _, fun _ _ => rfl⟩
  clear HT0 HZ0 HB0 HN HT HE
  obtain ⟨A, hA⟩ : ∃ A, A = V.heap.size := ⟨_, rfl⟩
  rw [← hA] at HT1 ⊢
  clear hA
  generalize (V.alloc (.cells #[str (opNm op), str nm] 9)).drew = V1 at *
  by_cases hop : op = 1 ∨ op = 6
  · have HRf : Hid (RES = ([opNm op, nm] ++ [ds]) ++ names) := by show _ = _; rw [HR.out]; unfold toldF; rw [if_pos hop]
    have z0 := blk_cell HT1.out.hZ 0
    have z2 := blk_cell HT1.out.hZ 2
    have hmx : ∀ x ∈ [ds], x.length ≤ maxLen := fun x hx => by rw [List.mem_singleton.1 hx]; exact HL.out.2.1
    have hP := (HT1.out.below (below_one V1 (.cells #[str ds] 9))).push (lit_strs [ds] (by simp) hmx) hmx (by simp)
    obtain ⟨ao2, cap2, w2, hrun, hT⟩ := hP
    have HRUN : Hid ((Builtin.append_ #[46, 46] 46 #[(.slice (some ⟨A, 0, none⟩) 2 2), .slice (some ⟨V1.heap.size, 0, none⟩) 1 1]).run Tryz.prog (V1.alloc (.cells #[str ds] 9)) = .ok (.slice ao2 (2 + 1) cap2) w2) := hrun
    have HT2 := hid hT
    clear hrun hT
    clear HR
    rcases hop with rfl | rfl
    · go_upto_region 11 with (at_builtin; refine wpList_app_run rfl (.tmp 19) (.tmp 22) 46 rfl _ _ rfl rfl 46 rfl _ _ HRUN.out ?_)
      clear z0 z2 HRUN
      obtain ⟨ao9, cap9, w9, hrun9, hst9, hb9⟩ := HT2.out.last (by simp) HL.out.2.2.2.2.2
      have HRUN9 := hid hrun9
      have HST9 := hid hst9
      have HB9 := hid hb9
      have y3 := blk_cell HT2.out.hZ 3
      clear hrun9 hst9 hb9
      go_wp2_with (at_builtin; refine wpList_app_run rfl (.tmp 47) (.tmp 49) 46 rfl _ _ rfl rfl 46 rfl _ _ HRUN9.out ?_)
      go_ret
      rw [HRf.out]
      exact ⟨⟨ao9, cap9, by rw [List.length_append]; rfl, by rw [List.length_append]; exact HST9.out⟩, HB9.out⟩
    · go_upto_region 11 with (at_builtin; refine wpList_app_run rfl (.tmp 19) (.tmp 22) 46 rfl _ _ rfl rfl 46 rfl _ _ HRUN.out ?_)
      clear z0 z2 HRUN
      obtain ⟨ao9, cap9, w9, hrun9, hst9, hb9⟩ := HT2.out.last (by simp) HL.out.2.2.2.2.2
      have HRUN9 := hid hrun9
      have HST9 := hid hst9
      have HB9 := hid hb9
      have y3 := blk_cell HT2.out.hZ 3
      clear hrun9 hst9 hb9
      go_wp2_with (at_builtin; refine wpList_app_run rfl (.tmp 47) (.tmp 49) 46 rfl _ _ rfl rfl 46 rfl _ _ HRUN9.out ?_)
      go_ret
      rw [HRf.out]
      exact ⟨⟨ao9, cap9, by rw [List.length_append]; rfl, by rw [List.length_append]; exact HST9.out⟩, HB9.out⟩
  · have ho1 : ((op : Int) == 1) = false := by
      have : (op : Int) ≠ 1 := by omega
      simpa using this
    have ho6 : ((op : Int) == 6) = false := by
      have : (op : Int) ≠ 6 := by omega
      simpa using this
    by_cases h3 : op = 3
    · have HRf : Hid (RES = ([opNm op, nm] ++ [prT t, Lib.itoa num]) ++ names) := by show _ = _; rw [HR.out]; unfold toldF; rw [if_neg hop, if_pos h3]
      subst h3
      have z0 := blk_cell HT1.out.hZ 0
      have z4 := blk_cell HT1.out.hZ 4
      have z5 := blk_cell HT1.out.hZ 5
      have z6 := blk_cell HT1.out.hZ 6
      have z7 := blk_cell HT1.out.hZ 7
      have HPR : Hid (Calls Tryz.prog 70 #[tyV t.kind t.num (.slice a2 n2 c2) (.slice a3 n3 c3)] V1 fun e w' => e = .returned (.tuple #[str (prT t), i64 t.err]) ∧ Below V1.heap.size V1 w') := print_ok t V1 _ _ _ HT1.out.gl.env.pw HT1.out.ht
      clear HR hop
      go_wp2_with fail
      refine HPR.out.mono ?_
      rintro e w2 ⟨rfl, hb2⟩
      have HT2 := hid (HT1.out.below hb2)
      have y8 := blk_cell HT2.out.hZ 8
      have HIT := hid (itoa_any w2 HT2.out.gl.env.pw num hnum.1 hnum.2)
      clear hb2 z0 z4 z5 z6 z7 HPR HT1
      go_wp2_with fail
      refine HIT.out.mono ?_
      rintro e w3 ⟨rfl, hb3⟩
      have HT3 := hid (HT2.out.below hb3)
      have hmx : ∀ x ∈ [prT t, Lib.itoa num], x.length ≤ maxLen := fun x hx => by
        rcases List.mem_cons.1 hx with rfl | hx
        · exact HL.out.2.2.1
        · rw [List.mem_singleton.1 hx]; exact HL.out.2.2.2.1
      clear hb3 HT2 HIT y8
      have hP := (HT3.out.below (below_one w3 (.cells #[str (prT t), str (Lib.itoa num)] 9))).push (lit_strs [prT t, Lib.itoa num] (by simp) hmx) hmx (by simp)
      obtain ⟨ao4, cap4, w4, hrun, hT⟩ := hP
      have HRUN : Hid ((Builtin.append_ #[46, 46] 46 #[(.slice (some ⟨A, 0, none⟩) 2 2), .slice (some ⟨w3.heap.size, 0, none⟩) 2 2]).run Tryz.prog (w3.alloc (.cells #[str (prT t), str (Lib.itoa num)] 9)) = .ok (.slice ao4 (2 + 2) cap4) w4) := hrun
      have HT4 := hid hT
      clear hrun hT
      go_upto_region 11 with (at_builtin; refine wpList_app_run rfl (.tmp 32) (.tmp 37) 46 rfl _ _ rfl rfl 46 rfl _ _ HRUN.out ?_)
      clear HRUN
      obtain ⟨ao9, cap9, w9, hrun9, hst9, hb9⟩ := HT4.out.last (by simp) HL.out.2.2.2.2.2
      have HRUN9 := hid hrun9
      have HST9 := hid hst9
      have HB9 := hid hb9
      have y3 := blk_cell HT4.out.hZ 3
      clear hrun9 hst9 hb9
      go_wp2_with (at_builtin; refine wpList_app_run rfl (.tmp 47) (.tmp 49) 46 rfl _ _ rfl rfl 46 rfl _ _ HRUN9.out ?_)
      go_ret
      rw [HRf.out]
      exact ⟨⟨ao9, cap9, by rw [List.length_append]; rfl, by rw [List.length_append]; exact HST9.out⟩, HB9.out⟩
    · have ho3 : ((op : Int) == 3) = false := by
        have : (op : Int) ≠ 3 := by omega
        simpa using this
      by_cases h4 : op = 4
      · have HRf : Hid (RES = ([opNm op, nm] ++ [Lib.itoa num]) ++ names) := by show _ = _; rw [HR.out]; unfold toldF; rw [if_neg hop, if_neg h3, if_pos h4]
        subst h4
        have z0 := blk_cell HT1.out.hZ 0
        have z8 := blk_cell HT1.out.hZ 8
        have HIT := hid (itoa_any V1 HT1.out.gl.env.pw num hnum.1 hnum.2)
        clear HR hop
        go_wp2_with fail
        refine HIT.out.mono ?_
        rintro e w3 ⟨rfl, hb3⟩
        have HT3 := hid (HT1.out.below hb3)
        have hmx : ∀ x ∈ [Lib.itoa num], x.length ≤ maxLen := fun x hx => by rw [List.mem_singleton.1 hx]; exact HL.out.2.2.2.1
        clear hb3 HT1 HIT z0 z8
        have hP := (HT3.out.below (below_one w3 (.cells #[str (Lib.itoa num)] 9))).push (lit_strs [Lib.itoa num] (by simp) hmx) hmx (by simp)
        obtain ⟨ao4, cap4, w4, hrun, hT⟩ := hP
        have HRUN : Hid ((Builtin.append_ #[46, 46] 46 #[(.slice (some ⟨A, 0, none⟩) 2 2), .slice (some ⟨w3.heap.size, 0, none⟩) 1 1]).run Tryz.prog (w3.alloc (.cells #[str (Lib.itoa num)] 9)) = .ok (.slice ao4 (2 + 1) cap4) w4) := hrun
        have HT4 := hid hT
        clear hrun hT
        go_upto_region 11 with (at_builtin; refine wpList_app_run rfl (.tmp 41) (.tmp 45) 46 rfl _ _ rfl rfl 46 rfl _ _ HRUN.out ?_)
        clear HRUN
        obtain ⟨ao9, cap9, w9, hrun9, hst9, hb9⟩ := HT4.out.last (by simp) HL.out.2.2.2.2.2
        have HRUN9 := hid hrun9
        have HST9 := hid hst9
        have HB9 := hid hb9
        have y3 := blk_cell HT4.out.hZ 3
        clear hrun9 hst9 hb9
        go_wp2_with (at_builtin; refine wpList_app_run rfl (.tmp 47) (.tmp 49) 46 rfl _ _ rfl rfl 46 rfl _ _ HRUN9.out ?_)
        go_ret
        rw [HRf.out]
        exact ⟨⟨ao9, cap9, by rw [List.length_append]; rfl, by rw [List.length_append]; exact HST9.out⟩, HB9.out⟩
      · have ho4 : ((op : Int) == 4) = false := by
          have : (op : Int) ≠ 4 := by omega
          simpa using this
        have HRf : Hid (RES = [opNm op, nm] ++ names) := by show _ = _; rw [HR.out]; unfold toldF; rw [if_neg hop, if_neg h3, if_neg h4, List.append_nil]
        have z0 := blk_cell HT1.out.hZ 0
        clear HR hop h3 h4
        go_upto_region 11 with fail
        clear z0
        obtain ⟨ao9, cap9, w9, hrun9, hst9, hb9⟩ := HT1.out.last (by simp) HL.out.2.2.2.2.2
        have HRUN9 := hid hrun9
        have HST9 := hid hst9
        have HB9 := hid hb9
        have y3 := blk_cell HT1.out.hZ 3
        clear hrun9 hst9 hb9
        go_wp2_with (at_builtin; refine wpList_app_run rfl (.tmp 47) (.tmp 49) 46 rfl _ _ rfl rfl 46 rfl _ _ HRUN9.out ?_)
        go_ret
        rw [HRf.out]
        exact ⟨⟨ao9, cap9, by rw [List.length_append]; rfl, by rw [List.length_append]; exact HST9.out⟩, HB9.out⟩
end Go.Proofs.YtjppcfjjpkniaaaGreatDoor
namespace Go.Proofs.YtjppcfjjpkniaaaGreatDoor
open Go.ChangeShapes Go.WideShapes Go.ChangeAt Go.RowKit Go.Deep
attribute [local go_sem ↓] Go.wp_at_zero Go.wp_at_succ
set_option maxRecDepth 100000

theorem lbeq {a b : Bs} (h : a = b) : (a == b) = true := by simp [h]
theorem lbne {a b : Bs} (h : a ≠ b) : (a == b) = false := by simp [h]
theorem ibne {a b : Int} (h : a ≠ b) : (a == b) = false := by simp [h]
def slB (oa ob : Int) (ma mb da db : Bs) (na nb : Int) (la lb : List Bs) (ta tb : Ty) : Bool := decide (oa = ob) && decide (ma = mb) && decide (da = db) && decide (na = nb) && decide (la = lb) && sameB ta tb
set_option maxHeartbeats 12800000 in
theorem sline_ok (oa ob : Int) (ma mb da db : Bs) (na nb : Int) (la lb : List Bs) (ta tb : Ty) (w : World) {nva nvb tna tnb tka tkb : Value} (hla : Strs w (fun _ => True) nva la) (hlb : Strs w (fun _ => True) nvb lb) (hta : Rd w (fun _ => True) ta tna tka) (htb : Rd w (fun _ => True) tb tnb tkb) (hc : ta.count ≤ 10000) (a4 : Option Addr) (n4 c4 : Nat) (b4 : Option Addr) (m4 d4 : Nat) :
    Calls Tryz.prog 54 #[stV (i64 oa) (str ma) (str da) nva (i64 ta.kind) (i64 ta.num) tna tka (i64 na) (.slice a4 n4 c4), stV (i64 ob) (str mb) (str db) nvb (i64 tb.kind) (i64 tb.num) tnb tkb (i64 nb) (.slice b4 m4 d4)] w fun e w' => e = .returned (.bool (slB oa ob ma mb da db na nb la lb ta tb)) ∧ Below w.heap.size w w' := by
  obtain ⟨a1, c1, rfl⟩ := hla.form
  obtain ⟨b1, d1, rfl⟩ := hlb.form
  obtain ⟨⟨a2, n2, c2, rfl⟩, a3, n3, c3, rfl⟩ := hta.form2
  obtain ⟨⟨b2, m2, d2, rfl⟩, b3, m3, d3, rfl⟩ := htb.form2
  have hb2 : Below w.heap.size w ((w.alloc (sbO (i64 oa) (str ma) (str da) (.slice a1 la.length c1) (i64 ta.kind) (i64 ta.num) (.slice a2 n2 c2) (.slice a3 n3 c3) (i64 na) (.slice a4 n4 c4))).alloc (sbO (i64 ob) (str mb) (str db) (.slice b1 lb.length d1) (i64 tb.kind) (i64 tb.num) (.slice b2 m2 d2) (.slice b3 m3 d3) (i64 nb) (.slice b4 m4 d4))) := (below_one w _).trans ((below_one _ _).mono (below_one w _).size)
  have HLA := hid (hla.below hb2)
  have HLB := hid (hlb.below hb2)
  have HTA := hid (hta.under hb2)
  have HTB := hid (htb.under hb2)
  have HB := hid hb2
  have HZ1 : Hid (((w.alloc (sbO (i64 oa) (str ma) (str da) (.slice a1 la.length c1) (i64 ta.kind) (i64 ta.num) (.slice a2 n2 c2) (.slice a3 n3 c3) (i64 na) (.slice a4 n4 c4))).alloc (sbO (i64 ob) (str mb) (str db) (.slice b1 lb.length d1) (i64 tb.kind) (i64 tb.num) (.slice b2 m2 d2) (.slice b3 m3 d3) (i64 nb) (.slice b4 m4 d4))).heap[w.heap.size]? = some (sbO (i64 oa) (str ma) (str da) (.slice a1 la.length c1) (i64 ta.kind) (i64 ta.num) (.slice a2 n2 c2) (.slice a3 n3 c3) (i64 na) (.slice a4 n4 c4))) := heap_alloc2 w _ _
  have HZ2 : Hid (((w.alloc (sbO (i64 oa) (str ma) (str da) (.slice a1 la.length c1) (i64 ta.kind) (i64 ta.num) (.slice a2 n2 c2) (.slice a3 n3 c3) (i64 na) (.slice a4 n4 c4))).alloc (sbO (i64 ob) (str mb) (str db) (.slice b1 lb.length d1) (i64 tb.kind) (i64 tb.num) (.slice b2 m2 d2) (.slice b3 m3 d3) (i64 nb) (.slice b4 m4 d4))).heap[w.heap.size + 1]? = some (sbO (i64 ob) (str mb) (str db) (.slice b1 lb.length d1) (i64 tb.kind) (i64 tb.num) (.slice b2 m2 d2) (.slice b3 m3 d3) (i64 nb) (.slice b4 m4 d4))) := by
    have := heap_last (w.alloc (sbO (i64 oa) (str ma) (str da) (.slice a1 la.length c1) (i64 ta.kind) (i64 ta.num) (.slice a2 n2 c2) (.slice a3 n3 c3) (i64 na) (.slice a4 n4 c4))) (sbO (i64 ob) (str mb) (str db) (.slice b1 lb.length d1) (i64 tb.kind) (i64 tb.num) (.slice b2 m2 d2) (.slice b3 m3 d3) (i64 nb) (.slice b4 m4 d4))
    rw [sz_alloc] at this
    exact this
  have HC := hid hc
  obtain ⟨RES, hRES⟩ : ∃ RES, RES = slB oa ob ma mb da db na nb la lb ta tb := ⟨_, rfl⟩
  have HR := hid hRES
  rw [← hRES]
  unfold slB at HR
  clear hla hlb hta htb hb2 hc hRES
  go_enter Tryz.func54, Tryz.ntmps54
  go_upto_region 1 with fail
  obtain ⟨Z2, hZ2⟩ : ∃ Z2, Z2 = w.heap.size + 1 := ⟨_, rfl⟩
  obtain ⟨Z1, hZ1⟩ : ∃ Z1, Z1 = w.heap.size := ⟨_, rfl⟩
  rw [← hZ2] at HZ2 ⊢
  rw [← hZ1] at HZ1 ⊢
  clear hZ1 hZ2
  generalize (w.alloc (sbO (i64 oa) (str ma) (str da) (.slice a1 la.length c1) (i64 ta.kind) (i64 ta.num) (.slice a2 n2 c2) (.slice a3 n3 c3) (i64 na) (.slice a4 n4 c4))).alloc (sbO (i64 ob) (str mb) (str db) (.slice b1 lb.length d1) (i64 tb.kind) (i64 tb.num) (.slice b2 m2 d2) (.slice b3 m3 d3) (i64 nb) (.slice b4 m4 d4)) = V at *
  obtain ⟨p0, p1, p2, p3, p4, p5, p6, p7, p8, p9, _, _, _, _, _, _, _, _, _, _⟩ := sfs HZ1.out
  obtain ⟨q0, q1, q2, q3, q4, q5, q6, q7, q8, q9, _, _, _, _, _, _, _, _, _, _⟩ := sfs HZ2.out
  by_cases h1 : oa = ob
  · subst h1
    have e1 : (oa == oa) = true := by simp
    by_cases h2 : ma = mb
    · subst h2
      have e2 : (ma == ma) = true := by simp
      by_cases h3 : da = db
      · subst h3
        have e3 : (da == da) = true := by simp
        by_cases h4 : na = nb
        · subst h4
          have e4 : (na == na) = true := by simp
          have HEQ := hid (eqS_ok HLA.out HLB.out)
          have HR2 : Hid (RES = (decide (la = lb) && sameB ta tb)) := by show _ = _; rw [HR.out]; simp
          clear HR
          go_wp2_with fail
          refine HEQ.out.mono ?_
          rintro e w2 ⟨rfl, nd, rfl⟩
          have hbd : Below V.heap.size V (V.drewN nd) := ⟨rfl, rfl, rfl, Nat.le_refl _, fun _ _ => rfl⟩
          have HB2 : Hid (Below w.heap.size w (V.drewN nd)) := HB.out.trans (hbd.mono HB.out.size)
          by_cases h5 : la = lb
          · have hd5 : decide (la = lb) = true := by simp [h5]
            rw [hd5]
            have HR3 : Hid (RES = sameB ta tb) := by show _ = _; rw [HR2.out, hd5, Bool.true_and]
            have HSM := hid (same_ok ta tb (V.drewN nd) _ _ _ _ (HTA.out.under hbd) (HTB.out.under hbd) HC.out)
            clear h5 hd5 HR2 hbd HEQ
            go_simp
            go_wp2_with fail
            refine HSM.out.mono ?_
            rintro e w3 ⟨rfl, hb3⟩
            have HB3 : Hid (Below w.heap.size w w3) := HB2.out.trans (hb3.mono HB2.out.size)
            clear hb3 HSM HB2
            go_simp
            go_wp2_with fail
            go_ret
            exact ⟨by rw [HR3.out]; rfl, HB3.out⟩
          · have hd5 : decide (la = lb) = false := by simp [h5]
            rw [hd5]
            have HR3 : Hid (RES = false) := by show _ = _; rw [HR2.out, hd5, Bool.false_and]
            clear h5 hd5 HR2 hbd HEQ
            go_simp
            go_wp2_with fail
            go_ret
            exact ⟨by rw [HR3.out]; rfl, HB2.out⟩
        · have e4 := ibne h4
          have HR2 : Hid (RES = false) := by show _ = _; rw [HR.out]; simp [h4]
          clear HR h4
          go_wp2_with fail
          go_ret
          exact ⟨by rw [HR2.out]; rfl, HB.out⟩
      · have e3 := lbne h3
        have HR2 : Hid (RES = false) := by show _ = _; rw [HR.out]; simp [h3]
        clear HR h3
        go_wp2_with fail
        go_ret
        exact ⟨by rw [HR2.out]; rfl, HB.out⟩
    · have e2 := lbne h2
      have HR2 : Hid (RES = false) := by show _ = _; rw [HR.out]; simp [h2]
      clear HR h2
      go_wp2_with fail
      go_ret
      exact ⟨by rw [HR2.out]; rfl, HB.out⟩
  · have e1 := ibne h1
    have HR2 : Hid (RES = false) := by show _ = _; rw [HR.out]; simp [h1]
    clear HR h1
    go_wp2_with fail
    go_ret
    exact ⟨by rw [HR2.out]; rfl, HB.out⟩
end Go.Proofs.YtjppcfjjpkniaaaGreatDoor
