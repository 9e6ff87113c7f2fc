/- Fork; no statement is proved in this text. -/
import Derived.Test.YtlkcpjefgelcoaaFo
import Derived.Test.YtlkcpjefgelcoaaQw
namespace Go.Proofs.Ytlkcpjefgelcoaa
open Go.ChangeShapes Go.WideShapes Go.ChangeAt Go.RowKit Go.Deep
attribute [local go_sem ↓] Go.wp_at_zero Go.wp_at_succ

theorem wpListG_load {P : Program} {ops : Array Oper} {rest : List Oper} {op : Oper} {a : Act} {w : World} {Q : Exit → Act → World → Prop} (hw : Region.wanted op (yielded ops a.tmps) = true) (ty : TypeId) (x : Operand) (ho : op.op = .load ty x)
    (b o : Nat) (hx : a.eval x = .pointer (some ⟨b, o, none⟩)) (cs : List Value) (d : TypeDesc) (hc : w.rangeAt b o cs)
    (hu : P.underlying ty = some d) (hd : d.isRow = true) (hi : (P.info? ty).map (·.size) = some cs.length)
    (h : wpList P ops Q rest (a.put op.dst (.agg cs.toArray)) w) : wpList P ops Q (op :: rest) a w := by
  rw [wpList, if_pos hw]
  exact Or.inl (wp_load_mid ty x ho b o hx cs d hc hu hd hi h)
theorem zero64 (w : World) : (zeroValue 64).run Try.prog w = .ok (.agg (rowv fun _ => (0, 0)).toArray) w := by kernel_rfl
theorem row_part (w : World) (F : Nat → Int × Int) (k : Nat) (hk : k < 16) : (part 62 (rowv F).toArray (k * Try.prog.cellsOf 62)).run Try.prog w = .ok (.agg #[i64 (F k).1, i64 (F k).2]) w := by
  have hc : Try.prog.cellsOf 62 = 2 := by kernel_rfl
  have h0 := rowv_get F (k * 2) (by omega)
  have h1 := rowv_get F (k * 2 + 1) (by omega)
  rw [if_pos (by omega), show k * 2 / 2 = k by omega] at h0
  rw [if_neg (by omega), show (k * 2 + 1) / 2 = k by omega] at h1
  have hx : (rowv F).toArray.extract (k * 2) (k * 2 + 2) = #[i64 (F k).1, i64 (F k).2] := by
    apply Array.toList_inj.1
    apply List.ext_getElem?
    intro i
    rw [Array.toList_extract, List.extract_eq_take_drop]
    rcases i with _ | _ | i
    · simpa using h0
    · simpa using h1
    · rw [List.getElem?_eq_none (by rw [List.length_take]; omega)]
      simp
  have ha : (isAgg 62).run Try.prog w = .ok true w := by kernel_rfl
  rw [hc]
  simp only [part, ha, Sem.run_bind, Result.andThen_ok]
  rw [if_pos trivial]
  simp only [size62, hx, Sem.run_bind, Sem.run_pure, Result.andThen_ok]
theorem eq_items (d : Nat) (w : World) (F : Nat → Int × Int) : ∀ is : List Nat, (∀ i ∈ is, i < 16) → (Op.eqItems (d + 2) 62 (Try.prog.cellsOf 62) (rowv F).toArray (rowv fun _ => (0, 0)).toArray is).run Try.prog w = .ok (is.all fun i => decide (F i = (0, 0))) w
  | [], _ => by simp [Op.eqItems]
  | i :: is, h => by
    have ih := eq_items d w F is fun j hj => h j (List.mem_cons_of_mem _ hj)
    have hi := h i (by simp)
    have hd : decide ((F i).1 = 0 ∧ (F i).2 = 0) = decide (F i = (0, 0)) := by
      by_cases e : F i = (0, 0)
      · rw [e]; rfl
      · rw [decide_eq_false e, decide_eq_false (fun h => e (Prod.ext h.1 h.2))]
    simp only [Op.eqItems, Sem.run_bind, row_part w F i hi, row_part w (fun _ => (0, 0)) i hi, Result.andThen_ok, eqC, List.all_cons, hd]
    by_cases e : F i = (0, 0)
    · simp [e, ih]
    · simp [e]
theorem eqR (w : World) (F : Nat → Int × Int) : (Op.equalIn 10000 64 (.agg (rowv F).toArray) (.agg (rowv fun _ => (0, 0)).toArray)).run Try.prog w = .ok (decide (∀ g : Nat, g < 16 → F g = (0, 0))) w := by
  obtain ⟨i, hi⟩ : ∃ i, Try.prog.info? 62 = some i := by
    have := info62
    cases h : Try.prog.info? 62 with
    | none => rw [h] at this; cases this
    | some i => exact ⟨i, rfl⟩
  rw [run_equalIn_array (P := Try.prog) (w := w) 9999 _ _ under64 hi, eq_items 9997 w F (List.range 16) (fun i hi => List.mem_range.1 hi)]
  congr 1
  rw [Bool.eq_iff_iff]
  simp
set_option maxRecDepth 100000 in
set_option maxHeartbeats 1600000 in
theorem sfork_arg (w : World) (pv : Value) (p c : Int) (h : ¬(1 ≤ p ∧ p ≤ 6) ∨ ¬(1 ≤ c ∧ c ≤ 6) ∨ p = c) : Calls Try.prog 22 #[pv, i64 p, i64 c] w fun e w' => e = .returned (i64 1) ∧ w' = w := by
  have HC := hid fun W => sproc_ok W p
  have HD := hid fun W => sproc_ok W c
  by_cases hp : 1 ≤ p ∧ p ≤ 6
  · rw [decide_eq_true hp] at HC
    by_cases hc : 1 ≤ c ∧ c ≤ 6
    · rw [decide_eq_true hc] at HD
      have hpc : p = c := (h.resolve_left (fun h => h hp)).resolve_left (fun h => h hc)
      subst hpc
      clear h
      go_enter Try.func22, Try.ntmps22
      go_wp2_with (go_at_call 38; refine (HC.out _).mono ?_; rintro e2 w2 ⟨rfl, hv⟩; replace hv := hv.symm; subst hv)
      go_ret
      exact ⟨rfl, rfl⟩
    · rw [decide_eq_false hc] at HD
      clear h
      go_enter Try.func22, Try.ntmps22
      go_wp2_with (go_at_call 38; first | (refine (HC.out _).mono ?_; rintro e2 w2 ⟨rfl, hv⟩; replace hv := hv.symm; subst hv) | (refine (HD.out _).mono ?_; rintro e2 w2 ⟨rfl, hv⟩; replace hv := hv.symm; subst hv))
      go_ret
      exact ⟨rfl, rfl⟩
  · rw [decide_eq_false hp] at HC
    clear h
    go_enter Try.func22, Try.ntmps22
    go_wp2_with (go_at_call 38; refine (HC.out _).mono ?_; rintro e2 w2 ⟨rfl, hv⟩; replace hv := hv.symm; subst hv)
    go_ret
    exact ⟨rfl, rfl⟩
set_option maxRecDepth 100000 in
set_option maxHeartbeats 1600000 in
theorem sfork_nil (w : World) (p c : Int) (hp : 1 ≤ p ∧ p ≤ 6) (hc : 1 ≤ c ∧ c ≤ 6) (hpc : p ≠ c) : Calls Try.prog 22 #[.pointer none, i64 p, i64 c] w fun e w' => e = .returned (i64 7) ∧ w' = w := by
  have HC := hid fun W => sproc_ok W p
  have HD := hid fun W => sproc_ok W c
  rw [decide_eq_true hp] at HC
  rw [decide_eq_true hc] at HD
  have hq : (p == c) = false := beq_false_of_ne hpc
  clear hpc
  go_enter Try.func22, Try.ntmps22
  go_wp2_with (go_at_call 38; first | (refine (HC.out _).mono ?_; rintro e2 w2 ⟨rfl, hv⟩; replace hv := hv.symm; subst hv) | (refine (HD.out _).mono ?_; rintro e2 w2 ⟨rfl, hv⟩; replace hv := hv.symm; subst hv))
  go_ret
  exact ⟨rfl, rfl⟩
set_option maxRecDepth 100000 in
set_option maxHeartbeats 1600000 in
theorem sfork_st (w : World) (t r q : Nat) (L : List Sp) (h : Tb w t L) (hG : GS L) (hr : r < 6) (hq : q < 6) (hrq : r ≠ q) (hc : cntL (L.map ar) ((q : Int) + 1) ≠ 0) : Calls Try.prog 22 #[pq t, i64 ((r : Int) + 1), i64 ((q : Int) + 1)] w fun e w' => e = .returned (i64 7) ∧ w' = w := by
  have HC := hid fun W => sproc_ok W ((r : Int) + 1)
  have HD := hid fun W => sproc_ok W ((q : Int) + 1)
  rw [decide_eq_true (show 1 ≤ (r : Int) + 1 ∧ (r : Int) + 1 ≤ 6 by omega)] at HC
  rw [decide_eq_true (show 1 ≤ (q : Int) + 1 ∧ (q : Int) + 1 ≤ 6 by omega)] at HD
  have hqq : ((r : Int) + 1 == (q : Int) + 1) = false := beq_false_of_ne (by omega)
  have hz := fun W => zero64 W
  have HR := hid (h.range q hq)
  have heq := fun W => eqR W (Gl L q)
  have HLn := hid (rowv_len (Gl L q))
  have ht := h.lt
  rw [decide_eq_false (show ¬∀ g : Nat, g < 16 → Gl L q g = (0, 0) from fun hh => hc ((hG.empty _).2 hh))] at heq
  generalize rowv (Gl L q) = cs at *
  generalize rowv (fun _ => (0, 0)) = zs at *
  clear h hc hrq
  go_enter Try.func22, Try.ntmps22
  go_wp2_with (first | (go_at_call 38; first | (refine (HC.out _).mono ?_; rintro e2 w2 ⟨rfl, hv⟩; replace hv := hv.symm; subst hv) | (refine (HD.out _).mono ?_; rintro e2 w2 ⟨rfl, hv⟩; replace hv := hv.symm; subst hv)) | (refine wpListG_load (by rfl) 64 (.tmp 28) rfl t (q * 32) (by rfl) cs (.array 16 62) HR.out under64 rfl (by rw [info64, HLn.out]) ?_))
  go_ret
  exact ⟨rfl, rfl⟩
end Go.Proofs.Ytlkcpjefgelcoaa
