/- The document's rows of a text: each line's words; no statement is proved in this text. -/
import Derived.Test.YtobkehlkopkaeaaDoorDd
import Derived.Test.YtobkehlkopkaeaaDoorLines
import Derived.Maps.AppendAt
namespace Go.Proofs.YtobkehlkopkaeaaDoor
open Go.ChangeShapes Go.WideShapes Go.ChangeAt Go.RowKit
set_option maxRecDepth 100000

abbrev nilV : Value := .slice none 0 0
theorem under61 : Tryd.prog.underlying 61 = some (.slice 65) := by kernel_rfl
theorem info65x : (Tryd.prog.info? 65).map (fun i => (i.zero, i.size, i.bytes)) = some (some (.agg #[nilV]), 1, 24) := by kernel_rfl
theorem own_keep1 {w w' : World} {base : Nat} {e : TypeId} {size : Nat} {v : Value} {n : Nat} {xs : List Value} (h : w.ownsRow base e size v n xs) (hk : ∀ k, v.ownBlock = some k → w'.heap[k]? = w.heap[k]?) : w'.ownsRow base e size v n xs := by
  refine ⟨h.1, ?_⟩
  rcases h.2 with hn | ⟨g, cap, cur, rfl, hbg, hgg, rest⟩
  · exact .inl hn
  · exact .inr ⟨g, cap, cur, rfl, hbg, (hk g rfl).trans hgg, rest⟩
theorem own_slx {w : World} {base : Nat} {e : TypeId} {k : Nat} {v : Value} {n : Nat} {xs : List Value} (h : w.ownsRow base e k v n xs) : ∃ ao cap, v = .slice ao n cap := by
  rcases h.2 with ⟨rfl, rfl⟩ | ⟨g, cap, cur, rfl, _⟩
  · exact ⟨none, 0, rfl⟩
  · exact ⟨_, _, rfl⟩
/-- Rows of words: each row's words lie in a block of their own. -/
structure RwD (w X : World) (ov : Value) (D : List (List Bs × Value)) : Prop where
  own : X.ownsRow w.heap.size 65 1 ov D.length (D.map (·.2))
  done : ∀ d ∈ D, X.ownsRow w.heap.size 9 1 d.2 d.1.length (d.1.map str) ∧ ∀ k, d.2.ownBlock = some k → ov.ownBlock ≠ some k
  bel : Below w.heap.size w X
theorem rwd_start (w : World) : RwD w w nilV [] := ⟨World.ownsRow_nil _ _ _ _, fun d hd => (by cases hd), Below.refl _ _⟩
theorem RwD.under {w X X' : World} {ov : Value} {D : List (List Bs × Value)} (h : RwD w X ov D) (hb : Below X.heap.size X X') : RwD w X' ov D :=
  ⟨own_below h.own hb, fun d hd => ⟨own_below (h.done d hd).1 hb, (h.done d hd).2⟩, h.bel.trans (hb.mono h.bel.size)⟩
theorem RwD.app {w X : World} {ov : Value} {D : List (List Bs × Value)} {B : Nat} {ws : List Bs} {v : Value} {ops : Array Oper} {rest : List Oper} {o : Oper} {a : Act} {Q : Exit → Act → World → Prop} (hgd : o.guard = none) (s x : Operand)
    (ho : o.op = .call { callee := .builtin .append, args := #[s, x], argTypes := #[61, 61] }) (hs : a.eval s = ov) (h : RwD w X ov D) (hv : X.ownsRow B 9 1 v ws.length (ws.map str)) (hB : w.heap.size ≤ B) (hov : ∀ k, ov.ownBlock = some k → k < B)
    (H c : Nat) (hx : a.eval x = .slice (some ⟨H, 0, none⟩) 1 c) (hH : X.heap.size = H) (hn : D.length ≤ 1000000)
    (hq : ∀ ov' X', RwD w X' ov' (D ++ [(ws, v)]) → wpList Tryd.prog ops Q rest (a.put o.dst ov') X') : wpList Tryd.prog ops Q (o :: rest) a (X.alloc (.cells #[v] 65)) := by
  obtain ⟨i5, hi, hz, hsz, hby⟩ := info_parts info65x
  have hX := h.bel.size
  have hsz2 : (X.alloc (.cells #[v] 65)).heap.size = X.heap.size + 1 := by simp
  have hone : v.oneCell' = true := by
    rcases hv.2 with ⟨rfl, _⟩ | ⟨g, cap, cur, rfl, _⟩ <;> rfl
  have hal : ∀ k, k < X.heap.size → (X.alloc (.cells #[v] 65)).heap[k]? = X.heap[k]? := fun k hk => ((Below.refl X.heap.size X).alloc (Nat.le_refl _) _).block k hk
  refine wpList_append_own_at (X.alloc (.cells #[v] 65)) hgd s x 61 ho w.heap.size 65 i5 (.agg #[nilV]) 1 24 under61 hi hz hsz hby rfl (by omega) ov D.length _ hs (h.own.alloc _) ⟨H, 0, none⟩ 1 c [v] hx rfl (by rw [← hH]; exact cell_one_new X v 65) (fun u hu => by rw [List.mem_singleton.1 hu]; exact hone) (by unfold maxLen; omega) (by omega) (by omega) ?_
  intro v' w' h1 h2 _ h4
  have hkeep : ∀ k, k < X.heap.size → some k ≠ ov.ownBlock → w'.heap[k]? = X.heap[k]? := fun k hk hne => (h2.block k (by omega) hne).trans (hal k hk)
  have hnew : ∀ k, k < X.heap.size → some k ≠ ov.ownBlock → v'.ownBlock ≠ some k := fun k hk hne e => by
    rcases h4 with h4 | h4
    · exact hne (by rw [← h4, e])
    · rw [h4] at e; cases e; omega
  refine hq v' w' ⟨by simpa using h1, fun d hd => ?_, ((h.bel.alloc hX _).grown h2 (by omega) fun r hr => (h.own.lt r hr).1)⟩
  rcases List.mem_append.1 hd with hd | hd
  · obtain ⟨d1, d2⟩ := h.done d hd
    exact ⟨own_keep1 d1 fun k hk => hkeep k (d1.lt k hk).2 fun e => d2 k hk e.symm, fun k hk => hnew k (d1.lt k hk).2 fun e => d2 k hk e.symm⟩
  · rw [List.mem_singleton.1 hd]
    have hnk : ∀ k, v.ownBlock = some k → some k ≠ ov.ownBlock := fun k hk e => by
      have := (hv.lt k hk).1
      have := hov k e.symm
      omega
    exact ⟨own_mono (own_keep1 hv fun k hk => hkeep k (hv.lt k hk).2 (hnk k hk)) hB, fun k hk => hnew k (hv.lt k hk).2 (hnk k hk)⟩
/-- The lines of a text, as the document reads them. -/
def lnS : Bs → Bs → List Bs
  | [], x => [x]
  | c :: r, x => if c = 10 then x :: lnS r [] else lnS r (x ++ [c])
theorem lnS_cons (c : UInt8) (r x : Bs) : lnS (c :: r) x = if c = 10 then x :: lnS r [] else lnS r (x ++ [c]) := by
  conv => lhs; unfold lnS
def rowsD (t : Bs) : List (List Bs) := (lnS t []).map wdL
set_option maxHeartbeats 6400000 in
theorem rrows_s (s : ByteArray) (w : World) (hs : s.size ≤ 900000) : Calls Tryd.prog 25 #[.string s] w fun e w' => ∃ v D, e = .returned v ∧ RwD w w' v D ∧ D.map (·.1) = rowsD s.data.toList := by
  have HL : Hid (s.data.toList.length = s.size) := Array.length_toList
  have HC : Hid (∀ (x : Bs) (X : World), x.length ≤ 1000000 → Calls Tryd.prog 52 #[str x] X fun e w' => ∃ v, e = .returned v ∧ w'.ownsRow X.heap.size 9 1 v (wdL x).length ((wdL x).map str) ∧ Below X.heap.size X w') := fun x X hx => by
    have := rwords_s ⟨x.toArray⟩ X (by rw [bz]; exact hx)
    rw [blist] at this
    exact this
  obtain ⟨RES, hRES⟩ : ∃ RES, RES = rowsD s.data.toList := ⟨_, rfl⟩
  have HR0 : Hid (RES = ([] : List (List Bs × Value)).map (·.1) ++ (lnS (s.data.toList.drop 0) []).map wdL) := hRES
  rw [← hRES]
  clear hRES
  go_enter Tryd.func25, Tryd.ntmps25
  go_wp2_with fail
  go_loopg [3, 4, 5] s.size (fun g ov xv iv wr => ∃ (i : Nat) (D : List (List Bs × Value)) (x : Bs), s.size - i ≤ g ∧ i ≤ s.size ∧ iv = i64 i ∧ xv = str x ∧ x.length ≤ i ∧ D.length ≤ i ∧ Hid (RES = D.map (·.1) ++ (lnS (s.data.toList.drop i) x).map wdL) ∧ Hid (RwD w wr ov D))
  case atStart => exact ⟨0, [], [], by omega, by omega, rfl, rfl, Nat.le_refl _, Nat.le_refl _, HR0, rwd_start w⟩
  case round =>
    obtain ⟨i, D, x, hg, hi, rfl, rfl, hxi, hDi, HR, HI⟩ := hrel
    have hz := HI.out.bel.size
    obtain ⟨ao, cap, rfl⟩ := own_slx HI.out.own
    by_cases hend : i = s.size
    · have hlt : ¬ (i : Int) < (s.size : Int) := by omega
      have HR2 : Hid (RES = D.map (·.1) ++ [wdL x]) := by
        show _ = _
        rw [HR.out, List.drop_eq_nil_of_le (by rw [HL.out]; omega)]
        rfl
      clear HR hend
      go_wp2_with fail
      refine (HC.out x _ (by omega)).mono ?_
      rintro e X1 ⟨v, rfl, hv, hb⟩
      have HV : Hid (X1.ownsRow wr.heap.size 9 1 v (wdL x).length ((wdL x).map str)) := hv
      have HI1 : Hid (RwD w X1 (.slice ao D.length cap) D) := HI.out.under hb
      have HO : Hid (∀ k, (Value.slice ao D.length cap).ownBlock = some k → k < wr.heap.size) := fun k hk => (HI.out.own.lt k hk).2
      clear hv hb
      obtain ⟨va, vc, rfl, _, _⟩ := own_words HV.out
      go_wp2_with (at_builtin; refine RwD.app rfl (.tmp 29) (.tmp 33) rfl rfl HI1.out HV.out hz HO.out _ _ rfl rfl (by omega) ?_; intro ov3 X3 h3; have HI3 : Hid (RwD w X3 ov3 (D ++ [(wdL x, .slice va (wdL x).length vc)])) := h3; clear h3)
      go_ret
      exact ⟨_, _, rfl, HI3.out, by rw [HR2.out, List.map_append]; rfl⟩
    · have hlt : i < s.size := by omega
      have HR2 : Hid (RES = D.map (·.1) ++ (lnS (s[i] :: s.data.toList.drop (i + 1)) x).map wdL) := by
        show _ = _
        rw [HR.out, d_drop s i hlt]
      have hsl := sl_one s i hlt
      clear HR hend
      by_cases h10 : s[i] = 10
      · have hc1 : ((s[i].toNat : Int) == 10) = true := by rw [h10]; rfl
        have HR3 : Hid (RES = D.map (·.1) ++ (wdL x :: (lnS (s.data.toList.drop (i + 1)) []).map wdL)) := by show _ = _; rw [HR2.out, lnS_cons, if_pos h10]; rfl
        clear HR2 h10
        go_wp2_with fail
        refine (HC.out x _ (by omega)).mono ?_
        rintro e X1 ⟨v, rfl, hv, hb⟩
        have HV : Hid (X1.ownsRow wr.heap.size 9 1 v (wdL x).length ((wdL x).map str)) := hv
        have HI1 : Hid (RwD w X1 (.slice ao D.length cap) D) := HI.out.under hb
        have HO : Hid (∀ k, (Value.slice ao D.length cap).ownBlock = some k → k < wr.heap.size) := fun k hk => (HI.out.own.lt k hk).2
        clear hv hb
        obtain ⟨va, vc, rfl, _, _⟩ := own_words HV.out
        go_wp2_with (at_builtin; refine RwD.app rfl (.tmp 16) (.tmp 20) rfl rfl HI1.out HV.out hz HO.out _ _ rfl rfl (by omega) ?_; intro ov3 X3 h3; have HI3 : Hid (RwD w X3 ov3 (D ++ [(wdL x, .slice va (wdL x).length vc)])) := h3; clear h3)
        go_roundg (s.size - (i + 1))
        case measure => omega
        case rel => exact ⟨i + 1, D ++ [(wdL x, .slice va (wdL x).length vc)], [], by omega, by omega, by go_num, rfl, by simp, by simp; omega, by show _ = _; rw [HR3.out, List.map_append, List.append_assoc]; rfl, HI3⟩
      · have hc1 : ((s[i].toNat : Int) == 10) = false := in_ne h10 rfl
        have HE : Hid (RES = D.map (·.1) ++ (lnS (s.data.toList.drop (i + 1)) (x ++ [s[i]])).map wdL) := by
          show _ = _; rw [HR2.out, lnS_cons, if_neg h10]
        have HSX : Hid (Value.string ((⟨x.toArray⟩ : ByteArray) ++ (⟨#[s[i]]⟩ : ByteArray)) = str (x ++ [s[i]])) := by
          show Value.string _ = Value.string _
          rw [show (⟨#[s[i]]⟩ : ByteArray) = ⟨([s[i]] : Bs).toArray⟩ from rfl, ba_app]
        have hxs : (⟨x.toArray⟩ : ByteArray).size ≤ 1000000 := by show x.toArray.size ≤ _; simp; omega
        clear HR2 h10
        go_wp2_with fail
        go_roundg (s.size - (i + 1))
        case measure => omega
        case rel => exact ⟨i + 1, D, x ++ [s[i]], by omega, by omega, by go_num, HSX.out, by simp; omega, by omega, HE, HI⟩
end Go.Proofs.YtobkehlkopkaeaaDoor
