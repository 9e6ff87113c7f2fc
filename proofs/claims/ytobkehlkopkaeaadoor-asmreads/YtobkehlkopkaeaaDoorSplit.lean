/- asm's split: its contract; no statement is proved in this text. -/
import Derived.Test.YtobkehlkopkaeaaDoorWords
import Derived.Test.YtobkehlkopkaeaaDoorAll
namespace Go.Proofs.YtobkehlkopkaeaaDoor
open Go.ChangeShapes Go.WideShapes Go.ChangeAt Go.RowKit
set_option maxRecDepth 100000

theorem under28 : Tryd.prog.underlying 28 = some (.slice 9) := by kernel_rfl
theorem info9x : (Tryd.prog.info? 9).map (fun i => (i.zero, i.size, i.bytes)) = some (some (.string ⟨#[]⟩), 1, 16) := by kernel_rfl
theorem app28 {w : World} {ops : Array Oper} {rest : List Oper} {o : Oper} {a : Act} {Q : Exit → Act → World → Prop} (hgd : o.guard = none) (s x : Operand)
    (ho : o.op = .call { callee := .builtin .append, args := #[s, x], argTypes := #[28, 28] }) (base : Nat) (v : Value) (n : Nat) (xs : List Value) (hs : a.eval s = v) (hown : w.ownsRow base 9 1 v n xs)
    (H c : Nat) (t : ByteArray) (hx : a.eval x = .slice (some ⟨H, 0, none⟩) 1 c) (hcell : w.cell? ⟨H, 0, none⟩ = some (.string t)) (hn : n ≤ 1000000) (hbase : base ≤ w.heap.size)
    (h : ∀ v' w', w'.ownsRow base 9 1 v' (n + 1) (xs ++ [.string t]) → Below base w w' → wpList Tryd.prog ops Q rest (a.put o.dst v') w') : wpList Tryd.prog ops Q (o :: rest) a w := by
  obtain ⟨i5, hi, hz, hsz, hby⟩ := info_parts info9x
  refine wpList_append_own w hgd s x 28 ho base 9 i5 (.string ⟨#[]⟩) 1 16 under28 hi hz hsz hby rfl (by omega) v n xs hs hown ⟨H, 0, none⟩ 1 c [.string t] hx rfl (fun j u hu => ?_) (by simp [Value.oneCell']) (by unfold maxLen; omega) (by omega) hbase ?_
  · rcases j with _ | j
    · obtain rfl : Value.string t = u := by simpa using hu
      exact hcell
    · simp at hu
  · intro v' w' h1 h2 _
    exact h v' w' h1 ((Below.refl _ _).grown h2 hbase (fun r hr => (hown.lt r hr).1))
theorem one_at9 {w : World} {H : Nat} (hH : w.heap.size = H) (u : Value) : (w.alloc (.cells #[u] 9)).cell? ⟨H, 0, none⟩ = some u := by
  rw [cell_of_row _ _ _ _ 9 (0, 0) (heap_at hH _)]
  rfl
theorem own_words {w : World} {base : Nat} {v : Value} {n : Nat} {ws : List Bs} (h : w.ownsRow base 9 1 v n (ws.map str)) : ∃ ao cap, v = .slice ao n cap ∧ WSl w ao ws ∧ ws.length = n := by
  have hl : ws.length = n := by have := h.1; simpa using this
  rcases h.2 with ⟨rfl, rfl⟩ | ⟨g, cap, cur, rfl, hb, hg, _⟩
  · exact ⟨none, 0, rfl, Or.inl (List.eq_nil_of_length_eq_zero hl), hl⟩
  · refine ⟨_, cap, rfl, Or.inr ⟨g, 0, rfl, (Array.getElem?_eq_some_iff.1 hg).1, fun j x hx => ?_⟩, hl⟩
    have hj : j < n := by have := (List.getElem?_eq_some_iff.1 hx).1; omega
    rw [Nat.zero_add, h.cellAt j (by omega)]
    simp [hx]
theorem ascii_sp : ∀ (j : Nat) b, (⟨#[32, 9]⟩ : ByteArray).data.toList[j]? = some b → b.toNat < 128 := by
  intro j b h
  have : b ∈ ([32, 9] : Bs) := List.mem_of_getElem? h
  simp at this
  rcases this with rfl | rfl <;> decide
theorem ba_ext (l : Bs) (i j : Nat) : (⟨l.toArray⟩ : ByteArray).extract i j = ⟨((l.take j).drop i).toArray⟩ := by
  apply ByteArray.ext
  simp [ByteArray.data_extract, List.drop_take]
def lenOf : Value → Nat
  | .slice _ n _ => n
  | _ => 0
theorem wf_nil (n : Nat) : wordsF n [] = [] := by cases n <;> rfl

set_option maxHeartbeats 1600000 in
theorem split_ok (w : World) (hm : ∃ m, w.cell? ⟨2, 0, none⟩ = some (.int .i64 m)) (l : Bs) (hl : l.length ≤ 1000000) (hasc : ∀ b ∈ semi l, b.toNat < 128) :
    Calls Tryd.prog 22 #[str l] w fun e w' => ∃ v, e = .returned v ∧ w'.ownsRow w.heap.size 9 1 v (splitF l).length ((splitF l).map str) ∧ Below w.heap.size w w' := by
  obtain ⟨m, hm⟩ := hm
  have HC : Hid (∃ a b, Calls Tryd.prog 21 #[str l, .string ⟨#[59]⟩] w fun e w' => e = .returned (.tuple #[str (semi l), a, b]) ∧ ∃ n, w' = w.drewN n) := ⟨_, _, by
    have := Tryd.strings_Cut ⟨l.toArray⟩ ⟨#[59]⟩ m w (by rw [bz]; omega) hm
    rw [show (⟨#[59]⟩ : ByteArray).data.toList = [59] from rfl, blist, cut_semi] at this
    exact this⟩
  have HT : Hid (∀ w r, Calls Tryd.prog 45 #[str r, .string ⟨#[32, 9]⟩] w fun e w' => e = .returned (str (r.dropWhile isSp)) ∧ Below w.heap.size w w') := fun w r => Tryd.strings_TrimLeft ⟨r.toArray⟩ ⟨#[32, 9]⟩ w (by decide) ascii_sp
  have hsl : (semi l).length ≤ l.length := (List.takeWhile_sublist _).length_le
  have HSF : Hid (splitF l = wordsF 4 ((semi l).dropWhile isSp)) := (rfl : splitF l = _)
  have HASC : Hid (∀ b ∈ semi l, b.toNat < 128) := hasc
  obtain ⟨xa, xb, hC⟩ := HC.out
  have HC2 : Hid (Calls Tryd.prog 21 #[str l, .string ⟨#[59]⟩] w fun e w' => e = .returned (.tuple #[str (semi l), xa, xb]) ∧ ∃ n, w' = w.drewN n) := hC
  clear hC HC hm hasc
  generalize splitF l = SF at *
  go_enter Tryd.func22, Tryd.ntmps22
  go_wp2_with fail
  refine HC2.out.mono ?_
  rintro e w1 ⟨rfl, nn, rfl⟩
  generalize semi l = s0 at *
  go_wp2_with fail
  refine (HT.out _ s0).mono ?_
  rintro e w2 ⟨rfl, hb2⟩
  have HB2 : Hid (Below w.heap.size w w2) := (below_drewN (Below.refl _ _) nn).trans (hb2.mono (Nat.le_refl _))
  clear hb2
  go_wp2_with fail
  go_loopw [3, 6] (fun r v wr => ∃ (x : Bs) (ws : List Bs) (k : Nat), r = str x ∧ k ≤ 4 ∧ x.length ≤ 1000000 ∧ (∀ b ∈ x, b.toNat < 128) ∧ SF = ws ++ wordsF (4 - k) x ∧ ws.length = k ∧ wr.ownsRow w.heap.size 9 1 v k (ws.map str) ∧ Below w.heap.size w wr) (fun _ v _ => 5 - lenOf v)
  case atStart => exact ⟨s0.dropWhile isSp, [], 0, rfl, by omega, by have := (List.dropWhile_sublist isSp (l := s0)).length_le; omega, fun b hb => HASC.out b ((List.dropWhile_sublist isSp).subset hb), HSF.out, rfl, World.ownsRow_nil _ _ _ _, HB2.out⟩
  case round =>
    obtain ⟨x, ws, k, rfl, hk, hxl, hxa, hSF, hwk, ho, hb⟩ := hrel
    have HO : Hid (wr.ownsRow w.heap.size 9 1 u6 k (ws.map str)) := ho
    have HB : Hid (Below w.heap.size w wr) := hb
    have hz := hb.size
    obtain ⟨ao, cap, rfl, _, _⟩ := own_words ho
    cases x with
    | nil =>
      have HE : Hid (SF = ws) := (by rw [hSF, wf_nil, List.append_nil] : SF = ws)
      have HWK : Hid (ws.length = k) := hwk
      clear ho hb hSF hxa hwk
      go_wp2_with fail
      go_ret
      exact ⟨_, rfl, by rw [HE.out, HWK.out]; exact HO.out, HB.out⟩
    | cons c t =>
      obtain ⟨y, hy⟩ : ∃ y, c :: t = y := ⟨_, rfl⟩
      have hyl : 0 < y.length := by rw [← hy]; simp
      have hne : y.isEmpty = false := by rw [← hy]; rfl
      have HW4 : Hid (∀ n, wordsF (n + 1) y = y.takeWhile (fun b => !isSp b) :: wordsF n ((y.dropWhile (fun b => !isSp b)).dropWhile isSp)) := fun n => by rw [← hy]; rfl
      rw [hy] at hxl hxa hSF ⊢
      have hsz := bz y
      by_cases hk3 : k ≤ 3
      · obtain ⟨i1, i2⟩ := indexAny_sp y
        have hle : (y.takeWhile (fun b => !isSp b)).length ≤ y.length := (List.takeWhile_sublist _).length_le
        have he1 : (⟨y.toArray⟩ : ByteArray).extract 0 (y.takeWhile (fun b => !isSp b)).length = ⟨(y.takeWhile (fun b => !isSp b)).toArray⟩ := by rw [ba_ext, List.drop_zero, take_of_tw]
        have he2 : (⟨y.toArray⟩ : ByteArray).extract (y.takeWhile (fun b => !isSp b)).length y.length = ⟨(y.dropWhile (fun b => !isSp b)).toArray⟩ := by rw [ba_ext, List.take_length, drop_of_tw]
        have HIA : Hid (∀ w, Calls Tryd.prog 46 #[str y, .string ⟨#[32, 9]⟩] w fun e w' => e = .returned (.int .i64 (Lib.indexAny y sp)) ∧ Below w.heap.size w w') := fun w => Tryd.strings_IndexAny_laid ⟨y.toArray⟩ ⟨#[32, 9]⟩ w (by rw [bz]; omega) (by decide) (fun j b hj => hxa b (List.mem_of_getElem? hj)) ascii_sp
        have HSF2 : Hid (SF = (ws ++ [y.takeWhile (fun b => !isSp b)]) ++ wordsF (4 - (k + 1)) ((y.dropWhile (fun b => !isSp b)).dropWhile isSp)) := (by rw [hSF, show 4 - k = (4 - (k + 1)) + 1 by omega, HW4.out, List.append_assoc]; rfl : SF = (ws ++ [y.takeWhile (fun b => !isSp b)]) ++ wordsF (4 - (k + 1)) ((y.dropWhile (fun b => !isSp b)).dropWhile isSp))
        have HDL : Hid (((y.dropWhile (fun b => !isSp b)).dropWhile isSp).length ≤ 1000000) := (by have h1 := (List.dropWhile_sublist isSp (l := y.dropWhile (fun b => !isSp b))).length_le; have h2 := (List.dropWhile_sublist (fun b => !isSp b) (l := y)).length_le; omega : ((y.dropWhile (fun b => !isSp b)).dropWhile isSp).length ≤ 1000000)
        have HDA : Hid (∀ b ∈ (y.dropWhile (fun b => !isSp b)).dropWhile isSp, b.toNat < 128) := fun b hb => hxa b ((List.dropWhile_sublist _).subset ((List.dropWhile_sublist _).subset hb))
        have HT2 : Hid (∀ w, Calls Tryd.prog 45 #[str (y.dropWhile (fun b => !isSp b)), .string ⟨#[32, 9]⟩] w fun e w' => e = .returned (str ((y.dropWhile (fun b => !isSp b)).dropWhile isSp)) ∧ Below w.heap.size w w') := fun w => HT.out w _
        have HWK : Hid (ws.length = k) := hwk
        have HFIN : Hid ((y.takeWhile (fun b => !isSp b)).length = y.length → y.takeWhile (fun b => !isSp b) = y ∧ y.dropWhile (fun b => !isSp b) = [] ∧ (y.dropWhile (fun b => !isSp b)).dropWhile isSp = []) := fun h => by
          have e1 := take_of_tw (fun b => !isSp b) y
          have e2 := drop_of_tw (fun b => !isSp b) y
          rw [h, List.take_length] at e1
          rw [h, List.drop_length] at e2
          exact ⟨e1.symm, e2.symm, by rw [← e2]; rfl⟩
        clear hy ho hb hSF hxa hwk HW4
        generalize (y.dropWhile (fun b => !isSp b)).dropWhile isSp = z at *
        generalize y.dropWhile (fun b => !isSp b) = dw at *
        generalize hE : (y.takeWhile (fun b => !isSp b)).length = E at *
        clear hE
        generalize y.takeWhile (fun b => !isSp b) = tw at *
        generalize Lib.indexAny y sp = I at *
        by_cases hI : I < 0
        · rw [if_pos hI] at i1
          obtain ⟨rfl, rfl, rfl⟩ := HFIN.out (by omega)
          obtain rfl : E = tw.length := by omega
          have hx0 : (⟨tw.toArray⟩ : ByteArray).extract tw.length tw.length = ⟨#[]⟩ := by rw [ba_ext]; simp
          clear i1 i2 he2
          go_wp2_with fail
          refine (HIA.out _).mono ?_
          rintro e w3 ⟨rfl, hb3⟩
          have HB3 : Hid (Below w.heap.size w w3) := HB.out.trans (hb3.mono hz)
          have HO3 : Hid (w3.ownsRow w.heap.size 9 1 (.slice ao k cap) k (ws.map str)) := own_below HO.out hb3
          have hz3 := HB3.out.size
          clear hb3
          go_wp2_with (at_builtin; refine app28 rfl (.tmp 29) (.tmp 33) rfl w.heap.size _ k _ rfl (HO3.out.alloc _) _ _ _ rfl (one_at9 rfl _) (by omega) (by simp <;> omega) ?_; intro v4 w4 ho4 hb4; have HO4 : Hid (w4.ownsRow w.heap.size 9 1 v4 (k + 1) (ws.map str ++ [str tw])) := ho4; have HB4 : Hid (Below w.heap.size w w4) := (HB3.out.alloc hz3 _).trans hb4; have hz4 := HB4.out.size; clear ho4 hb4)
          refine (HT2.out _).mono ?_
          rintro e w5 ⟨rfl, hb5⟩
          have HO5 : Hid (w5.ownsRow w.heap.size 9 1 v4 (k + 1) ((ws ++ [tw]).map str)) := (by rw [List.map_append]; exact own_below HO4.out hb5 : w5.ownsRow w.heap.size 9 1 v4 (k + 1) ((ws ++ [tw]).map str))
          have HB5 : Hid (Below w.heap.size w w5) := HB4.out.trans (hb5.mono hz4)
          clear hb5
          obtain ⟨ao5, cap5, rfl, _, _⟩ := own_words HO5.out
          go_wp2_with fail
          exact ⟨⟨_, ws ++ [tw], k + 1, rfl, by omega, HDL.out, HDA.out, HSF2.out, by rw [List.length_append, HWK.out]; rfl, HO5.out, HB5.out⟩, by simp [lenOf]; omega⟩
        · obtain rfl : I = (E : Int) := i2 (by omega)
          clear i1 i2
          go_wp2_with fail
          refine (HIA.out _).mono ?_
          rintro e w3 ⟨rfl, hb3⟩
          have HB3 : Hid (Below w.heap.size w w3) := HB.out.trans (hb3.mono hz)
          have HO3 : Hid (w3.ownsRow w.heap.size 9 1 (.slice ao k cap) k (ws.map str)) := own_below HO.out hb3
          have hz3 := HB3.out.size
          clear hb3
          go_wp2_with (at_builtin; refine app28 rfl (.tmp 29) (.tmp 33) rfl w.heap.size _ k _ rfl (HO3.out.alloc _) _ _ _ rfl (one_at9 rfl _) (by omega) (by simp <;> omega) ?_; intro v4 w4 ho4 hb4; have HO4 : Hid (w4.ownsRow w.heap.size 9 1 v4 (k + 1) (ws.map str ++ [str tw])) := ho4; have HB4 : Hid (Below w.heap.size w w4) := (HB3.out.alloc hz3 _).trans hb4; have hz4 := HB4.out.size; clear ho4 hb4)
          refine (HT2.out _).mono ?_
          rintro e w5 ⟨rfl, hb5⟩
          have HO5 : Hid (w5.ownsRow w.heap.size 9 1 v4 (k + 1) ((ws ++ [tw]).map str)) := (by rw [List.map_append]; exact own_below HO4.out hb5 : w5.ownsRow w.heap.size 9 1 v4 (k + 1) ((ws ++ [tw]).map str))
          have HB5 : Hid (Below w.heap.size w w5) := HB4.out.trans (hb5.mono hz4)
          clear hb5
          obtain ⟨ao5, cap5, rfl, _, _⟩ := own_words HO5.out
          go_wp2_with fail
          exact ⟨⟨z, ws ++ [tw], k + 1, rfl, by omega, HDL.out, HDA.out, HSF2.out, by rw [List.length_append, HWK.out]; rfl, HO5.out, HB5.out⟩, by simp [lenOf]; omega⟩
      · have HE : Hid (SF = ws) := (by rw [hSF, show 4 - k = 0 by omega]; simp [wordsF] : SF = ws)
        have HWK : Hid (ws.length = k) := hwk
        clear hy ho hb hSF hxa hwk HW4
        go_wp2_with fail
        go_ret
        exact ⟨_, rfl, by rw [HE.out, HWK.out]; exact HO.out, HB.out⟩
end Go.Proofs.YtobkehlkopkaeaaDoor
