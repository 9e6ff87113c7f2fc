/- asm's split at any bytes: its contract; no statement is proved in this text. -/
import Derived.Test.YtobkehlkopkaeaaDoorSplit
import Derived.Test.YtobkehlkopkaeaaDoorIa
namespace Go.Proofs.YtobkehlkopkaeaaDoor
open Go.ChangeShapes Go.WideShapes Go.ChangeAt Go.RowKit
set_option maxRecDepth 100000

set_option maxHeartbeats 1600000 in
theorem split_any (w : World) (hm : ∃ m, w.cell? ⟨2, 0, none⟩ = some (.int .i64 m)) (l : Bs) (hl : l.length ≤ 1000000) :
    Calls Tryd.prog 22 #[str l] w fun e w' => ∃ v, e = .returned v ∧ w'.ownsRow w.heap.size 9 1 v (splitF l).length ((splitF l).map str) ∧ Below w.heap.size w w' := by
  obtain ⟨m, hm⟩ := hm
  have HC : Hid (∃ a b, Calls Tryd.prog 21 #[str l, .string ⟨#[59]⟩] w fun e w' => e = .returned (.tuple #[str (semi l), a, b]) ∧ ∃ n, w' = w.drewN n) := ⟨_, _, by
    have := Tryd.strings_Cut ⟨l.toArray⟩ ⟨#[59]⟩ m w (by rw [bz]; omega) hm
    rw [show (⟨#[59]⟩ : ByteArray).data.toList = [59] from rfl, blist, cut_semi] at this
    exact this⟩
  have HT : Hid (∀ w r, Calls Tryd.prog 45 #[str r, .string ⟨#[32, 9]⟩] w fun e w' => e = .returned (str (r.dropWhile isSp)) ∧ Below w.heap.size w w') := fun w r => Tryd.strings_TrimLeft ⟨r.toArray⟩ ⟨#[32, 9]⟩ w (by decide) ascii_sp
  have hsl : (semi l).length ≤ l.length := (List.takeWhile_sublist _).length_le
  have HSF : Hid (splitF l = wordsF 4 ((semi l).dropWhile isSp)) := (rfl : splitF l = _)
  obtain ⟨xa, xb, hC⟩ := HC.out
  have HC2 : Hid (Calls Tryd.prog 21 #[str l, .string ⟨#[59]⟩] w fun e w' => e = .returned (.tuple #[str (semi l), xa, xb]) ∧ ∃ n, w' = w.drewN n) := hC
  clear hC HC hm
  generalize splitF l = SF at *
  go_enter Tryd.func22, Tryd.ntmps22
  go_wp2_with fail
  refine HC2.out.mono ?_
  rintro e w1 ⟨rfl, nn, rfl⟩
  generalize semi l = s0 at *
  go_wp2_with fail
  refine (HT.out _ s0).mono ?_
  rintro e w2 ⟨rfl, hb2⟩
  have HB2 : Hid (Below w.heap.size w w2) := (below_drewN (Below.refl _ _) nn).trans (hb2.mono (Nat.le_refl _))
  clear hb2
  go_wp2_with fail
  go_loopw [3, 6] (fun r v wr => ∃ (x : Bs) (ws : List Bs) (k : Nat), r = str x ∧ k ≤ 4 ∧ x.length ≤ 1000000 ∧ SF = ws ++ wordsF (4 - k) x ∧ ws.length = k ∧ wr.ownsRow w.heap.size 9 1 v k (ws.map str) ∧ Below w.heap.size w wr) (fun _ v _ => 5 - lenOf v)
  case atStart => exact ⟨s0.dropWhile isSp, [], 0, rfl, by omega, by have := (List.dropWhile_sublist isSp (l := s0)).length_le; omega, HSF.out, rfl, World.ownsRow_nil _ _ _ _, HB2.out⟩
  case round =>
    obtain ⟨x, ws, k, rfl, hk, hxl, hSF, hwk, ho, hb⟩ := hrel
    have HO : Hid (wr.ownsRow w.heap.size 9 1 u6 k (ws.map str)) := ho
    have HB : Hid (Below w.heap.size w wr) := hb
    have hz := hb.size
    obtain ⟨ao, cap, rfl, _, _⟩ := own_words ho
    cases x with
    | nil =>
      have HE : Hid (SF = ws) := (by rw [hSF, wf_nil, List.append_nil] : SF = ws)
      have HWK : Hid (ws.length = k) := hwk
      clear ho hb hSF hwk
      go_wp2_with fail
      go_ret
      exact ⟨_, rfl, by rw [HE.out, HWK.out]; exact HO.out, HB.out⟩
    | cons c t =>
      obtain ⟨y, hy⟩ : ∃ y, c :: t = y := ⟨_, rfl⟩
      have hyl : 0 < y.length := by rw [← hy]; simp
      have hne : y.isEmpty = false := by rw [← hy]; rfl
      have HW4 : Hid (∀ n, wordsF (n + 1) y = y.takeWhile (fun b => !isSp b) :: wordsF n ((y.dropWhile (fun b => !isSp b)).dropWhile isSp)) := fun n => by rw [← hy]; rfl
      rw [hy] at hxl hSF ⊢
      have hsz := bz y
      by_cases hk3 : k ≤ 3
      · obtain ⟨i1, i2⟩ := indexAny_sp y
        have hle : (y.takeWhile (fun b => !isSp b)).length ≤ y.length := (List.takeWhile_sublist _).length_le
        have he1 : (⟨y.toArray⟩ : ByteArray).extract 0 (y.takeWhile (fun b => !isSp b)).length = ⟨(y.takeWhile (fun b => !isSp b)).toArray⟩ := by rw [ba_ext, List.drop_zero, take_of_tw]
        have he2 : (⟨y.toArray⟩ : ByteArray).extract (y.takeWhile (fun b => !isSp b)).length y.length = ⟨(y.dropWhile (fun b => !isSp b)).toArray⟩ := by rw [ba_ext, List.take_length, drop_of_tw]
        have HIA : Hid (∀ w, Calls Tryd.prog 46 #[str y, .string ⟨#[32, 9]⟩] w fun e w' => e = .returned (.int .i64 (Lib.indexAny y sp)) ∧ Below w.heap.size w w') := fun w => indexAny_sp_ok ⟨y.toArray⟩ w (by rw [bz]; omega)
        have HSF2 : Hid (SF = (ws ++ [y.takeWhile (fun b => !isSp b)]) ++ wordsF (4 - (k + 1)) ((y.dropWhile (fun b => !isSp b)).dropWhile isSp)) := (by rw [hSF, show 4 - k = (4 - (k + 1)) + 1 by omega, HW4.out, List.append_assoc]; rfl : SF = (ws ++ [y.takeWhile (fun b => !isSp b)]) ++ wordsF (4 - (k + 1)) ((y.dropWhile (fun b => !isSp b)).dropWhile isSp))
        have HDL : Hid (((y.dropWhile (fun b => !isSp b)).dropWhile isSp).length ≤ 1000000) := (by have h1 := (List.dropWhile_sublist isSp (l := y.dropWhile (fun b => !isSp b))).length_le; have h2 := (List.dropWhile_sublist (fun b => !isSp b) (l := y)).length_le; omega : ((y.dropWhile (fun b => !isSp b)).dropWhile isSp).length ≤ 1000000)
        have HT2 : Hid (∀ w, Calls Tryd.prog 45 #[str (y.dropWhile (fun b => !isSp b)), .string ⟨#[32, 9]⟩] w fun e w' => e = .returned (str ((y.dropWhile (fun b => !isSp b)).dropWhile isSp)) ∧ Below w.heap.size w w') := fun w => HT.out w _
        have HWK : Hid (ws.length = k) := hwk
        have HFIN : Hid ((y.takeWhile (fun b => !isSp b)).length = y.length → y.takeWhile (fun b => !isSp b) = y ∧ y.dropWhile (fun b => !isSp b) = [] ∧ (y.dropWhile (fun b => !isSp b)).dropWhile isSp = []) := fun h => by
          have e1 := take_of_tw (fun b => !isSp b) y
          have e2 := drop_of_tw (fun b => !isSp b) y
          rw [h, List.take_length] at e1
          rw [h, List.drop_length] at e2
          exact ⟨e1.symm, e2.symm, by rw [← e2]; rfl⟩
        clear hy ho hb hSF hwk HW4
        generalize (y.dropWhile (fun b => !isSp b)).dropWhile isSp = z at *
        generalize y.dropWhile (fun b => !isSp b) = dw at *
        generalize hE : (y.takeWhile (fun b => !isSp b)).length = E at *
        clear hE
        generalize y.takeWhile (fun b => !isSp b) = tw at *
        generalize Lib.indexAny y sp = I at *
        by_cases hI : I < 0
        · rw [if_pos hI] at i1
          obtain ⟨rfl, rfl, rfl⟩ := HFIN.out (by omega)
          obtain rfl : E = tw.length := by omega
          have hx0 : (⟨tw.toArray⟩ : ByteArray).extract tw.length tw.length = ⟨#[]⟩ := by rw [ba_ext]; simp
          clear i1 i2 he2
          go_wp2_with fail
          refine (HIA.out _).mono ?_
          rintro e w3 ⟨rfl, hb3⟩
          have HB3 : Hid (Below w.heap.size w w3) := HB.out.trans (hb3.mono hz)
          have HO3 : Hid (w3.ownsRow w.heap.size 9 1 (.slice ao k cap) k (ws.map str)) := own_below HO.out hb3
          have hz3 := HB3.out.size
          clear hb3
          go_wp2_with (at_builtin; refine app28 rfl (.tmp 29) (.tmp 33) rfl w.heap.size _ k _ rfl (HO3.out.alloc _) _ _ _ rfl (one_at9 rfl _) (by omega) (by simp <;> omega) ?_; intro v4 w4 ho4 hb4; have HO4 : Hid (w4.ownsRow w.heap.size 9 1 v4 (k + 1) (ws.map str ++ [str tw])) := ho4; have HB4 : Hid (Below w.heap.size w w4) := (HB3.out.alloc hz3 _).trans hb4; have hz4 := HB4.out.size; clear ho4 hb4)
          refine (HT2.out _).mono ?_
          rintro e w5 ⟨rfl, hb5⟩
          have HO5 : Hid (w5.ownsRow w.heap.size 9 1 v4 (k + 1) ((ws ++ [tw]).map str)) := (by rw [List.map_append]; exact own_below HO4.out hb5 : w5.ownsRow w.heap.size 9 1 v4 (k + 1) ((ws ++ [tw]).map str))
          have HB5 : Hid (Below w.heap.size w w5) := HB4.out.trans (hb5.mono hz4)
          clear hb5
          obtain ⟨ao5, cap5, rfl, _, _⟩ := own_words HO5.out
          go_wp2_with fail
          exact ⟨⟨_, ws ++ [tw], k + 1, rfl, by omega, HDL.out, HSF2.out, by rw [List.length_append, HWK.out]; rfl, HO5.out, HB5.out⟩, by simp [lenOf]; omega⟩
        · obtain rfl : I = (E : Int) := i2 (by omega)
          clear i1 i2
          go_wp2_with fail
          refine (HIA.out _).mono ?_
          rintro e w3 ⟨rfl, hb3⟩
          have HB3 : Hid (Below w.heap.size w w3) := HB.out.trans (hb3.mono hz)
          have HO3 : Hid (w3.ownsRow w.heap.size 9 1 (.slice ao k cap) k (ws.map str)) := own_below HO.out hb3
          have hz3 := HB3.out.size
          clear hb3
          go_wp2_with (at_builtin; refine app28 rfl (.tmp 29) (.tmp 33) rfl w.heap.size _ k _ rfl (HO3.out.alloc _) _ _ _ rfl (one_at9 rfl _) (by omega) (by simp <;> omega) ?_; intro v4 w4 ho4 hb4; have HO4 : Hid (w4.ownsRow w.heap.size 9 1 v4 (k + 1) (ws.map str ++ [str tw])) := ho4; have HB4 : Hid (Below w.heap.size w w4) := (HB3.out.alloc hz3 _).trans hb4; have hz4 := HB4.out.size; clear ho4 hb4)
          refine (HT2.out _).mono ?_
          rintro e w5 ⟨rfl, hb5⟩
          have HO5 : Hid (w5.ownsRow w.heap.size 9 1 v4 (k + 1) ((ws ++ [tw]).map str)) := (by rw [List.map_append]; exact own_below HO4.out hb5 : w5.ownsRow w.heap.size 9 1 v4 (k + 1) ((ws ++ [tw]).map str))
          have HB5 : Hid (Below w.heap.size w w5) := HB4.out.trans (hb5.mono hz4)
          clear hb5
          obtain ⟨ao5, cap5, rfl, _, _⟩ := own_words HO5.out
          go_wp2_with fail
          exact ⟨⟨z, ws ++ [tw], k + 1, rfl, by omega, HDL.out, HSF2.out, by rw [List.length_append, HWK.out]; rfl, HO5.out, HB5.out⟩, by simp [lenOf]; omega⟩
      · have HE : Hid (SF = ws) := (by rw [hSF, show 4 - k = 0 by omega]; simp [wordsF] : SF = ws)
        have HWK : Hid (ws.length = k) := hwk
        clear hy ho hb hSF hwk HW4
        go_wp2_with fail
        go_ret
        exact ⟨_, rfl, by rw [HE.out, HWK.out]; exact HO.out, HB.out⟩
end Go.Proofs.YtobkehlkopkaeaaDoor
