/- Objects and slots out of what was read; no statement is proved in this text. -/
import Derived.Test.YtaapiffglfppnaaArgs
import Derived.Test.YtaapiffglfppnaaSl
namespace Go.Proofs.Ytaapiffglfppnaa
open Go.ChangeShapes Go.WideShapes Go.ChangeAt Go.RowKit Go.Deep

theorem list3 {α : Type} : ∀ {l : List α}, l.length = 3 → ∃ a b c, l = [a, b, c]
  | [a, b, c], _ => ⟨a, b, c, rfl⟩
theorem list4 {α : Type} : ∀ {l : List α}, l.length = 4 → ∃ a b c d, l = [a, b, c, d]
  | [a, b, c, d], _ => ⟨a, b, c, d, rfl⟩
theorem cells54 : Try.prog.cellsOf 54 = 4 := by kernel_rfl
theorem open_read {H : Type} {enc : TypeId × Value → H} {w : World} {base : Nat} {spare : Nat → Bool} {held : Bool} {fuel : Nat} {cs : List Value} {x : DataW H × List MemPlace}
    (h : DataW.trod enc Try.prog w base spare held fuel 54 cs = some x) : ∃ a : Op4, cs = oC a ∧ True := by
  obtain ⟨xs, n, _, _, hl, hlen, hf⟩ := DataW.trod_struct Try.underlying54 h
  obtain ⟨c0, c1, c2, c3, rfl⟩ := list4 (hl.trans cells54)
  obtain ⟨x0, x1, x2, x3, rfl⟩ := list4 (show xs.length = 4 from hlen)
  have g0 : DataW.trod enc Try.prog w base spare held n 3 (([c0, c1, c2, c3].drop 0).take (Try.prog.cellsOf 3)) = some x0 := hf 0 _ rfl
  have g1 : DataW.trod enc Try.prog w base spare held n 3 (([c0, c1, c2, c3].drop 1).take (Try.prog.cellsOf 3)) = some x1 := hf 1 _ rfl
  have g2 : DataW.trod enc Try.prog w base spare held n 3 (([c0, c1, c2, c3].drop 2).take (Try.prog.cellsOf 3)) = some x2 := hf 2 _ rfl
  have g3 : DataW.trod enc Try.prog w base spare held n 3 (([c0, c1, c2, c3].drop 3).take (Try.prog.cellsOf 3)) = some x3 := hf 3 _ rfl
  rw [cells3] at g0 g1 g2 g3
  obtain ⟨n0, e0, _, _⟩ := DataW.trod_int Try.underlying3 (show DataW.trod enc Try.prog w base spare held n 3 [c0] = some x0 from g0)
  obtain ⟨n1, e1, _, _⟩ := DataW.trod_int Try.underlying3 (show DataW.trod enc Try.prog w base spare held n 3 [c1] = some x1 from g1)
  obtain ⟨n2, e2, _, _⟩ := DataW.trod_int Try.underlying3 (show DataW.trod enc Try.prog w base spare held n 3 [c2] = some x2 from g2)
  obtain ⟨n3, e3, _, _⟩ := DataW.trod_int Try.underlying3 (show DataW.trod enc Try.prog w base spare held n 3 [c3] = some x3 from g3)
  simp only [List.cons.injEq, and_true] at e0 e1 e2 e3
  subst e0 e1 e2 e3
  exact ⟨(n0, n1, n2, n3), rfl, trivial⟩
theorem opens_read {H : Type} {enc : TypeId × Value → H} {W : World} {spare : Nat → Bool} {held : Bool} {a : Option Addr} {len cap : Nat} {d : DataW H} {ps : List MemPlace}
    (h : DataW.Trod enc Try.prog W 0 spare held 51 (.slice a len cap) d ps) : len ≤ maxLen ∧ ∃ X : List Op4, X.length = len ∧ Rd4 W a X := by
  obtain ⟨hm, f, _, hc⟩ := slice_read (α := Op4) oC (fun _ => True) uO cells54 (fun _ => by simp [oC]) (fun hr => open_read hr) h
  refine ⟨hm, (List.range len).map f, by simp, fun i e he => ?_⟩
  have hi : i < len := by have := (List.getElem?_eq_some_iff.1 he).1; simpa using this
  have hfe : f i = e := by
    simp [hi] at he
    exact he
  rcases hc with h0 | ⟨b, off, rfl, hlt, hc⟩
  · omega
  · have hr := hc i hi
    rw [hfe] at hr
    exact ⟨b, off, rfl, hlt, hr 0 _ rfl, hr 1 _ rfl, hr 2 _ rfl, hr 3 _ rfl⟩
theorem cells48 : Try.prog.cellsOf 48 = 3 := by kernel_rfl
theorem slot_read {H : Type} {enc : TypeId × Value → H} {w : World} {base : Nat} {spare : Nat → Bool} {held : Bool} {fuel : Nat} {cs : List Value} {x : DataW H × List MemPlace}
    (h : DataW.trod enc Try.prog w base spare held fuel 48 cs = some x) : ∃ a : Sl3, cs = lC a ∧ True := by
  obtain ⟨xs, n, _, _, hl, hlen, hf⟩ := DataW.trod_struct Try.underlying48 h
  obtain ⟨c0, c1, c2, rfl⟩ := list3 (hl.trans cells48)
  obtain ⟨x0, x1, x2, rfl⟩ := list3 (show xs.length = 3 from hlen)
  have g0 : DataW.trod enc Try.prog w base spare held n 3 (([c0, c1, c2].drop 0).take (Try.prog.cellsOf 3)) = some x0 := hf 0 _ rfl
  have g1 : DataW.trod enc Try.prog w base spare held n 3 (([c0, c1, c2].drop 1).take (Try.prog.cellsOf 3)) = some x1 := hf 1 _ rfl
  have g2 : DataW.trod enc Try.prog w base spare held n 3 (([c0, c1, c2].drop 2).take (Try.prog.cellsOf 3)) = some x2 := hf 2 _ rfl
  rw [cells3] at g0 g1 g2
  obtain ⟨n0, e0, _, _⟩ := DataW.trod_int Try.underlying3 (show DataW.trod enc Try.prog w base spare held n 3 [c0] = some x0 from g0)
  obtain ⟨n1, e1, _, _⟩ := DataW.trod_int Try.underlying3 (show DataW.trod enc Try.prog w base spare held n 3 [c1] = some x1 from g1)
  obtain ⟨n2, e2, _, _⟩ := DataW.trod_int Try.underlying3 (show DataW.trod enc Try.prog w base spare held n 3 [c2] = some x2 from g2)
  simp only [List.cons.injEq, and_true] at e0 e1 e2
  subst e0 e1 e2
  exact ⟨(n0, n1, n2), rfl, trivial⟩
theorem slots_read {H : Type} {enc : TypeId × Value → H} {W : World} {spare : Nat → Bool} {held : Bool} {a : Option Addr} {len cap : Nat} {d : DataW H} {ps : List MemPlace}
    (h : DataW.Trod enc Try.prog W 0 spare held 45 (.slice a len cap) d ps) : len ≤ maxLen ∧ ∃ X : List Sl3, X.length = len ∧ Rd3 W a X := by
  obtain ⟨hm, f, _, hc⟩ := slice_read (α := Sl3) lC (fun _ => True) uL cells48 (fun _ => by simp [lC]) (fun hr => slot_read hr) h
  refine ⟨hm, (List.range len).map f, by simp, fun i e he => ?_⟩
  have hi : i < len := by have := (List.getElem?_eq_some_iff.1 he).1; simpa using this
  have hfe : f i = e := by
    simp [hi] at he
    exact he
  rcases hc with h0 | ⟨b, off, rfl, hlt, hc⟩
  · omega
  · have hr := hc i hi
    rw [hfe] at hr
    exact ⟨b, off, rfl, hlt, hr 0 _ rfl, hr 1 _ rfl, hr 2 _ rfl⟩
end Go.Proofs.Ytaapiffglfppnaa
