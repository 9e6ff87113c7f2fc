/- No statement here. -/
import Derived.Test.YtnknhencobhjdaaMMd
set_option maxRecDepth 100000
namespace Go.Proofs.Ytnknhencobhjdaa
open Go.ChangeShapes Go.WideShapes Go.ChangeAt Go.RowKit Go.Deep
open Go.Proofs.Ytnknhencobhjdaa.Cp (pq hid bl1 hO)
attribute [local go_sem ↓] Go.wp_at_zero Go.wp_at_succ
theorem Dd.lower {w : World} {base base' d : Nat} {y : Dx} {t : Qt.T} {s : Qt.St} {C : List Cp.Rw} {Rs : List Rt} {P : List Int} (h : Dd w base d y t s C Rs P) (hb : base' ≤ base) : Dd w base' d y t s C Rs P := by
  obtain ⟨vR, capP, h1, h2, h3⟩ := h.blk
  obtain ⟨Q, hQ, hB⟩ := h.bk
  obtain ⟨v, c1, c2⟩ := h.cp.own
  obtain ⟨u, b1, b2⟩ := hB.own
  exact ⟨Nat.le_trans hb h.lo, ⟨vR, capP, h1, own_lower h2 hb, own_lower h3 hb⟩, ⟨Nat.le_trans hb h.cp.lo, v, c1, own_lower c2 hb⟩, ⟨Q, hQ, ⟨Nat.le_trans hb hB.lo, u, b1, own_lower b2 hb⟩⟩, h.wf⟩
theorem inv_nil (t : Qt.T) (nn : Nat → Nat) (ht : t = ⟨nn 0, nn 1, nn 2⟩) : Inv t (fun _ => none) Cp.z128 [] (fun j => List.replicate (nn j) ((0 : Int), (0 : Int))) [] [] [] where
  cr := Cp.rel_nil
  pl := rfl
  bl := rfl
  rl := fun k hk => by
    rw [ht, List.length_replicate]
    obtain rfl | rfl | rfl : k = 0 ∨ k = 1 ∨ k = 2 := by omega
    · rfl
    · rfl
    · rfl
  rr := fun r hr => by cases hr
  rz := fun k n h hk hn hne => by
    rw [List.getElem?_replicate] at hn
    split at hn
    · cases hn; exact absurd rfl hne
    · cases hn
  rd := List.Pairwise.nil
  rt := fun i q h => by simp at h
  hs := fun env x k hx => by unfold Qt.at_ at hx; split at hx <;> cases hx
  op := fun r hr => by cases hr
  oc := fun i q h => by simp at h
set_option maxHeartbeats 2000000 in
theorem start_ok (w : World) (t : Qt.T) (ht : rgB t = true) : Calls Try.prog 11 #[t.v] w fun e w' => ∃ p base z s T L R, e = .returned (pq p) ∧ w.heap.size ≤ base ∧ Pp w' base p z t s T L R [] [] [] [] [] ∧ Below w.heap.size w w' := by
  have ht2 := ht
  rw [rgB_eq] at ht2
  simp at ht2
  obtain ⟨nn, hnn⟩ : ∃ nn : Nat → Nat, t = ⟨nn 0, nn 1, nn 2⟩ := ⟨fun j => if j = 0 then t.a.toNat else if j = 1 then t.b.toNat else t.c.toNat, by
    obtain ⟨a, b, c⟩ := t
    simp at ht2 ⊢
    omega⟩
  have hn64 : ∀ k, k < 3 → nn k ≤ 64 := fun k hk => by
    rw [hnn] at ht2
    simp at ht2
    obtain rfl | rfl | rfl : k = 0 ∨ k = 1 ∨ k = 2 := by omega
    all_goals omega
  have hwf : Qt.Wf t (fun _ => none) := Qt.wf_new (by unfold rgB at ht; simpa using ht)
  obtain ⟨V, hV⟩ : ∃ V, V = w.alloc (.cells #[i64 t.a, i64 t.b, i64 t.c] 22) := ⟨_, rfl⟩
  have HV : Hid (w.alloc (.cells #[i64 t.a, i64 t.b, i64 t.c] 22) = V) := hV.symm
  have hbV : Below w.heap.size w V := by rw [hV]; exact bl1 w _
  have HX : Hid (V.heap[w.heap.size]? = some (.cells #[i64 t.a, i64 t.b, i64 t.c] 22)) := by rw [hV]; exact hid (hlx w _)
  have HBV := hid hbV
  have hnew := bnew_ok V nn hn64
  have ha : (i64 (nn 0), i64 (nn 1), i64 (nn 2)) = (i64 t.a, i64 t.b, i64 t.c) := by rw [hnn]
  simp only [Prod.mk.injEq] at ha
  rw [ha.1, ha.2.1, ha.2.2] at hnew
  have HN := hid hnew
  have HNN := hid hnn
  have HR : Hid (∀ W, Calls Try.prog 30 #[.agg #[i64 t.a, i64 t.b, i64 t.c]] W fun e w' => e = .returned (pq (W.heap.size + 3)) ∧ Dd w' W.heap.size (W.heap.size + 3) ⟨W.heap.size + 1, W.heap.size + 2, none⟩ t (fun _ => none) [] [] [] ∧ Below W.heap.size W w') := fun W => rnew_ok W t hwf
  have x0 : V.cell? ⟨w.heap.size, 0, none⟩ = some (i64 t.a) := bkc HX.out 0
  have x1 : V.cell? ⟨w.heap.size, 1, none⟩ = some (i64 t.b) := bkc HX.out 1
  have x2 : V.cell? ⟨w.heap.size, 2, none⟩ = some (i64 t.c) := bkc HX.out 2
  clear hV hbV hnew hnn ha hwf ht2 ht hn64
  unfold Qt.T.v
  go_enter Try.func11, Try.ntmps11
  go_upto_region 1 with fail
  rw [HV.out]
  go_wp2_with fail
  refine HN.out.mono ?_
  rintro e w1 ⟨B, bx, rfl, hbd, hb1⟩
  have HBD := hid hbd
  have HB1 := hid hb1
  have HX1 := hid (bkb HX.out hb1)
  clear hbd hb1 x0 x1 x2
  have x0 : w1.cell? ⟨w.heap.size, 0, none⟩ = some (i64 t.a) := bkc HX1.out 0
  have x1 : w1.cell? ⟨w.heap.size, 1, none⟩ = some (i64 t.b) := bkc HX1.out 1
  have x2 : w1.cell? ⟨w.heap.size, 2, none⟩ = some (i64 t.c) := bkc HX1.out 2
  go_wp2_with fail
  refine (HR.out w1).mono ?_
  rintro e w2 ⟨rfl, hdd, hb2⟩
  obtain ⟨dn, hdn⟩ : ∃ dn, dn = w1.heap.size + 3 := ⟨_, rfl⟩
  rw [← hdn] at hdd ⊢
  have HDD := hid hdd
  have HB2 := hid hb2
  have hs1 := HB1.out.size
  clear hdd hb2 hdn x0 x1 x2
  go_wp2_with fail
  go_ret
  have hb := bl1 w2 (.cells #[pq B, pq dn, .slice none 0 0, .slice none 0 0] 40)
  have hlt : w2.heap.size < (w2.alloc (.cells #[pq B, pq dn, .slice none 0 0, .slice none 0 0] 40)).heap.size := by simp
  refine ⟨w2.heap.size, V.heap.size, ⟨B, bx, dn, ⟨_, _, none⟩, none, none⟩, _, _, _, _, rfl, HBV.out.size, ⟨?_, (HDD.out.below hb).lower hs1, inv_nil t nn HNN.out, ⟨?_, 0, 0, hlx w2 _, ⟨rfl, Or.inl ⟨rfl, rfl⟩⟩, ⟨rfl, Or.inl ⟨rfl, rfl⟩⟩⟩, rfl, fun k hk e => (by cases e), fun g e => (by cases e)⟩, ?_⟩
  · have h2 := (HBD.out.below HB2.out).below hb
    rw [← HNN.out] at h2
    exact h2
  · show V.heap.size ≤ w2.heap.size
    have := HB2.out.size
    omega
  · exact HBV.out.trans (((HB1.out.trans (HB2.out.mono hs1)).trans (hb.mono (by have := HB2.out.size; omega))).mono HBV.out.size)
end Go.Proofs.Ytnknhencobhjdaa
