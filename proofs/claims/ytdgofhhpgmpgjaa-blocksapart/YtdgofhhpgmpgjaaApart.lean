/- BlocksApart: a block changes by its own write alone, and then it begins with what was written and the rest stays: the law answers true for any writes and any number, and changes nothing that was there. No condition. -/
import Derived.Test.YtdgofhhpgmpgjaaRGather
namespace Go.Proofs.Ytdgofhhpgmpgjaa
open Go.ChangeShapes Go.WideShapes Go.ChangeAt Go.RowKit Go.Deep

theorem rd_in (blk : Nat → List UInt8) (a n : Nat) (h : a < n) : rdE a n = 0 ∧ rdS blk a n = blk a := by
  have hb : inB a n = true := by simp [inB]; omega
  unfold rdE rdS
  rw [if_pos hb, if_pos hb]
  exact ⟨rfl, rfl⟩
/-- Another block, or a write that did nothing: the block is as it was. -/
theorem wr_other (blk : Nat → List UInt8) (f : Int) (s : List UInt8) (n a : Nat) (h : f ≠ a ∨ wrE f s.length n ≠ 0) : wrB blk f s n a = blk a := by
  unfold wrB
  split
  · rename_i hc
    obtain ⟨k, rfl, hk⟩ := inB_nat hc.1
    rcases h with h | h
    · unfold upd
      rw [if_neg (by simp; omega)]
    · exfalso
      apply h
      unfold wrE
      rw [if_pos hc.1, if_pos hc.2]
  · rfl
theorem wr_same (blk : Nat → List UInt8) (s : List UInt8) (n a : Nat) (h : wrE (a : Int) s.length n = 0) : s.length ≤ 8 ∧ wrB blk a s n a = s ++ (blk a).drop s.length := by
  unfold wrE at h
  split at h
  · rename_i hb
    split at h
    · rename_i hs
      refine ⟨hs, ?_⟩
      unfold wrB
      rw [if_pos ⟨hb, hs⟩]
      simp [upd]
    · omega
  · omega
theorem str_ext (a : List UInt8) (i j : Nat) : (⟨a.toArray⟩ : ByteArray).extract i j = ⟨((a.drop i).take (j - i)).toArray⟩ := by
  apply ByteArray.ext
  rw [ByteArray.data_extract]
  apply Array.ext'
  simp [List.extract_eq_take_drop]
theorem str_eq (s : ByteArray) : (⟨s.data.toList.toArray⟩ : ByteArray) = s := by
  apply ByteArray.ext
  simp
theorem sz (l : List UInt8) (h : l.length = 8) : (⟨l.toArray⟩ : ByteArray).size = 8 := by
  show l.toArray.size = 8
  simpa using h

set_option maxRecDepth 100000 in
set_option maxHeartbeats 4000000 in
theorem apart_walk (w : World) (ao : Option Addr) (len cap : Nat) (f : Nat → Wr) (at_ : Int) (hst : WSl w ao len f) (hlen : len ≤ maxLen) :
    Calls Try.prog 6 #[.slice ao len cap, i64 at_] w fun e w' => e = .returned (.bool true) ∧ Below w.heap.size w w' := by
  have HLen : Hid (len ≤ maxLen) := hlen
  unfold maxLen at hlen
  have HS : Hid (WSl w ao len f) := hst
  clear hst
  go_enter Try.func6, Try.ntmps6
  go_wp2_with fail
  refine (new_ok w 8 (by omega) (by omega)).mono ?_
  rintro e w1 ⟨rfl, hb1, hd1⟩
  have HB1 : Hid (Below w.heap.size w w1) := hb1
  have HD1 : Hid (Dsk w1 (w.heap.size + 1) w.heap.size 8 0 (fun _ => zer8)) := hd1
  clear hb1 hd1
  go_wp2_with fail
  refine (long_any w1 ao len cap f (HS.out.below HB1.out) HLen.out).mono ?_
  rintro e w2 ⟨he, hb2⟩
  have HB2 : Hid (Below w.heap.size w w2) := HB1.out.trans (hb2.mono HB1.out.size)
  have HD2 : Hid (Dsk w2 (w.heap.size + 1) w.heap.size 8 0 (fun _ => zer8)) := HD1.out.below hb2 HD1.out.plt HD1.out.qlt
  clear hb2
  rcases he with rfl | ⟨rfl, hl61, hss⟩
  · go_wp2_with (go_at_call 9; refine (small_ok _).mono ?_; rintro e w5 ⟨rfl, hb5⟩; have HB5 : Hid (Below w.heap.size w w5) := HB2.out.trans (hb5.mono HB2.out.size); clear hb5)
    go_ret
    exact ⟨rfl, HB5.out⟩
  · have HSS : Hid (∀ i, i < len → (f i).s.size ≤ 100) := hss
    clear hss
    by_cases h0 : at_ < 0
    · go_wp2_with (go_at_call 9; refine (small_ok _).mono ?_; rintro e w5 ⟨rfl, hb5⟩; have HB5 : Hid (Below w.heap.size w w5) := HB2.out.trans (hb5.mono HB2.out.size); clear hb5)
      go_ret
      exact ⟨rfl, HB5.out⟩
    · by_cases h7 : 7 < at_
      · go_wp2_with (go_at_call 9; refine (small_ok _).mono ?_; rintro e w5 ⟨rfl, hb5⟩; have HB5 : Hid (Below w.heap.size w w5) := HB2.out.trans (hb5.mono HB2.out.size); clear hb5)
        go_ret
        exact ⟨rfl, HB5.out⟩
      · obtain ⟨a, rfl⟩ : ∃ a : Nat, at_ = a := ⟨at_.toNat, by omega⟩
        go_wp2_with fail
        go_loopw [47] (fun i wr => ∃ (k m : Nat) (blk : Nat → List UInt8), k ≤ len ∧ m ≤ k ∧ i = i64 k ∧ Below w.heap.size w wr ∧ Dsk wr (w.heap.size + 1) w.heap.size 8 m blk) (fun i _ => len - (intOf i).toNat)
        case atStart => exact ⟨0, 0, _, by omega, by omega, rfl, HB2.out, HD2.out⟩
        case round =>
          obtain ⟨k, m, blk, hk, hmk, rfl, hb, hd⟩ := hrel
          by_cases hlt : k < len
          · obtain ⟨b, off, rfl, hbl, c0, c1⟩ := (HS.out.below hb).at hlt
            have hs100 := HSS.out k hlt
            have hE : ∃ g s, (f k).at_ = g ∧ (f k).s = s := ⟨_, _, rfl, rfl⟩
            obtain ⟨g, s, hE1, hE2⟩ := hE
            rw [hE1] at c0
            rw [hE2] at c1 hs100
            clear hE1 hE2
            have HB : Hid (Below w.heap.size w wr) := hb
            have hdp := hd.plt
            have hba : ∀ o, Below wr.heap.size wr (wr.alloc o) := fun o => (Below.refl _ _).alloc (Nat.le_refl _) o
            have HD : Hid (∀ o, Dsk (wr.alloc o) (w.heap.size + 1) w.heap.size 8 m blk) := fun o => hd.below (hba o) (by omega) (by omega)
            have h8 := hd.len a (by omega)
            clear hb hd hba
            obtain ⟨r1, r2⟩ := rd_in blk a 8 (by omega)
            go_wp2_with fail
            refine (read_dsk (HD.out _) a).mono ?_
            rintro e w3 ⟨he, rfl⟩
            rw [r1, r2] at he
            subst he
            go_wp2_with fail
            refine (write_dsk (HD.out _) (by omega) g s).mono ?_
            rintro e w4 ⟨rfl, ht4, hd4⟩
            have hsz4 := ht4.size
            have hx4 : ∀ o, w4.cell? ⟨wr.heap.size, o, none⟩ = (#[i64 g, .string s] : Array Value)[o]? := fun o => by
              rw [ht4.cell (by show wr.heap.size < _; simp) (by show wr.heap.size ≠ _; omega) (by show wr.heap.size ≠ _; omega)]
              exact cell_of_row _ _ _ _ 49 (0, 0) (heap_last wr _)
            have HB4 : Hid (Below w.heap.size w w4) := (HB.out.alloc HB.out.size _).trans (ht4.below (by omega) (by omega) (by have := HB.out.size; simp; omega))
            have d0 : w4.cell? ⟨wr.heap.size, 0, none⟩ = some (i64 g) := hx4 0
            have d1 : w4.cell? ⟨wr.heap.size, 1, none⟩ = some (.string s) := hx4 1
            have HD4 : Hid (Dsk w4 (w.heap.size + 1) w.heap.size 8 (wrM m g s.size 8) (wrB blk g s.data.toList 8)) := hd4
            have h84 := hd4.len a (by omega)
            have hmm := wrM_le m g s.size 8
            obtain ⟨q1, q2⟩ := rd_in (wrB blk g s.data.toList 8) a 8 (by omega)
            have hsl : s.data.toList.length = s.size := rfl
            have hoth : (g ≠ a ∨ wrE g s.size 8 ≠ 0) → wrB blk g s.data.toList 8 a = blk a := fun h => wr_other blk g s.data.toList 8 a h
            have hsame : g = a → wrE g s.size 8 = 0 → s.size ≤ 8 ∧ wrB blk g s.data.toList 8 a = s.data.toList ++ (blk a).drop s.size := fun h1 h2 => by subst h1; exact wr_same blk s.data.toList 8 a h2
            clear ht4 hd4 hx4 hsz4 r1 r2
            generalize wrM m g s.size 8 = m4 at *
            generalize wrB blk g s.data.toList 8 = blk4 at *
            generalize wrE g s.size 8 = G at *
            go_wp2_with fail
            refine (read_dsk HD4.out a).mono ?_
            rintro e w5 ⟨he, rfl⟩
            rw [q1, q2] at he
            subst he
            clear q1 q2
            by_cases hc : g ≠ a ∨ G ≠ 0
            · have heq := hoth hc
              rw [heq]
              have z1 := sz (blk a) h8
              clear hoth hsame heq h8 h84
              generalize (⟨(blk a).toArray⟩ : ByteArray) = W0 at *
              by_cases hga : g = a
              · have hG : G ≠ 0 := by rcases hc with h | h; exact absurd hga h; exact h
                subst hga
                have b1 : (G != 0) = true := by simpa using hG
                have b2 : (G == 0) = false := by simpa using hG
                clear hc hG
                go_wp2_with fail
                go_quiet (fail)
                go_wp2_with fail
                exact ⟨⟨k + 1, m4, blk4, by omega, by omega, by go_num, below_drewN HB4.out _, HD4.out.same (fun x _ => by simp)⟩, by simp [intOf]; omega⟩
              · have b1 : (g != (a : Int)) = true := by simpa using hga
                have b2 : (g == (a : Int)) = false := by simpa using hga
                clear hc hga
                go_wp2_with fail
                go_quiet (fail)
                go_wp2_with fail
                exact ⟨⟨k + 1, m4, blk4, by omega, by omega, by go_num, below_drewN HB4.out _, HD4.out.same (fun x _ => by simp)⟩, by simp [intOf]; omega⟩
            · have hga : g = a := by omega
              have hG : G = 0 := by omega
              obtain ⟨hs8, heq⟩ := hsame hga hG
              have z0 := sz (blk a) h8
              have z1 := sz (blk4 a) h84
              have x1 : (⟨(blk4 a).toArray⟩ : ByteArray).extract 0 s.size = s := by
                rw [heq, str_ext, List.drop_zero, Nat.sub_zero, ← hsl, List.take_left, str_eq]
              have x2 : (⟨(blk4 a).toArray⟩ : ByteArray).extract s.size 8 = (⟨(blk a).toArray⟩ : ByteArray).extract s.size 8 := by
                rw [heq, str_ext, str_ext, ← hsl, List.drop_left]
              clear hoth hsame heq h8 h84 hc hsl
              subst hga hG
              generalize (⟨(blk a).toArray⟩ : ByteArray) = W0 at *
              generalize (⟨(blk4 a).toArray⟩ : ByteArray) = W1 at *
              go_wp2_with fail
              go_quiet (fail)
              go_wp2_with fail
              exact ⟨⟨k + 1, m4, blk4, by omega, by omega, by go_num, below_drewN HB4.out _, HD4.out.same (fun x _ => by simp)⟩, by simp [intOf]; omega⟩
          · have HB : Hid (Below w.heap.size w wr) := hb
            clear hb hd
            go_wp2_with (go_at_call 9; refine (small_ok _).mono ?_; rintro e w5 ⟨rfl, hb5⟩; have HB5 : Hid (Below w.heap.size w w5) := HB.out.trans (hb5.mono HB.out.size); clear hb5)
            go_ret
            exact ⟨rfl, HB5.out⟩
set_option maxRecDepth 100000 in
theorem blocksApart_lifted (os : Os) (started : os.Started) (H : Type) (enc : TypeId × Value → H) :
    ReturnsInHanded {} Try.checked os 6 .any (Rows.blocksApartSpec.pre6 enc Try.prog Try.f6 Rows.blocksApartRow.domain false) (Rows.blocksApartSpec.post enc Try.prog Try.f6 false true false false) := by
  refine returnsInHanded_of_change (C := Try.checked) own started (by kernel_rfl) Try.func6
    (ChangeSpec.witness6 (enc := enc) (C := Try.checked) false ⟨#[], #[.slice none 0 0, .int .i64 0], []⟩ 8 (by kernel_rfl) (by kernel_rfl) (by kernel_rfl) (by kernel_rfl)) ?_
  intro W base args ds gs before hval0 hW hcnd _
  have hval : ∀ (j : Nat) t v, Try.f6.params[j]? = some t → args[j]? = some v → Value.okWide Try.prog W .any base t v := hval0
  have hW' := hW
  obtain ⟨p, q, hA0, hV, rfl, hfz, hnd⟩ := hW
  have hA : DataW.TrodAll enc Try.prog W 0 (fun _ => true) true Try.f6.params.toList args.toList ds p := hA0
  rw [Try.params6] at hA hval
  have hA1 := hA
  obtain ⟨v0, vs0, d0, ds0, p0, q0, hargs, rfl, rfl, h0, r0⟩ := trodAll_cons hA
  obtain ⟨v1, vs1, d1, ds1, p1, q1, rfl, rfl, rfl, h1, r1⟩ := trodAll_cons r0
  obtain ⟨rfl, rfl, rfl⟩ := trodAll_nil r1
  obtain rfl : args = #[v0, v1] := by cases args; simp_all
  obtain ⟨rfl, rfl⟩ := trodVars_none hV
  obtain ⟨n1, rfl, rfl, rfl, w1⟩ := open_int Try.underlying3 (hval 1 3 v1 rfl rfl) h1
  obtain ⟨a0, len0, cap0, rfl⟩ := okWide_slice Try.underlying41 (hval 0 41 v0 rfl rfl)
  obtain ⟨hlen0, f, hW0, _⟩ := writes_read h0
  have walk0 := apart_walk W a0 len0 cap0 f n1 hW0 hlen0
  refine (walk0).mono fun e W' ⟨he, bel⟩ => ?_
  subst he
  exact ⟨_, rfl, _, _, _, [], _, [], hW', trodAll_mk1 (shut_bool Try.underlying4 _), trodAll_stays laidOut bel _ _ _ _ (by kernel_rfl) hA1, rfl, bel.frame _, fun h => by cases h⟩

theorem blocksApart : Rows.BlocksApartSaid :=
  OpenClaim.holds_of_wide 6 Try.f6 rfl rfl rfl rfl rfl rfl rfl ⟨rfl, rfl, rfl, rfl, rfl⟩ rfl rfl rfl rfl rfl (by kernel_rfl) Try.func6 (by kernel_rfl)
    (of_decide_eq_true (by kernel_rfl)) (by unfold Func.isWrapper; first | (rw [if_pos (by decide +kernel)]; kernel_rfl) | (rw [if_neg (by decide +kernel)]; exact ⟨rfl, rfl⟩))
    (fun os started H enc _ => blocksApart_lifted os started H enc)
#print axioms blocksApart
end Go.Proofs.Ytdgofhhpgmpgjaa
