/- strings.IndexAny of two spaces at any bytes; no statement is proved in this text. -/
import Derived.Test.YtobkehlkopkaeaaDoorWords
import Derived.Test.YtobkehlkopkaeaaDoorPlain
import Derived.Test.YtobkehlkopkaeaaDoorIs
import Derived.Laws.RangeAny
import Derived.Lib.OthersKept
import Derived.Deep.DeepCutAuto
import Derived.Deep.LoopGhost
import Derived.Deep.QuietTactic
import Derived.BigQuiet
import Derived.WalkMore
namespace Go.Proofs.YtobkehlkopkaeaaDoor
open Go.ChangeShapes Go.WideShapes Go.ChangeAt Go.RowKit
set_option maxRecDepth 100000

theorem cont_at {s : ByteArray} {p k : Nat} (h : (decide (p + k < s.size) && (s.get! (p + k)).toNat / 64 == 2) = true) : ∃ hj : p + k < s.size, 128 ≤ (s[p + k]'hj).toNat := by
  simp only [Bool.and_eq_true, decide_eq_true_eq, beq_iff_eq] at h
  refine ⟨h.1, ?_⟩
  have := Go.get_at s (p + k) h.1
  rw [Nat.add_zero] at this
  rw [← this]
  omega
theorem decode_ways (s : ByteArray) (p : Nat) (h : p < s.size) (ha : 128 ≤ (s[p]'h).toNat) : (Utf8.decode s p).2 = 1 ∨ ((Utf8.decode s p).2 = 2 ∧ (decide (p + 1 < s.size) && (s.get! (p + 1)).toNat / 64 == 2) = true) ∨
    ((Utf8.decode s p).2 = 3 ∧ (decide (p + 1 < s.size) && (s.get! (p + 1)).toNat / 64 == 2) = true ∧ (decide (p + 2 < s.size) && (s.get! (p + 2)).toNat / 64 == 2) = true) ∨
    ((Utf8.decode s p).2 = 4 ∧ (decide (p + 1 < s.size) && (s.get! (p + 1)).toNat / 64 == 2) = true ∧ (decide (p + 2 < s.size) && (s.get! (p + 2)).toNat / 64 == 2) = true ∧ (decide (p + 3 < s.size) && (s.get! (p + 3)).toNat / 64 == 2) = true) := by
  have hn : ¬ (s[p]'h).toNat < 128 := by omega
  simp only [Utf8.decode, Go.get_at s p h, hn, if_false]
  repeat' split
  all_goals simp_all
theorem decode_skip (s : ByteArray) (p : Nat) (h : p < s.size) (ha : 128 ≤ (s[p]'h).toNat) (j : Nat) (h1 : p ≤ j) (h2 : j < p + (Utf8.decode s p).2) : ∃ hj : j < s.size, 128 ≤ (s[j]'hj).toNat := by
  have hp : ∃ hj : p < s.size, 128 ≤ (s[p]'hj).toNat := ⟨h, ha⟩
  rcases decode_ways s p h ha with e | ⟨e, c1⟩ | ⟨e, c1, c2⟩ | ⟨e, c1, c2, c3⟩ <;> rw [e] at h2
  · obtain rfl : j = p := by omega
    exact hp
  · have : j = p ∨ j = p + 1 := by omega
    rcases this with rfl | rfl
    · exact hp
    · exact cont_at c1
  · have : j = p ∨ j = p + 1 ∨ j = p + 2 := by omega
    rcases this with rfl | rfl | rfl
    · exact hp
    · exact cont_at c1
    · exact cont_at c2
  · have : j = p ∨ j = p + 1 ∨ j = p + 2 ∨ j = p + 3 := by omega
    rcases this with rfl | rfl | rfl | rfl
    · exact hp
    · exact cont_at c1
    · exact cont_at c2
    · exact cont_at c3

theorem vrune_ok (r : Int) (w : World) : Calls Tryd.prog 85 #[.int .i32 r] w fun e w' => (∃ b, e = .returned (.bool b)) ∧ w' = w := by
  go_enter Tryd.func85, Tryd.ntmps85
  go_wp2
  all_goals go_ret
  all_goals exact ⟨by first | exact ⟨_, rfl⟩ | exact Or.inl rfl | exact Or.inr rfl, rfl⟩
theorem enc_high (r : Int) (h : 128 ≤ r) : (∃ x y : UInt8, Utf8.encode r = ⟨#[x, y]⟩ ∧ 128 ≤ y.toNat) ∨ (∃ x y z : UInt8, Utf8.encode r = ⟨#[x, y, z]⟩) ∨ (∃ x y z u : UInt8, Utf8.encode r = ⟨#[x, y, z, u]⟩) := by
  unfold Utf8.encode
  generalize hc : (if Utf8.valid r = true then r.toNat else Utf8.runeError) = c
  have hc2 : ¬ c < 128 := by
    rw [← hc]
    split
    · omega
    · decide
  simp only [if_neg hc2]
  split
  · refine Or.inl ⟨_, _, rfl, ?_⟩
    have : c % 64 < 64 := Nat.mod_lt _ (by omega)
    simp only [UInt8.toNat_ofNat']
    omega
  split
  · exact Or.inr (Or.inl ⟨_, _, _, rfl⟩)
  · exact Or.inr (Or.inr ⟨_, _, _, _, rfl⟩)
theorem sp_end (w : World) : (Instr.slice 9 (.string ⟨#[32, 9]⟩) (some (.int .i64 2)) none none).run Tryd.prog w = .ok (.string ⟨#[]⟩) w := by kernel_rfl
theorem sp_end2 (w : World) : (Instr.slice 9 (.string ⟨#[32, 9]⟩) (some (.int .i64 (IntKind.i64.wrap 2))) none none).run Tryd.prog w = .ok (.string ⟨#[]⟩) w := by kernel_rfl
theorem conv_rune (r : Int) (w : World) : (convert 21 9 (.int .i32 r)).run Tryd.prog w = .ok (.string (Utf8.encode r)) w := by
  kernel_rfl
set_option maxHeartbeats 3200000 in
theorem rune_high (r : Int) (w : World) (h0 : 128 ≤ r) (h1 : r ≤ 2147483647) : Calls Tryd.prog 70 #[.string ⟨#[32, 9]⟩, .int .i32 r] w fun e w' => e = .returned (.int .i64 (-1)) ∧ Below w.heap.size w w' := by
  have HVR := hid (vrune_ok r)
  have HB0 : Hid (Below w.heap.size w w) := Below.refl _ _
  by_cases he : r = 65533
  · subst he
    go_enter Tryd.func70, Tryd.ntmps70
    go_wp2_with fail
    go_loopg [5, 6] 2 (fun g _ _ wx => ∃ i : Nat, i + g = 2 ∧ wx = w.iter ⟨#[32, 9]⟩ i)
    case atStart => exact ⟨0, by omega, rfl⟩
    case round =>
      obtain ⟨i, hig, rfl⟩ := hrel
      cases gk with
      | zero =>
        obtain rfl : i = 2 := by omega
        have hnx := run_next_end (P := Tryd.prog) w ⟨#[32, 9]⟩ 2
        go_wp2
        go_ret
        exact ⟨rfl, (Below.refl _ _).alloc (Nat.le_refl _) _⟩
      | succ g =>
        have hi : i = 0 ∨ i = 1 := by omega
        rcases hi with rfl | rfl
        · have hnx := fun ty => run_next_ascii (P := Tryd.prog) w ⟨#[32, 9]⟩ 0 ty (by decide) (by decide)
          go_wp2
          go_roundg g
          case measure => omega
          case rel => exact ⟨1, by omega, rfl⟩
        · have hnx := fun ty => run_next_ascii (P := Tryd.prog) w ⟨#[32, 9]⟩ 1 ty (by decide) (by decide)
          go_wp2
          go_roundg g
          case measure => omega
          case rel => exact ⟨2, by omega, rfl⟩
  · have heb : (r == 65533) = false := by simpa using he
    have hn1 : ¬ r < 128 := by omega
    have HE := hid (enc_high r h0)
    go_enter Tryd.func70, Tryd.ntmps70
    go_wp2_with fail
    refine (HVR.out _).mono ?_
    rintro e w1 ⟨⟨b, rfl⟩, rfl⟩
    cases b
    · go_wp2_with fail
      go_ret
      exact ⟨rfl, HB0.out⟩
    · have hcv := conv_rune r
      rcases HE.out with ⟨x, y, hxy, hy⟩ | ⟨x, y, z, hxy⟩ | ⟨x, y, z, u, hxy⟩
      · rw [hxy] at hcv
        have hib : ∀ (c : Int) w, Calls Tryd.prog 84 #[.string ⟨#[]⟩, .int .u8 c] w fun e w' => e = .returned (.int .i64 (-1)) ∧ w' = w := fun c w => (Any.strings_IndexByte { Tryd.lays153 with } ⟨#[]⟩ c w).mono fun e w' ⟨h1, h2⟩ => ⟨by rw [h1]; rfl, h2⟩
        have HIB := hid hib
        have hy9 : (((((⟨#[32, 9]⟩ : ByteArray)[1]'(by decide)).toNat : Nat) : Int) != ((((⟨#[x, y]⟩ : ByteArray)[1]'(by show 1 < 2; omega)).toNat : Nat) : Int)) = true := by
          show (((9 : Nat) : Int) != ((y.toNat : Nat) : Int)) = true
          have : ((9 : Nat) : Int) ≠ ((y.toNat : Nat) : Int) := by omega
          simpa using this
        have hse := sp_end
        have hse2 := sp_end2
        go_wp2_with fail
        go_step3
        go_wp2_with fail
        go_loopg [9, 10, 11, 12] 0 (fun _ v9 _ _ _ wx => v9 = .int .i64 1 ∧ wx = w1)
        case atStart => exact ⟨rfl, rfl⟩
        case round =>
          obtain ⟨rfl, rfl⟩ := hrel
          go_wp2_with fail
          go_step3
          go_wp2_with fail
          go_quiet (fail)
          go_wp2_with fail
          go_quiet ((go_at_call 84; exact (HIB.out _ _).mono fun e w' ⟨h1, h2⟩ => ⟨h1, _, h2⟩))
          go_wp2_with fail
          simp only [Exit.noGoto_ret, Exit.inBlock, Exit.then]
          go_ret
          exact ⟨rfl, ⟨rfl, rfl, rfl, Nat.le_refl _, fun _ _ => rfl⟩⟩
      · rw [hxy] at hcv
        go_wp2_with fail
        go_step3
        go_wp2_with fail
        go_loopg [9, 10, 11, 12] 0 (fun _ v9 _ _ _ wx => v9 = .int .i64 2 ∧ wx = w1)
        case atStart => exact ⟨rfl, rfl⟩
        case round =>
          obtain ⟨rfl, rfl⟩ := hrel
          go_wp2_with fail
          simp only [Exit.noGoto_ret]
          go_ret
          exact ⟨rfl, HB0.out⟩
      · rw [hxy] at hcv
        go_wp2_with fail
        go_step3
        go_wp2_with fail
        go_loopg [9, 10, 11, 12] 0 (fun _ v9 _ _ _ wx => v9 = .int .i64 3 ∧ wx = w1)
        case atStart => exact ⟨rfl, rfl⟩
        case round =>
          obtain ⟨rfl, rfl⟩ := hrel
          go_wp2_with fail
          simp only [Exit.noGoto_ret]
          go_ret
          exact ⟨rfl, HB0.out⟩
theorem index_sp_none (x : UInt8) : decide ((0 : Int) ≤ Lib.indexByte [32, 9] x) = isSp x := (Lib.contains_iff_indexByte [32, 9] x).symm
theorem at_pos {s : ByteArray} {j : Nat} (h : j < s.size) : s.data.toList[j]? = some s[j] := Lib.data_getElem? s j h
theorem zero109 : ∀ w, (zeroValue 109).run Tryd.prog w = .ok (.agg (Array.replicate 256 (.bool false))) w := by
  intro w
  kernel_rfl
theorem ascii_sp2 : ∀ (j : Nat) b, (⟨#[32, 9]⟩ : ByteArray).data.toList[j]? = some b → b.toNat < 128 := by
  intro j b h
  have : b ∈ ([32, 9] : Bs) := List.mem_of_getElem? h
  simp at this
  rcases this with rfl | rfl <;> decide
set_option maxHeartbeats 6400000 in
theorem indexAny_short (s : ByteArray) (w : World) (h8 : s.size ≤ 8) : Calls Tryd.prog 46 #[.string s, .string ⟨#[32, 9]⟩] w fun e w' => e = .returned (.int .i64 (Lib.indexAny s.data.toList sp)) ∧ Below w.heap.size w w' := by
  have HSH : Hid (∀ w, Calls Tryd.prog 71 #[.int .i64 (s.size : Nat)] w fun e w' => e = .returned (.bool false) ∧ w' = w) := fun w => by
    have := Any.strings_shouldUseASCIISet { Tryd.lays153 with } (s.size : Nat) w
    rw [show decide ((8 : Int) < (s.size : Nat)) = false from decide_eq_false (by omega)] at this
    exact this
  have HRA : Hid (∀ (r : Int) w, 0 ≤ r → r < 128 → Calls Tryd.prog 70 #[.string ⟨#[32, 9]⟩, .int .i32 r] w fun e w' => e = .returned (.int .i64 (Lib.indexByte [32, 9] r.toNat.toUInt8)) ∧ w' = w) := fun r w h0 h1 => Any.strings_IndexRune_ascii { Tryd.lays153 with } ⟨#[32, 9]⟩ r w h0 h1
  have HRH : Hid (∀ (r : Int) w, 128 ≤ r → r ≤ 2147483647 → Calls Tryd.prog 70 #[.string ⟨#[32, 9]⟩, .int .i32 r] w fun e w' => e = .returned (.int .i64 (-1)) ∧ Below w.heap.size w w') := fun r w h0 h1 => rune_high r w h0 h1
  have HIT : Hid ((w.alloc (.stringIter s 0)).heap[w.heap.size]? = some (.stringIter s 0)) := heap_at rfl _
  have HB0 : Hid (Below w.heap.size w (w.alloc (.stringIter s 0))) := (Below.refl _ _).alloc (Nat.le_refl _) _
  go_enter Tryd.func46, Tryd.ntmps46
  go_wp2_with fail
  refine (HSH.out _).mono ?_
  rintro e w1 ⟨rfl, hw1⟩
  subst hw1
  go_wp2_with fail
  go_loopg [9, 10] s.size (fun g _ _ wx => ∃ i : Nat, s.size - i ≤ g ∧ i ≤ s.size ∧ Hid (wx.heap[w1.heap.size]? = some (.stringIter s i)) ∧ Hid (Below w1.heap.size w1 wx) ∧ Hid (Lib.NoAny s.data.toList sp i))
  case atStart => exact ⟨0, by omega, by omega, HIT, HB0, Lib.NoAny.zero _ _⟩
  case round =>
    obtain ⟨i, hg, hi, HI, HB, HN⟩ := hrel
    have hBs := HB.out.size
    by_cases hlt : i < s.size
    · by_cases hx : (s[i]).toNat < 128
      · have hnx := fun ty => Go.Lib.run_next_ascii_at (P := Tryd.prog) wr w1.heap.size s i ty HI.out hlt hx
        have HX : Hid (s.data.toList[i]? = some s[i]) := at_pos hlt
        have HI2 : Hid ((wr.iterAt w1.heap.size s (i + 1)).heap[w1.heap.size]? = some (.stringIter s (i + 1))) := Go.Lib.iterAt_heap wr _ s i (i + 1) HI.out
        have HB2 : Hid (Below w1.heap.size w1 (wr.iterAt w1.heap.size s (i + 1))) := Go.Lib.below_iterAt HB.out (Nat.le_refl _) s (i + 1)
        have hsp := index_sp_none s[i]
        have hback : ((s[i].toNat : Int)).toNat.toUInt8 = s[i] := by simp
        have HC := hid (HRA.out (s[i].toNat : Nat) (wr.iterAt w1.heap.size s (i + 1)) (by omega) (by omega))
        rw [hback] at HC
        generalize s[i] = x at *
        by_cases hin : isSp x = true
        · rw [hin] at hsp
          have hge : (0 : Int) ≤ Lib.indexByte [32, 9] x := of_decide_eq_true hsp
          have HR : Hid (Lib.indexAny s.data.toList sp = i) := Lib.indexAny_hit HN.out HX.out hin
          go_wp2_with fail
          refine HC.out.mono ?_
          rintro e w3 ⟨rfl, hw3⟩
          subst hw3
          go_wp2_with fail
          go_ret
          exact ⟨by rw [HR.out]; rfl, HB2.out⟩
        · have hin2 : isSp x = false := by simpa using hin
          rw [hin2] at hsp
          have hge : ¬ (0 : Int) ≤ Lib.indexByte [32, 9] x := of_decide_eq_false hsp
          have HN2 : Hid (Lib.NoAny s.data.toList sp (i + 1)) := HN.out.succ HX.out hin2
          go_wp2_with fail
          refine HC.out.mono ?_
          rintro e w3 ⟨rfl, hw3⟩
          subst hw3
          go_wp2_with fail
          go_roundg (s.size - (i + 1))
          case measure => omega
          case rel => exact ⟨i + 1, Nat.le_refl _, by omega, HI2, HB2, HN2⟩
      · have hx2 : 128 ≤ (s[i]).toNat := by omega
        have hnx := fun ty => Go.Lib.run_next_any_at (P := Tryd.prog) wr w1.heap.size s i ty HI.out hlt
        obtain ⟨hd1, hd2⟩ := decode_high s i hlt hx2
        have hd3 := decode_le s i
        have hskip := decode_skip s i hlt hx2
        generalize hde : Utf8.decode s i = D at *
        obtain ⟨c, wd⟩ := D
        simp only at hd1 hd2 hd3 hskip hnx
        have hwd : i + wd ≤ s.size := by
          obtain ⟨hj, _⟩ := hskip (i + wd - 1) (by omega) (by omega)
          omega
        have HN2 : Hid (Lib.NoAny s.data.toList sp (i + wd)) := fun j b hj hb => by
          by_cases hji : j < i
          · exact HN.out j b hji hb
          · obtain ⟨hjs, h128⟩ := hskip j (by omega) hj
            rw [at_pos hjs] at hb
            cases hb
            have e1 : s[j] ≠ 32 := fun e => by rw [e] at h128; exact absurd h128 (by decide)
            have e2 : s[j] ≠ 9 := fun e => by rw [e] at h128; exact absurd h128 (by decide)
            simp [sp, e1, e2]
        have HI2 : Hid ((wr.iterAt w1.heap.size s (i + wd)).heap[w1.heap.size]? = some (.stringIter s (i + wd))) := Go.Lib.iterAt_heap wr _ s i (i + wd) HI.out
        have HB2 : Hid (Below w1.heap.size w1 (wr.iterAt w1.heap.size s (i + wd))) := Go.Lib.below_iterAt HB.out (Nat.le_refl _) s (i + wd)
        have HC := hid (HRH.out (c : Nat) (wr.iterAt w1.heap.size s (i + wd)) (by omega) (by omega))
        have hsz2 := Go.Lib.iterAt_size wr w1.heap.size s (i + wd)
        have HL : Hid (w1.heap.size < (wr.iterAt w1.heap.size s (i + wd)).heap.size) := by
          show _ < _
          rw [hsz2]
          exact (Array.getElem?_eq_some_iff.1 HI.out).1
        clear hskip hx hx2 hde hsz2
        go_wp2_with fail
        refine HC.out.mono ?_
        rintro e w3 ⟨rfl, hb3⟩
        have HI3 : Hid (w3.heap[w1.heap.size]? = some (.stringIter s (i + wd))) := by show _ = _; rw [hb3.block _ HL.out]; exact HI2.out
        have HB3 : Hid (Below w1.heap.size w1 w3) := HB2.out.trans (hb3.mono (Nat.le_of_lt HL.out))
        clear hb3
        go_wp2_with fail
        go_roundg (s.size - (i + wd))
        case measure => omega
        case rel => exact ⟨i + wd, Nat.le_refl _, hwd, HI3, HB3, HN2⟩
    · obtain rfl : i = s.size := by omega
      have hnx := fun ty => Go.Lib.run_next_end_at (P := Tryd.prog) wr w1.heap.size s s.size ty HI.out (by omega)
      have HR : Hid (Lib.indexAny s.data.toList sp = -1) := Lib.indexAny_none (by rw [← Lib.size_eq]; exact HN.out)
      go_wp2_with fail
      go_ret
      exact ⟨by rw [HR.out]; rfl, HB.out⟩
theorem indexAny_sp_ok (s : ByteArray) (w : World) (hs : s.size < 4294967281) : Calls Tryd.prog 46 #[.string s, .string ⟨#[32, 9]⟩] w fun e w' => e = .returned (.int .i64 (Lib.indexAny s.data.toList sp)) ∧ Below w.heap.size w w' := by
  by_cases h8 : s.size ≤ 8
  · exact indexAny_short s w h8
  · refine (Tryd.strings_IndexAny_long zero109 s ⟨#[32, 9]⟩ w (by decide) (by omega) hs (by decide) ascii_sp2).mono fun e w' ⟨h1, h2⟩ => ⟨h1, ?_⟩
    rw [h2]
    exact ((Below.refl _ _).alloc (Nat.le_refl _) _).alloc (by simp) _
end Go.Proofs.YtobkehlkopkaeaaDoor
