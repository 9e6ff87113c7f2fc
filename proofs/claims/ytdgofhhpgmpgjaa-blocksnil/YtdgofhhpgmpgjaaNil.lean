/- BlocksNil: a nil disk has no blocks: the law answers true for every write and every list, and changes nothing that was there. No condition. -/
import Derived.Test.YtdgofhhpgmpgjaaArgs
namespace Go.Proofs.Ytdgofhhpgmpgjaa
open Go.ChangeShapes Go.WideShapes Go.ChangeAt Go.RowKit Go.Deep

theorem len_nil (w : World) : Calls Try.prog 26 #[.pointer none] w fun e w' => e = .returned (i64 0) ∧ w' = w := by
  go_enter Try.func26, Try.ntmps26
  go_wp2
  go_ret
  exact ⟨rfl, rfl⟩
theorem writes_nil (w : World) : Calls Try.prog 23 #[.pointer none] w fun e w' => e = .returned (i64 0) ∧ w' = w := by
  go_enter Try.func23, Try.ntmps23
  go_wp2
  go_ret
  exact ⟨rfl, rfl⟩
theorem has_nil (a : Int) (w : World) : Calls Try.prog 34 #[.pointer none, i64 a] w fun e w' => e = .returned (.bool false) ∧ w' = w := by
  by_cases h : 0 ≤ a
  · have h2 : ¬ a < 0 := by omega
    go_enter Try.func34, Try.ntmps34
    go_wp2_with (go_at_call 26; refine (len_nil _).mono ?_; rintro e w' ⟨rfl, rfl⟩)
    go_ret
    exact ⟨by simp [h2], rfl⟩
  · go_enter Try.func34, Try.ntmps34
    go_wp2
    go_ret
    exact ⟨rfl, rfl⟩
theorem read_nil (a : Int) (w : World) : Calls Try.prog 21 #[.pointer none, i64 a] w fun e w' => e = .returned (.tuple #[.string ⟨#[]⟩, i64 6]) ∧ w' = w := by
  go_enter Try.func21, Try.ntmps21
  go_wp2_with (go_at_call 34; refine (has_nil _ _).mono ?_; rintro e w' ⟨rfl, rfl⟩)
  go_ret2
  exact ⟨rfl, rfl⟩
theorem write_nil (a : Int) (s : ByteArray) (w : World) : Calls Try.prog 19 #[.pointer none, i64 a, .string s] w fun e w' => e = .returned (i64 6) ∧ w' = w := by
  go_enter Try.func19, Try.ntmps19
  go_wp2_with (go_at_call 34; refine (has_nil _ _).mono ?_; rintro e w' ⟨rfl, rfl⟩)
  go_ret
  exact ⟨rfl, rfl⟩

set_option maxRecDepth 100000 in
set_option maxHeartbeats 1000000 in
theorem gather_nil0 (w : World) (ao : Option Addr) (cap : Nat) : Calls Try.prog 24 #[.pointer none, .slice ao 0 cap, i64 0] w fun e w' => e = .returned (.tuple #[.string ⟨#[]⟩, i64 0]) ∧ Below w.heap.size w w' := by
  obtain ⟨i5, hi, hz, hs, hby⟩ := info_parts info5x
  have hmk := run_make (P := Try.prog) w 92 5 i5 (.int .u8 0) under92 hi hz .i64 .i64 0 0 (by omega) (by omega) (by rw [hby]; omega) (by omega)
  have hmk' : (Instr.makeSlice 92 (.int .i64 0) (.int .i64 0)).run Try.prog w = .ok (.slice (some ⟨w.heap.size, 0, none⟩) 0 0) (w.alloc (.cells (madeCells #[.int .u8 0] 0) 5)) := by
    have e : (0 : Int).toNat * i5.size = 0 := by simp
    rw [e] at hmk; exact hmk
  have hconv : ∀ w2, (convert 92 9 (.slice (some ⟨w.heap.size, 0, none⟩) 0 0)).run Try.prog w2 = .ok (.string ⟨#[]⟩) w2 := fun w2 => by
    have := run_convert_bytes_back (P := Try.prog) w2 92 9 5 ⟨w.heap.size, 0, none⟩ 0 [] (by kernel_rfl) (by kernel_rfl) (by kernel_rfl) (fun j hj => by simp at hj)
    exact this
  have HB : Hid (Below w.heap.size w (w.alloc (.cells (madeCells #[.int .u8 0] 0) 5))) := (Below.refl _ _).alloc (Nat.le_refl _) _
  clear hmk
  generalize w.alloc (.cells (madeCells #[Value.int .u8 0] 0) 5) = w1 at *
  go_enter Try.func24, Try.ntmps24
  go_wp2_with fail
  go_loopw [14] (fun i wr => i = i64 0 ∧ w = wr) (fun i _ => 0 - (intOf i).toNat)
  case atStart => exact ⟨rfl, rfl⟩
  case round =>
    obtain ⟨rfl, hw⟩ := hrel
    subst hw
    go_wp2_with fail
    go_loopw [11] (fun i wr => i = i64 0 ∧ w1 = wr) (fun i _ => 0 - (intOf i).toNat)
    case atStart => exact ⟨rfl, rfl⟩
    case round =>
      obtain ⟨rfl, hw⟩ := hrel
      subst hw
      go_wp2_with fail
      go_ret2
      exact ⟨rfl, HB.out⟩

set_option maxRecDepth 100000 in
set_option maxHeartbeats 1000000 in
theorem gather_nil1 (w : World) (b off len cap : Nat) (x : Int) (hl : 1 ≤ len) (hl2 : len ≤ 100) (hc : w.cell? ⟨b, off, none⟩ = some (i64 x)) : Calls Try.prog 24 #[.pointer none, .slice (some ⟨b, off, none⟩) len cap, i64 0] w fun e w' => e = .returned (.tuple #[.string ⟨#[]⟩, i64 6]) ∧ w' = w := by
  go_enter Try.func24, Try.ntmps24
  go_wp2_with fail
  go_loopw [14] (fun i wr => i = i64 0 ∧ w = wr) (fun i _ => 0 - (intOf i).toNat)
  case atStart => exact ⟨rfl, rfl⟩
  case round =>
    obtain ⟨rfl, hw⟩ := hrel
    subst hw
    have hlI : (0 : Int) < (len : Int) := by omega
    go_wp2_with (go_at_call 34; refine (has_nil _ _).mono ?_; rintro e w' ⟨rfl, rfl⟩)
    go_ret2
    exact ⟨rfl, rfl⟩

set_option maxRecDepth 100000 in
set_option maxHeartbeats 2000000 in
theorem nil_walk (w : World) (at_ : Int) (s : ByteArray) (ao : Option Addr) (cap : Nat) (xs : List Int) (hI : ISl w ao xs) (hmax : xs.length ≤ maxLen) :
    Calls Try.prog 7 #[.agg #[i64 at_, .string s], .slice ao xs.length cap] w fun e w' => e = .returned (.bool true) ∧ Below w.heap.size w w' := by
  unfold maxLen at hmax
  have hb0 : ∀ o, Below w.heap.size w (w.alloc o) := fun o => (Below.refl _ _).alloc (Nat.le_refl _) o
  have hI0 : ∀ o, ISl (w.alloc o) ao xs := fun o => hI.below (hb0 o)
  by_cases hlen : xs.length ≤ 100
  · rcases Nat.eq_zero_or_pos xs.length with h0 | h0
    · rw [h0]
      clear hI hI0
      go_enter Try.func7, Try.ntmps7
      go_wp2_with (first | (go_at_call 21; refine (read_nil _ _).mono ?_; rintro e w' ⟨rfl, rfl⟩))
      refine (gather_nil0 _ ao cap).mono ?_
      rintro e w1 ⟨rfl, hb1⟩
      have d0 : w1.cell? ⟨w.heap.size, 0, none⟩ = some (i64 at_) := by rw [hb1.cell (by show w.heap.size < _; simp)]; exact new_cell _ _ _ _ _ rfl
      have d1 : w1.cell? ⟨w.heap.size, 1, none⟩ = some (.string s) := by rw [hb1.cell (by show w.heap.size < _; simp)]; exact new_cell _ _ _ _ _ rfl
      have HB1 : Hid (Below w.heap.size w w1) := (hb0 _).trans (hb1.mono (by simp))
      clear hb1 hb0
      go_wp2_with (first | (go_at_call 19; refine (write_nil _ _ _).mono ?_; rintro e w' ⟨rfl, rfl⟩) | (go_at_call 26; refine (len_nil _).mono ?_; rintro e w' ⟨rfl, rfl⟩) | (go_at_call 23; refine (writes_nil _).mono ?_; rintro e w' ⟨rfl, rfl⟩) | (go_at_call 9; refine (small_ok _).mono ?_; rintro e w5 ⟨rfl, hb5⟩; have HB5 : Hid (Below w.heap.size w w5) := HB1.out.trans (hb5.mono HB1.out.size); clear hb5))
      go_ret
      exact ⟨by simp, HB5.out⟩
    · obtain ⟨b, off, rfl, _, c0⟩ := hI.at h0
      have hbl := World.block_lt_of_cell? w _ c0
      have c1 : ∀ o, (w.alloc o).cell? ⟨b, off, none⟩ = some (i64 xs[0]) := fun o => by rw [World.cell?_alloc_lt _ _ _ (by exact hbl)]; exact c0
      have hE : ∃ x, xs[0] = x := ⟨_, rfl⟩
      obtain ⟨x, hE⟩ := hE
      rw [hE] at c1
      clear hI hI0 c0 hE
      generalize xs.length = N at *
      go_enter Try.func7, Try.ntmps7
      go_wp2_with (first | (go_at_call 21; refine (read_nil _ _).mono ?_; rintro e w' ⟨rfl, rfl⟩))
      refine (gather_nil1 _ b off N cap x h0 hlen (c1 _)).mono ?_
      rintro e w1 ⟨rfl, rfl⟩
      have hbz := hb0 (.cells #[i64 at_, .string s] 49)
      have HB1 : Hid (Below w.heap.size w (w.alloc (.cells #[i64 at_, .string s] 49))) := hbz
      have hNI : (0 : Int) < (N : Int) := by omega
      clear hb0 c1 hbz
      go_wp2_with (first | (go_at_call 19; refine (write_nil _ _ _).mono ?_; rintro e w' ⟨rfl, rfl⟩) | (go_at_call 26; refine (len_nil _).mono ?_; rintro e w' ⟨rfl, rfl⟩) | (go_at_call 23; refine (writes_nil _).mono ?_; rintro e w' ⟨rfl, rfl⟩) | (go_at_call 9; refine (small_ok _).mono ?_; rintro e w5 ⟨rfl, hb5⟩; have HB5 : Hid (Below w.heap.size w w5) := HB1.out.trans (hb5.mono HB1.out.size); clear hb5))
      go_ret
      exact ⟨by simp, HB5.out⟩
  · generalize xs.length = N at *
    clear hI hI0
    go_enter Try.func7, Try.ntmps7
    go_wp2_with (go_at_call 9; refine (small_ok _).mono ?_; rintro e w5 ⟨rfl, hb5⟩; have HB5 : Hid (Below w.heap.size w w5) := (hb0 _).trans (hb5.mono (by simp)); clear hb5)
    go_ret
    exact ⟨rfl, HB5.out⟩
set_option maxRecDepth 100000 in
theorem blocksNil_lifted (os : Os) (started : os.Started) (H : Type) (enc : TypeId × Value → H) :
    ReturnsInHanded {} Try.checked os 7 .any (Rows.blocksNilSpec.pre6 enc Try.prog Try.f7 Rows.blocksNilRow.domain false) (Rows.blocksNilSpec.post enc Try.prog Try.f7 false true false false) := by
  refine returnsInHanded_of_change (C := Try.checked) own started (by kernel_rfl) Try.func7
    (ChangeSpec.witness6 (enc := enc) (C := Try.checked) false ⟨#[], #[.agg #[.int .i64 0, .string ⟨#[]⟩], .slice none 0 0], []⟩ 8 (by kernel_rfl) (by kernel_rfl) (by kernel_rfl) (by kernel_rfl)) ?_
  intro W base args ds gs before hval0 hW hcnd _
  have hval : ∀ (j : Nat) t v, Try.f7.params[j]? = some t → args[j]? = some v → Value.okWide Try.prog W .any base t v := hval0
  have hW' := hW
  obtain ⟨p, q, hA0, hV, rfl, hfz, hnd⟩ := hW
  have hA : DataW.TrodAll enc Try.prog W 0 (fun _ => true) true Try.f7.params.toList args.toList ds p := hA0
  rw [Try.params7] at hA hval
  have hA1 := hA
  obtain ⟨v0, vs0, d0, ds0, p0, q0, hargs, rfl, rfl, h0, r0⟩ := trodAll_cons hA
  obtain ⟨v1, vs1, d1, ds1, p1, q1, rfl, rfl, rfl, h1, r1⟩ := trodAll_cons r0
  obtain ⟨rfl, rfl, rfl⟩ := trodAll_nil r1
  obtain rfl : args = #[v0, v1] := by cases args; simp_all
  obtain ⟨rfl, rfl⟩ := trodVars_none hV
  obtain ⟨cs, rfl, _⟩ := okWide_struct Try.underlying49 (hval 0 49 v0 rfl rfl)
  obtain ⟨a1, len1, cap1, rfl⟩ := okWide_slice Try.underlying22 (hval 1 22 v1 rfl rfl)
  obtain ⟨hlen1, xs, hx, hI⟩ := ints_read h1
  obtain ⟨fuel, hf⟩ := h0
  obtain ⟨at_, s, hcs⟩ := write_read hf
  have hcs' : cs = #[i64 at_, .string s] := by
    have : cs.toList = [i64 at_, .string s] := hcs.1
    rw [← Array.toArray_toList (xs := cs), this]
  subst hcs'
  have walk0 := nil_walk W at_ s a1 cap1 xs hI (by rw [hx]; exact hlen1)
  rw [hx] at walk0
  refine (walk0).mono fun e W' ⟨he, bel⟩ => ?_
  subst he
  exact ⟨_, rfl, _, _, _, [], _, [], hW', trodAll_mk1 (shut_bool Try.underlying4 _), trodAll_stays laidOut bel _ _ _ _ (by kernel_rfl) hA1, rfl, bel.frame _, fun h => by cases h⟩

theorem blocksNil : Rows.BlocksNilSaid :=
  OpenClaim.holds_of_wide 7 Try.f7 rfl rfl rfl rfl rfl rfl rfl ⟨rfl, rfl, rfl, rfl, rfl⟩ rfl rfl rfl rfl rfl (by kernel_rfl) Try.func7 (by kernel_rfl)
    (of_decide_eq_true (by kernel_rfl)) (by unfold Func.isWrapper; first | (rw [if_pos (by decide +kernel)]; kernel_rfl) | (rw [if_neg (by decide +kernel)]; exact ⟨rfl, rfl⟩))
    (fun os started H enc _ => blocksNil_lifted os started H enc)
#print axioms blocksNil
end Go.Proofs.Ytdgofhhpgmpgjaa
