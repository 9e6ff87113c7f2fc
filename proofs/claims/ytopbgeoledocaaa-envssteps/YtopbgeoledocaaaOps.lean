/- envs.Lost, Version, Close, Open, Change: contracts; no statement is proved in this text. -/
import Derived.Test.YtopbgeoledocaaaTab
namespace Go.Proofs.Ytopbgeoledocaaa
open Go.ChangeShapes Go.WideShapes Go.ChangeAt Go.RowKit Go.Deep
attribute [local go_sem ↓] Go.wp_at_zero Go.wp_at_succ

theorem upE_okx {E : Nat → Option En} {n : Int} {y : Option En} (h : ∀ i e, E i = some e → 0 ≤ e.ws ∧ e.ws ≤ 4) (he : ∀ e, y = some e → 0 ≤ e.ws ∧ e.ws ≤ 4) : ∀ i x, upE E n y i = some x → 0 ≤ x.ws ∧ x.ws ≤ 4 := by
  intro i x hx
  unfold upE at hx
  split at hx
  · exact he x hx
  · exact h i x hx
theorem tb_set0 {w : World} {base T : Nat} {E : Nat → Option En} (h : Tb w base T E) (x : Option En) (p : Value) (hp : enP w base p x) (hok : ∀ e, x = some e → 0 ≤ e.ws ∧ e.ws ≤ 4) (hd : ∀ k, p = pq k → ∀ i, i < 3 → w.cell? ⟨T, i, none⟩ ≠ some (pq k)) : Tb (w.setCell ⟨T, 0, none⟩ p) base T (upE E 1 x) := by
  obtain ⟨p0, p1, p2, hT, h0, h1, h2, d01, d02, d12⟩ := h.blk
  have hs : (w.setCell ⟨T, 0, none⟩ p).heap[T]? = some (.cells #[p, p1, p2] 57) := heap_setCell_same w T 0 _ 57 p hT
  refine ⟨h.lo, upE_okx h.ok hok, p, p1, p2, hs, ?_, ?_, ?_, fun k hk hq => hd k hk 1 (by omega) (by rw [blk_cell hT 1]; exact congrArg some hq), fun k hk hq => hd k hk 2 (by omega) (by rw [blk_cell hT 2]; exact congrArg some hq), d12⟩
  · exact hp.keep (fun k hk => by subst hk; obtain ⟨_, _, _, q⟩ := hp.lt; exact Below.heap_setCell _ _ _ _ (fun e2 => by rw [show k = T from e2, hT] at q; cases q))
  · exact h1.keep (fun k hk => by subst hk; obtain ⟨_, _, _, q⟩ := h1.lt; exact Below.heap_setCell _ _ _ _ (fun e2 => by rw [show k = T from e2, hT] at q; cases q))
  · exact h2.keep (fun k hk => by subst hk; obtain ⟨_, _, _, q⟩ := h2.lt; exact Below.heap_setCell _ _ _ _ (fun e2 => by rw [show k = T from e2, hT] at q; cases q))
theorem tb_set1 {w : World} {base T : Nat} {E : Nat → Option En} (h : Tb w base T E) (x : Option En) (p : Value) (hp : enP w base p x) (hok : ∀ e, x = some e → 0 ≤ e.ws ∧ e.ws ≤ 4) (hd : ∀ k, p = pq k → ∀ i, i < 3 → w.cell? ⟨T, i, none⟩ ≠ some (pq k)) : Tb (w.setCell ⟨T, 1, none⟩ p) base T (upE E 2 x) := by
  obtain ⟨p0, p1, p2, hT, h0, h1, h2, d01, d02, d12⟩ := h.blk
  have hs : (w.setCell ⟨T, 1, none⟩ p).heap[T]? = some (.cells #[p0, p, p2] 57) := heap_setCell_same w T 1 _ 57 p hT
  refine ⟨h.lo, upE_okx h.ok hok, p0, p, p2, hs, ?_, ?_, ?_, fun k hk hq => hd k hq 0 (by omega) (by rw [blk_cell hT 0]; exact congrArg some hk), d02, fun k hk hq => hd k hk 2 (by omega) (by rw [blk_cell hT 2]; exact congrArg some hq)⟩
  · exact h0.keep (fun k hk => by subst hk; obtain ⟨_, _, _, q⟩ := h0.lt; exact Below.heap_setCell _ _ _ _ (fun e2 => by rw [show k = T from e2, hT] at q; cases q))
  · exact hp.keep (fun k hk => by subst hk; obtain ⟨_, _, _, q⟩ := hp.lt; exact Below.heap_setCell _ _ _ _ (fun e2 => by rw [show k = T from e2, hT] at q; cases q))
  · exact h2.keep (fun k hk => by subst hk; obtain ⟨_, _, _, q⟩ := h2.lt; exact Below.heap_setCell _ _ _ _ (fun e2 => by rw [show k = T from e2, hT] at q; cases q))
theorem tb_set2 {w : World} {base T : Nat} {E : Nat → Option En} (h : Tb w base T E) (x : Option En) (p : Value) (hp : enP w base p x) (hok : ∀ e, x = some e → 0 ≤ e.ws ∧ e.ws ≤ 4) (hd : ∀ k, p = pq k → ∀ i, i < 3 → w.cell? ⟨T, i, none⟩ ≠ some (pq k)) : Tb (w.setCell ⟨T, 2, none⟩ p) base T (upE E 3 x) := by
  obtain ⟨p0, p1, p2, hT, h0, h1, h2, d01, d02, d12⟩ := h.blk
  have hs : (w.setCell ⟨T, 2, none⟩ p).heap[T]? = some (.cells #[p0, p1, p] 57) := heap_setCell_same w T 2 _ 57 p hT
  refine ⟨h.lo, upE_okx h.ok hok, p0, p1, p, hs, ?_, ?_, ?_, d01, fun k hk hq => hd k hq 0 (by omega) (by rw [blk_cell hT 0]; exact congrArg some hk), fun k hk hq => hd k hq 1 (by omega) (by rw [blk_cell hT 1]; exact congrArg some hk)⟩
  · exact h0.keep (fun k hk => by subst hk; obtain ⟨_, _, _, q⟩ := h0.lt; exact Below.heap_setCell _ _ _ _ (fun e2 => by rw [show k = T from e2, hT] at q; cases q))
  · exact h1.keep (fun k hk => by subst hk; obtain ⟨_, _, _, q⟩ := h1.lt; exact Below.heap_setCell _ _ _ _ (fun e2 => by rw [show k = T from e2, hT] at q; cases q))
  · exact hp.keep (fun k hk => by subst hk; obtain ⟨_, _, _, q⟩ := hp.lt; exact Below.heap_setCell _ _ _ _ (fun e2 => by rw [show k = T from e2, hT] at q; cases q))
theorem lost_ok {w : World} {base T : Nat} {E : Nat → Option En} (h : Tb w base T E) (n : Int) : Calls Try.prog 11 #[pq T, i64 n] w fun e w' => e = .returned (i64 (((stE E n).map En.lost).getD 0)) ∧ w' = w := by
  obtain ⟨p, ha, HO⟩ := of_ok h n
  have HO := hid HO
  cases hx : stE E n with
  | none =>
    rw [hx] at ha
    obtain rfl : p = .pointer none := ha
    clear h hx
    go_enter Try.func11, Try.ntmps11
    go_wp2_with fail
    refine HO.out.mono ?_
    rintro e v1 ⟨rfl, hv⟩
    replace hv := hv.symm
    subst hv
    go_wp2_with fail
    go_ret
    exact ⟨rfl, rfl⟩
  | some en =>
    rw [hx] at ha
    obtain ⟨b, rfl, _, hb, _⟩ := ha
    have c : w.cell? ⟨b, 10, none⟩ = some (i64 en.lost) := blk_cell hb 10
    show Calls Try.prog 11 #[pq T, i64 n] w fun e w' => e = .returned (i64 en.lost) ∧ w' = w
    clear h hx hb
    go_enter Try.func11, Try.ntmps11
    go_wp2_with fail
    refine HO.out.mono ?_
    rintro e v1 ⟨rfl, hv⟩
    replace hv := hv.symm
    subst hv
    go_wp2_with fail
    go_ret
    exact ⟨rfl, rfl⟩
theorem lost_nil (w : World) (n : Int) : Calls Try.prog 11 #[.pointer none, i64 n] w fun e w' => e = .returned (i64 0) ∧ w' = w := by
  have HO := hid (of_nil w n)
  go_enter Try.func11, Try.ntmps11
  go_wp2_with fail
  refine HO.out.mono ?_
  rintro e v1 ⟨rfl, hv⟩
  replace hv := hv.symm
  subst hv
  go_wp2_with fail
  go_ret
  exact ⟨rfl, rfl⟩
def vrV (x : Option En) : Value := match x with | none => .tuple #[i64 0, i64 6] | some e => .tuple #[i64 e.ver, i64 0]
theorem ver_ok {w : World} {base T : Nat} {E : Nat → Option En} (h : Tb w base T E) (n : Int) : Calls Try.prog 13 #[pq T, i64 n] w fun e w' => e = .returned (vrV (stE E n)) ∧ w' = w := by
  obtain ⟨p, ha, HO⟩ := of_ok h n
  have HO := hid HO
  cases hx : stE E n with
  | none =>
    rw [hx] at ha
    obtain rfl : p = .pointer none := ha
    show Calls Try.prog 13 #[pq T, i64 n] w fun e w' => e = .returned (.tuple #[i64 0, i64 6]) ∧ w' = w
    clear h hx
    go_enter Try.func13, Try.ntmps13
    go_wp2_with fail
    refine HO.out.mono ?_
    rintro e v1 ⟨rfl, hv⟩
    replace hv := hv.symm
    subst hv
    go_wp2_with fail
    go_ret2
    exact ⟨rfl, rfl⟩
  | some en =>
    rw [hx] at ha
    obtain ⟨b, rfl, _, hb, _⟩ := ha
    have c : w.cell? ⟨b, 0, none⟩ = some (i64 en.ver) := blk_cell hb 0
    show Calls Try.prog 13 #[pq T, i64 n] w fun e w' => e = .returned (.tuple #[i64 en.ver, i64 0]) ∧ w' = w
    clear h hx hb
    go_enter Try.func13, Try.ntmps13
    go_wp2_with fail
    refine HO.out.mono ?_
    rintro e v1 ⟨rfl, hv⟩
    replace hv := hv.symm
    subst hv
    go_wp2_with fail
    go_ret2
    exact ⟨rfl, rfl⟩
theorem ver_nil (w : World) (n : Int) : Calls Try.prog 13 #[.pointer none, i64 n] w fun e w' => e = .returned (.tuple #[i64 0, i64 6]) ∧ w' = w := by
  have HO := hid (of_nil w n)
  go_enter Try.func13, Try.ntmps13
  go_wp2_with fail
  refine HO.out.mono ?_
  rintro e v1 ⟨rfl, hv⟩
  replace hv := hv.symm
  subst hv
  go_wp2_with fail
  go_ret2
  exact ⟨rfl, rfl⟩
theorem close_none (w : World) (v0 : Value) (n : Int) (HO : Calls Try.prog 27 #[v0, i64 n] w fun e w' => e = .returned (.pointer none) ∧ w' = w) : Calls Try.prog 20 #[v0, i64 n] w fun e w' => e = .returned (i64 6) ∧ w' = w := by
  have HO := hid HO
  go_enter Try.func20, Try.ntmps20
  go_wp2_with fail
  refine HO.out.mono ?_
  rintro e v1 ⟨rfl, hv⟩
  replace hv := hv.symm
  subst hv
  go_wp2_with fail
  go_ret
  exact ⟨rfl, rfl⟩
theorem close_at0 (w : World) (T b : Nat) (p : Value) (hc : w.cell? ⟨T, 0, none⟩ = some p) (hf : w.frozen? ⟨T, 0, none⟩ = false) (HO : Calls Try.prog 27 #[pq T, i64 1] w fun e w' => e = .returned (pq b) ∧ w' = w) : Calls Try.prog 20 #[pq T, i64 1] w fun e w' => e = .returned (i64 0) ∧ w' = w.setCell ⟨T, 0, none⟩ (.pointer none) := by
  have HO := hid HO
  go_enter Try.func20, Try.ntmps20
  go_wp2_with fail
  refine HO.out.mono ?_
  rintro e v1 ⟨rfl, hv⟩
  replace hv := hv.symm
  subst hv
  go_wp2_with fail
  go_ret
  exact ⟨rfl, rfl⟩
theorem close_at1 (w : World) (T b : Nat) (p : Value) (hc : w.cell? ⟨T, 1, none⟩ = some p) (hf : w.frozen? ⟨T, 1, none⟩ = false) (HO : Calls Try.prog 27 #[pq T, i64 2] w fun e w' => e = .returned (pq b) ∧ w' = w) : Calls Try.prog 20 #[pq T, i64 2] w fun e w' => e = .returned (i64 0) ∧ w' = w.setCell ⟨T, 1, none⟩ (.pointer none) := by
  have HO := hid HO
  go_enter Try.func20, Try.ntmps20
  go_wp2_with fail
  refine HO.out.mono ?_
  rintro e v1 ⟨rfl, hv⟩
  replace hv := hv.symm
  subst hv
  go_wp2_with fail
  go_ret
  exact ⟨rfl, rfl⟩
theorem close_at2 (w : World) (T b : Nat) (p : Value) (hc : w.cell? ⟨T, 2, none⟩ = some p) (hf : w.frozen? ⟨T, 2, none⟩ = false) (HO : Calls Try.prog 27 #[pq T, i64 3] w fun e w' => e = .returned (pq b) ∧ w' = w) : Calls Try.prog 20 #[pq T, i64 3] w fun e w' => e = .returned (i64 0) ∧ w' = w.setCell ⟨T, 2, none⟩ (.pointer none) := by
  have HO := hid HO
  go_enter Try.func20, Try.ntmps20
  go_wp2_with fail
  refine HO.out.mono ?_
  rintro e v1 ⟨rfl, hv⟩
  replace hv := hv.symm
  subst hv
  go_wp2_with fail
  go_ret
  exact ⟨rfl, rfl⟩
theorem Tb.frz {w : World} {base T : Nat} {E : Nat → Option En} (h : Tb w base T E) (j : Nat) : w.frozen? ⟨T, j, none⟩ = false := by
  obtain ⟨p0, p1, p2, hT, _⟩ := h.blk
  exact blk_frozen hT j
theorem fr_tab {w : World} {base T : Nat} {E : Nat → Option En} (h : Tb w base T E) (j : Nat) (p : Value) : Fr base [57, 66] w (w.setCell ⟨T, j, none⟩ p) := by
  obtain ⟨p0, p1, p2, hT, _⟩ := h.blk
  exact Fr.of_touch ((Touch.refl T w).setCell rfl p) hT (by rfl) h.lo
def clN (x : Option En) : Int := match x with | none => 6 | some _ => 0
def clE (E : Nat → Option En) (n : Int) : Nat → Option En := match stE E n with | none => E | some _ => upE E n none
theorem close_ok {w : World} {base T : Nat} {E : Nat → Option En} (h : Tb w base T E) (n : Int) : Calls Try.prog 20 #[pq T, i64 n] w fun e w' => e = .returned (i64 (clN (stE E n))) ∧ Tb w' base T (clE E n) ∧ Fr base [57, 66] w w' := by
  obtain ⟨p, ha, HO⟩ := of_ok h n
  unfold clE
  cases hx : stE E n with
  | none =>
    rw [hx] at ha
    obtain rfl : p = .pointer none := ha
    exact (close_none w _ n HO).mono fun _ _ ⟨h1, h2⟩ => by subst h2; exact ⟨h1, h, Fr.refl _ _ _⟩
  | some en =>
    rw [hx] at ha
    obtain ⟨b, rfl, _, hb, _⟩ := ha
    have hn : envB n = true := by
      cases hn : envB n with
      | true => rfl
      | false => rw [stE_out hn] at hx; cases hx
    rcases envB_true hn with rfl | rfl | rfl
    · obtain ⟨q, hq, _⟩ := at_of0 h
      exact (close_at0 w T b q hq (h.frz 0) HO).mono fun _ _ ⟨h1, h2⟩ => by subst h2; exact ⟨h1, tb_set0 h none _ rfl (fun _ h => by cases h) (fun _ h => by cases h), fr_tab h 0 _⟩
    · obtain ⟨q, hq, _⟩ := at_of1 h
      exact (close_at1 w T b q hq (h.frz 1) HO).mono fun _ _ ⟨h1, h2⟩ => by subst h2; exact ⟨h1, tb_set1 h none _ rfl (fun _ h => by cases h) (fun _ h => by cases h), fr_tab h 1 _⟩
    · obtain ⟨q, hq, _⟩ := at_of2 h
      exact (close_at2 w T b q hq (h.frz 2) HO).mono fun _ _ ⟨h1, h2⟩ => by subst h2; exact ⟨h1, tb_set2 h none _ rfl (fun _ h => by cases h) (fun _ h => by cases h), fr_tab h 2 _⟩
def opB (n v : Int) : Bool := envB n && verB v
theorem open_arg (w : World) (v0 : Value) (n v : Int) (hB : opB n v = false) : Calls Try.prog 17 #[v0, i64 n, i64 v] w fun e w' => e = .returned (i64 1) ∧ w' = w := by
  have HA := isEnv_ok w n
  have HV := isVer_ok w v
  cases hA : envB n with
  | false =>
    rw [hA] at HA
    have HA := hid HA
    have HV := hid HV
    clear hA hB
    go_enter Try.func17, Try.ntmps17
    go_wp2_with fail
    refine HA.out.mono ?_
    rintro e v1 ⟨rfl, hv⟩
    replace hv := hv.symm
    subst hv
    go_wp2_with fail
    go_ret
    exact ⟨rfl, rfl⟩
  | true =>
    have hV : verB v = false := by unfold opB at hB; rw [hA] at hB; exact hB
    rw [hA] at HA
    rw [hV] at HV
    have HA := hid HA
    have HV := hid HV
    clear hA hB hV
    go_enter Try.func17, Try.ntmps17
    go_wp2_with fail
    refine HA.out.mono ?_
    rintro e v1 ⟨rfl, hv⟩
    replace hv := hv.symm
    subst hv
    go_wp2_with fail
    refine HV.out.mono ?_
    rintro e v1 ⟨rfl, hv⟩
    replace hv := hv.symm
    subst hv
    go_wp2_with fail
    go_ret
    exact ⟨rfl, rfl⟩
theorem opB_1 {n v : Int} (h : opB n v = true) : envB n = true ∧ verB v = true := by
  unfold opB at h
  simpa using h
theorem open_nil (w : World) (n v : Int) (hB : opB n v = true) : Calls Try.prog 17 #[.pointer none, i64 n, i64 v] w fun e w' => e = .returned (i64 7) ∧ w' = w := by
  have HA := isEnv_ok w n
  have HV := isVer_ok w v
  rw [(opB_1 hB).1] at HA
  rw [(opB_1 hB).2] at HV
  have HA := hid HA
  have HV := hid HV
  clear hB
  go_enter Try.func17, Try.ntmps17
  go_wp2_with fail
  refine HA.out.mono ?_
  rintro e v1 ⟨rfl, hv⟩
  replace hv := hv.symm
  subst hv
  go_wp2_with fail
  refine HV.out.mono ?_
  rintro e v1 ⟨rfl, hv⟩
  replace hv := hv.symm
  subst hv
  go_wp2_with fail
  go_ret
  exact ⟨rfl, rfl⟩
theorem open_same (w : World) (T b : Nat) (n v : Int) (hB : opB n v = true) (HO : Calls Try.prog 27 #[pq T, i64 n] w fun e w' => e = .returned (pq b) ∧ w' = w) : Calls Try.prog 17 #[pq T, i64 n, i64 v] w fun e w' => e = .returned (i64 8) ∧ w' = w := by
  have HA := isEnv_ok w n
  have HV := isVer_ok w v
  rw [(opB_1 hB).1] at HA
  rw [(opB_1 hB).2] at HV
  have HA := hid HA
  have HV := hid HV
  have HO := hid HO
  clear hB
  go_enter Try.func17, Try.ntmps17
  go_wp2_with fail
  refine HA.out.mono ?_
  rintro e v1 ⟨rfl, hv⟩
  replace hv := hv.symm
  subst hv
  go_wp2_with fail
  refine HV.out.mono ?_
  rintro e v1 ⟨rfl, hv⟩
  replace hv := hv.symm
  subst hv
  go_wp2_with fail
  refine HO.out.mono ?_
  rintro e v1 ⟨rfl, hv⟩
  replace hv := hv.symm
  subst hv
  go_wp2_with fail
  go_ret
  exact ⟨rfl, rfl⟩
abbrev nwE (v : Int) : En := ⟨v, 0, 0, 0, 0, 0, 0, 0, 0, 0, 0⟩
abbrev nwO (v : Int) : Obj := .cells #[i64 v, i64 0, i64 0, i64 0, i64 0, i64 0, i64 0, i64 0, i64 0, i64 0, i64 0] 66
set_option maxRecDepth 100000 in
set_option maxHeartbeats 1600000 in
theorem open_at0 (w : World) (T : Nat) (p : Value) (v : Int) (hB : opB 1 v = true) (hc : w.cell? ⟨T, 0, none⟩ = some p) (hf : w.frozen? ⟨T, 0, none⟩ = false) (HO : Calls Try.prog 27 #[pq T, i64 1] w fun e w' => e = .returned (.pointer none) ∧ w' = w) : Calls Try.prog 17 #[pq T, i64 1, i64 v] w fun e w' => e = .returned (i64 0) ∧ w' = (w.alloc (nwO v)).setCell ⟨T, 0, none⟩ (pq w.heap.size) := by
  have HA := isEnv_ok w 1
  have HV := isVer_ok w v
  rw [(opB_1 hB).1] at HA
  rw [(opB_1 hB).2] at HV
  have HA := hid HA
  have HV := hid HV
  have HO := hid HO
  have hlt : T < w.heap.size := World.block_lt_of_cell? w _ hc
  clear hB
  go_enter Try.func17, Try.ntmps17
  go_wp2_with fail
  refine HA.out.mono ?_
  rintro e v1 ⟨rfl, hv⟩
  replace hv := hv.symm
  subst hv
  go_wp2_with fail
  refine HV.out.mono ?_
  rintro e v1 ⟨rfl, hv⟩
  replace hv := hv.symm
  subst hv
  go_wp2_with fail
  refine HO.out.mono ?_
  rintro e v1 ⟨rfl, hv⟩
  replace hv := hv.symm
  subst hv
  go_wp2_with fail
  go_ret
  exact ⟨rfl, (World.setCell_alloc_past _ _ _ _ hlt).symm⟩
set_option maxRecDepth 100000 in
set_option maxHeartbeats 1600000 in
theorem open_at1 (w : World) (T : Nat) (p : Value) (v : Int) (hB : opB 2 v = true) (hc : w.cell? ⟨T, 1, none⟩ = some p) (hf : w.frozen? ⟨T, 1, none⟩ = false) (HO : Calls Try.prog 27 #[pq T, i64 2] w fun e w' => e = .returned (.pointer none) ∧ w' = w) : Calls Try.prog 17 #[pq T, i64 2, i64 v] w fun e w' => e = .returned (i64 0) ∧ w' = (w.alloc (nwO v)).setCell ⟨T, 1, none⟩ (pq w.heap.size) := by
  have HA := isEnv_ok w 2
  have HV := isVer_ok w v
  rw [(opB_1 hB).1] at HA
  rw [(opB_1 hB).2] at HV
  have HA := hid HA
  have HV := hid HV
  have HO := hid HO
  have hlt : T < w.heap.size := World.block_lt_of_cell? w _ hc
  clear hB
  go_enter Try.func17, Try.ntmps17
  go_wp2_with fail
  refine HA.out.mono ?_
  rintro e v1 ⟨rfl, hv⟩
  replace hv := hv.symm
  subst hv
  go_wp2_with fail
  refine HV.out.mono ?_
  rintro e v1 ⟨rfl, hv⟩
  replace hv := hv.symm
  subst hv
  go_wp2_with fail
  refine HO.out.mono ?_
  rintro e v1 ⟨rfl, hv⟩
  replace hv := hv.symm
  subst hv
  go_wp2_with fail
  go_ret
  exact ⟨rfl, (World.setCell_alloc_past _ _ _ _ hlt).symm⟩
set_option maxRecDepth 100000 in
set_option maxHeartbeats 1600000 in
theorem open_at2 (w : World) (T : Nat) (p : Value) (v : Int) (hB : opB 3 v = true) (hc : w.cell? ⟨T, 2, none⟩ = some p) (hf : w.frozen? ⟨T, 2, none⟩ = false) (HO : Calls Try.prog 27 #[pq T, i64 3] w fun e w' => e = .returned (.pointer none) ∧ w' = w) : Calls Try.prog 17 #[pq T, i64 3, i64 v] w fun e w' => e = .returned (i64 0) ∧ w' = (w.alloc (nwO v)).setCell ⟨T, 2, none⟩ (pq w.heap.size) := by
  have HA := isEnv_ok w 3
  have HV := isVer_ok w v
  rw [(opB_1 hB).1] at HA
  rw [(opB_1 hB).2] at HV
  have HA := hid HA
  have HV := hid HV
  have HO := hid HO
  have hlt : T < w.heap.size := World.block_lt_of_cell? w _ hc
  clear hB
  go_enter Try.func17, Try.ntmps17
  go_wp2_with fail
  refine HA.out.mono ?_
  rintro e v1 ⟨rfl, hv⟩
  replace hv := hv.symm
  subst hv
  go_wp2_with fail
  refine HV.out.mono ?_
  rintro e v1 ⟨rfl, hv⟩
  replace hv := hv.symm
  subst hv
  go_wp2_with fail
  refine HO.out.mono ?_
  rintro e v1 ⟨rfl, hv⟩
  replace hv := hv.symm
  subst hv
  go_wp2_with fail
  go_ret
  exact ⟨rfl, (World.setCell_alloc_past _ _ _ _ hlt).symm⟩
def opN (n v : Int) (x : Option En) : Int := if opB n v = false then 1 else match x with | none => 0 | some _ => 8
def opE (E : Nat → Option En) (n v : Int) : Nat → Option En := if opB n v = false then E else match stE E n with | none => upE E n (some (nwE v)) | some _ => E
theorem Tb.fresh {w : World} {base T : Nat} {E : Nat → Option En} (h : Tb w base T E) (o : Obj) : ∀ k, pq w.heap.size = pq k → ∀ i, i < 3 → (w.alloc o).cell? ⟨T, i, none⟩ ≠ some (pq k) := by
  intro k hk i hi hc
  obtain ⟨p0, p1, p2, hT, h0, h1, h2, _⟩ := h.blk
  have hk' : k = w.heap.size := by simpa [pq] using hk.symm
  subst hk'
  rw [blk_cell (blk_alloc hT o) i] at hc
  have bad : ∀ x, enP w base (pq w.heap.size) x → False := fun x hx => by obtain ⟨_, _, _, q⟩ := hx.lt; have := blk_lt q; omega
  rcases (show i = 0 ∨ i = 1 ∨ i = 2 by omega) with rfl | rfl | rfl
  · have : p0 = pq w.heap.size := by simpa using hc
    rw [this] at h0; exact bad _ h0
  · have : p1 = pq w.heap.size := by simpa using hc
    rw [this] at h1; exact bad _ h1
  · have : p2 = pq w.heap.size := by simpa using hc
    rw [this] at h2; exact bad _ h2
theorem open_ok {w : World} {base T : Nat} {E : Nat → Option En} (h : Tb w base T E) (n v : Int) : Calls Try.prog 17 #[pq T, i64 n, i64 v] w fun e w' => e = .returned (i64 (opN n v (stE E n))) ∧ Tb w' base T (opE E n v) ∧ Fr base [57, 66] w w' := by
  unfold opN opE
  cases hB : opB n v with
  | false => exact (open_arg w _ n v hB).mono fun _ _ ⟨h1, h2⟩ => by subst h2; exact ⟨h1, h, Fr.refl _ _ _⟩
  | true =>
    obtain ⟨p, ha, HO⟩ := of_ok h n
    cases hx : stE E n with
    | some en =>
      rw [hx] at ha
      obtain ⟨b, rfl, _, hb, _⟩ := ha
      exact (open_same w T b n v hB HO).mono fun _ _ ⟨h1, h2⟩ => by subst h2; exact ⟨h1, h, Fr.refl _ _ _⟩
    | none =>
      rw [hx] at ha
      obtain rfl : p = .pointer none := ha
      have hlo : base ≤ w.heap.size := by have := h.lo; have := h.lt; omega
      have hA := h.below (below_one w (nwO v))
      have hE : enP (w.alloc (nwO v)) base (pq w.heap.size) (some (nwE v)) := ⟨_, rfl, hlo, heap_last w _⟩
      have hfr : ∀ j, Fr base [57, 66] w ((w.alloc (nwO v)).setCell ⟨T, j, none⟩ (pq w.heap.size)) := fun j => (Fr.of_below _ (below_one w _) hlo).trans (fr_tab hA j _)
      have hok : ∀ e, some (nwE v) = some e → 0 ≤ e.ws ∧ e.ws ≤ 4 := fun e he => by cases he; exact ⟨Int.le_refl 0, by show (0 : Int) ≤ 4; omega⟩
      rcases envB_true (opB_1 hB).1 with rfl | rfl | rfl
      · obtain ⟨q, hq, _⟩ := at_of0 h
        exact (open_at0 w T q v hB hq (h.frz 0) HO).mono fun _ _ ⟨h1, h2⟩ => by subst h2; exact ⟨h1, tb_set0 hA _ _ hE hok (h.fresh _), hfr 0⟩
      · obtain ⟨q, hq, _⟩ := at_of1 h
        exact (open_at1 w T q v hB hq (h.frz 1) HO).mono fun _ _ ⟨h1, h2⟩ => by subst h2; exact ⟨h1, tb_set1 hA _ _ hE hok (h.fresh _), hfr 1⟩
      · obtain ⟨q, hq, _⟩ := at_of2 h
        exact (open_at2 w T q v hB hq (h.frz 2) HO).mono fun _ _ ⟨h1, h2⟩ => by subst h2; exact ⟨h1, tb_set2 hA _ _ hE hok (h.fresh _), hfr 2⟩
theorem change_none (w : World) (v0 : Value) (n v : Int) (HO : Calls Try.prog 27 #[v0, i64 n] w fun e w' => e = .returned (.pointer none) ∧ w' = w) : Calls Try.prog 21 #[v0, i64 n, i64 v] w fun e w' => e = .returned (i64 6) ∧ w' = w := by
  have HO := hid HO
  go_enter Try.func21, Try.ntmps21
  go_wp2_with fail
  refine HO.out.mono ?_
  rintro e v1 ⟨rfl, hv⟩
  replace hv := hv.symm
  subst hv
  go_wp2_with fail
  go_ret
  exact ⟨rfl, rfl⟩
theorem change_arg (w : World) (T b : Nat) (n v : Int) (hv : verB v = false) (HO : Calls Try.prog 27 #[pq T, i64 n] w fun e w' => e = .returned (pq b) ∧ w' = w) : Calls Try.prog 21 #[pq T, i64 n, i64 v] w fun e w' => e = .returned (i64 1) ∧ w' = w := by
  have HO := hid HO
  have HV := isVer_ok w v
  rw [hv] at HV
  have HV := hid HV
  clear hv
  go_enter Try.func21, Try.ntmps21
  go_wp2_with fail
  refine HO.out.mono ?_
  rintro e v1 ⟨rfl, hv⟩
  replace hv := hv.symm
  subst hv
  go_wp2_with fail
  refine HV.out.mono ?_
  rintro e v1 ⟨rfl, hv⟩
  replace hv := hv.symm
  subst hv
  go_wp2_with fail
  go_ret
  exact ⟨rfl, rfl⟩
theorem change_at (w : World) (T b : Nat) (n v : Int) (u : Value) (hc : w.cell? ⟨b, 0, none⟩ = some u) (hf : w.frozen? ⟨b, 0, none⟩ = false) (hv : verB v = true) (HO : Calls Try.prog 27 #[pq T, i64 n] w fun e w' => e = .returned (pq b) ∧ w' = w) : Calls Try.prog 21 #[pq T, i64 n, i64 v] w fun e w' => e = .returned (i64 0) ∧ w' = w.setCell ⟨b, 0, none⟩ (i64 v) := by
  have HO := hid HO
  have HV := isVer_ok w v
  rw [hv] at HV
  have HV := hid HV
  clear hv
  go_enter Try.func21, Try.ntmps21
  go_wp2_with fail
  refine HO.out.mono ?_
  rintro e v1 ⟨rfl, hv⟩
  replace hv := hv.symm
  subst hv
  go_wp2_with fail
  refine HV.out.mono ?_
  rintro e v1 ⟨rfl, hv⟩
  replace hv := hv.symm
  subst hv
  go_wp2_with fail
  go_ret
  exact ⟨rfl, rfl⟩
def chN (v : Int) (x : Option En) : Int := match x with | none => 6 | some _ => if verB v = false then 1 else 0
def chE (E : Nat → Option En) (n v : Int) : Nat → Option En := match stE E n with | none => E | some e => if verB v = false then E else upE E n (some { e with ver := v })
theorem change_ok {w : World} {base T : Nat} {E : Nat → Option En} (h : Tb w base T E) (n v : Int) : Calls Try.prog 21 #[pq T, i64 n, i64 v] w fun e w' => e = .returned (i64 (chN v (stE E n))) ∧ Tb w' base T (chE E n v) ∧ Fr base [57, 66] w w' := by
  obtain ⟨p, ha, HO⟩ := of_ok h n
  unfold chN chE
  cases hx : stE E n with
  | none =>
    rw [hx] at ha
    obtain rfl : p = .pointer none := ha
    exact (change_none w _ n v HO).mono fun _ _ ⟨h1, h2⟩ => by subst h2; exact ⟨h1, h, Fr.refl _ _ _⟩
  | some en =>
    rw [hx] at ha
    obtain ⟨b, rfl, hlb, hb, hup⟩ := ha
    have hok : 0 ≤ en.ws ∧ en.ws ≤ 4 := by
      unfold stE at hx
      repeat (first | exact h.ok _ _ hx | (split at hx) | (cases hx; done))
    cases hv : verB v with
    | false => exact (change_arg w T b n v hv HO).mono fun _ _ ⟨h1, h2⟩ => by subst h2; exact ⟨h1, h, Fr.refl _ _ _⟩
    | true =>
      refine (change_at w T b n v _ (blk_cell hb 0) (blk_frozen hb 0) hv HO).mono fun _ _ ⟨h1, h2⟩ => ?_
      subst h2
      have ht : Touch b w (w.setCell ⟨b, 0, none⟩ (i64 v)) := (Touch.refl b w).setCell rfl _
      exact ⟨h1, hup _ { en with ver := v } hok ht (heap_setCell_same w b 0 _ 66 _ hb), Fr.of_touch ht hb (by rfl) hlb⟩
end Go.Proofs.Ytopbgeoledocaaa
