/- imagoref09.Table's Handles, DropEnv, imagolaw09's ref: contracts; no statement is proved in this text. -/
import Derived.Test.YtcffodkpflfeoaaRDerive
namespace Go.Proofs.Ytcffodkpflfeoaa
open Go.ChangeShapes Go.WideShapes Go.ChangeAt Go.RowKit Go.Deep
attribute [local go_sem ↓] Go.wp_at_zero Go.wp_at_succ

def rhA (L : List Rw) (env : Int) (s : Nat) : Option Hd := if atI L (s : Nat) < 0 then none else match L[(atI L (s : Nat)).toNat]? with
  | some p => if p.c.env = env then some (s, p.gn) else none
  | none => none
def rhL (L : List Rw) (env : Int) (k : Nat) : List Hd := (List.range k).filterMap (rhA L env)
theorem rhL_succ (L : List Rw) (env : Int) (k : Nat) : rhL L env (k + 1) = rhL L env k ++ (rhA L env k).toList := by
  unfold rhL
  rw [List.range_succ, List.filterMap_append]
  cases h : rhA L env k <;> simp [h]
theorem rhL_le (L : List Rw) (env : Int) (k : Nat) : (rhL L env k).length ≤ k := by
  unfold rhL
  exact Nat.le_trans (List.length_filterMap_le _ _) (by simp)
theorem under46 : Try.prog.underlying 46 = some (.slice 51) := by kernel_rfl
theorem info51x : (Try.prog.info? 51).map (fun i => (i.zero, i.size, i.bytes)) = some (some (.agg #[i64 0, i64 0]), 2, 16) := by kernel_rfl
theorem two_one (a b : Int) : ∀ u ∈ [i64 a, i64 b], u.oneCell' = true := by
  intro u hu
  simp only [List.mem_cons, List.not_mem_nil, or_false] at hu
  rcases hu with rfl | rfl <;> rfl
set_option maxRecDepth 100000 in
set_option maxHeartbeats 3200000 in
theorem rhandles_ok {w : World} {base r : Nat} {L : List Rw} (h : Rb w base r L) (hl : L.length ≤ 1000) (env : Int) :
    Calls Try.prog 15 #[pq r, i64 env] w fun e w' => (∃ v, e = .returned v ∧ w'.ownsRow w.heap.size 51 2 v (rhL L env 128).length (hcn (rhL L env 128))) ∧ Below w.heap.size w w' := by
  have HR := hid h
  have hrl := h.lt
  clear h
  go_enter Try.func15, Try.ntmps15
  go_wp2_with fail
  go_loopw [5, 6] (fun v u wr => ∃ (k : Nat), k ≤ 128 ∧ u = i64 k ∧ Below w.heap.size w wr ∧ Hid (wr.ownsRow w.heap.size 51 2 v (rhL L env k).length (hcn (rhL L env k)))) (fun _ u _ => 128 - (intOf u).toNat)
  case atStart => exact ⟨0, by omega, rfl, Below.refl _ _, World.ownsRow_nil w _ 51 2⟩
  case round =>
    obtain ⟨k, hk, rfl, hb, HO⟩ := hrel
    have HB := hid hb
    by_cases hlt : k < 128
    · have hkI : (k : Int) < 128 := by omega
      have hA := rat_ok (HR.out.below hb) hl (k : Nat)
      have HSu := hid (rhL_succ L env k)
      rcases atI_cases L (k : Nat) with ⟨h0, _⟩ | ⟨i, p, h1, h2, h3, h4⟩
      · rw [h0] at hA
        have HA := hid hA
        have hn : rhA L env k = none := by unfold rhA; rw [h0]; rfl
        have HE : Hid (rhL L env (k + 1) = rhL L env k) := by rw [HSu.out, hn]; exact hid (by simp)
        clear hA h0 hb hn
        go_wp2_with fail
        refine HA.out.mono ?_
        rintro e w2 ⟨rfl, hb2⟩
        have HB2 : Hid (Below w.heap.size w w2) := HB.out.trans (hb2.mono HB.out.size)
        have HO2 : Hid (w2.ownsRow w.heap.size 51 2 u5 (rhL L env (k + 1)).length (hcn (rhL L env (k + 1)))) := by rw [HE.out]; exact own_keep HO.out (fun q C hC => blk_below hC hb2)
        clear hb2
        go_wp2_with fail
        exact ⟨⟨k + 1, by omega, by go_num, HB2.out, HO2⟩, by simp [intOf]; omega⟩
      · rw [h1] at hA
        have HA := hid hA
        have hiL : i < L.length := (List.getElem?_eq_some_iff.1 h2).1
        obtain ⟨ao, cap, hbk, _, hcap, hrow⟩ := (HR.out.below hb).row
        obtain ⟨g, rfl, _, hgl, _, _, hc⟩ := hrow i p h2
        have hiI : (i : Int) < L.length := by omega
        have hcI : (L.length : Int) ≤ cap := by omega
        have hNI : (L.length : Int) ≤ 1000 := by omega
        have HC : Hid (∀ W, Below wr.heap.size wr W → W.cell? ⟨r, 0, none⟩ = some (.slice (some ⟨g, 0, none⟩) L.length cap) ∧ W.cell? ⟨g, i * 8, none⟩ = some (i64 p.c.env) ∧ W.cell? ⟨g, i * 8 + 5, none⟩ = some (i64 p.gn)) := fun W hW => ⟨blk_cell (blk_below hbk hW) 0, (hW.cell (p := ⟨g, _, none⟩) hgl).trans (hc 0 (by omega)), (hW.cell (p := ⟨g, _, none⟩) hgl).trans (hc 5 (by omega))⟩
        have hra : rhA L env k = if p.c.env = env then some (k, p.gn) else none := by unfold rhA; rw [h1, if_neg (by omega), Int.toNat_natCast, h2]
        clear hA h1 h2 h3 h4 hb hbk hrow hc
        by_cases he : p.c.env = env
        · have HE : Hid (rhL L env (k + 1) = rhL L env k ++ [(k, p.gn)]) := by rw [HSu.out, hra, if_pos he]; exact hid rfl
          have hbe : (p.c.env == env) = true := by simpa using he
          clear he hra
          go_wp2_with fail
          refine HA.out.mono ?_
          rintro e w2 ⟨rfl, hb2⟩
          have hB2 : Below w.heap.size w w2 := HB.out.trans (hb2.mono HB.out.size)
          obtain ⟨a0, a1, a5⟩ := HC.out w2 hb2
          have ho2 : w2.ownsRow w.heap.size 51 2 u5 (rhL L env k).length (hcn (rhL L env k)) := own_keep HO.out (fun q C hC => blk_below hC hb2)
          obtain ⟨ao2, cap2, w6, hrun, hown, hfr, _⟩ := app_one (te := 51) under46 info51x rfl (by omega) (by omega) ho2 [i64 (k : Nat), i64 p.gn] rfl (two_one _ _) (by have := rhL_le L env k; omega) hB2.size
          have HRUN := hid hrun
          have HO6 : Hid (w6.ownsRow w.heap.size 51 2 (.slice ao2 ((rhL L env k).length + 1) cap2) (rhL L env (k + 1)).length (hcn (rhL L env (k + 1)))) := by rw [HE.out, List.length_append, hcn_app]; exact hown
          have HB6 : Hid (Below w.heap.size w w6) := hB2.trans hfr.below
          obtain ⟨ao3, cap3, rfl, _⟩ := own_slice ho2
          clear hb2 hB2 ho2 hrun hown hfr
          generalize (rhL L env k).length = n at *
          go_wp2_with (at_builtin; refine wpList_app_run rfl (.tmp 29) (.tmp 40) 46 rfl _ _ rfl rfl 46 rfl _ _ HRUN.out ?_)
          exact ⟨⟨k + 1, by omega, by go_num, HB6.out, HO6⟩, by simp [intOf]; omega⟩
        · have HE : Hid (rhL L env (k + 1) = rhL L env k) := by rw [HSu.out, hra, if_neg he]; exact hid (by simp)
          have hbe : (p.c.env == env) = false := by simpa using he
          clear he hra
          go_wp2_with fail
          refine HA.out.mono ?_
          rintro e w2 ⟨rfl, hb2⟩
          have HB2 : Hid (Below w.heap.size w w2) := HB.out.trans (hb2.mono HB.out.size)
          obtain ⟨a0, a1, a5⟩ := HC.out w2 hb2
          have HO2 : Hid (w2.ownsRow w.heap.size 51 2 u5 (rhL L env (k + 1)).length (hcn (rhL L env (k + 1)))) := by rw [HE.out]; exact own_keep HO.out (fun q C hC => blk_below hC hb2)
          clear hb2
          go_wp2_with fail
          exact ⟨⟨k + 1, by omega, by go_num, HB2.out, HO2⟩, by simp [intOf]; omega⟩
    · obtain rfl : k = 128 := by omega
      go_wp2_with fail
      go_ret
      exact ⟨⟨_, rfl, HO.out⟩, HB.out⟩
theorem load51 {W : World} {b : Nat} {s g : Int} (h : W.heap[b]? = some (.cells #[i64 s, i64 g] 51 (0, 0))) : (loadVar 51 ⟨b, 0, none⟩).run Try.prog W = .ok (.agg #[i64 s, i64 g]) W := by
  refine run_loadVar_mid _ _ 0 51 [i64 s, i64 g] _ (fun j v hv => ?_) Try.underlying51 rfl (by kernel_rfl)
  rw [Nat.zero_add, cell_of_row _ _ _ _ 51 (0, 0) h]
  simpa using hv
set_option maxRecDepth 100000 in
set_option maxHeartbeats 3200000 in
theorem ref_ok (w : World) (sl gn : Int) : Calls Try.prog 18 #[.agg #[i64 sl, i64 gn]] w fun e w' => e = .returned (.agg #[i64 sl, i64 gn]) ∧ Below w.heap.size w w' := by
  have HL : Hid (((w.alloc (.cells #[i64 sl, i64 gn] 42)).alloc (.cells #[i64 sl, i64 gn] 51)).heap[w.heap.size + 1]? = some (.cells #[i64 sl, i64 gn] 51)) := by
    have := heap_last (w.alloc (.cells #[i64 sl, i64 gn] 42)) (.cells #[i64 sl, i64 gn] 51)
    rwa [show (w.alloc (.cells #[i64 sl, i64 gn] 42)).heap.size = w.heap.size + 1 by simp] at this
  go_enter Try.func18, Try.ntmps18
  go_wp2_with fail
  exact bodyPost_ret (results_one Try.results18 rfl (load51 HL.out)) rfl ⟨rfl, (below_one w _).trans ((below_one _ _).mono (by simp))⟩
/-! ### Above and below -/
inductive Up (L : List Rw) : Nat → Nat → Prop
  | refl (j : Nat) : Up L j j
  | step {j k i : Nat} {q : Rw} : L[j]? = some q → q.fr = (k : Nat) → Up L k i → Up L j i
theorem Up.trans {L : List Rw} {a b c : Nat} (h : Up L a b) (k : Up L b c) : Up L a c := by
  induction h with
  | refl => exact k
  | step h1 h2 _ ih => exact .step h1 h2 (ih k)
theorem Up.le {L : List Rw} (hf : Fw L) {a b : Nat} (h : Up L a b) : b ≤ a := by
  induction h with
  | refl => omega
  | step h1 h2 _ ih =>
    rcases hf _ _ h1 with h | ⟨j, h3, h4⟩
    · omega
    · omega
theorem upF_iff {L : List Rw} (hf : Fw L) (top : Nat) : ∀ (j n : Nat), j < L.length → j + 2 ≤ n → (upF L (top : Nat) n (j : Nat) = true ↔ Up L j top) := by
  intro j
  induction j using Nat.strongRecOn with
  | _ j ih =>
    intro n hj hn
    obtain ⟨n', rfl⟩ : ∃ n', n = n' + 1 := ⟨n - 1, by omega⟩
    obtain ⟨q, hq⟩ : ∃ q, L[j]? = some q := ⟨_, List.getElem?_eq_getElem hj⟩
    by_cases ht : j = top
    · subst ht
      rw [upF_yes]
      exact ⟨fun _ => .refl j, fun _ => rfl⟩
    · rw [upF_no L (top : Nat) n' j q hq (by omega)]
      rcases hf j q hq with h | ⟨k, h1, h2⟩
      · rw [h]
        obtain ⟨m, rfl⟩ : ∃ m, n' = m + 1 := ⟨n' - 1, by omega⟩
        rw [upF_end]
        refine ⟨fun h' => (by cases h'), fun h' => ?_⟩
        cases h' with
        | refl => exact absurd rfl ht
        | step h3 h4 _ => rw [hq] at h3; cases h3; omega
      · rw [h1, ih k h2 n' (by omega) (by omega)]
        refine ⟨fun h' => .step hq h1 h', fun h' => ?_⟩
        cases h' with
        | refl => exact absurd rfl ht
        | step h3 h4 h5 =>
          rw [hq] at h3
          cases h3
          rw [h1] at h4
          have hkk := Int.ofNat_inj.1 h4
          rw [hkk]
          exact h5
theorem bl_iff {L : List Rw} (hf : Fw L) {j : Nat} {q : Rw} (hq : L[j]? = some q) (top : Nat) : blR L j (top : Nat) = true ↔ ∃ k : Nat, q.fr = k ∧ Up L k top := by
  have hj : j < L.length := (List.getElem?_eq_some_iff.1 hq).1
  unfold blR frR
  rw [hq]
  simp only
  rcases hf j q hq with h | ⟨k, h1, h2⟩
  · rw [h, upF_end]
    refine ⟨fun h' => (by cases h'), fun ⟨k, h1, _⟩ => by omega⟩
  · rw [h1, upF_iff hf top k (j + 2) (by omega) (by omega)]
    refine ⟨fun h' => ⟨k, rfl, h'⟩, fun ⟨k', h3, h4⟩ => ?_⟩
    obtain rfl : k = k' := by omega
    exact h4
theorem upb_iff {L : List Rw} (hf : Fw L) {j : Nat} {q : Rw} (hq : L[j]? = some q) (i : Nat) : (decide (j = i) || blR L j (i : Nat)) = true ↔ Up L j i := by
  rw [Bool.or_eq_true, decide_eq_true_iff, bl_iff hf hq]
  constructor
  · rintro (rfl | ⟨k, h1, h2⟩)
    · exact .refl _
    · exact .step hq h1 h2
  · intro h
    cases h with
    | refl => exact Or.inl rfl
    | step h3 h4 h5 =>
      rw [hq] at h3
      cases h3
      exact Or.inr ⟨_, h4, h5⟩
def enR (L : List Rw) (i : Nat) : Int := match L[i]? with
  | some p => p.c.env
  | none => 0
def upB (L : List Rw) (j i : Nat) : Bool := decide (j = i) || blR L j (i : Nat)
def deB (L : List Rw) (env : Int) (k j : Nat) : Bool := lvA L j && (List.range k).any fun i => lvA L i && (decide (enR L i = env) && upB L j i)
theorem deB_succ (L : List Rw) (env : Int) (k j : Nat) : deB L env (k + 1) j = (deB L env k j || (lvA L j && (lvA L k && (decide (enR L k = env) && upB L j k)))) := by
  unfold deB
  rw [List.range_succ, List.any_append]
  simp [Bool.and_or_distrib_left]
theorem lvA_offs (S : Nat → Bool) (L : List Rw) (j : Nat) : lvA (offs S L) j = (lvA L j && !S j) := by
  unfold lvA
  rw [offs_get]
  cases L[j]? with
  | none => rfl
  | some p => cases h : S j <;> simp [offR]
theorem enR_offs (S : Nat → Bool) (L : List Rw) (j : Nat) : enR (offs S L) j = enR L j := by
  unfold enR
  rw [offs_get]
  cases L[j]? with
  | none => rfl
  | some p => cases h : S j <;> simp [offR]
theorem cnt_or (S S' : Nat → Bool) : ∀ n, (∀ i, i < n → (S i && S' i) = false) → cnt n (fun i => S i || S' i) = cnt n S + cnt n S'
  | 0, _ => rfl
  | n + 1, h => by
    rw [cnt_succ, cnt_succ, cnt_succ, cnt_or S S' n (fun i hi => h i (by omega))]
    have := h n (by omega)
    cases h1 : S n <;> cases h2 : S' n <;> simp [h1, h2] at this ⊢ <;> omega
theorem cnt_congr {S S' : Nat → Bool} : ∀ n, (∀ i, i < n → S i = S' i) → cnt n S = cnt n S'
  | 0, _ => rfl
  | n + 1, h => by rw [cnt_succ, cnt_succ, cnt_congr n (fun i hi => h i (by omega)), h n (by omega)]
theorem klB_offs (S : Nat → Bool) (L : List Rw) (k j : Nat) : klB (offs S L) k true j = (lvA L j && !S j && upB L j k) := by
  unfold klB upB
  rw [lvA_offs, offs_bl, Bool.true_and]
theorem de_kill {L : List Rw} {env : Int} {k : Nat} (h1 : lvA (offs (deB L env k) L) k = true) (h2 : enR L k = env) :
    offs (klB (offs (deB L env k) L) k true) (offs (deB L env k) L) = offs (deB L env (k + 1)) L ∧ cnt L.length (deB L env (k + 1)) = cnt L.length (deB L env k) + cnt L.length (klB (offs (deB L env k) L) k true) := by
  have hk : lvA L k = true := by rw [lvA_offs, Bool.and_eq_true] at h1; exact h1.1
  have e : ∀ j, deB L env (k + 1) j = (deB L env k j || klB (offs (deB L env k) L) k true j) := fun j => by
    rw [deB_succ, klB_offs, hk, decide_eq_true h2]
    cases deB L env k j <;> cases lvA L j <;> simp
  constructor
  · rw [offs_offs]
    exact offs_ext fun j _ => (e j).symm
  · rw [cnt_congr _ (fun j _ => e j)]
    apply cnt_or
    intro j _
    rw [klB_offs]
    cases deB L env k j <;> simp
theorem de_skip {L : List Rw} (hf : Fw L) {env : Int} {k : Nat} (hk : k < L.length) (h : ¬ (lvA (offs (deB L env k) L) k = true ∧ enR L k = env)) : ∀ j, j < L.length → deB L env (k + 1) j = deB L env k j := by
  intro j hj
  rw [deB_succ]
  cases hD : deB L env k j with
  | true => rfl
  | false =>
    rw [Bool.false_or]
    cases hX : (lvA L j && (lvA L k && (decide (enR L k = env) && upB L j k))) with
    | false => rfl
    | true =>
      exfalso
      simp only [Bool.and_eq_true, decide_eq_true_eq] at hX
      obtain ⟨hj1, hk1, he, hu⟩ := hX
      have hS : deB L env k k = true := by
        cases hS : deB L env k k with
        | true => rfl
        | false => exact absurd ⟨by rw [lvA_offs, hk1, hS]; rfl, he⟩ h
      unfold deB at hS
      rw [Bool.and_eq_true, List.any_eq_true] at hS
      obtain ⟨_, i, hi, h3⟩ := hS
      simp only [Bool.and_eq_true, decide_eq_true_eq] at h3
      obtain ⟨h4, h5, h6⟩ := h3
      obtain ⟨qj, hqj⟩ : ∃ q, L[j]? = some q := ⟨_, List.getElem?_eq_getElem hj⟩
      obtain ⟨qk, hqk⟩ : ∃ q, L[k]? = some q := ⟨_, List.getElem?_eq_getElem hk⟩
      have hjk := (upb_iff hf hqj k).1 hu
      have hki := (upb_iff hf hqk i).1 h6
      have hji : upB L j i = true := (upb_iff hf hqj i).2 (hjk.trans hki)
      have : deB L env k j = true := by
        unfold deB
        rw [Bool.and_eq_true, List.any_eq_true]
        exact ⟨hj1, i, hi, by rw [h4, decide_eq_true h5, hji]; rfl⟩
      rw [hD] at this
      cases this
set_option maxRecDepth 100000 in
set_option maxHeartbeats 3200000 in
theorem rdropEnv_ok {w : World} {base r : Nat} {L : List Rw} (h : Rb w base r L) (hl : L.length ≤ 1000) (hfw : Fw L) (env : Int) :
    Calls Try.prog 30 #[pq r, i64 env] w fun e w' => e = .returned (i64 (cnt L.length (deB L env L.length) : Nat)) ∧ Rb w' base r (offs (deB L env L.length) L) ∧ Fr base [30, 66] w w' := by
  obtain ⟨ao, cap, hbk, hown, hcap, _⟩ := h.row
  have b0 : w.cell? ⟨r, 0, none⟩ = some (.slice ao L.length cap) := blk_cell hbk 0
  obtain ⟨N, hN⟩ : ∃ N, N = L.length := ⟨_, rfl⟩
  rw [← hN] at b0 hl hcap hbk ⊢
  have HN : Hid (N = L.length) := hN
  have HFW : Hid (Fw L) := hfw
  have HR0 : Hid (Rb w base r (offs (deB L env 0) L)) := by rw [offs_none (fun i _ => by simp [deB])]; exact h
  have HC0 : Hid (cnt N (deB L env 0) = 0) := by rw [cnt_congr (S' := fun _ => false) N (fun i _ => by simp [deB])]; exact hid (by simp [cnt])
  have HK0 : Hid (w.heap[r]? = some (.cells #[.slice ao N cap] 30)) := hbk
  have hcI : (N : Int) ≤ cap := by omega
  have hNI : (N : Int) ≤ 1000 := by omega
  clear h hbk hown hN hfw
  go_enter Try.func30, Try.ntmps30
  go_wp2_with fail
  go_loopw [5, 12] (fun n i wr => ∃ k : Nat, k ≤ N ∧ i = i64 k ∧ n = i64 (cnt N (deB L env k) : Nat) ∧ Hid (Rb wr base r (offs (deB L env k) L)) ∧ Hid (Fr base [30, 66] w wr)) (fun _ i _ => N - (intOf i).toNat)
  case atStart => exact ⟨0, by omega, rfl, by rw [HC0.out]; rfl, HR0, Fr.refl _ _ _⟩
  case round =>
    obtain ⟨k, hk, rfl, rfl, HR, HF⟩ := hrel
    have hle : cnt N (deB L env k) ≤ 1000 := Nat.le_trans (cnt_le _ _) (by omega)
    by_cases hlt : k < N
    · have hlt2 : k < L.length := by rw [← HN.out]; exact hlt
      obtain ⟨p, hp⟩ : ∃ p, (offs (deB L env k) L)[k]? = some p := ⟨_, List.getElem?_eq_getElem (by rw [offs_len]; exact hlt2)⟩
      obtain ⟨ao', cap', hbk', _, hcap', hrow⟩ := HR.out.row
      rw [offs_len, ← HN.out] at hbk' hcap'
      obtain ⟨g, rfl, hbg, hgl, hgr, hfz, hc⟩ := hrow k p hp
      have b1 : wr.cell? ⟨r, 0, none⟩ = some (.slice (some ⟨g, 0, none⟩) N cap') := blk_cell hbk' 0
      have c7 : wr.cell? ⟨g, k * 8 + 7, none⟩ = some (.bool p.lv) := hc 7 (by omega)
      have c0 : wr.cell? ⟨g, k * 8, none⟩ = some (i64 p.c.env) := hc 0 (by omega)
      have hkN : (k : Int) < N := by omega
      have hcN : (N : Int) ≤ cap' := by omega
      have hlv : lvA (offs (deB L env k) L) k = p.lv := by unfold lvA; rw [hp]
      have hen : enR L k = p.c.env := by rw [← enR_offs (deB L env k)]; unfold enR; rw [hp]
      by_cases hck : p.lv = true ∧ p.c.env = env
      · obtain ⟨e1, e2⟩ := de_kill (k := k) (by rw [hlv]; exact hck.1) (by rw [hen]; exact hck.2)
        have hkill := rkill_ok HR.out (by rw [offs_len, ← HN.out]; exact hl) (offs_fw HFW.out) k true
        rw [e1, offs_len] at hkill
        rw [← HN.out] at hkill e2
        have HKl := hid hkill
        have HE2 := hid e2
        have hle2 := cnt_le N (klB (offs (deB L env k) L) k true)
        rw [hck.1] at c7
        have hbe : (p.c.env == env) = true := by simpa using hck.2
        clear hck hlv hen hp hbk' hrow hc e1 hkill e2
        generalize cnt N (klB (offs (deB L env k) L) k true) = M2 at *
        generalize cnt N (deB L env k) = M at *
        go_wp2_with fail
        refine HKl.out.mono ?_
        rintro e w2 ⟨rfl, hr2, hf2⟩
        have HR2 := hid hr2
        have HF2 : Hid (Fr base [30, 66] w w2) := HF.out.trans hf2
        clear hr2 hf2
        go_wp2_with fail
        exact ⟨⟨k + 1, by omega, by go_num, by rw [HE2.out]; go_num, HR2, HF2⟩, by simp [intOf]; omega⟩
      · have hsk := de_skip HFW.out (env := env) hlt2 (by rw [hlv, hen]; exact hck)
        have HR2 : Hid (Rb wr base r (offs (deB L env (k + 1)) L)) := by rw [offs_ext hsk]; exact HR
        have HE2 : Hid (cnt N (deB L env (k + 1)) = cnt N (deB L env k)) := cnt_congr N (fun i hi => hsk i (by rw [← HN.out]; exact hi))
        clear hlv hen hp hbk' hrow hc hsk
        generalize cnt N (deB L env k) = M at *
        cases hl7 : p.lv with
        | false =>
          rw [hl7] at c7
          clear hl7 hck
          go_wp2_with fail
          exact ⟨⟨k + 1, by omega, by go_num, by rw [HE2.out], HR2, HF⟩, by simp [intOf]; omega⟩
        | true =>
          rw [hl7] at c7
          have hbe : (p.c.env == env) = false := beq_eq_false_iff_ne.2 (fun e => hck ⟨hl7, e⟩)
          clear hl7 hck
          go_wp2_with fail
          exact ⟨⟨k + 1, by omega, by go_num, by rw [HE2.out], HR2, HF⟩, by simp [intOf]; omega⟩
    · obtain rfl : k = N := by omega
      go_wp2_with fail
      go_ret
      exact ⟨rfl, HR.out, HF.out⟩
end Go.Proofs.Ytcffodkpflfeoaa
