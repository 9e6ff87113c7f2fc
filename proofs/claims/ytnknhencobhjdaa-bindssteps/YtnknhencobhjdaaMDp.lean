/- No statement here. -/
import Derived.Test.YtnknhencobhjdaaMSt
import Derived.Test.YtnknhencobhjdaaMCpRel2
import Derived.Test.YtnknhencobhjdaaMQtPair
set_option maxRecDepth 100000
namespace Go.Proofs.Ytnknhencobhjdaa
open Go.ChangeShapes Go.WideShapes Go.ChangeAt Go.RowKit Go.Deep
open Go.Proofs.Ytnknhencobhjdaa.Cp (pq hid bl1)
attribute [local go_sem ↓] Go.wp_at_zero Go.wp_at_succ
structure Rt where
  kind : Int
  num : Int
  env : Int
  cap : Int
abbrev Rt.l (r : Rt) : List Value := [i64 r.kind, i64 r.num, i64 r.env, i64 r.cap]
def tcs : List Rt → List Value
  | [] => []
  | r :: L => r.l ++ tcs L
theorem tcs_app : ∀ a b : List Rt, tcs (a ++ b) = tcs a ++ tcs b
  | [], _ => rfl
  | r :: a, b => by
    show r.l ++ tcs (a ++ b) = (r.l ++ tcs a) ++ tcs b
    rw [tcs_app a b, List.append_assoc]
theorem tcs_get : ∀ (L : List Rt) (i j : Nat) (p : Rt), L[i]? = some p → j < 4 → (tcs L)[i * 4 + j]? = p.l[j]?
  | [], i, j, p, h, _ => by simp at h
  | r :: L, 0, j, p, h, hj => by
    simp at h
    subst h
    show (r.l ++ tcs L)[0 * 4 + j]? = _
    rw [Nat.zero_mul, Nat.zero_add, List.getElem?_append_left (by simpa using hj)]
  | r :: L, i + 1, j, p, h, hj => by
    show (r.l ++ tcs L)[(i + 1) * 4 + j]? = _
    rw [List.getElem?_append_right (by simp; omega), ← tcs_get L i j p (by simpa using h) hj]
    congr 1
    simp
    omega
theorem tl_one (p : Rt) : ∀ u ∈ p.l, u.oneCell' = true := by
  intro u hu
  simp only [List.mem_cons, List.not_mem_nil, or_false] at hu
  rcases hu with rfl | rfl | rfl | rfl <;> rfl
theorem under77 : Try.prog.underlying 77 = some (.slice 101) := by kernel_rfl
theorem info101 : (Try.prog.info? 101).map (fun i => (i.zero, i.size, i.bytes)) = some (some (.agg #[i64 0, i64 0, i64 0, i64 0]), 4, 32) := by kernel_rfl
theorem under38 : Try.prog.underlying 38 = some (.slice 3) := by kernel_rfl
theorem info3 : (Try.prog.info? 3).map (fun i => (i.zero, i.size, i.bytes)) = some (some (i64 0), 1, 8) := by kernel_rfl
abbrev sla (b : Option Nat) : Option Addr := b.map fun g => ⟨g, 0, none⟩
theorem own_sla {w : World} {base : Nat} {e : TypeId} {size : Nat} {v : Value} {n : Nat} {xs : List Value} (h : w.ownsRow base e size v n xs) : ∃ (b : Option Nat) (cap : Nat), v = .slice (sla b) n cap ∧ n ≤ cap ∧ v.ownBlock = b ∧ ∀ g, b = some g → base ≤ g ∧ g < w.heap.size ∧ ∃ C, w.heap[g]? = some (.cells C e) := by
  rcases h.2 with ⟨rfl, rfl⟩ | ⟨g, cap, cur, rfl, hb, hg, hc, _⟩
  · exact ⟨none, 0, rfl, Nat.le_refl _, rfl, fun g h => by cases h⟩
  · exact ⟨some g, cap, rfl, hc, rfl, fun g' h' => by cases h'; exact ⟨hb, blk_lt hg, cur, hg⟩⟩
abbrev ddO (kc kb : Nat) (vR vP : Value) : Obj := .cells #[pq kc, pq kb, vR, vP] 79
structure Dx where
  kc : Nat
  kb : Nat
  pb : Option Nat
structure Dd (w : World) (base d : Nat) (y : Dx) (t : Qt.T) (s : Qt.St) (C : List Cp.Rw) (Rs : List Rt) (P : List Int) : Prop where
  lo : base ≤ d
  blk : ∃ vR capP, w.heap[d]? = some (ddO y.kc y.kb vR (.slice (sla y.pb) P.length capP)) ∧ w.ownsRow base 101 4 vR Rs.length (tcs Rs) ∧ w.ownsRow base 3 1 (.slice (sla y.pb) P.length capP) P.length (icells P)
  cp : Cp.Rb w base y.kc C
  bk : ∃ Q, Qt.Rel s Q ∧ Qt.Rb w base y.kb t Q
  wf : Qt.Wf t s
def ownD (pb : Option Nat) (k : Nat) : Obj → Bool
  | .cells _ t _ => t == 99 || t == 96 || t == 126 || t == 128 || t == 101 || t == 79 || decide (pb = some k)
  | _ => false
structure Df (base : Nat) (pb : Option Nat) (w w' : World) : Prop where
  below : Below base w w'
  kept : ∀ (k : Nat) (o : Obj), w.heap[k]? = some o → ownD pb k o = false → w'.heap[k]? = some o
def isD : Obj → Bool
  | .cells _ t _ => t == 99 || t == 96 || t == 126 || t == 128 || t == 101 || t == 79 || t == 3
  | _ => false
section
variable {w w' w'' : World} {base d : Nat} {y : Dx} {pb pb' : Option Nat} {t : Qt.T} {s : Qt.St} {C : List Cp.Rw} {Rs : List Rt} {P : List Int}
theorem Dd.lt (h : Dd w base d y t s C Rs P) : d < w.heap.size := by
  obtain ⟨_, _, h1, _⟩ := h.blk
  exact blk_lt h1
theorem Dd.lo' (h : Dd w base d y t s C Rs P) : base ≤ w.heap.size := by have := h.lt; have := h.lo; omega
theorem Dd.same (h : Dd w base d y t s C Rs P) (hk : ∀ (k : Nat) (o : Obj), w.heap[k]? = some o → isD o = true → w'.heap[k]? = some o) : Dd w' base d y t s C Rs P := by
  obtain ⟨vR, capP, h1, h2, h3⟩ := h.blk
  obtain ⟨Q, hQ, hB⟩ := h.bk
  refine ⟨h.lo, ⟨vR, capP, hk _ _ h1 rfl, Qt.own_keep h2 (fun k A hA => hk k _ hA rfl), Qt.own_keep h3 (fun k A hA => hk k _ hA rfl)⟩, h.cp.same (fun k o ho hx => hk k o ho ?_), ⟨Q, hQ, hB.same (fun k o ho hx => hk k o ho ?_)⟩, h.wf⟩
  · obtain ⟨A, rfl | rfl⟩ := hx <;> rfl
  · obtain ⟨A, rfl | rfl⟩ := hx <;> rfl
theorem Dd.below (h : Dd w base d y t s C Rs P) (hb : Below w.heap.size w w') : Dd w' base d y t s C Rs P := h.same (fun _ _ hk _ => bkb hk hb)
theorem Dd.drewN (h : Dd w base d y t s C Rs P) (n : Nat) : Dd (w.drewN n) base d y t s C Rs P := h.same (fun _ _ hk _ => hk)
theorem Dd.drew (h : Dd w base d y t s C Rs P) : Dd w.drew base d y t s C Rs P := h.same (fun _ _ hk _ => hk)
theorem Df.refl (base : Nat) (pb : Option Nat) (w : World) : Df base pb w w := ⟨Below.refl _ _, fun _ _ h _ => h⟩
theorem Df.size (h : Df base pb w w') : w.heap.size ≤ w'.heap.size := h.below.size
def PbOk (w : World) (pb pb' : Option Nat) : Prop := pb' = pb ∨ ∃ g, pb' = some g ∧ w.heap.size ≤ g
theorem ownD_new {k : Nat} {o : Obj} (hp : PbOk w pb pb') (hk : k < w.heap.size) (ho : ownD pb k o = false) : ownD pb' k o = false := by
  rcases hp with rfl | ⟨g, rfl, hg⟩
  · exact ho
  · cases o with
    | cells A ty fr =>
      simp only [ownD, Bool.or_eq_false_iff] at ho ⊢
      refine ⟨ho.1, ?_⟩
      simp
      omega
    | _ => rfl
theorem Df.trans (h : Df base pb w w') (k : Df base pb' w' w'') (hp : PbOk w pb pb') : Df base pb w w'' :=
  ⟨h.below.trans k.below, fun i o hi ho => k.kept i o (h.kept i o hi ho) (ownD_new hp (blk_lt hi) ho)⟩
theorem PbOk.trans {pb'' : Option Nat} (h : PbOk w pb pb') (k : PbOk w' pb' pb'') (hs : w.heap.size ≤ w'.heap.size) : PbOk w pb pb'' := by
  rcases k with rfl | ⟨g, rfl, hg⟩
  · exact h
  · exact Or.inr ⟨g, rfl, by omega⟩
theorem PbOk.refl (w : World) (pb : Option Nat) : PbOk w pb pb := Or.inl rfl
theorem Df.of_below (hb : Below w.heap.size w w') (h : base ≤ w.heap.size) : Df base pb w w' := ⟨hb.mono h, fun _ _ hk _ => bkb hk hb⟩
theorem Df.of_caps (hf : Fr base [99, 96] w w') : Df base pb w w' := ⟨hf.below, fun k o hk ho => hf.kept k o hk (by
  cases o with
  | cells A ty fr =>
    simp only [ownD, Bool.or_eq_false_iff] at ho
    simp only [keeps]
    simp
    simp at ho
    exact ⟨ho.1.1.1.1.1.1, ho.1.1.1.1.1.2⟩
  | _ => rfl)⟩
theorem Df.of_book (hf : Fr base [126, 128] w w') : Df base pb w w' := ⟨hf.below, fun k o hk ho => hf.kept k o hk (by
  cases o with
  | cells A ty fr =>
    simp only [ownD, Bool.or_eq_false_iff] at ho
    simp only [keeps]
    simp
    simp at ho
    exact ⟨ho.1.1.1.1.2, ho.1.1.1.2⟩
  | _ => rfl)⟩
theorem Df.drew (h : Df base pb w w') : Df base pb w w'.drew := ⟨h.below.drew, h.kept⟩
theorem Df.of_drew (h : Df base pb w.drew w') : Df base pb w w' := ⟨⟨h.below.os, h.below.tape, h.below.output, h.below.size, h.below.block⟩, h.kept⟩
theorem Dd.caps (h : Dd w base d y t s C Rs P) {C' : List Cp.Rw} (hc : Cp.Rb w' base y.kc C') (hf : Fr base [99, 96] w w') : Dd w' base d y t s C' Rs P := by
  obtain ⟨vR, capP, h1, h2, h3⟩ := h.blk
  obtain ⟨Q, hQ, hB⟩ := h.bk
  exact ⟨h.lo, ⟨vR, capP, hf.kept _ _ h1 rfl, Qt.own_keep h2 (fun k A hA => hf.kept k _ hA rfl), Qt.own_keep h3 (fun k A hA => hf.kept k _ hA rfl)⟩, hc, ⟨Q, hQ, hB.fr hf rfl rfl⟩, h.wf⟩
theorem Dd.book (h : Dd w base d y t s C Rs P) {s' : Qt.St} {Q : List Qt.Pr} (hr : Qt.Rel s' Q) (hw : Qt.Wf t s') (hb : Qt.Rb w' base y.kb t Q) (hf : Fr base [126, 128] w w') : Dd w' base d y t s' C Rs P := by
  obtain ⟨vR, capP, h1, h2, h3⟩ := h.blk
  exact ⟨h.lo, ⟨vR, capP, hf.kept _ _ h1 rfl, Qt.own_keep h2 (fun k A hA => hf.kept k _ hA rfl), Qt.own_keep h3 (fun k A hA => hf.kept k _ hA rfl)⟩, h.cp.fr hf rfl rfl, ⟨Q, hr, hb⟩, hw⟩
theorem Dd.row (h : Dd w base d y t s C Rs P) : ∃ ao cap pc, w.heap[d]? = some (ddO y.kc y.kb (.slice ao Rs.length cap) (.slice (sla y.pb) P.length pc)) ∧ w.ownsRow base 101 4 (.slice ao Rs.length cap) Rs.length (tcs Rs) ∧ w.ownsRow base 3 1 (.slice (sla y.pb) P.length pc) P.length (icells P) ∧ Rs.length ≤ cap ∧ P.length ≤ pc ∧
    (∀ (i : Nat) r, Rs[i]? = some r → ∃ g, ao = some ⟨g, 0, none⟩ ∧ base ≤ g ∧ g < w.heap.size ∧ ∀ j, j < 4 → w.cell? ⟨g, i * 4 + j, none⟩ = r.l[j]?) ∧
    (∀ (i : Nat) v, P[i]? = some v → ∃ g, y.pb = some g ∧ base ≤ g ∧ g < w.heap.size ∧ w.cell? ⟨g, i, none⟩ = some (i64 v)) := by
  obtain ⟨vR, capP, h1, h2, h3⟩ := h.blk
  obtain ⟨b, cap, rfl, hc, _, hb⟩ := own_sla h2
  obtain ⟨b3, cap3, he3, hc3, _, hb3⟩ := own_sla h3
  refine ⟨sla b, cap, capP, h1, h2, h3, hc, ?_, fun i r hr => ?_, fun i v hv => ?_⟩
  · simp only [Value.slice.injEq] at he3
    omega
  · have hi := (List.getElem?_eq_some_iff.1 hr).1
    rcases h2.2 with ⟨_, h0⟩ | ⟨g, cap', cur, he, hbg, hgg, _⟩
    · omega
    · simp only [Value.slice.injEq] at he
      refine ⟨g, he.1, hbg, blk_lt hgg, fun j hj => ?_⟩
      rw [he.1] at h2
      rw [h2.cellAt _ (by omega), tcs_get Rs i j r hr hj]
  · have hi := (List.getElem?_eq_some_iff.1 hv).1
    rcases h3.2 with ⟨_, h0⟩ | ⟨g, cap', cur, he, hbg, hgg, _⟩
    · omega
    · simp only [Value.slice.injEq] at he
      have hpb : y.pb = some g := by
        have := he.1
        unfold sla at this
        cases hy : y.pb with
        | none => rw [hy] at this; cases this
        | some z => rw [hy] at this; simp at this; rw [this]
      refine ⟨g, hpb, hbg, blk_lt hgg, ?_⟩
      rw [hpb] at h3
      rw [h3.cellAt i (by omega)]
      simp [icells, hv]
end
def fnB (kind num : Int) (r : Rt) : Bool := decide (r.kind = kind) && decide (r.num = num)
def fnI (Rs : List Rt) (kind num : Int) : Int := match Rs.findIdx? (fnB kind num) with
  | some k => k
  | none => -1
theorem fnI_none {Rs : List Rt} {kind num : Int} (h : ∀ (i : Nat) r, Rs[i]? = some r → fnB kind num r = false) : fnI Rs kind num = -1 := by
  unfold fnI
  have : Rs.findIdx? (fnB kind num) = none := by
    rw [List.findIdx?_eq_none_iff]
    intro x hx
    obtain ⟨i, hi, rfl⟩ := List.getElem_of_mem hx
    exact h i _ (List.getElem?_eq_getElem hi)
  rw [this]
theorem fnI_some {Rs : List Rt} {kind num : Int} {k : Nat} {r : Rt} (hr : Rs[k]? = some r) (he : fnB kind num r = true) (h : ∀ (i : Nat) r, i < k → Rs[i]? = some r → fnB kind num r = false) : fnI Rs kind num = k := by
  unfold fnI
  obtain ⟨hk, rfl⟩ := List.getElem?_eq_some_iff.1 hr
  have : Rs.findIdx? (fnB kind num) = some k := by
    rw [List.findIdx?_eq_some_iff_getElem]
    exact ⟨hk, he, fun j hj => by rw [h j _ hj (List.getElem?_eq_getElem (by omega))]; simp⟩
  rw [this]
theorem fnI_cases (Rs : List Rt) (kind num : Int) : (fnI Rs kind num = -1 ∧ ∀ r ∈ Rs, ¬ (r.kind = kind ∧ r.num = num)) ∨ ∃ (k : Nat) (r : Rt), fnI Rs kind num = k ∧ Rs[k]? = some r ∧ r.kind = kind ∧ r.num = num := by
  unfold fnI
  cases hf : Rs.findIdx? (fnB kind num) with
  | none =>
    left
    refine ⟨rfl, fun r hr => ?_⟩
    have := List.findIdx?_eq_none_iff.1 hf r hr
    simpa [fnB] using this
  | some k =>
    right
    obtain ⟨hk, he, _⟩ := List.findIdx?_eq_some_iff_getElem.1 hf
    refine ⟨k, Rs[k], rfl, List.getElem?_eq_getElem hk, ?_⟩
    simpa [fnB] using he
set_option maxHeartbeats 2000000 in
theorem rfnd_ok {w : World} {base d : Nat} {y : Dx} {t : Qt.T} {s : Qt.St} {C : List Cp.Rw} {Rs : List Rt} {P : List Int} (h : Dd w base d y t s C Rs P) (hl : Rs.length ≤ 1000) (kind num : Int) :
    Calls Try.prog 45 #[pq d, i64 kind, i64 num] w fun e w' => e = .returned (i64 (fnI Rs kind num)) ∧ Below w.heap.size w w' := by
  obtain ⟨ao, cap, pc, hbk, hown, _, hcap, _⟩ := h.row
  have HR := hid h
  have b2 : w.cell? ⟨d, 2, none⟩ = some (.slice ao Rs.length cap) := bkc hbk 2
  have HK := hid hbk
  obtain ⟨N, hN⟩ : ∃ N, N = Rs.length := ⟨_, rfl⟩
  have HN : Hid (N = Rs.length) := hN
  rw [← hN] at b2 hl hcap
  have hcI : (N : Int) ≤ cap := by omega
  have hNI : (N : Int) ≤ 1000 := by omega
  clear h hbk hown hN
  go_enter Try.func45, Try.ntmps45
  go_wp2_with fail
  go_loopw [14] (fun i wr => ∃ k : Nat, k ≤ N ∧ i = i64 k ∧ Below w.heap.size w wr ∧ Hid (∀ (i : Nat) p, i < k → Rs[i]? = some p → fnB kind num p = false)) (fun i _ => N - (intOf i).toNat)
  case atStart => exact ⟨0, by omega, rfl, Below.refl _ _, fun i p hi => by omega⟩
  case round =>
    obtain ⟨k, hk, rfl, hb, HO⟩ := hrel
    by_cases hlt : k < N
    · have hlt2 : k < Rs.length := by rw [← HN.out]; exact hlt
      obtain ⟨p, hp⟩ : ∃ p, Rs[k]? = some p := ⟨_, List.getElem?_eq_getElem hlt2⟩
      obtain ⟨ao', cap', pc', hbk', hown', _, hcap', _, hrow, _⟩ := (HR.out.below hb).row
      have hs := (bkb HK.out hb).symm.trans hbk'
      simp only [Option.some.injEq, Obj.cells.injEq, Array.mk.injEq, List.cons.injEq, Value.slice.injEq, true_and, and_true] at hs
      obtain ⟨⟨rfl, rfl⟩, rfl⟩ := hs
      obtain ⟨g, rfl, hbg, hgl, hc⟩ := hrow k p hp
      have c0 : wr.cell? ⟨g, k * 4, none⟩ = some (i64 p.kind) := hc 0 (by omega)
      have c1 : wr.cell? ⟨g, k * 4 + 1, none⟩ = some (i64 p.num) := hc 1 (by omega)
      have c2 : wr.cell? ⟨g, k * 4 + 2, none⟩ = some (i64 p.env) := hc 2 (by omega)
      have c3 : wr.cell? ⟨g, k * 4 + 3, none⟩ = some (i64 p.cap) := hc 3 (by omega)
      have HB : Hid (∀ o, Below w.heap.size w (wr.alloc o)) := fun o => hb.alloc hb.size o
      have HP : Hid (Rs[k]? = some p) := hp
      clear hb hrow hc hp hbk' hown'
      have next : fnB kind num p = false → Hid (∀ (i : Nat) p, i < k + 1 → Rs[i]? = some p → fnB kind num p = false) := fun he i p' hi hp' => by
        by_cases hik : i = k
        · subst hik
          have := HP.out.symm.trans hp'
          simp at this
          subst this
          exact he
        · exact HO.out i p' (by omega) hp'
      by_cases hkd : p.kind = kind
      · have hq1 : (p.kind == kind) = true := by simpa using hkd
        by_cases he : p.num = num
        · have HE : Hid (fnI Rs kind num = k) := fnI_some HP.out (by simp [fnB, hkd, he]) HO.out
          have hq : (p.num == num) = true := by simpa using he
          clear he next hkd
          go_wp2_with fail
          go_ret
          exact ⟨by rw [HE.out]; rfl, HB.out _⟩
        · have HE := next (by simp [fnB, he])
          have hq : (p.num == num) = false := by simpa using he
          clear he next hkd
          go_wp2_with fail
          exact ⟨⟨k + 1, by omega, by go_num, HB.out _, HE⟩, by simp [intOf]; omega⟩
      · have hq1 : (p.kind == kind) = false := by simpa using hkd
        have HE := next (by simp [fnB, hkd])
        clear next hkd
        go_wp2_with fail
        exact ⟨⟨k + 1, by omega, by go_num, HB.out _, HE⟩, by simp [intOf]; omega⟩
    · have HE : Hid (fnI Rs kind num = -1) := fnI_none fun i p hp => HO.out i p (by have := (List.getElem?_eq_some_iff.1 hp).1; have := HN.out; omega) hp
      have HB : Hid (Below w.heap.size w wr) := hb
      clear hb
      go_wp2_with fail
      go_ret
      exact ⟨by rw [HE.out]; rfl, HB.out⟩
def opB (s : Qt.St) (env : Int) : Bool := (Qt.at_ s env).isSome
theorem rat_rel {w : World} {base r : Nat} {t : Qt.T} {s : Qt.St} {Q : List Qt.Pr} (h : Qt.Rb w base r t Q) (hr : Qt.Rel s Q) (env : Int) :
    Calls Try.prog 46 #[pq r, i64 env] w fun e w' => (∃ i : Int, e = .returned (i64 i) ∧ (i = -1 ∧ Qt.at_ s env = none ∨ ∃ (k : Nat) (x : Qt.Pge), i = k ∧ Qt.at_ s env = some x ∧ Q[k]? = some ⟨env, x.q, x.h⟩)) ∧ Below w.heap.size w w' :=
  (Qt.rat_ok h hr.le3 env).mono fun e w' ⟨he, hb⟩ => ⟨⟨_, he, by
    cases hx : Qt.at_ s env with
    | none => exact Or.inl ⟨hr.not hx, rfl⟩
    | some x =>
      obtain ⟨k, hk, hi⟩ := hr.has hx
      exact Or.inr ⟨k, x, hi, rfl, hk⟩⟩, hb⟩
theorem ropn_ok {w : World} {base d : Nat} {y : Dx} {t : Qt.T} {s : Qt.St} {C : List Cp.Rw} {Rs : List Rt} {P : List Int} (h : Dd w base d y t s C Rs P) (env : Int) :
    Calls Try.prog 21 #[pq d, i64 env] w fun e w' => e = .returned (.bool (opB s env)) ∧ Below w.heap.size w w' := by
  obtain ⟨ao, cap, pc, hbk, _⟩ := h.row
  obtain ⟨Q, hQ, hB⟩ := h.bk
  have b1 : w.cell? ⟨d, 1, none⟩ = some (pq y.kb) := bkc hbk 1
  have HA := hid (rat_rel hB hQ env)
  clear h hbk hQ hB
  go_enter Try.func21, Try.ntmps21
  go_wp2_with fail
  refine HA.out.mono ?_
  rintro e w1 ⟨⟨i, rfl, hi⟩, hb⟩
  have HB := hid hb
  clear hb HA
  rcases hi with ⟨rfl, hx⟩ | ⟨k, x, rfl, hx, _⟩
  · have HX : Hid (opB s env = false) := by unfold opB; rw [hx]; exact hid rfl
    clear hx
    go_wp2_with fail
    go_ret
    exact ⟨by rw [HX.out]; rfl, HB.out⟩
  · have HX : Hid (opB s env = true) := by unfold opB; rw [hx]; exact hid rfl
    have hd : decide ((0 : Int) ≤ (k : Int)) = true := by simp
    clear hx
    go_wp2_with fail
    go_ret
    exact ⟨by rw [HX.out]; rfl, HB.out⟩
end Go.Proofs.Ytnknhencobhjdaa
namespace Go.Proofs.Ytnknhencobhjdaa
open Go.ChangeShapes Go.WideShapes Go.ChangeAt Go.RowKit Go.Deep
open Go.Proofs.Ytnknhencobhjdaa.Cp (pq hid bl1)
attribute [local go_sem ↓] Go.wp_at_zero Go.wp_at_succ
def pdB (C : List Cp.Rw) (P : List Int) (env : Int) (i : Nat) : Bool := match P[i]?, C[i]? with
  | some p, some q => decide (p = env) && q.lv
  | _, _ => false
def pdN (C : List Cp.Rw) (P : List Int) (env : Int) : Nat := Cp.cnt P.length (pdB C P env)
set_option maxHeartbeats 2000000 in
theorem rpaid_ok {w : World} {base d : Nat} {y : Dx} {t : Qt.T} {s : Qt.St} {C : List Cp.Rw} {Rs : List Rt} {P : List Int} (h : Dd w base d y t s C Rs P) (hl : P.length ≤ 1000) (hpl : P.length = C.length) (env : Int) :
    Calls Try.prog 42 #[pq d, i64 env] w fun e w' => e = .returned (i64 (pdN C P env : Nat)) ∧ Below w.heap.size w w' := by
  obtain ⟨ao, cap, pc, hbk, _, _, _, hpc, _⟩ := h.row
  obtain ⟨aoc, capc, hbc, _, hcc, _⟩ := h.cp.row
  have HR := hid h
  have b3 : w.cell? ⟨d, 3, none⟩ = some (.slice (sla y.pb) P.length pc) := bkc hbk 3
  have b0 : w.cell? ⟨d, 0, none⟩ = some (pq y.kc) := bkc hbk 0
  have e0 : w.cell? ⟨y.kc, 0, none⟩ = some (.slice aoc C.length capc) := bkc hbc 0
  have HPL : Hid (P.length = C.length) := hpl
  rw [← hpl] at e0 hcc
  obtain ⟨N, hN⟩ : ∃ N, N = P.length := ⟨_, rfl⟩
  have HN : Hid (N = P.length) := hN
  have HRP : Hid (∀ (i : Nat) v, P[i]? = some v → ∃ g, y.pb = some g ∧ base ≤ g ∧ g < w.heap.size ∧ w.cell? ⟨g, i, none⟩ = some (i64 v)) := by
    obtain ⟨_, _, _, _, _, _, _, _, _, hp⟩ := h.row
    exact hp
  have HRC : Hid (∀ (i : Nat) q, C[i]? = some q → ∃ g, aoc = some ⟨g, 0, none⟩ ∧ g < w.heap.size ∧ w.cell? ⟨g, i * 8 + 7, none⟩ = some (.bool q.lv)) := fun i q hq => by
    obtain ⟨ao', cap', hb', _, _, hrow⟩ := h.cp.row
    have hs := hbc.symm.trans hb'
    simp only [Option.some.injEq, Obj.cells.injEq, Array.mk.injEq, List.cons.injEq, Value.slice.injEq, true_and, and_true] at hs
    obtain ⟨g, hg, _, hgl, _, _, hc⟩ := hrow i q hq
    exact ⟨g, by rw [hs.1]; exact hg, hgl, hc 7 (by omega)⟩
  unfold pdN
  rw [← hN] at b3 hl hpc e0 hcc ⊢
  have hcI : (N : Int) ≤ pc := by omega
  have hccI : (N : Int) ≤ capc := by omega
  have hNI : (N : Int) ≤ 1000 := by omega
  have hcnt : ∀ k, k ≤ N → (Cp.cnt k (pdB C P env) : Int) ≤ 1000 := fun k hk => by have := Cp.cnt_le k (pdB C P env); omega
  have HCN := hid hcnt
  clear h hbk hbc hN hpl hcnt
  obtain ⟨pa, hpa⟩ : ∃ pa, pa = sla y.pb := ⟨_, rfl⟩
  have HPA : Hid (pa = sla y.pb) := hpa
  rw [← hpa] at b3
  clear hpa
  go_enter Try.func42, Try.ntmps42
  go_wp2_with fail
  go_loopw [5, 13] (fun u i wr => ∃ k : Nat, k ≤ N ∧ i = i64 k ∧ u = i64 (Cp.cnt k (pdB C P env) : Nat) ∧ w = wr) (fun _ i _ => N - (intOf i).toNat)
  case atStart => exact ⟨0, by omega, rfl, rfl, rfl⟩
  case round =>
    obtain ⟨k, hk, rfl, rfl, rfl⟩ := hrel
    by_cases hlt : k < N
    · have hlt2 : k < P.length := by rw [← HN.out]; exact hlt
      obtain ⟨v, hv⟩ : ∃ v, P[k]? = some v := ⟨_, List.getElem?_eq_getElem hlt2⟩
      obtain ⟨q, hq⟩ : ∃ q, C[k]? = some q := ⟨_, List.getElem?_eq_getElem (by rw [← HPL.out]; exact hlt2)⟩
      obtain ⟨g, hg, _, hgl, c0⟩ := HRP.out k v hv
      obtain ⟨gc, rfl, hgcl, cc⟩ := HRC.out k q hq
      obtain rfl : pa = some ⟨g, 0, none⟩ := by rw [HPA.out, hg]; rfl
      have HSu := hid (Cp.cnt_succ k (pdB C P env))
      have HV : Hid (pdB C P env k = (decide (v = env) && q.lv)) := by unfold pdB; rw [hv, hq]; exact hid rfl
      have hM := HCN.out k hk
      clear hv hq hg
      have hkI : (k : Int) < N := by omega
      generalize Cp.cnt k (pdB C P env) = M at *
      by_cases he : v = env
      · have hqe : (v == env) = true := by simpa using he
        cases hlv : q.lv with
        | true =>
          rw [hlv] at cc
          have HM : Hid (Cp.cnt (k + 1) (pdB C P env) = M + 1) := by rw [HSu.out, HV.out, if_pos (by simp [he, hlv])]; exact hid rfl
          clear he hlv HSu HV
          go_wp2_with fail
          exact ⟨⟨k + 1, by omega, by go_num, by rw [HM.out]; go_num, trivial⟩, by simp [intOf]; omega⟩
        | false =>
          rw [hlv] at cc
          have HM : Hid (Cp.cnt (k + 1) (pdB C P env) = M) := by rw [HSu.out, HV.out, if_neg (by simp [hlv])]; exact hid rfl
          clear he hlv HSu HV
          go_wp2_with fail
          exact ⟨⟨k + 1, by omega, by go_num, by rw [HM.out], trivial⟩, by simp [intOf]; omega⟩
      · have hqe : (v == env) = false := by simpa using he
        have HM : Hid (Cp.cnt (k + 1) (pdB C P env) = M) := by rw [HSu.out, HV.out, if_neg (by simp [he])]; exact hid rfl
        clear he HSu HV
        go_wp2_with fail
        exact ⟨⟨k + 1, by omega, by go_num, by rw [HM.out], trivial⟩, by simp [intOf]; omega⟩
    · obtain rfl : k = N := by omega
      go_wp2_with fail
      go_ret
      exact ⟨rfl, Below.refl _ _⟩
end Go.Proofs.Ytnknhencobhjdaa
