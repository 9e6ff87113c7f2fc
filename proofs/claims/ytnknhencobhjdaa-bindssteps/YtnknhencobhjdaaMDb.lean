/- No statement here. -/
import Derived.Test.YtnknhencobhjdaaMDc
set_option maxRecDepth 100000
namespace Go.Proofs.Ytnknhencobhjdaa
open Go.ChangeShapes Go.WideShapes Go.ChangeAt Go.RowKit Go.Deep
open Go.Proofs.Ytnknhencobhjdaa.Cp (pq hid bl1)
open Go.Proofs.Ytnknhencobhjdaa.Qt (wpList_app_run)
attribute [local go_sem ↓] Go.wp_at_zero Go.wp_at_succ
theorem fr_sub {ts ts' : List TypeId} (h : ∀ x, x ∈ ts → x ∈ ts') (o : Obj) (ho : keeps ts' o = true) : keeps ts o = true := by
  cases o with
  | cells C t fr =>
    simp [keeps] at ho ⊢
    exact fun h' => ho (h t h')
  | _ => rfl
theorem wf_tk {t : Qt.T} {s : Qt.St} (h : Qt.Wf t s) (env kind n : Int) : Qt.Wf t (Qt.tkS s env kind n) := by
  unfold Qt.tkS
  cases hx : Qt.at_ s env with
  | none => exact h
  | some x =>
    simp only
    by_cases hc : Qt.wrongB kind n = true ∨ x.q.g kind - x.h.g kind < n
    · rw [if_pos hc]; exact h
    · rw [if_neg hc]
      obtain ⟨_, _, hs⟩ := Qt.at_some hx
      have hle := h.le_at hs
      have hg := g_le hle kind
      obtain ⟨hw, hn⟩ := not_or.1 hc
      have h0 : 0 ≤ n := by
        unfold Qt.wrongB at hw
        simp at hw
        omega
      exact wf_set h hs (put_le hle kind _ (by omega) (by omega))
theorem wrapI {n : Int} (h0 : 0 ≤ n) (h1 : n < 9223372036854775808) : IntKind.i64.wrap n = n := by
  have hb : (2 ^ IntKind.i64.bits : Int) = 18446744073709551616 := by decide
  have hb1 : (2 ^ (IntKind.i64.bits - 1) : Int) = 9223372036854775808 := by decide
  unfold IntKind.wrap
  simp only [hb, hb1]
  have : n % 18446744073709551616 = n := by omega
  rw [this]
  rw [if_neg (by simp; omega)]
theorem app_at {t e te : TypeId} {size bytes : Nat} {z : Value} (hu : Try.prog.underlying t = some (.slice e)) (hin : (Try.prog.info? e).map (fun i => (i.zero, i.size, i.bytes)) = some (some z, size, bytes)) (hzs : z.cells.size = size) (hsz : 0 < size) (hby : bytes ≤ 1000)
    {V : World} {base : Nat} {v : Value} {n : Nat} {xs : List Value} (ho : V.ownsRow base e size v n xs) (C : List Value) (hC : C.length = size) (h1 : ∀ u ∈ C, u.oneCell' = true) (hn : n ≤ 100000) (hB : base ≤ V.heap.size) :
    ∃ b cap w', (Builtin.append_ #[t, t] t #[v, .slice (some ⟨V.heap.size, 0, none⟩) 1 1]).run Try.prog (V.alloc (.cells C.toArray te)) = .ok (.slice (sla b) (n + 1) cap) w' ∧ w'.ownsRow base e size (.slice (sla b) (n + 1) cap) (n + 1) (xs ++ C) ∧ Fr base [e] V w' ∧ (∀ k, k < V.heap.size → some k ≠ v.ownBlock → w'.heap[k]? = V.heap[k]?) ∧ (b = v.ownBlock ∨ b = some (V.heap.size + 1)) := by
  obtain ⟨i, hi, hz, hs, hb⟩ := info_parts hin
  have hb1 : Below V.heap.size V (V.alloc (.cells C.toArray te)) := bl1 V _
  have ho2 : (V.alloc (.cells C.toArray te)).ownsRow base e size v n xs := ho.alloc _
  have hmul : (n + 1) * bytes ≤ 140737488355328 := Nat.le_trans (Nat.mul_le_mul (show n + 1 ≤ 100001 by omega) hby) (by decide)
  obtain ⟨v', w', hr, h2, h3, _, h5⟩ := run_append_own_at (P := Try.prog) (V.alloc (.cells C.toArray te)) base t t e i z size bytes hu hi hz hs hb hzs hsz v n xs ho2 ⟨V.heap.size, 0, none⟩ 1 1 C (by rw [hC, Nat.one_mul]) (World.news_of_block (hlx V _)) h1 (by unfold maxLen; omega) hmul (by have := hb1.size; omega)
  obtain ⟨b, cap, rfl, _, hbb, _⟩ := own_sla h2
  have hgb : ∀ k o, V.heap[k]? = some o → keeps [e] o = true → w'.heap[k]? = some o := fun k o hk hko => by
    rw [h3.block k (by have := blk_lt hk; simp; omega) (fun hE => ?_)]
    · exact bkb hk hb1
    · rcases ho.2 with ⟨rfl, _⟩ | ⟨g, cap, cur, rfl, _, hgg, _⟩
      · simp [Value.ownBlock] at hE
      · simp [Value.ownBlock] at hE
        subst hE
        rw [hgg] at hk
        cases hk
        simp [keeps] at hko
  refine ⟨b, cap, w', hr, h2, ⟨⟨h3.os, h3.tape, h3.output, Nat.le_trans hb1.size h3.size, fun k hk => ?_⟩, hgb⟩, fun k hk hne => ?_, ?_⟩
  · rw [h3.block k (by simp; omega) (fun hE => by have := (ho.lt k hE.symm).1; omega)]
    exact hb1.block k (by omega)
  · rw [h3.block k (by simp; omega) hne]
    exact hb1.block k hk
  · rw [hbb] at h5
    simpa using h5
theorem own_sla_b (pb : Option Nat) (n cap : Nat) : (Value.slice (sla pb) n cap).ownBlock = pb := by cases pb <;> rfl
abbrev gtO (n s g e : Int) : Obj := .cells #[i64 n, i64 s, i64 g, i64 e] 83
theorem load83 {W : World} {b : Nat} {n s g e : Int} (h : W.heap[b]? = some (gtO n s g e)) : (loadVar 83 ⟨b, 0, none⟩).run Try.prog W = .ok (.agg #[i64 n, i64 s, i64 g, i64 e]) W := by
  have h0 := bkc h 0
  have h1 := bkc h 1
  have h2 := bkc h 2
  have h3 := bkc h 3
  simp [go_sem, h0, h1, h2, h3]
theorem set83 {V : World} {b : Nat} {n s g e : Int} (h : V.heap[b]? = some (gtO n s g e)) (x1 x2 x3 x4 : Int) : ((((V.setCell ⟨b, 0, none⟩ (i64 x1)).setCell ⟨b, 1, none⟩ (i64 x2)).setCell ⟨b, 2, none⟩ (i64 x3)).setCell ⟨b, 3, none⟩ (i64 x4)).heap[b]? = some (gtO x1 x2 x3 x4) := by
  have h1 := heap_setCell_same V b 0 _ 83 (i64 x1) h
  have h2 := heap_setCell_same _ b 1 _ 83 (i64 x2) h1
  have h3 := heap_setCell_same _ b 2 _ 83 (i64 x3) h2
  have h4 := heap_setCell_same _ b 3 _ 83 (i64 x4) h3
  simpa using h4
theorem bel83 {w V : World} {B b : Nat} (h : Below B w V) (hb : B ≤ b) (x1 x2 x3 x4 : Value) : Below B w ((((V.setCell ⟨b, 0, none⟩ x1).setCell ⟨b, 1, none⟩ x2).setCell ⟨b, 2, none⟩ x3).setCell ⟨b, 3, none⟩ x4) := (((h.setCell hb _).setCell hb _).setCell hb _).setCell hb _
section
variable {w U : World} {base d : Nat} {y : Dx} {t : Qt.T} {s : Qt.St} {C : List Cp.Rw} {Rs : List Rt} {P : List Int} {pb : Option Nat}
theorem Dd.set83 (h : Dd U base d y t s C Rs P) {b : Nat} {n sl g e : Int} (hG : U.heap[b]? = some (gtO n sl g e)) (x1 x2 x3 x4 : Value) : Dd ((((U.setCell ⟨b, 0, none⟩ x1).setCell ⟨b, 1, none⟩ x2).setCell ⟨b, 2, none⟩ x3).setCell ⟨b, 3, none⟩ x4) base d y t s C Rs P :=
  h.same fun k o hk ho => by
    have hne : k ≠ b := fun e => by
      rw [e, hG] at hk
      cases hk
      simp [isD] at ho
    rw [Below.heap_setCell _ _ _ _ hne, Below.heap_setCell _ _ _ _ hne, Below.heap_setCell _ _ _ _ hne, Below.heap_setCell _ _ _ _ hne]
    exact hk
theorem Df.set83 (h : Df base pb w U) (hlo : base ≤ w.heap.size) {b : Nat} (hb : w.heap.size ≤ b) (x1 x2 x3 x4 : Value) : Df base pb w ((((U.setCell ⟨b, 0, none⟩ x1).setCell ⟨b, 1, none⟩ x2).setCell ⟨b, 2, none⟩ x3).setCell ⟨b, 3, none⟩ x4) :=
  ⟨bel83 h.below (by omega) _ _ _ _, fun k o hk ho => by
    have hne : k ≠ b := by have := blk_lt hk; omega
    rw [Below.heap_setCell _ _ _ _ hne, Below.heap_setCell _ _ _ _ hne, Below.heap_setCell _ _ _ _ hne, Below.heap_setCell _ _ _ _ hne]
    exact h.kept k o hk ho⟩
theorem dd_set3 {V : World} {d : Nat} {a b c e : Value} (h : V.heap[d]? = some (.cells #[a, b, c, e] 79)) (u : Value) : (V.setCell ⟨d, 3, none⟩ u).heap[d]? = some (.cells #[a, b, c, u] 79) := by
  have := heap_setCell_same V d 3 _ 79 u h
  simpa using this
theorem Dd.lists (h : Dd w base d y t s C Rs P) {Rs' : List Rt} {P' : List Int} {pb' : Option Nat} {vR : Value} {cap : Nat} (hd : U.heap[d]? = some (ddO y.kc y.kb vR (.slice (sla pb') P'.length cap))) (hR : U.ownsRow base 101 4 vR Rs'.length (tcs Rs')) (hP : U.ownsRow base 3 1 (.slice (sla pb') P'.length cap) P'.length (icells P')) (hk : ∀ (k : Nat) (A : Array Value) (ty : TypeId), w.heap[k]? = some (.cells A ty) → (ty = 99 ∨ ty = 96 ∨ ty = 126 ∨ ty = 128) → U.heap[k]? = some (.cells A ty)) : Dd U base d ⟨y.kc, y.kb, pb'⟩ t s C Rs' P' := by
  obtain ⟨Q, hQ, hB⟩ := h.bk
  refine ⟨h.lo, ⟨vR, cap, hd, hR, hP⟩, h.cp.same (fun k o ho hx => ?_), ⟨Q, hQ, hB.same (fun k o ho hx => ?_)⟩, h.wf⟩
  · obtain ⟨A, rfl | rfl⟩ := hx
    · exact hk k A _ ho (by simp)
    · exact hk k A _ ho (by simp)
  · obtain ⟨A, rfl | rfl⟩ := hx
    · exact hk k A _ ho (by simp)
    · exact hk k A _ ho (by simp)
end
structure SqD (d kc : Nat) (v u : Value) (W : World) : Prop where
  d0 : W.cell? ⟨d, 0, none⟩ = some (pq kc)
  d2 : W.cell? ⟨d, 2, none⟩ = some v
  k0 : W.cell? ⟨kc, 0, none⟩ = some u
theorem SqD.of {d kc kb : Nat} {v u vp : Value} {W : World} (h : W.heap[d]? = some (ddO kc kb v vp)) (k : W.heap[kc]? = some (.cells #[u] 99)) : SqD d kc v u W := ⟨bkc h 0, bkc h 2, bkc k 0⟩
theorem left_ix (a b c kind : Int) (h1 : 1 ≤ kind) (h3 : kind ≤ 3) (W : World) : (Instr.index 22 (.agg #[i64 a, i64 b, i64 c]) (i64 (kind - 1))).run Try.prog W = .ok (i64 ((⟨a, b, c⟩ : Qt.T).g kind)) W := by
  obtain rfl | rfl | rfl : kind = 1 ∨ kind = 2 ∨ kind = 3 := by omega
  all_goals kernel_rfl
theorem tk_cases {s : Qt.St} {env kind E : Int} (h : Qt.tkE (Qt.at_ s env) kind 1 = E) : (Qt.at_ s env = none ∧ E = 6) ∨ ∃ x, Qt.at_ s env = some x ∧ ((kind < 1 ∧ E = 1) ∨ (3 < kind ∧ E = 1) ∨ (1 ≤ kind ∧ kind ≤ 3 ∧ x.q.g kind - x.h.g kind < 1 ∧ E = 100) ∨ (1 ≤ kind ∧ kind ≤ 3 ∧ 1 ≤ x.q.g kind - x.h.g kind ∧ E = 0)) := by
  cases hx : Qt.at_ s env with
  | none => rw [hx] at h; exact Or.inl ⟨rfl, h.symm⟩
  | some x =>
    rw [hx] at h
    refine Or.inr ⟨x, rfl, ?_⟩
    unfold Qt.tkE at h
    simp only at h
    by_cases hw : Qt.wrongB kind 1 = true
    · rw [if_pos hw] at h
      unfold Qt.wrongB at hw
      simp at hw
      omega
    · rw [if_neg hw] at h
      unfold Qt.wrongB at hw
      simp at hw
      by_cases hg : x.q.g kind - x.h.g kind < 1
      · rw [if_pos hg] at h; omega
      · rw [if_neg hg] at h; omega
theorem sub_g (q h : Qt.T) (kind : Int) : (Qt.sub q h).g kind = q.g kind - h.g kind := by
  unfold Qt.T.g Qt.sub
  by_cases e1 : kind = 1
  · rw [if_pos e1, if_pos e1, if_pos e1]
  · rw [if_neg e1, if_neg e1, if_neg e1]
    by_cases e2 : kind = 2
    · rw [if_pos e2, if_pos e2, if_pos e2]
    · rw [if_neg e2, if_neg e2, if_neg e2]
set_option maxHeartbeats 2000000 in
theorem rbind_no {w : World} {base d : Nat} {y : Dx} {t : Qt.T} {s : Qt.St} {C : List Cp.Rw} {Rs : List Rt} {P : List Int} (h : Dd w base d y t s C Rs P) (env kind E : Int) (htk : Qt.tkE (Qt.at_ s env) kind 1 = E) (hne : ¬ E = 0) :
    Calls Try.prog 34 #[pq d, i64 env, i64 kind] w fun e w' => e = .returned (.agg #[i64 0, i64 0, i64 0, i64 E]) ∧ Below w.heap.size w w' := by
  obtain ⟨Q, hQ, hB⟩ := h.bk
  have HA0 : Hid (∀ W, Below w.heap.size w W → Calls Try.prog 46 #[pq y.kb, i64 env] W fun e w' => (∃ i : Int, e = .returned (i64 i) ∧ (i = -1 ∧ Qt.at_ s env = none ∨ ∃ (k : Nat) (x : Qt.Pge), i = k ∧ Qt.at_ s env = some x ∧ Q[k]? = some ⟨env, x.q, x.h⟩)) ∧ Below W.heap.size W w') := fun W hW => rat_rel (hB.below hW) hQ env
  have HLf : Hid (∀ W, Below w.heap.size w W → ∀ (k : Nat) (x : Qt.Pge), Qt.at_ s env = some x → Q[k]? = some ⟨env, x.q, x.h⟩ → Calls Try.prog 47 #[pq y.kb, i64 k] W fun e w' => e = .returned (Qt.sub x.q x.h).v ∧ Below W.heap.size W w') := fun W hW k x hx hk => Qt.rleft_ok (hB.below hW) hQ.le3 k _ hk (h.wf.le_at (Qt.at_some hx).2.2) (h.wf.le64 (Qt.at_some hx).2.2)
  have HLE : Hid (∀ x, Qt.at_ s env = some x → Qt.Le x.h x.q) := fun x hx => h.wf.le_at (Qt.at_some hx).2.2
  obtain ⟨V, hV⟩ : ∃ V, V = w.alloc (gtO 0 0 0 0) := ⟨_, rfl⟩
  have HV : Hid (w.alloc (.cells #[i64 0, i64 0, i64 0, i64 0] 83) = V) := hV.symm
  have hbV : Below w.heap.size w V := by rw [hV]; exact bl1 w _
  have HG : Hid (V.heap[w.heap.size]? = some (gtO 0 0 0 0)) := by rw [hV]; exact hlx w _
  have HBV := hid hbV
  obtain ⟨ao, cap, pc, hbk, _⟩ := (h.below hbV).row
  have HBK := hid hbk
  have d1 : V.cell? ⟨d, 1, none⟩ = some (pq y.kb) := bkc hbk 1
  have hc := tk_cases htk
  have HC := hid hc
  have HNE := hid hne
  clear h hQ hB hV hbV hbk htk hc hne
  go_enter Try.func34, Try.ntmps34
  go_upto_region 1 with fail
  rw [HV.out]
  go_wp2_with fail
  refine (HA0.out V HBV.out).mono ?_
  rintro e w1 ⟨⟨i, rfl, hi⟩, hb1⟩
  have HB1 : Hid (Below w.heap.size w w1) := HBV.out.trans (hb1.mono HBV.out.size)
  have HG1 := hid (bkb HG.out hb1)
  have HBK1 := hid (bkb HBK.out hb1)
  clear hb1 d1
  have fin : ∀ (U : World) (E' : Int), Below w.heap.size w U → U.heap[w.heap.size]? = some (gtO 0 0 0 0) → E = E' → (loadVar 83 ⟨w.heap.size, 0, none⟩).run Try.prog ((((U.setCell ⟨w.heap.size, 0, none⟩ (i64 0)).setCell ⟨w.heap.size, 1, none⟩ (i64 0)).setCell ⟨w.heap.size, 2, none⟩ (i64 0)).setCell ⟨w.heap.size, 3, none⟩ (i64 E')) = .ok (.agg #[i64 0, i64 0, i64 0, i64 E]) ((((U.setCell ⟨w.heap.size, 0, none⟩ (i64 0)).setCell ⟨w.heap.size, 1, none⟩ (i64 0)).setCell ⟨w.heap.size, 2, none⟩ (i64 0)).setCell ⟨w.heap.size, 3, none⟩ (i64 E')) := fun U E' _ hU he => by
    rw [he]
    exact load83 (set83 hU _ _ _ _)
  have FIN := hid fin
  clear fin
  rcases hi with ⟨rfl, hx⟩ | ⟨k, x, rfl, hx, hk⟩
  · have HE : Hid (E = 6) := by
      rcases HC.out with ⟨_, h2⟩ | ⟨x, h1, _⟩
      · exact h2
      · rw [hx] at h1; cases h1
    clear hx HC
    have g0 : w1.cell? ⟨w.heap.size, 0, none⟩ = some (i64 0) := bkc HG1.out 0
    have g1 : w1.cell? ⟨w.heap.size, 1, none⟩ = some (i64 0) := bkc HG1.out 1
    have g2 : w1.cell? ⟨w.heap.size, 2, none⟩ = some (i64 0) := bkc HG1.out 2
    have g3 : w1.cell? ⟨w.heap.size, 3, none⟩ = some (i64 0) := bkc HG1.out 3
    have gf : ∀ j, w1.frozen? ⟨w.heap.size, j, none⟩ = false := bkf HG1.out
    go_wp2_with fail
    exact bodyPost_ret (Cp.results_one Try.results34 rfl (FIN.out w1 6 HB1.out HG1.out HE.out)) rfl ⟨rfl, bel83 HB1.out (Nat.le_refl _) _ _ _ _⟩
  · have hcs : (kind < 1 ∧ E = 1) ∨ (3 < kind ∧ E = 1) ∨ (1 ≤ kind ∧ kind ≤ 3 ∧ x.q.g kind - x.h.g kind < 1 ∧ E = 100) := by
      rcases HC.out with ⟨h1, _⟩ | ⟨x', h1, h2⟩
      · rw [hx] at h1; cases h1
      · rw [hx] at h1
        cases h1
        have := HNE.out
        rcases h2 with h2 | h2 | h2 | ⟨_, _, _, h2⟩
        · exact Or.inl h2
        · exact Or.inr (Or.inl h2)
        · exact Or.inr (Or.inr h2)
        · exact absurd h2 this
    have HX := hid hx
    have HKk := hid hk
    have hdk : decide ((k : Int) < 0) = false := decide_eq_false (by omega)
    clear hx hk HC HNE
    rcases hcs with ⟨hk1, hE⟩ | ⟨hk1, hE⟩ | ⟨hk1, hk3, hz, hE⟩
    · have HE := hid hE
      clear hE
      have g0 : w1.cell? ⟨w.heap.size, 0, none⟩ = some (i64 0) := bkc HG1.out 0
      have g1 : w1.cell? ⟨w.heap.size, 1, none⟩ = some (i64 0) := bkc HG1.out 1
      have g2 : w1.cell? ⟨w.heap.size, 2, none⟩ = some (i64 0) := bkc HG1.out 2
      have g3 : w1.cell? ⟨w.heap.size, 3, none⟩ = some (i64 0) := bkc HG1.out 3
      have gf : ∀ j, w1.frozen? ⟨w.heap.size, j, none⟩ = false := bkf HG1.out
      go_wp2_with fail
      exact bodyPost_ret (Cp.results_one Try.results34 rfl (FIN.out w1 1 HB1.out HG1.out HE.out)) rfl ⟨rfl, bel83 HB1.out (Nat.le_refl _) _ _ _ _⟩
    · have HE := hid hE
      clear hE
      have g0 : w1.cell? ⟨w.heap.size, 0, none⟩ = some (i64 0) := bkc HG1.out 0
      have g1 : w1.cell? ⟨w.heap.size, 1, none⟩ = some (i64 0) := bkc HG1.out 1
      have g2 : w1.cell? ⟨w.heap.size, 2, none⟩ = some (i64 0) := bkc HG1.out 2
      have g3 : w1.cell? ⟨w.heap.size, 3, none⟩ = some (i64 0) := bkc HG1.out 3
      have gf : ∀ j, w1.frozen? ⟨w.heap.size, j, none⟩ = false := bkf HG1.out
      have hd1 : decide (kind < 1) = false := decide_eq_false (by omega)
      go_wp2_with fail
      exact bodyPost_ret (Cp.results_one Try.results34 rfl (FIN.out w1 1 HB1.out HG1.out HE.out)) rfl ⟨rfl, bel83 HB1.out (Nat.le_refl _) _ _ _ _⟩
    · have HE := hid hE
      have hz2 : (Qt.sub x.q x.h).g kind < 1 := by rw [sub_g]; exact hz
      have hz3 : 0 ≤ (Qt.sub x.q x.h).g kind := by have := g_le (HLE.out x HX.out) kind; rw [sub_g]; omega
      have hz4 : (Qt.sub x.q x.h).g kind = 0 := by omega
      have HZ := hid hz4
      have HLF := hid (HLf.out w1 HB1.out k x HX.out HKk.out)
      have d1 : w1.cell? ⟨d, 1, none⟩ = some (pq y.kb) := bkc HBK1.out 1
      clear hE hz hz2 hz3 hz4 HLf HA0
      generalize Qt.sub x.q x.h = lf at *
      obtain ⟨la, lb, lc⟩ := lf
      go_wp2_with fail
      refine HLF.out.mono ?_
      rintro e w2 ⟨rfl, hb2⟩
      have HB2 : Hid (Below w.heap.size w w2) := HB1.out.trans (hb2.mono HB1.out.size)
      have HG2 := hid (bkb HG1.out hb2)
      have g0 : w2.cell? ⟨w.heap.size, 0, none⟩ = some (i64 0) := bkc HG2.out 0
      have g1 : w2.cell? ⟨w.heap.size, 1, none⟩ = some (i64 0) := bkc HG2.out 1
      have g2 : w2.cell? ⟨w.heap.size, 2, none⟩ = some (i64 0) := bkc HG2.out 2
      have g3 : w2.cell? ⟨w.heap.size, 3, none⟩ = some (i64 0) := bkc HG2.out 3
      have gf : ∀ j, w2.frozen? ⟨w.heap.size, j, none⟩ = false := bkf HG2.out
      have hix := left_ix la lb lc kind hk1 hk3 w2
      rw [HZ.out] at hix
      clear hb2 d1 HLF
      unfold Qt.T.v
      go_wp2_with fail
      exact bodyPost_ret (Cp.results_one Try.results34 rfl (FIN.out w2 100 HB2.out HG2.out HE.out)) rfl ⟨rfl, bel83 HB2.out (Nat.le_refl _) _ _ _ _⟩
set_option maxHeartbeats 2000000 in
theorem rbind_full {w : World} {base d : Nat} {y : Dx} {t : Qt.T} {s : Qt.St} {C : List Cp.Rw} {Rs : List Rt} {P : List Int} (h : Dd w base d y t s C Rs P) (env kind : Int) (htk : Qt.tkE (Qt.at_ s env) kind 1 = 0) (hpl1 : P.length ≤ 1000) (hpl : P.length = C.length) (hfu : 42 ≤ pdN C P env) :
    Calls Try.prog 34 #[pq d, i64 env, i64 kind] w fun e w' => e = .returned (.agg #[i64 0, i64 0, i64 0, i64 5]) ∧ Below w.heap.size w w' := by
  obtain ⟨Q, hQ, hB⟩ := h.bk
  obtain ⟨x, hx, hk1, hk3, hz⟩ : ∃ x, Qt.at_ s env = some x ∧ 1 ≤ kind ∧ kind ≤ 3 ∧ 1 ≤ x.q.g kind - x.h.g kind := by
    rcases tk_cases htk with ⟨_, h2⟩ | ⟨x, h1, h2⟩
    · cases h2
    · rcases h2 with ⟨_, h2⟩ | ⟨_, h2⟩ | ⟨_, _, _, h2⟩ | ⟨h3, h4, h5, _⟩
      · cases h2
      · cases h2
      · cases h2
      · exact ⟨x, h1, h3, h4, h5⟩
  obtain ⟨k0, hk0, hi0⟩ := hQ.has hx
  have HA0 : Hid (∀ W, Below w.heap.size w W → Calls Try.prog 46 #[pq y.kb, i64 env] W fun e w' => e = .returned (i64 (k0 : Nat)) ∧ Below W.heap.size W w') := fun W hW => by
    have := Qt.rat_ok (hB.below hW) hQ.le3 env
    rw [hi0] at this
    exact this
  have HLf : Hid (∀ W, Below w.heap.size w W → Calls Try.prog 47 #[pq y.kb, i64 (k0 : Nat)] W fun e w' => e = .returned (Qt.sub x.q x.h).v ∧ Below W.heap.size W w') := fun W hW => Qt.rleft_ok (hB.below hW) hQ.le3 k0 _ hk0 (h.wf.le_at (Qt.at_some hx).2.2) (h.wf.le64 (Qt.at_some hx).2.2)
  have HPd : Hid (∀ W, Below w.heap.size w W → Calls Try.prog 42 #[pq d, i64 env] W fun e w' => e = .returned (i64 (pdN C P env : Nat)) ∧ Below W.heap.size W w') := fun W hW => rpaid_ok (h.below hW) hpl1 hpl env
  have hpdL : (pdN C P env : Int) ≤ 1000 := by have := Cp.cnt_le P.length (pdB C P env); unfold pdN; omega
  obtain ⟨V, hV⟩ : ∃ V, V = w.alloc (gtO 0 0 0 0) := ⟨_, rfl⟩
  have HV : Hid (w.alloc (.cells #[i64 0, i64 0, i64 0, i64 0] 83) = V) := hV.symm
  have hbV : Below w.heap.size w V := by rw [hV]; exact bl1 w _
  have HG : Hid (V.heap[w.heap.size]? = some (gtO 0 0 0 0)) := by rw [hV]; exact hlx w _
  have HBV := hid hbV
  have HH := hid h
  have hlo := h.lo'
  obtain ⟨ao0, cap0, pc0, hbk, _⟩ := (h.below hbV).row
  have HBK := hid hbk
  have d1 : V.cell? ⟨d, 1, none⟩ = some (pq y.kb) := bkc hbk 1
  have hdk : decide ((k0 : Int) < 0) = false := decide_eq_false (by omega)
  have hd1 : decide (kind < 1) = false := decide_eq_false (by omega)
  have hd3 : decide (3 < kind) = false := decide_eq_false (by omega)
  have hlz : ((Qt.sub x.q x.h).g kind == 0) = false := by rw [sub_g]; simp; omega
  have HLZ := hid hlz
  have hpd : (42 : Int) ≤ (pdN C P env : Int) := by omega
  clear h hQ hB hV hbV hbk htk hz hx hk0 hi0 hlz hpl hpl1 hfu
  generalize pdN C P env = pd at *
  generalize Qt.sub x.q x.h = lf at *
  obtain ⟨la, lb, lc⟩ := lf
  go_enter Try.func34, Try.ntmps34
  go_upto_region 1 with fail
  rw [HV.out]
  go_wp2_with fail
  refine (HA0.out V HBV.out).mono ?_
  rintro e w1 ⟨rfl, hb1⟩
  have HB1 : Hid (Below w.heap.size w w1) := HBV.out.trans (hb1.mono HBV.out.size)
  have HG1 := hid (bkb HG.out hb1)
  have HBK1 := hid (bkb HBK.out hb1)
  clear hb1 d1 HBK HG HBV
  have d1 : w1.cell? ⟨d, 1, none⟩ = some (pq y.kb) := bkc HBK1.out 1
  go_wp2_with fail
  refine (HLf.out w1 HB1.out).mono ?_
  rintro e w2 ⟨rfl, hb2⟩
  have HB2 : Hid (Below w.heap.size w w2) := HB1.out.trans (hb2.mono HB1.out.size)
  have HG2 := hid (bkb HG1.out hb2)
  clear hb2 d1 HB1 HG1 HBK1
  have hix := left_ix la lb lc kind hk1 hk3 w2
  have hlz := HLZ.out
  generalize (Qt.T.mk la lb lc).g kind = lg at *
  unfold Qt.T.v
  go_wp2_with fail
  refine (HPd.out w2 HB2.out).mono ?_
  rintro e w3 ⟨rfl, hb3⟩
  have HB3 : Hid (Below w.heap.size w w3) := HB2.out.trans (hb3.mono HB2.out.size)
  have HG3 := hid (bkb HG2.out hb3)
  clear hb3 HB2 HG2 hix hlz
  have g0 : w3.cell? ⟨w.heap.size, 0, none⟩ = some (i64 0) := bkc HG3.out 0
  have g1 : w3.cell? ⟨w.heap.size, 1, none⟩ = some (i64 0) := bkc HG3.out 1
  have g2 : w3.cell? ⟨w.heap.size, 2, none⟩ = some (i64 0) := bkc HG3.out 2
  have g3 : w3.cell? ⟨w.heap.size, 3, none⟩ = some (i64 0) := bkc HG3.out 3
  have gf : ∀ j, w3.frozen? ⟨w.heap.size, j, none⟩ = false := bkf HG3.out
  go_wp2_with fail
  exact bodyPost_ret (Cp.results_one Try.results34 rfl (load83 (set83 HG3.out 0 0 0 5))) rfl ⟨rfl, bel83 HB3.out (Nat.le_refl _) _ _ _ _⟩
set_option maxHeartbeats 6400000 in
theorem rbind_ok {w : World} {base d : Nat} {y : Dx} {t : Qt.T} {s : Qt.St} {C : List Cp.Rw} {Rs : List Rt} {P : List Int} (h : Dd w base d y t s C Rs P) (env kind : Int) (htk : Qt.tkE (Qt.at_ s env) kind 1 = 0) (hpl1 : P.length ≤ 1000) (hpl : P.length = C.length) (hfu : pdN C P env < 42) (hl : Rs.length ≤ 900) (nn : Nat) (hn64 : nn < 64) (hnn : fnI Rs kind (nn : Nat) = -1) (hlow : ∀ j : Nat, j < nn → ∃ k : Nat, fnI Rs kind (j : Nat) = k) (hcl : C.length ≤ 900)
    (hcr : Cp.rightB ⟨env, kind, (nn : Nat), 3⟩ = true) (sl : Nat) (hsl : sl < 128) (h0 : Cp.atI C (sl : Nat) = -1) (hno : ∀ j : Nat, j < sl → ∃ k : Nat, Cp.atI C (j : Nat) = k) (gn : Int) (hgn : gn = (Cp.cnS C (sl : Nat) : Int) + 1) :
    Calls Try.prog 34 #[pq d, i64 env, i64 kind] w fun e w' => e = .returned (.agg #[i64 (nn : Nat), i64 (sl : Nat), i64 gn, i64 0]) ∧ ∃ pb', PbOk w y.pb pb' ∧ Dd w' base d ⟨y.kc, y.kb, pb'⟩ t (Qt.tkS s env kind 1) (C ++ [⟨⟨env, kind, (nn : Nat), 3⟩, (sl : Nat), gn, -1, true⟩]) (Rs ++ [⟨kind, (nn : Nat), env, (C.length : Nat)⟩]) (P ++ [env]) ∧ Df base y.pb w w' := by
  obtain ⟨Q, hQ, hB⟩ := h.bk
  obtain ⟨x, hx, hk1, hk3, hz⟩ : ∃ x, Qt.at_ s env = some x ∧ 1 ≤ kind ∧ kind ≤ 3 ∧ 1 ≤ x.q.g kind - x.h.g kind := by
    rcases tk_cases htk with ⟨_, h2⟩ | ⟨x, h1, h2⟩
    · cases h2
    · rcases h2 with ⟨_, h2⟩ | ⟨_, h2⟩ | ⟨_, _, _, h2⟩ | ⟨h3, h4, h5, _⟩
      · cases h2
      · cases h2
      · cases h2
      · exact ⟨x, h1, h3, h4, h5⟩
  obtain ⟨k0, hk0, hi0⟩ := hQ.has hx
  have HA0 : Hid (∀ W, Below w.heap.size w W → Calls Try.prog 46 #[pq y.kb, i64 env] W fun e w' => e = .returned (i64 (k0 : Nat)) ∧ Below W.heap.size W w') := fun W hW => by
    have := Qt.rat_ok (hB.below hW) hQ.le3 env
    rw [hi0] at this
    exact this
  have HLf : Hid (∀ W, Below w.heap.size w W → Calls Try.prog 47 #[pq y.kb, i64 (k0 : Nat)] W fun e w' => e = .returned (Qt.sub x.q x.h).v ∧ Below W.heap.size W w') := fun W hW => Qt.rleft_ok (hB.below hW) hQ.le3 k0 _ hk0 (h.wf.le_at (Qt.at_some hx).2.2) (h.wf.le64 (Qt.at_some hx).2.2)
  have HPd : Hid (∀ W, Below w.heap.size w W → Calls Try.prog 42 #[pq d, i64 env] W fun e w' => e = .returned (i64 (pdN C P env : Nat)) ∧ Below W.heap.size W w') := fun W hW => rpaid_ok (h.below hW) hpl1 hpl env
  have hpdL : (pdN C P env : Int) ≤ 1000 := by have := Cp.cnt_le P.length (pdB C P env); unfold pdN; omega
  obtain ⟨V, hV⟩ : ∃ V, V = w.alloc (gtO 0 0 0 0) := ⟨_, rfl⟩
  have HV : Hid (w.alloc (.cells #[i64 0, i64 0, i64 0, i64 0] 83) = V) := hV.symm
  have hbV : Below w.heap.size w V := by rw [hV]; exact bl1 w _
  have HG : Hid (V.heap[w.heap.size]? = some (gtO 0 0 0 0)) := by rw [hV]; exact hlx w _
  have HBV := hid hbV
  have HH := hid h
  have hlo := h.lo'
  obtain ⟨ao0, cap0, pc0, hbk, _⟩ := (h.below hbV).row
  have HBK := hid hbk
  have d1 : V.cell? ⟨d, 1, none⟩ = some (pq y.kb) := bkc hbk 1
  have hdk : decide ((k0 : Int) < 0) = false := decide_eq_false (by omega)
  have hd1 : decide (kind < 1) = false := decide_eq_false (by omega)
  have hd3 : decide (3 < kind) = false := decide_eq_false (by omega)
  have hlz : ((Qt.sub x.q x.h).g kind == 0) = false := by rw [sub_g]; simp; omega
  have HLZ := hid hlz
  have hpd : (pdN C P env : Int) < 42 := by omega
  have HFn : Hid (∀ W, Below w.heap.size w W → ∀ j : Nat, Calls Try.prog 45 #[pq d, i64 kind, i64 (j : Nat)] W fun e w' => e = .returned (i64 (fnI Rs kind (j : Nat))) ∧ Below W.heap.size W w') := fun W hW j => rfnd_ok (h.below hW) (by omega) kind (j : Nat)
  have HMi : Hid (∀ W, Dd W base d y t s C Rs P → Calls Try.prog 68 #[pq y.kc, .agg #[i64 env, i64 kind, i64 (nn : Nat), i64 3, i64 0, i64 0, i64 0, .bool false]] W fun e w' => e = .returned (.agg #[i64 (sl : Nat), i64 gn, i64 0]) ∧ Dd w' base d y t s (C ++ [⟨⟨env, kind, (nn : Nat), 3⟩, (sl : Nat), gn, -1, true⟩]) Rs P ∧ Df base y.pb W w' ∧ Fr base [99, 96] W w') := fun W hW => by
    rw [hgn]
    exact (Cp.rmint_ok hW.cp hcl ⟨env, kind, (nn : Nat), 3⟩ hcr sl hsl h0 hno).mono fun e w' ⟨he, hb, hf⟩ => ⟨he, hW.caps hb hf, Df.of_caps hf, hf⟩
  have HTk : Hid (∀ W C', Dd W base d y t s C' Rs P → Calls Try.prog 69 #[pq y.kb, i64 env, .agg #[i64 kind, i64 1], .bool false] W fun e w' => e = .returned (i64 0) ∧ Dd w' base d y t (Qt.tkS s env kind 1) C' Rs P ∧ Df base y.pb W w' ∧ Fr base [126, 128] W w') := fun W C' hW => by
    obtain ⟨Q2, hQ2, hB2⟩ := hW.bk
    have := Qt.rtake_rel hB2 hQ2 hW.wf env kind 1
    rw [htk] at this
    exact this.mono fun e w' ⟨he, Q', hQ', hB', hf⟩ => ⟨he, hW.book hQ' (wf_tk hW.wf env kind 1) hB' hf, Df.of_book hf, hf⟩
  have HNN := hid hnn
  have HLOW := hid hlow
  have hcl2 : C.length ≤ 900 := hcl
  have HPL := hid hpl
  obtain ⟨C1, hC1⟩ : ∃ C1, C1 = C ++ [⟨⟨env, kind, (nn : Nat), 3⟩, (sl : Nat), gn, -1, true⟩] := ⟨_, rfl⟩
  have HC1 : Hid (C1.length = C.length + 1) := hid (by rw [hC1]; simp)
  rw [← hC1] at HMi ⊢
  obtain ⟨M, hM⟩ : ∃ M, M = C.length := ⟨_, rfl⟩
  have HM := hid hM
  have hM9 : (M : Int) ≤ 900 := by omega
  have HWM : Hid (IntKind.i64.wrap (M : Int) = (M : Int)) := hid (wrapI (by omega) (by omega))
  obtain ⟨s1, hs1⟩ : ∃ s1, s1 = Qt.tkS s env kind 1 := ⟨_, rfl⟩
  rw [← hs1] at HTk ⊢
  rw [← hM]
  have hRl : Rs.length ≤ 900 := hl
  have hPl : P.length ≤ 1000 := hpl1
  clear h hQ hB hV hbV hbk htk hz hx hk0 hi0 hlz hpl hpl1 hfu hnn hlow hcl hcr h0 hno hgn hC1 hM hs1 hl hsl hcl2
  generalize pdN C P env = pd at *
  generalize Qt.sub x.q x.h = lf at *
  obtain ⟨la, lb, lc⟩ := lf
  go_enter Try.func34, Try.ntmps34
  go_upto_region 1 with fail
  rw [HV.out]
  go_wp2_with fail
  refine (HA0.out V HBV.out).mono ?_
  rintro e w1 ⟨rfl, hb1⟩
  have HB1 : Hid (Below w.heap.size w w1) := HBV.out.trans (hb1.mono HBV.out.size)
  have HG1 := hid (bkb HG.out hb1)
  have HBK1 := hid (bkb HBK.out hb1)
  clear hb1 d1 HBK HG HBV
  have d1 : w1.cell? ⟨d, 1, none⟩ = some (pq y.kb) := bkc HBK1.out 1
  go_wp2_with fail
  refine (HLf.out w1 HB1.out).mono ?_
  rintro e w2 ⟨rfl, hb2⟩
  have HB2 : Hid (Below w.heap.size w w2) := HB1.out.trans (hb2.mono HB1.out.size)
  have HG2 := hid (bkb HG1.out hb2)
  clear hb2 d1 HB1 HG1 HBK1
  have hix := left_ix la lb lc kind hk1 hk3 w2
  have hlz := HLZ.out
  generalize (Qt.T.mk la lb lc).g kind = lg at *
  unfold Qt.T.v
  go_wp2_with fail
  refine (HPd.out w2 HB2.out).mono ?_
  rintro e w3 ⟨rfl, hb3⟩
  have HB3 : Hid (Below w.heap.size w w3) := HB2.out.trans (hb3.mono HB2.out.size)
  have HG3 := hid (bkb HG2.out hb3)
  clear hb3 HB2 HG2 hix hlz
  go_wp2_with fail
  go_loopw [8] (fun u wr => ∃ j : Nat, j ≤ nn ∧ u = i64 (j : Nat) ∧ Hid (Below w3.heap.size w3 wr)) (fun u _ => nn - (intOf u).toNat)
  case atStart => exact ⟨0, by omega, rfl, Below.refl _ _⟩
  case round =>
    obtain ⟨j, hj, rfl, HBr⟩ := hrel
    have HBw : Hid (Below w.heap.size w wr) := HB3.out.trans (HBr.out.mono HB3.out.size)
    have hA := HFn.out wr HBw.out j
    by_cases hlt : j < nn
    · obtain ⟨i, hi⟩ := HLOW.out j hlt
      rw [hi] at hA
      have HA := hid hA
      have hdi : decide ((0 : Int) ≤ (i : Int)) = true := decide_eq_true (by omega)
      have hjI : (j : Int) < 64 := by omega
      clear hA hi
      go_wp2_with fail
      refine HA.out.mono ?_
      rintro e w4 ⟨rfl, hb4⟩
      have HB4 : Hid (Below w3.heap.size w3 w4) := HBr.out.trans (hb4.mono HBr.out.size)
      clear hb4
      go_wp2_with fail
      exact ⟨⟨j + 1, by omega, by go_num, HB4⟩, by simp [intOf]; omega⟩
    · obtain rfl : j = nn := by omega
      rw [HNN.out] at hA
      have HA := hid hA
      clear hA
      go_wp2_with fail
      refine HA.out.mono ?_
      rintro e w4 ⟨rfl, hb4⟩
      have hb34 : Below w3.heap.size w3 w4 := HBr.out.trans (hb4.mono HBr.out.size)
      have HB4 : Hid (Below w.heap.size w w4) := HBw.out.trans (hb4.mono HBw.out.size)
      have HG4 := hid (bkb HG3.out hb34)
      have HD4 : Hid (Dd w4 base d y t s C Rs P) := HH.out.below HB4.out
      obtain ⟨ao4, cap4, pc4, hbk4, _⟩ := HD4.out.row
      have d0 : w4.cell? ⟨d, 0, none⟩ = some (pq y.kc) := bkc hbk4 0
      clear hb4 hb34 HBr HBw HG3 HB3 HA hbk4
      go_wp2_with fail
      refine (HMi.out w4 HD4.out).mono ?_
      rintro e w5 ⟨rfl, hd5, hf5, hr5⟩
      have HD5 : Hid (Dd (w5.alloc (.cells #[i64 (sl : Nat), i64 gn, i64 0] 130)) base d y t s C1 Rs P) := hd5.below (bl1 w5 _)
      have HF5 : Hid (Df base y.pb w (w5.alloc (.cells #[i64 (sl : Nat), i64 gn, i64 0] 130))) := ((Df.of_below HB4.out hlo).trans hf5 (PbOk.refl _ _)).trans (Df.of_below (bl1 w5 _) hd5.lo') (PbOk.refl _ _)
      have HG5 : Hid ((w5.alloc (.cells #[i64 (sl : Nat), i64 gn, i64 0] 130)).heap[w.heap.size]? = some (gtO 0 0 0 0)) := bka (hr5.kept _ _ HG4.out rfl) _
      have HY5 : Hid ((w5.alloc (.cells #[i64 (sl : Nat), i64 gn, i64 0] 130)).heap[w5.heap.size]? = some (.cells #[i64 (sl : Nat), i64 gn, i64 0] 130)) := hlx w5 _
      have hYw : w.heap.size < w5.heap.size := by have := blk_lt (hr5.kept _ _ HG4.out rfl); exact this
      have y2 : (w5.alloc (.cells #[i64 (sl : Nat), i64 gn, i64 0] 130)).cell? ⟨w5.heap.size, 2, none⟩ = some (i64 0) := bkc HY5.out 2
      obtain ⟨ao5, cap5, pc5, hbk5, _⟩ := HD5.out.row
      have d1 : (w5.alloc (.cells #[i64 (sl : Nat), i64 gn, i64 0] 130)).cell? ⟨d, 1, none⟩ = some (pq y.kb) := bkc hbk5 1
      clear hd5 hf5 hr5 HD4 HB4 HG4 d0 hbk5
      go_upto_region 14 with fail
      generalize w5.alloc (.cells #[i64 (sl : Nat), i64 gn, i64 0] 130) = U5 at *
      generalize w5.heap.size = Y at *
      go_wp2_with fail
      refine (HTk.out U5 C1 HD5.out).mono ?_
      rintro e w4 ⟨rfl, hd4, hf4, hr4⟩
      have HD4 := hid hd4
      have HF4 : Hid (Df base y.pb w w4) := HF5.out.trans hf4 (PbOk.refl _ _)
      have HG4 := hid (hr4.kept _ _ HG5.out rfl)
      have HY4 := hid (hr4.kept _ _ HY5.out rfl)
      clear hd4 hf4 hr4 HD5 HF5 HG5 HY5 y2 d1
      obtain ⟨ao, cap, pc, hbk, hown, hownP, hcap, hpc, _⟩ := HD4.out.row
      obtain ⟨aoc, capc, hbc, _, hcc, _⟩ := HD4.out.cp.row
      rw [HC1.out, ← HM.out] at hbc hcc
      obtain ⟨n, hn⟩ : ∃ n, n = Rs.length := ⟨_, rfl⟩
      rw [← hn] at hbk hown
      have HK4 : Hid (w4.drew.heap[d]? = some (ddO y.kc y.kb (.slice ao n cap) (.slice (sla y.pb) P.length pc))) := hbk
      have HC4 : Hid (w4.drew.heap[y.kc]? = some (.cells #[.slice aoc (M + 1) capc] 99)) := hbc
      have hlo4 : base ≤ w4.drew.heap.size := HD4.out.lo'
      obtain ⟨ao2, cap2, w6, hrun, hown6, hfr6, hfar⟩ := Cp.app_far (te := 101) under77 info101 rfl (by omega) (by omega) (V := w4.drew) (Qt.own_keep hown (fun _ _ h => h)) [i64 kind, i64 (j : Nat), i64 env, i64 (M : Nat)] rfl (tl_one ⟨kind, (j : Nat), env, (M : Nat)⟩) (by omega) hlo4
      have HK6 : Hid (w6.heap[d]? = some (ddO y.kc y.kb (.slice ao n cap) (.slice (sla y.pb) P.length pc))) := hfr6.kept _ _ HK4.out rfl
      have HC6 : Hid (w6.heap[y.kc]? = some (.cells #[.slice aoc (M + 1) capc] 99)) := hfr6.kept _ _ HC4.out rfl
      have HRUN := hid hrun
      have HO6 := hid hown6
      have HFR6 : Hid (Fr base [101] w4 w6) := Qt.fr_drew hfr6
      have HG6 := hid (hfr6.kept _ _ HG4.out rfl)
      have HY6 := hid (hfr6.kept _ _ HY4.out rfl)
      have HOP6 : Hid (w6.ownsRow base 3 1 (.slice (sla y.pb) P.length pc) P.length (icells P)) := Qt.own_keep hownP (fun k A hA => hfr6.kept k _ hA rfl)
      have HS : Hid (SqD d y.kc (.slice ao n cap) (.slice aoc (M + 1) capc) w4.drew) := SqD.of HK4.out HC4.out
      have HNn := hid hn
      have hdne : d ≠ y.kc := fun e => by have h1 := HK4.out; rw [e, HC4.out] at h1; simp at h1
      clear hbk hbc hown hownP hrun hown6 hfr6 hfar hn hcap hpc hcc
      go_upto_region 17 with fail
      refine wp_region_noPanic ?_
      refine wrl (SqD d y.kc (.slice ao n cap) (.slice aoc (M + 1) capc)) 22 (by kernel_rfl) ?_
      refine wk 0 72 (.pointer (some ⟨d, 0, none⟩)) rfl HS.out (fun W hW => by obtain ⟨d0, d2, k0⟩ := hW; go_simp) ?_
      refine wk 1 73 (.pointer (some ⟨d, 0, none⟩)) rfl HS.out (fun W hW => by obtain ⟨d0, d2, k0⟩ := hW; go_simp) ?_
      refine wk 2 74 (.pointer (some ⟨d, 0, none⟩)) rfl HS.out (fun W hW => by obtain ⟨d0, d2, k0⟩ := hW; go_simp) ?_
      refine wk 3 75 (.pointer (some ⟨d, 2, none⟩)) rfl HS.out (fun W hW => by obtain ⟨d0, d2, k0⟩ := hW; go_simp) ?_
      refine wk 4 76 (.slice ao n cap) rfl HS.out (fun W hW => by obtain ⟨d0, d2, k0⟩ := hW; go_simp) ?_
      refine wk 5 77 (i64 kind) rfl HS.out (fun W hW => by obtain ⟨d0, d2, k0⟩ := hW; go_simp) ?_
      refine wk 6 78 (i64 (j : Nat)) rfl HS.out (fun W hW => by obtain ⟨d0, d2, k0⟩ := hW; go_simp) ?_
      refine wk 7 79 (i64 env) rfl HS.out (fun W hW => by obtain ⟨d0, d2, k0⟩ := hW; go_simp) ?_
      refine wk 8 80 (.pointer (some ⟨d, 0, none⟩)) rfl HS.out (fun W hW => by obtain ⟨d0, d2, k0⟩ := hW; go_simp) ?_
      refine wk 9 81 (.pointer (some ⟨d, 0, none⟩)) rfl HS.out (fun W hW => by obtain ⟨d0, d2, k0⟩ := hW; go_simp) ?_
      refine wk 10 82 (.pointer (some ⟨d, 0, none⟩)) rfl HS.out (fun W hW => by obtain ⟨d0, d2, k0⟩ := hW; go_simp) ?_
      refine wk 11 83 (.pointer (some ⟨y.kc, 0, none⟩)) rfl HS.out (fun W hW => by obtain ⟨d0, d2, k0⟩ := hW; go_simp) ?_
      refine wk 12 84 (.pointer (some ⟨y.kc, 0, none⟩)) rfl HS.out (fun W hW => by obtain ⟨d0, d2, k0⟩ := hW; go_simp) ?_
      refine wk 13 85 (.pointer (some ⟨y.kc, 0, none⟩)) rfl HS.out (fun W hW => by obtain ⟨d0, d2, k0⟩ := hW; go_simp) ?_
      refine wk 14 86 (.slice aoc (M + 1) capc) rfl HS.out (fun W hW => by obtain ⟨d0, d2, k0⟩ := hW; go_simp) ?_
      refine wk 15 87 (i64 ((M : Nat) + 1 : Int)) rfl HS.out (fun W hW => by obtain ⟨d0, d2, k0⟩ := hW; go_simp) ?_
      refine wk 16 88 (i64 (M : Nat)) rfl HS.out (fun W hW => by obtain ⟨d0, d2, k0⟩ := hW; go_simp; exact HWM.out) ?_
      refine wk 17 89 (.agg #[i64 kind, i64 (j : Nat), i64 env, i64 (M : Nat)]) rfl HS.out (fun W hW => by obtain ⟨d0, d2, k0⟩ := hW; go_simp) ?_
      simp only [Act.put, sA, sZ, sS]
      refine wo 18 rfl (fun K hK => ?_)
      go_simp
      refine hK.out _ _ (fun _ => SqD.of (bka (w := w4.drew) HK4.out _) (bka (w := w4.drew) HC4.out _)) ?_
      clear hK K
      refine wo 19 rfl (fun K hK => ?_)
      refine Cp.wp_app_run (.tmp 76) (.tmp 90) 77 rfl _ _ rfl rfl 77 rfl _ _ HRUN.out ?_
      refine hK.out _ _ (fun _ => SqD.of HK6.out HC6.out) ?_
      clear hK K
      refine wo 20 rfl (fun K hK => ?_)
      go_simp
      refine hK.out _ _ (fun _ => SqD.of HK6.out HC6.out) ?_
      clear hK K
      refine wo 21 rfl (fun K hK => ?_)
      go_simp
      refine hK.out _ _ (fun _ => SqD.of HK6.out HC6.out) ?_
      clear hK K
      refine wo 22 rfl (fun K hK => ?_)
      have r2 : w6.cell? ⟨d, 2, none⟩ = some (.slice ao n cap) := bkc HK6.out 2
      have rf : w6.frozen? ⟨d, 2, none⟩ = false := bkf HK6.out 2
      go_simp
      refine hK.out _ _ (fun h => absurd rfl h) ?_
      clear hK K r2 rf
      refine wdd ?_
      refine NoPanic.normal ?_
      have HK7 : Hid ((w6.setCell ⟨d, 2, none⟩ (.slice ao2 (n + 1) cap2)).heap[d]? = some (ddO y.kc y.kb (.slice ao2 (n + 1) cap2) (.slice (sla y.pb) P.length pc))) := dd_set2 HK6.out _
      have HF7 : Hid (Fr base [101, 79] w4 (w6.setCell ⟨d, 2, none⟩ (.slice ao2 (n + 1) cap2))) := (HFR6.out.mono (fr_sub (by simp))).trans (Fr.of_touch ((Touch.refl d w6).setCell rfl _) HK6.out (by rfl) HH.out.lo)
      have HKp7 : Hid (∀ (i : Nat) (A : Array Value) (ty : TypeId), w6.heap[i]? = some (.cells A ty) → ty ≠ 79 → (w6.setCell ⟨d, 2, none⟩ (.slice ao2 (n + 1) cap2)).heap[i]? = some (.cells A ty)) := fun i A ty hA hne => by
        rw [Below.heap_setCell _ _ _ _ (fun e => by have e' : i = d := e; rw [e', HK6.out] at hA; simp at hA; exact hne hA.2.symm)]
        exact hA
      have HO7 := hid (Qt.own_keep HO6.out (fun i A hA => HKp7.out i A _ hA (by decide)))
      have HOP7 := hid (Qt.own_keep HOP6.out (fun i A hA => HKp7.out i A _ hA (by decide)))
      have HG7 := hid (HKp7.out _ _ _ HG6.out (by decide))
      have HY7 := hid (HKp7.out _ _ _ HY6.out (by decide))
      clear HKp7 HK6 HC6 HFR6 HG6 HY6 HO6 HOP6 HRUN HS HK4 HC4 HG4 HY4
      generalize w6.setCell ⟨d, 2, none⟩ (.slice ao2 (n + 1) cap2) = U7 at *
      have d3 : U7.cell? ⟨d, 3, none⟩ = some (.slice (sla y.pb) P.length pc) := bkc HK7.out 3
      have hlo7 : base ≤ U7.heap.size := Nat.le_trans hlo4 HF7.out.size
      obtain ⟨pb8, cap8, w8, hrun8, hown8, hfr8, hfar8, hpb8⟩ := app_at (te := 3) under38 info3 rfl (by omega) (by omega) HOP7.out [i64 env] rfl (by intro u hu; simp at hu; subst hu; rfl) (by omega) hlo7
      rw [own_sla_b] at hpb8 hfar8
      have HRUN8 := hid hrun8
      have HO8 := hid hown8
      have HFR8 := hid hfr8
      have HFAR8 := hid hfar8
      have hw47 : w.heap.size ≤ U7.heap.size := Nat.le_trans HF4.out.size HF7.out.size
      have HPB8 : Hid (PbOk w y.pb pb8) := by
        rcases hpb8 with h | h
        · exact Or.inl h
        · exact Or.inr ⟨_, h, by omega⟩
      have HK8 := hid (hfr8.kept _ _ HK7.out rfl)
      have HG8 := hid (hfr8.kept _ _ HG7.out rfl)
      have HY8 := hid (hfr8.kept _ _ HY7.out rfl)
      have k83 : w8.cell? ⟨d, 3, none⟩ = some (.slice (sla y.pb) P.length pc) := bkc HK8.out 3
      have k8f : w8.frozen? ⟨d, 3, none⟩ = false := bkf HK8.out 3
      obtain ⟨vp, hvp⟩ : ∃ vp, vp = Value.slice (sla y.pb) P.length pc := ⟨_, rfl⟩
      obtain ⟨pa8, hpa8⟩ : ∃ pa8, pa8 = sla pb8 := ⟨_, rfl⟩
      obtain ⟨np1, hnp1⟩ : ∃ np1, np1 = P.length + 1 := ⟨_, rfl⟩
      have HVQ : Hid (Value.slice pa8 np1 cap8 = Value.slice (sla pb8) (P.length + 1) cap8) := by rw [hpa8, hnp1]; exact hid rfl
      rw [← hvp] at d3 k83
      rw [← hvp, ← hpa8, ← hnp1] at HRUN8
      clear hrun8 hown8 hfr8 hfar8 hpb8 hvp hpa8 hnp1
      go_upto_region 19 with (at_builtin; refine wpList_app_run rfl (.tmp 98) (.tmp 100) 38 rfl _ _ rfl rfl 38 rfl _ _ HRUN8.out ?_)
      have HK9 : Hid ((w8.setCell ⟨d, 3, none⟩ (.slice pa8 np1 cap8)).heap[d]? = some (ddO y.kc y.kb (.slice ao2 (n + 1) cap2) (.slice pa8 np1 cap8))) := dd_set3 HK8.out _
      have HKp9 : Hid (∀ (i : Nat) (A : Array Value) (ty : TypeId), w8.heap[i]? = some (.cells A ty) → ty ≠ 79 → (w8.setCell ⟨d, 3, none⟩ (.slice pa8 np1 cap8)).heap[i]? = some (.cells A ty)) := fun i A ty hA hne => by
        rw [Below.heap_setCell _ _ _ _ (fun e => by have e' : i = d := e; rw [e', HK8.out] at hA; simp at hA; exact hne hA.2.symm)]
        exact hA
      have HG9 := hid (HKp9.out _ _ _ HG8.out (by decide))
      have HY9 := hid (HKp9.out _ _ _ HY8.out (by decide))
      have HD9 : Hid (Dd (w8.setCell ⟨d, 3, none⟩ (.slice pa8 np1 cap8)) base d ⟨y.kc, y.kb, pb8⟩ t s1 C1 (Rs ++ [⟨kind, (j : Nat), env, (M : Nat)⟩]) (P ++ [env])) := by
        have e1 : (P ++ [env]).length = P.length + 1 := by simp
        have e2 : (Rs ++ [(⟨kind, (j : Nat), env, (M : Nat)⟩ : Rt)]).length = n + 1 := by rw [HNn.out]; simp
        refine HD4.out.lists (vR := .slice ao2 (n + 1) cap2) (cap := cap8) (by rw [e1, ← HVQ.out]; exact HK9.out) ?_ ?_ (fun k A ty hA hty => ?_)
        · rw [e2, tcs_app]
          exact Qt.own_keep HO7.out (fun i A hA => HKp9.out i A _ (HFR8.out.kept i _ hA rfl) (by decide))
        · rw [e1, icells_app]
          exact Qt.own_keep HO8.out (fun i A hA => HKp9.out i A _ hA (by decide))
        · refine HKp9.out k A ty (HFR8.out.kept k _ (HF7.out.kept k _ hA ?_) ?_) ?_
          · rcases hty with rfl | rfl | rfl | rfl <;> rfl
          · rcases hty with rfl | rfl | rfl | rfl <;> rfl
          · rcases hty with rfl | rfl | rfl | rfl <;> decide
      have HF9 : Hid (Df base y.pb w (w8.setCell ⟨d, 3, none⟩ (.slice pa8 np1 cap8))) := by
        refine ⟨((HF4.out.below.trans HF7.out.below).trans HFR8.out.below).setCell HH.out.lo _, fun k o hk ho => ?_⟩
        have h4 := HF4.out.kept k o hk ho
        have hkd : k ≠ d := fun e => by
          obtain ⟨ao', cap', pc', hb', _⟩ := HH.out.row
          rw [e, hb'] at hk
          cases hk
          simp [ownD] at ho
        have h7 : U7.heap[k]? = some o := HF7.out.kept k o h4 (by
          cases o with
          | cells A ty fr =>
            simp only [ownD, Bool.or_eq_false_iff] at ho
            simp only [keeps]
            simp
            simp at ho
            exact ⟨ho.1.1.2, ho.1.2⟩
          | _ => rfl)
        rw [Below.heap_setCell _ _ _ _ hkd]
        by_cases hp : some k = y.pb
        · cases o with
          | cells A ty fr => simp [ownD, hp] at ho
          | _ =>
            exact HFR8.out.kept k _ h7 rfl
        · rw [HFAR8.out k (blk_lt h7) hp]
          exact h7
      have g0 : (w8.setCell ⟨d, 3, none⟩ (.slice pa8 np1 cap8)).cell? ⟨w.heap.size, 0, none⟩ = some (i64 0) := bkc HG9.out 0
      have g1 : (w8.setCell ⟨d, 3, none⟩ (.slice pa8 np1 cap8)).cell? ⟨w.heap.size, 1, none⟩ = some (i64 0) := bkc HG9.out 1
      have g2 : (w8.setCell ⟨d, 3, none⟩ (.slice pa8 np1 cap8)).cell? ⟨w.heap.size, 2, none⟩ = some (i64 0) := bkc HG9.out 2
      have g3 : (w8.setCell ⟨d, 3, none⟩ (.slice pa8 np1 cap8)).cell? ⟨w.heap.size, 3, none⟩ = some (i64 0) := bkc HG9.out 3
      have gf : ∀ j, (w8.setCell ⟨d, 3, none⟩ (.slice pa8 np1 cap8)).frozen? ⟨w.heap.size, j, none⟩ = false := bkf HG9.out
      have y0 : (w8.setCell ⟨d, 3, none⟩ (.slice pa8 np1 cap8)).cell? ⟨Y, 0, none⟩ = some (i64 (sl : Nat)) := bkc HY9.out 0
      have y1 : (w8.setCell ⟨d, 3, none⟩ (.slice pa8 np1 cap8)).cell? ⟨Y, 1, none⟩ = some (i64 gn) := bkc HY9.out 1
      clear HKp9 HFAR8 HFR8 HK8 HG8 HY8 HO8 HO7 HOP7 HF7 HK7 HD4 HF4 HY9 HK9 HRUN8 HVQ HNn d3 k83 k8f HG7 HY7
      generalize w8.setCell ⟨d, 3, none⟩ (.slice pa8 np1 cap8) = U9 at *
      go_wp2_with fail
      exact bodyPost_ret (Cp.results_one Try.results34 rfl (load83 (set83 HG9.out (j : Nat) (sl : Nat) gn 0))) rfl ⟨rfl, pb8, HPB8.out, HD9.out.set83 HG9.out _ _ _ _, HF9.out.set83 hlo (Nat.le_refl _) _ _ _ _⟩
end Go.Proofs.Ytnknhencobhjdaa
