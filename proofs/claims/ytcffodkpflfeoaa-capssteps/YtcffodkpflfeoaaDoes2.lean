/- What is made by both tables; no statement is proved in this text. -/
import Derived.Test.YtcffodkpflfeoaaDoes1
namespace Go.Proofs.Ytcffodkpflfeoaa
open Go.ChangeShapes Go.WideShapes Go.ChangeAt Go.RowKit Go.Deep

/-- What given leaves. -/
abbrev GivenC (base P b r : Nat) (L L' : List Rw) (s : Nat) (g E env : Int) : Prop := ∀ W vH vE, base ≤ P → W.heap[P]? = some (.cells #[pq b, pq r, vH, vE] 34) → W.ownsRow base 42 2 vH L.length (hcn (L.map hdR)) → W.ownsRow base 3 1 vE L.length (icells (L.map fun q => q.c.env)) →
  Calls Try.prog 26 #[pq P, .agg #[i64 (s : Nat), i64 g], i64 E, .agg #[i64 (s : Nat), i64 g, i64 E], i64 env] W fun e w' => e = .returned (.bool true) ∧ Fr base [34, 42, 3] W w' ∧ (∃ vH' vE', w'.heap[P]? = some (.cells #[pq b, pq r, vH', vE'] 34) ∧ w'.ownsRow base 42 2 vH' L'.length (hcn (L'.map hdR)) ∧ w'.ownsRow base 3 1 vE' L'.length (icells (L'.map fun q => q.c.env))) ∧ ∀ k, k < W.heap.size → k ≠ P → some k ≠ vH.ownBlock → some k ≠ vE.ownBlock → w'.heap[k]? = W.heap[k]?
theorem givenC_err {base P b r : Nat} {L : List Rw} {E env : Int} (hE : E ≠ 0) : GivenC base P b r L L 0 0 E env := fun W vH vE hlo hP hH hE2 =>
  (given_err W P 0 0 E env hE).mono fun e w' ⟨h1, h2⟩ => ⟨h1, Fr.of_below _ h2 (by have := blk_lt hP; omega), ⟨vH, vE, blk_below hP h2, own_keep hH (fun k C hC => blk_below hC h2), own_keep hE2 (fun k C hC => blk_below hC h2)⟩, fun k hk _ _ _ => h2.block k hk⟩
theorem givenC_ok {base P b r : Nat} {L : List Rw} (hl : L.length ≤ 900) (q : Rw) (s : Nat) (hs : q.sl = (s : Nat)) : GivenC base P b r L (L ++ [q]) s q.gn 0 q.c.env := fun W vH vE hlo hP hH hE2 => by
  have hH' : W.ownsRow base 42 2 vH (L.map hdR).length (hcn (L.map hdR)) := by rw [List.length_map]; exact hH
  have hE' : W.ownsRow base 3 1 vE (L.map fun q => q.c.env).length (icells (L.map fun q => q.c.env)) := by rw [List.length_map]; exact hE2
  refine (given_ok hlo hP hH' hE' (by rw [List.length_map]; omega) (by rw [List.length_map]; omega) s q.gn q.c.env).mono fun e w' ⟨h1, h2, vH', vE', h3, h4, h5, h6⟩ => ⟨h1, h2, ⟨vH', vE', h3, ?_, ?_⟩, h6⟩
  · rw [List.map_append, List.length_append]
    rw [List.length_append, List.length_map] at h4
    have e1 : hdR q = (s, q.gn) := by unfold hdR; rw [hs]; rfl
    show w'.ownsRow base 42 2 vH' (L.length + 1) (hcn (L.map hdR ++ [hdR q]))
    rw [e1]
    exact h4
  · rw [List.map_append, List.length_append]
    rw [List.length_append, List.length_map] at h5
    exact h5
structure Made (base P b r : Nat) (T : List Pl) (L : List Rw) (env : Int) (C1 C2 : World → (Ending → World → Prop) → Prop) (s : Nat) (g E : Int) (T' : List Pl) (L' : List Rw) : Prop where
  rel : Rel T' L'
  gu : Gu L'
  mono : Mono L L'
  len : L'.length ≤ L.length + 1
  c1 : ∀ W, Tb W base b T → C1 W fun e w' => e = .returned (.tuple #[.agg #[i64 (s : Nat), i64 g], i64 E]) ∧ Tb w' base b T' ∧ Fr base [72] W w'
  c2 : ∀ W, Rb W base r L → C2 W fun e w' => e = .returned (.agg #[i64 (s : Nat), i64 g, i64 E]) ∧ Rb w' base r L' ∧ Fr base [30, 66] W w'
  gv : GivenC base P b r L L' s g E env
theorem tb_lo {W : World} {base b : Nat} {T : List Pl} (h : Tb W base b T) : base ≤ W.heap.size := by have := h.lt; have := h.lo; omega
theorem rb_lo {W : World} {base r : Nat} {L : List Rw} (h : Rb W base r L) : base ≤ W.heap.size := by have := h.lt; have := h.lo; omega
theorem made_err {base P b r : Nat} {T : List Pl} {L : List Rw} {env E : Int} (hrel : Rel T L) (hgu : Gu L) (hE : E ≠ 0) {f1 f2 : FuncId} {a1 a2 : Array Value}
    (c1 : ∀ W, Tb W base b T → Calls Try.prog f1 a1 W fun e w' => e = .returned (.tuple #[.agg #[i64 0, i64 0], i64 E]) ∧ Below W.heap.size W w')
    (c2 : ∀ W, Rb W base r L → Calls Try.prog f2 a2 W fun e w' => e = .returned (.agg #[i64 0, i64 0, i64 E]) ∧ Below W.heap.size W w') :
    Made base P b r T L env (Calls Try.prog f1 a1) (Calls Try.prog f2 a2) 0 0 E T L :=
  ⟨hrel, hgu, Mono.refl L, by omega, fun W hW => (c1 W hW).mono fun e w' ⟨h1, h2⟩ => ⟨h1, hW.below h2, Fr.of_below _ h2 (tb_lo hW)⟩, fun W hW => (c2 W hW).mono fun e w' ⟨h1, h2⟩ => ⟨h1, hW.below h2, Fr.of_below _ h2 (rb_lo hW)⟩, givenC_err hE⟩
theorem made_mint {base P b r : Nat} {T : List Pl} {L : List Rw} (hrel : Rel T L) (hgu : Gu L) (hl : L.length ≤ 100) (c : Cp) : ∃ s g E T' L', Made base P b r T L c.env (Calls Try.prog 21 #[pq b, c.v]) (Calls Try.prog 27 #[pq r, rwV c 0 0 0 false]) s g E T' L' := by
  cases hc : rightB c with
  | false => exact ⟨0, 0, 1, T, L, made_err hrel hgu (by decide) (fun W _ => mint_arg W _ c hc) (fun W _ => rmint_arg W r c hc)⟩
  | true =>
    obtain ⟨s, p, hs, hp, hz, hno, hat, hnoA⟩ := hrel.first (by omega)
    have hg := hrel.gen_le hp
    have hge := hrel.gen s p hp
    refine ⟨s, p.gen + 1, 0, T.set s ⟨c, -1, p.gen + 1⟩, L ++ [⟨c, (s : Nat), (cnS L (s : Nat) : Int) + 1, -1, true⟩], ⟨?_, gu_snoc hgu, mono_snoc _ _, by simp, fun W hW => ?_, fun W hW => ?_, ?_⟩⟩
    · exact hrel.put hs hp hz hc (Or.inl rfl)
    · exact (mint_ok hW c hc s p hp hz hno hg.1 (by omega)).mono fun e w' ⟨h1, h2, h3⟩ => ⟨h1, h2, fr_t hW h3⟩
    · rw [hge]
      exact rmint_ok hW (by omega) c hc s hs hat hnoA
    · rw [hge]
      exact givenC_ok (by omega) ⟨c, (s : Nat), (cnS L (s : Nat) : Int) + 1, -1, true⟩ s rfl
theorem right_four {c : Cp} (h : rightB c = true) (tt rights : Int) : rightB ⟨tt, c.kind, c.num, rights⟩ = (envB tt && envB rights) := by
  unfold rightB at h
  rw [decide_eq_true_iff] at h
  unfold rightB envB
  rw [← Bool.decide_and]
  exact decide_eq_decide.2 (by constructor <;> (intro h'; simp only at h' ⊢; omega))
theorem made_derive {base P b r : Nat} {T : List Pl} {L : List Rw} (hrel : Rel T L) (hgu : Gu L) (hl : L.length ≤ 100) (ev hs hg tt rights : Int) : ∃ s g E T' L', Made base P b r T L tt (Calls Try.prog 20 #[pq b, i64 ev, .agg #[i64 hs, i64 hg], i64 tt, i64 rights]) (Calls Try.prog 28 #[pq r, i64 ev, .agg #[i64 hs, i64 hg], .agg #[i64 tt, i64 rights]]) s g E T' L' := by
  rcases hrel.look ev hs hg with ⟨h1, h2⟩ | ⟨k, q, sl, h1, h2, h3, h4, h5, h6, h7, h8, h9⟩
  · refine ⟨0, 0, 90, T, L, made_err hrel hgu (by decide) (fun W hW => ?_) (fun W hW => rderive_stale hW (by omega) ev hs hg tt rights h2)⟩
    have hlk := looks_tb hW ev hs hg
    rw [h1] at hlk
    exact derive_stale W _ ev hs hg tt rights hlk
  · have hqr := hrel.rt k q h3 h4
    have hr4 := right_four hqr tt rights
    have hlk : ∀ W, Tb W base b T → Looks W (pq b) ev hs hg q.c 0 := fun W hW => by have := looks_tb hW ev hs hg; rw [h1] at this; exact this
    cases ht : envB tt with
    | false =>
      rw [ht] at hr4
      refine ⟨0, 0, 1, T, L, made_err hrel hgu (by decide) (fun W hW => ?_) (fun W hW => rderive_arg hW (by omega) ev hs hg tt rights k q h2 h3 hr4)⟩
      exact derive_to (pq b) ev hs hg tt rights q.c.env q.c.kind q.c.num q.c.rts (hlk W hW) ht
    | true =>
      cases hr : envB rights with
      | false =>
        rw [ht, hr] at hr4
        refine ⟨0, 0, 1, T, L, made_err hrel hgu (by decide) (fun W hW => ?_) (fun W hW => rderive_arg hW (by omega) ev hs hg tt rights k q h2 h3 hr4)⟩
        exact derive_rts (pq b) ev hs hg tt rights q.c.env q.c.kind q.c.num q.c.rts (hlk W hW) ht hr
      | true =>
        rw [ht, hr] at hr4
        have hcr := rightB_rts hqr
        cases hgr : grB q.c.rts rights with
        | false =>
          exact ⟨0, 0, 91, T, L, made_err hrel hgu (by decide) (fun W hW => derive_no (pq b) ev hs hg tt rights q.c (hlk W hW) ht hr hcr hgr) (fun W hW => rderive_right hW (by omega) ev hs hg tt rights k q h2 h3 hr4 hcr hr hgr)⟩
        | true =>
          obtain ⟨s, p, hsl, hp, hz, hno, hat, hnoA⟩ := hrel.first (by omega)
          have hgn := hrel.gen_le hp
          have hge := hrel.gen s p hp
          have hps : psl L (k : Nat) = hs := by unfold psl; rw [if_neg (by omega), Int.toNat_natCast, h3]; exact h7
          refine ⟨s, p.gen + 1, 0, T.set s ⟨⟨tt, q.c.kind, q.c.num, rights⟩, hs, p.gen + 1⟩, L ++ [⟨⟨tt, q.c.kind, q.c.num, rights⟩, (s : Nat), (cnS L (s : Nat) : Int) + 1, (k : Nat), true⟩], ⟨?_, gu_snoc hgu, mono_snoc _ _, by simp, fun W hW => ?_, fun W hW => ?_, ?_⟩⟩
          · have := hrel.put hsl hp hz hr4 (fr := (k : Nat)) (Or.inr ⟨k, q, rfl, h3, h4⟩)
            rw [hps] at this
            exact this
          · exact (derive_ok hW ev hs hg tt rights q.c (hlk W hW) ht hr hcr hgr s p hp hz hno hgn.1 (by omega)).mono fun e w' ⟨g1, g2, g3⟩ => ⟨g1, g2, fr_t hW g3⟩
          · rw [hge]
            exact rderive_ok hW (by omega) ev hs hg tt rights k q h2 h3 hr4 hcr hr hgr s hsl hat hnoA
          · rw [hge]
            exact givenC_ok (by omega) ⟨⟨tt, q.c.kind, q.c.num, rights⟩, (s : Nat), (cnS L (s : Nat) : Int) + 1, (k : Nat), true⟩ s rfl
end Go.Proofs.Ytcffodkpflfeoaa
