/- No statement here. -/
import Derived.Test.YtnknhencobhjdaaMBo
namespace Go.Proofs.Ytnknhencobhjdaa
open Go.ChangeShapes Go.WideShapes Go.ChangeAt Go.RowKit Go.Deep
open Go.Proofs.Ytnknhencobhjdaa.Cp (pq hid bl1 hO zC)
structure Md (W : World) (base p X Y : Nat) (z : Px) (x : Sb) (hs hg : Int) (t : Qt.T) (s1 s2 : Qt.St) (T : List Cp.Pl) (L : Ls) (R : Nat → List Hn) (C : List Cp.Rw) (Rs : List Rt) (P : List Int) (H : List Hn) (E : List Int) : Prop where
  bd : Bd W base z.b z.x t s1 T L R
  dd : Dd W base z.d z.y t s2 C Rs P
  pk : Pk W base p z.b z.d z.hb z.eb H E
  hx : W.heap[X]? = some (sbO x)
  hy : W.heap[Y]? = some (hO hs hg)
  he : E.length = H.length
  ah : ∀ k, k < 3 → z.hb ≠ some (z.x.g k)
  ae : ∀ g, z.eb = some g → z.y.pb ≠ some g
  ny : ∀ i, i < 3 → Y ≠ z.x.g i
  nh : z.hb ≠ some Y
structure SqW (X Y p b d kb kc : Nat) (x : Sb) (hs hg : Int) (W : World) : Prop where
  x : W.heap[X]? = some (sbO x)
  y : W.heap[Y]? = some (hO hs hg)
  p0 : W.cell? ⟨p, 0, none⟩ = some (pq b)
  p1 : W.cell? ⟨p, 1, none⟩ = some (pq d)
  d0 : W.cell? ⟨d, 0, none⟩ = some (pq kc)
  d1 : W.cell? ⟨d, 1, none⟩ = some (pq kb)
theorem SqW.below {X Y p b d kb kc : Nat} {x : Sb} {hs hg : Int} {W W' : World} (h : SqW X Y p b d kb kc x hs hg W) (hb : Below W.heap.size W W') : SqW X Y p b d kb kc x hs hg W' := by
  have k : ∀ {a v}, W.cell? a = some v → W'.cell? a = some v := fun ha => by
    rw [World.cell?_of_block (w := W) (hb.block _ (World.block_lt_of_cell? W _ ha))]
    exact ha
  exact ⟨bkb h.x hb, bkb h.y hb, k h.p0, k h.p1, k h.d0, k h.d1⟩
section
variable {W W' : World} {base p X Y : Nat} {z : Px} {x : Sb} {hs hg : Int} {t : Qt.T} {s1 s2 s' : Qt.St} {T T' : List Cp.Pl} {L L' : Ls} {R R' : Nat → List Hn} {C C' : List Cp.Rw} {Rs Rs' : List Rt} {P P' : List Int} {H H' : List Hn} {E E' : List Int}
theorem Md.sq (h : Md W base p X Y z x hs hg t s1 s2 T L R C Rs P H E) : SqW X Y p z.b z.d z.y.kb z.y.kc x hs hg W := by
  obtain ⟨cH, cE, hP, _⟩ := h.pk.blk
  obtain ⟨ao, cap, pc, hD, _⟩ := h.dd.row
  exact ⟨h.hx, h.hy, bkc hP 0, bkc hP 1, bkc hD 0, bkc hD 1⟩
theorem Md.below (h : Md W base p X Y z x hs hg t s1 s2 T L R C Rs P H E) (hb : Below W.heap.size W W') : Md W' base p X Y z x hs hg t s1 s2 T L R C Rs P H E :=
  ⟨h.bd.below hb, h.dd.below hb, h.pk.below hb, bkb h.hx hb, bkb h.hy hb, h.he, h.ah, h.ae, h.ny, h.nh⟩
theorem Md.drew (h : Md W base p X Y z x hs hg t s1 s2 T L R C Rs P H E) : Md W.drew base p X Y z x hs hg t s1 s2 T L R C Rs P H E :=
  ⟨h.bd.drew, h.dd.drew, h.pk.same (fun _ h => h) (fun _ _ _ h => h) (fun _ _ _ h => h), h.hx, h.hy, h.he, h.ah, h.ae, h.ny, h.nh⟩
theorem Md.lo (h : Md W base p X Y z x hs hg t s1 s2 T L R C Rs P H E) : base ≤ W.heap.size := h.pk.lo'
theorem Md.bf (h : Md W base p X Y z x hs hg t s1 s2 T L R C Rs P H E) (hb : Bd W' base z.b z.x t s' T' L' R') (hf : Bf base z.x W W') : Md W' base p X Y z x hs hg t s' s2 T' L' R' C Rs P H E :=
  ⟨hb, h.dd.bf h.bd hf, h.pk.bf h.bd h.ah hf, h.bd.kt hf h.hx (by decide) (by decide) (by decide) (Or.inl (by decide)), h.bd.kt hf h.hy (by decide) (by decide) (by decide) (Or.inr h.ny), h.he, h.ah, h.ae, h.ny, h.nh⟩
theorem Md.eb_lt (h : Md W base p X Y z x hs hg t s1 s2 T L R C Rs P H E) {g : Nat} (hg : z.eb = some g) : g < W.heap.size := by
  obtain ⟨cH', cE', _, _, hE'⟩ := h.pk.blk
  exact (hE'.lt g (by rw [own_sla_b]; exact hg)).2
theorem Md.hb_lt (h : Md W base p X Y z x hs hg t s1 s2 T L R C Rs P H E) {g : Nat} (hg : z.hb = some g) : g < W.heap.size := by
  obtain ⟨cH', cE', _, hH', _⟩ := h.pk.blk
  exact (hH'.lt g (by rw [own_sla_b]; exact hg)).2
theorem Md.df (h : Md W base p X Y z x hs hg t s1 s2 T L R C Rs P H E) {pb' : Option Nat} (hp : PbOk W z.y.pb pb') (hd : Dd W' base z.d ⟨z.y.kc, z.y.kb, pb'⟩ t s' C' Rs' P') (hf : Df base z.y.pb W W') : Md W' base p X Y { z with y := ⟨z.y.kc, z.y.kb, pb'⟩ } x hs hg t s1 s' T L R C' Rs' P' H E :=
  ⟨h.bd.df h.dd hf, hd, h.pk.df h.dd h.ae hf, h.dd.kt hf h.hx (by decide) (by decide) (by decide) (by decide) (by decide) (by decide) (Or.inl (by decide)), h.dd.kt hf h.hy (by decide) (by decide) (by decide) (by decide) (by decide) (by decide) (Or.inl (by decide)), h.he, h.ah, fun g hg => by
    rcases hp with hp | ⟨g', hp, hg'⟩
    · show pb' ≠ some g
      rw [hp]
      exact h.ae g hg
    · show pb' ≠ some g
      rw [hp]
      intro e
      cases e
      have := h.eb_lt hg
      omega, h.ny, h.nh⟩
theorem Md.df0 (h : Md W base p X Y z x hs hg t s1 s2 T L R C Rs P H E) (hd : Dd W' base z.d z.y t s' C' Rs' P') (hf : Df base z.y.pb W W') : Md W' base p X Y z x hs hg t s1 s' T L R C' Rs' P' H E := h.df (pb' := z.y.pb) (PbOk.refl _ _) hd hf
theorem Gf.kt {hb eb : Option Nat} (hf : Gf base p hb eb W W') {k : Nat} {A : Array Value} {ty : TypeId} (hA : W.heap[k]? = some (.cells A ty)) (h1 : k ≠ p) (h2 : some k ≠ hb) (h3 : some k ≠ eb) : W'.heap[k]? = some (.cells A ty) := hf.kept k _ hA h1 h2 h3
theorem Pk.blkty {b d : Nat} {hb eb : Option Nat} (h : Pk W base p b d hb eb H E) : (∃ A, W.heap[p]? = some (.cells A 40)) ∧ (∀ g, hb = some g → ∃ A, W.heap[g]? = some (.cells A 43)) ∧ (∀ g, eb = some g → ∃ A, W.heap[g]? = some (.cells A 3)) := by
  obtain ⟨cH, cE, hP, hH, hE⟩ := h.blk
  refine ⟨⟨_, hP⟩, fun g hg => ?_, fun g hg => ?_⟩
  · obtain ⟨b', _, _, _, hbb, hb'⟩ := own_sla hH
    rw [own_sla_b] at hbb
    obtain ⟨_, _, A, hA⟩ := hb' g (by rw [← hbb]; exact hg)
    exact ⟨A, hA⟩
  · obtain ⟨b', _, _, _, hbb, hb'⟩ := own_sla hE
    rw [own_sla_b] at hbb
    obtain ⟨_, _, A, hA⟩ := hb' g (by rw [← hbb]; exact hg)
    exact ⟨A, hA⟩
theorem Pk.other {b d : Nat} {hb eb : Option Nat} (h : Pk W base p b d hb eb H E) {k : Nat} {o : Obj} (hk : W.heap[k]? = some o) (h40 : ∀ A, o ≠ .cells A 40) (h43 : (∀ A, o ≠ .cells A 43) ∨ some k ≠ hb) (h3 : (∀ A, o ≠ .cells A 3) ∨ some k ≠ eb) : k ≠ p ∧ some k ≠ hb ∧ some k ≠ eb := by
  obtain ⟨⟨A, hA⟩, hH, hE⟩ := h.blkty
  refine ⟨fun e => ?_, ?_, ?_⟩
  · rw [e, hA] at hk; cases hk; exact h40 _ rfl
  · rcases h43 with h43 | h43
    · intro e
      obtain ⟨B, hB⟩ := hH k e.symm
      rw [hB] at hk
      cases hk
      exact h43 _ rfl
    · exact h43
  · rcases h3 with h3 | h3
    · intro e
      obtain ⟨B, hB⟩ := hE k e.symm
      rw [hB] at hk
      cases hk
      exact h3 _ rfl
    · exact h3
theorem Md.gf (h : Md W base p X Y z x hs hg t s1 s2 T L R C Rs P H E) {hb' eb' : Option Nat} (h1 : PbOk W z.hb hb') (h2 : PbOk W z.eb eb') (hk : Pk W' base p z.b z.d hb' eb' H' E') (hl : E'.length = H'.length) (hf : Gf base p z.hb z.eb W W') : Md W' base p X Y { z with hb := hb', eb := eb' } x hs hg t s1 s2 T L R C Rs P H' E' := by
  have keep : ∀ {k : Nat} {o : Obj}, W.heap[k]? = some o → (∀ A, o ≠ .cells A 40) → ((∀ A, o ≠ .cells A 43) ∨ some k ≠ z.hb) → ((∀ A, o ≠ .cells A 3) ∨ some k ≠ z.eb) → W'.heap[k]? = some o := fun hk a b c => by
    obtain ⟨e1, e2, e3⟩ := h.pk.other hk a b c
    exact hf.kept _ _ hk e1 e2 e3
  have hbd : Bd W' base z.b z.x t s1 T L R := by
    refine ⟨keep h.bd.row (by simp) (Or.inl (by simp)) (Or.inl (by simp)), h.bd.lo, h.bd.bk.same (fun k o hk ho => ?_), ⟨h.bd.tb.lo, h.bd.tb.len, keep h.bd.tb.row (by simp) (Or.inl (by simp)) (Or.inl (by simp))⟩, ?_, h.bd.mlo, fun k hk => ⟨keep (h.bd.rt k hk).1 (by simp) (Or.inr (fun e => h.ah k hk e.symm)) (Or.inl (by simp)), (h.bd.rt k hk).2⟩, h.bd.ap, h.bd.len⟩
    · obtain ⟨A, rfl | rfl⟩ := ho
      · exact keep hk (by simp) (Or.inl (by simp)) (Or.inl (by simp))
      · exact keep hk (by simp) (Or.inl (by simp)) (Or.inl (by simp))
    · obtain ⟨es, clock, hb, g⟩ := h.bd.mp
      exact ⟨es, clock, keep hb (by simp) (Or.inl (by simp)) (Or.inl (by simp)), g⟩
  have hdd : Dd W' base z.d z.y t s2 C Rs P := by
    obtain ⟨vR, capP, g1, g2, g3⟩ := h.dd.blk
    obtain ⟨Q, hQ, hB⟩ := h.dd.bk
    refine ⟨h.dd.lo, ⟨vR, capP, keep g1 (by simp) (Or.inl (by simp)) (Or.inl (by simp)), Qt.own_keep g2 (fun k A hA => keep hA (by simp) (Or.inl (by simp)) (Or.inl (by simp))), own_at g3 (fun g A hg hA => keep hA (by simp) (Or.inl (by simp)) (Or.inr (fun e => h.ae g e.symm hg)))⟩, h.dd.cp.same (fun k o hk ho => ?_), ⟨Q, hQ, hB.same (fun k o hk ho => ?_)⟩, h.dd.wf⟩
    · obtain ⟨A, rfl | rfl⟩ := ho
      · exact keep hk (by simp) (Or.inl (by simp)) (Or.inl (by simp))
      · exact keep hk (by simp) (Or.inl (by simp)) (Or.inl (by simp))
    · obtain ⟨A, rfl | rfl⟩ := ho
      · exact keep hk (by simp) (Or.inl (by simp)) (Or.inl (by simp))
      · exact keep hk (by simp) (Or.inl (by simp)) (Or.inl (by simp))
  have hYl := blk_lt h.hy
  refine ⟨hbd, hdd, hk, keep h.hx (by simp) (Or.inl (by simp)) (Or.inl (by simp)), keep h.hy (by simp) (Or.inr (fun e => h.nh e.symm)) (Or.inl (by simp)), hl, fun k hk' e => ?_, fun g hg e => ?_, h.ny, fun e => ?_⟩
  · have hgl : z.x.g k < W.heap.size := blk_lt (h.bd.rt k hk').1
    rcases h1 with h1 | ⟨g', h1, hg'⟩
    · exact h.ah k hk' (by rw [← h1]; exact e)
    · have e' : hb' = some (z.x.g k) := e
      rw [h1] at e'
      cases e'
      omega
  · have e' : z.y.pb = some g := e
    rcases h2 with h2 | ⟨g', h2, hg'⟩
    · exact h.ae g (by rw [← h2]; exact hg) e'
    · have hg2 : eb' = some g := hg
      rw [h2] at hg2
      cases hg2
      obtain ⟨_, _, _, _, _, hp, _⟩ := h.dd.row
      have := (hp.lt g (by rw [own_sla_b]; exact e')).2
      omega
  · have e' : hb' = some Y := e
    rcases h1 with h1 | ⟨g', h1, hg'⟩
    · exact h.nh (by rw [← h1]; exact e')
    · rw [h1] at e'
      cases e'
      omega
theorem Pk.pf {b d : Nat} {hb eb : Option Nat} (h : Pk W base p b d hb eb H E) (hf : Gf base p hb eb W W') : Pf base W W' := ⟨hf.below, fun k A ty hty hA => by
  obtain ⟨e1, e2, e3⟩ := h.other hA (by rcases hty with rfl | rfl <;> simp) (Or.inl (by rcases hty with rfl | rfl <;> simp)) (Or.inl (by rcases hty with rfl | rfl <;> simp))
  exact hf.kept _ _ hA e1 e2 e3⟩
theorem Md.pp (h : Md W base p X Y z x hs hg t s1 s1 T L R C Rs P H E) (iv : Inv t s1 T L R C Rs P) : Pp W base p z t s1 T L R C Rs P H E := ⟨h.bd, h.dd, iv, h.pk, h.he, h.ah, h.ae⟩
end
theorem info33 : (Try.prog.info? 33).map (·.size) = some 10 := by kernel_rfl
theorem sbO_range {W : World} {X : Nat} {x : Sb} (h : W.heap[X]? = some (sbO x)) : W.rangeAt X 0 x.c := fun j v hv => by
  rw [Nat.zero_add, show W.cell? ⟨X, j, none⟩ = _ from bkc h j]
  simpa using hv
def Aft (w' : World) (base p : Nat) (z : Px) (t : Qt.T) (C : List Cp.Rw) (H : List Hn) : Prop := ∃ z' s' T' L' R' C' Rs' P' H' E', Pp w' base p z' t s' T' L' R' C' Rs' P' H' E' ∧ z'.b = z.b ∧ z'.d = z.d ∧ C'.length ≤ C.length + 1 ∧ H'.length ≤ H.length + 1
theorem Aft.of {w' : World} {base p : Nat} {z z' : Px} {t : Qt.T} {s' : Qt.St} {T' : List Cp.Pl} {L' : Ls} {R' : Nat → List Hn} {C C' : List Cp.Rw} {Rs' : List Rt} {P' : List Int} {H H' : List Hn} {E' : List Int} (h : Pp w' base p z' t s' T' L' R' C' Rs' P' H' E') (h1 : z'.b = z.b) (h2 : z'.d = z.d) (h3 : C'.length ≤ C.length + 1) (h4 : H'.length ≤ H.length + 1) : Aft w' base p z t C H := ⟨z', s', T', L', R', C', Rs', P', H', E', h, h1, h2, h3, h4⟩
abbrev DoesTo (w : World) (base p : Nat) (z : Px) (t : Qt.T) (C : List Cp.Rw) (H : List Hn) (x : Sb) : Prop := Calls Try.prog 12 #[pq p, x.v] w fun e w' => e = .returned (.bool true) ∧ Aft w' base p z t C H ∧ Pf base w w'
theorem eqIn81 (a b a' b' : Int) (w : World) : (Op.equalIn 10000 81 (.agg #[i64 a, i64 b]) (.agg #[i64 a', i64 b'])).run Try.prog w = .ok (decide (a = a' ∧ b = b')) w := by
  rw [run_equalIn_struct w 9999 81 _ _ (by kernel_rfl) (by kernel_rfl)]
  have p0 : ∀ (a b : Int) (w : World), (part 3 #[i64 a, i64 b] 0).run Try.prog w = .ok (i64 a) w := fun _ _ w => by kernel_rfl
  have p1 : ∀ (a b : Int) (w : World), (part 3 #[i64 a, i64 b] 1).run Try.prog w = .ok (i64 b) w := fun _ _ w => by kernel_rfl
  have hq := Cp.eqI 9998
  simp only [Program.fieldsOf, Try.underlying81]
  simp only [Op.eqFields, ne_eq]
  by_cases h1 : a = a'
  · by_cases h2 : b = b'
    · simp_all [Sem.run_bind, Result.andThen]
    · simp_all [Sem.run_bind, Result.andThen]
  · simp_all [Sem.run_bind, Result.andThen]
end Go.Proofs.Ytnknhencobhjdaa
