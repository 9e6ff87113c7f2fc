/- No statement here. -/
import Derived.Test.YtnknhencobhjdaaMGv
import Derived.Test.YtnknhencobhjdaaMBi
import Derived.Test.YtnknhencobhjdaaMCl
import Derived.Test.YtnknhencobhjdaaMFre
import Derived.Test.YtnknhencobhjdaaMNm
import Derived.Test.YtnknhencobhjdaaMSh1
import Derived.Test.YtnknhencobhjdaaMEr1
import Derived.Test.YtnknhencobhjdaaMEr3
import Derived.Test.YtnknhencobhjdaaMEr4
import Derived.Test.YtnknhencobhjdaaMEr5
import Derived.Test.YtnknhencobhjdaaMEr6
namespace Go.Proofs.Ytnknhencobhjdaa
open Go.ChangeShapes Go.WideShapes Go.ChangeAt Go.RowKit Go.Deep
open Go.Proofs.Ytnknhencobhjdaa.Cp (pq hid bl1 hO zC)
section
variable {base b d : Nat} {x : Bx} {y : Dx} {t : Qt.T} {s : Qt.St} {T : List Cp.Pl} {L : Ls} {R : Nat → List Hn} {C : List Cp.Rw} {Rs : List Rt} {P : List Int}
structure Both (base b d : Nat) (x : Bx) (y : Dx) (t : Qt.T) (s : Qt.St) (T : List Cp.Pl) (L : Ls) (R : Nat → List Hn) (C : List Cp.Rw) (Rs : List Rt) (P : List Int) (f g : FuncId) (av ad : Array Value) (ans : Value) (s' : Qt.St) (T' : List Cp.Pl) (L' : Ls) (R' : Nat → List Hn) (C' : List Cp.Rw) (Rs' : List Rt) : Prop where
  iv : Inv t s' T' L' R' C' Rs' P
  len : C'.length = C.length
  p : ∀ W, Bd W base b x t s T L R → Calls Try.prog f av W fun e w' => e = .returned ans ∧ Bd w' base b x t s' T' L' R' ∧ Bf base x W w'
  r : ∀ W, Dd W base d y t s C Rs P → Calls Try.prog g ad W fun e w' => e = .returned ans ∧ Dd w' base d y t s' C' Rs' P ∧ Df base y.pb W w'
theorem bd_same {W w' : World} (h : Bd W base b x t s T L R) (hb : Below W.heap.size W w') : Bd w' base b x t s T L R ∧ Bf base x W w' := ⟨h.below hb, Bf.of_below hb h.lo'⟩
theorem dd_same {W w' : World} (h : Dd W base d y t s C Rs P) (hb : Below W.heap.size W w') : Dd w' base d y t s C Rs P ∧ Df base y.pb W w' := ⟨h.below hb, Df.of_below hb h.lo'⟩
theorem both_close (h : Inv t s T L R C Rs P) (hcl : C.length ≤ 900) (env : Int) : ∃ X s' T' L' R' C' Rs', Both base b d x y t s T L R C Rs P 22 33 #[pq b, i64 env] #[pq d, i64 env] (i64 X) s' T' L' R' C' Rs' := by
  cases hx : Qt.at_ s env with
  | none =>
    refine ⟨6, s, T, L, R, C, Rs, h, rfl, fun W hW => ?_, fun W hW => ?_⟩
    · have := close_no hW env 6 (by rw [hx]; rfl) (by decide)
      rw [cl_no hx] at this
      exact this
    · exact (rclos_no hW env (by unfold opB; rw [hx]; rfl)).mono fun e w' ⟨he, hb⟩ => ⟨he, dd_same hW hb⟩
  | some pg =>
    obtain ⟨hr1, hr2⟩ := h.cr.dropEnv env
    obtain ⟨h1, h2, h3⟩ := h.close hx hr1
    refine ⟨0, _, _, _, _, _, _, h3, Cp.offs_len _ _, fun W hW => ?_, fun W hW => ?_⟩
    · exact close_ok hW env _ (by rw [hx]; rfl) (fun V hV => Cp.dropEnv_ok hV env (Cp.rkR C) h.cr.rk (C.length + 2) (Cp.rkR_le C))
    · have := rclos_ok hW (by have := h.rs_le; omega) (by omega) h.cr.fw h.caps env (by unfold opB; rw [hx]; rfl) _ rfl _ rfl
      rw [h1, h2] at this
      exact this
theorem both_free (h : Inv t s T L R C Rs P) (hcl : C.length ≤ 900) (env sl gn : Int) : ∃ X s' T' L' R' C' Rs', Both base b d x y t s T L R C Rs P 19 37 #[pq b, i64 env, .agg #[i64 sl, i64 gn]] #[pq d, i64 env, .agg #[i64 sl, i64 gn]] (i64 X) s' T' L' R' C' Rs' := by
  rcases h.cr.look env sl gn with ⟨h1, h2⟩ | ⟨i, q, sn, h1, h2, h3, h4, h5, h6, h7, h8, h9⟩
  · refine ⟨90, s, T, L, R, C, Rs, h, rfl, fun W hW => ?_, fun W hW => ?_⟩
    · have hlk := Cp.looks_tb hW.tb env sl gn
      rw [h1] at hlk
      exact (free_stale W (pq b) _ _ _ _ _ _ env sl gn 0 0 0 0 (ent_ok hW.row) hlk).mono fun e w' ⟨he, hb⟩ => ⟨he, bd_same hW hb⟩
    · exact (rfree_stale hW (by omega) env sl gn h2).mono fun e w' ⟨he, hb⟩ => ⟨he, dd_same hW hb⟩
  · have hqc : q.c = ⟨q.c.env, q.c.kind, q.c.num, q.c.rts⟩ := rfl
    rcases h.cr.fw i q h3 with hf | ⟨j, hf, hj⟩
    · obtain ⟨r0, hr0, hc0, k, n, hk, hk1, hn1, e1, e2, e3, hR⟩ := h.root h3 h4 hf
      obtain ⟨hr1, hr2⟩ := h.cr.drop h3 h4
      obtain ⟨hs, hi⟩ := h.free h3 h4 hf hr1
      refine ⟨0, _, _, _, _, _, _, hi, Cp.offs_len _ _, fun W hW => ?_, fun W hW => ?_⟩
      · have hd : ∀ V, Cp.Tb V base x.kt T → Calls Try.prog 54 #[pq x.kt, i64 env, .agg #[i64 sl, i64 gn]] V fun e w' => e = .returned (.tuple #[i64 ((Cp.gnL T (Cp.mDrop q.sl) (C.length + 2) 128).length : Nat), i64 0]) ∧ Cp.Tb w' base x.kt (Cp.clr T (Cp.gnL T (Cp.mDrop q.sl) (C.length + 2) 128)) ∧ Touch x.kt V w' := fun V hV => by
          have hlk := Cp.looks_tb hV env sl gn
          rw [h1] at hlk
          rw [h7]
          exact Cp.drop_ok hV env sl gn q.c hlk (Cp.rkR C) h.cr.rk (C.length + 2) (Cp.rkR_le C)
        have := free_ok hW env sl gn q.c.env q.c.kind q.c.num q.c.rts _ h1 k n hk hk1 hn1 (by rw [hR, h7, h8]) hd
        rw [h9]
        exact this
      · have := rfree_ok hW (by omega) env sl gn (by have := h.rs_le; omega) h.cr.fw h.caps i q h2 h3 hf _ rfl
        rw [hs] at this
        exact this
    · refine ⟨91, s, T, L, R, C, Rs, h, rfl, fun W hW => ?_, fun W hW => ?_⟩
      · have hne : ¬ rootV R q.c.kind q.c.num = (sl, gn) := fun e => by
          have hgn := gn_pos h.cr h3 h4
          unfold rootV rwK at e
          by_cases h0 : 0 ≤ q.c.num
          · rw [if_pos h0] at e
            by_cases hk : 1 ≤ q.c.kind ∧ q.c.kind ≤ 3
            · rw [if_pos hk] at e
              cases hv : (R (q.c.kind - 1).toNat)[q.c.num.toNat]? with
              | none => rw [hv] at e; have := congrArg Prod.snd e; simp at this; omega
              | some v =>
                rw [hv] at e
                exact h.noroot h3 h4 hf _ _ (by omega) v hv (by rw [h7, h8]; exact e)
            · rw [if_neg hk] at e; have := congrArg Prod.snd e; simp at this; omega
          · rw [if_neg h0] at e; have := congrArg Prod.snd e; simp at this; omega
        obtain ⟨⟨r0, r1⟩, hrv⟩ : ∃ v, rootV R q.c.kind q.c.num = v := ⟨_, rfl⟩
        rw [hrv] at hne
        exact (free_right hW env sl gn q.c.env q.c.kind q.c.num q.c.rts r0 r1 h1 (fun V hV => root_any (hW.below hV) q.c.kind q.c.num r0 r1 hrv) hne).mono fun e w' ⟨he, hb⟩ => ⟨he, bd_same hW hb⟩
      · exact (rfree_right hW (by omega) env sl gn i q h2 h3 j hf).mono fun e w' ⟨he, hb⟩ => ⟨he, dd_same hW hb⟩
theorem both_revoke (h : Inv t s T L R C Rs P) (hcl : C.length ≤ 900) (env sl gn : Int) : ∃ M E s' T' L' R' C', Inv t s' T' L' R' C' Rs P ∧ C'.length = C.length ∧ s' = s ∧ (∀ W, Bd W base b x t s T L R → Calls Try.prog 25 #[pq b, i64 env, .agg #[i64 sl, i64 gn]] W fun e w' => e = .returned (.tuple #[i64 M, i64 E]) ∧ Bd w' base b x t s T' L' R' ∧ Bf base x W w') ∧ (∀ W, Dd W base d y t s C Rs P → Calls Try.prog 39 #[pq y.kc, i64 env, .agg #[i64 sl, i64 gn], .bool false] W fun e w' => e = .returned (.tuple #[i64 M, i64 E]) ∧ Dd w' base d y t s C' Rs P ∧ Df base y.pb W w') := by
  rcases h.cr.look env sl gn with ⟨h1, h2⟩ | ⟨i, q, sn, h1, h2, h3, h4, h5, h6, h7, h8, h9⟩
  · have hoff : Cp.offs (fun _ => false) C = C := Cp.offs_none (fun _ _ => rfl)
    have hi : Inv t s T (strL T L) (mixR R (strL T L) 3) C Rs P := by
      have := h.revoke (K := fun _ => false) (T' := T) (fun _ _ _ _ => rfl) (by rw [hoff]; exact h.cr)
      rw [hoff] at this
      exact this
    refine ⟨0, 90, s, T, _, _, C, hi, rfl, rfl, fun W hW => ?_, fun W hW => ?_⟩
    · exact revoke_ok hW env sl gn 0 90 (fun V hV => by
        have hlk := Cp.looks_tb hV env sl gn
        rw [h1] at hlk
        exact (Cp.revoke_stale V _ env sl gn hlk).mono fun e w' ⟨he, hb⟩ => ⟨he, hV.below hb, Cp.Touch.of_below hb⟩)
    · exact (Cp.rdrop_stale hW.cp (by omega) env sl gn false h2).mono fun e w' ⟨he, hb⟩ => ⟨he, dd_same hW hb⟩
  · obtain ⟨hr1, hr2⟩ := h.cr.revoke h3 h4
    have hi := h.revoke (K := Cp.klB C i false) (fun j q' hq' hf => by
      unfold Cp.klB
      rw [root_bl h.cr.fw hq' hf]
      simp) hr1
    refine ⟨((Cp.gnL T (Cp.mRev T q.sl) (C.length + 2) 128).length : Nat), 0, s, _, _, _, _, hi, Cp.offs_len _ _, rfl, fun W hW => ?_, fun W hW => ?_⟩
    · exact revoke_ok hW env sl gn _ 0 (fun V hV => by
        have hlk := Cp.looks_tb hV env sl gn
        rw [h1] at hlk
        rw [h7]
        exact Cp.revoke_ok hV env sl gn q.c hlk (Cp.rkR C) h.cr.rk (C.length + 2) (Cp.rkR_le C))
    · have := Cp.rdrop_ok hW.cp (by omega) h.cr.fw env sl gn false i h2
      rw [← hr2] at this
      exact this.mono fun e w' ⟨he, hb, hf⟩ => ⟨he, hW.caps hb hf, Df.of_caps hf⟩
theorem both_number (h : Inv t s T L R C Rs P) (hcl : C.length ≤ 900) (env sl gn kind : Int) : ∃ nv ne : Int, (∀ W, Bd W base b x t s T L R → Calls Try.prog 16 #[pq b, i64 env, .agg #[i64 sl, i64 gn], i64 kind] W fun e w' => e = .returned (.tuple #[i64 nv, i64 ne]) ∧ Below W.heap.size W w') ∧ (∀ W, Dd W base d y t s C Rs P → Calls Try.prog 40 #[pq d, i64 env, .agg #[i64 sl, i64 gn], i64 kind] W fun e w' => e = .returned (.tuple #[i64 nv, i64 ne]) ∧ Below W.heap.size W w') ∧ (Cp.lookF T env sl gn = none → ne = 90) ∧ (∀ c, Cp.lookF T env sl gn = some c → c.kind = kind → ¬ c.rts = 2 → nv = c.num ∧ ne = 0) := by
  rcases h.cr.look env sl gn with ⟨h1, h2⟩ | ⟨i, q, sn, h1, h2, h3, h4, h5, h6, h7, h8, h9⟩
  · refine ⟨0, 90, fun W hW => ?_, fun W hW => ?_, fun _ => rfl, fun c hc => (by rw [h1] at hc; cases hc)⟩
    · have hlk := Cp.looks_tb hW.tb env sl gn
      rw [h1] at hlk
      exact number_stale W (pq b) _ _ _ _ _ _ env sl gn kind 0 0 0 0 rfl (ent_ok hW.row) hlk
    · exact rnumber_ok hW (by omega) env sl gn kind 0 90 (by rw [h2]; rfl)
  · have hrt := h.cr.rt i q h3 h4
    have hrts : q.c.rts = 1 ∨ q.c.rts = 2 ∨ q.c.rts = 3 := by
      unfold Cp.rightB at hrt
      simp at hrt
      omega
    have hrn : rnV C (Cp.fdI C env sl gn) kind = (if q.c.kind = kind then (if q.c.rts = 2 then ((0 : Int), (91 : Int)) else (q.c.num, 0)) else (0, 1)) := by
      unfold rnV
      rw [h2, if_neg (by omega), Int.toNat_natCast, h3]
    have hlkW : ∀ W, Bd W base b x t s T L R → Cp.Looks W (pq x.kt) env sl gn q.c 0 := fun W hW => by
      have hlk := Cp.looks_tb hW.tb env sl gn
      rw [h1] at hlk
      exact hlk
    by_cases hk : q.c.kind = kind
    · rw [if_pos hk] at hrn
      by_cases hr2 : q.c.rts = 2
      · rw [if_pos hr2] at hrn
        refine ⟨0, 91, fun W hW => ?_, fun W hW => rnumber_ok hW (by omega) env sl gn kind 0 91 hrn, fun hn => (by rw [h1] at hn; cases hn), fun c hc _ hr => by rw [h1] at hc; cases hc; exact absurd hr2 hr⟩
        rw [← hk]
        exact number_no W (pq b) _ _ _ _ _ _ env sl gn q.c.env q.c.kind q.c.num q.c.rts 91 (ent_ok hW.row) (hlkW W hW) (by decide) (fun V hV => by
          have := Cp.check_any (hW.tb.below hV) h.cr.rts env sl gn 1
          rw [h1] at this
          have hch : Cp.chE (some q.c) 1 = 91 := by rw [Cp.chE_eq, hr2]; rfl
          rw [hch] at this
          exact this)
      · rw [if_neg hr2] at hrn
        refine ⟨q.c.num, 0, fun W hW => ?_, fun W hW => rnumber_ok hW (by omega) env sl gn kind _ 0 hrn, fun hn => (by rw [h1] at hn; cases hn), fun c hc _ _ => by rw [h1] at hc; cases hc; exact ⟨rfl, rfl⟩⟩
        rw [← hk]
        refine number_ok hW h.cr.rts env sl gn q.c.env q.c.kind q.c.num q.c.rts h1 ?_
        rcases hrts with e | e | e
        · rw [Cp.chE_eq]; simp only [e]; rfl
        · exact absurd e hr2
        · rw [Cp.chE_eq]; simp only [e]; rfl
    · rw [if_neg hk] at hrn
      refine ⟨0, 1, fun W hW => ?_, fun W hW => rnumber_ok hW (by omega) env sl gn kind 0 1 hrn, fun hn => (by rw [h1] at hn; cases hn), fun c hc hk' _ => by rw [h1] at hc; cases hc; exact absurd hk' hk⟩
      exact number_kind W (pq b) _ _ _ _ _ _ env sl gn q.c.env q.c.kind q.c.num q.c.rts kind (ent_ok hW.row) (hlkW W hW) hk
structure Gives (base b d : Nat) (x : Bx) (y : Dx) (t : Qt.T) (s : Qt.St) (T : List Cp.Pl) (L : Ls) (R : Nat → List Hn) (C : List Cp.Rw) (Rs : List Rt) (P : List Int) (f g : FuncId) (av ad : Array Value) (ap ar : Value) (s' : Qt.St) (T' : List Cp.Pl) (L' : Ls) (R' : Nat → List Hn) (C' : List Cp.Rw) (Rs' : List Rt) (P' : List Int) : Prop where
  iv : Inv t s' T' L' R' C' Rs' P'
  len : C'.length ≤ C.length + 1
  p : ∀ W, Bd W base b x t s T L R → Calls Try.prog f av W fun e w' => e = .returned ap ∧ Bd w' base b x t s' T' L' R' ∧ Bf base x W w'
  r : ∀ W, Dd W base d y t s C Rs P → Calls Try.prog g ad W fun e w' => e = .returned ar ∧ ∃ pb', PbOk W y.pb pb' ∧ Dd w' base d ⟨y.kc, y.kb, pb'⟩ t s' C' Rs' P' ∧ Df base y.pb W w'
theorem both_bind (h : Inv t s T L R C Rs P) (hw : Qt.Wf t s) (hlen : ∀ k, k < 3 → (R k).length ≤ 64) (hcl : C.length ≤ 100) (env kind : Int) : ∃ N sl gn E s' T' L' R' C' Rs' P', Gives base b d x y t s T L R C Rs P 20 34 #[pq b, i64 env, i64 kind] #[pq d, i64 env, i64 kind] (.tuple #[i64 N, .agg #[i64 sl, i64 gn], i64 E]) (.agg #[i64 N, i64 sl, i64 gn, i64 E]) s' T' L' R' C' Rs' P' := by
  have hll : L.length ≤ 1000 := by rw [h.bl]; have := bls_len C P; omega
  by_cases htk : Qt.tkE (Qt.at_ s env) kind 1 = 0
  · have hpd : cnt L env = pdN C P env := by rw [h.bl]; exact cnt_bls h.pl env
    by_cases hfu : 42 ≤ pdN C P env
    · refine ⟨0, 0, 0, 5, s, T, L, R, C, Rs, P, h, by omega, fun W hW => ?_, fun W hW => ?_⟩
      · have := bind_full hW hll env kind htk (by rw [hpd]; exact hfu)
        rw [gv_tk htk (fun x hx => (g_le (hw.le_at (Qt.at_some hx).2.2) kind).1)] at this
        exact this
      · exact (rbind_full hW env kind htk (by have := h.pl; omega) h.pl hfu).mono fun e w' ⟨he, hb⟩ => ⟨he, y.pb, PbOk.refl _ _, (dd_same hW hb).1, (dd_same hW hb).2⟩
    · obtain ⟨pg, hx, hk1, hk3, _⟩ := tk_some htk
      have hk : (kind - 1).toNat < 3 := by omega
      have hkind : kind = (((kind - 1).toNat : Nat) : Int) + 1 := by omega
      obtain ⟨nn, h0, hno⟩ := h.room hw htk hk hkind
      obtain ⟨hf1, hf2⟩ := h.find hk h0 hno
      rw [← hkind] at hf1 hf2
      have hn64 : nn < 64 := by have := (List.getElem?_eq_some_iff.1 h0).1; have := hlen _ hk; omega
      have hc : Cp.rightB ⟨env, kind, (nn : Nat), 3⟩ = true := by
        obtain ⟨g1, g2, _⟩ := Qt.at_some hx
        unfold Cp.rightB
        simp
        omega
      obtain ⟨sl, p, hsl, hp, hz, hbef, ha0, haj⟩ := h.cr.first (by omega)
      have hgl := h.cr.gen_le hp
      have hgen := h.cr.gen sl p hp
      refine ⟨(nn : Nat), (sl : Nat), p.gen + 1, 0, _, _, _, _, _, _, _, h.bind htk hk hkind h0 hsl hp hz hc, by simp, fun W hW => ?_, fun W hW => ?_⟩
      · exact bind_ok hW hll env kind htk (by rw [hpd]; omega) _ hk hkind nn h0 hno hc sl p hp hz hbef hgl.1 (by omega) (h.fresh hp hz _)
      · exact rbind_ok hW env kind htk (by have := h.pl; omega) h.pl (by omega) (by have := h.rs_le; omega) nn hn64 hf1 hf2 (by omega) hc sl hsl ha0 haj (p.gen + 1) (by rw [hgen])
  · obtain ⟨E, hE⟩ : ∃ E, Qt.tkE (Qt.at_ s env) kind 1 = E := ⟨_, rfl⟩
    rw [hE] at htk
    refine ⟨0, 0, 0, E, s, T, L, R, C, Rs, P, h, by omega, fun W hW => ?_, fun W hW => ?_⟩
    · have := bind_no hW env kind E hE htk
      rw [tk_no hE htk] at this
      exact this
    · exact (rbind_no hW env kind E hE htk).mono fun e w' ⟨he, hb⟩ => ⟨he, y.pb, PbOk.refl _ _, (dd_same hW hb).1, (dd_same hW hb).2⟩
theorem both_share (h : Inv t s T L R C Rs P) (hcl : C.length ≤ 100) (env sl gn tt rights : Int) : ∃ ds dg E s' T' L' R' C' Rs' P', Gives base b d x y t s T L R C Rs P 24 38 #[pq b, i64 env, .agg #[i64 sl, i64 gn], i64 tt, i64 rights] #[pq d, i64 env, .agg #[i64 sl, i64 gn], .agg #[i64 tt, i64 rights]] (.tuple #[.agg #[i64 ds, i64 dg], i64 E]) (.agg #[i64 0, i64 ds, i64 dg, i64 E]) s' T' L' R' C' Rs' P' := by
  have hll : L.length ≤ 1000 := by rw [h.bl]; have := bls_len C P; omega
  have hpd : cnt L env = pdN C P env := by rw [h.bl]; exact cnt_bls h.pl env
  have noD : ∀ W w', Dd W base d y t s C Rs P → Below W.heap.size W w' → ∃ pb', PbOk W y.pb pb' ∧ Dd w' base d ⟨y.kc, y.kb, pb'⟩ t s C Rs P ∧ Df base y.pb W w' := fun W w' hW hb => ⟨y.pb, PbOk.refl _ _, (dd_same hW hb).1, (dd_same hW hb).2⟩
  rcases h.cr.look env sl gn with ⟨h1, h2⟩ | ⟨i, q, sn, h1, h2, h3, h4, h5, h6, h7, h8, h9⟩
  · refine ⟨0, 0, 90, s, T, L, R, C, Rs, P, h, by omega, fun W hW => ?_, fun W hW => ?_⟩
    · have hlk := Cp.looks_tb hW.tb env sl gn
      rw [h1] at hlk
      exact (share_stale W (pq b) _ _ _ _ _ _ env sl gn tt rights 0 0 0 0 (ent_ok hW.row) hlk).mono fun e w' ⟨he, hb⟩ => ⟨he, bd_same hW hb⟩
    · exact (rshare_stale hW (by omega) h.pl env sl gn tt rights h2).mono fun e w' ⟨he, hb⟩ => ⟨he, noD W w' hW hb⟩
  · cases hop : Qt.at_ s tt with
    | none =>
      refine ⟨0, 0, 6, s, T, L, R, C, Rs, P, h, by omega, fun W hW => ?_, fun W hW => ?_⟩
      · exact (share_env hW env sl gn tt rights q.c.env q.c.kind q.c.num q.c.rts 6 h1 (by rw [hop]; rfl) (by decide)).mono fun e w' ⟨he, hb⟩ => ⟨he, bd_same hW hb⟩
      · exact (rshare_env hW (by omega) h.pl env sl gn tt rights i h2 (by unfold opB; rw [hop]; rfl)).mono fun e w' ⟨he, hb⟩ => ⟨he, noD W w' hW hb⟩
    | some pg =>
      have hob : opB s tt = true := by unfold opB; rw [hop]; rfl
      have hpe : Qt.pE (Qt.at_ s tt) = 0 := by rw [hop]; rfl
      have htt : Cp.envB tt = true := by
        obtain ⟨g1, g2, _⟩ := Qt.at_some hop
        unfold Cp.envB
        simp
        omega
      by_cases hfu : 42 ≤ pdN C P env
      · refine ⟨0, 0, 5, s, T, L, R, C, Rs, P, h, by omega, fun W hW => ?_, fun W hW => ?_⟩
        · exact (share_full hW env sl gn tt rights q.c.env q.c.kind q.c.num q.c.rts h1 hpe hll (by rw [hpd]; exact hfu)).mono fun e w' ⟨he, hb⟩ => ⟨he, bd_same hW hb⟩
        · exact (rshare_full hW (by omega) h.pl env sl gn tt rights i h2 hob hfu).mono fun e w' ⟨he, hb⟩ => ⟨he, noD W w' hW hb⟩
      · have hcn : cnt L env < 42 := by rw [hpd]; omega
        have hfu' : pdN C P env < 42 := by omega
        have hrt := h.cr.rt i q h3 h4
        have hlkW : ∀ V, Cp.Tb V base x.kt T → Cp.Looks V (pq x.kt) env sl gn q.c 0 := fun V hV => by
          have hlk := Cp.looks_tb hV env sl gn
          rw [h1] at hlk
          exact hlk
        have hcr : Cp.envB q.c.rts = true := by
          unfold Cp.rightB at hrt
          unfold Cp.envB
          simp at hrt ⊢
          omega
        have errs : ∀ D : Int, ¬ D = 0 → (∀ V, Cp.Tb V base x.kt T → Calls Try.prog 62 #[pq x.kt, i64 env, .agg #[i64 sl, i64 gn], i64 tt, i64 rights] V fun e w' => e = .returned (.tuple #[.agg #[i64 0, i64 0], i64 D]) ∧ Below V.heap.size V w') → (∀ V, Dd V base d y t s C Rs P → Calls Try.prog 71 #[pq y.kc, i64 env, .agg #[i64 sl, i64 gn], .agg #[i64 tt, i64 rights]] V fun e w' => e = .returned (.agg #[i64 0, i64 0, i64 D]) ∧ Below V.heap.size V w') → ∃ ds dg E s' T' L' R' C' Rs' P', Gives base b d x y t s T L R C Rs P 24 38 #[pq b, i64 env, .agg #[i64 sl, i64 gn], i64 tt, i64 rights] #[pq d, i64 env, .agg #[i64 sl, i64 gn], .agg #[i64 tt, i64 rights]] (.tuple #[.agg #[i64 ds, i64 dg], i64 E]) (.agg #[i64 0, i64 ds, i64 dg, i64 E]) s' T' L' R' C' Rs' P' := fun D hD hc1 hc2 => by
          refine ⟨0, 0, D, s, T, L, R, C, Rs, P, h, by omega, fun W hW => ?_, fun W hW => ?_⟩
          · exact (share_no hW env sl gn tt rights q.c.env q.c.kind q.c.num q.c.rts h1 hpe hll hcn D hD hc1).mono fun e w' ⟨he, hb⟩ => ⟨he, bd_same hW hb⟩
          · exact (rshare_no hW (by omega) h.pl env sl gn tt rights i h2 hob hfu' C 0 0 D (fun V hV => (hc2 V hV).mono fun e w' ⟨he, hb⟩ => ⟨he, hV.below hb, Fr.of_below _ hb hV.lo'⟩) hD).mono fun e w' ⟨he, hd, hf⟩ => ⟨he, y.pb, PbOk.refl _ _, hd, hf⟩
        by_cases hrr : Cp.envB rights = true
        · have hright : Cp.rightB ⟨tt, q.c.kind, q.c.num, rights⟩ = true := by
            unfold Cp.rightB at hrt ⊢
            unfold Cp.envB at htt hrr
            simp at hrt htt hrr ⊢
            omega
          by_cases hg : Cp.grB q.c.rts rights = true
          · obtain ⟨s2, p, hsl, hp, hz, hbef, ha0, haj⟩ := h.cr.first (by omega)
            have hgl := h.cr.gen_le hp
            have hgen := h.cr.gen s2 p hp
            refine ⟨(s2 : Nat), p.gen + 1, 0, _, _, _, _, _, _, _, h.share h3 h4 hsl hp hz hright env ⟨pg, hop⟩, by simp, fun W hW => ?_, fun W hW => ?_⟩
            · exact share_ok hW hll env sl gn tt rights q.c.env q.c.kind q.c.num q.c.rts h1 hpe hcn s2 (p.gen + 1) (fun V hV => by
                have := Cp.derive_ok hV env sl gn tt rights q.c (hlkW V hV) htt hrr hcr hg s2 p hp hz hbef hgl.1 (by omega)
                rw [h7]
                exact this) (h.fresh hp hz _)
            · exact rshare_ok hW (by omega) h.pl env sl gn tt rights i h2 hob hfu' _ (s2 : Nat) (p.gen + 1) 0 (fun V hV => by
                have := Cp.rderive_ok hV.cp (by omega) env sl gn tt rights i q h2 h3 hright hcr hrr hg s2 hsl ha0 haj
                rw [← hgen] at this
                exact this.mono fun e w' ⟨he, hb, hf⟩ => ⟨he, hV.caps hb hf, hf⟩) rfl
          · exact errs 91 (by decide) (fun V hV => Cp.derive_no _ env sl gn tt rights q.c (hlkW V hV) htt hrr hcr (by simpa using hg)) (fun V hV => Cp.rderive_right hV.cp (by omega) env sl gn tt rights i q h2 h3 hright hcr hrr (by simpa using hg))
        · have hr0 : Cp.envB rights = false := by simpa using hrr
          exact errs 1 (by decide) (fun V hV => Cp.derive_rts _ env sl gn tt rights q.c.env q.c.kind q.c.num q.c.rts (hlkW V hV) htt hr0) (fun V hV => Cp.rderive_arg hV.cp (by omega) env sl gn tt rights i q h2 h3 (by
            unfold Cp.rightB
            unfold Cp.envB at hr0
            simp at hr0 ⊢
            omega))
theorem ropen_dd {W : World} {s' : Qt.St} (hW : Dd W base d y t s C Rs P) (env : Int) (q : Qt.T) (hq : q.rng) (ho : Qt.OpS t s s' env q) (hw : Qt.Wf t s') : Calls Try.prog 32 #[pq y.kb, i64 env, q.v] W fun e w' => e = .returned (i64 (Qt.opE t s env q)) ∧ Dd w' base d y t s' C Rs P ∧ Df base y.pb W w' := by
  obtain ⟨Q, hQ, hB⟩ := hW.bk
  exact (Qt.ropen_rel hB hQ hW.wf env q hq).mono fun e w' ⟨he, Q', hQ', hB', hf⟩ => ⟨he, hW.book (hQ' s' ho) hw hB' hf, Df.of_book hf⟩
end
end Go.Proofs.Ytnknhencobhjdaa
