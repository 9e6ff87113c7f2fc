/- of; no statement is proved in this text. -/
import Derived.Test.YtlkcpjefgelcoaaTo
namespace Go.Proofs.Ytlkcpjefgelcoaa
open Go.ChangeShapes Go.WideShapes Go.ChangeAt Go.RowKit Go.Deep
attribute [local go_sem ↓] Go.wp_at_zero Go.wp_at_succ

theorem rowO_cnt (p : Int) (F : Nat → Int × Int) : ∀ k, ∀ s ∈ rowO p F k, 0 ≤ s.2.2.1 ∧ s.2.2.1 ≤ k
  | 0, s, h => by cases h
  | k + 1, s, h => by
    have ih := rowO_cnt p F k
    unfold rowO at h
    split at h
    · have := ih s h; omega
    · split at h
      · rcases List.mem_append.1 h with h | h
        · have := ih s h; omega
        · rw [List.mem_singleton.1 h]; simp; omega
      · rcases List.eq_nil_or_concat (rowO p F k) with e | ⟨X, x, e⟩
        · rw [e] at h; cases h
        · rw [List.concat_eq_append] at e
          rw [e] at h ih
          rw [incL_snoc] at h
          rcases List.mem_append.1 h with h | h
          · have := ih s (List.mem_append_left _ h); omega
          · rw [List.mem_singleton.1 h]
            have := ih x (by simp)
            unfold inc
            simp only
            omega
set_option maxRecDepth 100000 in
set_option maxHeartbeats 800000 in
theorem of_yes (w : World) (t r : Nat) (G : Gr) (h : Tg w t G) (hr : r < 6) (hF : ∀ k : Nat, k < 16 → G r k ≠ (0, 0) → (G r k).1 ≠ k → rowO ((r : Int) + 1) (G r) k ≠ []) :
    Calls Try.prog 37 #[pq t, i64 ((r : Int) + 1)] w fun e w' => GotS w w' e (rowO ((r : Int) + 1) (G r) 16) ∧ Below w.heap.size w w' := by
  have HC := hid (sproc_ok w ((r : Int) + 1))
  rw [decide_eq_true (show 1 ≤ (r : Int) + 1 ∧ (r : Int) + 1 ≤ 6 by omega)] at HC
  have hcs := h.range r hr
  have HRow := hid (fun (k : Nat) (hk : k < 16) (W : World) => row_index W (G r) k hk)
  have hz := fun W => zero62 W
  have ht := h.lt
  have HFF := hid hF
  have hrc := rowv_len (G r)
  clear h hF
  generalize G r = F at *
  have HL : Hid ((rowv F).length = 32) := hrc
  generalize rowv F = cs at *
  clear hrc
  go_enter Try.func37, Try.ntmps37
  go_wp2_with (first | (go_at_call 38; refine HC.out.mono ?_; rintro e2 w2 ⟨rfl, hv⟩; replace hv := hv.symm; subst hv) | (refine wpList_load_mid rfl 64 (.tmp 20) rfl t (r * 32) (by rfl) cs (.array 16 62) hcs under64 rfl (by rw [info64, HL.out]) ?_))
  clear HC
  have HCS := hid hcs
  clear hcs
  go_loopw [5, 22] (fun v i wr => ∃ (k n : Nat) (ao2 : Option Addr) (cap2 : Nat), k ≤ 16 ∧ n ≤ k ∧ i = i64 k ∧ v = .slice ao2 n cap2 ∧ Hid (n = (rowO ((r : Int) + 1) F k).length ∧ wr.ownsRow w.heap.size 71 4 (.slice ao2 n cap2) n (scn (rowO ((r : Int) + 1) F k))) ∧ Hid (Below w.heap.size w wr)) (fun _ i _ => 16 - (intOf i).toNat)
  case atStart => exact ⟨0, 0, none, 0, by omega, by omega, rfl, rfl, ⟨rfl, World.ownsRow_nil _ _ _ _⟩, Below.refl _ _⟩
  case round =>
    obtain ⟨k, n, ao2, cap2, hk, hn, rfl, rfl, HO, HB⟩ := hrel
    by_cases hlt : k < 16
    · have hkI : (k : Int) < 16 := by omega
      have hix := HRow.out k hlt
      have HFk := hid (HFF.out k hlt)
      have HS : Hid (rowO ((r : Int) + 1) F (k + 1) = if F k = (0, 0) then rowO ((r : Int) + 1) F k else if (F k).1 = k then rowO ((r : Int) + 1) F k ++ [((r : Int) + 1, (k : Int), 1, (F k).2)] else incL (rowO ((r : Int) + 1) F k)) := rfl
      obtain ⟨⟨a, b⟩, hab⟩ : ∃ c, F k = c := ⟨_, rfl⟩
      rw [hab] at hix HS HFk
      simp only at hix HS HFk
      have HBV : Hid (Below w.heap.size w (wr.alloc (.cells #[i64 a, i64 b] 62))) := HB.out.alloc HB.out.size _
      clear hab
      by_cases h0 : a = 0 ∧ b = 0
      · obtain ⟨rfl, rfl⟩ := h0
        have hq : ∀ W, (Op.equalIn 10000 62 (.agg #[i64 0, i64 0]) (.agg #[i64 0, i64 0])).run Try.prog W = .ok true W := fun W => eqC 9998 W 0 0 0 0
        have HE : Hid (n = (rowO ((r : Int) + 1) F (k + 1)).length ∧ (wr.alloc (.cells #[i64 0, i64 0] 62)).ownsRow w.heap.size 71 4 (.slice ao2 n cap2) n (scn (rowO ((r : Int) + 1) F (k + 1)))) := by
          rw [HS.out, if_pos rfl]
          exact ⟨HO.out.1, HO.out.2.alloc _⟩
        clear HS HO HFk
        go_wp2_with fail
        exact ⟨⟨k + 1, n, ao2, cap2, by omega, by omega, by go_num, rfl, HE, HBV⟩, by simp [intOf]; omega⟩
      · have hD : decide (a = 0 ∧ b = 0) = false := decide_eq_false h0
        have hq : ∀ W, (Op.equalIn 10000 62 (.agg #[i64 a, i64 b]) (.agg #[i64 0, i64 0])).run Try.prog W = .ok false W := fun W => by rw [eqC 9998 W a b 0 0, hD]
        have h0' : ¬((a, b) = ((0, 0) : Int × Int)) := fun e => h0 ⟨congrArg Prod.fst e, congrArg Prod.snd e⟩
        by_cases hak : a = k
        · subst hak
          have hE : ∃ ao3 cap3 w3, (Builtin.append_ #[35, 35] 35 #[.slice ao2 n cap2, .slice (some ⟨(wr.alloc (.cells #[i64 (k : Int), i64 b] 62)).heap.size, 0, none⟩) 1 1]).run Try.prog ((wr.alloc (.cells #[i64 (k : Int), i64 b] 62)).alloc (.cells #[i64 ((r : Int) + 1), i64 (k : Int), i64 1, i64 b] 71)) = .ok (.slice ao3 (n + 1) cap3) w3 ∧ (n + 1 = (rowO ((r : Int) + 1) F (k + 1)).length ∧ w3.ownsRow w.heap.size 71 4 (.slice ao3 (n + 1) cap3) (n + 1) (scn (rowO ((r : Int) + 1) F (k + 1)))) ∧ Below w.heap.size w w3 := by
            obtain ⟨ao3, cap3, w3, hrun, hown3, hfr3, _, _⟩ := app_far (te := 71) uS iS rfl (by omega) (by omega) (V := wr.alloc (.cells #[i64 (k : Int), i64 b] 62)) (HO.out.2.alloc _) (sC ((r : Int) + 1, (k : Int), 1, b)) rfl (sC_one _) (by omega) HBV.out.size
            refine ⟨ao3, cap3, w3, hrun, ?_, HBV.out.trans hfr3.below⟩
            rw [HS.out, if_neg h0', if_pos rfl, scn_app, scn_one, List.length_append, ← HO.out.1]
            exact ⟨rfl, hown3⟩
          obtain ⟨ao3, cap3, w3, hrun, hE3, hb3⟩ := hE
          rw [show (wr.alloc (.cells #[i64 (k : Int), i64 b] 62)).heap.size = wr.heap.size + 1 by simp] at hrun
          have HRUN := hid hrun
          have HE3 := hid hE3
          have HB3 := hid hb3
          clear HS HO HFk hrun hE3 hb3 h0 h0' hD
          go_wp2_with (at_builtin; refine wpList_app_run rfl (.tmp 45) (.tmp 51) 35 rfl _ _ rfl rfl 35 rfl _ _ HRUN.out ?_)
          exact ⟨⟨k + 1, n + 1, ao3, cap3, by omega, by omega, by go_num, rfl, HE3, HB3⟩, by simp [intOf]; omega⟩
        · have hq2 : (a == (k : Int)) = false := beq_false_of_ne hak
          have hne := HFk.out h0' hak
          obtain ⟨X, s, hX⟩ : ∃ X s, rowO ((r : Int) + 1) F k = X ++ [s] := by
            rcases List.eq_nil_or_concat (rowO ((r : Int) + 1) F k) with e | ⟨X, s, e⟩
            · exact absurd e hne
            · exact ⟨X, s, by rw [e, List.concat_eq_append]⟩
          rw [hX] at HO HS
          rw [if_neg h0', if_neg hak, incL_snoc] at HS
          have hnX : n = X.length + 1 := by have := HO.out.1; simpa using this
          subst hnX
          have hcap := own_cap4 HO.out.2
          obtain ⟨g, hg, hbg, cur, hgg, _⟩ := own_zero4 HO.out.2 (by omega)
          subst hg
          have hgl := blk_lt hgg
          have hlen : 0 ≤ s.2.2.1 ∧ s.2.2.1 ≤ k := rowO_cnt _ F k s (by rw [hX]; simp)
          have c2 : wr.cell? ⟨g, X.length * 4 + 2, none⟩ = some (i64 s.2.2.1) := by
            rw [HO.out.2.cellAt _ (by omega)]
            exact (scn_get (X ++ [s]) X.length s (by simp)).2.2.1
          have z2 : wr.frozen? ⟨g, X.length * 4 + 2, none⟩ = false := blk_frozen hgg _
          have HE : Hid (X.length + 1 = (rowO ((r : Int) + 1) F (k + 1)).length ∧ ((wr.setCell ⟨g, X.length * 4 + 2, none⟩ (i64 (s.2.2.1 + 1))).alloc (.cells #[i64 a, i64 b] 62)).ownsRow w.heap.size 71 4 (.slice (some ⟨g, 0, none⟩) (X.length + 1) cap2) (X.length + 1) (scn (rowO ((r : Int) + 1) F (k + 1)))) := by
            rw [HS.out]
            refine ⟨by simp, ?_⟩
            have := (own_setg HO.out.2 (i := X.length * 4 + 2) (i64 (s.2.2.1 + 1))).alloc (.cells #[i64 a, i64 b] 62)
            rw [scn_set X s [] 2 (by omega)] at this
            have e : scn (X ++ [inc s]) = scn X ++ (sC s).set 2 (i64 (s.2.2.1 + 1)) ++ scn [] := by
              rw [scn_app, scn_one, show scn [] = [] from rfl, List.append_nil]
              rfl
            rw [e]
            exact this
          have HBE : Hid (Below w.heap.size w ((wr.setCell ⟨g, X.length * 4 + 2, none⟩ (i64 (s.2.2.1 + 1))).alloc (.cells #[i64 a, i64 b] 62))) := (HB.out.setCell (by exact hbg) _).alloc (by have := HB.out.size; simpa using this) _
          generalize X.length = m at *
          generalize s.2.2.1 = y at *
          clear HS HO HFk h0 h0' hD hak hX hne hgg
          go_wp2_with fail
          exact ⟨⟨k + 1, m + 1, _, cap2, by omega, by omega, by go_num, rfl, HE, HBE⟩, by simp [intOf]; omega⟩
    · have : k = 16 := by omega
      subst this
      have HG : Hid (GotS w wr (.returned (.slice ao2 n cap2)) (rowO ((r : Int) + 1) F 16)) := by
        obtain ⟨e1, e2⟩ := HO.out
        rw [e1] at e2 ⊢
        exact ⟨ao2, cap2, rfl, e2⟩
      clear HO
      go_wp2_with fail
      go_ret
      exact ⟨HG.out, HB.out⟩
end Go.Proofs.Ytlkcpjefgelcoaa
