/- types.reader's take and number: their contracts; no statement is proved in this text. -/
import Derived.Test.YtihbbgcpdgnhoaaGreatDoorLg
import Derived.Test.YtihbbgcpdgnhoaaGreatDoorNm
import Derived.Test.YtihbbgcpdgnhoaaGreatDoorShelf
namespace Go.Proofs.YtihbbgcpdgnhoaaGreatDoor
open Go.ChangeShapes Go.WideShapes Go.ChangeAt Go.RowKit Go.Deep
attribute [local go_sem ↓] Go.wp_at_zero Go.wp_at_succ

theorem trim_hit (c : UInt8) (r : Bs) : Lib.trimPrefix (c :: r) [c] = r ∧ Lib.hasPrefix (c :: r) [c] = true := by
  constructor <;> simp [Lib.trimPrefix, Lib.hasPrefix]
theorem trim_miss (c : UInt8) (l : Bs) (h : ∀ r, l ≠ c :: r) : Lib.trimPrefix l [c] = l ∧ Lib.hasPrefix l [c] = false := by
  have : [c].isPrefixOf l = false := by
    cases l with
    | nil => rfl
    | cons b r =>
      have : c ≠ b := fun e => h r (by rw [e])
      simp [List.isPrefixOf, this]
  constructor
  · simp [Lib.trimPrefix, Lib.hasPrefix, this]
  · simp [Lib.hasPrefix, this]
theorem cutp (l m : Bs) (w : World) : Calls Tryz.prog 90 #[str l, str m] w fun e w' => e = .returned (.tuple #[str (Lib.trimPrefix l m), .bool (Lib.hasPrefix l m)]) ∧ w' = w := by
  have := Tryz.strings_CutPrefix ⟨l.toArray⟩ ⟨m.toArray⟩ w
  simpa using this
set_option maxRecDepth 100000 in
set_option maxHeartbeats 3200000 in
theorem take_any (w : World) (q : Nat) (l : Bs) (c : UInt8) (l' : Bs) (B : Bool) (h1 : Lib.trimPrefix l [c] = l') (h2 : Lib.hasPrefix l [c] = B) (hq : w.heap[q]? = some (.cells #[str l] 133)) : Calls Tryz.prog 82 #[pq q, str [c]] w fun e w' => e = .returned (.bool B) ∧ w'.heap[q]? = some (.cells #[str l'] 133) ∧ Touch q w w' := by
  have HC : Hid (Calls Tryz.prog 90 #[str l, str [c]] w fun e w' => e = .returned (.tuple #[str l', .bool B]) ∧ w' = w) := by have := cutp l [c] w; rw [h1, h2] at this; exact this
  have HQ := hid hq
  have y0 : w.cell? ⟨q, 0, none⟩ = some (str l) := blk_cell hq 0
  have f0 : w.frozen? ⟨q, 0, none⟩ = false := blk_frozen hq 0
  have HQ1 : Hid ((w.setCell ⟨q, 0, none⟩ (str l')).heap[q]? = some (.cells #[str l'] 133)) := set1 hq _
  have HT1 : Hid (Touch q w (w.setCell ⟨q, 0, none⟩ (str l'))) := hid ((Touch.refl q w).setCell rfl _)
  clear hq h1 h2
  go_enter Tryz.func82, Tryz.ntmps82
  go_wp2_with fail
  refine HC.out.mono ?_
  rintro e v1 ⟨rfl, hv⟩
  replace hv := hv.symm
  subst hv
  go_wp2_with fail
  go_ret
  exact ⟨rfl, HQ1.out, HT1.out⟩
theorem take_hit (w : World) (q : Nat) (c : UInt8) (r : Bs) (hq : w.heap[q]? = some (.cells #[str (c :: r)] 133)) : Calls Tryz.prog 82 #[pq q, str [c]] w fun e w' => e = .returned (.bool true) ∧ w'.heap[q]? = some (.cells #[str r] 133) ∧ Touch q w w' :=
  take_any w q _ c _ _ (trim_hit c r).1 (trim_hit c r).2 hq
theorem take_miss (w : World) (q : Nat) (c : UInt8) (l : Bs) (h : ∀ r, l ≠ c :: r) (hq : w.heap[q]? = some (.cells #[str l] 133)) : Calls Tryz.prog 82 #[pq q, str [c]] w fun e w' => e = .returned (.bool false) ∧ w'.heap[q]? = some (.cells #[str l] 133) ∧ Touch q w w' :=
  take_any w q _ c _ _ (trim_miss c l h).1 (trim_miss c l h).2 hq
theorem tw_len (p : UInt8 → Bool) : ∀ (l : Bs) (k : Nat), (∀ c ∈ l.take k, p c = true) → k ≤ l.length → k ≤ (l.takeWhile p).length
  | _, 0, _, _ => Nat.zero_le _
  | [], k + 1, _, h => by simp at h
  | b :: l, k + 1, hp, h => by
    have hb := hp b (by simp)
    rw [List.takeWhile_cons, if_pos hb, List.length_cons]
    have := tw_len p l k (fun c hc => hp c (by rw [List.take_succ_cons]; exact List.mem_cons_of_mem _ hc)) (by simpa using h)
    omega
theorem tw_stop (p : UInt8 → Bool) : ∀ (l : Bs) (k : Nat) (h : k < l.length), p l[k] = false → (l.takeWhile p).length ≤ k
  | b :: l, 0, _, hp => by
    have : p b = false := hp
    rw [List.takeWhile_cons, this]; simp
  | b :: l, k + 1, h, hp => by
    have := tw_stop p l k (by simpa using h) hp
    rw [List.takeWhile_cons]
    split
    · simp; omega
    · simp
theorem digs_end (l : Bs) (k : Nat) (hp : ∀ c ∈ l.take k, isDig c = true) (hk : k ≤ 3) (hl : k ≤ l.length) (he : k = 3 ∨ k = l.length ∨ ∃ h : k < l.length, isDig l[k] = false) : digs3 l = l.take k := by
  have h1 := tw_len isDig l k hp hl
  unfold digs3
  rcases he with rfl | rfl | ⟨h, hd⟩
  · exact (tw_pre isDig l 3 h1).symm
  · have h2 : (l.takeWhile isDig).length ≤ l.length := by have := congrArg List.length (List.takeWhile_append_dropWhile (p := isDig) (l := l)); rw [List.length_append] at this; omega
    have h3 := tw_pre isDig l l.length h1
    rw [List.take_of_length_le (by omega), h3, List.take_of_length_le (by omega)]
  · have h2 := tw_stop isDig l k h hd
    rw [List.take_of_length_le (by omega), tw_pre isDig l k h1, List.take_of_length_le (by omega)]
theorem valD_snoc (d : Bs) (c : UInt8) : valD (d ++ [c]) = 10 * valD d + (c.toNat - 48) := by simp [valD, List.foldl_append]
theorem valD_lt : ∀ (k : Nat) (d : Bs), d.length ≤ k → (∀ c ∈ d, isDig c = true) → valD d < 10 ^ k := by
  intro k
  induction k with
  | zero => 
    intro d hd _
    have hd0 : d = [] := List.eq_nil_of_length_eq_zero (by omega)
    subst hd0
    decide
  | succ k ih =>
    intro d hd hp
    rcases List.eq_nil_or_concat d with rfl | ⟨d', c, rfl⟩
    · have : 0 < 10 ^ (k + 1) := Nat.pow_pos (by omega)
      simpa [valD] using this
    · rw [List.concat_eq_append] at hd hp ⊢
      rw [valD_snoc]
      have h1 := ih d' (by simp at hd; omega) (fun c hc => hp c (by simp [hc]))
      have hc := hp c (by simp)
      simp only [isDig, Bool.and_eq_true, decide_eq_true_eq] at hc
      rw [Nat.pow_succ]; omega
theorem dig_of {c : UInt8} (h : (48 : Int) ≤ c.toNat) (h2 : (c.toNat : Int) ≤ 57) : isDig c = true := by
  unfold isDig; rw [decide_eq_true (show 48 ≤ c.toNat by omega), decide_eq_true (show c.toNat ≤ 57 by omega)]; rfl
theorem dig_no {c : UInt8} (h : ¬ ((48 : Int) ≤ c.toNat) ∨ ¬ ((c.toNat : Int) ≤ 57)) : isDig c = false := by
  unfold isDig
  rcases h with h | h
  · rw [decide_eq_false (show ¬ 48 ≤ c.toNat by omega)]; rfl
  · rw [decide_eq_false (show ¬ c.toNat ≤ 57 by omega)]; simp
theorem get_at (s : ByteArray) (k : Nat) (_h : k < s.size) (h' : k < s.data.toList.length) : s.data.toList[k] = s[k] := rfl
theorem hasp0 (l : Bs) (w : World) : Calls Tryz.prog 91 #[str l, str [48]] w fun e w' => e = .returned (.bool (l.head? == some 48)) ∧ w' = w := by
  have := Tryz.strings_HasPrefix ⟨l.toArray⟩ ⟨#[48]⟩ w
  have e : Lib.hasPrefix l [48] = (l.head? == some 48) := by
    unfold Lib.hasPrefix
    cases l with
    | nil => rfl
    | cons b r =>
      show ((48 : UInt8) == b && true) = (some b == some 48)
      rw [Bool.and_true]
      by_cases e : b = 48
      · subst e; rfl
      · have e1 : ((48 : UInt8) == b) = false := by simpa using fun h : 48 = b => e h.symm
        have e2 : (some b == some (48 : UInt8)) = false := by simpa using e
        rw [e1, e2]
  simpa [e] using this
theorem fin1 (v k : Nat) (H : Bool) (h : 1 < k) : Ending.returned (.tuple #[i64 (v : Nat), .bool ((k : Int) == 1 || !H)]) = .returned (.tuple #[i64 (v : Nat), .bool (decide (k = 1) || (decide (1 < k) && !H))]) := by
  have e1 : ((k : Int) == 1) = false := by simp; omega
  rw [e1, decide_eq_false (show ¬ k = 1 by omega), decide_eq_true h]
  simp
theorem fin2 (v k : Nat) (H : Bool) (h : ¬ 1 < k) : Ending.returned (.tuple #[i64 (v : Nat), .bool ((k : Int) == 1)]) = .returned (.tuple #[i64 (v : Nat), .bool (decide (k = 1) || (decide (1 < k) && !H))]) := by
  rw [decide_eq_false h]
  by_cases e : k = 1
  · subst e; rfl
  · have e1 : ((k : Int) == 1) = false := by simp; omega
    rw [e1, decide_eq_false e]
    simp
theorem fin3 (v k : Nat) (H : Bool) (h : k = 1) : Ending.returned (.tuple #[i64 (v : Nat), .bool true]) = .returned (.tuple #[i64 (v : Nat), .bool (decide (k = 1) || (decide (1 < k) && !H))]) := by rw [decide_eq_true h]; rfl
theorem fin4 (v k : Nat) (H : Bool) (h : 1 < k) : Ending.returned (.tuple #[i64 (v : Nat), .bool (!H)]) = .returned (.tuple #[i64 (v : Nat), .bool (decide (k = 1) || (decide (1 < k) && !H))]) := by
  rw [decide_eq_false (show ¬ k = 1 by omega), decide_eq_true h]; simp
theorem fin5 (v k : Nat) (H : Bool) (h : k < 1) : Ending.returned (.tuple #[i64 (v : Nat), .bool false]) = .returned (.tuple #[i64 (v : Nat), .bool (decide (k = 1) || (decide (1 < k) && !H))]) := by
  rw [decide_eq_false (show ¬ k = 1 by omega), decide_eq_false (show ¬ 1 < k by omega)]; simp
set_option maxRecDepth 100000 in
set_option maxHeartbeats 6400000 in
theorem number_s (w : World) (q : Nat) (s : ByteArray) (hs : s.size ≤ 1000000) (hq : w.heap[q]? = some (.cells #[.string s] 133)) : Calls Tryz.prog 83 #[pq q] w fun e w' => e = .returned (.tuple #[i64 (valD (digs3 s.data.toList) : Nat), .bool (numOk (digs3 s.data.toList))]) ∧ w'.heap[q]? = some (.cells #[str (s.data.toList.drop (digs3 s.data.toList).length)] 133) ∧ Touch q w w' := by
  have hlen : s.data.toList.length = s.size := Array.length_toList
  have HL := hid hlen
  have HQ := hid hq
  have y0 : w.cell? ⟨q, 0, none⟩ = some (.string s) := blk_cell hq 0
  have f0 : w.frozen? ⟨q, 0, none⟩ = false := blk_frozen hq 0
  have HH : Hid (Calls Tryz.prog 91 #[.string s, str [48]] w fun e w' => e = .returned (.bool (s.data.toList.head? == some 48)) ∧ w' = w) := hasp0 s.data.toList w
  generalize hH : (s.data.toList.head? == some 48) = H0 at *
  have HHe := hid hH
  obtain ⟨D, hD⟩ : ∃ D, D = digs3 s.data.toList := ⟨_, rfl⟩
  have HD := hid hD
  rw [← hD]
  clear hq hlen hH hD
  go_enter Tryz.func83, Tryz.ntmps83
  go_wp2_with fail
  go_loop [4, 5] (fun a u => ∃ k : Nat, k ≤ 3 ∧ k ≤ s.size ∧ u = i64 k ∧ a = i64 (valD (s.data.toList.take k) : Nat) ∧ Hid (∀ c ∈ s.data.toList.take k, isDig c = true)) (fun _ u => 4 - (intOf u).toNat)
  case atStart => exact ⟨0, by omega, by omega, rfl, rfl, by intro c hc; simp at hc⟩
  case round =>
    obtain ⟨k, hk3, hks, rfl, rfl, HA⟩ := hrel
    have hv : valD (s.data.toList.take k) < 1000 := by
      have := valD_lt 3 (s.data.toList.take k) (by rw [List.length_take]; omega) HA.out
      simpa using this
    by_cases hgo : k < s.size ∧ k < 3 ∧ ∃ h : k < s.size, (48 : Int) ≤ s[k].toNat ∧ (s[k].toNat : Int) ≤ 57
    · obtain ⟨h1, h2, _, h3, h4⟩ := hgo
      have HA2 : Hid (∀ c ∈ s.data.toList.take (k + 1), isDig c = true) := by
        intro c hc
        rw [take_snoc s k h1] at hc
        rcases List.mem_append.1 hc with hc | hc
        · exact HA.out c hc
        · rw [List.mem_singleton.1 hc]; exact dig_of h3 h4
      have HV2 : Hid (valD (s.data.toList.take (k + 1)) = 10 * valD (s.data.toList.take k) + (s[k].toNat - 48)) := by show _ = _; rw [take_snoc s k h1, valD_snoc]
      generalize valD (s.data.toList.take k) = v0 at *
      go_wp2_with fail
      go_round
      case rel => exact ⟨k + 1, by omega, by omega, by go_num, by rw [HV2.out]; go_num, HA2⟩
      case measure => simp [intOf]; omega
    · have HE : Hid (D = s.data.toList.take k) := by
        show _ = _
        rw [HD.out]
        refine digs_end _ k HA.out hk3 (by have := HL.out; omega) ?_
        by_cases e1 : k = 3
        · exact Or.inl e1
        · by_cases e2 : k = s.size
          · exact Or.inr (Or.inl (by have := HL.out; omega))
          · refine Or.inr (Or.inr ⟨by have := HL.out; omega, ?_⟩)
            have hks2 : k < s.size := by omega
            rw [get_at s k hks2]
            refine dig_no ?_
            by_cases e3 : (48 : Int) ≤ s[k].toNat
            · exact Or.inr (fun e4 => hgo ⟨hks2, by omega, hks2, e3, e4⟩)
            · exact Or.inl e3
      have HDl : Hid (D.length = k) := by show _ = _; rw [HE.out, List.length_take]; have := HL.out; omega
      have HQ1 : Hid ((w.setCell ⟨q, 0, none⟩ (str (s.data.toList.drop k))).heap[q]? = some (.cells #[str (s.data.toList.drop k)] 133)) := set1 HQ.out _
      have HT1 : Hid (Touch q w (w.setCell ⟨q, 0, none⟩ (str (s.data.toList.drop k)))) := hid ((Touch.refl q w).setCell rfl _)
      have HOK : Hid (numOk D = (decide (k = 1) || (decide (1 < k) && !H0))) := by
        show _ = _
        unfold numOk
        rw [HDl.out]
        by_cases e : 1 < k
        · have : D.head? = s.data.toList.head? := by rw [HE.out, List.head?_take]; simp; omega
          rw [this, HHe.out]
        · rw [decide_eq_false e]; simp
      have HVD : Hid (valD D = valD (s.data.toList.take k)) := by show _ = _; rw [HE.out]
      have HDR : Hid (s.data.toList.drop D.length = s.data.toList.drop k) := by show _ = _; rw [HDl.out]
      have hsl : (s.extract k s.size) = ⟨(s.data.toList.drop k).toArray⟩ := by
        apply ByteArray.ext
        rw [ByteArray.data_extract]
        have h1 : s.size = s.data.size := rfl
        rw [h1]
        apply Array.toList_inj.1
        rw [Array.toList_extract, List.extract_eq_take_drop]
        rw [List.take_of_length_le (by rw [List.length_drop, Array.length_toList]; omega)]
      generalize valD (s.data.toList.take k) = v0 at *
      generalize s.data.toList.drop k = DR at *
      by_cases g1 : k < s.size
      · by_cases g2 : k < 3
        · by_cases g3 : (48 : Int) ≤ s[k].toNat
          · have g4 : ¬ (s[k].toNat : Int) ≤ 57 := fun g4 => hgo ⟨g1, g2, g1, g3, g4⟩
            have HGO := hid hgo
            clear hgo
            go_wp2_with fail
            refine HH.out.mono ?_
            rintro e v1 ⟨rfl, hv1⟩
            replace hv1 := hv1.symm
            subst hv1
            go_wp2_with fail
            all_goals
              go_ret2
              refine ⟨?_, by rw [HDR.out]; exact HQ1.out, HT1.out⟩
              rw [HVD.out, HOK.out]
              first | exact fin1 v0 k H0 (by omega) | exact fin2 v0 k H0 (by omega) | exact fin3 v0 k H0 (by omega) | exact fin4 v0 k H0 (by omega) | exact fin5 v0 k H0 (by omega)
          · have HGO := hid hgo
            clear hgo
            go_wp2_with fail
            refine HH.out.mono ?_
            rintro e v1 ⟨rfl, hv1⟩
            replace hv1 := hv1.symm
            subst hv1
            go_wp2_with fail
            all_goals
              go_ret2
              refine ⟨?_, by rw [HDR.out]; exact HQ1.out, HT1.out⟩
              rw [HVD.out, HOK.out]
              first | exact fin1 v0 k H0 (by omega) | exact fin2 v0 k H0 (by omega) | exact fin3 v0 k H0 (by omega) | exact fin4 v0 k H0 (by omega) | exact fin5 v0 k H0 (by omega)
        · have HGO := hid hgo
          clear hgo
          go_wp2_with fail
          refine HH.out.mono ?_
          rintro e v1 ⟨rfl, hv1⟩
          replace hv1 := hv1.symm
          subst hv1
          go_wp2_with fail
          all_goals
            go_ret2
            refine ⟨?_, by rw [HDR.out]; exact HQ1.out, HT1.out⟩
            rw [HVD.out, HOK.out]
            first | exact fin1 v0 k H0 (by omega) | exact fin2 v0 k H0 (by omega) | exact fin3 v0 k H0 (by omega) | exact fin4 v0 k H0 (by omega) | exact fin5 v0 k H0 (by omega)
      · have HGO := hid hgo
        clear hgo
        go_wp2_with fail
        refine HH.out.mono ?_
        rintro e v1 ⟨rfl, hv1⟩
        replace hv1 := hv1.symm
        subst hv1
        go_wp2_with fail
        all_goals
          go_ret2
          refine ⟨?_, by rw [HDR.out]; exact HQ1.out, HT1.out⟩
          rw [HVD.out, HOK.out]
          first | exact fin1 v0 k H0 (by omega) | exact fin2 v0 k H0 (by omega) | exact fin3 v0 k H0 (by omega) | exact fin4 v0 k H0 (by omega) | exact fin5 v0 k H0 (by omega)
theorem number_ok (w : World) (q : Nat) (l : Bs) (hs : l.length ≤ 1000000) (hq : w.heap[q]? = some (.cells #[str l] 133)) : Calls Tryz.prog 83 #[pq q] w fun e w' => e = .returned (.tuple #[i64 (valD (digs3 l) : Nat), .bool (numOk (digs3 l))]) ∧ w'.heap[q]? = some (.cells #[str (l.drop (digs3 l).length)] 133) ∧ Touch q w w' :=
  number_s w q ⟨l.toArray⟩ (by simpa [ByteArray.size] using hs) hq
end Go.Proofs.YtihbbgcpdgnhoaaGreatDoor
