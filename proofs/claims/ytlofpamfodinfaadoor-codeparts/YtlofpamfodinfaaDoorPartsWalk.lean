/- CodeParts' walk: the instructions of two codes, one behind the other, are those of both; no statement is proved in this text. -/
import Derived.Test.YtlofpamfodinfaaDoorRefs
import Derived.Laws.AppendOwnNone
namespace Go.Proofs.YtlofpamfodinfaaDoor
open Go.ChangeShapes Go.WideShapes Go.ChangeAt Go.RowKit

theorem icells_all : ∀ (l : List In), ∀ u ∈ icells l, u.oneCell' = true
  | [], u, h => by cases h
  | i :: r, u, h => by
    simp only [icells, List.mem_cons] at h
    rcases h with rfl | rfl | rfl | rfl | h
    · rfl
    · rfl
    · rfl
    · rfl
    · exact icells_all r u h
theorem app39s {w : World} {ops : Array Oper} {rest : List Oper} {o : Oper} {a : Act} {Q : Exit → Act → World → Prop} (hgd : o.guard = none) (s x : Operand)
    (ho : o.op = .call { callee := .builtin .append, args := #[s, x], argTypes := #[39, 39] }) (base : Nat) (v : Value) (n : Nat) (xs : List In) (hs : a.eval s = v) (hown : w.ownsRow base 23 4 v n (icells xs))
    (base2 : Nat) (v2 : Value) (m : Nat) (ys : List In) (hx : a.eval x = v2) (hown2 : w.ownsRow base2 23 4 v2 m (icells ys)) (hn : n + m ≤ 1000000) (hbase : base ≤ w.heap.size)
    (h : ∀ v' w', w'.ownsRow base 23 4 v' (n + m) (icells (xs ++ ys)) → Below base w w' → wpList Tryd.prog ops Q rest (a.put o.dst v') w') : wpList Tryd.prog ops Q (o :: rest) a w := by
  obtain ⟨i5, hi, hz, hsz, hby⟩ := info_parts info23x
  have hlen := hown2.1
  rw [icells_len] at hlen
  rcases hown2.2 with ⟨rfl, rfl⟩ | ⟨g, cap, cur, rfl, _⟩
  · obtain rfl : ys = [] := List.eq_nil_of_length_eq_zero (by omega)
    rw [List.append_nil, Nat.add_zero] at h
    exact wpList_append_own_none hgd s x 39 ho base 23 i5 4 under39 hi v n (icells xs) hs hown hx (h v w hown (Below.refl _ _))
  · refine wpList_append_own w hgd s x 39 ho base 23 i5 _ 4 32 under39 hi hz hsz hby rfl (by omega) v n (icells xs) hs hown ⟨g, 0, none⟩ m cap (icells ys) hx (by rw [icells_len, hlen]) (fun j u hu => hown2.cells rfl j u hu) (icells_all ys) (by unfold maxLen; omega) (by omega) hbase ?_
    intro v' w' h1 h2 _
    rw [← icells_app] at h1
    exact h v' w' h1 ((Below.refl _ _).grown h2 hbase (fun r hr => (hown.lt r hr).1))

theorem own_keep {w w' : World} {base B : Nat} {e : TypeId} {size : Nat} {v : Value} {n : Nat} {xs : List Value} (h : w.ownsRow base e size v n xs) (hb : Below B w w') (hB : ∀ k, v.ownBlock = some k → k < B) : w'.ownsRow base e size v n xs := by
  refine ⟨h.1, ?_⟩
  rcases h.2 with h | ⟨g, cap, cur, h1, h2, h3, h4⟩
  · exact Or.inl h
  · exact Or.inr ⟨g, cap, cur, h1, h2, (hb.block _ (hB g (by rw [h1]; rfl))).trans h3, h4⟩
theorem parts_pure {s t : List UInt8} (h1 : alE s = 0) (h2 : alE t = 0) (h3 : s.length + t.length ≤ 256) : alE (s ++ t) = 0 ∧ alL (s ++ t) = alL s ++ alL t := by
  unfold alE at h1 h2
  rw [if_neg (by omega)] at h1 h2
  cases ha : allO s with
  | none => rw [ha] at h1; simp at h1
  | some a =>
    cases hb : allO t with
    | none => rw [hb] at h2; simp at h2
    | some b =>
      have hab := allO_append ha hb
      have hl : ¬ 256 < (s ++ t).length := by rw [List.length_append]; omega
      unfold alE alL
      rw [if_neg hl, if_neg hl, if_neg (show ¬ 256 < s.length by omega), if_neg (show ¬ 256 < t.length by omega), hab, ha, hb]
      exact ⟨rfl, rfl⟩
theorem all_len {l : List UInt8} (h : alE l = 0) : (alL l).length ≤ l.length := by
  unfold alE at h
  by_cases hl : 256 < l.length
  · rw [if_pos hl] at h; omega
  · rw [if_neg hl] at h
    cases ha : allO l with
    | none => rw [ha] at h; simp at h
    | some xs =>
      obtain ⟨h1, h2⟩ := allO_join ha
      have e : alL l = xs := by unfold alL; rw [if_neg hl, ha]; rfl
      rw [e]
      have : xs.length ≤ (xs.flatMap plain).length := by
        clear ha h1 h2 e
        induction xs with
        | nil => simp
        | cons i xs ih => rw [List.flatMap_cons, List.length_append, plain_len, List.length_cons]; have := (sz_le i.op.toNat).1; omega
      rw [h2] at this
      exact this

set_option maxHeartbeats 1600000 in
theorem parts_long (w : World) (ht : Tab w) (s t : ByteArray) (h : 256 < s.size ∨ (¬ 256 < s.size ∧ 256 < t.size)) : Calls Tryd.prog 7 #[.string s, .string t] w fun e w' => e = .returned (.bool true) ∧ Below w.heap.size w w' := by
  have HT : Hid (Tab w) := ht
  clear ht
  rcases h with h | ⟨h, h2⟩
  all_goals
    go_enter Tryd.func7, Tryd.ntmps7
    go_wp2_with fail
    refine (set_ok _ HT.out).mono ?_
    rintro e w1 ⟨rfl, hb1⟩
    have HB1 : Hid (Below w.heap.size w w1) := hb1
    clear hb1
    go_wp2_with fail
    go_ret
    exact ⟨rfl, HB1.out⟩

set_option maxHeartbeats 3200000 in
theorem parts_short (w : World) (ht : Tab w) (s t : List UInt8) (hs : s.length ≤ 256) (hs2 : t.length ≤ 256) : Calls Tryd.prog 7 #[.string ⟨s.toArray⟩, .string ⟨t.toArray⟩] w fun e w' => e = .returned (.bool true) ∧ Below w.heap.size w w' := by
  have HT : Hid (Tab w) := ht
  have hz1 := ba_size s
  have hz2 := ba_size t
  have hcat := ba_append s t
  have H1 : Hid (∀ w, Tab w → Calls Tryd.prog 16 #[.string ⟨s.toArray⟩] w fun e w' => ∃ v, e = .returned (.tuple #[v, i64 (alE s)]) ∧ w'.ownsRow w.heap.size 23 4 v (alL s).length (icells (alL s)) ∧ Below w.heap.size w w') := fun w ht => all_any w ht s
  have H2 : Hid (∀ w, Tab w → Calls Tryd.prog 16 #[.string ⟨t.toArray⟩] w fun e w' => ∃ v, e = .returned (.tuple #[v, i64 (alE t)]) ∧ w'.ownsRow w.heap.size 23 4 v (alL t).length (icells (alL t)) ∧ Below w.heap.size w w') := fun w ht => all_any w ht t
  have H3 : Hid (∀ w, Tab w → Calls Tryd.prog 16 #[.string ⟨(s ++ t).toArray⟩] w fun e w' => ∃ v, e = .returned (.tuple #[v, i64 (alE (s ++ t))]) ∧ w'.ownsRow w.heap.size 23 4 v (alL (s ++ t)).length (icells (alL (s ++ t))) ∧ Below w.heap.size w w') := fun w ht => all_any w ht (s ++ t)
  have HP : Hid (alE s = 0 → alE t = 0 → s.length + t.length ≤ 256 → (alE (s ++ t) = 0 ∧ alL (s ++ t) = alL s ++ alL t) ∧ (alL s).length ≤ s.length ∧ (alL t).length ≤ t.length) := fun a b c => ⟨parts_pure a b c, all_len a, all_len b⟩
  clear ht
  generalize (⟨(s ++ t).toArray⟩ : ByteArray) = ST at *
  generalize (⟨s.toArray⟩ : ByteArray) = S at *
  generalize (⟨t.toArray⟩ : ByteArray) = T at *
  generalize alE (s ++ t) = E3 at *
  generalize alL (s ++ t) = L3 at *
  generalize alE s = E1 at *
  generalize alL s = L1 at *
  generalize alE t = E2 at *
  generalize alL t = L2 at *
  generalize s.length = n1 at *
  generalize t.length = n2 at *
  go_enter Tryd.func7, Tryd.ntmps7
  go_wp2_with fail
  refine (H1.out _ HT.out).mono ?_
  rintro e w1 ⟨v1, rfl, ho1, hb1⟩
  have HO1 : Hid (w1.ownsRow w.heap.size 23 4 v1 L1.length (icells L1)) := ho1
  have HB1 : Hid (Below w.heap.size w w1) := hb1
  have hw1 := hb1.size
  clear ho1 hb1
  go_wp2_with fail
  refine (H2.out _ (HT.out.below HB1.out)).mono ?_
  rintro e w2 ⟨v2, rfl, ho2, hb2⟩
  have HO1b : Hid (w2.ownsRow w.heap.size 23 4 v1 L1.length (icells L1)) := own_below HO1.out hb2
  have HO2 : Hid (w2.ownsRow w1.heap.size 23 4 v2 L2.length (icells L2)) := ho2
  have HB2 : Hid (Below w.heap.size w w2) := HB1.out.trans (hb2.mono hw1)
  have hw2 := HB2.out.size
  clear ho2 hb2 HO1
  go_wp2_with fail
  refine (H3.out _ (HT.out.below HB2.out)).mono ?_
  rintro e w3 ⟨v3, rfl, ho3, hb3⟩
  have HO1c : Hid (w3.ownsRow w.heap.size 23 4 v1 L1.length (icells L1)) := own_below HO1b.out hb3
  have HO2c : Hid (w3.ownsRow w1.heap.size 23 4 v2 L2.length (icells L2)) := own_below HO2.out hb3
  have HO3 : Hid (w3.ownsRow w2.heap.size 23 4 v3 L3.length (icells L3)) := ho3
  have HB3 : Hid (Below w.heap.size w w3) := HB2.out.trans (hb3.mono hw2)
  have HT3 : Hid (Tab w3) := HT.out.below HB3.out
  have hw3 := HB3.out.size
  clear ho3 hb3 HO1b HO2
  by_cases he1 : E1 = 0
  · by_cases he2 : E2 = 0
    · by_cases hn : n1 + n2 ≤ 256
      · obtain ⟨⟨rfl, h3⟩, hl1, hl2⟩ := HP.out he1 he2 hn
        have HL3 : Hid (L3 = L1 ++ L2) := h3
        have HL : Hid (L3.length = L1.length + L2.length) := (by rw [h3, List.length_append] : L3.length = L1.length + L2.length)
        have hll : L3.length ≤ 512 := by rw [HL.out]; omega
        clear h3
        subst he1 he2
        have hnI : decide ((256 : Int) < (n1 : Int) + (n2 : Int)) = false := by simp; omega
        clear HP
        go_wp2_with (first | (at_builtin; refine app39s rfl (.tmp 53) (.tmp 54) rfl w3.heap.size _ 0 [] rfl (World.ownsRow_nil _ _ _ _) _ _ _ _ rfl HO1c.out (by omega) (by omega) ?_; intro v4 w4 ho4 hb4; have HO4 : Hid (w4.ownsRow w3.heap.size 23 4 v4 (0 + L1.length) (icells ([] ++ L1))) := ho4; have HO2d : Hid (w4.ownsRow w1.heap.size 23 4 v2 L2.length (icells L2)) := own_below HO2c.out hb4; have HO3d : Hid (w4.ownsRow w2.heap.size 23 4 v3 L3.length (icells L3)) := own_below HO3.out hb4; have HB4 : Hid (Below w.heap.size w w4) := HB3.out.trans (hb4.mono hw3); have hw4 := hb4.size; clear ho4 hb4) | (at_builtin; refine app39s rfl (.tmp 56) (.tmp 57) rfl w3.heap.size _ _ _ rfl HO4.out _ _ _ _ rfl HO2d.out (by omega) (by omega) ?_; intro v5 w5 ho5 hb5; have HO5 : Hid (w5.ownsRow w3.heap.size 23 4 v5 (0 + L1.length + L2.length) (icells ([] ++ L1 ++ L2))) := ho5; have HB5 : Hid (Below w.heap.size w w5) := HB4.out.trans (hb5.mono hw3); have HB35 : Hid (Below w3.heap.size w4 w5) := hb5; have hw5 := hb5.size; clear ho5 hb5))
        have ho3 := own_keep HO3d.out HB35.out (fun k hk => (HO3.out.lt k hk).2)
        have ho5 : w5.ownsRow w3.heap.size 23 4 v5 L3.length (icells L3) := by rw [HL.out, HL3.out]; simpa using HO5.out
        obtain ⟨ao3, cap3, rfl, hI3, _⟩ := own_isl ho3
        obtain ⟨ao5, cap5, rfl, hI5, _⟩ := own_isl ho5
        have HI5 : Hid (ISl w5 ao5 L3) := hI5
        have hw5b := HB5.out.size
        clear ho3 ho5 hI5 HO1c HO2c HO2d HO4
        refine (refs_ok w5 L3 ao3 cap3 hI3 (by omega)).mono ?_
        rintro e w6 ⟨v6, rfl, ho6, hb6⟩
        have HO6 : Hid (w6.ownsRow w5.heap.size 29 4 v6 L3.length (icells L3)) := ho6
        have HB6 : Hid (Below w.heap.size w w6) := HB5.out.trans (hb6.mono hw5b)
        have HI6 : Hid (ISl w6 ao5 L3) := HI5.out.below hb6
        have hw6 := HB6.out.size
        clear ho6 hb6 hI3
        go_wp2_with fail
        refine (refs_ok w6 L3 ao5 cap5 HI6.out (by omega)).mono ?_
        rintro e w7 ⟨v7, rfl, ho7, hb7⟩
        have ho6 := own_below HO6.out hb7
        obtain ⟨ao6, cap6, rfl, hI6, _⟩ := own_isl ho6
        obtain ⟨ao7, cap7, rfl, hI7, _⟩ := own_isl ho7
        have HI6b : Hid (ISl w7 ao6 L3) := hI6
        have HI7 : Hid (ISl w7 ao7 L3) := hI7
        have HB7 : Hid (Below w.heap.size w w7) := HB6.out.trans (hb7.mono hw6)
        have hw7 := HB7.out.size
        clear ho6 ho7 hb7 hI6 hI7
        go_wp2_with fail
        refine (same_ok w7 L3 ao6 ao7 cap6 cap7 HI6b.out HI7.out (by omega)).mono ?_
        rintro e w8 ⟨rfl, nn, rfl⟩
        go_wp2_with fail
        refine (set_ok _ ((HT.out.below HB7.out).drewN nn)).mono ?_
        rintro e w9 ⟨rfl, hb9⟩
        have HB9 : Hid (Below w.heap.size w w9) := (below_drewN HB7.out nn).trans (hb9.mono hw7)
        clear hb9
        go_wp2_with fail
        go_ret
        exact ⟨rfl, HB9.out⟩
      · have hnI : decide ((256 : Int) < (n1 : Int) + (n2 : Int)) = true := by simp; omega
        subst he1 he2
        go_wp2_with fail
        refine (set_ok _ HT3.out).mono ?_
        rintro e w9 ⟨rfl, hb9⟩
        have HB9 : Hid (Below w.heap.size w w9) := HB3.out.trans (hb9.mono hw3)
        clear hb9
        go_wp2_with fail
        go_ret
        exact ⟨rfl, HB9.out⟩
    · have he : (E2 != 0) = true := by simpa using he2
      subst he1
      clear he2
      go_wp2_with fail
      refine (set_ok _ HT3.out).mono ?_
      rintro e w9 ⟨rfl, hb9⟩
      have HB9 : Hid (Below w.heap.size w w9) := HB3.out.trans (hb9.mono hw3)
      clear hb9
      go_wp2_with fail
      go_ret
      exact ⟨rfl, HB9.out⟩
  · have he : (E1 != 0) = true := by simpa using he1
    clear he1
    go_wp2_with fail
    refine (set_ok _ HT3.out).mono ?_
    rintro e w9 ⟨rfl, hb9⟩
    have HB9 : Hid (Below w.heap.size w w9) := HB3.out.trans (hb9.mono hw3)
    clear hb9
    go_wp2_with fail
    go_ret
    exact ⟨rfl, HB9.out⟩
theorem parts_walk (w : World) (ht : Tab w) (s t : ByteArray) : Calls Tryd.prog 7 #[.string s, .string t] w fun e w' => e = .returned (.bool true) ∧ Below w.heap.size w w' := by
  by_cases h : 256 < s.size ∨ (¬ 256 < s.size ∧ 256 < t.size)
  · exact parts_long w ht s t h
  · have := parts_short w ht s.data.toList t.data.toList (by rw [Array.length_toList]; exact Nat.le_of_not_lt (fun hh => h (Or.inl hh))) (by rw [Array.length_toList]; refine Nat.le_of_not_lt (fun hh => h ?_); by_cases h1 : 256 < s.size; exact Or.inl h1; exact Or.inr ⟨h1, hh⟩)
    exact this
end Go.Proofs.YtlofpamfodinfaaDoor
