/- What is written is read, by the program's reader and by the document's, and nothing else is; no statement is proved in this text. -/
import Derived.Test.YtihbbgcpdgnhoaaGreatDoorPure
namespace Go.Proofs.YtihbbgcpdgnhoaaGreatDoor

inductive Node : Int → Int → List Bs → Nat → Prop where
  | int {n : Int} (h0 : 0 ≤ n) (h1 : n ≤ 255) : Node 1 n [] 0
  | text {n : Int} (h0 : 0 ≤ n) (h1 : n ≤ 255) : Node 2 n [] 0
  | list {n : Int} (h0 : 0 ≤ n) (h1 : n ≤ 255) : Node 3 n [] 1
  | rc {names : List Bs} {kn : Nat} (h0 : 1 ≤ kn) (h1 : kn ≤ 12) (h2 : names.length = kn) (h3 : namesTo names names.length = true) : Node 4 0 names kn
theorem nodeB_node {k n : Int} {names : List Bs} {kn : Nat} (h : nodeB k n names kn = true) : Node k n names kn := by
  unfold nodeB at h
  split at h
  · rename_i hk; subst hk
    simp only [Bool.and_eq_true, Bool.or_eq_true, decide_eq_true_eq] at h
    obtain ⟨⟨h1, h2⟩, rfl⟩ := h
    rw [List.eq_nil_of_length_eq_zero h2]
    exact .int (by omega) (by omega)
  split at h
  · rename_i hk; subst hk
    simp only [Bool.and_eq_true, decide_eq_true_eq] at h
    obtain ⟨⟨⟨h1, h3⟩, h2⟩, rfl⟩ := h
    rw [List.eq_nil_of_length_eq_zero h2]
    exact .text (by omega) (by omega)
  split at h
  · rename_i hk; subst hk
    simp only [Bool.and_eq_true, decide_eq_true_eq] at h
    obtain ⟨⟨⟨h1, h3⟩, h2⟩, rfl⟩ := h
    rw [List.eq_nil_of_length_eq_zero h2]
    exact .list (by omega) (by omega)
  split at h
  · rename_i hk; subst hk
    simp only [Bool.and_eq_true, decide_eq_true_eq] at h
    obtain ⟨⟨⟨⟨rfl, h1⟩, h2⟩, h3⟩, h4⟩ := h
    exact .rc h1 h2 h3 h4
  · cases h
theorem namesTo_mem {l : List Bs} (h : namesTo l l.length = true) {a : Bs} (ha : a ∈ l) : nameB a = true := by
  obtain ⟨i, hi, rfl⟩ := List.mem_iff_getElem.1 ha
  unfold namesTo at h
  have := List.all_eq_true.1 h i (List.mem_range.2 hi)
  simp only [Bool.and_eq_true] at this
  rw [List.getD_eq_getElem?_getD, List.getElem?_eq_getElem hi] at this
  exact this.1
theorem nameB_low {a : Bs} (h : nameB a = true) : ∀ c ∈ a, isLow c = true := by
  unfold nameB at h
  simp only [Bool.and_eq_true] at h
  exact List.all_eq_true.1 h.1.1
theorem low_ne {c : UInt8} (h : isLow c = true) : c ≠ 58 := by
  rintro rfl
  simp [isLow] at h
theorem low_bne {a : Bs} (h : ∀ c ∈ a, isLow c = true) : ∀ c ∈ a, (c != 58) = true := fun c hc => by simpa using low_ne (h c hc)
def sepOk (r : Bs) : Prop := ∃ c r', r = c :: r' ∧ (c = 44 ∨ c = 41)
theorem sep_noDig {r : Bs} (h : sepOk r) : noDig r = true := by
  obtain ⟨c, r', rfl, rfl | rfl⟩ := h <;> rfl
def endOk (t : Ty) (r : Bs) : Prop := (t.kind = 1 ∨ t.kind = 2) → noDig r = true
theorem dw_app (p : UInt8 → Bool) : ∀ (d : Bs) (c : UInt8) (s : Bs), (∀ c ∈ d, p c = true) → p c = false → (d ++ c :: s).dropWhile p = c :: s
  | [], c, s, _, h => by simp [h]
  | b :: d, c, s, hd, h => by rw [List.cons_append, List.dropWhile_cons, if_pos (hd b (by simp)), dw_app p d c s (fun x hx => hd x (by simp [hx])) h]
theorem tw_app' (p : UInt8 → Bool) (d : Bs) (c : UInt8) (s : Bs) (hd : ∀ c ∈ d, p c = true) (h : p c = false) : (d ++ c :: s).takeWhile p = d := tw_app p d (c :: s) hd (by simp [h])
theorem fieldT_cons {a : Bs} {ns : List Bs} {x : Bs} {xs : List Bs} (h : ns.length = xs.length) : fieldT (a :: ns) (x :: xs) = a ++ 58 :: (x ++ (if ns = [] then [] else 44 :: fieldT ns xs)) := by
  match ns, xs, h with
  | [], [], _ => simp [fieldT]
  | b :: r, y :: s, _ => simp [fieldT]
theorem recP_txt (read : Bs → Option (Ty × Bs)) (rest : Bs) : ∀ (ks : List Ty) (ns : List Bs) (m : Nat) (N : List Bs) (K : List Ty), ks ≠ [] → ns.length = ks.length → ks.length ≤ m →
    (∀ a ∈ ns, ∀ c ∈ a, (c != 58) = true) → (∀ t ∈ ks, ∀ r, sepOk r → read (t.txt ++ r) = some (t, r)) → recP read m (fieldT ns (txtL ks) ++ 41 :: rest) N K = some (.mk 4 0 (N ++ ns) (K ++ ks), rest)
  | k :: ks, a :: ns, m + 1, N, K, _, hl, hm, hn, hr => by
    have hl' : ns.length = ks.length := by simpa using hl
    have ha := hn a (by simp)
    rw [txtL, fieldT_cons (by rw [txtL_len]; exact hl')]
    unfold recP
    simp only [List.append_assoc, List.cons_append]
    rw [dw_app _ a 58 _ ha (by rfl), tw_app' _ a 58 _ ha (by rfl), List.tail_cons]
    by_cases h0 : ns = []
    · have h1 : ks = [] := List.eq_nil_of_length_eq_zero (by rw [← hl', h0]; rfl)
      subst h0; subst h1
      rw [if_pos rfl, List.nil_append, hr k (by simp) (41 :: rest) ⟨41, rest, rfl, Or.inr rfl⟩]
      simp
    · have h1 : ks ≠ [] := fun e => h0 (List.eq_nil_of_length_eq_zero (by rw [hl', e]; rfl))
      rw [if_neg h0, List.cons_append, hr k (by simp) _ ⟨44, _, rfl, Or.inl rfl⟩]
      have ih := recP_txt read rest ks ns m (N ++ [a]) (K ++ [k]) h1 hl' (by simp at hm; omega) (fun a ha => hn a (by simp [ha])) (fun t ht => hr t (by simp [ht]))
      simp only [if_true]
      rw [ih]
      simp
theorem recD_txt (read : Bs → Option (Ty × Bs)) (rest : Bs) : ∀ (ks : List Ty) (ns : List Bs) (m : Nat) (N : List Bs) (K : List Ty), ks ≠ [] → ns.length = ks.length → ks.length ≤ m →
    (∀ a ∈ ns, ∀ c ∈ a, isLow c = true) → (∀ t ∈ ks, ∀ r, sepOk r → read (t.txt ++ r) = some (t, r)) → recD read m (fieldT ns (txtL ks) ++ 41 :: rest) N K = some (.mk 4 0 (N ++ ns) (K ++ ks), rest)
  | k :: ks, a :: ns, m + 1, N, K, _, hl, hm, hn, hr => by
    have hl' : ns.length = ks.length := by simpa using hl
    have ha := hn a (by simp)
    rw [txtL, fieldT_cons (by rw [txtL_len]; exact hl')]
    unfold recD
    simp only [List.append_assoc, List.cons_append]
    rw [dw_app _ a 58 _ ha (by rfl), tw_app' _ a 58 _ ha (by rfl)]
    simp only [if_true]
    by_cases h0 : ns = []
    · have h1 : ks = [] := List.eq_nil_of_length_eq_zero (by rw [← hl', h0]; rfl)
      subst h0; subst h1
      rw [if_pos rfl, List.nil_append, hr k (by simp) (41 :: rest) ⟨41, rest, rfl, Or.inr rfl⟩]
      simp
    · have h1 : ks ≠ [] := fun e => h0 (List.eq_nil_of_length_eq_zero (by rw [hl', e]; rfl))
      rw [if_neg h0, List.cons_append, hr k (by simp) _ ⟨44, _, rfl, Or.inl rfl⟩]
      have ih := recD_txt read rest ks ns m (N ++ [a]) (K ++ [k]) h1 hl' (by simp at hm; omega) (fun a ha => hn a (by simp [ha])) (fun t ht => hr t (by simp [ht]))
      have e44 : ¬ (44 : UInt8) = 41 := by decide
      simp only [e44, if_false, if_true]
      rw [ih]
      simp
theorem readP_txt : ∀ (f : Nat) (t : Ty) (r : Bs), t.formed = true → t.depth ≤ f → endOk t r → readP f (t.txt ++ r) = some (t, r)
  | 0, .mk k n names l, r, _, hd, _ => by simp [Ty.depth] at hd
  | f + 1, .mk k n names l, r, hf, hd, he => by
    simp only [Ty.formed, Bool.and_eq_true] at hf
    obtain ⟨hn, hl⟩ := hf
    simp only [Ty.depth] at hd
    cases l with
    | nil =>
      cases nodeB_node hn with
      | int h0 h1 =>
        have hs : noDig r = true := he (Or.inl rfl)
        simp only [Ty.txt]
        simp [readP, numP_txt n h0 h1 r hs]; omega
      | text h0 h1 =>
        have hs : noDig r = true := he (Or.inr rfl)
        simp only [Ty.txt]
        simp [readP, numP_txt n h0 h1 r hs]; omega
      | rc h0 => simp at h0
    | cons k1 ks =>
      have hnode := nodeB_node hn
      generalize hkn : (k1 :: ks).length = kn at hnode
      cases hnode with
      | int => simp at hkn
      | text => simp at hkn
      | list h0 h1 =>
        have : ks = [] := by simpa using hkn
        subst this
        have ih := readP_txt f k1 (41 :: r) (by simpa [formedL] using hl) (by simp [depthL] at hd; omega) (fun _ => rfl)
        simp only [Ty.txt, txtL, List.headD_cons]
        simp [readP, numP_txt n h0 h1 (40 :: (k1.txt ++ 41 :: r)) rfl, ih]; omega
      | rc h0 h1 h2 h3 =>
        have ih := recP_txt (readP f) r (k1 :: ks) names 12 [] [] (by simp) (by rw [h2, hkn]) (by rw [hkn]; exact h1)
          (fun a ha => low_bne (nameB_low (namesTo_mem h3 ha))) (fun t ht r' hr' => readP_txt f t r' (formedL_mem hl ht) (by have := depthL_mem ht; omega) (fun _ => sep_noDig hr'))
        simp only [Ty.txt]
        simp [readP, ih]
theorem takeD_txt : ∀ (f : Nat) (t : Ty) (r : Bs), t.formed = true → t.depth ≤ f → endOk t r → takeD f (t.txt ++ r) = some (t, r)
  | 0, .mk k n names l, r, _, hd, _ => by simp [Ty.depth] at hd
  | f + 1, .mk k n names l, r, hf, hd, he => by
    simp only [Ty.formed, Bool.and_eq_true] at hf
    obtain ⟨hn, hl⟩ := hf
    simp only [Ty.depth] at hd
    cases l with
    | nil =>
      cases nodeB_node hn with
      | int h0 h1 =>
        have hs : noDig r = true := he (Or.inl rfl)
        simp only [Ty.txt]
        simp [takeD, numD_txt n h0 h1 r hs]; omega
      | text h0 h1 =>
        have hs : noDig r = true := he (Or.inr rfl)
        simp only [Ty.txt]
        simp [takeD, numD_txt n h0 h1 r hs]; omega
      | rc h0 => simp at h0
    | cons k1 ks =>
      have hnode := nodeB_node hn
      generalize hkn : (k1 :: ks).length = kn at hnode
      cases hnode with
      | int => simp at hkn
      | text => simp at hkn
      | list h0 h1 =>
        have : ks = [] := by simpa using hkn
        subst this
        have ih := takeD_txt f k1 (41 :: r) (by simpa [formedL] using hl) (by simp [depthL] at hd; omega) (fun _ => rfl)
        simp only [Ty.txt, txtL, List.headD_cons]
        simp [takeD, numD_txt n h0 h1 (40 :: (k1.txt ++ 41 :: r)) rfl, ih]; omega
      | rc h0 h1 h2 h3 =>
        have ih := recD_txt (takeD f) r (k1 :: ks) names 13 [] [] (by simp) (by rw [h2, hkn]) (by rw [hkn]; omega)
          (fun a ha => nameB_low (namesTo_mem h3 ha)) (fun t ht r' hr' => takeD_txt f t r' (formedL_mem hl ht) (by have := depthL_mem ht; omega) (fun _ => sep_noDig hr'))
        simp only [Ty.txt]
        simp [takeD, ih]
/-! ### And nothing else is read so -/
theorem dw_tw (p : UInt8 → Bool) (s : Bs) : s.takeWhile p ++ s.dropWhile p = s := List.takeWhile_append_dropWhile
theorem dw_head (p : UInt8 → Bool) : ∀ (s : Bs) (c : UInt8) (l : Bs), s.dropWhile p = c :: l → p c = false
  | [], _, _, h => by simp at h
  | b :: s, c, l, h => by
    rw [List.dropWhile_cons] at h
    split at h
    · exact dw_head p s c l h
    · rename_i hb
      cases h
      simpa using hb
theorem fieldT_one {a x : Bs} : fieldT [a] [x] = a ++ 58 :: x := by simp [fieldT]
theorem recP_back (read : Bs → Option (Ty × Bs)) (h0 : read [] = none) (hr : ∀ s t r, read s = some (t, r) → t.formed = true → s = t.txt ++ r) (rest : Bs) : ∀ (m : Nat) (s : Bs) (N : List Bs) (K : List Ty) (t : Ty), recP read m s N K = some (t, rest) →
    ∃ ns ks, ns ≠ [] ∧ ns.length = ks.length ∧ t = .mk 4 0 (N ++ ns) (K ++ ks) ∧ (formedL (K ++ ks) = true → s = fieldT ns (txtL ks) ++ 41 :: rest)
  | 0, _, _, _, _, h => by simp [recP] at h
  | m + 1, s, N, K, t, h => by
    unfold recP at h
    cases hd : s.dropWhile (fun b => b != 58) with
    | nil => rw [hd, List.tail_nil, h0] at h; cases h
    | cons c l =>
      have hc : c = 58 := by have := dw_head _ _ _ _ hd; simpa using this
      subst hc
      have hs := dw_tw (fun b => b != 58) s
      rw [hd] at hs h
      rw [List.tail_cons] at h
      generalize s.takeWhile (fun b => b != 58) = a at hs h
      subst hs
      cases hk : read l with
      | none => rw [hk] at h; cases h
      | some x =>
        obtain ⟨k, r⟩ := x
        rw [hk] at h
        cases r with
        | nil => cases h
        | cons c r' =>
          simp only at h
          split at h
          · rename_i hc
            subst hc
            obtain ⟨ns, ks, hne, hlen, rfl, hs⟩ := recP_back read h0 hr rest m r' _ _ t h
            refine ⟨a :: ns, k :: ks, by simp, by simp [hlen], by simp, fun hf => ?_⟩
            have hf' : formedL (K ++ [k] ++ ks) = true := by simpa using hf
            have hkf : k.formed = true := formedL_mem hf' (by simp)
            rw [txtL, fieldT_cons (by rw [txtL_len]; exact hlen), if_neg hne, hr l k _ hk hkf, hs hf']
            simp
          · split at h
            · rename_i hc
              subst hc
              cases h
              refine ⟨[a], [k], by simp, rfl, rfl, fun hf => ?_⟩
              have hkf : k.formed = true := formedL_mem hf (by simp)
              rw [txtL, txtL, fieldT_one, hr l k _ hk hkf]
              simp
            · cases h
theorem recD_back (read : Bs → Option (Ty × Bs)) (hr : ∀ s t r, read s = some (t, r) → t.formed = true → s = t.txt ++ r) (rest : Bs) : ∀ (m : Nat) (s : Bs) (N : List Bs) (K : List Ty) (t : Ty), recD read m s N K = some (t, rest) →
    ∃ ns ks, ns ≠ [] ∧ ns.length = ks.length ∧ t = .mk 4 0 (N ++ ns) (K ++ ks) ∧ (formedL (K ++ ks) = true → s = fieldT ns (txtL ks) ++ 41 :: rest)
  | 0, _, _, _, _, h => by simp [recD] at h
  | m + 1, s, N, K, t, h => by
    unfold recD at h
    cases hd : s.dropWhile isLow with
    | nil => rw [hd] at h; cases h
    | cons c l =>
      have hs := dw_tw isLow s
      rw [hd] at hs h
      simp only at h
      split at h
      · rename_i hc
        subst hc
        generalize s.takeWhile isLow = a at hs h
        subst hs
        cases hk : read l with
        | none => rw [hk] at h; cases h
        | some x =>
          obtain ⟨k, r⟩ := x
          rw [hk] at h
          cases r with
          | nil => cases h
          | cons c r' =>
            simp only at h
            split at h
            · rename_i hc
              subst hc
              cases h
              refine ⟨[a], [k], by simp, rfl, rfl, fun hf => ?_⟩
              have hkf : k.formed = true := formedL_mem hf (by simp)
              rw [txtL, txtL, fieldT_one, hr l k _ hk hkf]
              simp
            · split at h
              · rename_i hc
                subst hc
                obtain ⟨ns, ks, hne, hlen, rfl, hs⟩ := recD_back read hr rest m r' _ _ t h
                refine ⟨a :: ns, k :: ks, by simp, by simp [hlen], by simp, fun hf => ?_⟩
                have hf' : formedL (K ++ [k] ++ ks) = true := by simpa using hf
                have hkf : k.formed = true := formedL_mem hf' (by simp)
                rw [txtL, fieldT_cons (by rw [txtL_len]; exact hlen), if_neg hne, hr l k _ hk hkf, hs hf']
                simp
              · cases h
      · cases h
theorem formed_mk {k n : Int} {ns : List Bs} {l : List Ty} (h : (Ty.mk k n ns l).formed = true) : formedL l = true := by
  simp only [Ty.formed, Bool.and_eq_true] at h
  exact h.2
theorem readP_nil : ∀ f, readP f [] = none
  | 0 => rfl
  | _ + 1 => rfl
theorem readP_back : ∀ (f : Nat) (s : Bs) (t : Ty) (r : Bs), readP f s = some (t, r) → t.formed = true → s = t.txt ++ r
  | 0, _, _, _, h, _ => by simp [readP] at h
  | f + 1, s, t, r, h, hf => by
    unfold readP at h
    cases s with
    | nil => cases h
    | cons c l =>
      simp only at h
      split at h
      · rename_i hc; subst hc
        obtain ⟨⟨n, r2⟩, h1, h2⟩ := Option.map_eq_some_iff.1 h
        cases h2
        rw [numP_back h1]
        simp [Ty.txt]
      split at h
      · rename_i hc; subst hc
        obtain ⟨⟨n, r2⟩, h1, h2⟩ := Option.map_eq_some_iff.1 h
        cases h2
        rw [numP_back h1]
        simp [Ty.txt]
      split at h
      · rename_i hc; subst hc
        split at h
        · rename_i n r2 h1
          split at h
          · rename_i k r3 h2
            cases h
            rw [numP_back h1, readP_back f r2 k _ h2 (formedL_mem (formed_mk hf) (by simp))]
            simp [Ty.txt, txtL]
          · cases h
        · cases h
      split at h
      · rename_i hc; subst hc
        split at h
        · rename_i r2
          obtain ⟨ns, ks, _, _, rfl, hs⟩ := recP_back (readP f) (readP_nil f) (fun s t r => readP_back f s t r) r 12 r2 [] [] t h
          rw [hs (formed_mk hf)]
          simp [Ty.txt]
        · cases h
      · cases h
theorem takeD_back : ∀ (f : Nat) (s : Bs) (t : Ty) (r : Bs), takeD f s = some (t, r) → t.formed = true → s = t.txt ++ r
  | 0, _, _, _, h, _ => by simp [takeD] at h
  | f + 1, s, t, r, h, hf => by
    unfold takeD at h
    cases s with
    | nil => cases h
    | cons c l =>
      simp only at h
      split at h
      · rename_i hc
        obtain ⟨rfl, hh⟩ := hc
        obtain ⟨l', rfl⟩ : ∃ l', l = 40 :: l' := by cases l with
          | nil => cases hh
          | cons a l' => simp at hh; exact ⟨l', by rw [hh]⟩
        obtain ⟨ns, ks, _, _, rfl, hs⟩ := recD_back (takeD f) (fun s t r => takeD_back f s t r) r 13 l' [] [] t h
        rw [hs (formed_mk hf)]
        simp [Ty.txt]
      · split at h
        · cases h
        · rename_i n r2 h1
          split at h
          · rename_i hc; subst hc
            cases h
            rw [numD_back h1]
            simp [Ty.txt]
          split at h
          · rename_i hc; subst hc
            cases h
            rw [numD_back h1]
            simp [Ty.txt]
          split at h
          · rename_i hc; subst hc
            split at h
            · rename_i r3
              split at h
              · rename_i k r4 h2
                cases h
                rw [numD_back h1, takeD_back f r3 k _ h2 (formedL_mem (formed_mk hf) (by simp))]
                simp [Ty.txt, txtL]
              · cases h
            · cases h
          · cases h
/-- A text's type. -/
def parseF (s : Bs) : Option Ty := match readP 6 s with | some (t, []) => if t.right = true then some t else none | _ => none
def parseD (s : Bs) : Option Ty := match takeD 6 s with | some (t, []) => if t.right = true then some t else none | _ => none
theorem right_formed {t : Ty} (h : t.right = true) : t.formed = true ∧ t.depth ≤ 6 := by
  unfold Ty.right at h
  simp only [Bool.and_eq_true, decide_eq_true_eq] at h
  exact ⟨h.2, h.1.1⟩
theorem parseF_txt {t : Ty} (h : t.right = true) : parseF t.txt = some t := by
  obtain ⟨h1, h2⟩ := right_formed h
  have := readP_txt 6 t [] h1 h2 (fun _ => rfl)
  rw [List.append_nil] at this
  unfold parseF
  rw [this]
  simp [h]
theorem parseD_txt {t : Ty} (h : t.right = true) : parseD t.txt = some t := by
  obtain ⟨h1, h2⟩ := right_formed h
  have := takeD_txt 6 t [] h1 h2 (fun _ => rfl)
  rw [List.append_nil] at this
  unfold parseD
  rw [this]
  simp [h]
theorem parseF_back {s : Bs} {t : Ty} (h : parseF s = some t) : t.right = true ∧ s = t.txt := by
  unfold parseF at h
  split at h
  · rename_i u hu
    split at h
    · rename_i hr
      cases h
      have := readP_back 6 s t [] hu (right_formed hr).1
      rw [List.append_nil] at this
      exact ⟨hr, this⟩
    · cases h
  · cases h
theorem parseD_back {s : Bs} {t : Ty} (h : parseD s = some t) : t.right = true ∧ s = t.txt := by
  unfold parseD at h
  split at h
  · rename_i u hu
    split at h
    · rename_i hr
      cases h
      have := takeD_back 6 s t [] hu (right_formed hr).1
      rw [List.append_nil] at this
      exact ⟨hr, this⟩
    · cases h
  · cases h
theorem parse_same (s : Bs) : parseD s = parseF s := by
  cases h : parseF s with
  | some t =>
    obtain ⟨h1, h2⟩ := parseF_back h
    rw [h2, parseD_txt h1]
  | none =>
    cases h' : parseD s with
    | none => rfl
    | some t =>
      obtain ⟨h1, h2⟩ := parseD_back h'
      rw [h2, parseF_txt h1] at h
      cases h
/-- No List's or Rec's text goes on to another one's. -/
theorem parse_cut {t : Ty} (h : t.right = true) (hk : t.kind ≠ 1 ∧ t.kind ≠ 2) {more : Bs} (hm : more ≠ []) : parseF (t.txt ++ more) = none := by
  cases hu : parseF (t.txt ++ more) with
  | none => rfl
  | some u =>
    obtain ⟨h1, h2⟩ := right_formed h
    have e1 := readP_txt 6 t more h1 h2 (fun e => by rcases e with e | e <;> simp_all)
    obtain ⟨g1, g2⟩ := parseF_back hu
    obtain ⟨g3, g4⟩ := right_formed g1
    have e2 := readP_txt 6 u [] g3 g4 (fun _ => rfl)
    rw [List.append_nil, ← g2, e1] at e2
    cases e2
    exact absurd rfl hm
end Go.Proofs.YtihbbgcpdgnhoaaGreatDoor
