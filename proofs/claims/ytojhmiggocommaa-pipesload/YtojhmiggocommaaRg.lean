/- The document's Right; loads, plain; no statement is proved in this text. -/
import Derived.Test.YtojhmiggocommaaLd
namespace Go.Proofs.Ytojhmiggocommaa
open Go.ChangeShapes Go.WideShapes Go.ChangeAt Go.RowKit Go.Deep
attribute [local go_sem ↓] Go.wp_at_zero Go.wp_at_succ

def okP (p : In) : Bool := decide ((0 ≤ p.1 ∧ p.1 < 3) ∧ p.2.length ≤ 16)
def rgt : List In → List In → Bool
  | _, [] => true
  | Y, p :: r => okP p && (Y.all fun y => y.1 != p.1) && rgt (Y ++ [p]) r
theorem rgt_step (X : List In) (k : Nat) (p : In) (h : X[k]? = some p) : rgt (X.take k) (X.drop k) = (okP p && ((X.take k).all fun y => y.1 != p.1) && rgt (X.take (k + 1)) (X.drop (k + 1))) := by
  have hk : k < X.length := (List.getElem?_eq_some_iff.1 h).1
  rw [List.drop_eq_getElem_cons hk, List.take_add_one, h]
  rw [List.getElem?_eq_getElem hk] at h
  cases h
  rfl
theorem all_take (X : List In) (k : Nat) (n : Int) (h : ∀ j, j < k → ∀ y, X[j]? = some y → y.1 ≠ n) : ((X.take k).all fun y => y.1 != n) = true := by
  rw [List.all_eq_true]
  intro y hy
  obtain ⟨j, hj⟩ := List.mem_iff_getElem?.1 hy
  have hjk : j < k := by
    have := (List.getElem?_eq_some_iff.1 hj).1
    simp at this
    omega
  rw [List.getElem?_take_of_lt hjk] at hj
  simpa using h j hjk y hj
theorem all_take_no (X : List In) (k j : Nat) (n : Int) (hj : j < k) (y : In) (hy : X[j]? = some y) (he : y.1 = n) : ((X.take k).all fun y => y.1 != n) = false := by
  rw [List.all_eq_false]
  refine ⟨y, List.mem_iff_getElem?.2 ⟨j, ?_⟩, by simp [he]⟩
  rw [List.getElem?_take_of_lt hj]
  exact hy
set_option maxRecDepth 100000 in
set_option maxHeartbeats 12800000 in
theorem right_ok (w : World) (ao : Option Addr) (cap : Nat) (X : List In) (hX : X.length ≤ 100) (hcap : X.length ≤ cap) (h1 : Rd2 w ao X) : Calls Try.prog 18 #[.slice ao X.length cap] w fun e w' => e = .returned (.bool (rgt [] X)) ∧ Below w.heap.size w w' := by
  have H1 := hid h1
  obtain ⟨n, hn⟩ : ∃ n, n = X.length := ⟨_, rfl⟩
  have HN := hid hn
  rw [← hn] at hX hcap ⊢
  have hnI : (n : Int) ≤ 100 := by omega
  have hcI : (n : Int) ≤ cap := by omega
  obtain ⟨R, hR⟩ : ∃ R, R = rgt [] X := ⟨_, rfl⟩
  have HR : Hid (R = rgt (X.take 0) (X.drop 0)) := hR
  rw [← hR]
  clear h1 hn hR
  go_enter Try.func18, Try.ntmps18
  go_wp2_with fail
  go_loopw [9] (fun u wr => ∃ k : Nat, k ≤ n ∧ u = i64 k ∧ Hid (R = rgt (X.take k) (X.drop k)) ∧ Hid (Below w.heap.size w wr)) (fun u _ => n - (intOf u).toNat)
  case atStart => exact ⟨0, by omega, rfl, HR, Below.refl _ _⟩
  case round =>
    obtain ⟨k, hk, rfl, HRk, HB⟩ := hrel
    by_cases hlt : k < n
    · obtain ⟨p, hp⟩ : ∃ p, X[k]? = some p := ⟨_, List.getElem?_eq_getElem (by rw [← HN.out]; exact hlt)⟩
      obtain ⟨g, hg, hgl, c1, c2⟩ := H1.out.below HB.out k p hp
      subst hg
      have hst := rgt_step X k p hp
      rw [← HRk.out] at hst
      have HST := hid hst
      have hkI : (k : Int) < n := by omega
      have hkC : (k : Int) ≤ cap := by omega
      have HBV : Hid (Below w.heap.size w (wr.alloc (inO p))) := HB.out.alloc HB.out.size _
      have HX : Hid ((wr.alloc (inO p)).heap[wr.heap.size]? = some (inO p)) := heap_last wr _
      clear hp hgl hst
      by_cases hok : okP p = true
      · have hok2 : (0 ≤ p.1 ∧ p.1 < 3) ∧ p.2.length ≤ 16 := by unfold okP at hok; simpa using hok
        have q1 : ¬ p.1 < 0 := by omega
        have q2 : ¬ 2 < p.1 := by omega
        have q3 : ¬ (16 : Int) < ((bs p.2).size : Int) := by rw [bs_size]; omega
        have HOK := hid hok
        clear hok hok2
        go_wp2_with fail
        obtain ⟨Z, hZ⟩ : ∃ Z, Z = wr.heap.size := ⟨_, rfl⟩
        rw [← hZ] at HX ⊢
        clear hZ
        generalize wr.alloc (inO p) = V at *
        go_loopw [32] (fun u wr => ∃ j : Nat, j ≤ k ∧ u = i64 j ∧ Hid (∀ j', j' < j → ∀ y, X[j']? = some y → y.1 ≠ p.1) ∧ Hid (wr.heap[Z]? = some (inO p)) ∧ Hid (Below w.heap.size w wr)) (fun u _ => k - (intOf u).toNat)
        case atStart => exact ⟨0, by omega, rfl, fun j' hj => absurd hj (by omega), HX, HBV⟩
        case round =>
          obtain ⟨j, hj, rfl, HJ, HZ, HBj⟩ := hrel
          by_cases hjk : j < k
          · obtain ⟨y, hy⟩ : ∃ y, X[j]? = some y := ⟨_, List.getElem?_eq_getElem (by rw [← HN.out]; omega)⟩
            obtain ⟨g2, hg2, hgl2, e1, e2⟩ := H1.out.below HBj.out j y hy
            simp only [Option.some.injEq, Addr.mk.injEq, and_true] at hg2
            subst hg2
            have hjI : (j : Int) < k := by omega
            have HBW : Hid (Below w.heap.size w (wr.alloc (inO y))) := HBj.out.alloc HBj.out.size _
            have HZ2 : Hid ((wr.alloc (inO y)).heap[Z]? = some (inO p)) := blk_alloc HZ.out _
            have z0 : wr.cell? ⟨Z, 0, none⟩ = some (i64 p.1) := blk_cell HZ.out 0
            have hzl : Z < wr.heap.size := blk_lt HZ.out
            have HY := hid hy
            clear hy hgl2
            by_cases he : y.1 = p.1
            · have q4 : (y.1 == p.1) = true := by simpa using he
              have HE : Hid (R = false) := by
                have := HST.out
                rw [all_take_no X k j p.1 hjk y HY.out he] at this
                exact hid (by simpa using this)
              clear he
              go_wp2_with fail
              go_ret
              exact ⟨by rw [HE.out]; rfl, HBW.out⟩
            · have q4 : (y.1 == p.1) = false := by simpa using he
              have HJ2 : Hid (∀ j', j' < j + 1 → ∀ y, X[j']? = some y → y.1 ≠ p.1) := fun j' hj' y' hy' => by
                by_cases hjj : j' = j
                · subst hjj
                  rw [HY.out] at hy'
                  cases hy'
                  exact he
                · exact HJ.out j' (by omega) y' hy'
              clear he
              go_wp2_with fail
              exact ⟨⟨j + 1, by omega, by go_num, HJ2, HZ2, HBW⟩, by simp [intOf]; omega⟩
          · have HE : Hid (R = rgt (X.take (k + 1)) (X.drop (k + 1))) := by
              have := HST.out
              have hjk2 : j = k := by omega
              rw [HOK.out, all_take X k p.1 (by rw [← hjk2]; exact HJ.out)] at this
              exact hid (by simpa using this)
            go_wp2_with fail
            exact ⟨⟨k + 1, by omega, by go_num, HE, HBj⟩, by simp [intOf]; omega⟩
      · have hokF : okP p = false := by simpa using hok
        have HE : Hid (R = false) := by
          have := HST.out
          rw [hokF] at this
          exact hid (by simpa using this)
        have hok2 : ¬ ((0 ≤ p.1 ∧ p.1 < 3) ∧ p.2.length ≤ 16) := by unfold okP at hok; simpa using hok
        clear hok hokF
        by_cases q1 : p.1 < 0
        · clear hok2
          go_wp2_with fail
          go_ret
          exact ⟨by rw [HE.out]; rfl, HBV.out⟩
        · by_cases q2 : 2 < p.1
          · clear hok2
            go_wp2_with fail
            go_ret
            exact ⟨by rw [HE.out]; rfl, HBV.out⟩
          · have q3 : (16 : Int) < ((bs p.2).size : Int) := by rw [bs_size]; omega
            clear hok2
            go_wp2_with fail
            go_ret
            exact ⟨by rw [HE.out]; rfl, HBV.out⟩
    · have HE : Hid (R = true) := by
        rw [HRk.out, List.drop_of_length_le (by rw [← HN.out]; omega)]
        rfl
      go_wp2_with fail
      go_ret
      exact ⟨by rw [HE.out]; rfl, HB.out⟩
/-! ### What Load makes, plain -/
theorem put1_some (S : St) (p : In) (T : St) (h : put1 S p = some T) : (0 ≤ p.1 ∧ p.1 < 3) ∧ S p.1.toNat = none ∧ p.2.length ≤ 16 ∧ T = upd S p.1.toNat (some p.2) := by
  unfold put1 at h
  split at h
  · rename_i hc
    cases h
    exact ⟨hc.1, hc.2.1, hc.2.2, rfl⟩
  · cases h
theorem lst_more (S : St) (i : Nat) (D : List UInt8) (hi : i < 3) (h : S i = none) : (lst (upd S i (some D))).length = (lst S).length + 1 := by
  rw [lst_eq, lst_eq]
  obtain rfl | rfl | rfl := three_cases hi
  all_goals
    rw [upd_same, upd_other _ _ _ _ (by decide), upd_other _ _ _ _ (by decide)]
    cases h0 : S 0 <;> cases h1 : S 1 <;> cases h2 : S 2 <;> simp_all
theorem load_count (X : List In) (S T : St) (h : loadF X S = some T) : (lst T).length = (lst S).length + X.length := by
  induction X generalizing S with
  | nil => cases h; rfl
  | cons p r ih =>
    unfold loadF at h
    cases hp : put1 S p with
    | none => rw [hp] at h; cases h
    | some U =>
      rw [hp] at h
      obtain ⟨hr, hn, _, rfl⟩ := put1_some S p U hp
      rw [ih _ h, lst_more S _ _ (by omega) hn, List.length_cons]
      omega
theorem load_right (X Y : List In) (S : St) (hY : ∀ y ∈ Y, 0 ≤ y.1 ∧ y.1 < 3) (hS : ∀ j, j < 3 → (S j = none ↔ ∀ y ∈ Y, y.1 ≠ (j : Int))) : (loadF X S).isSome = rgt Y X := by
  induction X generalizing S Y with
  | nil => rfl
  | cons p r ih =>
    unfold loadF rgt
    by_cases hok : okP p = true
    · have hok2 : (0 ≤ p.1 ∧ p.1 < 3) ∧ p.2.length ≤ 16 := by unfold okP at hok; simpa using hok
      obtain ⟨i, hi⟩ : ∃ i : Nat, p.1 = i := ⟨p.1.toNat, by omega⟩
      have hi3 : i < 3 := by omega
      cases hSi : S i with
      | none =>
        have hall : (Y.all fun y => y.1 != p.1) = true := by
          rw [List.all_eq_true]
          intro y hy
          have := (hS i hi3).1 hSi y hy
          rw [hi]
          simpa using this
        have hput : put1 S p = some (upd S i (some p.2)) := by
          unfold put1
          rw [hi, Int.toNat_natCast, if_pos ⟨by omega, hSi, hok2.2⟩]
        rw [hput, hok, hall]
        simp only [Bool.true_and]
        refine ih (Y ++ [p]) _ (fun y hy => ?_) (fun j hj => ?_)
        · rcases List.mem_append.1 hy with hy | hy
          · exact hY y hy
          · rw [List.mem_singleton.1 hy]; exact hok2.1
        · by_cases hji : j = i
          · subst hji
            rw [upd_same]
            exact ⟨fun h => (by cases h), fun h => absurd hi (h p (by simp))⟩
          · rw [upd_other _ _ _ _ hji, hS j hj]
            refine ⟨fun h y hy => ?_, fun h y hy => h y (by simp [hy])⟩
            rcases List.mem_append.1 hy with hy | hy
            · exact h y hy
            · rw [List.mem_singleton.1 hy, hi]; omega
      | some D =>
        have hall : (Y.all fun y => y.1 != p.1) = false := by
          rw [List.all_eq_false]
          have : ¬ ∀ y ∈ Y, y.1 ≠ (i : Int) := fun h => by rw [(hS i hi3).2 h] at hSi; cases hSi
          simp only [Classical.not_forall] at this
          obtain ⟨y, hy, he⟩ := this
          refine ⟨y, hy, ?_⟩
          rw [hi]
          simpa using he
        have hput : put1 S p = none := by
          unfold put1
          rw [hi, Int.toNat_natCast, if_neg (fun h => by rw [hSi] at h; cases h.2.1)]
        rw [hput, hall]
        simp
    · have hok2 : ¬ ((0 ≤ p.1 ∧ p.1 < 3) ∧ p.2.length ≤ 16) := by unfold okP at hok; simpa using hok
      have hput : put1 S p = none := by
        unfold put1
        rw [if_neg (fun h => hok2 ⟨h.1, h.2.2⟩)]
      rw [hput, show okP p = false by simpa using hok]
      simp
theorem load_app (X Y : List In) (S : St) : loadF (X ++ Y) S = (loadF X S).bind (loadF Y) := by
  induction X generalizing S with
  | nil => rfl
  | cons p r ih =>
    rw [List.cons_append, loadF, loadF]
    cases put1 S p with
    | none => rfl
    | some T => exact ih T
def partL (S : St) (i : Nat) : List In := match S i with | none => [] | some D => [((i : Int), D)]
theorem lst_parts (S : St) : lst S = partL S 0 ++ (partL S 1 ++ partL S 2) := by
  rw [lst_eq, List.append_assoc]
  unfold partL
  cases S 0 <;> cases S 1 <;> cases S 2 <;> rfl
theorem load_part (S T : St) (i : Nat) (hi : i < 3) (hT : T i = none) (hle : ∀ D, S i = some D → D.length ≤ 16) : loadF (partL S i) T = some (upd T i (S i)) := by
  unfold partL
  cases h : S i with
  | none =>
    show some T = _
    congr 1
    funext j
    unfold upd
    by_cases hj : j = i
    · rw [if_pos hj, hj, hT]
    · rw [if_neg hj]
  | some D =>
    show loadF [((i : Int), D)] T = _
    have hp : put1 T ((i : Int), D) = some (upd T i (some D)) := by
      unfold put1
      rw [if_pos ⟨⟨by show (0 : Int) ≤ i; omega, by show (i : Int) < 3; omega⟩, by rw [Int.toNat_natCast]; exact hT, hle D h⟩, Int.toNat_natCast]
    rw [loadF, hp]
    rfl
theorem load_lst (S : St) (hle : ∀ i D, i < 3 → S i = some D → D.length ≤ 16) : ∃ T, loadF (lst S) noSt = some T ∧ lst T = lst S := by
  refine ⟨upd (upd (upd noSt 0 (S 0)) 1 (S 1)) 2 (S 2), ?_, ?_⟩
  · rw [lst_parts, load_app, load_part S noSt 0 (by omega) rfl (hle 0 · (by omega)), Option.bind_some, load_app, load_part S (upd noSt 0 (S 0)) 1 (by omega) (by rw [upd_other _ _ _ _ (by decide)]; rfl) (hle 1 · (by omega)), Option.bind_some,
      load_part S (upd (upd noSt 0 (S 0)) 1 (S 1)) 2 (by omega) (by rw [upd_other _ _ _ _ (by decide), upd_other _ _ _ _ (by decide)]; rfl) (hle 2 · (by omega))]
  · rw [lst_eq, lst_eq, upd_same, upd_other _ _ _ _ (show 0 ≠ 2 by decide), upd_other _ _ _ _ (show 0 ≠ 1 by decide), upd_same, upd_other _ _ _ _ (show 1 ≠ 2 by decide), upd_same]
end Go.Proofs.Ytojhmiggocommaa
