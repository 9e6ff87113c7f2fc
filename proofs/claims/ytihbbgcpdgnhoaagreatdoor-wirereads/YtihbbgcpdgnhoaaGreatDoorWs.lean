/- States' bytes, plainly: what is written is read, and nothing else as the same; no statement is proved in this text. -/
import Derived.Test.YtihbbgcpdgnhoaaGreatDoorWq
import Derived.Test.YtihbbgcpdgnhoaaGreatDoorPure2
namespace Go.Proofs.YtihbbgcpdgnhoaaGreatDoor

/-- A state's bytes. -/
def stB (v : Nat) (T : Ty) (V : Vl) : Bs := 105 :: 109 :: (tb v 1 ++ (tb T.txt.length 2 ++ (T.txt ++ wrtV V T)))
/-- A state at the beginning of bytes, and what is left. -/
def rdS (b : Bs) : Option ((Nat × Ty × Vl) × Bs) := match b with
  | a :: c :: b1 => if a = 105 ∧ c = 109 then (match rdN 1 b1 with
    | none => none
    | some (v, b2) => match rdC 2 b2 with
      | none => none
      | some (t, b3) => match parseF t with
        | none => none
        | some T => match rdV 6 T b3 with
          | none => none
          | some (V, r) => some ((v, T, V), r)) else none
  | _ => none
theorem right_of_err {T : Ty} (h : T.err = 0) : T.right = true := (right_err T).2 h
theorem rdC2_fwd (s r : Bs) (h : s.length < 65536) : rdC 2 (tb s.length 2 ++ (s ++ r)) = some (s, r) := by
  unfold rdC
  rw [rdN_tb _ _ _ (by omega) (by omega) (by show s.length < 65536; exact h)]
  simp only []
  rw [if_pos (by rw [List.length_append]; omega), List.take_left' rfl, List.drop_left' rfl]
theorem rdC2_back {b r s : Bs} (h : rdC 2 b = some (s, r)) : b = tb s.length 2 ++ (s ++ r) := by
  unfold rdC at h
  split at h
  · cases h
  · rename_i n q hn
    obtain ⟨rfl, h2, _⟩ := rdN_back hn
    split at h
    · rename_i hl
      simp only [Option.some.injEq, Prod.mk.injEq] at h
      obtain ⟨rfl, rfl⟩ := h
      have hs : (q.take n).length = n := by rw [List.length_take]; omega
      rw [hs, List.take_append_drop]
    · cases h
theorem rdS_fwd (v : Nat) (T : Ty) (V : Vl) (r : Bs) (hv : v < 256) (hT : T.err = 0) (hl : T.txt.length < 65536) (hf : fitV V T) : rdS (stB v T V ++ r) = some ((v, T, V), r) := by
  have hr := right_of_err hT
  have ⟨hfm, hd⟩ := right_formed hr
  unfold stB
  simp only [List.cons_append, List.append_assoc]
  rw [rdS, if_pos ⟨rfl, rfl⟩, rdN_tb _ _ _ (by omega) (by omega) (by show v < 256; exact hv)]
  simp only []
  rw [rdC2_fwd _ _ hl]
  simp only []
  rw [parseF_txt hr]
  simp only []
  rw [rdV_fwd 6 V T r hd hfm hf]
theorem rdS_back {b r : Bs} {v : Nat} {T : Ty} {V : Vl} (h : rdS b = some ((v, T, V), r)) : b = stB v T V ++ r ∧ v < 256 ∧ T.err = 0 := by
  unfold rdS at h
  split at h
  · rename_i a c b1
    split at h
    · rename_i hac
      obtain ⟨rfl, rfl⟩ := hac
      split at h
      · cases h
      · rename_i v' b2 hv
        split at h
        · cases h
        · rename_i t b3 ht
          split at h
          · cases h
          · rename_i T' hT
            split at h
            · cases h
            · rename_i V' r' hV
              simp only [Option.some.injEq, Prod.mk.injEq] at h
              obtain ⟨⟨rfl, rfl, rfl⟩, rfl⟩ := h
              obtain ⟨h1, h2, _⟩ := rdN_back hv
              have h3 := rdC2_back ht
              obtain ⟨h4, rfl⟩ := parseF_back hT
              have h5 := rdV_back 6 _ _ _ _ hV
              refine ⟨?_, h2, (right_err _).1 h4⟩
              rw [h1, h3, h5]
              unfold stB
              simp only [List.cons_append, List.append_assoc]
    · cases h
  · cases h
/-- Unlike states have unlike bytes, and none begin with another one's. -/
theorem stB_apart {v v' : Nat} {T T' : Ty} {V V' : Vl} {x : Bs} (hv : v < 256) (hT : T.err = 0) (hl : T.txt.length < 65536) (hf : fitV V T) (hv' : v' < 256) (hT' : T'.err = 0) (hl' : T'.txt.length < 65536) (hf' : fitV V' T') (h : stB v T V = stB v' T' V' ++ x) : v = v' ∧ T = T' ∧ V = V' ∧ x = [] := by
  have h1 := rdS_fwd v T V [] hv hT hl hf
  rw [List.append_nil, h, rdS_fwd v' T' V' x hv' hT' hl' hf'] at h1
  simp only [Option.some.injEq, Prod.mk.injEq] at h1
  exact ⟨h1.1.1.symm, h1.1.2.1.symm, h1.1.2.2.symm, h1.2⟩
end Go.Proofs.YtihbbgcpdgnhoaaGreatDoor
