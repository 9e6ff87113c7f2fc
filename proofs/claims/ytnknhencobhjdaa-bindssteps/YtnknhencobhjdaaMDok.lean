/- No statement here. -/
import Derived.Test.YtnknhencobhjdaaMDs6
import Derived.Test.YtnknhencobhjdaaMSl
namespace Go.Proofs.Ytnknhencobhjdaa
open Go.Proofs.Ytnknhencobhjdaa.Cp (pq)
theorem does_ok {w : World} {base p : Nat} {t : Qt.T} {k : Nat} (h : At w base p t k) (hk : k ≤ 90) (x : Sb) (hr : x.rng) : Calls Try.prog 12 #[pq p, x.v] w fun e w' => e = .returned (.bool true) ∧ At w' base p t (k + 1) ∧ Pf base w w' := by
  obtain ⟨z, s, T, L, R, C, Rs, P, H, E, h, h1, h2⟩ := h
  have fin : DoesTo w base p z t C H x → Calls Try.prog 12 #[pq p, x.v] w fun e w' => e = .returned (.bool true) ∧ At w' base p t (k + 1) ∧ Pf base w w' := fun hd => hd.mono fun e w' ⟨he, ha, hf⟩ => by
    obtain ⟨z', s', T', L', R', C', Rs', P', H', E', hp, _, _, h3, h4⟩ := ha
    exact ⟨he, ⟨z', s', T', L', R', C', Rs', P', H', E', hp, by omega, by omega⟩, hf⟩
  apply fin
  by_cases e0 : x.what = 0
  · exact does_open h (by omega) (by omega) x hr e0
  · by_cases e1 : x.what = 1
    · exact does_close h (by omega) (by omega) x e1
    · by_cases e2 : x.what = 2 ∨ x.what = 3 ∨ x.what = 4
      · exact does_bind h (by omega) (by omega) x e2
      · by_cases e5 : x.what = 5
        · exact does_free h (by omega) (by omega) x e5
        · by_cases e6 : x.what = 6 ∨ x.what = 7
          · exact does_share h (by omega) (by omega) x e6
          · by_cases e8 : x.what = 8
            · exact does_revoke h (by omega) (by omega) x e8
            · exact does_number h (by omega) (by omega) x (by omega)
end Go.Proofs.Ytnknhencobhjdaa
