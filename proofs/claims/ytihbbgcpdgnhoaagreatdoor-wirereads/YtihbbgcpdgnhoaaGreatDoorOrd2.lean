/- An operation of a drawn region that is not wanted is passed by; no statement is proved in this text. -/
import Derived.Test.YtihbbgcpdgnhoaaGreatDoorOrd
namespace Go.Proofs.YtihbbgcpdgnhoaaGreatDoor

theorem wpL_skip {P : Program} {ops : Array Oper} {Q : Exit → Act → World → Prop} {md : Region.Mode} {S : World → Prop} {z : Nat} (i d : Nat) (p : List Nat) {oi : Oper} {fuel : Nat} {listed : Array Bool} {a : Act} {w : World} (hi : ops[i]? = some oi) (hd : oi.dst = some d) (hp : anc md ops (i :: (p ++ [z])) = true) (hiz : i ≠ z)
    (hs : Region.noSelect ops = true) (hf : Region.free md ops listed i = true) (hr : (Region.ready md ops listed).contains i = true)
    (hQ : ∀ c a w, Q (.panic c) (a.put (some d) undef) w → Q (.panic c) a w) (hS : S w) (hw : Region.wanted oi (yielded ops a.tmps) = false)
    (h : wpL P md ops Q S z fuel (listed.setIfInBounds i true) (a.put (some d) undef) w) : wpL P md ops Q S z (fuel + 1) listed a w := fun hc =>
  have hr' : i ∈ Region.ready md ops listed := by simpa using hr
  wpAnyL_first hp hiz hi (Region.noSelect_spec hs) (by rw [hd]; exact hQ) fuel listed a w hc (Region.free_spec hi hf) hr' (Or.inr ⟨hw, rfl⟩) hS (by rw [hd]; exact h (hc.step hr'))
end Go.Proofs.YtihbbgcpdgnhoaaGreatDoor
