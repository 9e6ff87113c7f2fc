/- A list of steps that was read, and imagolaw02's 'long' over it: contracts; no statement is proved in this text. -/
import Derived.Test.YtjfgeledmlkppabArgs
namespace Go.Proofs.Ytjfgeledmlkppab
open Go.ChangeShapes Go.WideShapes Go.ChangeAt Go.RowKit

structure St where
  what : Int
  a : Int
  b : Int
  at_ : Int
  u : UInt8
  s : ByteArray

def St.cells (x : St) : List Value := stepCells x.what x.a x.b x.at_ x.u x.s

/-- A slice of steps: empty, or a row of their cells. -/
def IsSteps (w : World) (ao : Option Addr) (len : Nat) (f : Nat → St) : Prop :=
  len = 0 ∨ ∃ b off, ao = some ⟨b, off, none⟩ ∧ b < w.heap.size ∧ ∀ i, i < len → w.rangeAt b (off + i * 6) (f i).cells

theorem IsSteps.below {w w' : World} {ao : Option Addr} {len : Nat} {f : Nat → St} (h : IsSteps w ao len f) (hb : Below w.heap.size w w') : IsSteps w' ao len f := by
  rcases h with h | ⟨b, off, rfl, hlt, hc⟩
  · exact Or.inl h
  · refine Or.inr ⟨b, off, rfl, Nat.lt_of_lt_of_le hlt hb.size, fun i hi j v hv => ?_⟩
    rw [hb.cell (by exact hlt)]
    exact hc i hi j v hv

/-- The cells of one of its steps. -/
theorem IsSteps.at {w : World} {ao : Option Addr} {len : Nat} {f : Nat → St} (h : IsSteps w ao len f) {k : Nat} (hk : k < len) : ∃ b off, ao = some ⟨b, off, none⟩ ∧ b < w.heap.size ∧
    w.cell? ⟨b, off + k * 6, none⟩ = some (.int .i64 (f k).what) ∧ w.cell? ⟨b, off + k * 6 + 1, none⟩ = some (.int .i64 (f k).a) ∧ w.cell? ⟨b, off + k * 6 + 2, none⟩ = some (.int .i64 (f k).b) ∧
    w.cell? ⟨b, off + k * 6 + 3, none⟩ = some (.int .i64 (f k).at_) ∧ w.cell? ⟨b, off + k * 6 + 4, none⟩ = some (.int .u8 (f k).u.toNat) ∧ w.cell? ⟨b, off + k * 6 + 5, none⟩ = some (.string (f k).s) := by
  rcases h with h | ⟨b, off, rfl, hlt, hc⟩
  · omega
  · exact ⟨b, off, rfl, hlt, hc k hk 0 _ rfl, hc k hk 1 _ rfl, hc k hk 2 _ rfl, hc k hk 3 _ rfl, hc k hk 4 _ rfl, hc k hk 5 _ rfl⟩

/-- It answers a bool. -/
def IsBool (e : Ending) : Prop := ∃ t, e = .returned (.bool t)

set_option maxHeartbeats 800000 in
theorem long_any (w : World) (ao : Option Addr) (len cap : Nat) (f : Nat → St) (h : IsSteps w ao len f) (hlen : len ≤ maxLen) :
    Calls Try.prog 9 #[.slice ao len cap] w fun e w' => IsBool e ∧ Below w.heap.size w w' := by
  unfold maxLen at hlen
  have H : Hid (IsSteps w ao len f) := h
  clear h
  go_enter Try.func9, Try.ntmps9
  go_wp2_with fail
  go_loopw [7] (fun i wr => ∃ k : Nat, k ≤ len ∧ i = .int .i64 k ∧ Below w.heap.size w wr) (fun i _ => len - (intOf i).toNat)
  case atStart => exact ⟨0, by omega, rfl, Below.refl _ _⟩
  case round =>
    obtain ⟨k, hk, rfl, hb⟩ := hrel
    by_cases hlt : k < len
    · obtain ⟨b, off, rfl, hbl, c0, c1, c2, c3, c4, c5⟩ := (H.out.below hb).at hlt
      have HB : Hid _ := hb
      clear hb
      go_wp2_with fail
      all_goals first
        | exact ⟨⟨k + 1, by omega, by go_num, HB.out.alloc HB.out.size _⟩, by simp [intOf]; omega⟩
        | (go_ret; exact ⟨Exists.intro true rfl, HB.out.alloc HB.out.size _⟩)
    · have HB : Hid _ := hb
      clear hb
      go_wp2_with fail
      go_ret
      exact ⟨Exists.intro false rfl, HB.out⟩

/-- A list of steps, out of what was read. -/
theorem steps_read {H : Type} {enc : TypeId × Value → H} {W : World} {spare : Nat → Bool} {held : Bool} {a : Option Addr} {len cap : Nat} {d : DataW H} {ps : List MemPlace}
    (h : DataW.Trod enc Try.prog W 0 spare held 22 (.slice a len cap) d ps) : len ≤ maxLen ∧ ∃ f, IsSteps W a len f := by
  obtain ⟨fuel, hf⟩ := h
  rcases Deep.open_slice Try.underlying22 hf with ⟨hcs, _⟩ | ⟨x, len', cap', m, n, D, Pl, hcs, _, hl, hm, hmm, _, hel⟩
  · simp [Value.cells] at hcs
    obtain ⟨rfl, rfl, rfl⟩ := hcs
    exact ⟨Nat.zero_le _, fun _ => ⟨0, 0, 0, 0, 0, ⟨#[]⟩⟩, Or.inl rfl⟩
  · simp [Value.cells] at hcs
    obtain ⟨rfl, rfl, rfl⟩ := hcs
    refine ⟨Nat.le_trans hl hm, ?_⟩
    have hlm : len ≤ m := by rw [hmm]; split <;> omega
    have hone : ∀ i, ∃ st : St, i < len → ∀ j v, st.cells[j]? = some v → W.cell? ((x.add (i * 6)).add j) = some v := by
      intro i
      by_cases hi : i < len
      · obtain ⟨cs', hc, hr⟩ := hel i (by omega)
        rw [cells32] at hc
        obtain ⟨what, a, b, at_, u, s, rfl, _⟩ := step_read hr
        refine ⟨⟨what, a, b, at_, u, s⟩, fun _ j v hv => ?_⟩
        obtain ⟨_, hlen6, hcell⟩ := World.cells?_some hc
        rw [hcell j (by have := (List.getElem?_eq_some_iff.1 hv).1; rw [← hlen6]; exact this)]
        exact hv
      · exact ⟨⟨0, 0, 0, 0, 0, ⟨#[]⟩⟩, fun h => absurd h hi⟩
    obtain ⟨f, hf⟩ := Classical.axiomOfChoice hone
    refine ⟨f, ?_⟩
    by_cases h0 : len = 0
    · exact Or.inl h0
    · right
      obtain ⟨b, off, spot⟩ := x
      have hc := hf 0 (by omega) 0 _ rfl
      have hspot : spot = none := by simpa [Addr.add] using World.cell?_spot hc
      subst hspot
      have hlt := World.block_lt_of_cell? W _ hc
      rw [Addr.add_mid, Addr.add_mid] at hlt
      refine ⟨b, off, rfl, hlt, fun i hi j v hv => ?_⟩
      have := hf i hi j v hv
      rw [Addr.add_mid, Addr.add_mid] at this
      exact this
end Go.Proofs.Ytjfgeledmlkppab
