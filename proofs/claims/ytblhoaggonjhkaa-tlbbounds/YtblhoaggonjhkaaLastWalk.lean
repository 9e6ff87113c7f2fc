/- TlbLast's walk: what is got was put last; no statement is proved in this text. -/
import Derived.Test.YtblhoaggonjhkaaWalk
namespace Go.Proofs.Ytblhoaggonjhkaa
open Go.ChangeShapes Go.WideShapes Go.ChangeAt Go.RowKit Go.Deep

theorem two_new {w0 : World} {base p : Nat} (hB0 : Buf w0 base p [] [] 0 0) : Two (w0.alloc (.cells #[.slice none 0 0, i64 0, i64 0] 29)) base p w0.heap.size [] 0 0 := by
  have hp := hB0.plt
  have hbp := hB0.bp
  exact ⟨hB0.below ((Below.refl _ _).alloc (Nat.le_refl _) _), ⟨⟨_, heap_last w0 _, World.ownsRow_nil _ _ _ _⟩, by omega⟩, by simp, by simp; omega⟩
theorem put_mem {L : Ls} {k : K3} {e : En} : ∀ q, q ∈ putL L k e → (q ∈ L ∧ q.1 ≠ k) ∨ q = (k, e) := by
  intro q hq
  unfold putL at hq
  split at hq
  · rename_i ht
    exact (set_mem L k e ht q).1 hq
  · rename_i ht
    rcases (add_mem L (roomL L) k e (roomL_sub L) (by simpa using ht) q).1 hq with ⟨h1, h2⟩ | h
    · exact Or.inl ⟨(roomL_sub L).subset h1, h2⟩
    · exact Or.inr h
theorem put_has (L : Ls) (k : K3) (e : En) : (k, e) ∈ putL L k e := by
  unfold putL
  split
  · rename_i ht
    exact (set_mem L k e ht _).2 (Or.inr rfl)
  · simp
def isPut (s : St) : Prop := s.what = 0 ∨ s.what = 1 ∨ s.what = 2
theorem isPut_iff (s : St) : isPut s ↔ 0 ≤ s.what ∧ s.what < 3 := by unfold isPut; omega
theorem next_old {s : St} {L : Ls} (h : ¬ isPut s) : ∀ q, q ∈ nextL s L → q ∈ L := by
  intro q hq
  unfold isPut at h
  unfold nextL at hq
  rw [if_neg h] at hq
  split at hq
  · exact (dropF_sub _ _).subset hq
  split at hq
  · exact (dropF_sub _ _).subset hq
  split at hq
  · exact (dropF_sub _ _).subset hq
  split at hq
  · exact (dropF_sub _ _).subset hq
  · exact hq
theorem next_put {s : St} {L : Ls} (h : isPut s) : nextL s L = putL L s.k s.e := by
  unfold isPut at h
  unfold nextL
  rw [if_pos h]
/-- All of a key in the list is an entry. -/
def Lst (L : Ls) (key : K3) (put : Bool) (last : En) : Prop := ∀ e, (key, e) ∈ L → put = true ∧ last = e
theorem Lst.put {s : St} {L : Ls} {key : K3} {put : Bool} {last : En} (_h : Lst L key put last) (hp : isPut s) (hk : s.k = key) : Lst (nextL s L) key true s.e := by
  intro e he
  rw [next_put hp] at he
  rcases put_mem _ he with ⟨_, h2⟩ | h
  · exact absurd hk.symm h2
  · cases h
    exact ⟨rfl, rfl⟩
theorem Lst.stay {s : St} {L : Ls} {key : K3} {put : Bool} {last : En} (h : Lst L key put last) (hn : ¬ (isPut s ∧ s.k = key)) : Lst (nextL s L) key put last := by
  intro e he
  by_cases hp : isPut s
  · rw [next_put hp] at he
    rcases put_mem _ he with ⟨h1, _⟩ | h1
    · exact h e h1
    · cases h1
      exact absurd ⟨hp, rfl⟩ hn
  · exact h e (next_old hp _ he)

theorem Two.kept33 {w w' : World} {base p p2 : Nat} {L : Ls} {h m : Nat} (t : Two w base p p2 L h m) (hs : w.heap.size ≤ w'.heap.size) (hk : ∀ (k : Nat) (o : Obj), w.heap[k]? = some o → keeps [33] false o = true → w'.heap[k]? = some o) : Two w' base p p2 L h m := by
  refine ⟨?_, ?_, t.l8, Nat.le_trans t.bw hs⟩
  · obtain ⟨mv, kv, h1, h2, h3⟩ := t.b.ex
    exact ⟨⟨mv, kv, hk p _ h1 (by simp [keeps]), h2.kept (fun b es c hb => hk b _ hb (by simp [keeps])), own_kept h3 (fun b C hb => hk b _ hb (by simp [keeps]))⟩, t.b.nd, t.b.bp⟩
  · obtain ⟨lv, h1, h2⟩ := t.r.ex
    exact ⟨⟨lv, hk p2 _ h1 (by simp [keeps]), own_kept h2 (fun b C hb => hk b _ hb (by simp [keeps]))⟩, t.r.bp⟩
theorem two_cells {w : World} {B : Nat} {a b : Value} {t : TypeId} (h : w.heap[B]? = some (.cells #[a, b] t (0, 0))) : (w.cell? ⟨B, 0, none⟩ = some a ∧ w.cell? ⟨B, 1, none⟩ = some b) ∧ ∀ j, w.frozen? ⟨B, j, none⟩ = false := by
  rw [cell_of_row w B 0 _ t (0, 0) h, cell_of_row w B 1 _ t (0, 0) h]
  refine ⟨⟨rfl, rfl⟩, fun j => ?_⟩
  unfold World.frozen?
  rw [show w.heap[(⟨B, j, none⟩ : Addr).block]? = _ from h]
  simp
theorem set_two {w : World} {Q : Nat} {a b a' b' : Value} (h : w.heap[Q]? = some (.cells #[a, b] 33 (0, 0))) : ((w.setCell ⟨Q, 0, none⟩ a').setCell ⟨Q, 1, none⟩ b').heap[Q]? = some (.cells #[a', b'] 33 (0, 0)) :=
  set_block (set_block h 0 a') 1 b'
theorem set_two_frame {w : World} {Q base : Nat} {a b a' b' : Value} (h : w.heap[Q]? = some (.cells #[a, b] 33 (0, 0))) (hb : base ≤ Q) : Fr base [33] false w ((w.setCell ⟨Q, 0, none⟩ a').setCell ⟨Q, 1, none⟩ b') :=
  Fr.of_touch (((Touch.refl Q w).setCell rfl a').setCell rfl b') h (by simp [keeps]) hb

set_option maxRecDepth 100000 in
set_option maxHeartbeats 4000000 in
theorem last_walk (w : World) (ao : Option Addr) (len cap : Nat) (f : Nat → St) (hst : SSl w ao len f) (hlen : len ≤ maxLen) (key : K3) :
    Calls Try.prog 4 #[.slice ao len cap, keyV key] w fun e w' => e = .returned (.bool true) ∧ Below w.heap.size w w' := by
  unfold maxLen at hlen
  have HS : Hid (SSl w ao len f) := hst
  clear hst
  go_enter Try.func4, Try.ntmps4
  go_wp2_with fail
  refine (new_ok _).mono ?_
  rintro e w0 ⟨rfl, hb0, hB0⟩
  have hK0 : w0.heap[w.heap.size]? = some (.cells #[i64 key.env, i64 key.proc, i64 key.page] 31 (0, 0)) := (hb0.block _ (by simp)).trans (heap_last w _)
  have hB00 : Below w.heap.size w w0 := ((Below.refl w.heap.size w).alloc (Nat.le_refl _) _).trans (hb0.mono (by simp))
  have hH : (w.alloc (.cells #[i64 key.env, i64 key.proc, i64 key.page] 31)).heap.size = w.heap.size + 1 := by simp
  rw [hH] at hb0 hB0 ⊢
  have hsz0 := hB0.plt
  have HB0 : Hid (Below w.heap.size w w0) := hB00
  have hal : ∀ (V : World) (o : Obj), Below V.heap.size V (V.alloc o) := fun V o => (Below.refl _ _).alloc (Nat.le_refl _) o
  have HT0 : Hid (Two ((w0.alloc (.cells #[.slice none 0 0, i64 0, i64 0] 29)).alloc (.cells #[i64 0, .bool false] 33)) (w.heap.size + 1) (w.heap.size + 1) w0.heap.size [] 0 0) := (two_new hB0).below (hal _ _)
  have HB1 : Hid (Below w.heap.size w ((w0.alloc (.cells #[.slice none 0 0, i64 0, i64 0] 29)).alloc (.cells #[i64 0, .bool false] 33))) := (hB00.alloc (by omega) _).alloc (by simp; omega) _
  have HK1 : Hid (((w0.alloc (.cells #[.slice none 0 0, i64 0, i64 0] 29)).alloc (.cells #[i64 0, .bool false] 33)).heap[w.heap.size]? = some (.cells #[i64 key.env, i64 key.proc, i64 key.page] 31 (0, 0))) := ((hal _ _).block _ (by simp; omega)).trans (((hal _ _).block _ (by omega)).trans hK0)
  have HQ1 : Hid (((w0.alloc (.cells #[.slice none 0 0, i64 0, i64 0] 29)).alloc (.cells #[i64 0, .bool false] 33)).heap[w0.heap.size + 1]? = some (.cells #[i64 0, .bool false] 33 (0, 0))) := (by
    have := heap_last (w0.alloc (.cells #[.slice none 0 0, i64 0, i64 0] 29)) (.cells #[i64 0, .bool false] 33)
    simpa using this : ((w0.alloc (.cells #[.slice none 0 0, i64 0, i64 0] 29)).alloc (.cells #[i64 0, .bool false] 33)).heap[w0.heap.size + 1]? = some (.cells #[i64 0, .bool false] 33 (0, 0)))
  clear hb0 hB0 hK0 hB00 hH
  have HAL : Hid (∀ (V : World) (o : Obj), Below V.heap.size V (V.alloc o)) := hal
  clear hal
  by_cases hl : len ≤ 100
  · go_wp2_with fail
    go_loopw [8, 31] (fun u i wr => ∃ (k : Nat) (L : Ls) (h m : Nat) (put : Bool) (last : En), Value.bool put = u ∧ k ≤ len ∧ h ≤ k ∧ m ≤ k ∧ i = i64 k ∧ Below w.heap.size w wr ∧ Two wr (w.heap.size + 1) (w.heap.size + 1) w0.heap.size L h m ∧ Lst L key put last ∧ wr.heap[w.heap.size]? = some (.cells #[i64 key.env, i64 key.proc, i64 key.page] 31 (0, 0)) ∧ wr.heap[w0.heap.size + 1]? = some (.cells #[i64 last.frame, .bool last.wr] 33 (0, 0))) (fun _ i _ => len - (intOf i).toNat)
    case atStart => exact ⟨0, [], 0, 0, false, ⟨0, false⟩, rfl, by omega, by omega, by omega, rfl, HB1.out, HT0.out, (fun e he => by cases he), HK1.out, HQ1.out⟩
    case round =>
      obtain ⟨k, L, h, m, put, last, rfl, hk, hhk, hmk, rfl, hb, ht, hL, hkey, hq⟩ := hrel
      by_cases hlt : k < len
      · obtain ⟨b, off, rfl, hbl, c0, c1, c2, c3, c4, c5⟩ := (HS.out.below hb).at hlt
        obtain ⟨s, hs⟩ : ∃ s, f k = s := ⟨_, rfl⟩
        rw [hs] at c0 c1 c2 c3 c4 c5
        clear hs
        have hqlt := (Array.getElem?_eq_some_iff.1 hq).1
        have HB : Hid (Below w.heap.size w wr) := hb
        have HT : Hid (∀ o, Two (wr.alloc o) (w.heap.size + 1) (w.heap.size + 1) w0.heap.size L h m) := fun o => ht.below (HAL.out _ o)
        have HKY : Hid (∀ o, (wr.alloc o).heap[w.heap.size]? = some (.cells #[i64 key.env, i64 key.proc, i64 key.page] 31 (0, 0))) := fun o => ((HAL.out wr o).block _ (by omega)).trans hkey
        have HQ : Hid (∀ o, (wr.alloc o).heap[w0.heap.size + 1]? = some (.cells #[i64 last.frame, .bool last.wr] 33 (0, 0))) := fun o => ((HAL.out wr o).block _ hqlt).trans hq
        have HL : Hid (Lst L key put last) := hL
        clear hb ht hkey hq hL
        go_wp2_with fail
        refine (does_any (HT.out _) s (by omega) (by omega)).mono ?_
        rintro e w1 ⟨rfl, hf, ht1⟩
        have HB1 : Hid (Below w.heap.size w w1) := (HB.out.alloc HB.out.size _).trans (hf.below.mono (by omega))
        have hh1 := nextH_le s L h
        have hm1 := nextM_le s L m
        have hS1 : w1.heap[wr.heap.size]? = some (.cells s.cells.toArray 35 (0, 0)) := hf.kept _ _ (heap_last wr _) (by simp [keeps])
        have hQ1 := hf.kept _ _ (HQ.out _) (by simp [keeps])
        have hK1 : w1.heap[w.heap.size]? = some (.cells #[i64 key.env, i64 key.proc, i64 key.page] 31 (0, 0)) := (hf.below.block _ (by omega)).trans (HKY.out _)
        obtain ⟨⟨k0, k1, k2⟩, _⟩ := three_cells hK1
        obtain ⟨_, hfz⟩ := two_cells hQ1
        have s0 : w1.cell? ⟨wr.heap.size, 0, none⟩ = some (i64 s.what) := by rw [cell_of_row w1 _ 0 _ 35 (0, 0) hS1]; rfl
        have s1 : w1.cell? ⟨wr.heap.size, 1, none⟩ = some (i64 s.k.env) := by rw [cell_of_row w1 _ 1 _ 35 (0, 0) hS1]; rfl
        have s2 : w1.cell? ⟨wr.heap.size, 2, none⟩ = some (i64 s.k.proc) := by rw [cell_of_row w1 _ 2 _ 35 (0, 0) hS1]; rfl
        have s3 : w1.cell? ⟨wr.heap.size, 3, none⟩ = some (i64 s.k.page) := by rw [cell_of_row w1 _ 3 _ 35 (0, 0) hS1]; rfl
        have s4 : w1.cell? ⟨wr.heap.size, 4, none⟩ = some (i64 s.e.frame) := by rw [cell_of_row w1 _ 4 _ 35 (0, 0) hS1]; rfl
        have s5 : w1.cell? ⟨wr.heap.size, 5, none⟩ = some (.bool s.e.wr) := by rw [cell_of_row w1 _ 5 _ 35 (0, 0) hS1]; rfl
        have HQ1 : Hid (w1.heap[w0.heap.size + 1]? = some (.cells #[i64 last.frame, .bool last.wr] 33 (0, 0))) := hQ1
        have HK1 : Hid (w1.heap[w.heap.size]? = some (.cells #[i64 key.env, i64 key.proc, i64 key.page] 31 (0, 0))) := hK1
        have HT1 : Hid (Two w1 (w.heap.size + 1) (w.heap.size + 1) w0.heap.size (nextL s L) (nextH s L h) (nextM s L m)) := ht1
        have hfz0 := hfz 0
        have hfz1 := hfz 1
        clear hf ht1 hS1 hQ1 hK1 hfz c0 c1 c2 c3 c4 c5
        generalize nextH s L h = h1 at *
        generalize nextM s L m = m1 at *
        by_cases hw0 : 0 ≤ s.what
        · by_cases hw3 : s.what < 3
          · by_cases hkk : s.k = key
            · have HL1 : Hid (Lst (nextL s L) key true s.e) := HL.out.put ((isPut_iff s).2 ⟨hw0, hw3⟩) hkk
              have q31 : ∀ W, (binOp .eql 31 (.agg #[i64 s.k.env, i64 s.k.proc, i64 s.k.page]) (.agg #[i64 key.env, i64 key.proc, i64 key.page])).run Try.prog W = .ok (.bool true) W := fun W => (eqlV s.k key W).trans (by rw [decide_eq_true hkk])
              clear hkk
              have HF2 : Hid (Fr (w.heap.size + 1) [33] false w1 ((w1.setCell ⟨w0.heap.size + 1, 0, none⟩ (i64 s.e.frame)).setCell ⟨w0.heap.size + 1, 1, none⟩ (.bool s.e.wr))) := set_two_frame HQ1.out (by omega)
              go_wp2_with fail
              exact ⟨⟨k + 1, nextL s L, h1, m1, true, s.e, rfl, by omega, by omega, by omega, by go_num, HB1.out.trans (HF2.out.below.mono (by omega)), HT1.out.kept33 HF2.out.size HF2.out.kept, HL1.out, HF2.out.kept _ _ HK1.out (by simp [keeps]), set_two HQ1.out⟩, by simp [intOf]; omega⟩
            · have HL1 : Hid (Lst (nextL s L) key put last) := HL.out.stay (fun h => hkk h.2)
              have q31 : ∀ W, (binOp .eql 31 (.agg #[i64 s.k.env, i64 s.k.proc, i64 s.k.page]) (.agg #[i64 key.env, i64 key.proc, i64 key.page])).run Try.prog W = .ok (.bool false) W := fun W => (eqlV s.k key W).trans (by rw [decide_eq_false hkk])
              clear hkk
              go_wp2_with fail
              exact ⟨⟨k + 1, nextL s L, h1, m1, put, last, rfl, by omega, by omega, by omega, by go_num, HB1.out, HT1.out, HL1.out, HK1.out, HQ1.out⟩, by simp [intOf]; omega⟩
          · have HL1 : Hid (Lst (nextL s L) key put last) := HL.out.stay (fun h => hw3 ((isPut_iff s).1 h.1).2)
            go_wp2_with fail
            exact ⟨⟨k + 1, nextL s L, h1, m1, put, last, rfl, by omega, by omega, by omega, by go_num, HB1.out, HT1.out, HL1.out, HK1.out, HQ1.out⟩, by simp [intOf]; omega⟩
        · have HL1 : Hid (Lst (nextL s L) key put last) := HL.out.stay (fun h => hw0 ((isPut_iff s).1 h.1).1)
          go_wp2_with fail
          exact ⟨⟨k + 1, nextL s L, h1, m1, put, last, rfl, by omega, by omega, by omega, by go_num, HB1.out, HT1.out, HL1.out, HK1.out, HQ1.out⟩, by simp [intOf]; omega⟩
      · obtain ⟨⟨k0, k1, k2⟩, _⟩ := three_cells hkey
        have HB : Hid (Below w.heap.size w wr) := hb
        have HT : Hid (Two wr (w.heap.size + 1) (w.heap.size + 1) w0.heap.size L h m) := ht
        have HQ : Hid (wr.heap[w0.heap.size + 1]? = some (.cells #[i64 last.frame, .bool last.wr] 33 (0, 0))) := hq
        have HL : Hid (Lst L key put last) := hL
        clear hb ht hkey hq hL
        go_wp2_with fail
        refine (get_ok HT.out.b key (by omega) (by omega)).mono ?_
        rintro e w1 ⟨rfl, hf, _⟩
        have HB1 : Hid (Below w.heap.size w w1) := HB.out.trans (hf.below.mono (by omega))
        have HQ1 : Hid (w1.heap[w0.heap.size + 1]? = some (.cells #[i64 last.frame, .bool last.wr] 33 (0, 0))) := hf.kept _ _ HQ.out (by simp [keeps])
        clear hf
        cases hlk : look L key with
        | none =>
          have q33 := eql33 zeroE
          simp only [Option.getD_none, Option.isSome_none]
          go_wp2_with (go_at_call 8; refine (nine_ok _).mono ?_; rintro e w5 ⟨rfl, hb5⟩; have HB5 : Hid (Below w.heap.size w w5) := (HB1.out.alloc HB1.out.size _).trans (hb5.mono (by have := HB1.out.size; simp; omega)); clear hb5)
          go_ret
          exact ⟨rfl, HB5.out⟩
        | some E =>
          obtain ⟨rfl, rfl⟩ := HL.out E (mem_of_look hlk)
          have q33 := eql33 last
          have hq1lt := (Array.getElem?_eq_some_iff.1 HQ1.out).1
          have hQ2 : ∀ o, (w1.alloc o).heap[w0.heap.size + 1]? = some (.cells #[i64 last.frame, .bool last.wr] 33 (0, 0)) := fun o => ((HAL.out w1 o).block _ hq1lt).trans HQ1.out
          have u0 : ∀ o, (w1.alloc o).cell? ⟨w0.heap.size + 1, 0, none⟩ = some (i64 last.frame) := fun o => (two_cells (hQ2 o)).1.1
          have u1 : ∀ o, (w1.alloc o).cell? ⟨w0.heap.size + 1, 1, none⟩ = some (.bool last.wr) := fun o => (two_cells (hQ2 o)).1.2
          clear hQ2 hlk
          simp only [Option.getD_some, Option.isSome_some]
          go_wp2_with (go_at_call 8; refine (nine_ok _).mono ?_; rintro e w5 ⟨rfl, hb5⟩; have HB5 : Hid (Below w.heap.size w w5) := (HB1.out.alloc HB1.out.size _).trans (hb5.mono (by have := HB1.out.size; simp; omega)); clear hb5)
          go_ret
          exact ⟨rfl, HB5.out⟩
  · go_wp2_with (go_at_call 8; refine (nine_ok _).mono ?_; rintro e w5 ⟨rfl, hb5⟩; have HB5 : Hid (Below w.heap.size w w5) := HB0.out.trans (hb5.mono HB0.out.size); clear hb5)
    go_ret
    exact ⟨rfl, HB5.out⟩
end Go.Proofs.Ytblhoaggonjhkaa
