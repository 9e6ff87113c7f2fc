/- tlb.Buffer's enter and Put: their contracts; no statement is proved in this text. -/
import Derived.Test.YtblhoaggonjhkaaDropAll
import Derived.Deep.RegionHeldLaw
import Derived.Deep.RegionLaw
import Derived.Deep.AppendLies
import Derived.WalkSpells
namespace Go.Proofs.Ytblhoaggonjhkaa
open Go.ChangeShapes Go.WideShapes Go.ChangeAt Go.RowKit Go.Deep

def roomL (L : Ls) : Ls := if L.length = 8 then L.tail else L
theorem drop_head {p : K3 × En} {r : Ls} (nd : ND (p :: r)) : dropF (isKey p.1) (p :: r) = r := by
  obtain ⟨h1, _⟩ := nd_cons nd
  unfold dropF
  rw [List.filter_cons]
  have : (!isKey p.1 p) = false := by simp [isKey]
  rw [this]
  simp only [Bool.false_eq_true, if_false]
  exact List.filter_eq_self.2 (fun q hq => by simpa [isKey] using h1 q hq)

/-- What may have turned: the buffer's own block, maps, one row, and what is new. -/
structure FrK (base : Nat) (g : Option Nat) (w w' : World) : Prop where
  below : Below base w w'
  kept : ∀ (k : Nat) (o : Obj), w.heap[k]? = some o → keeps [56] true o = true → some k ≠ g → w'.heap[k]? = some o
theorem FrK.of_fr {base : Nat} {w w' : World} (g : Option Nat) (h : Fr base [56] true w w') : FrK base g w w' := ⟨h.below, fun k o hk ho _ => h.kept k o hk ho⟩
theorem Fr.thenK {base : Nat} {a b c : World} {g g' : Option Nat} (h : Fr base [56] true a b) (k : FrK base g b c) (hg : ∀ j, g = some j → a.heap.size ≤ j ∨ g' = some j) : FrK base g' a c :=
  ⟨h.below.trans k.below, fun i o hi ho hne => k.kept i o (h.kept i o hi ho) ho (fun e => by
    rcases hg i e.symm with hlt | he
    · have := (Array.getElem?_eq_some_iff.1 hi).1; omega
    · exact hne he.symm)⟩
theorem own_ne {w : World} {base : Nat} {e : TypeId} {size : Nat} {v : Value} {n : Nat} {xs : List Value} (h : w.ownsRow base e size v n xs) {q : Nat} {o : Obj} (hq : w.heap[q]? = some o) (ho : ∀ C, o ≠ .cells C e (0, 0)) : some q ≠ v.ownBlock := fun e' => by
  rcases h.2 with ⟨rfl, _⟩ | ⟨g, cap, cur, rfl, _, hg', _⟩
  · cases e'
  · have : q = g := by simpa [Value.ownBlock] using e'
    subst this
    rw [hq] at hg'
    exact ho cur (Option.some.inj hg')

theorem grown_drew {w w' : World} {row : Option Nat} (h : w.drew.grownBy w' row) : w.grownBy w' row := ⟨h.os, h.tape, h.output, h.size, h.block⟩
theorem enter_end {W w1 : World} {base p bm : Nat} {M : Ls} {ks : List K3} {h m : Nat} {kv : Value} {k : K3} {g cap : Nat} {o : Obj} (h1 : W.heap[p]? = some (.cells #[.map (some bm), kv, i64 h, i64 m] 56 (0, 0))) (hm : MapIs W bm M) (ho : W.ownsRow base 31 3 kv ks.length (kcells ks))
    (hg : (W.alloc o).grownBy w1 kv.ownBlock) (hown : w1.ownsRow base 31 3 (.slice (some ⟨g, 0, none⟩) (ks.length + 1) cap) (ks.length + 1) (kcells ks ++ [i64 k.env, i64 k.proc, i64 k.page])) (hbp : base ≤ p) (hbW : base ≤ W.heap.size) :
    (w1.setCell ⟨p, 1, none⟩ (.slice (some ⟨g, 0, none⟩) (ks.length + 1) cap)).heap[p]? = some (.cells #[.map (some bm), .slice (some ⟨g, 0, none⟩) (ks.length + 1) cap, i64 h, i64 m] 56 (0, 0)) ∧ MapIs (w1.setCell ⟨p, 1, none⟩ (.slice (some ⟨g, 0, none⟩) (ks.length + 1) cap)) bm M ∧
      (w1.setCell ⟨p, 1, none⟩ (.slice (some ⟨g, 0, none⟩) (ks.length + 1) cap)).ownsRow base 31 3 (.slice (some ⟨g, 0, none⟩) (ks.length + 1) cap) (ks ++ [k]).length (kcells (ks ++ [k])) ∧ FrK base kv.ownBlock W (w1.setCell ⟨p, 1, none⟩ (.slice (some ⟨g, 0, none⟩) (ks.length + 1) cap)) := by
  have hplt := (Array.getElem?_eq_some_iff.1 h1).1
  have hpne : some p ≠ kv.ownBlock := own_ne ho h1 (fun C e => by simp only [Obj.cells.injEq] at e; exact absurd e.2.1 (by decide))
  have hsz : (W.alloc o).heap.size = W.heap.size + 1 := by simp
  have hp1 : w1.heap[p]? = some (.cells #[.map (some bm), kv, i64 h, i64 m] 56 (0, 0)) := (hg.block p (by omega) hpne).trans ((Below.heap_alloc _ _ _ hplt).trans h1)
  have hm1 : MapIs w1 bm M := map_grown hm ho hg
  have hne : bm ≠ p := fun e => by
    subst e
    obtain ⟨es, c, hb, _⟩ := hm
    rw [h1] at hb
    cases hb
  refine ⟨set_block hp1 1 _, hm1.kept (set_other hne 1 _), ?_, ?_⟩
  · rw [kcells_app, List.length_append]
    refine own_kept hown (fun b C hb => ?_)
    rw [set_other (fun e => by
      subst e
      rw [hp1] at hb
      simp only [Option.some.injEq, Obj.cells.injEq] at hb
      exact absurd hb.2.1 (by decide))]
    exact hb
  · refine ⟨(((Below.refl _ _).alloc hbW o).grown hg (by simp; omega) (fun r hr => (ho.lt r hr).1)).setCell hbp _, fun i ob hi hk hne' => ?_⟩
    have hlt := (Array.getElem?_eq_some_iff.1 hi).1
    have hip : i ≠ p := fun e => by
      subst e
      rw [h1] at hi
      cases hi
      simp [keeps] at hk
    rw [set_other hip, hg.block i (by omega) hne', Below.heap_alloc _ _ _ hlt]
    exact hi

/-- What enter leaves: a map, and one key more than it holds. -/
def Entered (w w' : World) (base p : Nat) (g : Option Nat) (M : Ls) (k : K3) (h m : Nat) : Prop :=
  FrK base g w w' ∧ ∃ bm kv, w'.heap[p]? = some (.cells #[.map (some bm), kv, i64 h, i64 m] 56 (0, 0)) ∧ base ≤ bm ∧ MapIs w' bm M ∧ w'.ownsRow base 31 3 kv (keysOf M ++ [k]).length (kcells (keysOf M ++ [k]))

theorem mkmap (w : World) : (Instr.makeMap 54 (some (.int .i64 8))).run Try.prog w = .ok (.map (some w.heap.size)) (w.alloc (.map #[] 0)) := by kernel_rfl

set_option maxRecDepth 100000 in
set_option maxHeartbeats 2000000 in
theorem enter_some {w : World} {base p bm : Nat} {L : Ls} {h m : Nat} {kv : Value} (h1 : w.heap[p]? = some (.cells #[.map (some bm), kv, i64 h, i64 m] 56 (0, 0))) (hm : MapIs w bm L) (hbm : base ≤ bm) (ho : w.ownsRow base 31 3 kv (keysOf L).length (kcells (keysOf L))) (hbp : base ≤ p) (hbW : base ≤ w.heap.size) (hl : L.length < 8) (k : K3) :
    Calls Try.prog 23 #[.pointer (some ⟨p, 0, none⟩), keyV k] w fun e w' => e = .returned (.tuple #[]) ∧ Entered w w' base p kv.ownBlock L k h m := by
  obtain ⟨i31, hi, hz, hs, hby⟩ := info_parts info31x
  have HI : Hid (Try.prog.info? 31 = some i31) := hi
  have qT : ∀ (w : World) (r : Option Nat), (binOp .eql 54 (.map r) (.map none)).run Try.prog w = .ok (.bool r.isNone) w := fun w r => run_eql_map_nil w _ _ _ r Try.underlying54
  have hlt0 := ho.lt
  obtain ⟨ao, cap, rfl, _⟩ := own_slice ho
  have hplt := (Array.getElem?_eq_some_iff.1 h1).1
  have hb0 : Below w.heap.size w (w.alloc (.cells #[i64 k.env, i64 k.proc, i64 k.page] 31)) := (Below.refl _ _).alloc (Nat.le_refl _) _
  have hp0 := (hb0.block p hplt).trans h1
  have hX := heap_last w (.cells #[i64 k.env, i64 k.proc, i64 k.page] 31)
  have hm0 : MapIs (w.alloc (.cells #[i64 k.env, i64 k.proc, i64 k.page] 31)) bm L := hm.kept (hb0.block bm hm.lt)
  have ho0 := ho.alloc (.cells #[i64 k.env, i64 k.proc, i64 k.page] 31)
  have hsz : (w.alloc (.cells #[i64 k.env, i64 k.proc, i64 k.page] 31)).heap.size = w.heap.size + 1 := by simp
  have hF0 : Fr base [56] true w (w.alloc (.cells #[i64 k.env, i64 k.proc, i64 k.page] 31)) := Fr.of_below _ _ hb0 hbW
  have HF0 : Hid (Fr base [56] true w (w.alloc (.cells #[i64 k.env, i64 k.proc, i64 k.page] 31))) := hF0
  have hkl : (keysOf L).length < 8 := by rw [keysOf_len]; exact hl
  have hone : ∀ v ∈ kcells [k], v.oneCell' = true := kcells_one [k]
  have three : ∀ (V : World), V.heap[w.heap.size]? = some (.cells #[i64 k.env, i64 k.proc, i64 k.page] 31 (0, 0)) → V.cell? ⟨w.heap.size, 0, none⟩ = some (i64 k.env) ∧ V.cell? ⟨w.heap.size, 1, none⟩ = some (i64 k.proc) ∧ V.cell? ⟨w.heap.size, 2, none⟩ = some (i64 k.page) := fun V hW => by
    rw [cell_of_row V w.heap.size 0 _ 31 (0, 0) hW, cell_of_row V w.heap.size 1 _ 31 (0, 0) hW, cell_of_row V w.heap.size 2 _ 31 (0, 0) hW]
    exact ⟨rfl, rfl, rfl⟩
  have sall : ∀ (V : World), V.heap[p]? = some (.cells #[.map (some bm), .slice ao (keysOf L).length cap, i64 h, i64 m] 56 (0, 0)) → V.heap[w.heap.size]? = some (.cells #[i64 k.env, i64 k.proc, i64 k.page] 31 (0, 0)) → (V.cell? ⟨p, 1, none⟩ = some (.slice ao (keysOf L).length cap) ∧ V.frozen? ⟨p, 1, none⟩ = false ∧ V.cell? ⟨w.heap.size, 0, none⟩ = some (i64 k.env) ∧ V.cell? ⟨w.heap.size, 1, none⟩ = some (i64 k.proc) ∧ V.cell? ⟨w.heap.size, 2, none⟩ = some (i64 k.page)) := fun V v1 v2 => ⟨(four_cells v1).1.2.1, (four_cells v1).2 1, three V v2⟩
  have HSALL : Hid (∀ (V : World), V.heap[p]? = some (.cells #[.map (some bm), .slice ao (keysOf L).length cap, i64 h, i64 m] 56 (0, 0)) → V.heap[w.heap.size]? = some (.cells #[i64 k.env, i64 k.proc, i64 k.page] 31 (0, 0)) → (V.cell? ⟨p, 1, none⟩ = some (.slice ao (keysOf L).length cap) ∧ V.frozen? ⟨p, 1, none⟩ = false ∧ V.cell? ⟨w.heap.size, 0, none⟩ = some (i64 k.env) ∧ V.cell? ⟨w.heap.size, 1, none⟩ = some (i64 k.proc) ∧ V.cell? ⟨w.heap.size, 2, none⟩ = some (i64 k.page))) := sall
  obtain ⟨⟨c0, c1, _, _⟩, cf⟩ := four_cells hp0
  have HP0 : Hid ((w.alloc (.cells #[i64 k.env, i64 k.proc, i64 k.page] 31)).heap[p]? = some (.cells #[.map (some bm), .slice ao (keysOf L).length cap, i64 h, i64 m] 56 (0, 0))) := hp0
  have HX : Hid ((w.alloc (.cells #[i64 k.env, i64 k.proc, i64 k.page] 31)).heap[w.heap.size]? = some (.cells #[i64 k.env, i64 k.proc, i64 k.page] 31 (0, 0))) := hX
  have HM0 : Hid (MapIs (w.alloc (.cells #[i64 k.env, i64 k.proc, i64 k.page] 31)) bm L) := hm0
  have HO0 : Hid ((w.alloc (.cells #[i64 k.env, i64 k.proc, i64 k.page] 31)).ownsRow base 31 3 (.slice ao (keysOf L).length cap) (keysOf L).length (kcells (keysOf L))) := ho0
  have HL0 : Hid (∀ j, (Value.slice ao (keysOf L).length cap).ownBlock = some j → base ≤ j ∧ j < w.heap.size) := hlt0
  have hKL : ∃ n, (keysOf L).length = n := ⟨_, rfl⟩
  clear hi h1 hm ho hb0 hF0 hp0 hX hm0 ho0 hlt0 sall three cf
  go_enter Try.func23, Try.ntmps23
  go_wp2_with fail
  have HS0 : Hid ((w.alloc (.cells #[i64 k.env, i64 k.proc, i64 k.page] 31)).drew.cell? ⟨p, 1, none⟩ = some (.slice ao (keysOf L).length cap) ∧ (w.alloc (.cells #[i64 k.env, i64 k.proc, i64 k.page] 31)).drew.frozen? ⟨p, 1, none⟩ = false ∧ (w.alloc (.cells #[i64 k.env, i64 k.proc, i64 k.page] 31)).drew.cell? ⟨w.heap.size, 0, none⟩ = some (i64 k.env) ∧ (w.alloc (.cells #[i64 k.env, i64 k.proc, i64 k.page] 31)).drew.cell? ⟨w.heap.size, 1, none⟩ = some (i64 k.proc) ∧ (w.alloc (.cells #[i64 k.env, i64 k.proc, i64 k.page] 31)).drew.cell? ⟨w.heap.size, 2, none⟩ = some (i64 k.page)) := HSALL.out (w.alloc (.cells #[i64 k.env, i64 k.proc, i64 k.page] 31)).drew HP0.out HX.out
  have hplt1 : p < (w.alloc (.cells #[i64 k.env, i64 k.proc, i64 k.page] 31)).heap.size := by rw [hsz]; omega
  have HS1 : Hid (((w.alloc (.cells #[i64 k.env, i64 k.proc, i64 k.page] 31)).alloc (.cells #[i64 k.env, i64 k.proc, i64 k.page] 31)).drew.cell? ⟨p, 1, none⟩ = some (.slice ao (keysOf L).length cap) ∧ ((w.alloc (.cells #[i64 k.env, i64 k.proc, i64 k.page] 31)).alloc (.cells #[i64 k.env, i64 k.proc, i64 k.page] 31)).drew.frozen? ⟨p, 1, none⟩ = false ∧ ((w.alloc (.cells #[i64 k.env, i64 k.proc, i64 k.page] 31)).alloc (.cells #[i64 k.env, i64 k.proc, i64 k.page] 31)).drew.cell? ⟨w.heap.size, 0, none⟩ = some (i64 k.env) ∧ ((w.alloc (.cells #[i64 k.env, i64 k.proc, i64 k.page] 31)).alloc (.cells #[i64 k.env, i64 k.proc, i64 k.page] 31)).drew.cell? ⟨w.heap.size, 1, none⟩ = some (i64 k.proc) ∧ ((w.alloc (.cells #[i64 k.env, i64 k.proc, i64 k.page] 31)).alloc (.cells #[i64 k.env, i64 k.proc, i64 k.page] 31)).drew.cell? ⟨w.heap.size, 2, none⟩ = some (i64 k.page)) := HSALL.out ((w.alloc (.cells #[i64 k.env, i64 k.proc, i64 k.page] 31)).alloc (.cells #[i64 k.env, i64 k.proc, i64 k.page] 31)).drew ((Below.heap_alloc _ _ _ hplt1).trans HP0.out) ((Below.heap_alloc _ _ _ (by rw [hsz]; omega)).trans HX.out)
  have hpne : some p ≠ (Value.slice ao (keysOf L).length cap).ownBlock := own_ne HO0.out HP0.out (fun C e => by simp only [Obj.cells.injEq] at e; exact absurd e.2.1 (by decide))
  have hhne : some w.heap.size ≠ (Value.slice ao (keysOf L).length cap).ownBlock := fun e => by have := (HL0.out _ e.symm).2; omega
  have HPNE : Hid (some p ≠ (Value.slice ao (keysOf L).length cap).ownBlock) := hpne
  have HHNE : Hid (some w.heap.size ≠ (Value.slice ao (keysOf L).length cap).ownBlock) := hhne
  clear hpne hhne
  have hsz2 : ((w.alloc (.cells #[i64 k.env, i64 k.proc, i64 k.page] 31)).alloc (.cells #[i64 k.env, i64 k.proc, i64 k.page] 31)).drew.heap.size = w.heap.size + 1 + 1 := by simp
  have hb2 : base ≤ ((w.alloc (.cells #[i64 k.env, i64 k.proc, i64 k.page] 31)).alloc (.cells #[i64 k.env, i64 k.proc, i64 k.page] 31)).drew.heap.size := by rw [hsz2]; omega
  have hp2 : p < ((w.alloc (.cells #[i64 k.env, i64 k.proc, i64 k.page] 31)).alloc (.cells #[i64 k.env, i64 k.proc, i64 k.page] 31)).drew.heap.size := by rw [hsz2]; omega
  have hh2 : w.heap.size < ((w.alloc (.cells #[i64 k.env, i64 k.proc, i64 k.page] 31)).alloc (.cells #[i64 k.env, i64 k.proc, i64 k.page] 31)).drew.heap.size := by rw [hsz2]; omega
  have hnw : ∀ j u, [i64 k.env, i64 k.proc, i64 k.page][j]? = some u → ((w.alloc (.cells #[i64 k.env, i64 k.proc, i64 k.page] 31)).alloc (.cells #[i64 k.env, i64 k.proc, i64 k.page] 31)).drew.cell? ((⟨w.heap.size + 1, 0, none⟩ : Addr).add j) = some u := fun j u hu => by
    have := new_three (w.alloc (.cells #[i64 k.env, i64 k.proc, i64 k.page] 31)) (i64 k.env) (i64 k.proc) (i64 k.page) 31 j u hu
    rw [hsz] at this
    rw [World.cell?_drew]
    exact this
  have HNW : Hid (∀ j u, [i64 k.env, i64 k.proc, i64 k.page][j]? = some u → ((w.alloc (.cells #[i64 k.env, i64 k.proc, i64 k.page] 31)).alloc (.cells #[i64 k.env, i64 k.proc, i64 k.page] 31)).drew.cell? ((⟨w.heap.size + 1, 0, none⟩ : Addr).add j) = some u) := hnw
  clear hnw
  obtain ⟨s00, s01, s02, s03, s04⟩ := HS0.out
  obtain ⟨s10, s11, s12, s13, s14⟩ := HS1.out
  go_region_law
    ((refine step_append_lies ((w.alloc (.cells #[i64 k.env, i64 k.proc, i64 k.page] 31)).alloc (.cells #[i64 k.env, i64 k.proc, i64 k.page] 31)).drew ?_ (.tmp 31) (.tmp 33) 37 ?_ base 31 i31 (.agg #[.int .i64 0, .int .i64 0, .int .i64 0]) 3 24 under37 HI.out hz hs hby rfl (by omega) (.slice ao (keysOf L).length cap) (keysOf L).length (kcells (keysOf L)) ?_ (show ((w.alloc (.cells #[i64 k.env, i64 k.proc, i64 k.page] 31)).alloc (.cells #[i64 k.env, i64 k.proc, i64 k.page] 31)).drew.ownsRow base 31 3 (.slice ao (keysOf L).length cap) (keysOf L).length (kcells (keysOf L)) from HO0.out.alloc _) ⟨w.heap.size + 1, 0, none⟩ 1 1 [i64 k.env, i64 k.proc, i64 k.page] ?_ rfl HNW.out (kcells_one [k]) (by omega) (by unfold maxLen; omega) (by omega) hb2 _ rfl ?_; rfl; rfl; rfl; rfl; intro g cap1 w1 hown1 hgrow1 hat1 hlt1; have HEE : Hid ((w1.setCell ⟨p, 1, none⟩ (.slice (some ⟨g, 0, none⟩) ((keysOf L).length + 1) cap1)).heap[p]? = some (.cells #[.map (some bm), .slice (some ⟨g, 0, none⟩) ((keysOf L).length + 1) cap1, i64 h, i64 m] 56 (0, 0)) ∧ MapIs (w1.setCell ⟨p, 1, none⟩ (.slice (some ⟨g, 0, none⟩) ((keysOf L).length + 1) cap1)) bm L ∧ (w1.setCell ⟨p, 1, none⟩ (.slice (some ⟨g, 0, none⟩) ((keysOf L).length + 1) cap1)).ownsRow base 31 3 (.slice (some ⟨g, 0, none⟩) ((keysOf L).length + 1) cap1) (keysOf L ++ [k]).length (kcells (keysOf L ++ [k])) ∧ FrK base (Value.slice ao (keysOf L).length cap).ownBlock (w.alloc (.cells #[i64 k.env, i64 k.proc, i64 k.page] 31)) (w1.setCell ⟨p, 1, none⟩ (.slice (some ⟨g, 0, none⟩) ((keysOf L).length + 1) cap1))) := enter_end HP0.out HM0.out HO0.out (grown_drew hgrow1) hown1 hbp (by rw [hsz]; omega); have HS2 : Hid (w1.cell? ⟨p, 1, none⟩ = some (.slice ao (keysOf L).length cap) ∧ w1.frozen? ⟨p, 1, none⟩ = false ∧ w1.cell? ⟨w.heap.size, 0, none⟩ = some (i64 k.env) ∧ w1.cell? ⟨w.heap.size, 1, none⟩ = some (i64 k.proc) ∧ w1.cell? ⟨w.heap.size, 2, none⟩ = some (i64 k.page)) := HSALL.out w1 ((hgrow1.block p hp2 HPNE.out).trans ((Below.heap_alloc _ _ _ hplt1).trans HP0.out)) ((hgrow1.block _ hh2 HHNE.out).trans ((Below.heap_alloc _ _ _ (by rw [hsz]; omega)).trans HX.out)); obtain ⟨s20, s21, s22, s23, s24⟩ := HS2.out; clear hown1 hgrow1 hat1))
  all_goals (
    go_end0
    exact ⟨rfl, HF0.out.thenK HEE.out.2.2.2 (fun j hj => Or.inr hj), bm, _, HEE.out.1, hbm, HEE.out.2.1, HEE.out.2.2.1⟩)

set_option maxRecDepth 100000 in
set_option maxHeartbeats 2000000 in
theorem enter_none {w : World} {base p : Nat} {h m : Nat} {kv : Value} (h1 : w.heap[p]? = some (.cells #[.map none, kv, i64 h, i64 m] 56 (0, 0))) (ho : w.ownsRow base 31 3 kv 0 []) (hbp : base ≤ p) (hbW : base ≤ w.heap.size) (k : K3) :
    Calls Try.prog 23 #[.pointer (some ⟨p, 0, none⟩), keyV k] w fun e w' => e = .returned (.tuple #[]) ∧ Entered w w' base p kv.ownBlock [] k h m := by
  obtain ⟨i31, hi, hz, hs, hby⟩ := info_parts info31x
  have HI : Hid (Try.prog.info? 31 = some i31) := hi
  have qT : ∀ (w : World) (r : Option Nat), (binOp .eql 54 (.map r) (.map none)).run Try.prog w = .ok (.bool r.isNone) w := fun w r => run_eql_map_nil w _ _ _ r Try.underlying54
  have hlt0 := ho.lt
  obtain ⟨ao, cap, rfl, _⟩ := own_slice ho
  have hplt := (Array.getElem?_eq_some_iff.1 h1).1
  obtain ⟨WM, hWM⟩ : ∃ x, x = (w.alloc (.cells #[i64 k.env, i64 k.proc, i64 k.page] 31)).alloc (.map #[] 0) := ⟨_, rfl⟩
  have hbM : Below w.heap.size w WM := by rw [hWM]; exact ((Below.refl _ _).alloc (Nat.le_refl _) _).alloc (by simp) _
  have hpM : WM.heap[p]? = _ := (hbM.block p hplt).trans h1
  have hszB : (w.alloc (.cells #[i64 k.env, i64 k.proc, i64 k.page] 31)).heap.size = w.heap.size + 1 := by simp
  have hXM : WM.heap[w.heap.size]? = some (.cells #[i64 k.env, i64 k.proc, i64 k.page] 31 (0, 0)) := by rw [hWM, Below.heap_alloc _ _ _ (by rw [hszB]; omega)]; exact heap_last w _
  have hmM : MapIs WM (w.heap.size + 1) [] := by rw [hWM, ← hszB]; exact MapIs.made (w.alloc (.cells #[i64 k.env, i64 k.proc, i64 k.page] 31))
  have hmk : (Instr.makeMap 54 (some (.int .i64 8))).run Try.prog (w.alloc (.cells #[i64 k.env, i64 k.proc, i64 k.page] 31)) = .ok (.map (some (w.heap.size + 1))) WM := by rw [hWM, ← hszB]; exact mkmap (w.alloc (.cells #[i64 k.env, i64 k.proc, i64 k.page] 31))
  obtain ⟨⟨c0, c1, _, _⟩, cf⟩ := four_cells hpM
  have f0 := cf 0
  have hb1 : Below w.heap.size w (w.alloc (.cells #[i64 k.env, i64 k.proc, i64 k.page] 31)) := (Below.refl _ _).alloc (Nat.le_refl _) _
  have e0 := (four_cells ((hb1.block p hplt).trans h1)).1.1
  obtain ⟨V, hV⟩ : ∃ x, x = WM.setCell ⟨p, 0, none⟩ (.map (some (w.heap.size + 1))) := ⟨_, rfl⟩
  have HV : Hid (V = WM.setCell ⟨p, 0, none⟩ (.map (some (w.heap.size + 1)))) := hV
  have HP : Hid (V.heap[p]? = some (.cells #[.map (some (w.heap.size + 1)), .slice ao 0 cap, i64 h, i64 m] 56 (0, 0))) := (by rw [hV]; exact set_block hpM 0 _ : V.heap[p]? = some (.cells #[.map (some (w.heap.size + 1)), .slice ao 0 cap, i64 h, i64 m] 56 (0, 0)))
  have HX : Hid (V.heap[w.heap.size]? = some (.cells #[i64 k.env, i64 k.proc, i64 k.page] 31 (0, 0))) := (by rw [hV, set_other (by omega)]; exact hXM : V.heap[w.heap.size]? = some (.cells #[i64 k.env, i64 k.proc, i64 k.page] 31 (0, 0)))
  have HM : Hid (MapIs V (w.heap.size + 1) []) := (by rw [hV]; exact hmM.kept (set_other (by omega) 0 _) : MapIs V (w.heap.size + 1) [])
  have tV : Touch p w V := by rw [hV]; exact Touch.trans ⟨hbM.os, hbM.tape, hbM.output, hbM.size, fun k hk _ => hbM.block k hk⟩ ((Touch.refl p WM).setCell rfl _)
  have HO : Hid (V.ownsRow base 31 3 (.slice ao 0 cap) 0 []) := own_kept ho (fun b C hb => (tV.block b (Array.getElem?_eq_some_iff.1 hb).1 (fun e => by
      subst e
      rw [h1] at hb
      simp only [Option.some.injEq, Obj.cells.injEq] at hb
      exact absurd hb.2.1 (by decide))).trans hb)
  have HFV : Hid (Fr base [56] true w V) := Fr.of_touch tV h1 (by simp [keeps]) hbp
  have hbV : base ≤ V.heap.size := Nat.le_trans hbW tV.size
  have HL : Hid (∀ j, (Value.slice ao 0 cap).ownBlock = some j → j ≠ w.heap.size) := fun j hj => by have := (hlt0 j hj).2; omega
  have HGG : Hid (∀ j, (Value.slice ao 0 cap).ownBlock = some j → w.heap.size ≤ j ∨ (Value.slice ao 0 cap).ownBlock = some j) := fun j hj => Or.inr hj
  have d1 : V.cell? ⟨p, 1, none⟩ = some (.slice ao 0 cap) := (four_cells HP.out).1.2.1
  have hbm : base ≤ w.heap.size + 1 := by omega
  have hkl : (keysOf []).length < 8 := by simp [keysOf]
  have three : ∀ (V : World), V.heap[w.heap.size]? = some (.cells #[i64 k.env, i64 k.proc, i64 k.page] 31 (0, 0)) → V.cell? ⟨w.heap.size, 0, none⟩ = some (i64 k.env) ∧ V.cell? ⟨w.heap.size, 1, none⟩ = some (i64 k.proc) ∧ V.cell? ⟨w.heap.size, 2, none⟩ = some (i64 k.page) := fun V hW => by
    rw [cell_of_row V w.heap.size 0 _ 31 (0, 0) hW, cell_of_row V w.heap.size 1 _ 31 (0, 0) hW, cell_of_row V w.heap.size 2 _ 31 (0, 0) hW]
    exact ⟨rfl, rfl, rfl⟩
  have HSALL : Hid (∀ (V : World), V.heap[p]? = some (.cells #[.map (some (w.heap.size + 1)), (.slice ao 0 cap), i64 h, i64 m] 56 (0, 0)) → V.heap[w.heap.size]? = some (.cells #[i64 k.env, i64 k.proc, i64 k.page] 31 (0, 0)) → (V.cell? ⟨p, 1, none⟩ = some (.slice ao 0 cap) ∧ V.frozen? ⟨p, 1, none⟩ = false ∧ V.cell? ⟨w.heap.size, 0, none⟩ = some (i64 k.env) ∧ V.cell? ⟨w.heap.size, 1, none⟩ = some (i64 k.proc) ∧ V.cell? ⟨w.heap.size, 2, none⟩ = some (i64 k.page))) := fun V v1 v2 => ⟨(four_cells v1).1.2.1, (four_cells v1).2 1, three V v2⟩
  clear three
  clear hi h1 ho hbM hpM hXM hmM hWM hlt0 cf hV tV hb1 hszB
  go_enter Try.func23, Try.ntmps23
  go_wp2_with fail
  rw [← HV.out]
  go_wp2_with fail
  have HS0 : Hid (V.drew.cell? ⟨p, 1, none⟩ = some (.slice ao 0 cap) ∧ V.drew.frozen? ⟨p, 1, none⟩ = false ∧ V.drew.cell? ⟨w.heap.size, 0, none⟩ = some (i64 k.env) ∧ V.drew.cell? ⟨w.heap.size, 1, none⟩ = some (i64 k.proc) ∧ V.drew.cell? ⟨w.heap.size, 2, none⟩ = some (i64 k.page)) := HSALL.out V.drew HP.out HX.out
  have hpV := (Array.getElem?_eq_some_iff.1 HP.out).1
  have hhV := (Array.getElem?_eq_some_iff.1 HX.out).1
  have HS1 : Hid ((V.alloc (.cells #[i64 k.env, i64 k.proc, i64 k.page] 31)).drew.cell? ⟨p, 1, none⟩ = some (.slice ao 0 cap) ∧ (V.alloc (.cells #[i64 k.env, i64 k.proc, i64 k.page] 31)).drew.frozen? ⟨p, 1, none⟩ = false ∧ (V.alloc (.cells #[i64 k.env, i64 k.proc, i64 k.page] 31)).drew.cell? ⟨w.heap.size, 0, none⟩ = some (i64 k.env) ∧ (V.alloc (.cells #[i64 k.env, i64 k.proc, i64 k.page] 31)).drew.cell? ⟨w.heap.size, 1, none⟩ = some (i64 k.proc) ∧ (V.alloc (.cells #[i64 k.env, i64 k.proc, i64 k.page] 31)).drew.cell? ⟨w.heap.size, 2, none⟩ = some (i64 k.page)) := HSALL.out (V.alloc (.cells #[i64 k.env, i64 k.proc, i64 k.page] 31)).drew ((Below.heap_alloc _ _ _ hpV).trans HP.out) ((Below.heap_alloc _ _ _ hhV).trans HX.out)
  have HPNE : Hid (some p ≠ (Value.ownBlock (.slice ao 0 cap))) := own_ne HO.out HP.out (fun C e => by simp only [Obj.cells.injEq] at e; exact absurd e.2.1 (by decide))
  have HHNE : Hid (some w.heap.size ≠ (Value.ownBlock (.slice ao 0 cap))) := fun e => HL.out _ e.symm rfl
  have hsz2 : (V.alloc (.cells #[i64 k.env, i64 k.proc, i64 k.page] 31)).drew.heap.size = V.heap.size + 1 := by simp
  have hb2 : base ≤ (V.alloc (.cells #[i64 k.env, i64 k.proc, i64 k.page] 31)).drew.heap.size := by rw [hsz2]; omega
  have hp2 : p < (V.alloc (.cells #[i64 k.env, i64 k.proc, i64 k.page] 31)).drew.heap.size := by rw [hsz2]; omega
  have hh2 : w.heap.size < (V.alloc (.cells #[i64 k.env, i64 k.proc, i64 k.page] 31)).drew.heap.size := by rw [hsz2]; omega
  have HNW : Hid (∀ j u, [i64 k.env, i64 k.proc, i64 k.page][j]? = some u → (V.alloc (.cells #[i64 k.env, i64 k.proc, i64 k.page] 31)).drew.cell? ((⟨V.heap.size, 0, none⟩ : Addr).add j) = some u) := fun j u hu => by
    rw [World.cell?_drew]
    exact new_three V (i64 k.env) (i64 k.proc) (i64 k.page) 31 j u hu
  obtain ⟨s00, s01, s02, s03, s04⟩ := HS0.out
  obtain ⟨s10, s11, s12, s13, s14⟩ := HS1.out
  clear hpV hhV
  go_region_law
    ((refine step_append_lies (V.alloc (.cells #[i64 k.env, i64 k.proc, i64 k.page] 31)).drew ?_ (.tmp 31) (.tmp 33) 37 ?_ base 31 i31 (.agg #[.int .i64 0, .int .i64 0, .int .i64 0]) 3 24 under37 HI.out hz hs hby rfl (by omega) (.slice ao 0 cap) 0 [] ?_ (show (V.alloc (.cells #[i64 k.env, i64 k.proc, i64 k.page] 31)).drew.ownsRow base 31 3 (.slice ao 0 cap) 0 [] from HO.out.alloc _) ⟨V.heap.size, 0, none⟩ 1 1 [i64 k.env, i64 k.proc, i64 k.page] ?_ rfl HNW.out (kcells_one [k]) (by omega) (by unfold maxLen; omega) (by omega) hb2 _ rfl ?_; rfl; rfl; rfl; rfl; intro g cap1 w1 hown1 hgrow1 hat1 hlt1; have HEE : Hid ((w1.setCell ⟨p, 1, none⟩ (.slice (some ⟨g, 0, none⟩) (0 + 1) cap1)).heap[p]? = some (.cells #[.map (some (w.heap.size + 1)), .slice (some ⟨g, 0, none⟩) (0 + 1) cap1, i64 h, i64 m] 56 (0, 0)) ∧ MapIs (w1.setCell ⟨p, 1, none⟩ (.slice (some ⟨g, 0, none⟩) (0 + 1) cap1)) (w.heap.size + 1) [] ∧ (w1.setCell ⟨p, 1, none⟩ (.slice (some ⟨g, 0, none⟩) (0 + 1) cap1)).ownsRow base 31 3 (.slice (some ⟨g, 0, none⟩) (0 + 1) cap1) (keysOf [] ++ [k]).length (kcells (keysOf [] ++ [k])) ∧ FrK base (Value.ownBlock (.slice ao 0 cap)) V (w1.setCell ⟨p, 1, none⟩ (.slice (some ⟨g, 0, none⟩) (0 + 1) cap1))) := enter_end (ks := []) HP.out HM.out HO.out (grown_drew hgrow1) hown1 hbp hbV; have HS2 : Hid (w1.cell? ⟨p, 1, none⟩ = some (.slice ao 0 cap) ∧ w1.frozen? ⟨p, 1, none⟩ = false ∧ w1.cell? ⟨w.heap.size, 0, none⟩ = some (i64 k.env) ∧ w1.cell? ⟨w.heap.size, 1, none⟩ = some (i64 k.proc) ∧ w1.cell? ⟨w.heap.size, 2, none⟩ = some (i64 k.page)) := HSALL.out w1 ((hgrow1.block p hp2 HPNE.out).trans ((Below.heap_alloc _ _ _ (Array.getElem?_eq_some_iff.1 HP.out).1).trans HP.out)) ((hgrow1.block _ hh2 HHNE.out).trans ((Below.heap_alloc _ _ _ (Array.getElem?_eq_some_iff.1 HX.out).1).trans HX.out)); obtain ⟨s20, s21, s22, s23, s24⟩ := HS2.out; clear hown1 hgrow1 hat1))
  all_goals (
    go_end0
    exact ⟨rfl, HFV.out.thenK HEE.out.2.2.2 HGG.out, _, _, HEE.out.1, hbm, HEE.out.2.1, HEE.out.2.2.1⟩)

set_option maxRecDepth 100000 in
set_option maxHeartbeats 2000000 in
theorem enter_full {w : World} {base p bm : Nat} {L : Ls} {h m : Nat} {kv : Value} (b : Buf w base p L (keysOf L) h m) (h1 : w.heap[p]? = some (.cells #[.map (some bm), kv, i64 h, i64 m] 56 (0, 0))) (ho : w.ownsRow base 31 3 kv (keysOf L).length (kcells (keysOf L))) (hbW : base ≤ w.heap.size) (hl : L.length = 8) (k : K3) :
    Calls Try.prog 23 #[.pointer (some ⟨p, 0, none⟩), keyV k] w fun e w' => e = .returned (.tuple #[]) ∧ Entered w w' base p kv.ownBlock L.tail k h m := by
  obtain ⟨i31, hi, hz, hs, hby⟩ := info_parts info31x
  have HI : Hid (Try.prog.info? 31 = some i31) := hi
  have qT : ∀ (w : World) (r : Option Nat), (binOp .eql 54 (.map r) (.map none)).run Try.prog w = .ok (.bool r.isNone) w := fun w r => run_eql_map_nil w _ _ _ r Try.underlying54
  have hbp := b.bp
  have hplt := b.plt
  obtain ⟨⟨k0, e0⟩, M, rfl⟩ : ∃ q M, L = q :: M := by
    cases L with
    | nil => simp at hl
    | cons q M => exact ⟨q, M, rfl⟩
  have hdh := drop_head b.nd
  rw [keysOf_len, hl] at ho
  obtain ⟨ao0, cap0, rfl, _⟩ := own_slice ho
  obtain ⟨bk, rfl, _, x0, x1, x2⟩ := ((own_keys ho).1).at (i := 0) (by simp [keysOf])
  have hb1 : Below w.heap.size w (w.alloc (.cells #[i64 k.env, i64 k.proc, i64 k.page] 31)) := (Below.refl _ _).alloc (Nat.le_refl _) _
  have hpB := (hb1.block p hplt).trans h1
  have hbk : bk < w.heap.size := (ho.lt bk rfl).2
  have y0 := (hb1.cell (p := ⟨bk, 0 * 3, none⟩) hbk).trans x0
  have y1 := (hb1.cell (p := ⟨bk, 0 * 3 + 1, none⟩) hbk).trans x1
  have y2 := (hb1.cell (p := ⟨bk, 0 * 3 + 2, none⟩) hbk).trans x2
  simp only [Nat.zero_mul, Nat.zero_add, keysOf, List.map_cons, List.getElem_cons_zero] at y0 y1 y2
  obtain ⟨⟨c0, c1, _, _⟩, cf⟩ := four_cells hpB
  have hszB : (w.alloc (.cells #[i64 k.env, i64 k.proc, i64 k.page] 31)).heap.size = w.heap.size + 1 := by simp
  have hXB : (w.alloc (.cells #[i64 k.env, i64 k.proc, i64 k.page] 31)).heap[w.heap.size]? = some (.cells #[i64 k.env, i64 k.proc, i64 k.page] 31 (0, 0)) := heap_last w _
  have HXB : Hid ((w.alloc (.cells #[i64 k.env, i64 k.proc, i64 k.page] 31)).heap[w.heap.size]? = some (.cells #[i64 k.env, i64 k.proc, i64 k.page] 31 (0, 0))) := hXB
  have HDR : Hid (Calls Try.prog 16 #[.pointer (some ⟨p, 0, none⟩), keyV k0] (w.alloc (.cells #[i64 k.env, i64 k.proc, i64 k.page] 31)) fun e w' => e = .returned (.bool (decide (0 < (((k0, e0) :: M).length : Int) - (dropF (isKey k0) ((k0, e0) :: M)).length))) ∧ Fr base [56] true (w.alloc (.cells #[i64 k.env, i64 k.proc, i64 k.page] 31)) w' ∧ BufN (w.alloc (.cells #[i64 k.env, i64 k.proc, i64 k.page] 31)).heap.size w' base p (dropF (isKey k0) ((k0, e0) :: M)) h m) := drop_ok (b.alloc _) (by omega) (by rw [hszB]; omega) k0
  have hM7 : M.length = 7 := by simpa using hl
  have HDH : Hid (dropF (isKey k0) ((k0, e0) :: M) = M) := hdh
  have HF1 : Hid (Fr base [56] true w (w.alloc (.cells #[i64 k.env, i64 k.proc, i64 k.page] 31))) := Fr.of_below _ _ hb1 hbW
  clear hi h1 ho hpB cf hdh b x0 x1 x2 hb1 hXB
  go_enter Try.func23, Try.ntmps23
  go_wp2_with fail
  refine HDR.out.mono ?_
  rintro e V ⟨rfl, hfV, hbn⟩
  rw [HDH.out] at hbn
  obtain ⟨⟨⟨mv, kv1, q1, q2, q3⟩, qnd, _⟩, mv2, kv2, q4, q5⟩ := hbn
  rw [q1] at q4
  simp only [Option.some.injEq, Obj.cells.injEq, Array.mk.injEq, List.cons.injEq, and_true] at q4
  obtain ⟨rfl, rfl⟩ := q4
  obtain ⟨bm1, rfl, hbm, hmi⟩ : ∃ b, mv = .map (some b) ∧ base ≤ b ∧ MapIs V b M := by
    rcases q2 with ⟨_, h0⟩ | h0
    · rw [h0] at hM7; simp at hM7
    · exact h0
  have hlt0 := q5.lt
  obtain ⟨ao, cap, rfl, _⟩ := own_slice q3
  have HP : Hid (V.heap[p]? = some (.cells #[.map (some bm1), .slice ao (keysOf M).length cap, i64 h, i64 m] 56 (0, 0))) := q1
  have HX : Hid (V.heap[w.heap.size]? = some (.cells #[i64 k.env, i64 k.proc, i64 k.page] 31 (0, 0))) := hfV.kept _ _ HXB.out (by simp [keeps])
  have HM : Hid (MapIs V bm1 M) := hmi
  have HO : Hid (V.ownsRow base 31 3 (.slice ao (keysOf M).length cap) (keysOf M).length (kcells (keysOf M))) := q3
  have HFV : Hid (Fr base [56] true w V) := HF1.out.trans hfV
  have hbV : base ≤ V.heap.size := Nat.le_trans hbW HFV.out.size
  have HL : Hid (∀ j, (Value.slice ao (keysOf M).length cap).ownBlock = some j → j ≠ w.heap.size) := fun j hj => by have := (hlt0 j hj).1; rw [hszB] at this; omega
  have HGG : Hid (∀ j, (Value.slice ao (keysOf M).length cap).ownBlock = some j → w.heap.size ≤ j ∨ (Value.slice (some ⟨bk, 0, none⟩) 8 cap0).ownBlock = some j) := fun j hj => Or.inl (by have := (hlt0 j hj).1; rw [hszB] at this; omega)
  have hkl : (keysOf M).length < 8 := by rw [keysOf_len]; omega
  have three : ∀ (V : World), V.heap[w.heap.size]? = some (.cells #[i64 k.env, i64 k.proc, i64 k.page] 31 (0, 0)) → V.cell? ⟨w.heap.size, 0, none⟩ = some (i64 k.env) ∧ V.cell? ⟨w.heap.size, 1, none⟩ = some (i64 k.proc) ∧ V.cell? ⟨w.heap.size, 2, none⟩ = some (i64 k.page) := fun V hW => by
    rw [cell_of_row V w.heap.size 0 _ 31 (0, 0) hW, cell_of_row V w.heap.size 1 _ 31 (0, 0) hW, cell_of_row V w.heap.size 2 _ 31 (0, 0) hW]
    exact ⟨rfl, rfl, rfl⟩
  have HSALL : Hid (∀ (V : World), V.heap[p]? = some (.cells #[.map (some bm1), (.slice ao (keysOf M).length cap), i64 h, i64 m] 56 (0, 0)) → V.heap[w.heap.size]? = some (.cells #[i64 k.env, i64 k.proc, i64 k.page] 31 (0, 0)) → (V.cell? ⟨p, 1, none⟩ = some (.slice ao (keysOf M).length cap) ∧ V.frozen? ⟨p, 1, none⟩ = false ∧ V.cell? ⟨w.heap.size, 0, none⟩ = some (i64 k.env) ∧ V.cell? ⟨w.heap.size, 1, none⟩ = some (i64 k.proc) ∧ V.cell? ⟨w.heap.size, 2, none⟩ = some (i64 k.page))) := fun V v1 v2 => ⟨(four_cells v1).1.2.1, (four_cells v1).2 1, three V v2⟩
  clear three
  clear q1 q2 q3 q5 hmi hfV hlt0 qnd
  go_wp2_with fail
  have HS0 : Hid (V.drew.cell? ⟨p, 1, none⟩ = some (.slice ao (keysOf M).length cap) ∧ V.drew.frozen? ⟨p, 1, none⟩ = false ∧ V.drew.cell? ⟨w.heap.size, 0, none⟩ = some (i64 k.env) ∧ V.drew.cell? ⟨w.heap.size, 1, none⟩ = some (i64 k.proc) ∧ V.drew.cell? ⟨w.heap.size, 2, none⟩ = some (i64 k.page)) := HSALL.out V.drew HP.out HX.out
  have hpV := (Array.getElem?_eq_some_iff.1 HP.out).1
  have hhV := (Array.getElem?_eq_some_iff.1 HX.out).1
  have HS1 : Hid ((V.alloc (.cells #[i64 k.env, i64 k.proc, i64 k.page] 31)).drew.cell? ⟨p, 1, none⟩ = some (.slice ao (keysOf M).length cap) ∧ (V.alloc (.cells #[i64 k.env, i64 k.proc, i64 k.page] 31)).drew.frozen? ⟨p, 1, none⟩ = false ∧ (V.alloc (.cells #[i64 k.env, i64 k.proc, i64 k.page] 31)).drew.cell? ⟨w.heap.size, 0, none⟩ = some (i64 k.env) ∧ (V.alloc (.cells #[i64 k.env, i64 k.proc, i64 k.page] 31)).drew.cell? ⟨w.heap.size, 1, none⟩ = some (i64 k.proc) ∧ (V.alloc (.cells #[i64 k.env, i64 k.proc, i64 k.page] 31)).drew.cell? ⟨w.heap.size, 2, none⟩ = some (i64 k.page)) := HSALL.out (V.alloc (.cells #[i64 k.env, i64 k.proc, i64 k.page] 31)).drew ((Below.heap_alloc _ _ _ hpV).trans HP.out) ((Below.heap_alloc _ _ _ hhV).trans HX.out)
  have HPNE : Hid (some p ≠ (Value.ownBlock (.slice ao (keysOf M).length cap))) := own_ne HO.out HP.out (fun C e => by simp only [Obj.cells.injEq] at e; exact absurd e.2.1 (by decide))
  have HHNE : Hid (some w.heap.size ≠ (Value.ownBlock (.slice ao (keysOf M).length cap))) := fun e => HL.out _ e.symm rfl
  have hsz2 : (V.alloc (.cells #[i64 k.env, i64 k.proc, i64 k.page] 31)).drew.heap.size = V.heap.size + 1 := by simp
  have hb2 : base ≤ (V.alloc (.cells #[i64 k.env, i64 k.proc, i64 k.page] 31)).drew.heap.size := by rw [hsz2]; omega
  have hp2 : p < (V.alloc (.cells #[i64 k.env, i64 k.proc, i64 k.page] 31)).drew.heap.size := by rw [hsz2]; omega
  have hh2 : w.heap.size < (V.alloc (.cells #[i64 k.env, i64 k.proc, i64 k.page] 31)).drew.heap.size := by rw [hsz2]; omega
  have HNW : Hid (∀ j u, [i64 k.env, i64 k.proc, i64 k.page][j]? = some u → (V.alloc (.cells #[i64 k.env, i64 k.proc, i64 k.page] 31)).drew.cell? ((⟨V.heap.size, 0, none⟩ : Addr).add j) = some u) := fun j u hu => by
    rw [World.cell?_drew]
    exact new_three V (i64 k.env) (i64 k.proc) (i64 k.page) 31 j u hu
  obtain ⟨s00, s01, s02, s03, s04⟩ := HS0.out
  obtain ⟨s10, s11, s12, s13, s14⟩ := HS1.out
  clear hpV hhV
  go_region_law
    ((refine step_append_lies (V.alloc (.cells #[i64 k.env, i64 k.proc, i64 k.page] 31)).drew ?_ (.tmp 31) (.tmp 33) 37 ?_ base 31 i31 (.agg #[.int .i64 0, .int .i64 0, .int .i64 0]) 3 24 under37 HI.out hz hs hby rfl (by omega) (.slice ao (keysOf M).length cap) (keysOf M).length (kcells (keysOf M)) ?_ (show (V.alloc (.cells #[i64 k.env, i64 k.proc, i64 k.page] 31)).drew.ownsRow base 31 3 (.slice ao (keysOf M).length cap) (keysOf M).length (kcells (keysOf M)) from HO.out.alloc _) ⟨V.heap.size, 0, none⟩ 1 1 [i64 k.env, i64 k.proc, i64 k.page] ?_ rfl HNW.out (kcells_one [k]) (by omega) (by unfold maxLen; omega) (by omega) hb2 _ rfl ?_; rfl; rfl; rfl; rfl; intro g cap1 w1 hown1 hgrow1 hat1 hlt1; have HEE : Hid ((w1.setCell ⟨p, 1, none⟩ (.slice (some ⟨g, 0, none⟩) ((keysOf M).length + 1) cap1)).heap[p]? = some (.cells #[.map (some bm1), .slice (some ⟨g, 0, none⟩) ((keysOf M).length + 1) cap1, i64 h, i64 m] 56 (0, 0)) ∧ MapIs (w1.setCell ⟨p, 1, none⟩ (.slice (some ⟨g, 0, none⟩) ((keysOf M).length + 1) cap1)) bm1 M ∧ (w1.setCell ⟨p, 1, none⟩ (.slice (some ⟨g, 0, none⟩) ((keysOf M).length + 1) cap1)).ownsRow base 31 3 (.slice (some ⟨g, 0, none⟩) ((keysOf M).length + 1) cap1) (keysOf M ++ [k]).length (kcells (keysOf M ++ [k])) ∧ FrK base (Value.ownBlock (.slice ao (keysOf M).length cap)) V (w1.setCell ⟨p, 1, none⟩ (.slice (some ⟨g, 0, none⟩) ((keysOf M).length + 1) cap1))) := enter_end HP.out HM.out HO.out (grown_drew hgrow1) hown1 hbp hbV; have HS2 : Hid (w1.cell? ⟨p, 1, none⟩ = some (.slice ao (keysOf M).length cap) ∧ w1.frozen? ⟨p, 1, none⟩ = false ∧ w1.cell? ⟨w.heap.size, 0, none⟩ = some (i64 k.env) ∧ w1.cell? ⟨w.heap.size, 1, none⟩ = some (i64 k.proc) ∧ w1.cell? ⟨w.heap.size, 2, none⟩ = some (i64 k.page)) := HSALL.out w1 ((hgrow1.block p hp2 HPNE.out).trans ((Below.heap_alloc _ _ _ (Array.getElem?_eq_some_iff.1 HP.out).1).trans HP.out)) ((hgrow1.block _ hh2 HHNE.out).trans ((Below.heap_alloc _ _ _ (Array.getElem?_eq_some_iff.1 HX.out).1).trans HX.out)); obtain ⟨s20, s21, s22, s23, s24⟩ := HS2.out; clear hown1 hgrow1 hat1))
  all_goals (
    go_end0
    exact ⟨rfl, HFV.out.thenK HEE.out.2.2.2 HGG.out, bm1, _, HEE.out.1, hbm, HEE.out.2.1, HEE.out.2.2.1⟩)

theorem enter_any {w : World} {base p : Nat} {L : Ls} {h m : Nat} {mv kv : Value} (h1 : w.heap[p]? = some (.cells #[mv, kv, i64 h, i64 m] 56 (0, 0))) (hmv : MapV w base mv L) (ho : w.ownsRow base 31 3 kv (keysOf L).length (kcells (keysOf L))) (nd : ND L) (hbp : base ≤ p) (hbW : base ≤ w.heap.size) (hl : L.length ≤ 8) (k : K3) :
    Calls Try.prog 23 #[.pointer (some ⟨p, 0, none⟩), keyV k] w fun e w' => e = .returned (.tuple #[]) ∧ Entered w w' base p kv.ownBlock (roomL L) k h m := by
  unfold roomL
  have hmv' := hmv
  rcases hmv with ⟨rfl, rfl⟩ | ⟨bm, rfl, hbm, hm⟩
  · exact enter_none h1 ho hbp hbW k
  · by_cases h8 : L.length = 8
    · rw [if_pos h8]
      exact enter_full ⟨⟨_, _, h1, hmv', ho⟩, nd, hbp⟩ h1 ho hbW h8 k
    · rw [if_neg h8]
      exact enter_some h1 hm hbm ho hbp hbW (by omega) k

/-! ### Put, as lists -/
def setL (L : Ls) (k : K3) (e : En) : Ls := L.map (fun q => if q.1 = k then (k, e) else q)
def putL (L : Ls) (k : K3) (e : En) : Ls := if (look L k).isSome = true then setL L k e else roomL L ++ [(k, e)]
theorem setL_keys (L : Ls) (k : K3) (e : En) : keysOf (setL L k e) = keysOf L := by
  unfold keysOf setL
  rw [List.map_map]
  refine List.map_congr_left (fun q _ => ?_)
  simp only [Function.comp]
  split
  · rename_i hq; exact hq.symm
  · rfl
theorem roomL_sub (L : Ls) : (roomL L).Sublist L := by
  unfold roomL
  split
  · exact List.tail_sublist L
  · exact List.Sublist.refl L
theorem roomL_len (L : Ls) (hl : L.length ≤ 8) : (roomL L).length ≤ 7 := by
  unfold roomL
  split
  · rw [List.length_tail]; omega
  · omega
theorem putL_len (L : Ls) (k : K3) (e : En) (hl : L.length ≤ 8) : (putL L k e).length ≤ 8 := by
  unfold putL
  split
  · simpa [setL] using hl
  · have := roomL_len L hl
    rw [List.length_append]
    simp
    omega
theorem putL_nd (L : Ls) (k : K3) (e : En) (nd : ND L) : ND (putL L k e) := by
  unfold putL
  split
  · show (keysOf (setL L k e)).Nodup
    rw [setL_keys]; exact nd
  · rename_i hn
    have hn' : look L k = none := by simpa using hn
    unfold ND
    rw [List.map_append, List.nodup_append]
    refine ⟨nd_sub nd (roomL_sub L), by simp, fun a ha b hb => ?_⟩
    simp at hb
    subst hb
    obtain ⟨q, hq, rfl⟩ := List.mem_map.1 ha
    exact look_eq_none hn' q ((roomL_sub L).subset hq)
theorem set_mem (L : Ls) (k : K3) (e : En) (ht : (look L k).isSome = true) : ∀ q, q ∈ setL L k e ↔ (q ∈ L ∧ q.1 ≠ k) ∨ q = (k, e) := by
  intro q
  unfold setL
  rw [List.mem_map]
  constructor
  · rintro ⟨r, hr, he⟩
    split at he
    · exact Or.inr he.symm
    · rename_i hne; subst he; exact Or.inl ⟨hr, hne⟩
  · rintro (⟨hq, hne⟩ | rfl)
    · exact ⟨q, hq, by rw [if_neg hne]⟩
    · obtain ⟨e0, he0⟩ := Option.isSome_iff_exists.1 ht
      exact ⟨(k, e0), mem_of_look he0, by simp⟩
theorem add_mem (L M : Ls) (k : K3) (e : En) (hs : M.Sublist L) (hn : look L k = none) : ∀ q, q ∈ M ++ [(k, e)] ↔ (q ∈ M ∧ q.1 ≠ k) ∨ q = (k, e) := by
  intro q
  rw [List.mem_append, List.mem_singleton]
  constructor
  · rintro (hq | rfl)
    · exact Or.inl ⟨hq, look_eq_none hn q (hs.subset hq)⟩
    · exact Or.inr rfl
  · rintro (⟨hq, _⟩ | rfl)
    · exact Or.inl hq
    · exact Or.inr rfl

/-- What the last store of Put leaves. -/
theorem put_after {w W w' : World} {base p bm : Nat} {L' : Ls} {ks : List K3} {h m : Nat} {kv : Value} (h1 : W.heap[p]? = some (.cells #[.map (some bm), kv, i64 h, i64 m] 56 (0, 0))) (ho : W.ownsRow base 31 3 kv ks.length (kcells ks)) (hbm : base ≤ bm) (hbp : base ≤ p) (nd : ND L') (hF : Fr base [31, 56] true w W) {es : Array MapEntry} {c : Nat} (hmb : W.heap[bm]? = some (.map es c)) (hm : MapIs w' bm L') (t : Touch bm W w') :
    Fr base [31, 56] true w w' ∧ Buf w' base p L' ks h m := by
  have hpb : p ≠ bm := fun e => by subst e; rw [h1] at hmb; cases hmb
  refine ⟨hF.trans (Fr.of_touch t hmb (by simp [keeps]) hbm), ⟨_, kv, (t.block p (Array.getElem?_eq_some_iff.1 h1).1 hpb).trans h1, Or.inr ⟨bm, rfl, hbm, hm⟩, ?_⟩, nd, hbp⟩
  exact own_kept ho (fun b C hb => (t.block b (Array.getElem?_eq_some_iff.1 hb).1 (fun e => by subst e; rw [hmb] at hb; cases hb)).trans hb)

set_option maxRecDepth 100000 in
set_option maxHeartbeats 2000000 in
theorem put_ok {w : World} {base p : Nat} {L : Ls} {h m : Nat} (b : Buf w base p L (keysOf L) h m) (hl : L.length ≤ 8) (hbW : base ≤ w.heap.size) (k : K3) (e : En) :
    Calls Try.prog 15 #[.pointer (some ⟨p, 0, none⟩), keyV k, entV e] w fun e' w' => e' = .returned (.tuple #[]) ∧ Fr base [31, 56] true w w' ∧ Buf w' base p (putL L k e) (keysOf (putL L k e)) h m := by
  obtain ⟨mv, kv, h1, hmv, ho⟩ := b.ex
  have nd := b.nd
  have hbp := b.bp
  have hplt := b.plt
  have hb0 : Below w.heap.size w ((w.alloc (.cells #[i64 k.env, i64 k.proc, i64 k.page] 31)).alloc (.cells #[i64 e.frame, .bool e.wr] 33)) := ((Below.refl _ _).alloc (Nat.le_refl _) _).alloc (by simp) _
  have hlk : ∀ W, Below w.heap.size w W → (Instr.lookup 54 mv (keyV k) true).run Try.prog W = .ok (.tuple #[entV ((look L k).getD zeroE), .bool (look L k).isSome]) W := fun W hb => (hmv.kept (fun i es clock hi => (hb.block i (Array.getElem?_eq_some_iff.1 hi).1).trans hi)).lkup nd k true
  have hb1 : Below w.heap.size w (((w.alloc (.cells #[i64 k.env, i64 k.proc, i64 k.page] 31)).alloc (.cells #[i64 e.frame, .bool e.wr] 33)).alloc (.cells #[i64 0, .bool false] 33)) := hb0.alloc (by simp; omega) _
  have hA := hlk _ hb0.drew
  have hB := hlk _ hb1.drew
  have c0 := (four_cells h1).1.1
  have cA := (hb0.drew.cell (p := ⟨p, 0, none⟩) hplt).trans c0
  have cB := (hb1.drew.cell (p := ⟨p, 0, none⟩) hplt).trans c0
  have HP1 : Hid (w.heap[p]? = some (.cells #[mv, kv, i64 h, i64 m] 56 (0, 0))) := h1
  have HMV : Hid (MapV w base mv L) := hmv
  have HOW : Hid (w.ownsRow base 31 3 kv (keysOf L).length (kcells (keysOf L))) := ho
  have HND : Hid (ND L) := nd
  have HB0 : Hid (Below w.heap.size w ((w.alloc (.cells #[i64 k.env, i64 k.proc, i64 k.page] 31)).alloc (.cells #[i64 e.frame, .bool e.wr] 33))) := hb0
  clear hlk b h1 hmv ho
  obtain ⟨E, hE⟩ : ∃ E, E = (look L k).getD zeroE := ⟨_, rfl⟩
  rw [← hE] at hA hB
  clear hE
  cases hT : (look L k).isSome
  · have hnone : look L k = none := by simpa using hT
    rw [hT] at hA hB
    have ePut : putL L k e = roomL L ++ [(k, e)] := by unfold putL; rw [hT]; rfl
    have HPN : Hid (putL L k e = roomL L ++ [(k, e)]) := ePut
    have HNN : Hid (look L k = none) := hnone
    clear hT hnone ePut
    go_enter Try.func15, Try.ntmps15
    go_wp2_with fail
    go_region
    all_goals (
      obtain ⟨W, hW⟩ : ∃ W, W = (((w.alloc (.cells #[i64 k.env, i64 k.proc, i64 k.page] 31)).alloc (.cells #[i64 e.frame, .bool e.wr] 33)).alloc (.cells #[i64 E.frame, .bool E.wr] 33)).drew := ⟨_, rfl⟩
      have hbW0 : Below w.heap.size w W := by rw [hW]; exact (HB0.out.alloc (by simp; omega) _).drew
      have hpW := (hbW0.block p hplt).trans HP1.out
      have hmvW := HMV.out.kept (w' := W) (fun i es clock hi => (hbW0.block i (Array.getElem?_eq_some_iff.1 hi).1).trans hi)
      have hoW := own_kept (w' := W) HOW.out (fun i C hi => (hbW0.block i (Array.getElem?_eq_some_iff.1 hi).1).trans hi)
      have hszP : ((w.alloc (.cells #[i64 k.env, i64 k.proc, i64 k.page] 31)).alloc (.cells #[i64 e.frame, .bool e.wr] 33)).heap.size = w.heap.size + 1 + 1 := by simp
      have hxW : W.heap[w.heap.size]? = some (.cells #[i64 k.env, i64 k.proc, i64 k.page] 31 (0, 0)) := by
        rw [hW]
        show ((((w.alloc (.cells #[i64 k.env, i64 k.proc, i64 k.page] 31)).alloc (.cells #[i64 e.frame, .bool e.wr] 33)).alloc _).heap)[_]? = _
        rw [Below.heap_alloc _ _ _ (by rw [hszP]; omega), Below.heap_alloc _ _ _ (by simp)]
        exact heap_last w _
      have hyW : W.heap[w.heap.size + 1]? = some (.cells #[i64 e.frame, .bool e.wr] 33 (0, 0)) := by
        rw [hW]
        show ((((w.alloc (.cells #[i64 k.env, i64 k.proc, i64 k.page] 31)).alloc (.cells #[i64 e.frame, .bool e.wr] 33)).alloc _).heap)[_]? = _
        rw [Below.heap_alloc _ _ _ (by rw [hszP]; omega)]
        have s1 : (w.alloc (.cells #[i64 k.env, i64 k.proc, i64 k.page] 31)).heap.size = w.heap.size + 1 := by simp
        rw [← s1]; exact heap_last _ _
      have hne1 : some w.heap.size ≠ kv.ownBlock := fun e' => by have := (HOW.out.lt _ e'.symm).2; omega
      have hne2 : some (w.heap.size + 1) ≠ kv.ownBlock := fun e' => by have := (HOW.out.lt _ e'.symm).2; omega
      have three : ∀ (V : World) (B : Nat) (a b c : Value) (t : TypeId), V.heap[B]? = some (.cells #[a, b, c] t (0, 0)) → V.cell? ⟨B, 0, none⟩ = some a ∧ V.cell? ⟨B, 1, none⟩ = some b ∧ V.cell? ⟨B, 2, none⟩ = some c := fun V B a b c t hV => by
        rw [cell_of_row V B 0 _ t (0, 0) hV, cell_of_row V B 1 _ t (0, 0) hV, cell_of_row V B 2 _ t (0, 0) hV]
        exact ⟨rfl, rfl, rfl⟩
      have two : ∀ (V : World) (B : Nat) (a b : Value) (t : TypeId), V.heap[B]? = some (.cells #[a, b] t (0, 0)) → V.cell? ⟨B, 0, none⟩ = some a ∧ V.cell? ⟨B, 1, none⟩ = some b := fun V B a b t hV => by
        rw [cell_of_row V B 0 _ t (0, 0) hV, cell_of_row V B 1 _ t (0, 0) hV]
        exact ⟨rfl, rfl⟩
      obtain ⟨bx0, bx1, bx2⟩ := three _ _ _ _ _ _ hxW
      rw [← hW]
      clear hW hA hB cA cB hszP hb0 hb1
      go_wp2_with fail
      refine (enter_any hpW hmvW hoW HND.out hbp (Nat.le_trans hbW hbW0.size) hl k).mono ?_
      rintro e' w4 ⟨rfl, hK, bm, kv4, p4, hbm4, m4, o4⟩
      have hx4 := hK.kept _ _ hxW (by simp [keeps]) (fun e' => hne1 e')
      have hy4 := hK.kept _ _ hyW (by simp [keeps]) (fun e' => hne2 e')
      have hF4 : Fr base [31, 56] true w w4 := ⟨hbW0.mono hbW |>.trans hK.below, fun i o hi ho => by
        have hne : some i ≠ kv.ownBlock := fun e' => by
          rcases HOW.out.2 with ⟨hv, _⟩ | ⟨g, cp, cur, hv, _, hg', _⟩
          · rw [hv] at e'; cases e'
          · rw [hv] at e'
            have : i = g := by simpa [Value.ownBlock] using e'
            subst this
            rw [hi] at hg'
            cases hg'
            simp [keeps] at ho
        exact hK.kept i o ((hbW0.block i (Array.getElem?_eq_some_iff.1 hi).1).trans hi) (by cases o <;> simp_all [keeps]) hne⟩
      obtain ⟨es, c, hmb, _⟩ := id m4
      obtain ⟨w5, hup, m5, t5⟩ := (show MapIs w4.drew bm (roomL L) from m4).put (L' := putL L k e) k e (by rw [HPN.out]; exact add_mem L (roomL L) k e (roomL_sub L) HNN.out)
      have hres := put_after (w := w) (W := w4.drew) (L' := putL L k e) (ks := keysOf (roomL L) ++ [k]) p4 o4 hbm4 hbp (putL_nd L k e HND.out) (hF4.drewN 1) hmb m5 t5
      have HRES : Hid (Fr base [31, 56] true w w5 ∧ Buf w5 base p (putL L k e) (keysOf (putL L k e)) h m) := ⟨hres.1, by
        have : keysOf (putL L k e) = keysOf (roomL L) ++ [k] := by rw [HPN.out]; simp [keysOf]
        rw [this]; exact hres.2⟩
      have z0 : w4.drew.cell? ⟨p, 0, none⟩ = some (.map (some bm)) := (four_cells (show w4.drew.heap[p]? = _ from p4)).1.1
      have zx := three _ _ _ _ _ _ (show w4.drew.heap[w.heap.size]? = _ from hx4)
      have zy := two _ _ _ _ _ (show w4.drew.heap[w.heap.size + 1]? = _ from hy4)
      obtain ⟨zx0, zx1, zx2⟩ := zx
      obtain ⟨zy0, zy1⟩ := zy
      clear p4 m4 o4 hmb m5 t5 hres hF4 hx4 hy4 hK hpW hmvW hoW hxW hyW hbW0 three two
      go_wp2_with fail
      go_region
      all_goals (
        go_end0
        exact ⟨rfl, HRES.out⟩))
  · rw [hT] at hA hB
    have ePut : putL L k e = setL L k e := by unfold putL; rw [hT]; rfl
    have HTT : Hid ((look L k).isSome = true) := hT
    have HPN : Hid (putL L k e = setL L k e) := ePut
    have hmb : ∃ bm, mv = .map (some bm) ∧ base ≤ bm ∧ MapIs w bm L := by
      rcases HMV.out with ⟨_, h0⟩ | h0
      · rw [h0] at hT; simp [look] at hT
      · exact h0
    obtain ⟨bm, rfl, hbm, hmi⟩ := hmb
    clear hT ePut
    go_enter Try.func15, Try.ntmps15
    go_wp2_with fail
    go_region
    all_goals (
      obtain ⟨W, hW⟩ : ∃ W, W = (((w.alloc (.cells #[i64 k.env, i64 k.proc, i64 k.page] 31)).alloc (.cells #[i64 e.frame, .bool e.wr] 33)).alloc (.cells #[i64 E.frame, .bool E.wr] 33)).drew := ⟨_, rfl⟩
      have hbW0 : Below w.heap.size w W := by rw [hW]; exact (HB0.out.alloc (by simp; omega) _).drew
      have hpW := (hbW0.block p hplt).trans HP1.out
      have hmvW := HMV.out.kept (w' := W) (fun i es clock hi => (hbW0.block i (Array.getElem?_eq_some_iff.1 hi).1).trans hi)
      have hoW := own_kept (w' := W) HOW.out (fun i C hi => (hbW0.block i (Array.getElem?_eq_some_iff.1 hi).1).trans hi)
      have hszP : ((w.alloc (.cells #[i64 k.env, i64 k.proc, i64 k.page] 31)).alloc (.cells #[i64 e.frame, .bool e.wr] 33)).heap.size = w.heap.size + 1 + 1 := by simp
      have hxW : W.heap[w.heap.size]? = some (.cells #[i64 k.env, i64 k.proc, i64 k.page] 31 (0, 0)) := by
        rw [hW]
        show ((((w.alloc (.cells #[i64 k.env, i64 k.proc, i64 k.page] 31)).alloc (.cells #[i64 e.frame, .bool e.wr] 33)).alloc _).heap)[_]? = _
        rw [Below.heap_alloc _ _ _ (by rw [hszP]; omega), Below.heap_alloc _ _ _ (by simp)]
        exact heap_last w _
      have hyW : W.heap[w.heap.size + 1]? = some (.cells #[i64 e.frame, .bool e.wr] 33 (0, 0)) := by
        rw [hW]
        show ((((w.alloc (.cells #[i64 k.env, i64 k.proc, i64 k.page] 31)).alloc (.cells #[i64 e.frame, .bool e.wr] 33)).alloc _).heap)[_]? = _
        rw [Below.heap_alloc _ _ _ (by rw [hszP]; omega)]
        have s1 : (w.alloc (.cells #[i64 k.env, i64 k.proc, i64 k.page] 31)).heap.size = w.heap.size + 1 := by simp
        rw [← s1]; exact heap_last _ _
      have hne1 : some w.heap.size ≠ kv.ownBlock := fun e' => by have := (HOW.out.lt _ e'.symm).2; omega
      have hne2 : some (w.heap.size + 1) ≠ kv.ownBlock := fun e' => by have := (HOW.out.lt _ e'.symm).2; omega
      have three : ∀ (V : World) (B : Nat) (a b c : Value) (t : TypeId), V.heap[B]? = some (.cells #[a, b, c] t (0, 0)) → V.cell? ⟨B, 0, none⟩ = some a ∧ V.cell? ⟨B, 1, none⟩ = some b ∧ V.cell? ⟨B, 2, none⟩ = some c := fun V B a b c t hV => by
        rw [cell_of_row V B 0 _ t (0, 0) hV, cell_of_row V B 1 _ t (0, 0) hV, cell_of_row V B 2 _ t (0, 0) hV]
        exact ⟨rfl, rfl, rfl⟩
      have two : ∀ (V : World) (B : Nat) (a b : Value) (t : TypeId), V.heap[B]? = some (.cells #[a, b] t (0, 0)) → V.cell? ⟨B, 0, none⟩ = some a ∧ V.cell? ⟨B, 1, none⟩ = some b := fun V B a b t hV => by
        rw [cell_of_row V B 0 _ t (0, 0) hV, cell_of_row V B 1 _ t (0, 0) hV]
        exact ⟨rfl, rfl⟩
      obtain ⟨bx0, bx1, bx2⟩ := three _ _ _ _ _ _ hxW
      rw [← hW]
      clear hW hA hB cA cB hszP hb0 hb1
      have mW : MapIs W.drew bm L := hmi.kept (hbW0.block bm hmi.lt)
      obtain ⟨es, c, hmbW, _⟩ := id mW
      obtain ⟨w5, hup, m5, t5⟩ := mW.put (L' := putL L k e) k e (by rw [HPN.out]; exact set_mem L k e HTT.out)
      have hres := put_after (w := w) (W := W.drew) (L' := putL L k e) (ks := keysOf L) hpW hoW hbm hbp (putL_nd L k e HND.out) ((Fr.of_below [31, 56] true hbW0 hbW).drewN 1) hmbW m5 t5
      have HRES : Hid (Fr base [31, 56] true w w5 ∧ Buf w5 base p (putL L k e) (keysOf (putL L k e)) h m) := ⟨hres.1, by
        have : keysOf (putL L k e) = keysOf L := by rw [HPN.out]; exact setL_keys L k e
        rw [this]; exact hres.2⟩
      have z0 : W.drew.cell? ⟨p, 0, none⟩ = some (.map (some bm)) := (four_cells (show W.drew.heap[p]? = _ from hpW)).1.1
      have zx := three _ _ _ _ _ _ (show W.drew.heap[w.heap.size]? = _ from hxW)
      have zy := two _ _ _ _ _ (show W.drew.heap[w.heap.size + 1]? = _ from hyW)
      obtain ⟨zx0, zx1, zx2⟩ := zx
      obtain ⟨zy0, zy1⟩ := zy
      clear hmbW m5 t5 hres hpW hmvW hoW hxW hyW hbW0 three two mW
      go_wp2_with fail
      go_region
      all_goals (
        go_end0
        exact ⟨rfl, HRES.out⟩))
end Go.Proofs.Ytblhoaggonjhkaa
