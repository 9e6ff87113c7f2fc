/- Rows of slots and of objects; Slots, named; no statement is proved in this text. -/
import Derived.Test.YtaapiffglfppnaaEc
namespace Go.Proofs.Ytaapiffglfppnaa
open Go.ChangeShapes Go.WideShapes Go.ChangeAt Go.RowKit Go.Deep
attribute [local go_sem ↓] Go.wp_at_zero Go.wp_at_succ

def oC (a : Op4) : List Value := [i64 a.1, i64 a.2.1, i64 a.2.2.1, i64 a.2.2.2]
def ocn (l : List Op4) : List Value := l.flatMap oC
theorem ocn_app (a b : List Op4) : ocn (a ++ b) = ocn a ++ ocn b := by simp [ocn]
theorem ocn_one (a : Op4) : ocn [a] = oC a := by simp [ocn]
theorem ocn_len (l : List Op4) : (ocn l).length = l.length * 4 := by
  induction l with
  | nil => rfl
  | cons x l ih =>
    have e : (ocn (x :: l)).length = 4 + (ocn l).length := by rw [show ocn (x :: l) = oC x ++ ocn l from rfl, List.length_append]; rfl
    rw [e, ih, List.length_cons]
    omega
theorem ocn_get (l : List Op4) (i : Nat) (a : Op4) (h : l[i]? = some a) : (ocn l)[i * 4]? = some (i64 a.1) ∧ (ocn l)[i * 4 + 1]? = some (i64 a.2.1) ∧ (ocn l)[i * 4 + 2]? = some (i64 a.2.2.1) ∧ (ocn l)[i * 4 + 3]? = some (i64 a.2.2.2) := by
  induction l generalizing i with
  | nil => simp at h
  | cons x l ih =>
    cases i with
    | zero => simp at h; subst h; exact ⟨rfl, rfl, rfl, rfl⟩
    | succ i =>
      have := ih i (by simpa using h)
      rw [show (i + 1) * 4 = i * 4 + 4 by omega]
      exact this
theorem oC_one (a : Op4) : ∀ u ∈ oC a, u.oneCell' = true := by
  intro u hu
  simp only [oC, List.mem_cons, List.not_mem_nil, or_false] at hu
  rcases hu with rfl | rfl | rfl | rfl <;> rfl
theorem ocn_one' (l : List Op4) : ∀ u ∈ ocn l, u.oneCell' = true := by
  intro u hu
  obtain ⟨e, _, he⟩ := List.mem_flatMap.1 hu
  exact oC_one e u he
def lC (a : Sl3) : List Value := [i64 a.1, i64 a.2.1, i64 a.2.2]
def lcn (l : List Sl3) : List Value := l.flatMap lC
theorem lcn_app (a b : List Sl3) : lcn (a ++ b) = lcn a ++ lcn b := by simp [lcn]
theorem lcn_one (a : Sl3) : lcn [a] = lC a := by simp [lcn]
theorem lcn_len (l : List Sl3) : (lcn l).length = l.length * 3 := by
  induction l with
  | nil => rfl
  | cons x l ih =>
    have e : (lcn (x :: l)).length = 3 + (lcn l).length := by rw [show lcn (x :: l) = lC x ++ lcn l from rfl, List.length_append]; rfl
    rw [e, ih, List.length_cons]
    omega
theorem lcn_get (l : List Sl3) (i : Nat) (a : Sl3) (h : l[i]? = some a) : (lcn l)[i * 3]? = some (i64 a.1) ∧ (lcn l)[i * 3 + 1]? = some (i64 a.2.1) ∧ (lcn l)[i * 3 + 2]? = some (i64 a.2.2) := by
  induction l generalizing i with
  | nil => simp at h
  | cons x l ih =>
    cases i with
    | zero => simp at h; subst h; exact ⟨rfl, rfl, rfl⟩
    | succ i =>
      have := ih i (by simpa using h)
      rw [show (i + 1) * 3 = i * 3 + 3 by omega]
      exact this
theorem lC_one (a : Sl3) : ∀ u ∈ lC a, u.oneCell' = true := by
  intro u hu
  simp only [lC, List.mem_cons, List.not_mem_nil, or_false] at hu
  rcases hu with rfl | rfl | rfl <;> rfl
/-- Rows that read as lists. -/
def Rd4 (w : World) (ao : Option Addr) (X : List Op4) : Prop := ∀ (i : Nat) (a : Op4), X[i]? = some a → ∃ g o, ao = some ⟨g, o, none⟩ ∧ g < w.heap.size ∧ w.cell? ⟨g, o + i * 4, none⟩ = some (i64 a.1) ∧ w.cell? ⟨g, o + i * 4 + 1, none⟩ = some (i64 a.2.1) ∧ w.cell? ⟨g, o + i * 4 + 2, none⟩ = some (i64 a.2.2.1) ∧ w.cell? ⟨g, o + i * 4 + 3, none⟩ = some (i64 a.2.2.2)
theorem Rd4.below {w w' : World} {ao : Option Addr} {X : List Op4} (h : Rd4 w ao X) (hb : Below w.heap.size w w') : Rd4 w' ao X := fun i p hp => by
  obtain ⟨g, o, h1, h2, h3, h4, h5, h6⟩ := h i p hp
  have hk := hb.block g h2
  refine ⟨g, o, h1, Nat.lt_of_lt_of_le h2 hb.size, ?_, ?_, ?_, ?_⟩
  all_goals (rw [World.cell?_of_block (w := w) hk]; assumption)
def Rd3 (w : World) (ao : Option Addr) (X : List Sl3) : Prop := ∀ (i : Nat) (a : Sl3), X[i]? = some a → ∃ g o, ao = some ⟨g, o, none⟩ ∧ g < w.heap.size ∧ w.cell? ⟨g, o + i * 3, none⟩ = some (i64 a.1) ∧ w.cell? ⟨g, o + i * 3 + 1, none⟩ = some (i64 a.2.1) ∧ w.cell? ⟨g, o + i * 3 + 2, none⟩ = some (i64 a.2.2)
theorem Rd3.below {w w' : World} {ao : Option Addr} {X : List Sl3} (h : Rd3 w ao X) (hb : Below w.heap.size w w') : Rd3 w' ao X := fun i p hp => by
  obtain ⟨g, o, h1, h2, h3, h4, h5⟩ := h i p hp
  have hk := hb.block g h2
  refine ⟨g, o, h1, Nat.lt_of_lt_of_le h2 hb.size, ?_, ?_, ?_⟩
  all_goals (rw [World.cell?_of_block (w := w) hk]; assumption)
theorem own_zeroK {w : World} {base : Nat} {t : TypeId} {K n cap : Nat} {ao : Option Addr} {xs : List Value} (h2 : w.ownsRow base t K (.slice ao n cap) n xs) (h0 : 0 < n) : ∃ g, ao = some ⟨g, 0, none⟩ ∧ base ≤ g ∧ ∃ cur, w.heap[g]? = some (.cells cur t) ∧ n ≤ cap := by
  rcases h2.2 with ⟨_, h⟩ | ⟨g, cap', cur, he, hbg, hgg, hc, _⟩
  · omega
  · simp only [Value.slice.injEq] at he
    obtain ⟨rfl, _, rfl⟩ := he
    exact ⟨g, rfl, hbg, cur, hgg, hc⟩
theorem own_capK {w : World} {base : Nat} {t : TypeId} {K n cap : Nat} {ao : Option Addr} {xs : List Value} (h2 : w.ownsRow base t K (.slice ao n cap) n xs) : n ≤ cap := by
  by_cases h0 : 0 < n
  · obtain ⟨g, _, _, cur, _, hc⟩ := own_zeroK h2 h0
    exact hc
  · omega
theorem Rd4.own {w : World} {base : Nat} {t : TypeId} {ao : Option Addr} {cap : Nat} {X : List Op4} (h2 : w.ownsRow base t 4 (.slice ao X.length cap) X.length (ocn X)) : Rd4 w ao X := fun i p hp => by
  have hi : i < X.length := (List.getElem?_eq_some_iff.1 hp).1
  obtain ⟨g, rfl, hbg, cur, hgg, _⟩ := own_zeroK h2 (by omega)
  obtain ⟨e0, e1, e2, e3⟩ := ocn_get X i p hp
  refine ⟨g, 0, rfl, blk_lt hgg, ?_, ?_, ?_, ?_⟩
  · rw [Nat.zero_add, h2.cellAt _ (by omega), e0]
  · rw [Nat.zero_add, h2.cellAt _ (by omega), e1]
  · rw [Nat.zero_add, h2.cellAt _ (by omega), e2]
  · rw [Nat.zero_add, h2.cellAt _ (by omega), e3]
theorem Rd3.own {w : World} {base : Nat} {t : TypeId} {ao : Option Addr} {cap : Nat} {X : List Sl3} (h2 : w.ownsRow base t 3 (.slice ao X.length cap) X.length (lcn X)) : Rd3 w ao X := fun i p hp => by
  have hi : i < X.length := (List.getElem?_eq_some_iff.1 hp).1
  obtain ⟨g, rfl, hbg, cur, hgg, _⟩ := own_zeroK h2 (by omega)
  obtain ⟨e0, e1, e2⟩ := lcn_get X i p hp
  refine ⟨g, 0, rfl, blk_lt hgg, ?_, ?_, ?_⟩
  · rw [Nat.zero_add, h2.cellAt _ (by omega), e0]
  · rw [Nat.zero_add, h2.cellAt _ (by omega), e1]
  · rw [Nat.zero_add, h2.cellAt _ (by omega), e2]
theorem uL : Try.prog.underlying 45 = some (.slice 48) := by kernel_rfl
theorem iL : (Try.prog.info? 48).map (fun i => (i.zero, i.size, i.bytes)) = some (some (lv (0, 0, 0)), 3, 24) := by kernel_rfl
theorem uO : Try.prog.underlying 51 = some (.slice 54) := by kernel_rfl
theorem iO : (Try.prog.info? 54).map (fun i => (i.zero, i.size, i.bytes)) = some (some (ov (0, 0, 0, 0)), 4, 32) := by kernel_rfl
/-- Which slots name which objects, in the order of places. -/
def adR (A : Tab) (r k : Nat) : List (Nat × Nat × Nat) := (List.range k).filterMap fun g => (A r g).map fun a => (r, g, a)
def adU (A : Tab) (k : Nat) : List (Nat × Nat × Nat) := (List.range k).flatMap fun r => adR A r 6
def adL (A : Tab) : List (Nat × Nat × Nat) := adU A 6
theorem adR_succ (A : Tab) (r k : Nat) : adR A r (k + 1) = adR A r k ++ ((A r k).map fun a => (r, k, a)).toList := by
  unfold adR
  rw [List.range_succ, List.filterMap_append]
  congr 1
theorem adU_succ (A : Tab) (k : Nat) : adU A (k + 1) = adU A k ++ adR A k 6 := by
  unfold adU
  rw [List.range_succ, List.flatMap_append]
  simp
theorem adR_mem {A : Tab} {r k : Nat} {x : Nat × Nat × Nat} (h : x ∈ adR A r k) : x.1 = r ∧ x.2.1 < k ∧ A r x.2.1 = some x.2.2 := by
  obtain ⟨g, hg, hf⟩ := List.mem_filterMap.1 h
  cases ha : A r g with
  | none => rw [ha] at hf; cases hf
  | some a =>
    rw [ha] at hf
    simp at hf
    subst hf
    exact ⟨rfl, List.mem_range.1 hg, ha⟩
theorem adU_mem {A : Tab} {k : Nat} {x : Nat × Nat × Nat} (h : x ∈ adU A k) : x.1 < k ∧ x.2.1 < 6 ∧ A x.1 x.2.1 = some x.2.2 := by
  obtain ⟨r, hr, hx⟩ := List.mem_flatMap.1 h
  obtain ⟨rfl, h2, h3⟩ := adR_mem hx
  exact ⟨List.mem_range.1 hr, h2, h3⟩
theorem mem_adL {A : Tab} {r g a : Nat} (hr : r < 6) (hg : g < 6) (ha : A r g = some a) : (r, g, a) ∈ adL A :=
  List.mem_flatMap.2 ⟨r, List.mem_range.2 hr, List.mem_filterMap.2 ⟨g, List.mem_range.2 hg, by rw [ha]; rfl⟩⟩
theorem adR_le (A : Tab) (r k : Nat) : (adR A r k).length ≤ k := by
  have := List.length_filterMap_le (fun g => (A r g).map fun a => (r, g, a)) (List.range k)
  rw [List.length_range] at this
  exact this
theorem adU_le (A : Tab) : ∀ k, (adU A k).length ≤ 6 * k
  | 0 => by simp [adU]
  | k + 1 => by
    rw [adU_succ, List.length_append]
    have := adU_le A k
    have := adR_le A k 6
    omega
def slF (V : Nat → Op4) (x : Nat × Nat × Nat) : Sl3 := ((x.1 : Int) + 1, (x.2.1 : Int), (V x.2.2).1)
def slL (A : Tab) (V : Nat → Op4) : List Sl3 := (adL A).map (slF V)
def nmL (A : Tab) (V : Nat → Op4) : List Op4 := (adL A).map fun x => V x.2.2
/-- What a call answers that makes a row. -/
def GotL (w w' : World) (e : Ending) (M : List Sl3) : Prop := ∃ ao cap, e = .returned (.slice ao M.length cap) ∧ w'.ownsRow w.heap.size 48 3 (.slice ao M.length cap) M.length (lcn M)
def GotO (w w' : World) (e : Ending) (M : List Op4) : Prop := ∃ ao cap, e = .returned (.slice ao M.length cap) ∧ w'.ownsRow w.heap.size 54 4 (.slice ao M.length cap) M.length (ocn M)
set_option maxRecDepth 100000 in
set_option maxHeartbeats 3200000 in
theorem slots_ok (w : World) (v : Value) (A : Tab) (V : Nat → Op4) (h : Tv w v A V) : Calls Try.prog 16 #[v] w fun e w' => GotL w w' e (slL A V) ∧ Below w.heap.size w w' := by
  have HR := hid h
  have HA := hid fun W (p s : Int) (hW : Tv W v A V) => at_ok W v A V p s hW
  clear h
  go_enter Try.func16, Try.ntmps16
  go_wp2_with fail
  go_loopw [3, 4] (fun v i wr => ∃ (k n : Nat) (ao2 : Option Addr) (cap2 : Nat), k ≤ 6 ∧ i = i64 ((k : Int) + 1) ∧ v = .slice ao2 n cap2 ∧ Hid (n = ((adU A k).map (slF V)).length ∧ wr.ownsRow w.heap.size 48 3 (.slice ao2 n cap2) n (lcn ((adU A k).map (slF V)))) ∧ Hid (Below w.heap.size w wr)) (fun _ i _ => 7 - (intOf i).toNat)
  case atStart => exact ⟨0, 0, none, 0, by omega, rfl, rfl, ⟨rfl, World.ownsRow_nil _ _ _ _⟩, Below.refl _ _⟩
  case round =>
    obtain ⟨k, n, ao2, cap2, hk, rfl, rfl, HO, HB⟩ := hrel
    by_cases hlt6 : k < 6
    · have hkI : (k : Int) + 1 ≤ 6 := by omega
      have hkJ : (0 : Int) ≤ (k : Int) := by omega
      have HN24 : Hid ((adU A k).length ≤ 36) := by have := adU_le A k; show (adU A k).length ≤ 36; omega
      go_wp2_with fail
      go_loopw [3, 11] (fun v i wr => ∃ (g n : Nat) (ao2 : Option Addr) (cap2 : Nat), g ≤ 6 ∧ i = i64 g ∧ v = .slice ao2 n cap2 ∧ Hid (n = ((adU A k ++ adR A k g).map (slF V)).length ∧ wr.ownsRow w.heap.size 48 3 (.slice ao2 n cap2) n (lcn ((adU A k ++ adR A k g).map (slF V)))) ∧ Hid (Below w.heap.size w wr)) (fun _ i _ => 6 - (intOf i).toNat)
      case atStart => exact ⟨0, n, ao2, cap2, by omega, rfl, rfl, by rw [show adU A k ++ adR A k 0 = adU A k from List.append_nil _]; exact HO, HB⟩
      case round =>
        obtain ⟨g, n, ao2, cap2, hg, rfl, rfl, HO, HB⟩ := hrel
        by_cases hlt : g < 6
        · have hgI : (g : Int) < 6 := by omega
          have HRw := hid (HR.out.below HB.out)
          have hns : n ≤ 100 := by rw [HO.out.1, List.length_map, List.length_append]; have := adR_le A k g; have := HN24.out; omega
          have HC := hid (HA.out wr ((k : Int) + 1) g HRw.out)
          rw [atA_in A k g hlt6 hlt] at HC
          cases hf : A k g with
          | none =>
            have HU : Hid (adR A k (g + 1) = adR A k g) := by rw [Hid, adR_succ, hf]; exact List.append_nil _
            rw [hf] at HC
            simp only [pv] at HC
            clear hf
            go_wp2_with fail
            refine HC.out.mono ?_
            rintro e w2 ⟨rfl, hv⟩
            replace hv := hv.symm
            subst hv
            clear HC
            have HO2 : Hid (n = ((adU A k ++ adR A k (g + 1)).map (slF V)).length ∧ wr.ownsRow w.heap.size 48 3 (.slice ao2 n cap2) n (lcn ((adU A k ++ adR A k (g + 1)).map (slF V)))) := by
              rw [HU.out]
              exact HO
            go_wp2_with fail
            exact ⟨⟨g + 1, n, ao2, cap2, by omega, by go_num, rfl, HO2, HB⟩, by simp [intOf]; omega⟩
          | some a =>
            have HU : Hid (adR A k (g + 1) = adR A k g ++ [(k, g, a)]) := by rw [Hid, adR_succ, hf]; rfl
            have hob := HRw.out.obj (p := (k : Int) + 1) (s := g) (by rw [atA_in A k g hlt6 hlt]; exact hf)
            rw [hf] at HC
            simp only [pv] at HC
            obtain ⟨i, hi⟩ : ∃ i, i = (V a).1 := ⟨_, rfl⟩
            have c0 : wr.cell? ⟨a, 0, none⟩ = some (i64 i) := by rw [hi]; exact blk_cell hob 0
            have hal := blk_lt hob
            have HI := hid hi
            clear hf hob hi
            obtain ⟨ao3, cap3, w3, hrun, hown3, hfr3, _, _⟩ := app_far (te := 48) uL iL rfl (by omega) (by omega) (V := wr) HO.out.2 (lC ((k : Int) + 1, (g : Int), i)) rfl (lC_one _) (by omega) HB.out.size
            have HRun : Hid ((Builtin.append_ #[45, 45] 45 #[.slice ao2 n cap2, .slice (some ⟨wr.heap.size, 0, none⟩) 1 1]).run Try.prog (wr.alloc (lO ((k : Int) + 1, (g : Int), i) 48)) = .ok (.slice ao3 (n + 1) cap3) w3) := hrun
            have HB3 : Hid (Below w.heap.size w w3) := HB.out.trans hfr3.below
            have HE : Hid (n + 1 = ((adU A k ++ adR A k (g + 1)).map (slF V)).length ∧ w3.ownsRow w.heap.size 48 3 (.slice ao3 (n + 1) cap3) (n + 1) (lcn ((adU A k ++ adR A k (g + 1)).map (slF V)))) := by
              rw [HU.out, ← List.append_assoc, List.map_append, lcn_app, List.length_append, ← HO.out.1]
              refine ⟨rfl, ?_⟩
              rw [show lcn ([(k, g, a)].map (slF V)) = lC ((k : Int) + 1, (g : Int), i) by rw [HI.out]; exact lcn_one _]
              exact hown3
            clear hrun hown3 hfr3
            go_wp2_with fail
            refine HC.out.mono ?_
            rintro e w2 ⟨rfl, hv⟩
            replace hv := hv.symm
            subst hv
            clear HC
            go_wp2_with (at_builtin; refine wpList_app_run rfl (.tmp 20) (.tmp 28) 45 rfl _ _ rfl rfl 45 rfl _ _ HRun.out ?_)
            exact ⟨⟨g + 1, n + 1, ao3, cap3, by omega, by go_num, rfl, HE, HB3⟩, by simp [intOf]; omega⟩
        · obtain rfl : g = 6 := by omega
          have HE : Hid (n = ((adU A (k + 1)).map (slF V)).length ∧ wr.ownsRow w.heap.size 48 3 (.slice ao2 n cap2) n (lcn ((adU A (k + 1)).map (slF V)))) := by
            rw [adU_succ]
            exact HO.out
          clear HO
          go_wp2_with fail
          exact ⟨⟨k + 1, n, ao2, cap2, by omega, by go_num, rfl, HE, HB⟩, by simp [intOf]; omega⟩
    · obtain rfl : k = 6 := by omega
      have HE : Hid (n = (slL A V).length ∧ wr.ownsRow w.heap.size 48 3 (.slice ao2 n cap2) n (lcn (slL A V))) := HO.out
      clear HO
      go_wp2_with fail
      go_ret
      exact ⟨⟨ao2, cap2, by rw [← HE.out.1]; rfl, by rw [← HE.out.1]; exact HE.out.2⟩, HB.out⟩
theorem takeL {α : Type} {L : List α} {k : Nat} {e : α} (h : L[k]? = some e) : L.take (k + 1) = L.take k ++ [e] := by
  obtain ⟨hk, rfl⟩ := List.getElem?_eq_some_iff.1 h
  rw [List.take_append_getElem]
set_option maxRecDepth 100000 in
set_option maxHeartbeats 3200000 in
theorem named_ok (w : World) (v : Value) (A : Tab) (V : Nat → Op4) (h : Tv w v A V) : Calls Try.prog 37 #[v] w fun e w' => GotO w w' e (nmL A V) ∧ Below w.heap.size w w' := by
  have HR := hid h
  have HA := hid fun W (p s : Int) (hW : Tv W v A V) => at_ok W v A V p s hW
  have HS := hid (slots_ok w v A V h)
  have hle : (slL A V).length ≤ 36 := by rw [slL, List.length_map]; exact adU_le A 6
  have HLn : Hid ((slL A V).length = (adL A).length) := List.length_map _
  clear h
  obtain ⟨N, hN⟩ : ∃ N, N = (slL A V).length := ⟨_, rfl⟩
  have HN := hid hN
  unfold GotL at HS
  rw [← hN] at HS hle
  clear hN
  go_enter Try.func37, Try.ntmps37
  go_wp2_with fail
  refine HS.out.mono ?_
  rintro e w1 ⟨⟨ao, cap, rfl, hown⟩, hb1⟩
  have HRd : Hid (Rd3 w1 ao (slL A V)) := Rd3.own (by rw [← HN.out]; exact hown)
  have HB1 := hid hb1
  have hcap := own_capK hown
  clear hown hb1 HS
  go_wp2_with fail
  go_loopw [3, 9] (fun v i wr => ∃ (k : Nat) (ao2 : Option Addr) (cap2 : Nat), k ≤ N ∧ i = i64 k ∧ v = .slice ao2 k cap2 ∧ Hid (wr.ownsRow w1.heap.size 54 4 (.slice ao2 k cap2) k (ocn ((nmL A V).take k))) ∧ Hid (Below w1.heap.size w1 wr)) (fun _ i _ => N - (intOf i).toNat)
  case atStart => exact ⟨0, none, 0, by omega, rfl, rfl, World.ownsRow_nil _ _ _ _, Below.refl _ _⟩
  case round =>
    obtain ⟨k, ao2, cap2, hk, rfl, rfl, HO, HC1⟩ := hrel
    by_cases hlt : k < N
    · have hkI : (k : Int) < N := by omega
      obtain ⟨x, hx⟩ : ∃ x, (adL A)[k]? = some x := ⟨_, List.getElem?_eq_getElem (by rw [← HLn.out, ← HN.out]; exact hlt)⟩
      obtain ⟨m1, m2, m3⟩ := adU_mem (List.mem_of_getElem? hx)
      have hs : (slL A V)[k]? = some (slF V x) := by rw [slL, List.getElem?_map, hx]; rfl
      have hnx : (nmL A V)[k]? = some (V x.2.2) := by rw [nmL, List.getElem?_map, hx]; rfl
      obtain ⟨g0, o, rfl, hgl, c0, c1, c2⟩ := HRd.out.below HC1.out k _ hs
      obtain ⟨r, g, a⟩ := x
      simp only at m1 m2 m3 hnx
      have hat : atA A ((r : Int) + 1) g = some a := by rw [atA_in A r g m1 m2]; exact m3
      have HBW : Hid (Below w1.heap.size w1 (wr.alloc (lO (slF V (r, g, a)) 48))) := HC1.out.alloc HC1.out.size _
      have HRw := hid (HR.out.below (HB1.out.trans (HBW.out.mono HB1.out.size)))
      have HC := hid (HA.out (wr.alloc (lO (slF V (r, g, a)) 48)) ((r : Int) + 1) g HRw.out)
      have hob := HRw.out.obj hat
      rw [hat] at HC
      simp only [pv] at HC
      obtain ⟨y, hy⟩ : ∃ y, y = V a := ⟨_, rfl⟩
      rw [← hy] at hob hnx
      obtain ⟨p0, p1, p2, p3⟩ := four_cells hob
      have hal := blk_lt hob
      have c0' : wr.cell? ⟨g0, o + k * 3, none⟩ = some (i64 ((r : Int) + 1)) := c0
      have c1' : wr.cell? ⟨g0, o + k * 3 + 1, none⟩ = some (i64 g) := c1
      have c2' : wr.cell? ⟨g0, o + k * 3 + 2, none⟩ = some (i64 y.1) := by rw [hy]; exact c2
      have e2 : (wr.alloc (lO (slF V (r, g, a)) 48)) = wr.alloc (.cells #[i64 ((r : Int) + 1), i64 g, i64 y.1] 48) := by rw [hy]; rfl
      rw [e2] at HBW HRw HC hob p0 p1 p2 p3 hal
      obtain ⟨ao3, cap3, w3, hrun, hown3, hfr3, _, _⟩ := app_far (te := 54) uO iO rfl (by omega) (by omega) (V := wr.alloc (.cells #[i64 ((r : Int) + 1), i64 g, i64 y.1] 48)) (HO.out.alloc _) (oC y) rfl (oC_one _) (by omega) HBW.out.size
      have e1 : (wr.alloc (.cells #[i64 ((r : Int) + 1), i64 g, i64 y.1] 48)).heap.size = wr.heap.size + 1 := by simp
      rw [e1] at hrun
      have HRun : Hid ((Builtin.append_ #[51, 51] 51 #[.slice ao2 k cap2, .slice (some ⟨wr.heap.size + 1, 0, none⟩) 1 1]).run Try.prog ((wr.alloc (.cells #[i64 ((r : Int) + 1), i64 g, i64 y.1] 48)).alloc (oO y 54)) = .ok (.slice ao3 (k + 1) cap3) w3) := hrun
      have HB3 : Hid (Below w1.heap.size w1 w3) := HBW.out.trans hfr3.below
      have HE : Hid (w3.ownsRow w1.heap.size 54 4 (.slice ao3 (k + 1) cap3) (k + 1) (ocn ((nmL A V).take (k + 1)))) := by
        rw [takeL hnx, ocn_app, ocn_one]
        exact hown3
      clear hrun hown3 hfr3 e1 hx hs hnx hat m3 hob hy c0 c1 c2 e2
      go_wp2_with fail
      refine HC.out.mono ?_
      rintro e w2 ⟨rfl, hv⟩
      replace hv := hv.symm
      subst hv
      clear HC
      go_wp2_with (at_builtin; refine wpList_app_run rfl (.tmp 13) (.tmp 22) 51 rfl _ _ rfl rfl 51 rfl _ _ HRun.out ?_)
      exact ⟨⟨k + 1, ao3, cap3, by omega, by go_num, rfl, HE, HB3⟩, by simp [intOf]; omega⟩
    · obtain rfl : k = N := by omega
      have HG : Hid (GotO w wr (.returned (.slice ao2 k cap2)) (nmL A V)) := by
        have h1 := HO.out
        have e : (nmL A V).length = k := by rw [nmL, List.length_map, ← HLn.out, ← HN.out]
        rw [List.take_of_length_le (by omega)] at h1
        refine ⟨ao2, cap2, by rw [e], ?_⟩
        rw [e]
        exact own_low h1 HB1.out.size
      have HBz : Hid (Below w.heap.size w wr) := HB1.out.trans (HC1.out.mono HB1.out.size)
      go_wp2_with fail
      go_ret
      exact ⟨HG.out, HBz.out⟩
end Go.Proofs.Ytaapiffglfppnaa
