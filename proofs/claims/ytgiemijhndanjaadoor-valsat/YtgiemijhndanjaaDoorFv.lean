/- five: it answers true; no statement is proved in this text. -/
import Derived.Test.YtgiemijhndanjaaDoorAt
import Derived.Test.YtgiemijhndanjaaDoorInt
namespace Go.Proofs.YtgiemijhndanjaaDoor
open Go.ChangeShapes Go.WideShapes Go.ChangeAt Go.RowKit Go.Deep
attribute [local go_sem ↓] Go.wp_at_zero Go.wp_at_succ

def T5 : Ty := .mk 4 0 [[97], [98]] [.mk 1 8 [] [], .mk 3 2 [] [.mk 2 3 [] []]]
def L5 : Vl := .mk 3 0 [] [.mk 2 0 [120] [], .mk 2 0 [121] []]
def V5 : Vl := .mk 4 0 [] [.mk 1 5 [] [], L5]
def X5 : Vl := .mk 4 0 [] [.mk 1 256 [] [], L5]
theorem Rd.leaf (w : World) (S : Nat → Prop) (k n : Int) : Rd w S (.mk k n [] []) (.slice none 0 0) (.slice none 0 0) :=
  .mk (kids := []) 0 0 (fun _ => undef) (fun _ => undef) ⟨none, 0, rfl, Nat.zero_le _, ⟨Nat.le_refl _, fun x hx => by cases hx⟩, Or.inl rfl⟩ (Nat.zero_le _) (Or.inl rfl) (fun i T hT => by simp at hT) (fun i T hT => by simp at hT)
theorem Vd.two {w : World} {S : Nat → Prop} {a b : Vl} {ka kb : Value} {B : Nat} {e : TypeId} {k n : Int} {s : Bs} (ha : Vd w S a ka) (hb : Vd w S b kb) (hB : w.heap[B]? = some (.cells #[i64 a.kind, i64 a.num, str a.s, ka, i64 b.kind, i64 b.num, str b.s, kb] e)) (hS : S B) (hs : s.length ≤ maxLen) : Vd w S (.mk k n s [a, b]) (.slice (some ⟨B, 0, none⟩) 2 2) := by
  refine .mk (kids := [a, b]) B 0 (fun i => if i = 0 then ka else kb) hs (by unfold maxLen; simp) (Nat.le_refl _) (Or.inr ⟨rfl, hS, blk_lt hB⟩) ?_ ?_
  · intro i V hV j v hv
    have hj : j < 4 := by have := (List.getElem?_eq_some_iff.1 hv).1; simpa using this
    rw [blk_cell hB]
    match i, hV with
    | 0, hV =>
      cases hV
      match j, hj, hv with
      | 0, _, hv | 1, _, hv | 2, _, hv | 3, _, hv => simpa using hv
    | 1, hV =>
      cases hV
      match j, hj, hv with
      | 0, _, hv | 1, _, hv | 2, _, hv | 3, _, hv => simpa using hv
    | i + 2, hV => simp at hV
  · intro i V hV
    match i, hV with
    | 0, hV => cases hV; exact ha
    | 1, hV => cases hV; exact hb
    | i + 2, hV => simp at hV
theorem Rd.two {w : World} {S : Nat → Prop} {a b : Ty} {na ka nb kb nv : Value} {B : Nat} {e : TypeId} {k n : Int} {names : List Bs} (ha : Rd w S a na ka) (hb : Rd w S b nb kb) (hn : Strs w S nv names) (hB : w.heap[B]? = some (.cells #[i64 a.kind, i64 a.num, na, ka, i64 b.kind, i64 b.num, nb, kb] e)) (hS : S B) : Rd w S (.mk k n names [a, b]) nv (.slice (some ⟨B, 0, none⟩) 2 2) := by
  refine .mk (kids := [a, b]) B 0 (fun i => if i = 0 then na else nb) (fun i => if i = 0 then ka else kb) hn (by unfold maxLen; simp) (Or.inr ⟨rfl, hS, blk_lt hB⟩) ?_ ?_
  · intro i V hV j v hv
    have hj : j < 4 := by have := (List.getElem?_eq_some_iff.1 hv).1; simpa using this
    rw [blk_cell hB]
    match i, hV with
    | 0, hV =>
      cases hV
      match j, hj, hv with
      | 0, _, hv | 1, _, hv | 2, _, hv | 3, _, hv => simpa using hv
    | 1, hV =>
      cases hV
      match j, hj, hv with
      | 0, _, hv | 1, _, hv | 2, _, hv | 3, _, hv => simpa using hv
    | i + 2, hV => simp at hV
  · intro i V hV
    match i, hV with
    | 0, hV => cases hV; exact ha
    | 1, hV => cases hV; exact hb
    | i + 2, hV => simp at hV
theorem strs_two {w : World} {S : Nat → Prop} {A : Nat} {a b : Bs} (h : w.heap[A]? = some (.cells #[str a, str b] 9)) (hS : S A) (ha : a.length ≤ 100) (hb : b.length ≤ 100) : Strs w S (.slice (some ⟨A, 0, none⟩) 2 2) [a, b] := by
  refine ⟨_, 2, rfl, by unfold maxLen; simp, ⟨Nat.le_refl _, fun x hx => ?_⟩, Or.inr ⟨A, 0, rfl, hS, blk_lt h, fun i x hx => ?_⟩⟩
  · simp only [List.mem_cons, List.not_mem_nil, or_false] at hx
    unfold maxLen
    rcases hx with rfl | rfl <;> omega
  · rw [Nat.zero_add, blk_cell h]
    match i, hx with
    | 0, hx => cases hx; rfl
    | 1, hx => cases hx; rfl
    | i + 2, hx => simp at hx
theorem T5_err : T5.err = 0 := by decide +kernel
theorem V5_fits : fitsB V5 T5 = true := by
  unfold fitsB
  rw [T5_err]
  decide +kernel
theorem X5_fits : fitsB X5 T5 = false := by
  unfold fitsB
  rw [T5_err]
  decide +kernel
theorem X5_mis : misF X5 T5 = [0, 0] := by
  unfold misF
  rw [if_pos T5_err]
  decide +kernel
theorem itoa0 : Lib.itoa ((0 : Nat) : Int) = [48] := by rw [itoa_dec3 _ (by omega) (by omega)]; rfl
theorem itoa1 : Lib.itoa ((1 : Nat) : Int) = [49] := by rw [itoa_dec3 _ (by omega) (by omega)]; rfl
theorem p5b : placeF V5 T5 [98] = 1 := by
  have h := Lib.idxOfS_hit (T5.names.map ba) 2 1 (ba [98]) (by omega) (by simp [T5, Ty.names]) rfl (fun j hj => by
    have : j = 0 := by omega
    subst this
    intro e
    have := congrArg (fun x : ByteArray => x.data) e
    revert this
    decide)
  have e : (T5.names.map ba).take 2 = T5.names.map ba := rfl
  rw [e] at h
  unfold placeF fieldF
  rw [if_neg (by decide), if_pos (by rfl), h]
  rfl
theorem p5l : placeF L5 (.mk 3 2 [] [.mk 2 3 [] []]) [49] = 1 := by
  unfold placeF
  rw [if_pos (by rfl)]
  show idxFrom [49] 2 0 = 1
  unfold idxFrom
  rw [itoa0, if_neg (by decide)]
  unfold idxFrom
  rw [itoa1, if_pos rfl]
  rfl
theorem at5 : atW [[98], [49]] V5 T5 = some (.mk 2 0 [121] []) := by
  unfold atW
  rw [p5b, if_neg (by omega)]
  show atW [[49]] L5 (.mk 3 2 [] [.mk 2 3 [] []]) = _
  unfold atW
  rw [p5l, if_neg (by omega)]
  rfl
structure M5 (W : World) (B0 B1 B2 B3 B4 B5 B6 B7 B8 B9 : Nat) : Prop where
  t : W.heap[B3]? = some (.cells #[i64 4, i64 0, .slice (some ⟨B0, 0, none⟩) 2 2, .slice (some ⟨B2, 0, none⟩) 2 2] 28)
  l : W.heap[B5]? = some (.cells #[i64 3, i64 0, .string ⟨#[]⟩, .slice (some ⟨B4, 0, none⟩) 2 2] 24)
  v : W.heap[B7]? = some (.cells #[i64 4, i64 0, .string ⟨#[]⟩, .slice (some ⟨B6, 0, none⟩) 2 2] 24)
  x : W.heap[B9]? = some (.cells #[i64 4, i64 0, .string ⟨#[]⟩, .slice (some ⟨B8, 0, none⟩) 2 2] 24)
  T : Rd W (fun _ => True) T5 (.slice (some ⟨B0, 0, none⟩) 2 2) (.slice (some ⟨B2, 0, none⟩) 2 2)
  V : Vd W (fun _ => True) V5 (.slice (some ⟨B6, 0, none⟩) 2 2)
  X : Vd W (fun _ => True) X5 (.slice (some ⟨B8, 0, none⟩) 2 2)
set_option maxRecDepth 100000 in
set_option maxHeartbeats 3200000 in
theorem five_mem (w : World) : M5 ((((((((((w.alloc (.cells #[.string ⟨#[97]⟩, .string ⟨#[98]⟩] 9)).alloc (.cells #[i64 2, i64 3, .slice none 0 0, .slice none 0 0] 28)).alloc (.cells #[i64 1, i64 8, .slice none 0 0, .slice none 0 0, i64 3, i64 2, .slice none 0 0, .slice (some ⟨w.heap.size + 1, 0, none⟩) 1 1] 28)).alloc (.cells #[i64 4, i64 0, .slice (some ⟨w.heap.size, 0, none⟩) 2 2, .slice (some ⟨w.heap.size + 1 + 1, 0, none⟩) 2 2] 28)).alloc (.cells #[i64 2, i64 0, .string ⟨#[120]⟩, .slice none 0 0, i64 2, i64 0, .string ⟨#[121]⟩, .slice none 0 0] 24)).alloc (.cells #[i64 3, i64 0, .string ⟨#[]⟩, .slice (some ⟨w.heap.size + 1 + 1 + 1 + 1, 0, none⟩) 2 2] 24)).alloc (.cells #[i64 1, i64 5, .string ⟨#[]⟩, .slice none 0 0, i64 3, i64 0, .string ⟨#[]⟩, .slice (some ⟨w.heap.size + 1 + 1 + 1 + 1, 0, none⟩) 2 2] 24)).alloc (.cells #[i64 4, i64 0, .string ⟨#[]⟩, .slice (some ⟨w.heap.size + 1 + 1 + 1 + 1 + 1 + 1, 0, none⟩) 2 2] 24)).alloc (.cells #[i64 1, i64 256, .string ⟨#[]⟩, .slice none 0 0, i64 3, i64 0, .string ⟨#[]⟩, .slice (some ⟨w.heap.size + 1 + 1 + 1 + 1, 0, none⟩) 2 2] 24)).alloc (.cells #[i64 4, i64 0, .string ⟨#[]⟩, .slice (some ⟨w.heap.size + 1 + 1 + 1 + 1 + 1 + 1 + 1 + 1, 0, none⟩) 2 2] 24)) (w.heap.size) (w.heap.size + 1) (w.heap.size + 1 + 1) (w.heap.size + 1 + 1 + 1) (w.heap.size + 1 + 1 + 1 + 1) (w.heap.size + 1 + 1 + 1 + 1 + 1) (w.heap.size + 1 + 1 + 1 + 1 + 1 + 1) (w.heap.size + 1 + 1 + 1 + 1 + 1 + 1 + 1) (w.heap.size + 1 + 1 + 1 + 1 + 1 + 1 + 1 + 1) (w.heap.size + 1 + 1 + 1 + 1 + 1 + 1 + 1 + 1 + 1) := by
  have h0 : ((((((((((w.alloc (.cells #[.string ⟨#[97]⟩, .string ⟨#[98]⟩] 9)).alloc (.cells #[i64 2, i64 3, .slice none 0 0, .slice none 0 0] 28)).alloc (.cells #[i64 1, i64 8, .slice none 0 0, .slice none 0 0, i64 3, i64 2, .slice none 0 0, .slice (some ⟨w.heap.size + 1, 0, none⟩) 1 1] 28)).alloc (.cells #[i64 4, i64 0, .slice (some ⟨w.heap.size, 0, none⟩) 2 2, .slice (some ⟨w.heap.size + 1 + 1, 0, none⟩) 2 2] 28)).alloc (.cells #[i64 2, i64 0, .string ⟨#[120]⟩, .slice none 0 0, i64 2, i64 0, .string ⟨#[121]⟩, .slice none 0 0] 24)).alloc (.cells #[i64 3, i64 0, .string ⟨#[]⟩, .slice (some ⟨w.heap.size + 1 + 1 + 1 + 1, 0, none⟩) 2 2] 24)).alloc (.cells #[i64 1, i64 5, .string ⟨#[]⟩, .slice none 0 0, i64 3, i64 0, .string ⟨#[]⟩, .slice (some ⟨w.heap.size + 1 + 1 + 1 + 1, 0, none⟩) 2 2] 24)).alloc (.cells #[i64 4, i64 0, .string ⟨#[]⟩, .slice (some ⟨w.heap.size + 1 + 1 + 1 + 1 + 1 + 1, 0, none⟩) 2 2] 24)).alloc (.cells #[i64 1, i64 256, .string ⟨#[]⟩, .slice none 0 0, i64 3, i64 0, .string ⟨#[]⟩, .slice (some ⟨w.heap.size + 1 + 1 + 1 + 1, 0, none⟩) 2 2] 24)).alloc (.cells #[i64 4, i64 0, .string ⟨#[]⟩, .slice (some ⟨w.heap.size + 1 + 1 + 1 + 1 + 1 + 1 + 1 + 1, 0, none⟩) 2 2] 24)).heap[w.heap.size]? = some (.cells #[.string ⟨#[97]⟩, .string ⟨#[98]⟩] 9) := blk_alloc (blk_alloc (blk_alloc (blk_alloc (blk_alloc (blk_alloc (blk_alloc (blk_alloc (blk_alloc (heap_at3 _ _ _ (by simp)) _) _) _) _) _) _) _) _) _
  have h1 : ((((((((((w.alloc (.cells #[.string ⟨#[97]⟩, .string ⟨#[98]⟩] 9)).alloc (.cells #[i64 2, i64 3, .slice none 0 0, .slice none 0 0] 28)).alloc (.cells #[i64 1, i64 8, .slice none 0 0, .slice none 0 0, i64 3, i64 2, .slice none 0 0, .slice (some ⟨w.heap.size + 1, 0, none⟩) 1 1] 28)).alloc (.cells #[i64 4, i64 0, .slice (some ⟨w.heap.size, 0, none⟩) 2 2, .slice (some ⟨w.heap.size + 1 + 1, 0, none⟩) 2 2] 28)).alloc (.cells #[i64 2, i64 0, .string ⟨#[120]⟩, .slice none 0 0, i64 2, i64 0, .string ⟨#[121]⟩, .slice none 0 0] 24)).alloc (.cells #[i64 3, i64 0, .string ⟨#[]⟩, .slice (some ⟨w.heap.size + 1 + 1 + 1 + 1, 0, none⟩) 2 2] 24)).alloc (.cells #[i64 1, i64 5, .string ⟨#[]⟩, .slice none 0 0, i64 3, i64 0, .string ⟨#[]⟩, .slice (some ⟨w.heap.size + 1 + 1 + 1 + 1, 0, none⟩) 2 2] 24)).alloc (.cells #[i64 4, i64 0, .string ⟨#[]⟩, .slice (some ⟨w.heap.size + 1 + 1 + 1 + 1 + 1 + 1, 0, none⟩) 2 2] 24)).alloc (.cells #[i64 1, i64 256, .string ⟨#[]⟩, .slice none 0 0, i64 3, i64 0, .string ⟨#[]⟩, .slice (some ⟨w.heap.size + 1 + 1 + 1 + 1, 0, none⟩) 2 2] 24)).alloc (.cells #[i64 4, i64 0, .string ⟨#[]⟩, .slice (some ⟨w.heap.size + 1 + 1 + 1 + 1 + 1 + 1 + 1 + 1, 0, none⟩) 2 2] 24)).heap[w.heap.size + 1]? = some (.cells #[i64 2, i64 3, .slice none 0 0, .slice none 0 0] 28) := blk_alloc (blk_alloc (blk_alloc (blk_alloc (blk_alloc (blk_alloc (blk_alloc (blk_alloc (heap_at3 _ _ _ (by simp)) _) _) _) _) _) _) _) _
  have h2 : ((((((((((w.alloc (.cells #[.string ⟨#[97]⟩, .string ⟨#[98]⟩] 9)).alloc (.cells #[i64 2, i64 3, .slice none 0 0, .slice none 0 0] 28)).alloc (.cells #[i64 1, i64 8, .slice none 0 0, .slice none 0 0, i64 3, i64 2, .slice none 0 0, .slice (some ⟨w.heap.size + 1, 0, none⟩) 1 1] 28)).alloc (.cells #[i64 4, i64 0, .slice (some ⟨w.heap.size, 0, none⟩) 2 2, .slice (some ⟨w.heap.size + 1 + 1, 0, none⟩) 2 2] 28)).alloc (.cells #[i64 2, i64 0, .string ⟨#[120]⟩, .slice none 0 0, i64 2, i64 0, .string ⟨#[121]⟩, .slice none 0 0] 24)).alloc (.cells #[i64 3, i64 0, .string ⟨#[]⟩, .slice (some ⟨w.heap.size + 1 + 1 + 1 + 1, 0, none⟩) 2 2] 24)).alloc (.cells #[i64 1, i64 5, .string ⟨#[]⟩, .slice none 0 0, i64 3, i64 0, .string ⟨#[]⟩, .slice (some ⟨w.heap.size + 1 + 1 + 1 + 1, 0, none⟩) 2 2] 24)).alloc (.cells #[i64 4, i64 0, .string ⟨#[]⟩, .slice (some ⟨w.heap.size + 1 + 1 + 1 + 1 + 1 + 1, 0, none⟩) 2 2] 24)).alloc (.cells #[i64 1, i64 256, .string ⟨#[]⟩, .slice none 0 0, i64 3, i64 0, .string ⟨#[]⟩, .slice (some ⟨w.heap.size + 1 + 1 + 1 + 1, 0, none⟩) 2 2] 24)).alloc (.cells #[i64 4, i64 0, .string ⟨#[]⟩, .slice (some ⟨w.heap.size + 1 + 1 + 1 + 1 + 1 + 1 + 1 + 1, 0, none⟩) 2 2] 24)).heap[w.heap.size + 1 + 1]? = some (.cells #[i64 1, i64 8, .slice none 0 0, .slice none 0 0, i64 3, i64 2, .slice none 0 0, .slice (some ⟨w.heap.size + 1, 0, none⟩) 1 1] 28) := blk_alloc (blk_alloc (blk_alloc (blk_alloc (blk_alloc (blk_alloc (blk_alloc (heap_at3 _ _ _ (by simp)) _) _) _) _) _) _) _
  have h3 : ((((((((((w.alloc (.cells #[.string ⟨#[97]⟩, .string ⟨#[98]⟩] 9)).alloc (.cells #[i64 2, i64 3, .slice none 0 0, .slice none 0 0] 28)).alloc (.cells #[i64 1, i64 8, .slice none 0 0, .slice none 0 0, i64 3, i64 2, .slice none 0 0, .slice (some ⟨w.heap.size + 1, 0, none⟩) 1 1] 28)).alloc (.cells #[i64 4, i64 0, .slice (some ⟨w.heap.size, 0, none⟩) 2 2, .slice (some ⟨w.heap.size + 1 + 1, 0, none⟩) 2 2] 28)).alloc (.cells #[i64 2, i64 0, .string ⟨#[120]⟩, .slice none 0 0, i64 2, i64 0, .string ⟨#[121]⟩, .slice none 0 0] 24)).alloc (.cells #[i64 3, i64 0, .string ⟨#[]⟩, .slice (some ⟨w.heap.size + 1 + 1 + 1 + 1, 0, none⟩) 2 2] 24)).alloc (.cells #[i64 1, i64 5, .string ⟨#[]⟩, .slice none 0 0, i64 3, i64 0, .string ⟨#[]⟩, .slice (some ⟨w.heap.size + 1 + 1 + 1 + 1, 0, none⟩) 2 2] 24)).alloc (.cells #[i64 4, i64 0, .string ⟨#[]⟩, .slice (some ⟨w.heap.size + 1 + 1 + 1 + 1 + 1 + 1, 0, none⟩) 2 2] 24)).alloc (.cells #[i64 1, i64 256, .string ⟨#[]⟩, .slice none 0 0, i64 3, i64 0, .string ⟨#[]⟩, .slice (some ⟨w.heap.size + 1 + 1 + 1 + 1, 0, none⟩) 2 2] 24)).alloc (.cells #[i64 4, i64 0, .string ⟨#[]⟩, .slice (some ⟨w.heap.size + 1 + 1 + 1 + 1 + 1 + 1 + 1 + 1, 0, none⟩) 2 2] 24)).heap[w.heap.size + 1 + 1 + 1]? = some (.cells #[i64 4, i64 0, .slice (some ⟨w.heap.size, 0, none⟩) 2 2, .slice (some ⟨w.heap.size + 1 + 1, 0, none⟩) 2 2] 28) := blk_alloc (blk_alloc (blk_alloc (blk_alloc (blk_alloc (blk_alloc (heap_at3 _ _ _ (by simp)) _) _) _) _) _) _
  have h4 : ((((((((((w.alloc (.cells #[.string ⟨#[97]⟩, .string ⟨#[98]⟩] 9)).alloc (.cells #[i64 2, i64 3, .slice none 0 0, .slice none 0 0] 28)).alloc (.cells #[i64 1, i64 8, .slice none 0 0, .slice none 0 0, i64 3, i64 2, .slice none 0 0, .slice (some ⟨w.heap.size + 1, 0, none⟩) 1 1] 28)).alloc (.cells #[i64 4, i64 0, .slice (some ⟨w.heap.size, 0, none⟩) 2 2, .slice (some ⟨w.heap.size + 1 + 1, 0, none⟩) 2 2] 28)).alloc (.cells #[i64 2, i64 0, .string ⟨#[120]⟩, .slice none 0 0, i64 2, i64 0, .string ⟨#[121]⟩, .slice none 0 0] 24)).alloc (.cells #[i64 3, i64 0, .string ⟨#[]⟩, .slice (some ⟨w.heap.size + 1 + 1 + 1 + 1, 0, none⟩) 2 2] 24)).alloc (.cells #[i64 1, i64 5, .string ⟨#[]⟩, .slice none 0 0, i64 3, i64 0, .string ⟨#[]⟩, .slice (some ⟨w.heap.size + 1 + 1 + 1 + 1, 0, none⟩) 2 2] 24)).alloc (.cells #[i64 4, i64 0, .string ⟨#[]⟩, .slice (some ⟨w.heap.size + 1 + 1 + 1 + 1 + 1 + 1, 0, none⟩) 2 2] 24)).alloc (.cells #[i64 1, i64 256, .string ⟨#[]⟩, .slice none 0 0, i64 3, i64 0, .string ⟨#[]⟩, .slice (some ⟨w.heap.size + 1 + 1 + 1 + 1, 0, none⟩) 2 2] 24)).alloc (.cells #[i64 4, i64 0, .string ⟨#[]⟩, .slice (some ⟨w.heap.size + 1 + 1 + 1 + 1 + 1 + 1 + 1 + 1, 0, none⟩) 2 2] 24)).heap[w.heap.size + 1 + 1 + 1 + 1]? = some (.cells #[i64 2, i64 0, .string ⟨#[120]⟩, .slice none 0 0, i64 2, i64 0, .string ⟨#[121]⟩, .slice none 0 0] 24) := blk_alloc (blk_alloc (blk_alloc (blk_alloc (blk_alloc (heap_at3 _ _ _ (by simp)) _) _) _) _) _
  have h5 : ((((((((((w.alloc (.cells #[.string ⟨#[97]⟩, .string ⟨#[98]⟩] 9)).alloc (.cells #[i64 2, i64 3, .slice none 0 0, .slice none 0 0] 28)).alloc (.cells #[i64 1, i64 8, .slice none 0 0, .slice none 0 0, i64 3, i64 2, .slice none 0 0, .slice (some ⟨w.heap.size + 1, 0, none⟩) 1 1] 28)).alloc (.cells #[i64 4, i64 0, .slice (some ⟨w.heap.size, 0, none⟩) 2 2, .slice (some ⟨w.heap.size + 1 + 1, 0, none⟩) 2 2] 28)).alloc (.cells #[i64 2, i64 0, .string ⟨#[120]⟩, .slice none 0 0, i64 2, i64 0, .string ⟨#[121]⟩, .slice none 0 0] 24)).alloc (.cells #[i64 3, i64 0, .string ⟨#[]⟩, .slice (some ⟨w.heap.size + 1 + 1 + 1 + 1, 0, none⟩) 2 2] 24)).alloc (.cells #[i64 1, i64 5, .string ⟨#[]⟩, .slice none 0 0, i64 3, i64 0, .string ⟨#[]⟩, .slice (some ⟨w.heap.size + 1 + 1 + 1 + 1, 0, none⟩) 2 2] 24)).alloc (.cells #[i64 4, i64 0, .string ⟨#[]⟩, .slice (some ⟨w.heap.size + 1 + 1 + 1 + 1 + 1 + 1, 0, none⟩) 2 2] 24)).alloc (.cells #[i64 1, i64 256, .string ⟨#[]⟩, .slice none 0 0, i64 3, i64 0, .string ⟨#[]⟩, .slice (some ⟨w.heap.size + 1 + 1 + 1 + 1, 0, none⟩) 2 2] 24)).alloc (.cells #[i64 4, i64 0, .string ⟨#[]⟩, .slice (some ⟨w.heap.size + 1 + 1 + 1 + 1 + 1 + 1 + 1 + 1, 0, none⟩) 2 2] 24)).heap[w.heap.size + 1 + 1 + 1 + 1 + 1]? = some (.cells #[i64 3, i64 0, .string ⟨#[]⟩, .slice (some ⟨w.heap.size + 1 + 1 + 1 + 1, 0, none⟩) 2 2] 24) := blk_alloc (blk_alloc (blk_alloc (blk_alloc (heap_at3 _ _ _ (by simp)) _) _) _) _
  have h6 : ((((((((((w.alloc (.cells #[.string ⟨#[97]⟩, .string ⟨#[98]⟩] 9)).alloc (.cells #[i64 2, i64 3, .slice none 0 0, .slice none 0 0] 28)).alloc (.cells #[i64 1, i64 8, .slice none 0 0, .slice none 0 0, i64 3, i64 2, .slice none 0 0, .slice (some ⟨w.heap.size + 1, 0, none⟩) 1 1] 28)).alloc (.cells #[i64 4, i64 0, .slice (some ⟨w.heap.size, 0, none⟩) 2 2, .slice (some ⟨w.heap.size + 1 + 1, 0, none⟩) 2 2] 28)).alloc (.cells #[i64 2, i64 0, .string ⟨#[120]⟩, .slice none 0 0, i64 2, i64 0, .string ⟨#[121]⟩, .slice none 0 0] 24)).alloc (.cells #[i64 3, i64 0, .string ⟨#[]⟩, .slice (some ⟨w.heap.size + 1 + 1 + 1 + 1, 0, none⟩) 2 2] 24)).alloc (.cells #[i64 1, i64 5, .string ⟨#[]⟩, .slice none 0 0, i64 3, i64 0, .string ⟨#[]⟩, .slice (some ⟨w.heap.size + 1 + 1 + 1 + 1, 0, none⟩) 2 2] 24)).alloc (.cells #[i64 4, i64 0, .string ⟨#[]⟩, .slice (some ⟨w.heap.size + 1 + 1 + 1 + 1 + 1 + 1, 0, none⟩) 2 2] 24)).alloc (.cells #[i64 1, i64 256, .string ⟨#[]⟩, .slice none 0 0, i64 3, i64 0, .string ⟨#[]⟩, .slice (some ⟨w.heap.size + 1 + 1 + 1 + 1, 0, none⟩) 2 2] 24)).alloc (.cells #[i64 4, i64 0, .string ⟨#[]⟩, .slice (some ⟨w.heap.size + 1 + 1 + 1 + 1 + 1 + 1 + 1 + 1, 0, none⟩) 2 2] 24)).heap[w.heap.size + 1 + 1 + 1 + 1 + 1 + 1]? = some (.cells #[i64 1, i64 5, .string ⟨#[]⟩, .slice none 0 0, i64 3, i64 0, .string ⟨#[]⟩, .slice (some ⟨w.heap.size + 1 + 1 + 1 + 1, 0, none⟩) 2 2] 24) := blk_alloc (blk_alloc (blk_alloc (heap_at3 _ _ _ (by simp)) _) _) _
  have h7 : ((((((((((w.alloc (.cells #[.string ⟨#[97]⟩, .string ⟨#[98]⟩] 9)).alloc (.cells #[i64 2, i64 3, .slice none 0 0, .slice none 0 0] 28)).alloc (.cells #[i64 1, i64 8, .slice none 0 0, .slice none 0 0, i64 3, i64 2, .slice none 0 0, .slice (some ⟨w.heap.size + 1, 0, none⟩) 1 1] 28)).alloc (.cells #[i64 4, i64 0, .slice (some ⟨w.heap.size, 0, none⟩) 2 2, .slice (some ⟨w.heap.size + 1 + 1, 0, none⟩) 2 2] 28)).alloc (.cells #[i64 2, i64 0, .string ⟨#[120]⟩, .slice none 0 0, i64 2, i64 0, .string ⟨#[121]⟩, .slice none 0 0] 24)).alloc (.cells #[i64 3, i64 0, .string ⟨#[]⟩, .slice (some ⟨w.heap.size + 1 + 1 + 1 + 1, 0, none⟩) 2 2] 24)).alloc (.cells #[i64 1, i64 5, .string ⟨#[]⟩, .slice none 0 0, i64 3, i64 0, .string ⟨#[]⟩, .slice (some ⟨w.heap.size + 1 + 1 + 1 + 1, 0, none⟩) 2 2] 24)).alloc (.cells #[i64 4, i64 0, .string ⟨#[]⟩, .slice (some ⟨w.heap.size + 1 + 1 + 1 + 1 + 1 + 1, 0, none⟩) 2 2] 24)).alloc (.cells #[i64 1, i64 256, .string ⟨#[]⟩, .slice none 0 0, i64 3, i64 0, .string ⟨#[]⟩, .slice (some ⟨w.heap.size + 1 + 1 + 1 + 1, 0, none⟩) 2 2] 24)).alloc (.cells #[i64 4, i64 0, .string ⟨#[]⟩, .slice (some ⟨w.heap.size + 1 + 1 + 1 + 1 + 1 + 1 + 1 + 1, 0, none⟩) 2 2] 24)).heap[w.heap.size + 1 + 1 + 1 + 1 + 1 + 1 + 1]? = some (.cells #[i64 4, i64 0, .string ⟨#[]⟩, .slice (some ⟨w.heap.size + 1 + 1 + 1 + 1 + 1 + 1, 0, none⟩) 2 2] 24) := blk_alloc (blk_alloc (heap_at3 _ _ _ (by simp)) _) _
  have h8 : ((((((((((w.alloc (.cells #[.string ⟨#[97]⟩, .string ⟨#[98]⟩] 9)).alloc (.cells #[i64 2, i64 3, .slice none 0 0, .slice none 0 0] 28)).alloc (.cells #[i64 1, i64 8, .slice none 0 0, .slice none 0 0, i64 3, i64 2, .slice none 0 0, .slice (some ⟨w.heap.size + 1, 0, none⟩) 1 1] 28)).alloc (.cells #[i64 4, i64 0, .slice (some ⟨w.heap.size, 0, none⟩) 2 2, .slice (some ⟨w.heap.size + 1 + 1, 0, none⟩) 2 2] 28)).alloc (.cells #[i64 2, i64 0, .string ⟨#[120]⟩, .slice none 0 0, i64 2, i64 0, .string ⟨#[121]⟩, .slice none 0 0] 24)).alloc (.cells #[i64 3, i64 0, .string ⟨#[]⟩, .slice (some ⟨w.heap.size + 1 + 1 + 1 + 1, 0, none⟩) 2 2] 24)).alloc (.cells #[i64 1, i64 5, .string ⟨#[]⟩, .slice none 0 0, i64 3, i64 0, .string ⟨#[]⟩, .slice (some ⟨w.heap.size + 1 + 1 + 1 + 1, 0, none⟩) 2 2] 24)).alloc (.cells #[i64 4, i64 0, .string ⟨#[]⟩, .slice (some ⟨w.heap.size + 1 + 1 + 1 + 1 + 1 + 1, 0, none⟩) 2 2] 24)).alloc (.cells #[i64 1, i64 256, .string ⟨#[]⟩, .slice none 0 0, i64 3, i64 0, .string ⟨#[]⟩, .slice (some ⟨w.heap.size + 1 + 1 + 1 + 1, 0, none⟩) 2 2] 24)).alloc (.cells #[i64 4, i64 0, .string ⟨#[]⟩, .slice (some ⟨w.heap.size + 1 + 1 + 1 + 1 + 1 + 1 + 1 + 1, 0, none⟩) 2 2] 24)).heap[w.heap.size + 1 + 1 + 1 + 1 + 1 + 1 + 1 + 1]? = some (.cells #[i64 1, i64 256, .string ⟨#[]⟩, .slice none 0 0, i64 3, i64 0, .string ⟨#[]⟩, .slice (some ⟨w.heap.size + 1 + 1 + 1 + 1, 0, none⟩) 2 2] 24) := blk_alloc (heap_at3 _ _ _ (by simp)) _
  have h9 : ((((((((((w.alloc (.cells #[.string ⟨#[97]⟩, .string ⟨#[98]⟩] 9)).alloc (.cells #[i64 2, i64 3, .slice none 0 0, .slice none 0 0] 28)).alloc (.cells #[i64 1, i64 8, .slice none 0 0, .slice none 0 0, i64 3, i64 2, .slice none 0 0, .slice (some ⟨w.heap.size + 1, 0, none⟩) 1 1] 28)).alloc (.cells #[i64 4, i64 0, .slice (some ⟨w.heap.size, 0, none⟩) 2 2, .slice (some ⟨w.heap.size + 1 + 1, 0, none⟩) 2 2] 28)).alloc (.cells #[i64 2, i64 0, .string ⟨#[120]⟩, .slice none 0 0, i64 2, i64 0, .string ⟨#[121]⟩, .slice none 0 0] 24)).alloc (.cells #[i64 3, i64 0, .string ⟨#[]⟩, .slice (some ⟨w.heap.size + 1 + 1 + 1 + 1, 0, none⟩) 2 2] 24)).alloc (.cells #[i64 1, i64 5, .string ⟨#[]⟩, .slice none 0 0, i64 3, i64 0, .string ⟨#[]⟩, .slice (some ⟨w.heap.size + 1 + 1 + 1 + 1, 0, none⟩) 2 2] 24)).alloc (.cells #[i64 4, i64 0, .string ⟨#[]⟩, .slice (some ⟨w.heap.size + 1 + 1 + 1 + 1 + 1 + 1, 0, none⟩) 2 2] 24)).alloc (.cells #[i64 1, i64 256, .string ⟨#[]⟩, .slice none 0 0, i64 3, i64 0, .string ⟨#[]⟩, .slice (some ⟨w.heap.size + 1 + 1 + 1 + 1, 0, none⟩) 2 2] 24)).alloc (.cells #[i64 4, i64 0, .string ⟨#[]⟩, .slice (some ⟨w.heap.size + 1 + 1 + 1 + 1 + 1 + 1 + 1 + 1, 0, none⟩) 2 2] 24)).heap[w.heap.size + 1 + 1 + 1 + 1 + 1 + 1 + 1 + 1 + 1]? = some (.cells #[i64 4, i64 0, .string ⟨#[]⟩, .slice (some ⟨w.heap.size + 1 + 1 + 1 + 1 + 1 + 1 + 1 + 1, 0, none⟩) 2 2] 24) := heap_at3 _ _ _ (by simp)
  generalize ((((((((((w.alloc (.cells #[.string ⟨#[97]⟩, .string ⟨#[98]⟩] 9)).alloc (.cells #[i64 2, i64 3, .slice none 0 0, .slice none 0 0] 28)).alloc (.cells #[i64 1, i64 8, .slice none 0 0, .slice none 0 0, i64 3, i64 2, .slice none 0 0, .slice (some ⟨w.heap.size + 1, 0, none⟩) 1 1] 28)).alloc (.cells #[i64 4, i64 0, .slice (some ⟨w.heap.size, 0, none⟩) 2 2, .slice (some ⟨w.heap.size + 1 + 1, 0, none⟩) 2 2] 28)).alloc (.cells #[i64 2, i64 0, .string ⟨#[120]⟩, .slice none 0 0, i64 2, i64 0, .string ⟨#[121]⟩, .slice none 0 0] 24)).alloc (.cells #[i64 3, i64 0, .string ⟨#[]⟩, .slice (some ⟨w.heap.size + 1 + 1 + 1 + 1, 0, none⟩) 2 2] 24)).alloc (.cells #[i64 1, i64 5, .string ⟨#[]⟩, .slice none 0 0, i64 3, i64 0, .string ⟨#[]⟩, .slice (some ⟨w.heap.size + 1 + 1 + 1 + 1, 0, none⟩) 2 2] 24)).alloc (.cells #[i64 4, i64 0, .string ⟨#[]⟩, .slice (some ⟨w.heap.size + 1 + 1 + 1 + 1 + 1 + 1, 0, none⟩) 2 2] 24)).alloc (.cells #[i64 1, i64 256, .string ⟨#[]⟩, .slice none 0 0, i64 3, i64 0, .string ⟨#[]⟩, .slice (some ⟨w.heap.size + 1 + 1 + 1 + 1, 0, none⟩) 2 2] 24)).alloc (.cells #[i64 4, i64 0, .string ⟨#[]⟩, .slice (some ⟨w.heap.size + 1 + 1 + 1 + 1 + 1 + 1 + 1 + 1, 0, none⟩) 2 2] 24)) = W at *
  generalize w.heap.size + 1 + 1 + 1 + 1 + 1 + 1 + 1 + 1 + 1 = B9 at *
  generalize w.heap.size + 1 + 1 + 1 + 1 + 1 + 1 + 1 + 1 = B8 at *
  generalize w.heap.size + 1 + 1 + 1 + 1 + 1 + 1 + 1 = B7 at *
  generalize w.heap.size + 1 + 1 + 1 + 1 + 1 + 1 = B6 at *
  generalize w.heap.size + 1 + 1 + 1 + 1 + 1 = B5 at *
  generalize w.heap.size + 1 + 1 + 1 + 1 = B4 at *
  generalize w.heap.size + 1 + 1 + 1 = B3 at *
  generalize w.heap.size + 1 + 1 = B2 at *
  generalize w.heap.size + 1 = B1 at *
  have hx : ∀ (k n : Int) (s : Bs), s.length ≤ 10 → Vd W (fun _ => True) (.mk k n s []) (.slice none 0 0) := fun k n s hs => Vd.leaf W _ k n s (by unfold maxLen; omega) _ _
  have hL : Vd W (fun _ => True) L5 (.slice (some ⟨B4, 0, none⟩) 2 2) := Vd.two (hx 2 0 [120] (by decide)) (hx 2 0 [121] (by decide)) h4 trivial (Nat.zero_le _)
  have hA : Rd W (fun _ => True) (.mk 3 2 [] [.mk 2 3 [] []]) (.slice none 0 0) (.slice (some ⟨B1, 0, none⟩) 1 1) := Rd.one (T := .mk 2 3 [] []) (Rd.leaf _ _ _ _) h1 trivial
  exact ⟨h3, h5, h7, h9, Rd.two (a := .mk 1 8 [] []) (Rd.leaf _ _ _ _) hA (strs_two h0 trivial (by decide) (by decide)) h2 trivial, Vd.two (a := .mk 1 5 [] []) (hx 1 5 [] (by decide)) hL h6 trivial (Nat.zero_le _), Vd.two (a := .mk 1 256 [] []) (hx 1 256 [] (by decide)) hL h8 trivial (Nat.zero_le _)⟩
theorem M5.under {W W' : World} {B0 B1 B2 B3 B4 B5 B6 B7 B8 B9 : Nat} (h : M5 W B0 B1 B2 B3 B4 B5 B6 B7 B8 B9) (hb : Below W.heap.size W W') : M5 W' B0 B1 B2 B3 B4 B5 B6 B7 B8 B9 := ⟨blk_below h.t hb, blk_below h.l hb, blk_below h.v hb, blk_below h.x hb, h.T.under hb, h.V.under hb, h.X.under hb⟩
set_option maxRecDepth 100000 in
set_option maxHeartbeats 12800000 in
theorem five_ok (w : World) (hP : Pw w) : Calls Tryd.prog 10 #[] w fun e w' => e = .returned (.bool true) ∧ Below w.heap.size w w' := by
  have HM0 := hid (five_mem w)
  have HP0 := hid hP
  have HB0 : Hid (Below w.heap.size w ((((((((((w.alloc (.cells #[.string ⟨#[97]⟩, .string ⟨#[98]⟩] 9)).alloc (.cells #[i64 2, i64 3, .slice none 0 0, .slice none 0 0] 28)).alloc (.cells #[i64 1, i64 8, .slice none 0 0, .slice none 0 0, i64 3, i64 2, .slice none 0 0, .slice (some ⟨w.heap.size + 1, 0, none⟩) 1 1] 28)).alloc (.cells #[i64 4, i64 0, .slice (some ⟨w.heap.size, 0, none⟩) 2 2, .slice (some ⟨w.heap.size + 1 + 1, 0, none⟩) 2 2] 28)).alloc (.cells #[i64 2, i64 0, .string ⟨#[120]⟩, .slice none 0 0, i64 2, i64 0, .string ⟨#[121]⟩, .slice none 0 0] 24)).alloc (.cells #[i64 3, i64 0, .string ⟨#[]⟩, .slice (some ⟨w.heap.size + 1 + 1 + 1 + 1, 0, none⟩) 2 2] 24)).alloc (.cells #[i64 1, i64 5, .string ⟨#[]⟩, .slice none 0 0, i64 3, i64 0, .string ⟨#[]⟩, .slice (some ⟨w.heap.size + 1 + 1 + 1 + 1, 0, none⟩) 2 2] 24)).alloc (.cells #[i64 4, i64 0, .string ⟨#[]⟩, .slice (some ⟨w.heap.size + 1 + 1 + 1 + 1 + 1 + 1, 0, none⟩) 2 2] 24)).alloc (.cells #[i64 1, i64 256, .string ⟨#[]⟩, .slice none 0 0, i64 3, i64 0, .string ⟨#[]⟩, .slice (some ⟨w.heap.size + 1 + 1 + 1 + 1, 0, none⟩) 2 2] 24)).alloc (.cells #[i64 4, i64 0, .string ⟨#[]⟩, .slice (some ⟨w.heap.size + 1 + 1 + 1 + 1 + 1 + 1 + 1 + 1, 0, none⟩) 2 2] 24))) := ((((((((((below_one w _).trans ((below_one _ _).mono (by simp <;> omega))).trans ((below_one _ _).mono (by simp <;> omega))).trans ((below_one _ _).mono (by simp <;> omega))).trans ((below_one _ _).mono (by simp <;> omega))).trans ((below_one _ _).mono (by simp <;> omega))).trans ((below_one _ _).mono (by simp <;> omega))).trans ((below_one _ _).mono (by simp <;> omega))).trans ((below_one _ _).mono (by simp <;> omega))).trans ((below_one _ _).mono (by simp <;> omega)))
  clear hP
  go_enter Tryd.func10, Tryd.ntmps10
  go_upto_region 5 with fail
  generalize ((((((((((w.alloc (.cells #[.string ⟨#[97]⟩, .string ⟨#[98]⟩] 9)).alloc (.cells #[i64 2, i64 3, .slice none 0 0, .slice none 0 0] 28)).alloc (.cells #[i64 1, i64 8, .slice none 0 0, .slice none 0 0, i64 3, i64 2, .slice none 0 0, .slice (some ⟨w.heap.size + 1, 0, none⟩) 1 1] 28)).alloc (.cells #[i64 4, i64 0, .slice (some ⟨w.heap.size, 0, none⟩) 2 2, .slice (some ⟨w.heap.size + 1 + 1, 0, none⟩) 2 2] 28)).alloc (.cells #[i64 2, i64 0, .string ⟨#[120]⟩, .slice none 0 0, i64 2, i64 0, .string ⟨#[121]⟩, .slice none 0 0] 24)).alloc (.cells #[i64 3, i64 0, .string ⟨#[]⟩, .slice (some ⟨w.heap.size + 1 + 1 + 1 + 1, 0, none⟩) 2 2] 24)).alloc (.cells #[i64 1, i64 5, .string ⟨#[]⟩, .slice none 0 0, i64 3, i64 0, .string ⟨#[]⟩, .slice (some ⟨w.heap.size + 1 + 1 + 1 + 1, 0, none⟩) 2 2] 24)).alloc (.cells #[i64 4, i64 0, .string ⟨#[]⟩, .slice (some ⟨w.heap.size + 1 + 1 + 1 + 1 + 1 + 1, 0, none⟩) 2 2] 24)).alloc (.cells #[i64 1, i64 256, .string ⟨#[]⟩, .slice none 0 0, i64 3, i64 0, .string ⟨#[]⟩, .slice (some ⟨w.heap.size + 1 + 1 + 1 + 1, 0, none⟩) 2 2] 24)).alloc (.cells #[i64 4, i64 0, .string ⟨#[]⟩, .slice (some ⟨w.heap.size + 1 + 1 + 1 + 1 + 1 + 1 + 1 + 1, 0, none⟩) 2 2] 24)) = W at *
  generalize w.heap.size + 1 + 1 + 1 + 1 + 1 + 1 + 1 + 1 + 1 = B9 at *
  generalize w.heap.size + 1 + 1 + 1 + 1 + 1 + 1 + 1 + 1 = B8 at *
  generalize w.heap.size + 1 + 1 + 1 + 1 + 1 + 1 + 1 = B7 at *
  generalize w.heap.size + 1 + 1 + 1 + 1 + 1 + 1 = B6 at *
  generalize w.heap.size + 1 + 1 + 1 + 1 + 1 = B5 at *
  generalize w.heap.size + 1 + 1 + 1 + 1 = B4 at *
  generalize w.heap.size + 1 + 1 + 1 = B3 at *
  generalize w.heap.size + 1 + 1 = B2 at *
  generalize w.heap.size + 1 = B1 at *
  obtain ⟨B0, hB0⟩ : ∃ B0, B0 = w.heap.size := ⟨_, rfl⟩
  rw [← hB0] at HM0 ⊢
  have HBe := hid hB0
  clear hB0
  have tc0 : W.cell? ⟨B3, 0, none⟩ = some (i64 4) := blk_cell HM0.out.t 0
  have tc1 : W.cell? ⟨B3, 1, none⟩ = some (i64 0) := blk_cell HM0.out.t 1
  have tc2 : W.cell? ⟨B3, 2, none⟩ = some (.slice (some ⟨B0, 0, none⟩) 2 2) := blk_cell HM0.out.t 2
  have tc3 : W.cell? ⟨B3, 3, none⟩ = some (.slice (some ⟨B2, 0, none⟩) 2 2) := blk_cell HM0.out.t 3
  have vc0 : W.cell? ⟨B7, 0, none⟩ = some (i64 4) := blk_cell HM0.out.v 0
  have vc1 : W.cell? ⟨B7, 1, none⟩ = some (i64 0) := blk_cell HM0.out.v 1
  have vc2 : W.cell? ⟨B7, 2, none⟩ = some (.string ⟨#[]⟩) := blk_cell HM0.out.v 2
  have vc3 : W.cell? ⟨B7, 3, none⟩ = some (.slice (some ⟨B6, 0, none⟩) 2 2) := blk_cell HM0.out.v 3
  have xc0 : W.cell? ⟨B9, 0, none⟩ = some (i64 4) := blk_cell HM0.out.x 0
  have xc1 : W.cell? ⟨B9, 1, none⟩ = some (i64 0) := blk_cell HM0.out.x 1
  have xc2 : W.cell? ⟨B9, 2, none⟩ = some (.string ⟨#[]⟩) := blk_cell HM0.out.x 2
  have xc3 : W.cell? ⟨B9, 3, none⟩ = some (.slice (some ⟨B8, 0, none⟩) 2 2) := blk_cell HM0.out.x 3
  have HB1 : Hid (Below w.heap.size w (W.alloc (.cells #[.string ⟨#[98]⟩, .string ⟨#[49]⟩] 9))) := HB0.out.trans ((below_one W _).mono HB0.out.size)
  have HA1 : Hid ((W.alloc (.cells #[.string ⟨#[98]⟩, .string ⟨#[49]⟩] 9)).heap[W.heap.size]? = some (.cells #[.string ⟨#[98]⟩, .string ⟨#[49]⟩] 9)) := heap_last W _
  have HM1 := hid (HM0.out.under (below_one W (.cells #[.string ⟨#[98]⟩, .string ⟨#[49]⟩] 9)))
  have HAT : Hid (Calls Tryd.prog 26 #[.agg #[i64 4, i64 0, .string ⟨#[]⟩, .slice (some ⟨B6, 0, none⟩) 2 2], .agg #[i64 4, i64 0, .slice (some ⟨B0, 0, none⟩) 2 2, .slice (some ⟨B2, 0, none⟩) 2 2], .slice (some ⟨W.heap.size, 0, none⟩) 2 2] (W.alloc (.cells #[.string ⟨#[98]⟩, .string ⟨#[49]⟩] 9)) fun e w' => ∃ a c, e = .returned (.tuple #[.agg #[i64 2, i64 0, .string ⟨#[121]⟩, .slice a 0 c], i64 0]) ∧ Below (W.alloc (.cells #[.string ⟨#[98]⟩, .string ⟨#[49]⟩] 9)).heap.size (W.alloc (.cells #[.string ⟨#[98]⟩, .string ⟨#[49]⟩] 9)) w') := by
    have h1 := strs_two (S := fun _ => True) (a := [98]) (b := [49]) HA1.out trivial (by decide) (by decide)
    have := at_in V5 T5 [[98], [49]] (W.alloc (.cells #[.string ⟨#[98]⟩, .string ⟨#[49]⟩] 9)) _ _ _ _ HM1.out.V HM1.out.T h1 (HP0.out.below HB1.out) (by decide) V5_fits (fun U hU W kv hV => by
      rw [at5] at hU
      cases hU
      exact copy_leaf _ W _ kv hV rfl)
    rw [at5] at this
    refine Calls.mono (show Calls Tryd.prog 26 #[.agg #[i64 4, i64 0, .string ⟨#[]⟩, .slice (some ⟨B6, 0, none⟩) 2 2], .agg #[i64 4, i64 0, .slice (some ⟨B0, 0, none⟩) 2 2, .slice (some ⟨B2, 0, none⟩) 2 2], .slice (some ⟨W.heap.size, 0, none⟩) 2 2] (W.alloc (.cells #[.string ⟨#[98]⟩, .string ⟨#[49]⟩] 9)) _ from this) ?_
    rintro e w' ⟨h2, _, h3⟩
    obtain ⟨a, c, h4, _⟩ := h3 _ rfl
    exact ⟨a, c, h4, h2⟩
  go_wp2_with fail
  refine HAT.out.mono ?_
  rintro e w2 ⟨a9, c9, rfl, hb2⟩
  have HB2 : Hid (Below w.heap.size w w2) := HB1.out.trans (hb2.mono HB1.out.size)
  have HM2 := hid (HM1.out.under hb2)
  have HB3 : Hid (Below w.heap.size w (w2.alloc (.cells #[i64 2, i64 0, .string ⟨#[121]⟩, .slice a9 0 c9] 24))) := HB2.out.trans ((below_one w2 _).mono HB2.out.size)
  have HM3 := hid (HM2.out.under (below_one w2 (.cells #[i64 2, i64 0, .string ⟨#[121]⟩, .slice a9 0 c9] 24)))
  have HX3 : Hid ((w2.alloc (.cells #[i64 2, i64 0, .string ⟨#[121]⟩, .slice a9 0 c9] 24)).heap[w2.heap.size]? = some (.cells #[i64 2, i64 0, .string ⟨#[121]⟩, .slice a9 0 c9] 24)) := heap_last w2 _
  clear hb2 HAT tc0 tc1 tc2 tc3 vc0 vc1 vc2 vc3 xc0 xc1 xc2 xc3
  go_upto_region 6 with fail
  obtain ⟨Q, hQ⟩ : ∃ Q, Q = w2.heap.size := ⟨_, rfl⟩
  rw [← hQ] at HX3 ⊢
  clear hQ
  generalize w2.alloc (.cells #[i64 2, i64 0, .string ⟨#[121]⟩, .slice a9 0 c9] 24) = X at *
  have tc0 : X.cell? ⟨B3, 0, none⟩ = some (i64 4) := blk_cell HM3.out.t 0
  have tc1 : X.cell? ⟨B3, 1, none⟩ = some (i64 0) := blk_cell HM3.out.t 1
  have tc2 : X.cell? ⟨B3, 2, none⟩ = some (.slice (some ⟨B0, 0, none⟩) 2 2) := blk_cell HM3.out.t 2
  have tc3 : X.cell? ⟨B3, 3, none⟩ = some (.slice (some ⟨B2, 0, none⟩) 2 2) := blk_cell HM3.out.t 3
  have vc0 : X.cell? ⟨B7, 0, none⟩ = some (i64 4) := blk_cell HM3.out.v 0
  have vc1 : X.cell? ⟨B7, 1, none⟩ = some (i64 0) := blk_cell HM3.out.v 1
  have vc2 : X.cell? ⟨B7, 2, none⟩ = some (.string ⟨#[]⟩) := blk_cell HM3.out.v 2
  have vc3 : X.cell? ⟨B7, 3, none⟩ = some (.slice (some ⟨B6, 0, none⟩) 2 2) := blk_cell HM3.out.v 3
  have xc0 : X.cell? ⟨B9, 0, none⟩ = some (i64 4) := blk_cell HM3.out.x 0
  have xc1 : X.cell? ⟨B9, 1, none⟩ = some (i64 0) := blk_cell HM3.out.x 1
  have xc2 : X.cell? ⟨B9, 2, none⟩ = some (.string ⟨#[]⟩) := blk_cell HM3.out.x 2
  have xc3 : X.cell? ⟨B9, 3, none⟩ = some (.slice (some ⟨B8, 0, none⟩) 2 2) := blk_cell HM3.out.x 3
  have HF1 : Hid (Calls Tryd.prog 14 #[.agg #[i64 4, i64 0, .string ⟨#[]⟩, .slice (some ⟨B6, 0, none⟩) 2 2], .agg #[i64 4, i64 0, .slice (some ⟨B0, 0, none⟩) 2 2, .slice (some ⟨B2, 0, none⟩) 2 2]] X fun e w' => e = .returned (.bool true) ∧ Below X.heap.size X w') := by
    have := fits_ok V5 T5 X _ _ _ _ _ HM3.out.V HM3.out.T (by decide)
    rw [V5_fits] at this
    exact this
  go_wp2_with fail
  refine HF1.out.mono ?_
  rintro e w4 ⟨rfl, hb4⟩
  have HB4 : Hid (Below w.heap.size w w4) := HB3.out.trans (hb4.mono HB3.out.size)
  have HM4 := hid (HM3.out.under hb4)
  have HX4 : Hid (w4.heap[Q]? = some (.cells #[i64 2, i64 0, .string ⟨#[121]⟩, .slice a9 0 c9] 24)) := blk_below HX3.out hb4
  clear hb4 HF1 tc0 tc1 tc2 tc3 vc0 vc1 vc2 vc3 xc0 xc1 xc2 xc3
  have tc0 : w4.cell? ⟨B3, 0, none⟩ = some (i64 4) := blk_cell HM4.out.t 0
  have tc1 : w4.cell? ⟨B3, 1, none⟩ = some (i64 0) := blk_cell HM4.out.t 1
  have tc2 : w4.cell? ⟨B3, 2, none⟩ = some (.slice (some ⟨B0, 0, none⟩) 2 2) := blk_cell HM4.out.t 2
  have tc3 : w4.cell? ⟨B3, 3, none⟩ = some (.slice (some ⟨B2, 0, none⟩) 2 2) := blk_cell HM4.out.t 3
  have vc0 : w4.cell? ⟨B7, 0, none⟩ = some (i64 4) := blk_cell HM4.out.v 0
  have vc1 : w4.cell? ⟨B7, 1, none⟩ = some (i64 0) := blk_cell HM4.out.v 1
  have vc2 : w4.cell? ⟨B7, 2, none⟩ = some (.string ⟨#[]⟩) := blk_cell HM4.out.v 2
  have vc3 : w4.cell? ⟨B7, 3, none⟩ = some (.slice (some ⟨B6, 0, none⟩) 2 2) := blk_cell HM4.out.v 3
  have xc0 : w4.cell? ⟨B9, 0, none⟩ = some (i64 4) := blk_cell HM4.out.x 0
  have xc1 : w4.cell? ⟨B9, 1, none⟩ = some (i64 0) := blk_cell HM4.out.x 1
  have xc2 : w4.cell? ⟨B9, 2, none⟩ = some (.string ⟨#[]⟩) := blk_cell HM4.out.x 2
  have xc3 : w4.cell? ⟨B9, 3, none⟩ = some (.slice (some ⟨B8, 0, none⟩) 2 2) := blk_cell HM4.out.x 3
  have HF2 : Hid (Calls Tryd.prog 14 #[.agg #[i64 4, i64 0, .string ⟨#[]⟩, .slice (some ⟨B8, 0, none⟩) 2 2], .agg #[i64 4, i64 0, .slice (some ⟨B0, 0, none⟩) 2 2, .slice (some ⟨B2, 0, none⟩) 2 2]] w4 fun e w' => e = .returned (.bool false) ∧ Below w4.heap.size w4 w') := by
    have := fits_ok X5 T5 w4 _ _ _ _ _ HM4.out.X HM4.out.T (by decide)
    rw [X5_fits] at this
    exact this
  go_wp2_with fail
  refine HF2.out.mono ?_
  rintro e w5 ⟨rfl, hb5⟩
  have HB5 : Hid (Below w.heap.size w w5) := HB4.out.trans (hb5.mono HB4.out.size)
  have HM5 := hid (HM4.out.under hb5)
  have HX5 : Hid (w5.heap[Q]? = some (.cells #[i64 2, i64 0, .string ⟨#[121]⟩, .slice a9 0 c9] 24)) := blk_below HX4.out hb5
  clear hb5 HF2 tc0 tc1 tc2 tc3 vc0 vc1 vc2 vc3 xc0 xc1 xc2 xc3
  have tc0 : w5.cell? ⟨B3, 0, none⟩ = some (i64 4) := blk_cell HM5.out.t 0
  have tc1 : w5.cell? ⟨B3, 1, none⟩ = some (i64 0) := blk_cell HM5.out.t 1
  have tc2 : w5.cell? ⟨B3, 2, none⟩ = some (.slice (some ⟨B0, 0, none⟩) 2 2) := blk_cell HM5.out.t 2
  have tc3 : w5.cell? ⟨B3, 3, none⟩ = some (.slice (some ⟨B2, 0, none⟩) 2 2) := blk_cell HM5.out.t 3
  have vc0 : w5.cell? ⟨B7, 0, none⟩ = some (i64 4) := blk_cell HM5.out.v 0
  have vc1 : w5.cell? ⟨B7, 1, none⟩ = some (i64 0) := blk_cell HM5.out.v 1
  have vc2 : w5.cell? ⟨B7, 2, none⟩ = some (.string ⟨#[]⟩) := blk_cell HM5.out.v 2
  have vc3 : w5.cell? ⟨B7, 3, none⟩ = some (.slice (some ⟨B6, 0, none⟩) 2 2) := blk_cell HM5.out.v 3
  have xc0 : w5.cell? ⟨B9, 0, none⟩ = some (i64 4) := blk_cell HM5.out.x 0
  have xc1 : w5.cell? ⟨B9, 1, none⟩ = some (i64 0) := blk_cell HM5.out.x 1
  have xc2 : w5.cell? ⟨B9, 2, none⟩ = some (.string ⟨#[]⟩) := blk_cell HM5.out.x 2
  have xc3 : w5.cell? ⟨B9, 3, none⟩ = some (.slice (some ⟨B8, 0, none⟩) 2 2) := blk_cell HM5.out.x 3
  have HF3 : Hid (Calls Tryd.prog 15 #[.agg #[i64 4, i64 0, .string ⟨#[]⟩, .slice (some ⟨B8, 0, none⟩) 2 2], .agg #[i64 4, i64 0, .slice (some ⟨B0, 0, none⟩) 2 2, .slice (some ⟨B2, 0, none⟩) 2 2]] w5 (FirstOk w5 [0, 0])) := by
    have := misfit_ok X5 T5 w5 _ _ _ _ _ HM5.out.X HM5.out.T (by decide)
    rw [X5_mis] at this
    exact this
  go_wp2_with fail
  refine HF3.out.mono ?_
  rintro e w6 ⟨ao, cap, rfl, hb6, hcp, hn6⟩
  have HB6 : Hid (Below w.heap.size w w6) := HB5.out.trans (hb6.mono HB5.out.size)
  have HM6 := hid (HM5.out.under hb6)
  have HX6 : Hid (w6.heap[Q]? = some (.cells #[i64 2, i64 0, .string ⟨#[121]⟩, .slice a9 0 c9] 24)) := blk_below HX5.out hb6
  have HN6 := hid hn6
  have HB7 : Hid (Below w.heap.size w (w6.alloc (.cells #[i64 0, i64 0] 3))) := HB6.out.trans ((below_one w6 _).mono HB6.out.size)
  have HI7 : Hid ((w6.alloc (.cells #[i64 0, i64 0] 3)).heap[w6.heap.size]? = some (.cells #[i64 0, i64 0] 3)) := heap_last w6 _
  have HM7 := hid (HM6.out.under (below_one w6 (.cells #[i64 0, i64 0] 3)))
  have HX7 : Hid ((w6.alloc (.cells #[i64 0, i64 0] 3)).heap[Q]? = some (.cells #[i64 2, i64 0, .string ⟨#[121]⟩, .slice a9 0 c9] 24)) := blk_alloc HX6.out _
  have HIN : Hid (Calls Tryd.prog 17 #[.slice ao 2 cap, .slice (some ⟨w6.heap.size, 0, none⟩) 2 2] (w6.alloc (.cells #[i64 0, i64 0] 3)) fun e w' => e = .returned (.bool true) ∧ ∃ n, w' = (w6.alloc (.cells #[i64 0, i64 0] 3)).drewN n) := by
    have h1 : Nls (w6.alloc (.cells #[i64 0, i64 0] 3)) (fun _ => True) (.slice (some ⟨w6.heap.size, 0, none⟩) 2 2) [0, 0] := by
      refine ⟨_, 2, rfl, Nat.le_refl _, Or.inr ⟨w6.heap.size, 0, rfl, trivial, blk_lt HI7.out, fun i x hx => ?_⟩⟩
      rw [Nat.zero_add, blk_cell HI7.out]
      match i, hx with
      | 0, hx => cases hx; rfl
      | 1, hx => cases hx; rfl
      | i + 2, hx => simp at hx
    exact ints_ok [0, 0] [0, 0] _ _ _ _ _ (HN6.out.under (below_one w6 _)) h1 (by decide) (by decide)
  clear hb6 hcp hn6 HF3 tc0 tc1 tc2 tc3 vc0 vc1 vc2 vc3 xc0 xc1 xc2 xc3
  go_wp2_with fail
  refine HIN.out.mono ?_
  rintro e w8 ⟨rfl, nd, rfl⟩
  have HB8 : Hid (Below w.heap.size w ((w6.alloc (.cells #[i64 0, i64 0] 3)).drewN nd)) := below_drewN HB7.out nd
  have HM8 := hid (HM7.out.under (below_drewN (Below.refl _ (w6.alloc (.cells #[i64 0, i64 0] 3))) nd))
  have HX8 : Hid (((w6.alloc (.cells #[i64 0, i64 0] 3)).drewN nd).heap[Q]? = some (.cells #[i64 2, i64 0, .string ⟨#[121]⟩, .slice a9 0 c9] 24)) := HX7.out
  generalize (w6.alloc (.cells #[i64 0, i64 0] 3)).drewN nd = W8 at *
  clear HIN
  have tc0 : W8.cell? ⟨B3, 0, none⟩ = some (i64 4) := blk_cell HM8.out.t 0
  have tc1 : W8.cell? ⟨B3, 1, none⟩ = some (i64 0) := blk_cell HM8.out.t 1
  have tc2 : W8.cell? ⟨B3, 2, none⟩ = some (.slice (some ⟨B0, 0, none⟩) 2 2) := blk_cell HM8.out.t 2
  have tc3 : W8.cell? ⟨B3, 3, none⟩ = some (.slice (some ⟨B2, 0, none⟩) 2 2) := blk_cell HM8.out.t 3
  have vc0 : W8.cell? ⟨B7, 0, none⟩ = some (i64 4) := blk_cell HM8.out.v 0
  have vc1 : W8.cell? ⟨B7, 1, none⟩ = some (i64 0) := blk_cell HM8.out.v 1
  have vc2 : W8.cell? ⟨B7, 2, none⟩ = some (.string ⟨#[]⟩) := blk_cell HM8.out.v 2
  have vc3 : W8.cell? ⟨B7, 3, none⟩ = some (.slice (some ⟨B6, 0, none⟩) 2 2) := blk_cell HM8.out.v 3
  have xc0 : W8.cell? ⟨B9, 0, none⟩ = some (i64 4) := blk_cell HM8.out.x 0
  have xc1 : W8.cell? ⟨B9, 1, none⟩ = some (i64 0) := blk_cell HM8.out.x 1
  have xc2 : W8.cell? ⟨B9, 2, none⟩ = some (.string ⟨#[]⟩) := blk_cell HM8.out.x 2
  have xc3 : W8.cell? ⟨B9, 3, none⟩ = some (.slice (some ⟨B8, 0, none⟩) 2 2) := blk_cell HM8.out.x 3
  have q2 : W8.cell? ⟨Q, 2, none⟩ = some (.string ⟨#[121]⟩) := blk_cell HX8.out 2
  have HSZ : Hid (Calls Tryd.prog 23 #[.agg #[i64 4, i64 0, .string ⟨#[]⟩, .slice (some ⟨B6, 0, none⟩) 2 2]] W8 fun e w' => e = .returned (i64 5) ∧ Below W8.heap.size W8 w') := size_ok V5 W8 _ _ HM8.out.V (by decide)
  go_wp2_with fail
  refine HSZ.out.mono ?_
  rintro e w9 ⟨rfl, hb9⟩
  have HB9 : Hid (Below w.heap.size w w9) := HB8.out.trans (hb9.mono HB8.out.size)
  clear hb9
  go_wp2_with fail
  go_ret
  exact ⟨rfl, HB9.out⟩
end Go.Proofs.YtgiemijhndanjaaDoor
