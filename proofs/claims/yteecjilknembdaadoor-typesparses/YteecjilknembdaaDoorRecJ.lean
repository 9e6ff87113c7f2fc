/- imagoref15's fields: what its loop keeps; no statement is proved in this text. -/
import Derived.Test.YteecjilknembdaaDoorGrow
import Derived.Test.YteecjilknembdaaDoorTk0
namespace Go.Proofs.YteecjilknembdaaDoor
open Go.ChangeShapes Go.WideShapes Go.ChangeAt Go.RowKit Go.Deep

abbrev recJ (nv kv : Value) : Obj := .cells #[i64 4, i64 0, nv, kv] 37
abbrev zG : Obj := .cells #[i64 0, i64 0, .slice none 0 0, .slice none 0 0, i64 0] 63
/-- Where a kid may stand. -/
def Avj (lo R Tb : Nat) (nv : Value) (b : Nat) : Prop := lo ≤ b ∧ b ≠ R ∧ b ≠ Tb ∧ some b ≠ nv.ownBlock
structure RecJ (w wr : World) (R Tb i : Nat) (N : List Bs) (Ks : List Kd) (nv kv : Value) : Prop where
  hR : wr.heap[R]? = some zG
  hT : wr.heap[Tb]? = some (recJ nv kv)
  on : wr.ownsRow w.heap.size 9 1 nv N.length (N.map str)
  ok : KidsR wr w.heap.size 37 (Avj w.heap.size R Tb nv) kv Ks
  s2 : kv.ownBlock ≠ some Tb
  ln : N.length = i
  lk : Ks.length = i
  ns : ∀ x ∈ N, x.length ≤ maxLen
  bb : Below w.heap.size w wr
structure LowJ (w : World) (R Tb : Nat) : Prop where
  r : w.heap.size ≤ R
  t : w.heap.size ≤ Tb
  ne : R ≠ Tb
theorem RecJ.nvF {w wr : World} {R Tb i : Nat} {N : List Bs} {Ks : List Kd} {nv kv : Value} (h : RecJ w wr R Tb i N Ks nv kv) : (∃ a c, nv = .slice a i c) ∧ ∃ a c, kv = .slice a i c := by
  obtain ⟨a, c, h1, _⟩ := own_slice h.on
  obtain ⟨a', c', h2, _⟩ := own_slice h.ok.own
  rw [h.ln] at h1
  rw [h.lk] at h2
  exact ⟨⟨a, c, h1⟩, a', c', h2⟩
theorem RecJ.below {w wr wr' : World} {R Tb i : Nat} {N : List Bs} {Ks : List Kd} {nv kv : Value} (h : RecJ w wr R Tb i N Ks nv kv) (ht : Below wr.heap.size wr wr') : RecJ w wr' R Tb i N Ks nv kv := by
  refine ⟨blk_below h.hR ht, blk_below h.hT ht, own_keep1 h.on fun k hk => ht.block k (h.on.lt k hk).2, ?_, h.s2, h.ln, h.lk, h.ns, h.bb.trans (ht.mono h.bb.size)⟩
  exact h.ok.move ht.size (fun k hk => ht.block k (h.ok.own.lt k hk).2) fun b hb hlt _ => ⟨hb, ht.block b hlt⟩
set_option maxHeartbeats 1600000 in
/-- A field more. -/
theorem recj_push {w X : World} {R Tb i : Nat} {N : List Bs} {Ks : List Kd} {nv kv : Value} (hw : LowJ w R Tb) (h : RecJ w X R Tb i N Ks nv kv) (T : Ty) (a1 : Option Addr) (n1 c1 : Nat) (a2 : Option Addr) (n2 c2 : Nat)
    (hK : Rd X (fun b => Avj w.heap.size R Tb nv b ∧ some b ≠ kv.ownBlock) T (.slice a1 n1 c1) (.slice a2 n2 c2)) (x : Bs) (hx : x.length ≤ maxLen) (hi : i < 13) (Kb : Nat) (kO : Array Value) (hKb : X.heap[Kb]? = some (.cells kO 63)) :
    ∃ ao1 cap1 Y1 ao2 cap2 Y3, (Builtin.append_ #[22, 22] 22 #[nv, .slice (some ⟨X.heap.size, 0, none⟩) 1 1]).run Tryd.prog (X.alloc (.cells #[str x] 9)) = .ok (.slice ao1 (i + 1) cap1) Y1 ∧ Y1.heap[Tb]? = some (recJ nv kv) ∧
      (Y1.setCell ⟨Tb, 2, none⟩ (.slice ao1 (i + 1) cap1)).heap[Tb]? = some (recJ (.slice ao1 (i + 1) cap1) kv) ∧ (Y1.setCell ⟨Tb, 2, none⟩ (.slice ao1 (i + 1) cap1)).heap[Kb]? = some (.cells kO 63) ∧
      (Builtin.append_ #[35, 35] 35 #[kv, .slice (some ⟨(Y1.setCell ⟨Tb, 2, none⟩ (.slice ao1 (i + 1) cap1)).heap.size, 0, none⟩) 1 1]).run Tryd.prog ((Y1.setCell ⟨Tb, 2, none⟩ (.slice ao1 (i + 1) cap1)).alloc (.cells #[i64 T.kind, i64 T.num, .slice a1 n1 c1, .slice a2 n2 c2] 37)) = .ok (.slice ao2 (i + 1) cap2) Y3 ∧
      Y3.heap[Tb]? = some (recJ (.slice ao1 (i + 1) cap1) kv) ∧ RecJ w (Y3.setCell ⟨Tb, 3, none⟩ (.slice ao2 (i + 1) cap2)) R Tb (i + 1) (N ++ [x]) (Ks ++ [(T, .slice a1 n1 c1, .slice a2 n2 c2)]) (.slice ao1 (i + 1) cap1) (.slice ao2 (i + 1) cap2) ∧ (Y3.setCell ⟨Tb, 3, none⟩ (.slice ao2 (i + 1) cap2)).heap[Kb]? = some (.cells kO 63) ∧ Y1.heap[Kb]? = some (.cells kO 63) := by
  have z2 := hw.r
  have z3 := hw.t
  have z4 := hw.ne
  have hXz := h.bb.size
  have hKT : Kb ≠ Tb := by
    rintro rfl
    have := h.hT
    rw [hKb] at this
    cases this
  obtain ⟨ao1, cap1, Y1, g1, g2, g3, g4, g5⟩ := push_name h.on x (by have := h.ln; omega) hXz
  rw [h.ln] at g1 g2 g5
  have eT : Y1.heap[Tb]? = some (recJ nv kv) := g3.kept _ _ h.hT (by rfl)
  have eR : Y1.heap[R]? = some zG := g3.kept _ _ h.hR (by rfl)
  have eK : Y1.heap[Kb]? = some (.cells kO 63) := g3.kept _ _ hKb (by rfl)
  generalize hs1 : (Value.slice ao1 (i + 1) cap1) = s1 at *
  have fT : (Y1.setCell ⟨Tb, 2, none⟩ s1).heap[Tb]? = some (recJ s1 kv) := by
    have := heap_setCell_same Y1 Tb 2 _ 37 s1 eT
    simpa using this
  have fK : (Y1.setCell ⟨Tb, 2, none⟩ s1).heap[Kb]? = some (.cells kO 63) := by rw [Below.heap_setCell _ _ _ _ hKT]; exact eK
  have fR : (Y1.setCell ⟨Tb, 2, none⟩ s1).heap[R]? = some zG := by rw [Below.heap_setCell _ _ _ _ (show R ≠ Tb from z4)]; exact eR
  have fz : X.heap.size ≤ (Y1.setCell ⟨Tb, 2, none⟩ s1).heap.size := by have := g3.size; simpa [World.setCell] using this
  have nT : s1.ownBlock ≠ some Tb := by
    intro e
    obtain ⟨c, hc⟩ := own_tag g2 e
    rw [eT] at hc
    cases hc
  have f1 : (Y1.setCell ⟨Tb, 2, none⟩ s1).ownsRow w.heap.size 9 1 s1 (N ++ [x]).length ((N ++ [x]).map str) := own_keep1 g2 fun k hk => Below.heap_setCell _ _ _ _ (fun e => nT (by rw [hk]; exact congrArg some e))
  have old : ∀ k, k < X.heap.size → some k ≠ nv.ownBlock → k ≠ Tb → (Y1.setCell ⟨Tb, 2, none⟩ s1).heap[k]? = X.heap[k]? := fun k hk hn ht => by
    rw [Below.heap_setCell _ _ _ _ ht]; exact g4 k hk hn
  have av : ∀ b, Avj w.heap.size R Tb nv b → b < X.heap.size → Avj w.heap.size R Tb s1 b := fun b hb hlt => ⟨hb.1, hb.2.1, hb.2.2.1, by
    rcases g5 with g5 | g5
    · rw [g5]; exact hb.2.2.2
    · rw [g5]; intro e; cases e; omega⟩
  have f2 : KidsR (Y1.setCell ⟨Tb, 2, none⟩ s1) w.heap.size 37 (Avj w.heap.size R Tb s1) kv Ks := h.ok.move fz
    (fun k hk => old k (h.ok.own.lt k hk).2 (own_apart h.ok.own h.on (by decide) hk) (fun e => h.s2 (by rw [hk, e])))
    (fun b hb hlt _ => ⟨av b hb hlt, old b hlt hb.2.2.2 hb.2.2.1⟩)
  have fR2 : Rd (Y1.setCell ⟨Tb, 2, none⟩ s1) (fun b => Avj w.heap.size R Tb s1 b ∧ some b ≠ kv.ownBlock) T (.slice a1 n1 c1) (.slice a2 n2 c2) := hK.move fz fun b hb hlt => ⟨⟨av b hb.1 hlt, hb.2⟩, old b hlt hb.1.2.2.2 hb.1.2.2.1⟩
  have fTt : Below w.heap.size w (Y1.setCell ⟨Tb, 2, none⟩ s1) := (h.bb.trans g3.below).setCell (p := ⟨Tb, 2, none⟩) z3 _
  generalize hY2 : Y1.setCell ⟨Tb, 2, none⟩ s1 = Y2 at *
  obtain ⟨ao2, cap2, Y3, p1, p2, p3, p4, p5⟩ := push_kid under35 info37 f2 T a1 n1 c1 a2 n2 c2 fR2 (by have := h.lk; omega) (by omega)
  rw [h.lk] at p1 p2 p5
  have nT2 : (Value.slice ao2 (i + 1) cap2).ownBlock ≠ some Tb := by
    rcases p5 with p5 | p5
    · rw [p5]; exact h.s2
    · rw [p5]; intro e; cases e; have := blk_lt fT; omega
  have qT : Y3.heap[Tb]? = some (recJ s1 kv) := by rw [p4 Tb (blk_lt fT) (fun e => h.s2 e.symm)]; exact fT
  have qR : Y3.heap[R]? = some zG := p3.kept _ _ fR (by rfl)
  have qK : Y3.heap[Kb]? = some (.cells kO 63) := p3.kept _ _ fK (by rfl)
  have qz : Y3.heap.size ≤ (Y3.setCell ⟨Tb, 3, none⟩ (.slice ao2 (i + 1) cap2)).heap.size := by simp [World.setCell]
  have q1 : Y3.ownsRow w.heap.size 9 1 s1 (N ++ [x]).length ((N ++ [x]).map str) := own_keep1 f1 fun k hk => p4 k (f1.lt k hk).2 (own_apart f1 f2.own (by decide) hk)
  subst hs1
  refine ⟨ao1, cap1, Y1, ao2, cap2, Y3, g1, eT, by rw [hY2]; exact fT, by rw [hY2]; exact fK, by rw [hY2]; exact p1, qT, ?_, ?_, eK⟩
  · refine ⟨?_, ?_, ?_, ?_, nT2, by simp [h.ln], by simp [h.lk], fun y hy => ?_, ?_⟩
    · rw [Below.heap_setCell _ _ _ _ (show R ≠ Tb from z4)]; exact qR
    · have := heap_setCell_same Y3 Tb 3 _ 37 (.slice ao2 (i + 1) cap2) qT
      simpa using this
    · exact own_keep1 q1 fun k hk => Below.heap_setCell _ _ _ _ (fun e => nT (by rw [hk]; exact congrArg some e))
    · exact p2.move qz (fun k hk => Below.heap_setCell _ _ _ _ (fun e => nT2 (by rw [hk]; exact congrArg some e))) fun b hb _ _ => ⟨hb, Below.heap_setCell _ _ _ _ (show b ≠ Tb from hb.2.2.1)⟩
    · rcases List.mem_append.1 hy with hy | hy
      · exact h.ns y hy
      · rw [List.mem_singleton.1 hy]; exact hx
    · exact (fTt.trans p3.below).setCell (p := ⟨Tb, 3, none⟩) z3 _
  · rw [Below.heap_setCell _ _ _ _ (show Kb ≠ Tb from hKT)]; exact qK
/-- The record that was read. -/
theorem RecJ.rd {w wr : World} {R Tb i : Nat} {N : List Bs} {Ks : List Kd} {nv kv : Value} (h : RecJ w wr R Tb i N Ks nv kv) (a0 b1 b2 b3 b4 : Value) :
    Rd (((((wr.setCell ⟨R, 0, none⟩ a0).setCell ⟨R, 1, none⟩ b1).setCell ⟨R, 2, none⟩ b2).setCell ⟨R, 3, none⟩ b3).setCell ⟨R, 4, none⟩ b4) (fun b => w.heap.size ≤ b) (.mk 4 0 N (Ks.map (·.1))) nv kv := by
  have hnR : nv.ownBlock ≠ some R := by
    intro e
    obtain ⟨c, hc⟩ := own_tag h.on e
    rw [h.hR] at hc
    cases hc
  have hkR : kv.ownBlock ≠ some R := by
    intro e
    obtain ⟨c, hc⟩ := own_tag h.ok.own e
    rw [h.hR] at hc
    cases hc
  have h1 : Strs wr (fun b => w.heap.size ≤ b ∧ b ≠ R) nv N := own_strs h.on h.ns (fun b hb => ⟨(h.on.lt b hb).1, fun e => hnR (by rw [hb, e])⟩)
  have h2 : Rd wr (fun b => w.heap.size ≤ b ∧ b ≠ R) (.mk 4 0 N (Ks.map (·.1))) nv kv := h.ok.rd h1 (fun b hb _ => ⟨hb.1, hb.2.1⟩) (fun b hb => ⟨(h.ok.own.lt b hb).1, fun e => hkR (by rw [hb, e])⟩)
  refine h2.move (by simp [World.setCell]) (fun b hb _ => ⟨hb.1, ?_⟩)
  rw [Below.heap_setCell _ _ _ _ (show b ≠ R from hb.2), Below.heap_setCell _ _ _ _ (show b ≠ R from hb.2), Below.heap_setCell _ _ _ _ (show b ≠ R from hb.2), Below.heap_setCell _ _ _ _ (show b ≠ R from hb.2), Below.heap_setCell _ _ _ _ (show b ≠ R from hb.2)]
theorem low_exact (l : Bs) (j : Nat) (hp : ∀ c ∈ l.take j, isLow c = true) (hl : j ≤ l.length) (he : j = l.length ∨ ∃ h : j < l.length, isLow l[j] = false) : l.takeWhile isLow = l.take j ∧ l.dropWhile isLow = l.drop j := by
  have h1 := tw_len isLow l j hp hl
  have h0 := congrArg List.length (List.takeWhile_append_dropWhile (p := isLow) (l := l))
  rw [List.length_append] at h0
  have h2 : (l.takeWhile isLow).length ≤ j := by
    rcases he with rfl | ⟨h, hd⟩
    · omega
    · exact tw_stop isLow l j h hd
  have h3 : (l.takeWhile isLow).length = j := by omega
  have h4 : l.takeWhile isLow = l.take j := by rw [tw_pre isLow l j h1, List.take_of_length_le h2]
  refine ⟨h4, ?_⟩
  have h5 := List.takeWhile_append_dropWhile (p := isLow) (l := l)
  have h6 := List.take_append_drop j l
  rw [h4] at h5
  exact List.append_cancel_left (h5.trans h6.symm)
def recDe (read : Bs → Option (Ty × Bs)) (m : Nat) (N : List Bs) (K : List Ty) (r : Bs) : Option (Ty × Bs) :=
  if hdB r 41 = true then some (.mk 4 0 N K, r.tail) else if hdB r 44 = true then recD read m r.tail N K else none
def recDm (read : Bs → Option (Ty × Bs)) (m : Nat) (N : List Bs) (K : List Ty) (ro : Option (Ty × Bs)) : Option (Ty × Bs) := match ro with | none => none | some (t, r) => recDe read m N (K ++ [t]) r
theorem recD_step (read : Bs → Option (Ty × Bs)) (m : Nat) (s nm : Bs) (lf : Bs) (N : List Bs) (K : List Ty) (h1 : s.takeWhile isLow = nm) (h2 : s.dropWhile isLow = lf) :
    recD read (m + 1) s N K = if hdB lf 58 = true then recDm read m (N ++ [nm]) K (read lf.tail) else none := by
  rw [recD, h1, h2]
  cases lf with
  | nil => rfl
  | cons c l =>
    simp only [hdB, List.tail_cons, decide_eq_true_eq]
    by_cases hc : c = 58
    · rw [if_pos hc, if_pos hc]
      rcases read l with _ | ⟨t, r⟩
      · rfl
      · cases r with
        | nil => rfl
        | cons c2 r2 =>
          simp only [recDm, recDe, hdB, List.tail_cons, decide_eq_true_eq]
    · rw [if_neg hc, if_neg hc]
end Go.Proofs.YteecjilknembdaaDoor
