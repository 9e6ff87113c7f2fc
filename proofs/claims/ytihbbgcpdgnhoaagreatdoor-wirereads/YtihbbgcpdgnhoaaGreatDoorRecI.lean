/- types.reader's record: what its loop keeps; no statement is proved in this text. -/
import Derived.Test.YtihbbgcpdgnhoaaGreatDoorGrow
namespace Go.Proofs.YtihbbgcpdgnhoaaGreatDoor
open Go.ChangeShapes Go.WideShapes Go.ChangeAt Go.RowKit Go.Deep

abbrev recO (nv kv : Value) : Obj := .cells #[i64 4, i64 0, nv, kv] 25
/-- Where a kid may stand. -/
def Avr (lo q R Tb : Nat) (nv : Value) (b : Nat) : Prop := lo ≤ b ∧ b ≠ q ∧ b ≠ R ∧ b ≠ Tb ∧ some b ≠ nv.ownBlock
structure RecI (w wr : World) (q R Tb L i : Nat) (N : List Bs) (Ks : List Kd) (nv kv : Value) (l1 : Bs) : Prop where
  hq : wr.heap[q]? = some (.cells #[str l1] 133)
  hl : l1.length ≤ L
  hR : wr.heap[R]? = some zT
  hT : wr.heap[Tb]? = some (recO nv kv)
  on : wr.ownsRow w.heap.size 9 1 nv N.length (N.map str)
  ok : KidsR wr w.heap.size 25 (Avr w.heap.size q R Tb nv) kv Ks
  s1 : kv.ownBlock ≠ some R
  s2 : kv.ownBlock ≠ some Tb
  ln : N.length = i
  lk : Ks.length = i
  ns : ∀ x ∈ N, x.length ≤ maxLen
  tt : Touch q w wr
structure Lows (w : World) (q R Tb : Nat) : Prop where
  q : q < w.heap.size
  r : w.heap.size ≤ R
  t : w.heap.size ≤ Tb
  ne : R ≠ Tb
/-- The slices of a record that is being read. -/
theorem RecI.nvF {w wr : World} {q R Tb L i : Nat} {N : List Bs} {Ks : List Kd} {nv kv : Value} {l1 : Bs} (h : RecI w wr q R Tb L i N Ks nv kv l1) : (∃ a c, nv = .slice a i c) ∧ ∃ a c, kv = .slice a i c := by
  obtain ⟨a, c, h1, _⟩ := own_slice h.on
  obtain ⟨a', c', h2, _⟩ := own_slice h.ok.own
  rw [h.ln] at h1
  rw [h.lk] at h2
  exact ⟨⟨a, c, h1⟩, a', c', h2⟩
/-- Another world, that changed block q alone. -/
theorem RecI.touch {w wr wr' : World} {q R Tb L i : Nat} {N : List Bs} {Ks : List Kd} {nv kv : Value} {l1 l2 : Bs} (hw : Lows w q R Tb) (h : RecI w wr q R Tb L i N Ks nv kv l1) (ht : Touch q wr wr') (hq : wr'.heap[q]? = some (.cells #[str l2] 133)) (hl : l2.length ≤ L) : RecI w wr' q R Tb L i N Ks nv kv l2 := by
  have h1 := hw.q
  have h2 := hw.r
  have h3 := hw.t
  refine ⟨hq, hl, ?_, ?_, own_keep1 h.on fun k hk => ht.block k (h.on.lt k hk).2 (by have := (h.on.lt k hk).1; omega), ?_, h.s1, h.s2, h.ln, h.lk, h.ns, h.tt.trans ht⟩
  · rw [ht.block R (blk_lt h.hR) (by omega)]; exact h.hR
  · rw [ht.block Tb (blk_lt h.hT) (by omega)]; exact h.hT
  · exact h.ok.move ht.size (fun k hk => ht.block k (h.ok.own.lt k hk).2 (by have := (h.ok.own.lt k hk).1; omega)) fun b hb hlt _ => ⟨hb, ht.block b hlt hb.2.1⟩
theorem RecI.below {w wr wr' : World} {q R Tb L i : Nat} {N : List Bs} {Ks : List Kd} {nv kv : Value} {l1 : Bs} (hw : Lows w q R Tb) (h : RecI w wr q R Tb L i N Ks nv kv l1) (hb : Below wr.heap.size wr wr') : RecI w wr' q R Tb L i N Ks nv kv l1 :=
  h.touch hw (Touch.of_below hb) (by rw [hb.block q (blk_lt h.hq)]; exact h.hq) h.hl
set_option maxHeartbeats 1600000 in
/-- A field more. -/
theorem rec_push {w X : World} {q R Tb L i : Nat} {N : List Bs} {Ks : List Kd} {nv kv : Value} {l1 : Bs} (hw : Lows w q R Tb) (h : RecI w X q R Tb L i N Ks nv kv l1) (T : Ty) (a1 : Option Addr) (n1 c1 : Nat) (a2 : Option Addr) (n2 c2 : Nat)
    (hK : Rd X (fun b => Avr w.heap.size q R Tb nv b ∧ some b ≠ kv.ownBlock) T (.slice a1 n1 c1) (.slice a2 n2 c2)) (x : Bs) (hx : x.length ≤ maxLen) (hi : i < 12) (Kb : Nat) (kO : Array Value) (hKb : X.heap[Kb]? = some (.cells kO 25)) (hKT : Kb ≠ Tb) :
    ∃ ao1 cap1 Y1 ao2 cap2 Y3, (Builtin.append_ #[22, 22] 22 #[nv, .slice (some ⟨X.heap.size, 0, none⟩) 1 1]).run Tryz.prog (X.alloc (.cells #[str x] 9)) = .ok (.slice ao1 (i + 1) cap1) Y1 ∧ Y1.heap[Tb]? = some (recO nv kv) ∧
      (Y1.setCell ⟨Tb, 2, none⟩ (.slice ao1 (i + 1) cap1)).heap[Tb]? = some (recO (.slice ao1 (i + 1) cap1) kv) ∧ (Y1.setCell ⟨Tb, 2, none⟩ (.slice ao1 (i + 1) cap1)).heap[Kb]? = some (.cells kO 25) ∧
      (Builtin.append_ #[23, 23] 23 #[kv, .slice (some ⟨(Y1.setCell ⟨Tb, 2, none⟩ (.slice ao1 (i + 1) cap1)).heap.size, 0, none⟩) 1 1]).run Tryz.prog ((Y1.setCell ⟨Tb, 2, none⟩ (.slice ao1 (i + 1) cap1)).alloc (.cells #[i64 T.kind, i64 T.num, .slice a1 n1 c1, .slice a2 n2 c2] 25)) = .ok (.slice ao2 (i + 1) cap2) Y3 ∧
      Y3.heap[Tb]? = some (recO (.slice ao1 (i + 1) cap1) kv) ∧ RecI w (Y3.setCell ⟨Tb, 3, none⟩ (.slice ao2 (i + 1) cap2)) q R Tb L (i + 1) (N ++ [x]) (Ks ++ [(T, .slice a1 n1 c1, .slice a2 n2 c2)]) (.slice ao1 (i + 1) cap1) (.slice ao2 (i + 1) cap2) l1 := by
  have z1 := hw.q
  have z2 := hw.r
  have z3 := hw.t
  have z4 := hw.ne
  have hXz := h.tt.size
  obtain ⟨ao1, cap1, Y1, g1, g2, g3, g4, g5⟩ := push_name h.on x (by have := h.ln; omega) hXz
  rw [h.ln] at g1 g2 g5
  have eT : Y1.heap[Tb]? = some (recO nv kv) := g3.kept _ _ h.hT (by rfl)
  have eR : Y1.heap[R]? = some zT := g3.kept _ _ h.hR (by rfl)
  have eQ : Y1.heap[q]? = some (.cells #[str l1] 133) := g3.kept _ _ h.hq (by rfl)
  have eK : Y1.heap[Kb]? = some (.cells kO 25) := g3.kept _ _ hKb (by rfl)
  generalize hs1 : (Value.slice ao1 (i + 1) cap1) = s1 at *
  have fT : (Y1.setCell ⟨Tb, 2, none⟩ s1).heap[Tb]? = some (recO s1 kv) := by
    have := heap_setCell_same Y1 Tb 2 _ 25 s1 eT
    simpa using this
  have fK : (Y1.setCell ⟨Tb, 2, none⟩ s1).heap[Kb]? = some (.cells kO 25) := by rw [Below.heap_setCell _ _ _ _ hKT]; exact eK
  have fR : (Y1.setCell ⟨Tb, 2, none⟩ s1).heap[R]? = some zT := by rw [Below.heap_setCell _ _ _ _ (show R ≠ Tb from z4)]; exact eR
  have fQ : (Y1.setCell ⟨Tb, 2, none⟩ s1).heap[q]? = some (.cells #[str l1] 133) := by rw [Below.heap_setCell _ _ _ _ (show q ≠ Tb by omega)]; exact eQ
  have fz : X.heap.size ≤ (Y1.setCell ⟨Tb, 2, none⟩ s1).heap.size := by have := g3.size; simpa [World.setCell] using this
  have nT : s1.ownBlock ≠ some Tb := by
    intro e
    obtain ⟨c, hc⟩ := own_tag g2 e
    rw [eT] at hc
    cases hc
  have f1 : (Y1.setCell ⟨Tb, 2, none⟩ s1).ownsRow w.heap.size 9 1 s1 (N ++ [x]).length ((N ++ [x]).map str) := own_keep1 g2 fun k hk => Below.heap_setCell _ _ _ _ (fun e => nT (by rw [hk]; exact congrArg some e))
  have old : ∀ k, k < X.heap.size → some k ≠ nv.ownBlock → k ≠ Tb → (Y1.setCell ⟨Tb, 2, none⟩ s1).heap[k]? = X.heap[k]? := fun k hk hn ht => by
    rw [Below.heap_setCell _ _ _ _ ht]; exact g4 k hk hn
  have av : ∀ b, Avr w.heap.size q R Tb nv b → b < X.heap.size → Avr w.heap.size q R Tb s1 b := fun b hb hlt => ⟨hb.1, hb.2.1, hb.2.2.1, hb.2.2.2.1, by
    rcases g5 with g5 | g5
    · rw [g5]; exact hb.2.2.2.2
    · rw [g5]; intro e; cases e; omega⟩
  have f2 : KidsR (Y1.setCell ⟨Tb, 2, none⟩ s1) w.heap.size 25 (Avr w.heap.size q R Tb s1) kv Ks := h.ok.move fz
    (fun k hk => old k (h.ok.own.lt k hk).2 (own_apart h.ok.own h.on (by decide) hk) (fun e => h.s2 (by rw [hk, e])))
    (fun b hb hlt _ => ⟨av b hb hlt, old b hlt hb.2.2.2.2 hb.2.2.2.1⟩)
  have fR2 : Rd (Y1.setCell ⟨Tb, 2, none⟩ s1) (fun b => Avr w.heap.size q R Tb s1 b ∧ some b ≠ kv.ownBlock) T (.slice a1 n1 c1) (.slice a2 n2 c2) := hK.move fz fun b hb hlt => ⟨⟨av b hb.1 hlt, hb.2⟩, old b hlt hb.1.2.2.2.2 hb.1.2.2.2.1⟩
  have fTt : Touch q w (Y1.setCell ⟨Tb, 2, none⟩ s1) := by
    refine Touch.setNew (p := ⟨Tb, 2, none⟩) ?_ z3 _
    exact ⟨g3.below.os.trans h.tt.os, g3.below.tape.trans h.tt.tape, g3.below.output.trans h.tt.output, Nat.le_trans h.tt.size g3.size, fun k hk hkq => (g3.below.block k hk).trans (h.tt.block k hk hkq)⟩
  generalize hY2 : Y1.setCell ⟨Tb, 2, none⟩ s1 = Y2 at *
  obtain ⟨ao2, cap2, Y3, p1, p2, p3, p4, p5⟩ := push_kid under23 info25 f2 T a1 n1 c1 a2 n2 c2 fR2 (by have := h.lk; omega) (by omega)
  rw [h.lk] at p1 p2 p5
  have nT2 : (Value.slice ao2 (i + 1) cap2).ownBlock ≠ some Tb := by
    rcases p5 with p5 | p5
    · rw [p5]; exact h.s2
    · rw [p5]; intro e; cases e; have := blk_lt fT; omega
  have nR2 : (Value.slice ao2 (i + 1) cap2).ownBlock ≠ some R := by
    rcases p5 with p5 | p5
    · rw [p5]; exact h.s1
    · rw [p5]; intro e; cases e; have := blk_lt fR; omega
  have qT : Y3.heap[Tb]? = some (recO s1 kv) := by rw [p4 Tb (blk_lt fT) (fun e => h.s2 e.symm)]; exact fT
  have qR : Y3.heap[R]? = some zT := by rw [p4 R (blk_lt fR) (fun e => h.s1 e.symm)]; exact fR
  have qQ : Y3.heap[q]? = some (.cells #[str l1] 133) := p3.kept _ _ fQ (by rfl)
  have qz : Y3.heap.size ≤ (Y3.setCell ⟨Tb, 3, none⟩ (.slice ao2 (i + 1) cap2)).heap.size := by simp [World.setCell]
  have q1 : Y3.ownsRow w.heap.size 9 1 s1 (N ++ [x]).length ((N ++ [x]).map str) := own_keep1 f1 fun k hk => p4 k (f1.lt k hk).2 (own_apart f1 f2.own (by decide) hk)
  subst hs1
  refine ⟨ao1, cap1, Y1, ao2, cap2, Y3, g1, eT, by rw [hY2]; exact fT, by rw [hY2]; exact fK, by rw [hY2]; exact p1, qT, ?_⟩
  refine ⟨?_, h.hl, ?_, ?_, ?_, ?_, nR2, nT2, by simp [h.ln], by simp [h.lk], fun y hy => ?_, ?_⟩
  · rw [Below.heap_setCell _ _ _ _ (show q ≠ Tb by omega)]; exact qQ
  · rw [Below.heap_setCell _ _ _ _ (show R ≠ Tb from z4)]; exact qR
  · have := heap_setCell_same Y3 Tb 3 _ 25 (.slice ao2 (i + 1) cap2) qT
    simpa using this
  · exact own_keep1 q1 fun k hk => Below.heap_setCell _ _ _ _ (fun e => nT (by rw [hk]; exact congrArg some e))
  · exact p2.move qz (fun k hk => Below.heap_setCell _ _ _ _ (fun e => nT2 (by rw [hk]; exact congrArg some e))) fun b hb _ _ => ⟨hb, Below.heap_setCell _ _ _ _ (show b ≠ Tb from hb.2.2.2.1)⟩
  · rcases List.mem_append.1 hy with hy | hy
    · exact h.ns y hy
    · rw [List.mem_singleton.1 hy]; exact hx
  · refine Touch.setNew (p := ⟨Tb, 3, none⟩) ?_ z3 _
    exact ⟨p3.below.os.trans fTt.os, p3.below.tape.trans fTt.tape, p3.below.output.trans fTt.output, Nat.le_trans fTt.size p3.size, fun k hk hkq => (p3.below.block k hk).trans (fTt.block k hk hkq)⟩
/-- The record that was read. -/
theorem RecI.rd {w wr : World} {q R Tb L i : Nat} {N : List Bs} {Ks : List Kd} {nv kv : Value} {l1 : Bs} (h : RecI w wr q R Tb L i N Ks nv kv l1) (a0 b1 b2 b3 : Value) :
    Rd ((((wr.setCell ⟨R, 0, none⟩ a0).setCell ⟨R, 1, none⟩ b1).setCell ⟨R, 2, none⟩ b2).setCell ⟨R, 3, none⟩ b3) (fun b => w.heap.size ≤ b) (.mk 4 0 N (Ks.map (·.1))) nv kv := by
  have hnR : nv.ownBlock ≠ some R := by
    intro e
    obtain ⟨c, hc⟩ := own_tag h.on e
    rw [h.hR] at hc
    cases hc
  have h1 : Strs wr (fun b => w.heap.size ≤ b ∧ b ≠ R) nv N := own_strs h.on h.ns (fun b hb => ⟨(h.on.lt b hb).1, fun e => hnR (by rw [hb, e])⟩)
  have h2 : Rd wr (fun b => w.heap.size ≤ b ∧ b ≠ R) (.mk 4 0 N (Ks.map (·.1))) nv kv := h.ok.rd h1 (fun b hb _ => ⟨hb.1, hb.2.2.1⟩) (fun b hb => ⟨(h.ok.own.lt b hb).1, fun e => h.s1 (by rw [hb, e])⟩)
  refine h2.move (by simp [World.setCell]) (fun b hb _ => ⟨hb.1, ?_⟩)
  rw [Below.heap_setCell _ _ _ _ (show b ≠ R from hb.2), Below.heap_setCell _ _ _ _ (show b ≠ R from hb.2), Below.heap_setCell _ _ _ _ (show b ≠ R from hb.2), Below.heap_setCell _ _ _ _ (show b ≠ R from hb.2)]
end Go.Proofs.YtihbbgcpdgnhoaaGreatDoor
