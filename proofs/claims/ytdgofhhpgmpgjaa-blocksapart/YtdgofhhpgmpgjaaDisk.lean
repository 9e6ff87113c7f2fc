/- blocks.Disk's methods: their contracts over a disk that holds given blocks; no statement is proved in this text. -/
import Derived.Test.YtdgofhhpgmpgjaaBase
namespace Go.Proofs.Ytdgofhhpgmpgjaa
open Go.ChangeShapes Go.WideShapes Go.ChangeAt Go.RowKit Go.Deep

def cells (l : List UInt8) : List Value := l.map fun b => Value.int .u8 (b.toNat : Int)
theorem cells_len (l : List UInt8) : (cells l).length = l.length := by simp [cells]
theorem cells_one (l : List UInt8) : ∀ v ∈ cells l, v.oneCell' = true := by
  intro v hv
  obtain ⟨x, _, rfl⟩ := List.mem_map.1 hv
  rfl
theorem cells_app (a b : List UInt8) : cells (a ++ b) = cells a ++ cells b := by simp [cells]

def inB (f : Int) (n : Nat) : Bool := decide (0 ≤ f ∧ f < n)
theorem inB_nat {f : Int} {n : Nat} (h : inB f n = true) : ∃ k : Nat, f = k ∧ k < n := by
  simp [inB] at h
  exact ⟨f.toNat, by omega, by omega⟩

/-- A disk at p, its row q: n blocks, written m times. -/
structure Dsk (w : World) (p q n m : Nat) (blk : Nat → List UInt8) : Prop where
  ptr : w.cell? ⟨p, 0, none⟩ = some (.slice (some ⟨q, 0, none⟩) n n)
  cnt : w.cell? ⟨p, 1, none⟩ = some (i64 m)
  fz : w.frozen? ⟨p, 1, none⟩ = false
  row : ∀ i, i < n → w.rangeAt q (i * 8) (cells (blk i))
  thr : ∀ i, i < n → w.there q (i * 8) 8
  len : ∀ i, i < n → (blk i).length = 8
  ne : p ≠ q
  pos : 1 ≤ n

theorem Dsk.plt {w : World} {p q n m : Nat} {blk : Nat → List UInt8} (h : Dsk w p q n m blk) : p < w.heap.size := World.block_lt_of_cell? w _ h.ptr
theorem Dsk.qlt {w : World} {p q n m : Nat} {blk : Nat → List UInt8} (h : Dsk w p q n m blk) : q < w.heap.size :=
  World.block_lt_of_cell? w _ (Option.isSome_iff_exists.1 (h.thr 0 h.pos 0 (by omega)).1).choose_spec
theorem Dsk.same {w w' : World} {p q n m : Nat} {blk : Nat → List UInt8} (h : Dsk w p q n m blk) (hs : ∀ x : Addr, x.block = p ∨ x.block = q → w'.cell? x = w.cell? x ∧ w'.frozen? x = w.frozen? x) : Dsk w' p q n m blk :=
  ⟨by rw [(hs _ (Or.inl rfl)).1]; exact h.ptr, by rw [(hs _ (Or.inl rfl)).1]; exact h.cnt, by rw [(hs _ (Or.inl rfl)).2]; exact h.fz, fun i hi j v hv => by rw [(hs _ (Or.inr rfl)).1]; exact h.row i hi j v hv,
    fun i hi j hj => by rw [(hs _ (Or.inr rfl)).1, (hs _ (Or.inr rfl)).2]; exact h.thr i hi j hj, h.len, h.ne, h.pos⟩
theorem Dsk.below {w w' : World} {p q n m B : Nat} {blk : Nat → List UInt8} (h : Dsk w p q n m blk) (hb : Below B w w') (hp : p < B) (hq : q < B) : Dsk w' p q n m blk :=
  h.same (fun x hx => ⟨hb.cell (by rcases hx with hx | hx <;> omega), hb.frozen (by rcases hx with hx | hx <;> omega)⟩)
theorem Dsk.touch2 {w w' : World} {p q n m a b : Nat} {blk : Nat → List UInt8} (h : Dsk w p q n m blk) (t : Touch2 a b w w') (h1 : p ≠ a) (h2 : p ≠ b) (h3 : q ≠ a) (h4 : q ≠ b) : Dsk w' p q n m blk := by
  have hp := h.plt
  have hq := h.qlt
  exact h.same (fun x hx => ⟨t.cell (by rcases hx with hx | hx <;> omega) (by rcases hx with hx | hx <;> omega) (by rcases hx with hx | hx <;> omega), t.frozen (by rcases hx with hx | hx <;> omega) (by rcases hx with hx | hx <;> omega) (by rcases hx with hx | hx <;> omega)⟩)

theorem len_any (w : World) (p q n : Nat) (h1 : w.cell? ⟨p, 0, none⟩ = some (.slice (some ⟨q, 0, none⟩) n n)) :
    Calls Try.prog 26 #[.pointer (some ⟨p, 0, none⟩)] w fun e w' => e = .returned (i64 n) ∧ w' = w := by
  go_enter Try.func26, Try.ntmps26
  go_wp2
  go_ret
  exact ⟨rfl, rfl⟩
theorem has_any (w : World) (p q n : Nat) (f : Int) (h1 : w.cell? ⟨p, 0, none⟩ = some (.slice (some ⟨q, 0, none⟩) n n)) :
    Calls Try.prog 34 #[.pointer (some ⟨p, 0, none⟩), i64 f] w fun e w' => e = .returned (.bool (inB f n)) ∧ w' = w := by
  by_cases h : 0 ≤ f
  · go_enter Try.func34, Try.ntmps34
    go_wp2_with (go_at_call 26; refine (len_any _ _ _ _ h1).mono ?_; rintro e w' ⟨rfl, rfl⟩)
    go_ret
    refine ⟨?_, rfl⟩
    simp [inB, h]
  · go_enter Try.func34, Try.ntmps34
    go_wp2_with (go_at_call 26; refine (len_any _ _ _ _ h1).mono ?_; rintro e w' ⟨rfl, rfl⟩)
    go_ret
    refine ⟨?_, rfl⟩
    simp [inB]; omega
theorem writes_any (w : World) (p : Nat) (m : Nat) (h1 : w.cell? ⟨p, 1, none⟩ = some (i64 m)) :
    Calls Try.prog 23 #[.pointer (some ⟨p, 0, none⟩)] w fun e w' => e = .returned (i64 m) ∧ w' = w := by
  go_enter Try.func23, Try.ntmps23
  go_wp2
  go_ret
  exact ⟨rfl, rfl⟩

theorem read_no (w : World) (p q n : Nat) (f : Int) (h1 : w.cell? ⟨p, 0, none⟩ = some (.slice (some ⟨q, 0, none⟩) n n)) (h : inB f n = false) :
    Calls Try.prog 21 #[.pointer (some ⟨p, 0, none⟩), i64 f] w fun e w' => e = .returned (.tuple #[.string ⟨#[]⟩, i64 6]) ∧ w' = w := by
  go_enter Try.func21, Try.ntmps21
  go_wp2_with (go_at_call 34; refine (has_any _ _ _ _ _ h1).mono ?_; rintro e w' ⟨rfl, rfl⟩)
  go_ret2
  exact ⟨rfl, rfl⟩
theorem read_ok (w : World) (p q n : Nat) (f : Nat) (s : List UInt8) (h1 : w.cell? ⟨p, 0, none⟩ = some (.slice (some ⟨q, 0, none⟩) n n)) (h : f < n) (hl : s.length = 8) (hr : w.rangeAt q (f * 8) (cells s)) :
    Calls Try.prog 21 #[.pointer (some ⟨p, 0, none⟩), i64 f] w fun e w' => e = .returned (.tuple #[.string ⟨s.toArray⟩, i64 0]) ∧ w' = w := by
  have hb : inB f n = true := by simp [inB]; omega
  have hconv : (convert 92 9 (.slice (some ⟨q, f * 8, none⟩) 8 8)).run Try.prog w = .ok (.string ⟨s.toArray⟩) w := by
    have := run_convert_bytes_back (P := Try.prog) w 92 9 5 ⟨q, f * 8, none⟩ 8 s (by kernel_rfl) (by kernel_rfl) (by kernel_rfl) (fun j hj => by
      rw [Addr.add_mid]; exact hr j _ (by simp [cells, List.getElem?_eq_getElem hj]))
    rw [hl] at this
    exact this
  clear hr
  go_enter Try.func21, Try.ntmps21
  go_wp2_with (first | (go_at_call 34; refine (has_any _ _ _ _ _ h1).mono ?_; rintro e w' ⟨rfl, rfl⟩))
  go_ret2
  exact ⟨rfl, rfl⟩

def rdE (f : Int) (n : Nat) : Int := if inB f n = true then 0 else 6
def rdS (blk : Nat → List UInt8) (f : Int) (n : Nat) : List UInt8 := if inB f n = true then blk f.toNat else []
theorem read_dsk {w : World} {p q n m : Nat} {blk : Nat → List UInt8} (h : Dsk w p q n m blk) (f : Int) :
    Calls Try.prog 21 #[.pointer (some ⟨p, 0, none⟩), i64 f] w fun e w' => e = .returned (.tuple #[.string ⟨(rdS blk f n).toArray⟩, i64 (rdE f n)]) ∧ w' = w := by
  unfold rdE rdS
  by_cases hz : inB f n = true
  · rw [if_pos hz, if_pos hz]
    obtain ⟨k, rfl, hk⟩ := inB_nat hz
    exact read_ok w p q n k _ h.ptr hk (h.len k hk) (h.row k hk)
  · rw [if_neg hz, if_neg hz]
    exact read_no w p q n f h.ptr (by simpa using hz)

theorem write_no (w : World) (p q n : Nat) (f : Int) (s : ByteArray) (h1 : w.cell? ⟨p, 0, none⟩ = some (.slice (some ⟨q, 0, none⟩) n n)) (h : inB f n = false) :
    Calls Try.prog 19 #[.pointer (some ⟨p, 0, none⟩), i64 f, .string s] w fun e w' => e = .returned (i64 6) ∧ w' = w := by
  go_enter Try.func19, Try.ntmps19
  go_wp2_with (go_at_call 34; refine (has_any _ _ _ _ _ h1).mono ?_; rintro e w' ⟨rfl, rfl⟩)
  go_ret
  exact ⟨rfl, rfl⟩
theorem write_long (w : World) (p q n : Nat) (f : Int) (s : ByteArray) (h1 : w.cell? ⟨p, 0, none⟩ = some (.slice (some ⟨q, 0, none⟩) n n)) (h : inB f n = true) (hs : 8 < s.size) :
    Calls Try.prog 19 #[.pointer (some ⟨p, 0, none⟩), i64 f, .string s] w fun e w' => e = .returned (i64 2) ∧ w' = w := by
  go_enter Try.func19, Try.ntmps19
  go_wp2_with (go_at_call 34; refine (has_any _ _ _ _ _ h1).mono ?_; rintro e w' ⟨rfl, rfl⟩)
  go_ret
  exact ⟨rfl, rfl⟩

theorem size5 (w : World) : (Go.sizeOf 5).run Try.prog w = .ok 1 w := by kernel_rfl
theorem under92 : Try.prog.underlying 92 = some (.slice 5) := by kernel_rfl
theorem wpList_copy_str {P : Program} {w : World} {ops : Array Oper} {rest : List Oper} {o : Oper} {a : Act} {Q : Exit → Act → World → Prop} (hgd : o.guard = none) (d s : Operand) (dT sT : TypeId)
    (ho : o.op = .call { callee := .builtin .copy, args := #[d, s], argTypes := #[dT, sT] }) (elem : TypeId) (hu : P.underlying dT = some (.slice elem)) (hz : ∀ w, (Go.sizeOf elem).run P w = .ok 1 w)
    (b off dLen dCap : Nat) (hd : a.eval d = .slice (some ⟨b, off, none⟩) dLen dCap) (t : ByteArray) (hx : a.eval s = .string t) (hle : t.size ≤ dLen)
    (ht : w.there b off t.size)
    (h : wpList P ops Q rest (a.put o.dst (goInt t.size)) (w.setCells b off (cells t.data.toList))) : wpList P ops Q (o :: rest) a w := by
  refine wpList_plain hgd fun K hK => ?_
  have hrun := run_copy_string (P := P) w dT sT o.type elem b off dLen dCap t hu hz hle (fun j hj => (ht j hj).1) (fun j hj => (ht j hj).2)
  unfold Oper.wp
  simp [execOp, ho, resolve, invoke, builtin, hd, hx, hrun, Result.andThen]
  exact hK _ _ h

set_option maxRecDepth 100000 in
set_option maxHeartbeats 400000 in
theorem write_ok (w : World) (p q n m : Nat) (f : Nat) (s : ByteArray) (hpq : p ≠ q) (h1 : w.cell? ⟨p, 0, none⟩ = some (.slice (some ⟨q, 0, none⟩) n n)) (hm : w.cell? ⟨p, 1, none⟩ = some (i64 m)) (hfz : w.frozen? ⟨p, 1, none⟩ = false) (hmb : m ≤ 1000) (h : f < n) (hs : s.size ≤ 8) (ht : w.there q (f * 8) 8) :
    Calls Try.prog 19 #[.pointer (some ⟨p, 0, none⟩), i64 f, .string s] w fun e w' => e = .returned (i64 0) ∧ w' = (w.setCells q (f * 8) (cells s.data.toList)).setCell ⟨p, 1, none⟩ (i64 (m + 1)) := by
  have hb : inB f n = true := by simp [inB]; omega
  have c1 : (w.setCells q (f * 8) (cells s.data.toList)).cell? ⟨p, 1, none⟩ = some (i64 m) := by rw [World.cell?_setCells_out _ _ _ _ _ (fun e => absurd e hpq)]; exact hm
  have f1 : (w.setCells q (f * 8) (cells s.data.toList)).frozen? ⟨p, 1, none⟩ = false := by rw [World.frozen?_setCells]; exact hfz
  have hcp : (Builtin.copy_ #[92, 9] 3 #[.slice (some ⟨q, f * 8, none⟩) 8 8, .string s]).run Try.prog w = .ok (goInt s.size) (w.setCells q (f * 8) (cells s.data.toList)) := run_copy_string (P := Try.prog) w 92 9 3 5 q (f * 8) 8 8 s under92 size5 hs (fun j hj => (ht j (by omega)).1) (fun j hj => (ht j (by omega)).2)
  clear ht
  generalize w.setCells q (f * 8) (cells s.data.toList) = w2 at *
  go_enter Try.func19, Try.ntmps19
  go_wp2_with (go_at_call 34; refine (has_any _ _ _ _ _ h1).mono ?_; rintro e w' ⟨rfl, rfl⟩)
  go_ret
  exact ⟨rfl, rfl⟩
end Go.Proofs.Ytdgofhhpgmpgjaa
