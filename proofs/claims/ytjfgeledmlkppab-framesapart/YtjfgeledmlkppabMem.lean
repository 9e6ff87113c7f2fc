/- frames.Memory's methods as functions of one list of bytes: each method's contract over a memory that holds that list; no statement is proved in this text. -/
import Derived.Test.YtjfgeledmlkppabLoad
namespace Go.Proofs.Ytjfgeledmlkppab
open Go.ChangeShapes Go.WideShapes Go.ChangeAt Go.RowKit

def over (l : List UInt8) (o : Nat) (v : List UInt8) : List UInt8 := l.take o ++ (v ++ l.drop (o + v.length))
theorem over_len (l : List UInt8) (o : Nat) (v : List UInt8) (h : o + v.length ≤ l.length) : (over l o v).length = l.length := by simp [over]; omega
theorem over_get (l : List UInt8) (o : Nat) (v : List UInt8) (h : o + v.length ≤ l.length) (j : Nat) :
    (over l o v)[j]? = if j < o then l[j]? else if j < o + v.length then v[j - o]? else l[j]? := by
  unfold over
  have h1 : (l.take o).length = o := by simp; omega
  by_cases hj : j < o
  · rw [if_pos hj, List.getElem?_append_left (by omega), List.getElem?_take_of_lt hj]
  · rw [if_neg hj, List.getElem?_append_right (by omega), h1]
    by_cases hk : j < o + v.length
    · rw [if_pos hk, List.getElem?_append_left (by omega)]
    · rw [if_neg hk, List.getElem?_append_right (by omega), List.getElem?_drop]
      congr 1
      omega

def fr (l : List UInt8) (f : Nat) : List UInt8 := (l.drop (f * 16)).take 16
theorem fr_len (l : List UInt8) (f n : Nat) (h : f < n) (hl : l.length = 16 * n) : (fr l f).length = 16 := by simp [fr]; omega
theorem fr_get (l : List UInt8) (f j : Nat) (h : j < 16) : (fr l f)[j]? = l[f * 16 + j]? := by
  rw [fr, List.getElem?_take_of_lt h, List.getElem?_drop]

/-- A header at p that holds sv; n frames' bytes l in the row q. -/
structure MemG (w : World) (p q : Nat) (sv : Value) (n : Nat) (l : List UInt8) : Prop where
  ptr : w.cell? ⟨p, 0, none⟩ = some sv
  row : w.rangeAt q 0 (cells l)
  thr : w.there q 0 (16 * n)
  len : l.length = 16 * n
  ne : p ≠ q
  pos : 1 ≤ n

theorem MemG.plt {w : World} {p q n : Nat} {sv : Value} {l : List UInt8} (h : MemG w p q sv n l) : p < w.heap.size := World.block_lt_of_cell? w _ h.ptr
theorem MemG.qlt {w : World} {p q n : Nat} {sv : Value} {l : List UInt8} (h : MemG w p q sv n l) : q < w.heap.size :=
  World.block_lt_of_cell? w _ (Option.isSome_iff_exists.1 (h.thr 0 (by have := h.pos; omega)).1).choose_spec
theorem MemG.thr_at {w : World} {p q n : Nat} {sv : Value} {l : List UInt8} (h : MemG w p q sv n l) (o k : Nat) (ho : o + k ≤ 16 * n) : w.there q o k := fun j hj => by
  have := h.thr (o + j) (by omega)
  rw [Nat.zero_add] at this; exact this
theorem MemG.row_at {w : World} {p q n : Nat} {sv : Value} {l : List UInt8} (h : MemG w p q sv n l) (f : Nat) : w.rangeAt q (f * 16) (cells (fr l f)) := fun j v hv => by
  have hj : j < 16 := by have := (List.getElem?_eq_some_iff.1 hv).1; rw [cells_len] at this; simp [fr] at this; omega
  have := h.row (f * 16 + j) v (by rw [← hv]; simp only [cells, List.getElem?_map, fr_get l f j hj])
  rw [Nat.zero_add] at this; exact this
theorem MemG.cell {w : World} {p q n : Nat} {sv : Value} {l : List UInt8} (h : MemG w p q sv n l) (o : Nat) (b : UInt8) (hb : l[o]? = some b) : w.cell? ⟨q, o, none⟩ = some (.int .u8 b.toNat) := by
  have := h.row o (.int .u8 b.toNat) (by simp only [cells, List.getElem?_map, hb, Option.map_some])
  rw [Nat.zero_add] at this; exact this

/-- A store of bytes into the memory's row. -/
theorem MemG.over {w : World} {p q n : Nat} {sv : Value} {l : List UInt8} (h : MemG w p q sv n l) (o : Nat) (v : List UInt8) (hv : o + v.length ≤ 16 * n) : MemG (w.setCells q o (cells v)) p q sv n (over l o v) := by
  have hl := h.len
  refine ⟨?_, ?_, World.there_setCells h.thr _ _ _, by rw [over_len _ _ _ (by omega)]; exact hl, h.ne, h.pos⟩
  · rw [World.cell?_setCells_out _ _ _ _ _ (fun e => absurd e h.ne)]; exact h.ptr
  · intro j x hx
    have hx' := hx
    simp only [cells, List.getElem?_map, over_get l o v (by omega) j] at hx
    rw [Nat.zero_add]
    by_cases h1 : j < o
    · rw [if_pos h1] at hx
      rw [World.cell?_setCells_out _ _ _ _ _ (fun _ _ => Or.inl h1)]
      have := h.row j x (by simpa [cells] using hx)
      rw [Nat.zero_add] at this; exact this
    · rw [if_neg h1] at hx
      by_cases h2 : j < o + v.length
      · rw [if_pos h2] at hx
        have := World.cell?_setCells_in q (cells v) o w (fun i hi => (h.thr_at o v.length hv i (by rw [cells_len] at hi; exact hi)).1) (j - o) (by rw [cells_len]; omega)
        rw [show o + (j - o) = j by omega] at this
        rw [this, ← hx]
        simp only [cells, List.getElem_map]
        rw [List.getElem?_eq_getElem (by omega)]
        rfl
      · rw [if_neg h2] at hx
        rw [World.cell?_setCells_out _ _ _ _ _ (fun _ _ => Or.inr (by rw [cells_len]; show o + v.length ≤ j; omega))]
        have := h.row j x (by simpa [cells] using hx)
        rw [Nat.zero_add] at this; exact this

/-- A world that is as it was at the memory's two blocks. -/
theorem MemG.same {w w' : World} {p q n : Nat} {sv : Value} {l : List UInt8} (h : MemG w p q sv n l) (hs : ∀ x : Addr, x.block = p ∨ x.block = q → w'.cell? x = w.cell? x ∧ w'.frozen? x = w.frozen? x) : MemG w' p q sv n l := by
  refine ⟨by rw [(hs _ (Or.inl rfl)).1]; exact h.ptr, fun j v hv => by rw [(hs _ (Or.inr rfl)).1]; exact h.row j v hv, fun j hj => ?_, h.len, h.ne, h.pos⟩
  rw [(hs _ (Or.inr rfl)).1, (hs _ (Or.inr rfl)).2]
  exact h.thr j hj
theorem MemG.drew {w : World} {p q n : Nat} {sv : Value} {l : List UInt8} (h : MemG w p q sv n l) : MemG w.drew p q sv n l := h.same (fun x _ => by simp)
/-- Another block was touched. -/
theorem MemG.touch {w w' : World} {p q n r : Nat} {sv : Value} {l : List UInt8} (h : MemG w p q sv n l) (t : Touch r w w') (hp : p ≠ r) (hq : q ≠ r) : MemG w' p q sv n l := h.same (fun x hx => by
  rcases hx with hx | hx
  · exact ⟨t.cell (by rw [hx]; exact h.plt) (by omega), t.frozen (by rw [hx]; exact h.plt) (by omega)⟩
  · exact ⟨t.cell (by rw [hx]; exact h.qlt) (by omega), t.frozen (by rw [hx]; exact h.qlt) (by omega)⟩)

abbrev Mem (w : World) (p q n : Nat) (l : List UInt8) : Prop := MemG w p q (.slice (some ⟨q, 0, none⟩) n n) n l

/-! ### What the methods answer, as functions of the list -/
def stL (l : List UInt8) (f at_ : Int) (u : UInt8) (n : Nat) : List UInt8 := if plc f at_ n = 0 then over l (f.toNat * 16 + at_.toNat) [u] else l
def gtV (l : List UInt8) (f at_ : Int) (n : Nat) : UInt8 := if plc f at_ n = 0 then l.getD (f.toNat * 16 + at_.toNat) 0 else 0
def pgE (f : Int) (n : Nat) : Int := if inB f n = true then 0 else 6
def pgS (l : List UInt8) (f : Int) (n : Nat) : List UInt8 := if inB f n = true then fr l f.toNat else []
def cpE (f t : Int) (n : Nat) : Int := if inB f n = true ∧ inB t n = true then 0 else 6
def cpL (l : List UInt8) (f t : Int) (n : Nat) : List UInt8 := if inB f n = true ∧ inB t n = true then over l (t.toNat * 16) (fr l f.toNat) else l
def ldE (f : Int) (k n : Nat) : Int := if inB f n = true then (if k ≤ 16 then 0 else 2) else 6
def ldL (l : List UInt8) (f : Int) (s : List UInt8) (n : Nat) : List UInt8 := if inB f n = true ∧ s.length ≤ 16 then over l (f.toNat * 16) (pad s) else l

theorem inB_nat {f : Int} {n : Nat} (h : inB f n = true) : ∃ k : Nat, f = k ∧ k < n := by
  simp [inB] at h
  exact ⟨f.toNat, by omega, by omega⟩
theorem plc_zero {f at_ : Int} {n : Nat} (h : plc f at_ n = 0) : ∃ k j : Nat, f = k ∧ at_ = j ∧ k < n ∧ j < 16 := by
  unfold plc at h
  split at h
  · rename_i hb
    split at h
    · obtain ⟨k, rfl, hk⟩ := inB_nat hb
      exact ⟨k, at_.toNat, rfl, by omega, hk, by omega⟩
    · omega
  · omega

theorem set_mem {w : World} {p q n : Nat} {l : List UInt8} (h : Mem w p q n l) (f at_ : Int) (u : UInt8) :
    Calls Try.prog 19 #[.pointer (some ⟨p, 0, none⟩), .int .i64 f, .int .i64 at_, .int .u8 u.toNat] w fun e w' => e = .returned (.int .i64 (plc f at_ n)) ∧ Touch q w w' ∧ Mem w' p q n (stL l f at_ u n) := by
  by_cases hz : plc f at_ n = 0
  · obtain ⟨k, j, rfl, rfl, hk, hj⟩ := plc_zero hz
    have hl := h.len
    have ho : k * 16 + j < l.length := by omega
    refine (set_ok w p q n k j _ u.toNat h.ptr hk hj (h.cell _ _ (List.getElem?_eq_getElem ho)) ?_).mono ?_
    · have := (h.thr_at (k * 16 + j) 1 (by omega) 0 (by omega)).2
      exact this
    · rintro e w' ⟨rfl, rfl⟩
      refine ⟨by rw [hz], (Touch.refl q w).setCell rfl _, ?_⟩
      unfold stL
      rw [if_pos hz]
      exact h.over (k * 16 + j) [u] (by simp; omega)
  · refine (set_no w p q n f at_ u.toNat (by simpa using hz) h.ptr).mono ?_
    rintro e w' ⟨rfl, rfl⟩
    exact ⟨rfl, Touch.refl _ _, by unfold stL; rw [if_neg hz]; exact h⟩

theorem get_mem {w : World} {p q n : Nat} {l : List UInt8} (h : Mem w p q n l) (f at_ : Int) :
    Calls Try.prog 12 #[.pointer (some ⟨p, 0, none⟩), .int .i64 f, .int .i64 at_] w fun e w' => e = .returned (.tuple #[.int .u8 (gtV l f at_ n).toNat, .int .i64 (plc f at_ n)]) ∧ w' = w := by
  by_cases hz : plc f at_ n = 0
  · have hz' := hz
    obtain ⟨k, j, rfl, rfl, hk, hj⟩ := plc_zero hz
    have hl := h.len
    have ho : k * 16 + j < l.length := by omega
    refine (get_ok w p q n k j _ h.ptr hk hj (h.cell _ _ (List.getElem?_eq_getElem ho))).mono ?_
    rintro e w' ⟨rfl, rfl⟩
    refine ⟨?_, rfl⟩
    unfold gtV
    rw [if_pos hz', hz']
    simp only [Int.toNat_natCast, List.getD_eq_getElem?_getD, List.getElem?_eq_getElem ho, Option.getD_some]
  · refine (get_no w p q n f at_ (by simpa using hz) h.ptr).mono ?_
    rintro e w' ⟨rfl, rfl⟩
    refine ⟨?_, rfl⟩
    unfold gtV
    rw [if_neg hz]
    rfl

theorem page_mem {w : World} {p q n : Nat} {l : List UInt8} (h : Mem w p q n l) (f : Int) :
    Calls Try.prog 14 #[.pointer (some ⟨p, 0, none⟩), .int .i64 f] w fun e w' => e = .returned (.tuple #[.string ⟨(pgS l f n).toArray⟩, .int .i64 (pgE f n)]) ∧ w' = w := by
  unfold pgS pgE
  by_cases hz : inB f n = true
  · rw [if_pos hz, if_pos hz]
    obtain ⟨k, rfl, hk⟩ := inB_nat hz
    exact page_ok w p q n k _ h.ptr hk (fr_len l k n hk h.len) (h.row_at k)
  · rw [if_neg hz, if_neg hz]
    exact page_no w p q n f h.ptr (by simpa using hz)

theorem copy_mem {w : World} {p q n : Nat} {l : List UInt8} (h : Mem w p q n l) (f t : Int) :
    Calls Try.prog 18 #[.pointer (some ⟨p, 0, none⟩), .int .i64 f, .int .i64 t] w fun e w' => e = .returned (.int .i64 (cpE f t n)) ∧ Touch q w w' ∧ Mem w' p q n (cpL l f t n) := by
  unfold cpE cpL
  by_cases hz : inB f n = true ∧ inB t n = true
  · rw [if_pos hz, if_pos hz]
    obtain ⟨k, rfl, hk⟩ := inB_nat hz.1
    obtain ⟨j, rfl, hj⟩ := inB_nat hz.2
    have hl := fr_len l k n hk h.len
    refine (copy_ok w p q n k j _ h.ne (by rw [cells_len, hl]) (cells_one _) h.ptr hk hj (h.row_at k) (h.thr_at _ _ (by omega))).mono ?_
    rintro e w' ⟨rfl, rfl⟩
    exact ⟨rfl, Touch.setCells _ _ _ (Touch.refl q w).drew, h.drew.over _ _ (by omega)⟩
  · rw [if_neg hz, if_neg hz]
    refine (copy_no w p q n f t h.ptr ?_).mono ?_
    · by_cases hf : inB f n = true
      · right; by_cases ht : inB t n = true
        · exact absurd ⟨hf, ht⟩ hz
        · simpa using ht
      · left; simpa using hf
    · rintro e w' ⟨rfl, rfl⟩
      exact ⟨rfl, Touch.refl _ _, h⟩

theorem clear_mem {w : World} {p q n : Nat} {l : List UInt8} (h : Mem w p q n l) (f : Int) :
    Calls Try.prog 20 #[.pointer (some ⟨p, 0, none⟩), .int .i64 f] w fun e w' => e = .returned (.int .i64 (ldE f 0 n)) ∧ Touch q w w' ∧ Mem w' p q n (ldL l f [] n) := by
  unfold ldE ldL
  by_cases hz : inB f n = true
  · rw [if_pos hz, if_pos (Nat.zero_le 16), if_pos ⟨hz, Nat.zero_le 16⟩]
    obtain ⟨k, rfl, hk⟩ := inB_nat hz
    refine (clear_ok w p q n k h.ptr hk (h.thr_at _ _ (by omega))).mono ?_
    rintro e w' ⟨rfl, rfl⟩
    exact ⟨rfl, Touch.setCells _ _ _ (Touch.refl q w), h.over (k * 16) (pad []) (by simp [pad]; omega)⟩
  · rw [if_neg hz, if_neg (fun e => hz e.1)]
    refine (clear_no w p q n f h.ptr (by simpa using hz)).mono ?_
    rintro e w' ⟨rfl, rfl⟩
    exact ⟨rfl, Touch.refl _ _, h⟩

theorem load_mem {w : World} {p q n : Nat} {l : List UInt8} (h : Mem w p q n l) (f : Int) (s : ByteArray) :
    Calls Try.prog 17 #[.pointer (some ⟨p, 0, none⟩), .int .i64 f, .string s] w fun e w' => e = .returned (.int .i64 (ldE f s.size n)) ∧ Touch q w w' ∧ Mem w' p q n (ldL l f s.data.toList n) := by
  have hsz : s.data.toList.length = s.size := rfl
  unfold ldE ldL
  rw [hsz]
  by_cases hz : inB f n = true
  · rw [if_pos hz]
    by_cases hs : s.size ≤ 16
    · rw [if_pos hs, if_pos ⟨hz, hs⟩]
      obtain ⟨k, rfl, hk⟩ := inB_nat hz
      refine (load_ok w p q n k s h.ne h.ptr hk hs (h.thr_at _ _ (by omega))).mono ?_
      rintro e w' ⟨rfl, w2, rfl, ht, ho⟩
      refine ⟨rfl, Touch.setCells _ _ _ ht, ?_⟩
      have h2 : Mem w2 p q n l := h.same (fun x hx => ho x (by rcases hx with hx | hx <;> rw [hx]; exact h.plt; exact h.qlt))
      exact h2.over (k * 16) (pad s.data.toList) (by rw [pad_len _ hs]; omega)
    · rw [if_neg hs, if_neg (fun e => hs e.2)]
      refine (load_long w p q n f s h.ptr hz (by omega)).mono ?_
      rintro e w' ⟨rfl, rfl⟩
      exact ⟨rfl, Touch.refl _ _, h⟩
  · rw [if_neg hz, if_neg (fun e => hz e.1)]
    refine (load_no w p q n f s h.ptr (by simpa using hz)).mono ?_
    rintro e w' ⟨rfl, rfl⟩
    exact ⟨rfl, Touch.refl _ _, h⟩
end Go.Proofs.Ytjfgeledmlkppab
