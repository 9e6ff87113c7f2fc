/- imagoref03.Disk's methods: their contracts over a disk that holds given blocks; no statement is proved in this text. -/
import Derived.Test.YtdgofhhpgmpgjaaSmall
namespace Go.Proofs.Ytdgofhhpgmpgjaa
open Go.ChangeShapes Go.WideShapes Go.ChangeAt Go.RowKit Go.Deep

/-- The document's disk at p, its row r. -/
structure RDsk (w : World) (p r n cap m : Nat) (blk : Nat → List UInt8) : Prop where
  ptr : w.cell? ⟨p, 0, none⟩ = some (.slice (some ⟨r, 0, none⟩) n cap)
  cnt : w.cell? ⟨p, 1, none⟩ = some (i64 m)
  fz : w.frozen? ⟨p, 1, none⟩ = false
  row : ∀ i, i < n → w.cell? ⟨r, i, none⟩ = some (.string ⟨(blk i).toArray⟩)
  rfz : ∀ i, i < n → w.frozen? ⟨r, i, none⟩ = false
  len : ∀ i, i < n → (blk i).length = 8
  ne : p ≠ r
  pos : 1 ≤ n
theorem RDsk.plt {w : World} {p r n cap m : Nat} {blk : Nat → List UInt8} (h : RDsk w p r n cap m blk) : p < w.heap.size := World.block_lt_of_cell? w _ h.ptr
theorem RDsk.rlt {w : World} {p r n cap m : Nat} {blk : Nat → List UInt8} (h : RDsk w p r n cap m blk) : r < w.heap.size := World.block_lt_of_cell? w _ (h.row 0 h.pos)
theorem RDsk.same {w w' : World} {p r n cap m : Nat} {blk : Nat → List UInt8} (h : RDsk w p r n cap m blk) (hs : ∀ x : Addr, x.block = p ∨ x.block = r → w'.cell? x = w.cell? x ∧ w'.frozen? x = w.frozen? x) : RDsk w' p r n cap m blk :=
  ⟨by rw [(hs _ (Or.inl rfl)).1]; exact h.ptr, by rw [(hs _ (Or.inl rfl)).1]; exact h.cnt, by rw [(hs _ (Or.inl rfl)).2]; exact h.fz, fun i hi => by rw [(hs _ (Or.inr rfl)).1]; exact h.row i hi,
    fun i hi => by rw [(hs _ (Or.inr rfl)).2]; exact h.rfz i hi, h.len, h.ne, h.pos⟩
theorem RDsk.below {w w' : World} {p r n cap m B : Nat} {blk : Nat → List UInt8} (h : RDsk w p r n cap m blk) (hb : Below B w w') (hp : p < B) (hq : r < B) : RDsk w' p r n cap m blk :=
  h.same (fun x hx => ⟨hb.cell (by rcases hx with hx | hx <;> omega), hb.frozen (by rcases hx with hx | hx <;> omega)⟩)
theorem RDsk.touch2 {w w' : World} {p r n cap m a b : Nat} {blk : Nat → List UInt8} (h : RDsk w p r n cap m blk) (t : Touch2 a b w w') (h1 : p ≠ a) (h2 : p ≠ b) (h3 : r ≠ a) (h4 : r ≠ b) : RDsk w' p r n cap m blk := by
  have hp := h.plt
  have hq := h.rlt
  exact h.same (fun x hx => ⟨t.cell (by rcases hx with hx | hx <;> omega) (by rcases hx with hx | hx <;> omega) (by rcases hx with hx | hx <;> omega), t.frozen (by rcases hx with hx | hx <;> omega) (by rcases hx with hx | hx <;> omega) (by rcases hx with hx | hx <;> omega)⟩)

theorem rread_no (w : World) (p r n cap : Nat) (f : Int) (h1 : w.cell? ⟨p, 0, none⟩ = some (.slice (some ⟨r, 0, none⟩) n cap)) (h : inB f n = false) :
    Calls Try.prog 22 #[.pointer (some ⟨p, 0, none⟩), i64 f] w fun e w' => e = .returned (.tuple #[.string ⟨#[]⟩, i64 6]) ∧ w' = w := by
  by_cases h0 : f < 0
  · go_enter Try.func22, Try.ntmps22
    go_wp2
    go_ret2
    exact ⟨rfl, rfl⟩
  · have h2 : (n : Int) ≤ f := by simp [inB] at h; omega
    go_enter Try.func22, Try.ntmps22
    go_wp2
    go_ret2
    exact ⟨rfl, rfl⟩
theorem rread_ok (w : World) (p r n cap : Nat) (f : Nat) (s : ByteArray) (h1 : w.cell? ⟨p, 0, none⟩ = some (.slice (some ⟨r, 0, none⟩) n cap)) (h : f < n) (hr : w.cell? ⟨r, f, none⟩ = some (.string s)) :
    Calls Try.prog 22 #[.pointer (some ⟨p, 0, none⟩), i64 f] w fun e w' => e = .returned (.tuple #[.string s, i64 0]) ∧ w' = w := by
  go_enter Try.func22, Try.ntmps22
  go_wp2
  go_ret2
  exact ⟨rfl, rfl⟩
theorem rread_dsk {w : World} {p r n cap m : Nat} {blk : Nat → List UInt8} (h : RDsk w p r n cap m blk) (f : Int) :
    Calls Try.prog 22 #[.pointer (some ⟨p, 0, none⟩), i64 f] w fun e w' => e = .returned (.tuple #[.string ⟨(rdS blk f n).toArray⟩, i64 (rdE f n)]) ∧ w' = w := by
  unfold rdE rdS
  by_cases hz : inB f n = true
  · rw [if_pos hz, if_pos hz]
    obtain ⟨k, rfl, hk⟩ := inB_nat hz
    exact rread_ok w p r n cap k _ h.ptr hk (h.row k hk)
  · rw [if_neg hz, if_neg hz]
    exact rread_no w p r n cap f h.ptr (by simpa using hz)

theorem rwrite_no (w : World) (p r n cap : Nat) (f : Int) (s : ByteArray) (h1 : w.cell? ⟨p, 0, none⟩ = some (.slice (some ⟨r, 0, none⟩) n cap)) (h : inB f n = false) :
    Calls Try.prog 20 #[.pointer (some ⟨p, 0, none⟩), i64 f, .string s] w fun e w' => e = .returned (i64 6) ∧ w' = w := by
  by_cases h0 : f < 0
  · go_enter Try.func20, Try.ntmps20
    go_wp2
    go_ret
    exact ⟨rfl, rfl⟩
  · have h2 : (n : Int) ≤ f := by simp [inB] at h; omega
    go_enter Try.func20, Try.ntmps20
    go_wp2
    go_ret
    exact ⟨rfl, rfl⟩
theorem rwrite_long (w : World) (p r n cap : Nat) (f : Nat) (s : ByteArray) (h1 : w.cell? ⟨p, 0, none⟩ = some (.slice (some ⟨r, 0, none⟩) n cap)) (h : f < n) (hs : 8 < s.size) :
    Calls Try.prog 20 #[.pointer (some ⟨p, 0, none⟩), i64 f, .string s] w fun e w' => e = .returned (i64 2) ∧ w' = w := by
  go_enter Try.func20, Try.ntmps20
  go_wp2
  go_ret
  exact ⟨rfl, rfl⟩
set_option maxRecDepth 100000 in
set_option maxHeartbeats 2000000 in
theorem rwrite_ok (w : World) (p r n cap m : Nat) (f : Nat) (s t : ByteArray) (hpr : p ≠ r) (h1 : w.cell? ⟨p, 0, none⟩ = some (.slice (some ⟨r, 0, none⟩) n cap)) (hm : w.cell? ⟨p, 1, none⟩ = some (i64 m)) (hfz : w.frozen? ⟨p, 1, none⟩ = false) (hmb : m ≤ 1000) (h : f < n) (hs : s.size ≤ 8)
    (hr : w.cell? ⟨r, f, none⟩ = some (.string t)) (ht : t.size = 8) (hrf : w.frozen? ⟨r, f, none⟩ = false) :
    Calls Try.prog 20 #[.pointer (some ⟨p, 0, none⟩), i64 f, .string s] w fun e w' => e = .returned (i64 0) ∧ w' = (w.setCell ⟨r, f, none⟩ (.string (s ++ t.extract s.size 8))).drew.setCell ⟨p, 1, none⟩ (i64 (m + 1)) := by
  have hrp : r ≠ p := fun e => hpr e.symm
  have hsum : s.size + (t.extract s.size 8).size ≤ 9223372036854775807 := by rw [ByteArray.size_extract]; omega
  go_enter Try.func20, Try.ntmps20
  go_wp2_with fail
  go_region
  have c2 : (w.setCell ⟨r, f, none⟩ (.string (s ++ t.extract s.size 8))).drew.cell? ⟨p, 1, none⟩ = some (i64 m) := by rw [World.cell?_drew, World.cell?_setCell_far _ _ _ _ (by exact hrp)]; exact hm
  have f2 : (w.setCell ⟨r, f, none⟩ (.string (s ++ t.extract s.size 8))).drew.frozen? ⟨p, 1, none⟩ = false := by rw [World.frozen?_drew, World.frozen?_setCell]; exact hfz
  obtain ⟨w2, hw2⟩ : ∃ x, x = (w.setCell ⟨r, f, none⟩ (.string (s ++ t.extract s.size 8))).drew := ⟨_, rfl⟩
  have HW2 : Hid (w2 = (w.setCell ⟨r, f, none⟩ (.string (s ++ t.extract s.size 8))).drew) := hw2
  rw [← hw2] at c2 f2 ⊢
  clear hw2
  go_wp2_with fail
  go_ret
  exact ⟨rfl, by rw [← HW2.out]⟩

theorem str_put (s : ByteArray) (l : List UInt8) (hl : l.length = 8) : s ++ (⟨l.toArray⟩ : ByteArray).extract s.size 8 = ⟨(s.data.toList ++ l.drop s.data.toList.length).toArray⟩ := by
  apply ByteArray.ext
  rw [ByteArray.data_append, ByteArray.data_extract]
  apply Array.ext'
  have e : s.size = s.data.toList.length := rfl
  rw [e]
  simp only [Array.toList_append, Array.toList_extract, List.extract_eq_take_drop]
  rw [List.take_of_length_le (by rw [List.length_drop]; omega)]

theorem RDsk.put {w : World} {p r n cap m : Nat} {blk : Nat → List UInt8} (h : RDsk w p r n cap m blk) (k : Nat) (v : List UInt8) (hk : k < n) (hv : v.length = 8) :
    RDsk ((w.setCell ⟨r, k, none⟩ (.string ⟨v.toArray⟩)).drew.setCell ⟨p, 1, none⟩ (i64 (m + 1))) p r n cap (m + 1) (upd blk k v) := by
  have hpr := h.ne
  have hrp : r ≠ p := fun e => hpr e.symm
  have hc1 : (w.setCell ⟨r, k, none⟩ (.string ⟨v.toArray⟩)).drew.cell? ⟨p, 1, none⟩ = some (i64 m) := by rw [World.cell?_drew, World.cell?_setCell_far _ _ _ _ (by exact hrp)]; exact h.cnt
  refine ⟨?_, World.cell?_setCell_same _ _ _ hc1, ?_, ?_, ?_, ?_, hpr, h.pos⟩
  · rw [World.cell?_setCell_other _ _ _ _ (by simp), World.cell?_drew, World.cell?_setCell_far _ _ _ _ (by exact hrp)]; exact h.ptr
  · rw [World.frozen?_setCell, World.frozen?_drew, World.frozen?_setCell]; exact h.fz
  · intro i hi
    rw [World.cell?_setCell_far _ _ _ _ (by exact hpr), World.cell?_drew]
    unfold upd
    by_cases hik : i = k
    · subst hik
      rw [if_pos rfl]
      exact World.cell?_setCell_same _ _ _ (h.row i hi)
    · rw [if_neg hik, World.cell?_setCell_other _ _ _ _ (by simp)]
      exact h.row i hi
  · intro i hi
    rw [World.frozen?_setCell, World.frozen?_drew, World.frozen?_setCell]
    exact h.rfz i hi
  · intro i hi
    unfold upd
    split
    · exact hv
    · exact h.len i hi

theorem rwrite_dsk {w : World} {p r n cap m : Nat} {blk : Nat → List UInt8} (h : RDsk w p r n cap m blk) (hm : m ≤ 1000) (f : Int) (s : ByteArray) :
    Calls Try.prog 20 #[.pointer (some ⟨p, 0, none⟩), i64 f, .string s] w fun e w' => e = .returned (i64 (wrE f s.size n)) ∧ Touch2 p r w w' ∧ RDsk w' p r n cap (wrM m f s.size n) (wrB blk f s.data.toList n) := by
  have hsz : s.data.toList.length = s.size := rfl
  unfold wrE wrM wrB
  rw [hsz]
  by_cases hz : inB f n = true
  · rw [if_pos hz]
    obtain ⟨k, rfl, hk⟩ := inB_nat hz
    by_cases hs : s.size ≤ 8
    · rw [if_pos hs, if_pos ⟨hz, hs⟩, if_pos ⟨hz, hs⟩]
      have h8 := h.len k hk
      refine (rwrite_ok w p r n cap m k s _ h.ne h.ptr h.cnt h.fz hm hk hs (h.row k hk) (by show (blk k).toArray.size = 8; simpa using h8) (h.rfz k hk)).mono ?_
      rintro e w' ⟨rfl, rfl⟩
      rw [str_put s (blk k) h8, hsz]
      refine ⟨rfl, ?_, h.put k _ hk (by rw [List.length_append, List.length_drop]; omega)⟩
      exact ((((Touch.refl r w).setCell rfl _).drew).two' p).trans (((Touch.refl p _).setCell rfl _).two r)
    · rw [if_neg hs, if_neg (fun e => hs e.2), if_neg (fun e => hs e.2)]
      refine (rwrite_long w p r n cap k s h.ptr hk (by omega)).mono ?_
      rintro e w' ⟨rfl, rfl⟩
      exact ⟨rfl, Touch2.refl _ _ _, h⟩
  · rw [if_neg hz, if_neg (fun e => hz e.1), if_neg (fun e => hz e.1)]
    refine (rwrite_no w p r n cap f s h.ptr (by simpa using hz)).mono ?_
    rintro e w' ⟨rfl, rfl⟩
    exact ⟨rfl, Touch2.refl _ _ _, h⟩

theorem info9x : (Try.prog.info? 9).map (fun i => (i.zero, i.size, i.bytes)) = some (some (.string ⟨#[]⟩), 1, 16) := by kernel_rfl
theorem under57 : Try.prog.underlying 57 = some (.slice 9) := by kernel_rfl
abbrev zs : Value := .string ⟨#[0, 0, 0, 0, 0, 0, 0, 0]⟩

/-- What stands between two rounds of New's loop. -/
structure Grow (w wr : World) (v : Value) (k : Nat) : Prop where
  hd : wr.cell? ⟨w.heap.size, 0, none⟩ = some v
  fz : wr.frozen? ⟨w.heap.size, 0, none⟩ = false
  cnt : wr.cell? ⟨w.heap.size, 1, none⟩ = some (i64 0)
  cfz : wr.frozen? ⟨w.heap.size, 1, none⟩ = false
  own : wr.ownsRow (w.heap.size + 1) 9 1 v k (List.replicate k zs)
  bel : Below w.heap.size w wr
  sz : w.heap.size + 1 ≤ wr.heap.size

theorem Grow.next {w wr w2 : World} {v v' : Value} {k : Nat} {o : Obj} (h : Grow w wr v k) (ho : w2.ownsRow (w.heap.size + 1) 9 1 v' (k + 1) (List.replicate k zs ++ [zs])) (hg : (wr.alloc o).grownBy w2 v.ownBlock) :
    w2.cell? ⟨w.heap.size, 0, none⟩ = some v ∧ w2.frozen? ⟨w.heap.size, 0, none⟩ = false ∧ Grow w (w2.setCell ⟨w.heap.size, 0, none⟩ v') v' (k + 1) := by
  have hs := h.sz
  have hne : some w.heap.size ≠ v.ownBlock := fun e => by
    have := (h.own.lt w.heap.size e.symm).1
    omega
  have hsz : (wr.alloc o).heap.size = wr.heap.size + 1 := by simp
  have hblk : w2.heap[w.heap.size]? = wr.heap[w.heap.size]? := (hg.block _ (by omega) hne).trans (Below.heap_alloc _ _ _ (by omega))
  have hc : w2.cell? ⟨w.heap.size, 0, none⟩ = some v := (World.cell?_of_block (w := wr) hblk).trans h.hd
  have hf : w2.frozen? ⟨w.heap.size, 0, none⟩ = false := (World.frozen?_of_block (w := wr) hblk).trans h.fz
  have hc1 : w2.cell? ⟨w.heap.size, 1, none⟩ = some (i64 0) := (World.cell?_of_block (w := wr) hblk).trans h.cnt
  have hf1 : w2.frozen? ⟨w.heap.size, 1, none⟩ = false := (World.frozen?_of_block (w := wr) hblk).trans h.cfz
  refine ⟨hc, hf, ?_⟩
  have hg2 := hg.size
  refine ⟨World.cell?_setCell_same _ _ _ hc, by rw [World.frozen?_setCell]; exact hf, by rw [World.cell?_setCell_other _ _ _ _ (by simp)]; exact hc1, by rw [World.frozen?_setCell]; exact hf1, ?_, ?_, ?_⟩
  · rw [List.replicate_succ']
    exact ownsRow_setCell_below ho (by show w.heap.size < _; omega) _
  · exact ((h.bel.alloc h.bel.size o).grown hg (by omega) (fun r hr => by have := (h.own.lt r hr).1; omega)).setCell (Nat.le_refl _) _
  · have : (w2.setCell ⟨w.heap.size, 0, none⟩ v').heap.size = w2.heap.size := by simp [World.setCell]
    omega

theorem Grow.dsk {w wr : World} {v : Value} {n : Nat} (h : Grow w wr v n) (hn : 1 ≤ n) : ∃ r cap, v = .slice (some ⟨r, 0, none⟩) n cap ∧ w.heap.size < r ∧ RDsk wr w.heap.size r n cap 0 (fun _ => zer8) := by
  obtain ⟨n', rfl⟩ : ∃ n', n = n' + 1 := ⟨n - 1, by omega⟩
  obtain ⟨g, cap, rfl⟩ := own_form h.own
  have hlt := (h.own.lt g rfl).1
  refine ⟨g, cap, rfl, by omega, h.hd, h.cnt, h.cfz, fun i hi => ?_, fun i _ => h.own.frozenAt i, fun _ _ => rfl, by omega, hn⟩
  rw [h.own.cellAt i (by omega), List.getElem?_replicate, if_pos hi]
  rfl

set_option maxRecDepth 100000 in
set_option maxHeartbeats 2000000 in
theorem rnew_ok (w : World) (n : Nat) (h1 : 1 ≤ n) (h2 : n ≤ 64) :
    Calls Try.prog 18 #[i64 n] w fun e w' => e = .returned (.pointer (some ⟨w.heap.size, 0, none⟩)) ∧ Below w.heap.size w w' ∧ ∃ r cap, w.heap.size < r ∧ RDsk w' w.heap.size r n cap 0 (fun _ => zer8) := by
  obtain ⟨i9, hi, hz, hs, hby⟩ := info_parts info9x
  have hg0 : Grow w (w.alloc (.cells #[.slice none 0 0, i64 0] 59)) (.slice none 0 0) 0 :=
    ⟨new_cell _ _ _ _ _ rfl, new_frozen _ _ _ _, new_cell _ _ _ _ _ rfl, new_frozen _ _ _ _, World.ownsRow_nil _ _ _ _, (Below.refl _ _).alloc (Nat.le_refl _) _, by simp⟩
  have HG0 : Hid (Grow w (w.alloc (.cells #[.slice none 0 0, i64 0] 59)) (.slice none 0 0) 0) := hg0
  have HI : Hid (Try.prog.info? 9 = some i9) := hi
  clear hg0 hi
  go_enter Try.func18, Try.ntmps18
  go_wp2_with fail
  go_loopw [4] (fun i wr => ∃ (k : Nat) (v : Value), k ≤ n ∧ i = i64 k ∧ Grow w wr v k) (fun i _ => n - (intOf i).toNat)
  case atStart => exact ⟨0, _, by omega, rfl, HG0.out⟩
  case round =>
    obtain ⟨k, v, hk, rfl, hgr⟩ := hrel
    by_cases hlt : k < n
    · have hd := hgr.hd
      have HG : Hid (Grow w wr v k) := hgr
      clear hgr
      go_wp2_with (at_builtin; refine wpList_append_own _ rfl (.tmp 16) (.tmp 17) 57 rfl (w.heap.size + 1) 9 i9 (.string ⟨#[]⟩) 1 16 under57 HI.out hz hs hby rfl (by omega) v k (List.replicate k zs) rfl (HG.out.own.alloc _) ⟨_, 0, none⟩ 1 1 [zs] rfl rfl (new_one _ _ _) (by simp [Value.oneCell']) (by unfold maxLen; omega) (by omega) (by have := HG.out.sz; simp; omega) ?_; intro v' w2 ho2 hg2 _; obtain ⟨g, cp, rfl⟩ := own_form ho2; obtain ⟨hc2, hf2, hn2⟩ := HG.out.next ho2 hg2; have HN : Hid (Grow _ _ _ _) := hn2; clear ho2 hg2 hn2)
      go_roundw
      case rel => exact ⟨k + 1, _, by omega, by go_num, HN.out⟩
      case measure => simp [intOf]; omega
    · obtain rfl : k = n := by omega
      obtain ⟨r, cap, rfl, hr, hmem⟩ := hgr.dsk h1
      have HM : Hid (RDsk wr w.heap.size r k cap 0 (fun _ => zer8)) := hmem
      have HB : Hid (Below w.heap.size w wr) := hgr.bel
      clear hmem hgr
      go_wp2_with fail
      go_ret
      exact ⟨rfl, HB.out, r, cap, hr, HM.out⟩
end Go.Proofs.Ytdgofhhpgmpgjaa
