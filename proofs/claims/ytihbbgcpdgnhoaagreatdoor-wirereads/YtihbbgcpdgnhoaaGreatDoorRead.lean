/- types.reader's read: its contract; no statement is proved in this text. -/
import Derived.Test.YtihbbgcpdgnhoaaGreatDoorRec
namespace Go.Proofs.YtihbbgcpdgnhoaaGreatDoor
open Go.ChangeShapes Go.WideShapes Go.ChangeAt Go.RowKit Go.Deep
attribute [local go_sem ↓] Go.wp_at_zero Go.wp_at_succ

theorem Rd.leaf (w : World) (S : Nat → Prop) (k n : Int) : Rd w S (.mk k n [] []) (.slice none 0 0) (.slice none 0 0) :=
  .mk (kids := []) 0 0 (fun _ => undef) (fun _ => undef) ⟨none, 0, rfl, Nat.zero_le _, ⟨Nat.le_refl _, fun x hx => by cases hx⟩, Or.inl rfl⟩ (Nat.zero_le _) (Or.inl rfl) (fun i T hT => by simp at hT) (fun i T hT => by simp at hT)
theorem Rd.set4 {w : World} {lo lo' R : Nat} {T : Ty} {nv kv : Value} (h : Rd w (fun b => lo' ≤ b) T nv kv) (h1 : R < lo') (h2 : lo ≤ lo') (a0 a1 a2 a3 : Value) : Rd ((((w.setCell ⟨R, 0, none⟩ a0).setCell ⟨R, 1, none⟩ a1).setCell ⟨R, 2, none⟩ a2).setCell ⟨R, 3, none⟩ a3) (fun b => lo ≤ b) T nv kv := by
  refine h.move (by simp [World.setCell]) (fun b hb _ => ⟨by omega, ?_⟩)
  have hne : b ≠ R := by omega
  rw [Below.heap_setCell _ _ _ _ hne, Below.heap_setCell _ _ _ _ hne, Below.heap_setCell _ _ _ _ hne, Below.heap_setCell _ _ _ _ hne]
theorem readP_i (f : Nat) (r : Bs) : readP (f + 1) (105 :: r) = (numP r).map fun x => (.mk 1 x.1 [] [], x.2) := rfl
theorem readP_t (f : Nat) (r : Bs) : readP (f + 1) (116 :: r) = (numP r).map fun x => (.mk 2 x.1 [] [], x.2) := rfl
theorem readP_l (f : Nat) (r : Bs) : readP (f + 1) (108 :: r) = listP f r := rfl
theorem readP_r (f : Nat) (r : Bs) : readP (f + 1) (114 :: r) = recP0 f r := rfl
theorem readP_no (f : Nat) (l : Bs) (h1 : ∀ r, l ≠ 105 :: r) (h2 : ∀ r, l ≠ 116 :: r) (h3 : ∀ r, l ≠ 108 :: r) (h4 : ∀ r, l ≠ 114 :: r) : readP (f + 1) l = none := by
  cases l with
  | nil => rfl
  | cons c r =>
    show (if c = 105 then _ else if c = 116 then _ else if c = 108 then _ else if c = 114 then _ else _) = _
    rw [if_neg (fun e => h1 r (by rw [e])), if_neg (fun e => h2 r (by rw [e])), if_neg (fun e => h3 r (by rw [e])), if_neg (fun e => h4 r (by rw [e]))]
set_option maxRecDepth 100000 in
set_option maxHeartbeats 3200000 in
theorem read_i (f : Nat) (hf : f ≤ 5) (w : World) (q : Nat) (l : Bs) (hq : w.heap[q]? = some (.cells #[str l] 133)) (hl : l.length ≤ 1000000) (hM : Mx w q) (r : Bs) (hlr0 : l = 105 :: r) : Calls Tryz.prog 71 #[pq q, i64 (6 - f)] w (Rok w q l.length (readP (f + 1) l)) := by
  obtain ⟨res, hres⟩ : ∃ res, res = readP (f + 1) l := ⟨_, rfl⟩
  have HRes0 := hid hres
  obtain ⟨L, hL⟩ : ∃ L, L = l.length := ⟨_, rfl⟩
  have HLe := hid hL
  have hL6 : L ≤ 1000000 := by omega
  rw [← hres, ← hL]
  clear hL
  have HM := hid hM
  have hqlt := blk_lt hq
  obtain ⟨D, hD⟩ : ∃ D, D = (6 : Int) - f := ⟨_, rfl⟩
  have HDe := hid hD
  have hD0 : 0 ≤ D := by omega
  have hD2 : D ≤ 6 := by omega
  rw [← hD]
  have HR0 : Hid ((w.alloc zT).heap[w.heap.size]? = some zT) := heap_last w _
  have HQ0 : Hid ((w.alloc zT).heap[q]? = some (.cells #[str l] 133)) := blk_alloc hq _
  have HT0 : Hid (Touch q w (w.alloc zT)) := hid ((Touch.refl q w).alloc _)
  have hqR : Hid (q ≠ w.heap.size) := by show q ≠ _; omega
  clear hres hM hq hD hqlt
  go_enter Tryz.func71, Tryz.ntmps71
  go_upto_region 1 with fail
  obtain ⟨R, hR⟩ : ∃ R, R = w.heap.size := ⟨_, rfl⟩
  rw [← hR] at HR0 hqR ⊢
  have HRe : Hid (w.heap.size ≤ R) := by show _ ≤ _; omega
  clear hR
  generalize w.alloc zT = v0 at *
  have hlr := hid hlr0
  clear hlr0
  have HQh : Hid (v0.heap[q]? = some (.cells #[str (105 :: r)] 133)) := by have := HQ0.out; rw [hlr.out] at this; exact this
  go_wp2_with fail
  refine (take_hit v0 q 105 r HQh.out).mono ?_
  rintro e v1 ⟨rfl, hq1, ht1⟩
  have HQ1 := hid hq1
  have HT1 : Hid (Touch q w v1) := HT0.out.trans ht1
  have HR1 : Hid (v1.heap[R]? = some zT) := by show _ = _; rw [ht1.block R (blk_lt HR0.out) (fun e => hqR.out e.symm)]; exact HR0.out
  clear hq1 ht1
  have HLr : Hid (r.length + 1 = L) := by show _ = _; rw [HLe.out, hlr.out]; rfl
  have HNU : Hid (Calls Tryz.prog 83 #[pq q] v1 fun e w' => e = .returned (.tuple #[i64 (valD (digs3 r) : Nat), .bool (numOk (digs3 r))]) ∧ w'.heap[q]? = some (.cells #[str (r.drop (digs3 r).length)] 133) ∧ Touch q v1 w') := number_ok v1 q r (by have := HLr.out; omega) HQ1.out
  have HRs : Hid (res = (numP r).map fun x => (.mk 1 x.1 [] [], x.2)) := by show _ = _; rw [HRes0.out, hlr.out]; rfl
  have HNN := hid (numP_none (l := r))
  have HNS := hid (numP_some (l := r))
  have HLn : Hid ((r.drop (digs3 r).length).length ≤ L) := by show _ ≤ _; rw [List.length_drop]; have := HLr.out; omega
  generalize numOk (digs3 r) = OK at *
  generalize valD (digs3 r) = NV at *
  generalize r.drop (digs3 r).length = l1 at *
  go_wp2_with fail
  refine HNU.out.mono ?_
  rintro e w1 ⟨rfl, hq1, ht1⟩
  have HQw := hid hq1
  have HTw : Hid (Touch q w w1) := HT1.out.trans ht1
  have HRw : Hid (w1.heap[R]? = some zT) := by show _ = _; rw [ht1.block R (blk_lt HR1.out) (fun e => hqR.out e.symm)]; exact HR1.out
  clear hq1 ht1 HNU
  have rc0 : w1.cell? ⟨R, 0, none⟩ = some (i64 0) := blk_cell HRw.out 0
  have rf0 : w1.frozen? ⟨R, 0, none⟩ = false := blk_frozen HRw.out 0
  have rc1 : w1.cell? ⟨R, 1, none⟩ = some (i64 0) := blk_cell HRw.out 1
  have rf1 : w1.frozen? ⟨R, 1, none⟩ = false := blk_frozen HRw.out 1
  have rc2 : w1.cell? ⟨R, 2, none⟩ = some (.slice none 0 0) := blk_cell HRw.out 2
  have rf2 : w1.frozen? ⟨R, 2, none⟩ = false := blk_frozen HRw.out 2
  have rc3 : w1.cell? ⟨R, 3, none⟩ = some (.slice none 0 0) := blk_cell HRw.out 3
  have rf3 : w1.frozen? ⟨R, 3, none⟩ = false := blk_frozen HRw.out 3
  cases OK with
  | false =>
    have HRes : Hid (res = none) := by show _ = _; rw [HRs.out, HNN.out rfl]; rfl
    go_wp2_with fail
    refine bodyPost_ret (v := .tuple #[tyV 1 NV (.slice none 0 0) (.slice none 0 0), .bool false]) (results_cell Tryz.results71 rfl rfl (load25 (set4 HRw.out _ _ _ _))) rfl ?_
    exact ⟨1, NV, none, 0, 0, none, 0, 0, _, by rw [HRes.out]; rfl, set4_ne HQw.out hqR.out _ _ _ _, HLn.out, HTw.out.set4 HRe.out _ _ _ _, fun T r h => by rw [HRes.out] at h; cases h⟩
  | true =>
    have HRes : Hid (res = some (.mk 1 NV [] [], l1)) := by show _ = _; rw [HRs.out, HNS.out rfl]; rfl
    go_wp2_with fail
    refine bodyPost_ret (v := .tuple #[tyV 1 NV (.slice none 0 0) (.slice none 0 0), .bool true]) (results_cell Tryz.results71 rfl rfl (load25 (set4 HRw.out _ _ _ _))) rfl ?_
    exact ⟨1, NV, none, 0, 0, none, 0, 0, _, by rw [HRes.out]; rfl, set4_ne HQw.out hqR.out _ _ _ _, HLn.out, HTw.out.set4 HRe.out _ _ _ _, fun T r h => by rw [HRes.out] at h; cases h; exact ⟨rfl, rfl, rfl, Rd.leaf _ _ _ _⟩⟩
set_option maxRecDepth 100000 in
set_option maxHeartbeats 3200000 in
theorem read_t (f : Nat) (hf : f ≤ 5) (w : World) (q : Nat) (l : Bs) (hq : w.heap[q]? = some (.cells #[str l] 133)) (hl : l.length ≤ 1000000) (hM : Mx w q) (r : Bs) (hlr0 : l = 116 :: r) : Calls Tryz.prog 71 #[pq q, i64 (6 - f)] w (Rok w q l.length (readP (f + 1) l)) := by
  obtain ⟨res, hres⟩ : ∃ res, res = readP (f + 1) l := ⟨_, rfl⟩
  have HRes0 := hid hres
  obtain ⟨L, hL⟩ : ∃ L, L = l.length := ⟨_, rfl⟩
  have HLe := hid hL
  have hL6 : L ≤ 1000000 := by omega
  rw [← hres, ← hL]
  clear hL
  have HM := hid hM
  have hqlt := blk_lt hq
  obtain ⟨D, hD⟩ : ∃ D, D = (6 : Int) - f := ⟨_, rfl⟩
  have HDe := hid hD
  have hD0 : 0 ≤ D := by omega
  have hD2 : D ≤ 6 := by omega
  rw [← hD]
  have HR0 : Hid ((w.alloc zT).heap[w.heap.size]? = some zT) := heap_last w _
  have HQ0 : Hid ((w.alloc zT).heap[q]? = some (.cells #[str l] 133)) := blk_alloc hq _
  have HT0 : Hid (Touch q w (w.alloc zT)) := hid ((Touch.refl q w).alloc _)
  have hqR : Hid (q ≠ w.heap.size) := by show q ≠ _; omega
  clear hres hM hq hD hqlt
  go_enter Tryz.func71, Tryz.ntmps71
  go_upto_region 1 with fail
  obtain ⟨R, hR⟩ : ∃ R, R = w.heap.size := ⟨_, rfl⟩
  rw [← hR] at HR0 hqR ⊢
  have HRe : Hid (w.heap.size ≤ R) := by show _ ≤ _; omega
  clear hR
  generalize w.alloc zT = v0 at *
  have hlr := hid hlr0
  clear hlr0
  have hn0 : Hid (∀ r', l ≠ 105 :: r') := by intro r' e; rw [hlr.out] at e; cases e
  go_wp2_with fail
  refine (take_miss v0 q 105 l hn0.out HQ0.out).mono ?_
  rintro e v1 ⟨rfl, hq1, ht1⟩
  have HQ1 := hid hq1
  have HT1 : Hid (Touch q w v1) := HT0.out.trans ht1
  have HR1 : Hid (v1.heap[R]? = some zT) := by show _ = _; rw [ht1.block R (blk_lt HR0.out) (fun e => hqR.out e.symm)]; exact HR0.out
  clear hq1 ht1
  have HQh : Hid (v1.heap[q]? = some (.cells #[str (116 :: r)] 133)) := by have := HQ1.out; rw [hlr.out] at this; exact this
  go_wp2_with fail
  refine (take_hit v1 q 116 r HQh.out).mono ?_
  rintro e v2 ⟨rfl, hq1, ht1⟩
  have HQ2 := hid hq1
  have HT2 : Hid (Touch q w v2) := HT1.out.trans ht1
  have HR2 : Hid (v2.heap[R]? = some zT) := by show _ = _; rw [ht1.block R (blk_lt HR1.out) (fun e => hqR.out e.symm)]; exact HR1.out
  clear hq1 ht1
  have HLr : Hid (r.length + 1 = L) := by show _ = _; rw [HLe.out, hlr.out]; rfl
  have HNU : Hid (Calls Tryz.prog 83 #[pq q] v2 fun e w' => e = .returned (.tuple #[i64 (valD (digs3 r) : Nat), .bool (numOk (digs3 r))]) ∧ w'.heap[q]? = some (.cells #[str (r.drop (digs3 r).length)] 133) ∧ Touch q v2 w') := number_ok v2 q r (by have := HLr.out; omega) HQ2.out
  have HRs : Hid (res = (numP r).map fun x => (.mk 2 x.1 [] [], x.2)) := by show _ = _; rw [HRes0.out, hlr.out]; rfl
  have HNN := hid (numP_none (l := r))
  have HNS := hid (numP_some (l := r))
  have HLn : Hid ((r.drop (digs3 r).length).length ≤ L) := by show _ ≤ _; rw [List.length_drop]; have := HLr.out; omega
  generalize numOk (digs3 r) = OK at *
  generalize valD (digs3 r) = NV at *
  generalize r.drop (digs3 r).length = l1 at *
  go_wp2_with fail
  refine HNU.out.mono ?_
  rintro e w1 ⟨rfl, hq1, ht1⟩
  have HQw := hid hq1
  have HTw : Hid (Touch q w w1) := HT2.out.trans ht1
  have HRw : Hid (w1.heap[R]? = some zT) := by show _ = _; rw [ht1.block R (blk_lt HR2.out) (fun e => hqR.out e.symm)]; exact HR2.out
  clear hq1 ht1 HNU
  have rc0 : w1.cell? ⟨R, 0, none⟩ = some (i64 0) := blk_cell HRw.out 0
  have rf0 : w1.frozen? ⟨R, 0, none⟩ = false := blk_frozen HRw.out 0
  have rc1 : w1.cell? ⟨R, 1, none⟩ = some (i64 0) := blk_cell HRw.out 1
  have rf1 : w1.frozen? ⟨R, 1, none⟩ = false := blk_frozen HRw.out 1
  have rc2 : w1.cell? ⟨R, 2, none⟩ = some (.slice none 0 0) := blk_cell HRw.out 2
  have rf2 : w1.frozen? ⟨R, 2, none⟩ = false := blk_frozen HRw.out 2
  have rc3 : w1.cell? ⟨R, 3, none⟩ = some (.slice none 0 0) := blk_cell HRw.out 3
  have rf3 : w1.frozen? ⟨R, 3, none⟩ = false := blk_frozen HRw.out 3
  cases OK with
  | false =>
    have HRes : Hid (res = none) := by show _ = _; rw [HRs.out, HNN.out rfl]; rfl
    go_wp2_with fail
    refine bodyPost_ret (v := .tuple #[tyV 2 NV (.slice none 0 0) (.slice none 0 0), .bool false]) (results_cell Tryz.results71 rfl rfl (load25 (set4 HRw.out _ _ _ _))) rfl ?_
    exact ⟨2, NV, none, 0, 0, none, 0, 0, _, by rw [HRes.out]; rfl, set4_ne HQw.out hqR.out _ _ _ _, HLn.out, HTw.out.set4 HRe.out _ _ _ _, fun T r h => by rw [HRes.out] at h; cases h⟩
  | true =>
    have HRes : Hid (res = some (.mk 2 NV [] [], l1)) := by show _ = _; rw [HRs.out, HNS.out rfl]; rfl
    go_wp2_with fail
    refine bodyPost_ret (v := .tuple #[tyV 2 NV (.slice none 0 0) (.slice none 0 0), .bool true]) (results_cell Tryz.results71 rfl rfl (load25 (set4 HRw.out _ _ _ _))) rfl ?_
    exact ⟨2, NV, none, 0, 0, none, 0, 0, _, by rw [HRes.out]; rfl, set4_ne HQw.out hqR.out _ _ _ _, HLn.out, HTw.out.set4 HRe.out _ _ _ _, fun T r h => by rw [HRes.out] at h; cases h; exact ⟨rfl, rfl, rfl, Rd.leaf _ _ _ _⟩⟩
set_option maxRecDepth 100000 in
set_option maxHeartbeats 3200000 in
theorem read_l (f : Nat) (hrd : ∀ (w : World) (q : Nat) (l : Bs), w.heap[q]? = some (.cells #[str l] 133) → l.length ≤ 1000000 → Mx w q → Calls Tryz.prog 71 #[pq q, i64 (7 - f)] w (Rok w q l.length (readP f l))) (hf : f ≤ 5) (w : World) (q : Nat) (l : Bs) (hq : w.heap[q]? = some (.cells #[str l] 133)) (hl : l.length ≤ 1000000) (hM : Mx w q) (r : Bs) (hlr0 : l = 108 :: r) : Calls Tryz.prog 71 #[pq q, i64 (6 - f)] w (Rok w q l.length (readP (f + 1) l)) := by
  obtain ⟨res, hres⟩ : ∃ res, res = readP (f + 1) l := ⟨_, rfl⟩
  have HRes0 := hid hres
  obtain ⟨L, hL⟩ : ∃ L, L = l.length := ⟨_, rfl⟩
  have HLe := hid hL
  have hL6 : L ≤ 1000000 := by omega
  rw [← hres, ← hL]
  clear hL
  have HM := hid hM
  have hqlt := blk_lt hq
  obtain ⟨D, hD⟩ : ∃ D, D = (6 : Int) - f := ⟨_, rfl⟩
  have HDe := hid hD
  have hD0 : 0 ≤ D := by omega
  have hD2 : D ≤ 6 := by omega
  rw [← hD]
  have HR0 : Hid ((w.alloc zT).heap[w.heap.size]? = some zT) := heap_last w _
  have HQ0 : Hid ((w.alloc zT).heap[q]? = some (.cells #[str l] 133)) := blk_alloc hq _
  have HT0 : Hid (Touch q w (w.alloc zT)) := hid ((Touch.refl q w).alloc _)
  have hqR : Hid (q ≠ w.heap.size) := by show q ≠ _; omega
  clear hres hM hq hD hqlt
  go_enter Tryz.func71, Tryz.ntmps71
  go_upto_region 1 with fail
  obtain ⟨R, hR⟩ : ∃ R, R = w.heap.size := ⟨_, rfl⟩
  rw [← hR] at HR0 hqR ⊢
  have HRe : Hid (w.heap.size ≤ R) := by show _ ≤ _; omega
  clear hR
  generalize w.alloc zT = v0 at *
  have hlr := hid hlr0
  have HRD := hid hrd
  clear hlr0 hrd
  have hn0 : Hid (∀ r', l ≠ 105 :: r') := by intro r' e; rw [hlr.out] at e; cases e
  go_wp2_with fail
  refine (take_miss v0 q 105 l hn0.out HQ0.out).mono ?_
  rintro e v1 ⟨rfl, hq1, ht1⟩
  have HQ1 := hid hq1
  have HT1 : Hid (Touch q w v1) := HT0.out.trans ht1
  have HR1 : Hid (v1.heap[R]? = some zT) := by show _ = _; rw [ht1.block R (blk_lt HR0.out) (fun e => hqR.out e.symm)]; exact HR0.out
  clear hq1 ht1
  have hn1 : Hid (∀ r', l ≠ 116 :: r') := by intro r' e; rw [hlr.out] at e; cases e
  go_wp2_with fail
  refine (take_miss v1 q 116 l hn1.out HQ1.out).mono ?_
  rintro e v2 ⟨rfl, hq1, ht1⟩
  have HQ2 := hid hq1
  have HT2 : Hid (Touch q w v2) := HT1.out.trans ht1
  have HR2 : Hid (v2.heap[R]? = some zT) := by show _ = _; rw [ht1.block R (blk_lt HR1.out) (fun e => hqR.out e.symm)]; exact HR1.out
  clear hq1 ht1
  have HQh : Hid (v2.heap[q]? = some (.cells #[str (108 :: r)] 133)) := by have := HQ2.out; rw [hlr.out] at this; exact this
  go_wp2_with fail
  refine (take_hit v2 q 108 r HQh.out).mono ?_
  rintro e v3 ⟨rfl, hq1, ht1⟩
  have HQ3 := hid hq1
  have HT3 : Hid (Touch q w v3) := HT2.out.trans ht1
  have HR3 : Hid (v3.heap[R]? = some zT) := by show _ = _; rw [ht1.block R (blk_lt HR2.out) (fun e => hqR.out e.symm)]; exact HR2.out
  clear hq1 ht1
  have HLr : Hid (r.length + 1 = L) := by show _ = _; rw [HLe.out, hlr.out]; rfl
  have HRs : Hid (res = listP f r) := by show _ = _; rw [HRes0.out, hlr.out]; rfl
  have HCA : Hid (Calls Tryz.prog 84 #[pq q, i64 D] v3 (Rok v3 q r.length (listP f r))) := by show Calls _ _ _ _ _; rw [HDe.out]; exact list_ok f HRD.out (by omega) v3 q r HQ3.out (by have := HLr.out; omega) (HM.out.touch HT3.out)
  generalize listP f r = res1 at *
  go_wp2_with fail
  refine HCA.out.mono ?_
  rintro e w3 ⟨k1, m1, a1, n1, c1, a2, n2, c2, l3, rfl, hq3, hl3, ht3, hf3⟩
  have HQ9 := hid hq3
  have HL9 : Hid (l3.length ≤ L) := by show _ ≤ _; have := HLr.out; omega
  have HT9 : Hid (Touch q w w3) := HT3.out.trans ht3
  have HR9 : Hid (w3.heap[R]? = some zT) := by show _ = _; rw [ht3.block R (blk_lt HR3.out) (fun e => hqR.out e.symm)]; exact HR3.out
  have HF9 := hid hf3
  have HRlo : Hid (R < v3.heap.size) := blk_lt HR3.out
  clear hq3 hl3 ht3 hf3
  have rc0 : w3.cell? ⟨R, 0, none⟩ = some (i64 0) := blk_cell HR9.out 0
  have rf0 : w3.frozen? ⟨R, 0, none⟩ = false := blk_frozen HR9.out 0
  have rc1 : w3.cell? ⟨R, 1, none⟩ = some (i64 0) := blk_cell HR9.out 1
  have rf1 : w3.frozen? ⟨R, 1, none⟩ = false := blk_frozen HR9.out 1
  have rc2 : w3.cell? ⟨R, 2, none⟩ = some (.slice none 0 0) := blk_cell HR9.out 2
  have rf2 : w3.frozen? ⟨R, 2, none⟩ = false := blk_frozen HR9.out 2
  have rc3 : w3.cell? ⟨R, 3, none⟩ = some (.slice none 0 0) := blk_cell HR9.out 3
  have rf3 : w3.frozen? ⟨R, 3, none⟩ = false := blk_frozen HR9.out 3
  go_wp2_with fail
  refine bodyPost_ret (v := .tuple #[tyV k1 m1 (.slice a1 n1 c1) (.slice a2 n2 c2), .bool res1.isSome]) (results_cell Tryz.results71 rfl rfl (load25 (set4 HR9.out _ _ _ _))) rfl ?_
  exact ⟨k1, m1, a1, n1, c1, a2, n2, c2, l3, by rw [HRs.out], set4_ne HQ9.out hqR.out _ _ _ _, HL9.out, HT9.out.set4 HRe.out _ _ _ _, fun T r' h => by
    rw [HRs.out] at h
    obtain ⟨g1, g2, g3, g4⟩ := HF9.out T r' h
    exact ⟨g1, g2, g3, g4.set4 HRlo.out HT3.out.size _ _ _ _⟩⟩
set_option maxRecDepth 100000 in
set_option maxHeartbeats 3200000 in
theorem read_r (f : Nat) (hrd : ∀ (w : World) (q : Nat) (l : Bs), w.heap[q]? = some (.cells #[str l] 133) → l.length ≤ 1000000 → Mx w q → Calls Tryz.prog 71 #[pq q, i64 (7 - f)] w (Rok w q l.length (readP f l))) (hf : f ≤ 5) (w : World) (q : Nat) (l : Bs) (hq : w.heap[q]? = some (.cells #[str l] 133)) (hl : l.length ≤ 1000000) (hM : Mx w q) (r : Bs) (hlr0 : l = 114 :: r) : Calls Tryz.prog 71 #[pq q, i64 (6 - f)] w (Rok w q l.length (readP (f + 1) l)) := by
  obtain ⟨res, hres⟩ : ∃ res, res = readP (f + 1) l := ⟨_, rfl⟩
  have HRes0 := hid hres
  obtain ⟨L, hL⟩ : ∃ L, L = l.length := ⟨_, rfl⟩
  have HLe := hid hL
  have hL6 : L ≤ 1000000 := by omega
  rw [← hres, ← hL]
  clear hL
  have HM := hid hM
  have hqlt := blk_lt hq
  obtain ⟨D, hD⟩ : ∃ D, D = (6 : Int) - f := ⟨_, rfl⟩
  have HDe := hid hD
  have hD0 : 0 ≤ D := by omega
  have hD2 : D ≤ 6 := by omega
  rw [← hD]
  have HR0 : Hid ((w.alloc zT).heap[w.heap.size]? = some zT) := heap_last w _
  have HQ0 : Hid ((w.alloc zT).heap[q]? = some (.cells #[str l] 133)) := blk_alloc hq _
  have HT0 : Hid (Touch q w (w.alloc zT)) := hid ((Touch.refl q w).alloc _)
  have hqR : Hid (q ≠ w.heap.size) := by show q ≠ _; omega
  clear hres hM hq hD hqlt
  go_enter Tryz.func71, Tryz.ntmps71
  go_upto_region 1 with fail
  obtain ⟨R, hR⟩ : ∃ R, R = w.heap.size := ⟨_, rfl⟩
  rw [← hR] at HR0 hqR ⊢
  have HRe : Hid (w.heap.size ≤ R) := by show _ ≤ _; omega
  clear hR
  generalize w.alloc zT = v0 at *
  have hlr := hid hlr0
  have HRD := hid hrd
  clear hlr0 hrd
  have hn0 : Hid (∀ r', l ≠ 105 :: r') := by intro r' e; rw [hlr.out] at e; cases e
  go_wp2_with fail
  refine (take_miss v0 q 105 l hn0.out HQ0.out).mono ?_
  rintro e v1 ⟨rfl, hq1, ht1⟩
  have HQ1 := hid hq1
  have HT1 : Hid (Touch q w v1) := HT0.out.trans ht1
  have HR1 : Hid (v1.heap[R]? = some zT) := by show _ = _; rw [ht1.block R (blk_lt HR0.out) (fun e => hqR.out e.symm)]; exact HR0.out
  clear hq1 ht1
  have hn1 : Hid (∀ r', l ≠ 116 :: r') := by intro r' e; rw [hlr.out] at e; cases e
  go_wp2_with fail
  refine (take_miss v1 q 116 l hn1.out HQ1.out).mono ?_
  rintro e v2 ⟨rfl, hq1, ht1⟩
  have HQ2 := hid hq1
  have HT2 : Hid (Touch q w v2) := HT1.out.trans ht1
  have HR2 : Hid (v2.heap[R]? = some zT) := by show _ = _; rw [ht1.block R (blk_lt HR1.out) (fun e => hqR.out e.symm)]; exact HR1.out
  clear hq1 ht1
  have hn2 : Hid (∀ r', l ≠ 108 :: r') := by intro r' e; rw [hlr.out] at e; cases e
  go_wp2_with fail
  refine (take_miss v2 q 108 l hn2.out HQ2.out).mono ?_
  rintro e v3 ⟨rfl, hq1, ht1⟩
  have HQ3 := hid hq1
  have HT3 : Hid (Touch q w v3) := HT2.out.trans ht1
  have HR3 : Hid (v3.heap[R]? = some zT) := by show _ = _; rw [ht1.block R (blk_lt HR2.out) (fun e => hqR.out e.symm)]; exact HR2.out
  clear hq1 ht1
  have HQh : Hid (v3.heap[q]? = some (.cells #[str (114 :: r)] 133)) := by have := HQ3.out; rw [hlr.out] at this; exact this
  go_wp2_with fail
  refine (take_hit v3 q 114 r HQh.out).mono ?_
  rintro e v4 ⟨rfl, hq1, ht1⟩
  have HQ4 := hid hq1
  have HT4 : Hid (Touch q w v4) := HT3.out.trans ht1
  have HR4 : Hid (v4.heap[R]? = some zT) := by show _ = _; rw [ht1.block R (blk_lt HR3.out) (fun e => hqR.out e.symm)]; exact HR3.out
  clear hq1 ht1
  have HLr : Hid (r.length + 1 = L) := by show _ = _; rw [HLe.out, hlr.out]; rfl
  have HRs : Hid (res = recP0 f r) := by show _ = _; rw [HRes0.out, hlr.out]; rfl
  have HCA : Hid (Calls Tryz.prog 85 #[pq q, i64 D] v4 (Rok v4 q r.length (recP0 f r))) := by show Calls _ _ _ _ _; rw [HDe.out]; exact record_ok f HRD.out (by omega) v4 q r HQ4.out (by have := HLr.out; omega) (HM.out.touch HT4.out)
  generalize recP0 f r = res1 at *
  go_wp2_with fail
  refine HCA.out.mono ?_
  rintro e w3 ⟨k1, m1, a1, n1, c1, a2, n2, c2, l3, rfl, hq3, hl3, ht3, hf3⟩
  have HQ9 := hid hq3
  have HL9 : Hid (l3.length ≤ L) := by show _ ≤ _; have := HLr.out; omega
  have HT9 : Hid (Touch q w w3) := HT4.out.trans ht3
  have HR9 : Hid (w3.heap[R]? = some zT) := by show _ = _; rw [ht3.block R (blk_lt HR4.out) (fun e => hqR.out e.symm)]; exact HR4.out
  have HF9 := hid hf3
  have HRlo : Hid (R < v4.heap.size) := blk_lt HR4.out
  clear hq3 hl3 ht3 hf3
  have rc0 : w3.cell? ⟨R, 0, none⟩ = some (i64 0) := blk_cell HR9.out 0
  have rf0 : w3.frozen? ⟨R, 0, none⟩ = false := blk_frozen HR9.out 0
  have rc1 : w3.cell? ⟨R, 1, none⟩ = some (i64 0) := blk_cell HR9.out 1
  have rf1 : w3.frozen? ⟨R, 1, none⟩ = false := blk_frozen HR9.out 1
  have rc2 : w3.cell? ⟨R, 2, none⟩ = some (.slice none 0 0) := blk_cell HR9.out 2
  have rf2 : w3.frozen? ⟨R, 2, none⟩ = false := blk_frozen HR9.out 2
  have rc3 : w3.cell? ⟨R, 3, none⟩ = some (.slice none 0 0) := blk_cell HR9.out 3
  have rf3 : w3.frozen? ⟨R, 3, none⟩ = false := blk_frozen HR9.out 3
  go_wp2_with fail
  refine bodyPost_ret (v := .tuple #[tyV k1 m1 (.slice a1 n1 c1) (.slice a2 n2 c2), .bool res1.isSome]) (results_cell Tryz.results71 rfl rfl (load25 (set4 HR9.out _ _ _ _))) rfl ?_
  exact ⟨k1, m1, a1, n1, c1, a2, n2, c2, l3, by rw [HRs.out], set4_ne HQ9.out hqR.out _ _ _ _, HL9.out, HT9.out.set4 HRe.out _ _ _ _, fun T r' h => by
    rw [HRs.out] at h
    obtain ⟨g1, g2, g3, g4⟩ := HF9.out T r' h
    exact ⟨g1, g2, g3, g4.set4 HRlo.out HT4.out.size _ _ _ _⟩⟩
set_option maxRecDepth 100000 in
set_option maxHeartbeats 3200000 in
theorem read_no (f : Nat) (hf : f ≤ 5) (w : World) (q : Nat) (l : Bs) (hq : w.heap[q]? = some (.cells #[str l] 133)) (hl : l.length ≤ 1000000) (hM : Mx w q) (h1 : ∀ r, l ≠ 105 :: r) (h2 : ∀ r, l ≠ 116 :: r) (h3 : ∀ r, l ≠ 108 :: r) (h4 : ∀ r, l ≠ 114 :: r) : Calls Tryz.prog 71 #[pq q, i64 (6 - f)] w (Rok w q l.length (readP (f + 1) l)) := by
  obtain ⟨res, hres⟩ : ∃ res, res = readP (f + 1) l := ⟨_, rfl⟩
  have HRes0 := hid hres
  obtain ⟨L, hL⟩ : ∃ L, L = l.length := ⟨_, rfl⟩
  have HLe := hid hL
  have hL6 : L ≤ 1000000 := by omega
  rw [← hres, ← hL]
  clear hL
  have HM := hid hM
  have hqlt := blk_lt hq
  obtain ⟨D, hD⟩ : ∃ D, D = (6 : Int) - f := ⟨_, rfl⟩
  have HDe := hid hD
  have hD0 : 0 ≤ D := by omega
  have hD2 : D ≤ 6 := by omega
  rw [← hD]
  have HR0 : Hid ((w.alloc zT).heap[w.heap.size]? = some zT) := heap_last w _
  have HQ0 : Hid ((w.alloc zT).heap[q]? = some (.cells #[str l] 133)) := blk_alloc hq _
  have HT0 : Hid (Touch q w (w.alloc zT)) := hid ((Touch.refl q w).alloc _)
  have hqR : Hid (q ≠ w.heap.size) := by show q ≠ _; omega
  clear hres hM hq hD hqlt
  go_enter Tryz.func71, Tryz.ntmps71
  go_upto_region 1 with fail
  obtain ⟨R, hR⟩ : ∃ R, R = w.heap.size := ⟨_, rfl⟩
  rw [← hR] at HR0 hqR ⊢
  have HRe : Hid (w.heap.size ≤ R) := by show _ ≤ _; omega
  clear hR
  generalize w.alloc zT = v0 at *
  have HRes : Hid (res = none) := by show _ = _; rw [HRes0.out]; exact readP_no f l h1 h2 h3 h4
  have hn0 := hid h1
  have hn1 := hid h2
  have hn2 := hid h3
  have hn3 := hid h4
  have HLX : Hid (l.length ≤ L) := by show _ ≤ _; rw [HLe.out]; exact Nat.le_refl _
  clear h1 h2 h3 h4
  go_wp2_with fail
  refine (take_miss v0 q 105 l hn0.out HQ0.out).mono ?_
  rintro e v1 ⟨rfl, hq1, ht1⟩
  have HQ1 := hid hq1
  have HT1 : Hid (Touch q w v1) := HT0.out.trans ht1
  have HR1 : Hid (v1.heap[R]? = some zT) := by show _ = _; rw [ht1.block R (blk_lt HR0.out) (fun e => hqR.out e.symm)]; exact HR0.out
  clear hq1 ht1
  go_wp2_with fail
  refine (take_miss v1 q 116 l hn1.out HQ1.out).mono ?_
  rintro e v2 ⟨rfl, hq1, ht1⟩
  have HQ2 := hid hq1
  have HT2 : Hid (Touch q w v2) := HT1.out.trans ht1
  have HR2 : Hid (v2.heap[R]? = some zT) := by show _ = _; rw [ht1.block R (blk_lt HR1.out) (fun e => hqR.out e.symm)]; exact HR1.out
  clear hq1 ht1
  go_wp2_with fail
  refine (take_miss v2 q 108 l hn2.out HQ2.out).mono ?_
  rintro e v3 ⟨rfl, hq1, ht1⟩
  have HQ3 := hid hq1
  have HT3 : Hid (Touch q w v3) := HT2.out.trans ht1
  have HR3 : Hid (v3.heap[R]? = some zT) := by show _ = _; rw [ht1.block R (blk_lt HR2.out) (fun e => hqR.out e.symm)]; exact HR2.out
  clear hq1 ht1
  go_wp2_with fail
  refine (take_miss v3 q 114 l hn3.out HQ3.out).mono ?_
  rintro e v4 ⟨rfl, hq1, ht1⟩
  have HQ4 := hid hq1
  have HT4 : Hid (Touch q w v4) := HT3.out.trans ht1
  have HR4 : Hid (v4.heap[R]? = some zT) := by show _ = _; rw [ht1.block R (blk_lt HR3.out) (fun e => hqR.out e.symm)]; exact HR3.out
  clear hq1 ht1
  have rc0 : v4.cell? ⟨R, 0, none⟩ = some (i64 0) := blk_cell HR4.out 0
  have rf0 : v4.frozen? ⟨R, 0, none⟩ = false := blk_frozen HR4.out 0
  have rc1 : v4.cell? ⟨R, 1, none⟩ = some (i64 0) := blk_cell HR4.out 1
  have rf1 : v4.frozen? ⟨R, 1, none⟩ = false := blk_frozen HR4.out 1
  have rc2 : v4.cell? ⟨R, 2, none⟩ = some (.slice none 0 0) := blk_cell HR4.out 2
  have rf2 : v4.frozen? ⟨R, 2, none⟩ = false := blk_frozen HR4.out 2
  have rc3 : v4.cell? ⟨R, 3, none⟩ = some (.slice none 0 0) := blk_cell HR4.out 3
  have rf3 : v4.frozen? ⟨R, 3, none⟩ = false := blk_frozen HR4.out 3
  go_wp2_with fail
  refine bodyPost_ret (v := .tuple #[tyV 0 0 (.slice none 0 0) (.slice none 0 0), .bool false]) (results_cell Tryz.results71 rfl rfl (load25 (set4 HR4.out _ _ _ _))) rfl ?_
  exact ⟨0, 0, none, 0, 0, none, 0, 0, _, by rw [HRes.out]; rfl, set4_ne HQ4.out hqR.out _ _ _ _, HLX.out, HT4.out.set4 HRe.out _ _ _ _, fun T r h => by rw [HRes.out] at h; cases h⟩
set_option maxRecDepth 100000 in
set_option maxHeartbeats 3200000 in
theorem read_deep (w : World) (q : Nat) (l : Bs) (hq : w.heap[q]? = some (.cells #[str l] 133)) : Calls Tryz.prog 71 #[pq q, i64 7] w (Rok w q l.length (readP 0 l)) := by
  obtain ⟨res, hres⟩ : ∃ res, res = readP 0 l := ⟨_, rfl⟩
  have HRes : Hid (res = none) := by show _ = _; rw [hres]; rfl
  rw [← hres]
  have hqlt := blk_lt hq
  have HR0 : Hid ((w.alloc zT).heap[w.heap.size]? = some zT) := heap_last w _
  have HQ0 : Hid ((w.alloc zT).heap[q]? = some (.cells #[str l] 133)) := blk_alloc hq _
  have HT0 : Hid (Touch q w (w.alloc zT)) := hid ((Touch.refl q w).alloc _)
  have hqR : Hid (q ≠ w.heap.size) := by show q ≠ _; omega
  have HLX : Hid (l.length ≤ l.length) := Nat.le_refl _
  clear hres hq hqlt
  go_enter Tryz.func71, Tryz.ntmps71
  go_upto_region 1 with fail
  obtain ⟨R, hR⟩ : ∃ R, R = w.heap.size := ⟨_, rfl⟩
  rw [← hR] at HR0 hqR ⊢
  have HRe : Hid (w.heap.size ≤ R) := by show _ ≤ _; omega
  clear hR
  generalize w.alloc zT = v0 at *
  have rc0 : v0.cell? ⟨R, 0, none⟩ = some (i64 0) := blk_cell HR0.out 0
  have rf0 : v0.frozen? ⟨R, 0, none⟩ = false := blk_frozen HR0.out 0
  have rc1 : v0.cell? ⟨R, 1, none⟩ = some (i64 0) := blk_cell HR0.out 1
  have rf1 : v0.frozen? ⟨R, 1, none⟩ = false := blk_frozen HR0.out 1
  have rc2 : v0.cell? ⟨R, 2, none⟩ = some (.slice none 0 0) := blk_cell HR0.out 2
  have rf2 : v0.frozen? ⟨R, 2, none⟩ = false := blk_frozen HR0.out 2
  have rc3 : v0.cell? ⟨R, 3, none⟩ = some (.slice none 0 0) := blk_cell HR0.out 3
  have rf3 : v0.frozen? ⟨R, 3, none⟩ = false := blk_frozen HR0.out 3
  go_wp2_with fail
  refine bodyPost_ret (v := .tuple #[tyV 0 0 (.slice none 0 0) (.slice none 0 0), .bool false]) (results_cell Tryz.results71 rfl rfl (load25 (set4 HR0.out _ _ _ _))) rfl ?_
  exact ⟨0, 0, none, 0, 0, none, 0, 0, _, by rw [HRes.out]; rfl, set4_ne HQ0.out hqR.out _ _ _ _, HLX.out, HT0.out.set4 HRe.out _ _ _ _, fun T r h => by rw [HRes.out] at h; cases h⟩
theorem read_ok : ∀ (f : Nat), f ≤ 6 → ∀ (w : World) (q : Nat) (l : Bs), w.heap[q]? = some (.cells #[str l] 133) → l.length ≤ 1000000 → Mx w q → Calls Tryz.prog 71 #[pq q, i64 (7 - f)] w (Rok w q l.length (readP f l))
  | 0, _, w, q, l, hq, _, _ => by
    have := read_deep w q l hq
    simpa using this
  | f + 1, hf, w, q, l, hq, hl, hM => by
    have e : (7 : Int) - ((f + 1 : Nat) : Int) = 6 - f := by omega
    rw [e]
    have ih := read_ok f (by omega)
    by_cases h1 : ∃ r, l = 105 :: r
    · obtain ⟨r, h⟩ := h1; exact read_i f (by omega) w q l hq hl hM r h
    by_cases h2 : ∃ r, l = 116 :: r
    · obtain ⟨r, h⟩ := h2; exact read_t f (by omega) w q l hq hl hM r h
    by_cases h3 : ∃ r, l = 108 :: r
    · obtain ⟨r, h⟩ := h3; exact read_l f ih (by omega) w q l hq hl hM r h
    by_cases h4 : ∃ r, l = 114 :: r
    · obtain ⟨r, h⟩ := h4; exact read_r f ih (by omega) w q l hq hl hM r h
    exact read_no f (by omega) w q l hq hl hM (fun r e => h1 ⟨r, e⟩) (fun r e => h2 ⟨r, e⟩) (fun r e => h3 ⟨r, e⟩) (fun r e => h4 ⟨r, e⟩)
end Go.Proofs.YtihbbgcpdgnhoaaGreatDoor
