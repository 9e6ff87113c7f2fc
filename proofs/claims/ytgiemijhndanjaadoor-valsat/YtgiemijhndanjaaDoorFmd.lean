/- imagoref15's Formed and Check: their contracts; no statement is proved in this text. -/
import Derived.Test.YtgiemijhndanjaaDoorCnt
import Derived.Test.YtgiemijhndanjaaDoorTw
namespace Go.Proofs.YtgiemijhndanjaaDoor
open Go.ChangeShapes Go.WideShapes Go.ChangeAt Go.RowKit Go.Deep
attribute [local go_sem ↓] Go.wp_at_zero Go.wp_at_succ

mutual
/-- No lists are longer than a million. -/
def Ty.small : Ty → Bool | .mk _ _ names l => decide (names.length + l.length ≤ 1000000) && smallL l
def smallL : List Ty → Bool | [] => true | t :: r => t.small && smallL r
end
theorem smallL_mem : ∀ {l : List Ty} {t : Ty}, smallL l = true → t ∈ l → t.small = true
  | x :: r, t, hf, h => by
    simp only [smallL, Bool.and_eq_true] at hf
    rcases List.mem_cons.1 h with rfl | h
    · exact hf.1
    · exact smallL_mem hf.2 h
theorem take_formedL (l : List Ty) (k : Nat) (hk : k < l.length) : formedL (l.take (k + 1)) = (formedL (l.take k) && l[k].formed) := by
  induction l generalizing k with
  | nil => simp at hk
  | cons t r ih =>
    cases k with
    | zero => simp [formedL]
    | succ k =>
      have := ih k (by simpa using hk)
      simp only [List.take_succ_cons, formedL, List.getElem_cons_succ, this, Bool.and_assoc]
theorem namesTo_no {l : List Bs} {a : Bs} (ha : a ∈ l) (h : nameB a = false) : namesTo l l.length = false := by
  cases hn : namesTo l l.length with
  | false => rfl
  | true => rw [namesTo_mem hn ha] at h; cases h
theorem namesTo_tw {l : List Bs} (h : ∀ a ∈ l, nameB a = true) : namesTo l l.length = !twTo l l.length := by
  unfold namesTo twTo
  have : ∀ k, k ≤ l.length → ((List.range k).all fun i => nameB (l.getD i []) && !(l.take i).contains (l.getD i [])) = !((List.range k).any fun i => (l.take i).contains (l.getD i [])) := by
    intro k hk
    induction k with
    | zero => rfl
    | succ k ih =>
      rw [List.range_succ, List.all_append, List.any_append, ih (by omega)]
      have hn : nameB (l.getD k []) = true := by rw [getD_at l k (by omega)]; exact h _ (List.getElem_mem _)
      simp only [List.all_cons, List.all_nil, List.any_cons, List.any_nil, hn, Bool.true_and, Bool.and_true, Bool.or_false, Bool.not_or]
  exact this _ (Nat.le_refl _)
/-- A node, as the document asks of it, its names being names. -/
def kindB (k n : Int) (names kids : Nat) (tw : Bool) : Bool :=
  if k = 1 then decide (names + kids = 0) && (decide (n = 8) || decide (n = 16) || decide (n = 32))
  else if k = 2 then decide (names + kids = 0) && decide (0 ≤ n) && decide (n < 256)
  else if k = 3 then decide (names = 0) && decide (kids = 1) && decide (0 ≤ n) && decide (n < 97)
  else if k = 4 then decide (n = 0) && decide (0 < kids) && decide (kids < 13) && decide (names = kids) && !tw
  else false
theorem nodeB_kind {k n : Int} {names : List Bs} {kn : Nat} (h : ∀ a ∈ names, nameB a = true) : nodeB k n names kn = kindB k n names.length kn (twTo names names.length) := by
  unfold nodeB kindB
  split
  · rw [Bool.eq_iff_iff]; simp only [Bool.and_eq_true, Bool.or_eq_true, decide_eq_true_eq]; omega
  split
  · rw [Bool.eq_iff_iff]; simp only [Bool.and_eq_true, decide_eq_true_eq]; omega
  split
  · rw [Bool.eq_iff_iff]; simp only [Bool.and_eq_true, decide_eq_true_eq]; omega
  split
  · rw [namesTo_tw h, Bool.eq_iff_iff]; simp only [Bool.and_eq_true, decide_eq_true_eq]
    constructor <;> (rintro ⟨⟨⟨⟨a, b⟩, c⟩, d⟩, e⟩; exact ⟨⟨⟨⟨a, by omega⟩, by omega⟩, d⟩, e⟩)
  · rfl
theorem nodeB_no {k n : Int} {names : List Bs} {kn : Nat} {a : Bs} (ha : a ∈ names) (h : nameB a = false) : nodeB k n names kn = false := by
  have hl : ¬ names.length = 0 := by have := List.length_pos_of_mem ha; omega
  unfold nodeB
  rw [decide_eq_false hl, namesTo_no ha h]
  simp
set_option maxRecDepth 100000 in
set_option maxHeartbeats 6400000 in
theorem formed_in (k n : Int) (names : List Bs) (kids : List Ty) (w : World) (S : Nat → Prop) (nv kv : Value) (hR : Rd w S (.mk k n names kids) nv kv) (hsz : names.length + kids.length ≤ 1000000)
    (hih : ∀ T ∈ kids, ∀ (w : World) (nv kv : Value), Rd w S T nv kv → Calls Tryd.prog 34 #[tyV T.kind T.num nv kv] w fun e w' => e = .returned (.bool T.formed) ∧ Below w.heap.size w w') :
    Calls Tryd.prog 34 #[tyV k n nv kv] w fun e w' => e = .returned (.bool (Ty.mk k n names kids).formed) ∧ Below w.heap.size w w' := by
  have HIH := hid hih
  obtain ⟨R, hRe⟩ : ∃ R, R = (Ty.mk k n names kids).formed := ⟨_, rfl⟩
  have HRe : Hid (R = (nodeB k n names kids.length && formedL kids)) := by show _ = _; rw [hRe, Ty.formed]
  rw [← hRe]
  clear hRe
  have HRd : Hid (Rd w S (.mk k n names kids) nv kv) := hR
  obtain ⟨⟨an, cn, rfl, hnl, hz1, hz2⟩, hkl, ak, ck, rfl, hz3⟩ := hR.kid
  clear hz1 hz2 hz3
  unfold maxLen at hnl hkl
  have HX : Hid ((w.alloc (.cells #[i64 k, i64 n, .slice an names.length cn, .slice ak kids.length ck] 37)).heap[w.heap.size]? = some (.cells #[i64 k, i64 n, .slice an names.length cn, .slice ak kids.length ck] 37)) := heap_last w _
  have HBV : Hid (Below w.heap.size w (w.alloc (.cells #[i64 k, i64 n, .slice an names.length cn, .slice ak kids.length ck] 37))) := below_one w _
  clear hR hih
  go_enter Tryd.func34, Tryd.ntmps34
  go_upto_region 1 with fail
  obtain ⟨Z, hZ⟩ : ∃ Z, Z = w.heap.size := ⟨_, rfl⟩
  rw [← hZ] at HX ⊢
  generalize w.alloc (.cells #[i64 k, i64 n, .slice an names.length cn, .slice ak kids.length ck] 37) = V at *
  have y0 : V.cell? ⟨Z, 0, none⟩ = some (i64 k) := blk_cell HX.out 0
  have y1 : V.cell? ⟨Z, 1, none⟩ = some (i64 n) := blk_cell HX.out 1
  have y2 : V.cell? ⟨Z, 2, none⟩ = some (.slice an names.length cn) := blk_cell HX.out 2
  have y3 : V.cell? ⟨Z, 3, none⟩ = some (.slice ak kids.length ck) := blk_cell HX.out 3
  have hZV : Z < V.heap.size := blk_lt HX.out
  have HZ := hid hZ
  clear hZ
  go_wp2_with fail
  go_loopw [12] (fun u wr => ∃ (i : Nat), i ≤ kids.length ∧ u = i64 i ∧ Hid (formedL (kids.take i) = true) ∧ Hid (wr.heap[Z]? = some (.cells #[i64 k, i64 n, .slice an names.length cn, .slice ak kids.length ck] 37)) ∧ Hid (Below w.heap.size w wr)) (fun u _ => kids.length - (intOf u).toNat)
  case atStart => exact ⟨0, by omega, rfl, by show _ = _; simp [formedL], HX, HBV⟩
  case round =>
    obtain ⟨i, hi, rfl, HM, HX0, HB⟩ := hrel
    by_cases hlt : i < kids.length
    · clear y0 y1 y2 y3 hZV
      obtain ⟨_, _, ak1, ck1, he, hkid⟩ := (HRd.out.under HB.out).kid
      cases he
      obtain ⟨b, off, nv2, kv2, rfl, hbS, hblt, hr, hrd⟩ := hkid i hlt
      obtain ⟨T, hT⟩ : ∃ T, T = kids[i] := ⟨_, rfl⟩
      rw [← hT] at hr hrd
      have HTm : Hid (T ∈ kids) := by show _; rw [hT]; exact List.getElem_mem hlt
      have HTe : Hid (T = kids[i]) := hT
      have c0 : wr.cell? ⟨b, off + i * 4, none⟩ = some (i64 T.kind) := hr 0 _ rfl
      have c1 : wr.cell? ⟨b, off + i * 4 + 1, none⟩ = some (i64 T.num) := hr 1 _ rfl
      have c2 : wr.cell? ⟨b, off + i * 4 + 2, none⟩ = some nv2 := hr 2 _ rfl
      have c3 : wr.cell? ⟨b, off + i * 4 + 3, none⟩ = some kv2 := hr 3 _ rfl
      obtain ⟨an2, cn2, rfl, ak2, ck2, rfl⟩ := hrd.form
      have HX2 : Hid ((wr.alloc (.cells #[i64 T.kind, i64 T.num, .slice an2 T.names.length cn2, .slice ak2 T.kids.length ck2] 37)).heap[wr.heap.size]? = some (.cells #[i64 T.kind, i64 T.num, .slice an2 T.names.length cn2, .slice ak2 T.kids.length ck2] 37)) := heap_last wr _
      have HBX : Hid (Below wr.heap.size wr (wr.alloc (.cells #[i64 T.kind, i64 T.num, .slice an2 T.names.length cn2, .slice ak2 T.kids.length ck2] 37))) := below_one wr _
      have HRT : Hid (Rd (wr.alloc (.cells #[i64 T.kind, i64 T.num, .slice an2 T.names.length cn2, .slice ak2 T.kids.length ck2] 37)) _ T (.slice an2 T.names.length cn2) (.slice ak2 T.kids.length ck2)) := hrd.under HBX.out
      clear hT hr hrd hkid hbS
      go_upto_region 4 with fail
      obtain ⟨Y, hY⟩ : ∃ Y, Y = wr.heap.size := ⟨_, rfl⟩
      rw [← hY] at HX2 ⊢
      generalize wr.alloc (.cells #[i64 T.kind, i64 T.num, .slice an2 T.names.length cn2, .slice ak2 T.kids.length ck2] 37) = X at *
      have z0 : X.cell? ⟨Y, 0, none⟩ = some (i64 T.kind) := blk_cell HX2.out 0
      have z1 : X.cell? ⟨Y, 1, none⟩ = some (i64 T.num) := blk_cell HX2.out 1
      have z2 : X.cell? ⟨Y, 2, none⟩ = some (.slice an2 T.names.length cn2) := blk_cell HX2.out 2
      have z3 : X.cell? ⟨Y, 3, none⟩ = some (.slice ak2 T.kids.length ck2) := blk_cell HX2.out 3
      have hYX : Y < X.heap.size := blk_lt HX2.out
      have HY := hid hY
      clear c0 c1 c2 c3 hY
      go_wp2_with fail
      refine (HIH.out T HTm.out X _ _ HRT.out).mono ?_
      rintro e w3 ⟨rfl, hb3⟩
      have hbb := HBX.out.trans (hb3.mono HBX.out.size)
      have HB3 : Hid (Below w.heap.size w w3) := HB.out.trans (hbb.mono HB.out.size)
      have HX3 := hid (blk_below HX0.out hbb)
      have htc : formedL (kids.take (i + 1)) = (formedL (kids.take i) && T.formed) := by rw [HTe.out]; exact take_formedL kids i hlt
      have HTc := hid htc
      generalize hE : T.formed = E at *
      have HE := hid hE
      clear htc hb3 hbb hE
      cases E with
      | false =>
        have HF : Hid (R = false) := by
          show _ = _
          rw [HRe.out]
          cases hf : formedL kids with
          | false => simp
          | true => have := formedL_mem hf HTm.out; rw [HE.out] at this; cases this
        go_wp2_with fail
        go_ret
        exact ⟨by rw [HF.out]; rfl, HB3.out⟩
      | true =>
        have HM2 : Hid (formedL (kids.take (i + 1)) = true) := by show _ = _; rw [HTc.out, HM.out]; rfl
        go_wp2_with fail
        exact ⟨⟨i + 1, by omega, by go_num, HM2, HX3, HB3⟩, by simp [intOf]; omega⟩
    · have HFL : Hid (formedL kids = true) := by
        show _ = _
        have := HM.out
        rw [List.take_of_length_le (by omega)] at this
        exact this
      clear y0 y1 y2 y3 hZV HM
      have y0 : wr.cell? ⟨Z, 0, none⟩ = some (i64 k) := blk_cell HX0.out 0
      have y1 : wr.cell? ⟨Z, 1, none⟩ = some (i64 n) := blk_cell HX0.out 1
      have y2 : wr.cell? ⟨Z, 2, none⟩ = some (.slice an names.length cn) := blk_cell HX0.out 2
      have y3 : wr.cell? ⟨Z, 3, none⟩ = some (.slice ak kids.length ck) := blk_cell HX0.out 3
      go_wp2_with fail
      generalize hW : wr = W at *
      clear hW
      go_loopw [23] (fun u wr => ∃ (j : Nat), j ≤ names.length ∧ u = i64 j ∧ Hid (∀ a ∈ names.take j, nameB a = true) ∧ Hid (wr.heap[Z]? = some (.cells #[i64 k, i64 n, .slice an names.length cn, .slice ak kids.length ck] 37)) ∧ Hid (Below w.heap.size w wr)) (fun u _ => names.length - (intOf u).toNat)
      case atStart => exact ⟨0, by omega, rfl, by intro a ha; simp at ha, HX0, HB⟩
      case round =>
        obtain ⟨j, hj, rfl, HN, HX1, HB1⟩ := hrel
        by_cases hlj : j < names.length
        · obtain ⟨hs, _⟩ := (HRd.out.under HB1.out).kid
          have hs' := hs
          obtain ⟨_, _, _, _, hsz2, _⟩ := hs'
          obtain ⟨ao', cap', he, hat⟩ := hs.at
          cases he
          obtain ⟨b, off, rfl, hblt, cJ⟩ := hat j hlj
          obtain ⟨x, hx⟩ : ∃ x, x = names[j] := ⟨_, rfl⟩
          have hxs : x.length ≤ maxLen := by rw [hx]; exact hsz2.2 _ (List.getElem_mem hlj)
          have HNM : Hid (Calls Tryd.prog 48 #[str x] wr fun e w' => e = .returned (.bool (nameB x)) ∧ w' = wr) := rname_ok x wr hxs
          rw [← hx] at cJ
          have HXe := hid hx
          clear hx hat hs hsz2 hxs y0 y1 y2 y3
          go_wp2_with fail
          refine HNM.out.mono ?_
          rintro e v1 ⟨rfl, hv⟩
          replace hv := hv.symm
          subst hv
          generalize hE : nameB x = E at *
          have HE := hid hE
          clear hE
          cases E with
          | false =>
            have HF : Hid (R = false) := by
              show _ = _
              rw [HRe.out, nodeB_no (List.getElem_mem hlj) (by rw [← HXe.out]; exact HE.out)]; rfl
            go_wp2_with fail
            go_ret
            exact ⟨by rw [HF.out]; rfl, HB1.out⟩
          | true =>
            have HN2 : Hid (∀ a ∈ names.take (j + 1), nameB a = true) := by
              intro a ha
              rw [List.take_succ_eq_append_getElem hlj] at ha
              rcases List.mem_append.1 ha with ha | ha
              · exact HN.out a ha
              · rw [List.mem_singleton.1 ha, ← HXe.out]; exact HE.out
            go_wp2_with fail
            exact ⟨⟨j + 1, by omega, by go_num, HN2, HX1, HB1⟩, by simp [intOf]; omega⟩
        · have HR2 : Hid (R = kindB k n names.length kids.length (twTo names names.length)) := by
            show _ = _
            rw [HRe.out, HFL.out, Bool.and_true]
            refine nodeB_kind (fun a ha => ?_)
            have := HN.out a
            rw [List.take_of_length_le (by omega)] at this
            exact this ha
          have HTW : Hid (Calls Tryd.prog 49 #[.slice an names.length cn] wr fun e w' => e = .returned (.bool (twTo names names.length)) ∧ Below wr.heap.size wr w') := twice_ok names wr S _ (HRd.out.under HB1.out).kid.1
          clear y0 y1 y2 y3
          have y0 : wr.cell? ⟨Z, 0, none⟩ = some (i64 k) := blk_cell HX1.out 0
          have y1 : wr.cell? ⟨Z, 1, none⟩ = some (i64 n) := blk_cell HX1.out 1
          have y2 : wr.cell? ⟨Z, 2, none⟩ = some (.slice an names.length cn) := blk_cell HX1.out 2
          have y3 : wr.cell? ⟨Z, 3, none⟩ = some (.slice ak kids.length ck) := blk_cell HX1.out 3
          generalize hNl : names.length = NL at *
          generalize hKl : kids.length = KL at *
          generalize twTo names NL = TW at *
          clear hNl hKl HRd HIH HN HFL HRe
          by_cases k1 : k = 1
          · subst k1
            by_cases a1 : NL + KL = 0
            · have a1I : (NL : Int) + KL = 0 := by omega
              by_cases b8 : n = 8
              · subst b8
                have HV : Hid (R = true) := by show _ = _; rw [HR2.out]; unfold kindB; simp [a1]
                clear HR2
                go_wp2_with fail
                go_ret
                exact ⟨by rw [HV.out]; rfl, HB1.out⟩
              by_cases b16 : n = 16
              · subst b16
                have HV : Hid (R = true) := by show _ = _; rw [HR2.out]; unfold kindB; simp [a1]
                clear HR2
                go_wp2_with fail
                go_ret
                exact ⟨by rw [HV.out]; rfl, HB1.out⟩
              by_cases b32 : n = 32
              · subst b32
                have HV : Hid (R = true) := by show _ = _; rw [HR2.out]; unfold kindB; simp [a1]
                clear HR2
                go_wp2_with fail
                go_ret
                exact ⟨by rw [HV.out]; rfl, HB1.out⟩
              have e8 : (n == 8) = false := by simpa using b8
              have e16 : (n == 16) = false := by simpa using b16
              have e32 : (n == 32) = false := by simpa using b32
              have HV : Hid (R = false) := by show _ = _; rw [HR2.out]; unfold kindB; simp [b8, b16, b32]
              clear HR2
              go_wp2_with fail
              go_ret
              exact ⟨by rw [HV.out]; rfl, HB1.out⟩
            · have a1I : ¬ (NL : Int) + KL = 0 := by omega
              have HV : Hid (R = false) := by show _ = _; rw [HR2.out]; unfold kindB; rw [if_pos rfl, decide_eq_false a1]; rfl
              clear HR2
              go_wp2_with fail
              go_ret
              exact ⟨by rw [HV.out]; rfl, HB1.out⟩
          by_cases k2 : k = 2
          · subst k2
            by_cases a1 : NL + KL = 0
            · have a1I : (NL : Int) + KL = 0 := by omega
              by_cases b1 : 0 ≤ n
              · by_cases b2 : n < 256
                · have c1 : decide (0 ≤ n) = true := by simpa using b1
                  have HV : Hid (R = true) := by show _ = _; rw [HR2.out]; unfold kindB; simp [a1, b1, b2]
                  clear HR2
                  go_wp2_with fail
                  go_ret
                  exact ⟨by rw [HV.out]; rfl, HB1.out⟩
                · have c1 : decide (n < 256) = false := by simpa using b2
                  have HV : Hid (R = false) := by show _ = _; rw [HR2.out]; unfold kindB; simp [c1]
                  clear HR2
                  go_wp2_with fail
                  go_ret
                  exact ⟨by rw [HV.out]; rfl, HB1.out⟩
              · have c1 : decide (0 ≤ n) = false := by simpa using b1
                have HV : Hid (R = false) := by show _ = _; rw [HR2.out]; unfold kindB; simp [c1]
                clear HR2
                go_wp2_with fail
                go_ret
                exact ⟨by rw [HV.out]; rfl, HB1.out⟩
            · have a1I : ¬ (NL : Int) + KL = 0 := by omega
              have HV : Hid (R = false) := by show _ = _; rw [HR2.out]; unfold kindB; rw [if_neg (by decide), if_pos rfl, decide_eq_false a1]; rfl
              clear HR2
              go_wp2_with fail
              go_ret
              exact ⟨by rw [HV.out]; rfl, HB1.out⟩
          by_cases k3 : k = 3
          · subst k3
            by_cases a1 : NL = 0
            · by_cases a2 : KL = 1
              · subst a1 a2
                by_cases b1 : 0 ≤ n
                · by_cases b2 : n < 97
                  · have c1 : decide (0 ≤ n) = true := by simpa using b1
                    have HV : Hid (R = true) := by show _ = _; rw [HR2.out]; unfold kindB; simp [b1, b2]
                    clear HR2
                    go_wp2_with fail
                    go_ret
                    exact ⟨by rw [HV.out]; rfl, HB1.out⟩
                  · have c1 : decide (n < 97) = false := by simpa using b2
                    have HV : Hid (R = false) := by show _ = _; rw [HR2.out]; unfold kindB; simp [c1]
                    clear HR2
                    go_wp2_with fail
                    go_ret
                    exact ⟨by rw [HV.out]; rfl, HB1.out⟩
                · have c1 : decide (0 ≤ n) = false := by simpa using b1
                  have HV : Hid (R = false) := by show _ = _; rw [HR2.out]; unfold kindB; simp [c1]
                  clear HR2
                  go_wp2_with fail
                  go_ret
                  exact ⟨by rw [HV.out]; rfl, HB1.out⟩
              · have a2I : ¬ (KL : Int) = 1 := by omega
                have HV : Hid (R = false) := by show _ = _; rw [HR2.out]; unfold kindB; simp [a2]
                clear HR2
                go_wp2_with fail
                go_ret
                exact ⟨by rw [HV.out]; rfl, HB1.out⟩
            · have a1I : ¬ (NL : Int) = 0 := by omega
              have HV : Hid (R = false) := by show _ = _; rw [HR2.out]; unfold kindB; simp [a1]
              clear HR2
              go_wp2_with fail
              go_ret
              exact ⟨by rw [HV.out]; rfl, HB1.out⟩
          by_cases k4 : k = 4
          · subst k4
            by_cases b1 : n = 0
            · subst b1
              by_cases a1 : 0 < KL
              · by_cases a2 : KL < 13
                · by_cases a3 : NL = KL
                  · subst a3
                    cases TW with
                    | false =>
                      have HV : Hid (R = true) := by show _ = _; rw [HR2.out]; unfold kindB; simp [a1, a2]
                      clear HR2
                      go_wp2_with fail
                      refine HTW.out.mono ?_
                      rintro e w9 ⟨rfl, hb9⟩
                      have HB9 : Hid (Below w.heap.size w w9) := HB1.out.trans (hb9.mono HB1.out.size)
                      clear hb9
                      go_wp2_with fail
                      go_ret
                      exact ⟨by rw [HV.out]; rfl, HB9.out⟩
                    | true =>
                      have HV : Hid (R = false) := by show _ = _; rw [HR2.out]; unfold kindB; simp
                      clear HR2
                      go_wp2_with fail
                      refine HTW.out.mono ?_
                      rintro e w9 ⟨rfl, hb9⟩
                      have HB9 : Hid (Below w.heap.size w w9) := HB1.out.trans (hb9.mono HB1.out.size)
                      clear hb9
                      go_wp2_with fail
                      go_ret
                      exact ⟨by rw [HV.out]; rfl, HB9.out⟩
                  · have a3I : ¬ (NL : Int) = KL := by omega
                    have HV : Hid (R = false) := by show _ = _; rw [HR2.out]; unfold kindB; simp [a3]
                    clear HR2
                    go_wp2_with fail
                    go_ret
                    exact ⟨by rw [HV.out]; rfl, HB1.out⟩
                · have a2I : ¬ (KL : Int) < 13 := by omega
                  have HV : Hid (R = false) := by show _ = _; rw [HR2.out]; unfold kindB; simp [a2]
                  clear HR2
                  go_wp2_with fail
                  go_ret
                  exact ⟨by rw [HV.out]; rfl, HB1.out⟩
              · have a1I : ¬ 0 < (KL : Int) := by omega
                have HV : Hid (R = false) := by show _ = _; rw [HR2.out]; unfold kindB; simp [a1]
                clear HR2
                go_wp2_with fail
                go_ret
                exact ⟨by rw [HV.out]; rfl, HB1.out⟩
            · have HV : Hid (R = false) := by show _ = _; rw [HR2.out]; unfold kindB; simp [b1]
              clear HR2
              go_wp2_with fail
              go_ret
              exact ⟨by rw [HV.out]; rfl, HB1.out⟩
          have HV : Hid (R = false) := by show _ = _; rw [HR2.out]; unfold kindB; simp [k1, k2, k3, k4]
          clear HR2
          go_wp2_with fail
          go_ret
          exact ⟨by rw [HV.out]; rfl, HB1.out⟩
theorem formed_ok : ∀ (M : Nat) (T : Ty), T.count ≤ M → T.small = true → ∀ (w : World) (S : Nat → Prop) (nv kv : Value), Rd w S T nv kv → Calls Tryd.prog 34 #[tyV T.kind T.num nv kv] w fun e w' => e = .returned (.bool T.formed) ∧ Below w.heap.size w w'
  | 0, T, hM, _, _, _, _, _, _ => by have := count_pos T; omega
  | M + 1, .mk k n names kids, hM, hC, w, S, nv, kv, hR => by
    simp only [Ty.count] at hM
    simp only [Ty.small, Bool.and_eq_true, decide_eq_true_eq] at hC
    exact formed_in k n names kids w S nv kv hR hC.1 (fun T hT w nv kv hR => formed_ok M T (by have := countL_mem hT; omega) (smallL_mem hC.2 hT) w S nv kv hR)
end Go.Proofs.YtgiemijhndanjaaDoor
