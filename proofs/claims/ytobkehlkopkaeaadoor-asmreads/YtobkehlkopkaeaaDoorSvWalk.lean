/- asm's survey: its contract; no statement is proved in this text. -/
import Derived.Test.YtobkehlkopkaeaaDoorSurvey
namespace Go.Proofs.YtobkehlkopkaeaaDoor
open Go.ChangeShapes Go.WideShapes Go.ChangeAt Go.RowKit Go.ChangeMaps Go.MapKept
set_option maxRecDepth 100000

def boolOf : Value → Bool
  | .bool b => b
  | _ => false
def strOf : Value → Nat
  | .string s => s.size
  | _ => 0
theorem lab_len {ws : List Bs} {y : Bs} (h : labF ws = some y) : y.length ≤ 12 := by
  unfold labF at h
  split at h
  · split at h
    · rename_i x hx
      rw [Bool.and_eq_true] at hx
      have := (within_at hx.2).1.2
      cases h
      exact this
    · cases h
  · cases h

theorem wordsF_le : ∀ (n : Nat) (l : Bs) (y : Bs), y ∈ wordsF n l → y.length ≤ l.length
  | 0, _, _, h => by simp [wordsF] at h
  | n + 1, [], _, h => by simp [wordsF] at h
  | n + 1, c :: r, y, h => by
    simp only [wordsF, List.mem_cons] at h
    rcases h with rfl | h
    · exact (List.takeWhile_sublist _).length_le
    · have h1 := wordsF_le n _ y h
      have h2 := (List.dropWhile_sublist isSp (l := (c :: r).dropWhile (fun b => !isSp b))).length_le
      have h3 := (List.dropWhile_sublist (fun b => !isSp b) (l := c :: r)).length_le
      omega
theorem split_le (l y : Bs) (h : y ∈ splitF l) : y.length ≤ l.length := by
  have h1 := wordsF_le 4 _ y h
  have h2 := (List.dropWhile_sublist isSp (l := semi l)).length_le
  have h3 : (semi l).length ≤ l.length := (List.takeWhile_sublist _).length_le
  omega
theorem mkmap (w : World) : (Instr.makeMap 46 none).run Tryd.prog w = .ok (.map (some w.heap.size)) (w.alloc (.map #[] 0)) := by kernel_rfl
set_option maxHeartbeats 1600000 in
theorem sv_ok (w : World) (he : Env w) (text : Bs) (hl : text.length ≤ 100000) (hp : Pln text) :
    Calls Tryd.prog 20 #[str text] w fun e w' => e = .returned (.tuple #[.map (some w.heap.size), i64 (svT text).long]) ∧ MapS w' w.heap.size (svT text).M ∧ Below w.heap.size w w' := by
  have HE : Hid (Env w) := he
  have HP : Hid (Pln text) := hp
  have HT : Hid (svF (rowsM text true) 1 ⟨[], 0, 0⟩ = svT text) := (rfl : svF (rowsM text true) 1 ⟨[], 0, 0⟩ = svT text)
  clear he hp
  generalize svT text = ST at *
  have hmk := mkmap w
  go_enter Tryd.func20, Tryd.ntmps20
  go_wp2_with fail
  go_loopw [5, 6, 7, 8, 9] (fun pl lo r m i wr => ∃ (x : Bs) (more : Bool) (num : Nat) (s : Sv), pl = i64 s.place ∧ lo = i64 s.long ∧ r = str x ∧ m = .bool more ∧ i = i64 num ∧ 1 ≤ num ∧ num + (if more = true then x.length + 1 else 0) ≤ text.length + 2 ∧ (more = true → Pln x) ∧ x.length ≤ text.length ∧ Near s (num - 1) ∧ svF (rowsM x more) num s = ST ∧ MapS wr w.heap.size s.M ∧ Below w.heap.size w wr) (fun _ _ r m _ _ => if boolOf m = true then strOf r + 1 else 0)
  case atStart => exact ⟨text, true, 1, ⟨[], 0, 0⟩, rfl, rfl, rfl, rfl, rfl, by omega, by simp; omega, fun _ => HP.out, by omega, ⟨by simp, by simp, by simp⟩, HT.out, map_made w, below_one w _⟩
  case round =>
    obtain ⟨x, more, num, s, rfl, rfl, rfl, rfl, rfl, hn1, hnx, hpx, hxt, hnear, hsv, hms, hb⟩ := hrel
    have HMS : Hid (MapS wr w.heap.size s.M) := hms
    have HB : Hid (Below w.heap.size w wr) := hb
    have hz := hb.size
    have hzb : w.heap.size < wr.heap.size := hms.lt
    cases more with
    | false =>
      have HS : Hid (s = ST) := (hsv : s = ST)
      clear hms hb hsv hnear hpx
      go_wp2_with fail
      go_ret2
      exact ⟨by rw [← HS.out]; rfl, by rw [← HS.out]; exact HMS.out, HB.out⟩
    | true =>
      rw [if_pos rfl] at hnx
      obtain ⟨c1, c2, c3, hcut, hlns, hc1, hc2, hc2'⟩ := cutL x
      obtain ⟨m, hm⟩ := (HE.out.below hb).maxl
      have HC : Hid (Calls Tryd.prog 21 #[str x, .string ⟨#[10]⟩] wr fun e w' => e = .returned (.tuple #[str c1, str c2, .bool c3]) ∧ ∃ n, w' = wr.drewN n) := by
        have := Tryd.strings_Cut ⟨x.toArray⟩ ⟨#[10]⟩ m wr (by rw [bz]; omega) hm
        rw [show (⟨#[10]⟩ : ByteArray).data.toList = [10] from rfl, blist, hcut] at this
        exact this
      have hrows : rowsM x true = splitF c1 :: rowsM c2 c3 := by
        unfold rowsM rowsF
        rw [if_pos rfl, hlns]
        cases c3 <;> rfl
      have HSV : Hid (svF (rowsM c2 c3) (num + 1) (svLong num (svAdd num (splitF c1) s)) = ST) := (by rw [hrows] at hsv; exact hsv : svF (rowsM c2 c3) (num + 1) (svLong num (svAdd num (splitF c1) s)) = ST)
      have HP1 : Hid (∀ b ∈ semi c1, b.toNat < 128) := hpx rfl c1 (by rw [hlns]; simp)
      have HP2 : Hid (c3 = true → Pln c2) := fun h l hl => hpx rfl l (by rw [hlns, if_pos h]; simp [hl])
      have HNR : Hid (Near (svLong num (svAdd num (splitF c1) s)) num) := (by have := hnear.next (splitF c1); rw [show num - 1 + 1 = num by omega] at this; exact this : Near (svLong num (svAdd num (splitF c1) s)) num)
      have hpl : s.place ≤ 400010 := by have := hnear.1; omega
      have hlo : s.long ≤ 100002 := by have := hnear.2.1; omega
      have HSZ : Hid (c3 = true → c2.length < x.length) := hc2
      have hwl := wordsF_len 4 ((semi c1).dropWhile isSp)
      have HWL : Hid ((splitF c1).length ≤ 4) := hwl
      clear hms hb hsv hnear hpx hcut hlns hrows hm hwl hc2
      go_wp2_with fail
      refine HC.out.mono ?_
      rintro e w1 ⟨rfl, nn, rfl⟩
      go_wp2_with fail
      have HBN : Hid (Below wr.heap.size wr (wr.drewN nn)) := ⟨rfl, rfl, rfl, Nat.le_refl _, fun _ _ => rfl⟩
      refine (split_ok _ (HE.out.below (HB.out.trans (HBN.out.mono hz))).maxl c1 (by omega) HP1.out).mono ?_
      rintro e w2 ⟨v, rfl, ho2, hb2⟩
      have hb02 : Below wr.heap.size wr w2 := HBN.out.trans hb2
      have HB2 : Hid (Below w.heap.size w w2) := HB.out.trans (hb02.mono hz)
      have HM2 : Hid (MapS w2 w.heap.size s.M) := HMS.out.below hb02
      have hz2 := hb02.size
      obtain ⟨ao, cap, rfl, hws, _⟩ := own_words ho2
      have hwsl : ∀ y ∈ splitF c1, y.length ≤ 1000000 := fun y hy => by have := split_le c1 y hy; omega
      have HLB : Hid (Calls Tryd.prog 23 #[.slice ao (splitF c1).length cap] w2 fun e w' => e = .returned (.tuple #[str ((labF (splitF c1)).getD []), .bool (labF (splitF c1)).isSome]) ∧ w' = w2) := label_ok w2 _ ao cap hws (by have := HWL.out; omega) hwsl
      have HWS : Hid (WSl w2 ao (splitF c1)) := hws
      have HWZ : Hid (∀ y ∈ splitF c1, y.length ≤ 1000000) := hwsl
      clear ho2 hb2 hb02 hws hwsl HBN HC HMS HB HP1
      generalize splitF c1 = ws at *
      obtain ⟨NW, hNW⟩ : ∃ NW, ws.length = NW := ⟨_, rfl⟩
      have HNW : Hid (ws.length = NW) := hNW
      rw [hNW] at HLB ⊢
      have hN4 : NW ≤ 4 := by rw [← hNW]; exact HWL.out
      clear hNW
      obtain ⟨LB, hLB⟩ : ∃ LB, labF ws = LB := ⟨_, rfl⟩
      have HLBE : Hid (labF ws = LB) := hLB
      rw [hLB] at HLB
      clear hLB
      go_wp2_with fail
      refine HLB.out.mono ?_
      rintro e w6 ⟨rfl, rfl⟩
      go_upto_if 34 with fail
      go_cut [5] (fun u wx => u = i64 (svAdd num ws s).place ∧ MapS wx w.heap.size (svAdd num ws s).M ∧ Below w.heap.size w wx)
      case first =>
        have hlab := HLBE.out
        clear HLBE
        cases LB with
        | some y =>
          have hyl := lab_len hlab
          obtain ⟨⟨s1, s2⟩, hsp⟩ : ∃ q, (lookL s.M y).getD (0, 0) = q := ⟨_, rfl⟩
          have hlk := HM2.out.lkup y true
          unfold lookR at hlk
          rw [hsp, if_pos rfl] at hlk
          have HAD : Hid (svAdd num ws s = if (lookL s.M y).isSome then s else ⟨s.M ++ [(y, num, s.place)], s.place, s.long⟩) := (by unfold svAdd; rw [hlab] : svAdd num ws s = if (lookL s.M y).isSome then s else ⟨s.M ++ [(y, num, s.place)], s.place, s.long⟩)
          clear hsp hlab
          cases hT : (lookL s.M y).isSome
          · have hn : lookL s.M y = none := by simpa using hT
            rw [hT] at hlk HAD
            obtain ⟨w5, hput, hm5, o1, o2, o3, o4, o5⟩ := (HM2.out.below (below_one w6 (.cells #[i64 s1, i64 s2] 56))).put y (num, s.place) hn
            have HB5 : Hid (Below w.heap.size w w5) := (HB2.out.alloc (by omega) _).trans (below_put (Nat.le_refl _) o1 o2 o3 o4 o5)
            have HM5 : Hid (MapS w5 w.heap.size (s.M ++ [(y, num, s.place)])) := hm5
            clear hT hn o1 o2 o3 o4 o5 hm5
            go_wp2_with fail
            go_meet
            rw [HAD.out]
            exact ⟨rfl, HM5.out, HB5.out⟩
          · rw [hT] at hlk HAD
            clear hT
            go_wp2_with fail
            go_meet
            rw [HAD.out]
            exact ⟨rfl, HM2.out.below (below_one _ _), HB2.out.alloc (by omega) _⟩
        | none =>
          cases ws with
          | nil =>
            have HAD : Hid (svAdd num [] s = s) := (rfl : svAdd num [] s = s)
            obtain rfl : 0 = NW := HNW.out
            clear hlab
            go_wp2_with fail
            go_meet
            rw [HAD.out]
            exact ⟨rfl, HM2.out, HB2.out⟩
          | cons z t =>
            have HAD : Hid (svAdd num (z :: t) s = ⟨s.M, s.place + szOf z, s.long⟩) := (by unfold svAdd; rw [hlab] : svAdd num (z :: t) s = ⟨s.M, s.place + szOf z, s.long⟩)
            obtain ⟨wb, off, rfl, hwb, c0⟩ := HWS.out.at (k := 0) (by simp)
            rw [Nat.add_zero, List.getElem_cons_zero] at c0
            have hNp : 0 < NW := by rw [← HNW.out]; simp
            have hzz := szOf_le z
            have HSO : Hid (Calls Tryd.prog 43 #[str z] w6 fun e w' => e = .returned (i64 (szOf z : Nat)) ∧ Below w6.heap.size w6 w') := sizeOf_ok w6 (HE.out.below HB2.out) z
            clear hlab
            generalize szOf z = Z at *
            go_wp2_with fail
            refine HSO.out.mono ?_
            rintro e w7 ⟨rfl, hb7⟩
            have HB7 : Hid (Below w.heap.size w w7) := HB2.out.trans (hb7.mono (by omega))
            have HM7 : Hid (MapS w7 w.heap.size s.M) := HM2.out.below hb7
            clear hb7
            go_wp2_with fail
            go_meet
            rw [HAD.out]
            exact ⟨congrArg i64 (by show _ = ((s.place + Z : Nat) : Int); omega), HM7.out, HB7.out⟩
      case rest =>
        obtain ⟨rfl, hmx, hbx⟩ := hcut
        have HMX : Hid (MapS wc w.heap.size (svAdd num ws s).M) := hmx
        have HBX : Hid (Below w.heap.size w wc) := hbx
        have hpa := svAdd_place num ws s
        have HLO : Hid ((svAdd num ws s).long = s.long) := svAdd_long num ws s
        have HLG : Hid (svLong num (svAdd num ws s) = if (svAdd num ws s).long = 0 ∧ 256 < (svAdd num ws s).place then ⟨(svAdd num ws s).M, (svAdd num ws s).place, num⟩ else svAdd num ws s) := (rfl : svLong num (svAdd num ws s) = _)
        clear hmx hbx HLB HWS HWZ HB2 HM2 hmk
        generalize svLong num (svAdd num ws s) = SL at *
        generalize svAdd num ws s = SA at *
        obtain ⟨M', P', L'⟩ := SA
        simp only at hpa HLO HLG HMX ⊢
        obtain rfl : L' = s.long := HLO.out
        have HME : Hid ((if boolOf (.bool c3) = true then strOf (str c2) + 1 else 0) < if boolOf (.bool true) = true then strOf (str x) + 1 else 0) := (by
          cases c3 with
          | false => simp [boolOf]
          | true => have := HSZ.out rfl; simp only [boolOf, strOf, if_true]; rw [bz, bz]; omega : (if boolOf (.bool c3) = true then strOf (str c2) + 1 else 0) < if boolOf (.bool true) = true then strOf (str x) + 1 else 0)
        have HNX : Hid (num + 1 + (if c3 = true then c2.length + 1 else 0) ≤ text.length + 2) := (by
          cases c3 with
          | false => simp; omega
          | true => have := HSZ.out rfl; simp; omega : num + 1 + (if c3 = true then c2.length + 1 else 0) ≤ text.length + 2)
        by_cases h0 : s.long = 0
        · by_cases hP : 256 < P'
          · have HS2 : Hid (SL = ⟨M', P', num⟩) := (by rw [HLG.out, if_pos ⟨h0, hP⟩] : SL = ⟨M', P', num⟩)
            have hb0 : ((s.long : Int) == 0) = true := by simp; omega
            have hb1 : decide ((256 : Int) < (P' : Int)) = true := by simp; omega
            clear HLG h0 hP
            go_wp2_with fail
            exact ⟨⟨c2, c3, num + 1, SL, by rw [HS2.out], by rw [HS2.out], rfl, rfl, by go_num, by omega, HNX.out, HP2.out, by omega, HNR.out, HSV.out, by rw [HS2.out]; exact HMX.out, HBX.out⟩, HME.out⟩
          · have HS2 : Hid (SL = ⟨M', P', s.long⟩) := (by rw [HLG.out, if_neg (by omega)] : SL = ⟨M', P', s.long⟩)
            have hb0 : ((s.long : Int) == 0) = true := by simp; omega
            have hb1 : decide ((256 : Int) < (P' : Int)) = false := by simp; omega
            clear HLG h0 hP
            go_wp2_with fail
            exact ⟨⟨c2, c3, num + 1, SL, by rw [HS2.out], by rw [HS2.out], rfl, rfl, by go_num, by omega, HNX.out, HP2.out, by omega, HNR.out, HSV.out, by rw [HS2.out]; exact HMX.out, HBX.out⟩, HME.out⟩
        · have HS2 : Hid (SL = ⟨M', P', s.long⟩) := (by rw [HLG.out, if_neg (by omega)] : SL = ⟨M', P', s.long⟩)
          have hb0 : ((s.long : Int) == 0) = false := by simp; omega
          clear HLG h0
          go_wp2_with fail
          exact ⟨⟨c2, c3, num + 1, SL, by rw [HS2.out], by rw [HS2.out], rfl, rfl, by go_num, by omega, HNX.out, HP2.out, by omega, HNR.out, HSV.out, by rw [HS2.out]; exact HMX.out, HBX.out⟩, HME.out⟩
end Go.Proofs.YtobkehlkopkaeaaDoor
