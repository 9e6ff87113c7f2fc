/- The document's register and the label of a line; no statement is proved in this text. -/
import Derived.Test.YtobkehlkopkaeaaDoorDb
namespace Go.Proofs.YtobkehlkopkaeaaDoor
open Go.ChangeShapes Go.WideShapes Go.ChangeAt Go.RowKit
set_option maxRecDepth 100000

/-- The register that a word is; -1: it is none. -/
def regD : Bs → Int
  | [a, b] => if a = 114 ∧ 48 ≤ b.toNat ∧ b.toNat ≤ 55 then (b.toNat : Int) - 48 else -1
  | _ => -1
theorem regD_len {l : Bs} (h : l.length ≠ 2) : regD l = -1 := by
  rcases l with _ | ⟨a, _ | ⟨b, _ | ⟨c, r⟩⟩⟩
  · rfl
  · rfl
  · simp at h
  · rfl
theorem regD_two {l : Bs} {a b : UInt8} (h0 : l[0]? = some a) (h1 : l[1]? = some b) (hl : l.length = 2) : regD l = if a = 114 ∧ 48 ≤ b.toNat ∧ b.toNat ≤ 55 then (b.toNat : Int) - 48 else -1 := by
  rcases l with _ | ⟨x, _ | ⟨y, _ | ⟨c, r⟩⟩⟩
  · simp at hl
  · simp at hl
  · simp at h0 h1; subst h0 h1; rfl
  · simp at hl
set_option maxHeartbeats 1600000 in
theorem rreg_s (s : ByteArray) (w : World) : Calls Tryd.prog 55 #[.string s] w fun e w' => e = .returned (i64 (regD s.data.toList)) ∧ w' = w := by
  have hlen : s.data.toList.length = s.size := Array.length_toList
  by_cases h2 : s.size = 2
  · have h0 : 0 < s.size := by omega
    have h1 : 1 < s.size := by omega
    have hR := regD_two (at_pos h0) (at_pos h1) (by rw [hlen]; exact h2)
    have h2i : ((s.size : Int) == 2) = true := by rw [h2]; rfl
    have HR := hid hR
    have h114 : s[0] = 114 ↔ s[0].toNat = 114 := ⟨fun e => by rw [e]; rfl, fun e => by rw [← UInt8.toNat_inj]; exact e⟩
    have HE : Hid (s[0] = 114 ↔ s[0].toNat = 114) := h114
    clear hR hlen h114
    generalize regD s.data.toList = B at *
    by_cases ha : s[0].toNat = 114
    · have hab : ((s[0].toNat : Int) == 114) = true := by rw [ha]; rfl
      by_cases hb : 47 < s[1].toNat
      · have hbi : (47 : Int) < (s[1].toNat : Int) := by omega
        by_cases hc : s[1].toNat < 56
        · have hci : (s[1].toNat : Int) < 56 := by omega
          have HF : Hid (B = (s[1].toNat : Int) - 48) := by show _ = _; rw [HR.out, if_pos ⟨HE.out.2 ha, by omega, by omega⟩]
          go_enter Tryd.func55, Tryd.ntmps55
          go_wp2
          go_ret
          exact ⟨by rw [HF.out]; rfl, rfl⟩
        · have hci : ¬ (s[1].toNat : Int) < 56 := by omega
          have HF : Hid (B = -1) := by show _ = _; rw [HR.out, if_neg (by omega)]
          go_enter Tryd.func55, Tryd.ntmps55
          go_wp2
          go_ret
          exact ⟨by rw [HF.out]; rfl, rfl⟩
      · have hbi : ¬ (47 : Int) < (s[1].toNat : Int) := by omega
        have HF : Hid (B = -1) := by show _ = _; rw [HR.out, if_neg (by omega)]
        go_enter Tryd.func55, Tryd.ntmps55
        go_wp2
        go_ret
        exact ⟨by rw [HF.out]; rfl, rfl⟩
    · have hab : ((s[0].toNat : Int) == 114) = false := by
        have : (s[0].toNat : Int) ≠ 114 := by omega
        simpa using this
      have HF : Hid (B = -1) := by show _ = _; rw [HR.out, if_neg (fun h => ha (HE.out.1 h.1))]
      go_enter Tryd.func55, Tryd.ntmps55
      go_wp2
      go_ret
      exact ⟨by rw [HF.out]; rfl, rfl⟩
  · have h2i : ((s.size : Int) == 2) = false := by
      have : (s.size : Int) ≠ 2 := by omega
      simpa using this
    rw [regD_len (by omega)]
    clear hlen
    go_enter Tryd.func55, Tryd.ntmps55
    go_wp2
    go_ret
    exact ⟨rfl, rfl⟩
theorem nmD_many {ws : List Bs} (h : ws.length ≠ 1) : nmD ws = [] := by
  rcases ws with _ | ⟨a, _ | ⟨b, r⟩⟩
  · rfl
  · simp at h
  · rfl
theorem nmD_snoc (y : Bs) (c : UInt8) : nmD [y ++ [c]] = if c = 58 ∧ labB y = true then y else [] := by
  have e : nmD [y ++ [c]] = (if (Lib.hasSuffix (y ++ [c]) [58] && within (Lib.trimSuffix (y ++ [c]) [58]) 12 97 122) = true then some (Lib.trimSuffix (y ++ [c]) [58]) else none).getD [] := rfl
  rw [e]
  by_cases hc : c = 58
  · subst hc
    have h1 : Lib.hasSuffix (y ++ [58]) [58] = true := by simp [Lib.hasSuffix]
    have h2 : Lib.trimSuffix (y ++ [58]) [58] = y := by unfold Lib.trimSuffix; rw [if_pos h1]; simp
    rw [h1, h2, Bool.true_and]
    by_cases hl : labB y = true
    · have hl' : within y 12 97 122 = true := hl
      rw [if_pos hl', if_pos ⟨rfl, hl⟩]; rfl
    · have hl' : ¬ within y 12 97 122 = true := hl
      rw [if_neg hl', if_neg (fun h => hl h.2)]; rfl
  · have h1 : Lib.hasSuffix (y ++ [c]) [58] = false := by
      have : ¬ [58] <:+ y ++ [c] := fun h => by
        obtain ⟨t, ht⟩ := h
        have := List.append_inj_right' ht rfl
        simp at this
        exact hc this.symm
      cases hq : Lib.hasSuffix (y ++ [c]) [58] with
      | false => rfl
      | true => exact absurd (List.isSuffixOf_iff_suffix.1 hq) this
    rw [h1, Bool.false_and, if_neg (by simp), if_neg (fun h => hc h.1)]; rfl
set_option maxHeartbeats 1600000 in
theorem named_ok (ws : List Bs) (ao : Option Addr) (cap : Nat) (w : World) (hs : WSl w ao ws) (hne : ∀ x ∈ ws, x ≠ []) (hl : ∀ x ∈ ws, x.length ≤ 1000000) (hn : ws.length ≤ 1000000) : Calls Tryd.prog 27 #[.slice ao ws.length cap] w fun e w' => e = .returned (str (nmD ws)) ∧ ∃ n, w' = w.drewN n := by
  by_cases h1 : ws.length = 1
  · obtain ⟨x, rfl⟩ : ∃ x, ws = [x] := by
      cases ws with
      | nil => simp at h1
      | cons x r => exact ⟨x, by rw [List.eq_nil_of_length_eq_zero (show r.length = 0 by simpa using h1)]⟩
    obtain ⟨b, off, rfl, hbl, c0⟩ := hs.at (k := 0) (by simp)
    rw [Nat.add_zero] at c0
    simp only [List.getElem_cons_zero] at c0
    have hxl := hl x (by simp)
    have hx := hne x (by simp)
    obtain ⟨y, c, rfl⟩ : ∃ y c, x = y ++ [c] := ⟨x.dropLast, x.getLast hx, (List.dropLast_concat_getLast hx).symm⟩
    have HNM := hid (nmD_snoc y c)
    have HLB : Hid (∀ w, Calls Tryd.prog 53 #[str y] w fun e w' => e = .returned (.bool (labB y)) ∧ w' = w) := fun w => by
      have := rlabel_s ⟨y.toArray⟩ w (by rw [bz]; rw [List.length_append] at hxl; omega)
      simpa using this
    obtain ⟨S, hS⟩ : ∃ S : ByteArray, S = ⟨(y ++ [c]).toArray⟩ := ⟨_, rfl⟩
    have c1 : w.cell? ⟨b, off, none⟩ = some (.string S) := by rw [hS]; exact c0
    have hsz : S.size = y.length + 1 := by rw [hS, bz]; simp
    have hb : ∀ h, (S[y.length]'h).toNat = c.toNat := by subst hS; intro h; show ((y ++ [c])[y.length]'_).toNat = _; simp
    have he1 : S.extract 0 y.length = ⟨y.toArray⟩ := by rw [hS, ba_ext]; simp
    have hyl : y.length ≤ 1000000 := by rw [List.length_append] at hxl; simp at hxl; omega
    clear hs h1 hl hne hx c0 hS hxl
    generalize nmD [y ++ [c]] = RES at *
    by_cases hc : c = 58
    · subst hc
      cases hlb : labB y with
      | true =>
        have HF : Hid (RES = y) := by show _ = _; rw [HNM.out, if_pos ⟨rfl, hlb⟩]
        rw [hlb] at HLB
        clear hlb HNM
        go_enter Tryd.func27, Tryd.ntmps27
        go_wp2_with fail
        go_quiet ((go_at_call 53; exact (HLB.out _).mono fun e w' ⟨h1, h2⟩ => ⟨h1, _, h2⟩))
        go_wp2_with fail
        go_quiet (fail)
        go_wp2_with fail
        go_ret
        exact ⟨by rw [HF.out]; rfl, _, World.drewN_drewN _ _ _⟩
      | false =>
        have HF : Hid (RES = []) := by show _ = _; rw [HNM.out, if_neg (fun h => by rw [hlb] at h; cases h.2)]
        rw [hlb] at HLB
        clear hlb HNM
        go_enter Tryd.func27, Tryd.ntmps27
        go_wp2_with fail
        go_quiet ((go_at_call 53; exact (HLB.out _).mono fun e w' ⟨h1, h2⟩ => ⟨h1, _, h2⟩))
        go_wp2_with fail
        go_ret
        exact ⟨by rw [HF.out]; rfl, _, rfl⟩
    · have HF : Hid (RES = []) := by show _ = _; rw [HNM.out, if_neg (fun h => hc h.1)]
      have hcn : ((c.toNat : Int) != 58) = true := by
        have h1 : c.toNat ≠ 58 := fun e => hc (by rw [← UInt8.toNat_inj]; exact e)
        have h2 : (c.toNat : Int) ≠ 58 := by omega
        simpa using h2
      clear hc HNM
      go_enter Tryd.func27, Tryd.ntmps27
      go_wp2_with fail
      go_quiet (fail)
      go_wp2_with fail
      go_ret
      exact ⟨by rw [HF.out]; rfl, _, rfl⟩
  · have h1i : ((ws.length : Int) != 1) = true := by simp; omega
    rw [nmD_many h1]
    clear hs hne hl h1
    go_enter Tryd.func27, Tryd.ntmps27
    go_wp2_with fail
    go_quiet (fail)
    go_wp2_with fail
    go_ret
    exact ⟨rfl, _, rfl⟩
end Go.Proofs.YtobkehlkopkaeaaDoor
