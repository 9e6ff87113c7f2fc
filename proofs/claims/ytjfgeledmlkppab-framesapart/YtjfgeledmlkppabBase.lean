/- The contracts of frames.Memory's methods (layer 2), each proved by a walk over the translated program; no statement is proved in this text. -/
import Derived.Test.YtjfgeledmlkppabRows
import Derived.WalkKit
import Derived.ProofKit
import Derived.OpenShut
import Derived.RegionTactic
import Derived.ChangeAlike
import Derived.Deep.RegionWith
import Derived.Deep.MidRow
import Derived.Deep.RegionHeld
import Derived.Laws.IdiomStrings
import Derived.Lib.LazyBuf
namespace Go.Proofs.Ytjfgeledmlkppab
open Go.ChangeShapes Go.WideShapes Go.ChangeAt Go.RowKit

set_option maxHeartbeats 400000 in
theorem len_any (w : World) (p q n : Nat) (h1 : w.cell? ⟨p, 0, none⟩ = some (.slice (some ⟨q, 0, none⟩) n n)) :
    Calls Try.prog 16 #[.pointer (some ⟨p, 0, none⟩)] w fun e w' => e = .returned (.int .i64 n) ∧ w' = w := by
  go_enter Try.func16, Try.ntmps16
  go_wp2
  go_ret
  exact ⟨rfl, rfl⟩

def inB (f : Int) (n : Nat) : Bool := decide (0 ≤ f ∧ f < n)

set_option maxHeartbeats 400000 in
theorem has_any (w : World) (p q n : Nat) (f : Int) (h1 : w.cell? ⟨p, 0, none⟩ = some (.slice (some ⟨q, 0, none⟩) n n)) :
    Calls Try.prog 26 #[.pointer (some ⟨p, 0, none⟩), .int .i64 f] w fun e w' => e = .returned (.bool (inB f n)) ∧ w' = w := by
  by_cases h : 0 ≤ f
  · go_enter Try.func26, Try.ntmps26
    go_wp2_with (go_at_call 16; refine (len_any _ _ _ _ h1).mono ?_; rintro e w' ⟨rfl, rfl⟩)
    go_ret
    refine ⟨?_, rfl⟩
    simp [inB, h]
  · go_enter Try.func26, Try.ntmps26
    go_wp2_with (go_at_call 16; refine (len_any _ _ _ _ h1).mono ?_; rintro e w' ⟨rfl, rfl⟩)
    go_ret
    refine ⟨?_, rfl⟩
    simp [inB]; omega

set_option maxHeartbeats 400000 in
theorem place_none (w : World) (p q n : Nat) (f at_ : Int) (h1 : w.cell? ⟨p, 0, none⟩ = some (.slice (some ⟨q, 0, none⟩) n n)) (h : inB f n = false) :
    Calls Try.prog 24 #[.pointer (some ⟨p, 0, none⟩), .int .i64 f, .int .i64 at_] w fun e w' => e = .returned (.int .i64 6) ∧ w' = w := by
  go_enter Try.func24, Try.ntmps24
  go_wp2_with (go_at_call 26; refine (has_any _ _ _ _ _ h1).mono ?_; rintro e w' ⟨rfl, rfl⟩)
  go_ret
  exact ⟨rfl, rfl⟩

set_option maxHeartbeats 400000 in
theorem place_arg (w : World) (p q n : Nat) (f at_ : Int) (h1 : w.cell? ⟨p, 0, none⟩ = some (.slice (some ⟨q, 0, none⟩) n n)) (h : inB f n = true) (ha : at_ < 0 ∨ 15 < at_) :
    Calls Try.prog 24 #[.pointer (some ⟨p, 0, none⟩), .int .i64 f, .int .i64 at_] w fun e w' => e = .returned (.int .i64 1) ∧ w' = w := by
  rcases ha with ha | ha
  · go_enter Try.func24, Try.ntmps24
    go_wp2_with (go_at_call 26; refine (has_any _ _ _ _ _ h1).mono ?_; rintro e w' ⟨rfl, rfl⟩)
    go_ret
    exact ⟨rfl, rfl⟩
  · have h0 : ¬ at_ < 0 := by omega
    go_enter Try.func24, Try.ntmps24
    go_wp2_with (go_at_call 26; refine (has_any _ _ _ _ _ h1).mono ?_; rintro e w' ⟨rfl, rfl⟩)
    go_ret
    exact ⟨rfl, rfl⟩

set_option maxHeartbeats 400000 in
theorem place_ok (w : World) (p q n : Nat) (f at_ : Int) (h1 : w.cell? ⟨p, 0, none⟩ = some (.slice (some ⟨q, 0, none⟩) n n)) (h : inB f n = true) (h0 : 0 ≤ at_) (h2 : at_ ≤ 15) :
    Calls Try.prog 24 #[.pointer (some ⟨p, 0, none⟩), .int .i64 f, .int .i64 at_] w fun e w' => e = .returned (.int .i64 0) ∧ w' = w := by
  go_enter Try.func24, Try.ntmps24
  go_wp2_with (go_at_call 26; refine (has_any _ _ _ _ _ h1).mono ?_; rintro e w' ⟨rfl, rfl⟩)
  go_ret
  exact ⟨rfl, rfl⟩

set_option maxHeartbeats 400000 in
theorem get_ok (w : World) (p q n : Nat) (f at_ : Nat) (v : Int) (h1 : w.cell? ⟨p, 0, none⟩ = some (.slice (some ⟨q, 0, none⟩) n n)) (h : f < n) (h2 : at_ < 16) (hv : w.cell? ⟨q, f * 16 + at_, none⟩ = some (.int .u8 v)):
    Calls Try.prog 12 #[.pointer (some ⟨p, 0, none⟩), .int .i64 f, .int .i64 at_] w fun e w' => e = .returned (.tuple #[.int .u8 v, .int .i64 0]) ∧ w' = w := by
  have hb : inB f n = true := by simp [inB]; omega
  go_enter Try.func12, Try.ntmps12
  go_wp2_with (go_at_call 24; refine (place_ok _ _ _ _ _ _ h1 hb (by omega) (by omega)).mono ?_; rintro e w' ⟨rfl, rfl⟩)
  go_ret2
  exact ⟨rfl, rfl⟩


def plc (f at_ : Int) (n : Nat) : Int := if inB f n = true then (if 0 ≤ at_ ∧ at_ ≤ 15 then 0 else 1) else 6
theorem place_any (w : World) (p q n : Nat) (f at_ : Int) (h1 : w.cell? ⟨p, 0, none⟩ = some (.slice (some ⟨q, 0, none⟩) n n)) :
    Calls Try.prog 24 #[.pointer (some ⟨p, 0, none⟩), .int .i64 f, .int .i64 at_] w fun e w' => e = .returned (.int .i64 (plc f at_ n)) ∧ w' = w := by
  unfold plc
  by_cases hb : inB f n = true
  · rw [if_pos hb]
    by_cases ha : 0 ≤ at_ ∧ at_ ≤ 15
    · rw [if_pos ha]; exact place_ok w p q n f at_ h1 hb ha.1 ha.2
    · rw [if_neg ha]; exact place_arg w p q n f at_ h1 hb (by omega)
  · rw [if_neg hb]; exact place_none w p q n f at_ h1 (by simpa using hb)

set_option maxHeartbeats 400000 in
theorem get_no (w : World) (p q n : Nat) (f at_ : Int) (hk : (plc f at_ n == 0) = false) (h1 : w.cell? ⟨p, 0, none⟩ = some (.slice (some ⟨q, 0, none⟩) n n)) :
    Calls Try.prog 12 #[.pointer (some ⟨p, 0, none⟩), .int .i64 f, .int .i64 at_] w fun e w' => e = .returned (.tuple #[.int .u8 0, .int .i64 (plc f at_ n)]) ∧ w' = w := by
  go_enter Try.func12, Try.ntmps12
  go_wp2_with (go_at_call 24; refine (place_any _ _ _ _ _ _ h1).mono ?_; rintro e w' ⟨rfl, rfl⟩)
  go_ret2
  exact ⟨rfl, rfl⟩

set_option maxHeartbeats 400000 in
theorem set_ok (w : World) (p q n : Nat) (f at_ : Nat) (v u : Int) (h1 : w.cell? ⟨p, 0, none⟩ = some (.slice (some ⟨q, 0, none⟩) n n)) (h : f < n) (h2 : at_ < 16) (hv : w.cell? ⟨q, f * 16 + at_, none⟩ = some (.int .u8 v)) (hf : w.frozen? ⟨q, f * 16 + at_, none⟩ = false) :
    Calls Try.prog 19 #[.pointer (some ⟨p, 0, none⟩), .int .i64 f, .int .i64 at_, .int .u8 u] w fun e w' => e = .returned (.int .i64 0) ∧ w' = w.setCell ⟨q, f * 16 + at_, none⟩ (.int .u8 u) := by
  have hb : inB f n = true := by simp [inB]; omega
  go_enter Try.func19, Try.ntmps19
  go_wp2_with (go_at_call 24; refine (place_ok _ _ _ _ _ _ h1 hb (by omega) (by omega)).mono ?_; rintro e w' ⟨rfl, rfl⟩)
  go_ret
  exact ⟨rfl, rfl⟩

set_option maxHeartbeats 400000 in
theorem set_no (w : World) (p q n : Nat) (f at_ u : Int) (hk : (plc f at_ n == 0) = false) (h1 : w.cell? ⟨p, 0, none⟩ = some (.slice (some ⟨q, 0, none⟩) n n)) :
    Calls Try.prog 19 #[.pointer (some ⟨p, 0, none⟩), .int .i64 f, .int .i64 at_, .int .u8 u] w fun e w' => e = .returned (.int .i64 (plc f at_ n)) ∧ w' = w := by
  go_enter Try.func19, Try.ntmps19
  go_wp2_with (go_at_call 24; refine (place_any _ _ _ _ _ _ h1).mono ?_; rintro e w' ⟨rfl, rfl⟩)
  go_ret
  exact ⟨rfl, rfl⟩

theorem keep_copy (w : World) (p q f t : Nat) (v : Value) (cs : List Value) (hpq : p ≠ q) (hl : cs.length = 16) (hft : f = t ∨ f + 1 ≤ t ∨ t + 1 ≤ f)
    (h : w.cell? ⟨p, 0, none⟩ = some v ∧ w.rangeAt q (f * 16) cs ∧ w.there q (t * 16) 16) :
    (w.setCells q (t * 16) cs).cell? ⟨p, 0, none⟩ = some v ∧ (w.setCells q (t * 16) cs).rangeAt q (f * 16) cs ∧ (w.setCells q (t * 16) cs).there q (t * 16) 16 := by
  refine ⟨?_, ?_, ?_⟩
  · rw [World.cell?_setCells_out _ _ _ _ _ (fun h => absurd h hpq)]; exact h.1
  · rcases hft with rfl | hft | hft
    · exact World.rangeAt_setCells_same _ _ _ _ (by rw [hl]; exact h.2.2)
    · exact World.rangeAt_setCells_apart h.2.1 _ _ _ (by omega)
    · exact World.rangeAt_setCells_apart h.2.1 _ _ _ (by omega)
  · exact World.there_setCells h.2.2 _ _ _

theorem info61 : (Try.prog.info? 61).map (·.size) = some 16 := by kernel_rfl
set_option maxHeartbeats 400000 in
theorem copy_ok (w : World) (p q n : Nat) (f t : Nat) (cs : List Value) (hpq : p ≠ q) (hlen : cs.length = 16) (hcs : ∀ v ∈ cs, v.oneCell' = true) (h1 : w.cell? ⟨p, 0, none⟩ = some (.slice (some ⟨q, 0, none⟩) n n)) (h : f < n) (h2 : t < n)
    (hr : w.rangeAt q (f * 16) cs) (ht : w.there q (t * 16) 16) :
    Calls Try.prog 18 #[.pointer (some ⟨p, 0, none⟩), .int .i64 f, .int .i64 t] w fun e w' => e = .returned (.int .i64 0) ∧ w' = w.drew.setCells q (t * 16) cs := by
  have hb : inB f n = true := by simp [inB]; omega
  have htb : inB t n = true := by simp [inB]; omega
  have hS : w.drew.cell? ⟨p, 0, none⟩ = some (.slice (some ⟨q, 0, none⟩) n n) ∧ w.drew.rangeAt q (f * 16) cs ∧ w.drew.there q (t * 16) 16 := ⟨by simpa using h1, by simpa using hr, by simpa using ht⟩
  have HS : Hid _ := hS
  clear hS hr ht
  have hu := Try.underlying61
  have hi : (Try.prog.info? 61).map (·.size) = some cs.length := by rw [hlen]; exact info61
  go_enter Try.func18, Try.ntmps18
  go_wp2_with (go_at_call 26; refine (has_any _ _ _ _ _ h1).mono ?_; rintro e w' ⟨rfl, rfl⟩)
  go_region_held (fun w' => w'.cell? ⟨p, 0, none⟩ = some (.slice (some ⟨q, 0, none⟩) n n) ∧ w'.rangeAt q (f * 16) cs ∧ w'.there q (t * 16) 16) (first | exact HS.out | exact keep_copy _ p q f t _ cs hpq hlen (by omega) HS.out) (fail)
  go_wp2
  go_ret
  exact ⟨rfl, rfl⟩

set_option maxHeartbeats 400000 in
theorem copy_no (w : World) (p q n : Nat) (f t : Int) (h1 : w.cell? ⟨p, 0, none⟩ = some (.slice (some ⟨q, 0, none⟩) n n)) (h : inB f n = false ∨ inB t n = false) :
    Calls Try.prog 18 #[.pointer (some ⟨p, 0, none⟩), .int .i64 f, .int .i64 t] w fun e w' => e = .returned (.int .i64 6) ∧ w' = w := by
  cases hf : inB f n
  · go_enter Try.func18, Try.ntmps18
    go_wp2_with (go_at_call 26; refine (has_any _ _ _ _ _ h1).mono ?_; rintro e w' ⟨rfl, rfl⟩)
    go_ret
    exact ⟨rfl, rfl⟩
  · have ht : inB t n = false := by rcases h with h | h <;> simp_all
    clear h
    go_enter Try.func18, Try.ntmps18
    go_wp2_with (go_at_call 26; refine (has_any _ _ _ _ _ h1).mono ?_; rintro e w' ⟨rfl, rfl⟩)
    go_ret
    exact ⟨rfl, rfl⟩

set_option maxHeartbeats 400000 in
theorem clear_no (w : World) (p q n : Nat) (f : Int) (h1 : w.cell? ⟨p, 0, none⟩ = some (.slice (some ⟨q, 0, none⟩) n n)) (h : inB f n = false) :
    Calls Try.prog 20 #[.pointer (some ⟨p, 0, none⟩), .int .i64 f] w fun e w' => e = .returned (.int .i64 6) ∧ w' = w := by
  go_enter Try.func20, Try.ntmps20
  go_wp2_with (go_at_call 26; refine (has_any _ _ _ _ _ h1).mono ?_; rintro e w' ⟨rfl, rfl⟩)
  go_ret
  exact ⟨rfl, rfl⟩

set_option maxHeartbeats 400000 in
theorem page_no (w : World) (p q n : Nat) (f : Int) (h1 : w.cell? ⟨p, 0, none⟩ = some (.slice (some ⟨q, 0, none⟩) n n)) (h : inB f n = false) :
    Calls Try.prog 14 #[.pointer (some ⟨p, 0, none⟩), .int .i64 f] w fun e w' => e = .returned (.tuple #[.string ⟨#[]⟩, .int .i64 6]) ∧ w' = w := by
  go_enter Try.func14, Try.ntmps14
  go_wp2_with (go_at_call 26; refine (has_any _ _ _ _ _ h1).mono ?_; rintro e w' ⟨rfl, rfl⟩)
  go_ret2
  exact ⟨rfl, rfl⟩

set_option maxHeartbeats 400000 in
theorem load_no (w : World) (p q n : Nat) (f : Int) (s : ByteArray) (h1 : w.cell? ⟨p, 0, none⟩ = some (.slice (some ⟨q, 0, none⟩) n n)) (h : inB f n = false) :
    Calls Try.prog 17 #[.pointer (some ⟨p, 0, none⟩), .int .i64 f, .string s] w fun e w' => e = .returned (.int .i64 6) ∧ w' = w := by
  go_enter Try.func17, Try.ntmps17
  go_wp2_with (go_at_call 26; refine (has_any _ _ _ _ _ h1).mono ?_; rintro e w' ⟨rfl, rfl⟩)
  go_ret
  exact ⟨rfl, rfl⟩

set_option maxHeartbeats 400000 in
theorem load_long (w : World) (p q n : Nat) (f : Int) (s : ByteArray) (h1 : w.cell? ⟨p, 0, none⟩ = some (.slice (some ⟨q, 0, none⟩) n n)) (h : inB f n = true) (hs : 16 < s.size) :
    Calls Try.prog 17 #[.pointer (some ⟨p, 0, none⟩), .int .i64 f, .string s] w fun e w' => e = .returned (.int .i64 2) ∧ w' = w := by
  go_enter Try.func17, Try.ntmps17
  go_wp2_with (go_at_call 26; refine (has_any _ _ _ _ _ h1).mono ?_; rintro e w' ⟨rfl, rfl⟩)
  go_ret
  exact ⟨rfl, rfl⟩

def zer : List Value := List.replicate 16 (.int .u8 0)
set_option maxHeartbeats 400000 in
theorem clear_ok (w : World) (p q n : Nat) (f : Nat) (h1 : w.cell? ⟨p, 0, none⟩ = some (.slice (some ⟨q, 0, none⟩) n n)) (h : f < n) (ht : w.there q (f * 16) 16) :
    Calls Try.prog 20 #[.pointer (some ⟨p, 0, none⟩), .int .i64 f] w fun e w' => e = .returned (.int .i64 0) ∧ w' = w.setCells q (f * 16) zer := by
  have hb : inB f n = true := by simp [inB]; omega
  have Ht : Hid _ := ht
  clear ht
  go_enter Try.func20, Try.ntmps20
  go_wp2_with (first | (go_at_call 26; refine (has_any _ _ _ _ _ h1).mono ?_; rintro e w' ⟨rfl, rfl⟩) | (refine wpList_store_mid rfl 61 _ _ rfl q (f * 16) zer.toArray (by rfl) (by rfl) Ht.out info61 (by kernel_rfl) ?_))
  go_ret
  exact ⟨rfl, rfl⟩


def cells (l : List UInt8) : List Value := l.map fun b => Value.int .u8 (b.toNat : Int)
theorem cells_len (l : List UInt8) : (cells l).length = l.length := by simp [cells]
theorem cells_one (l : List UInt8) : ∀ v ∈ cells l, v.oneCell' = true := by
  intro v hv
  obtain ⟨x, _, rfl⟩ := List.mem_map.1 hv
  rfl

set_option maxHeartbeats 400000 in
theorem page_ok (w : World) (p q n : Nat) (f : Nat) (s : List UInt8) (h1 : w.cell? ⟨p, 0, none⟩ = some (.slice (some ⟨q, 0, none⟩) n n)) (h : f < n) (hl : s.length = 16) (hr : w.rangeAt q (f * 16) (cells s)) :
    Calls Try.prog 14 #[.pointer (some ⟨p, 0, none⟩), .int .i64 f] w fun e w' => e = .returned (.tuple #[.string ⟨s.toArray⟩, .int .i64 0]) ∧ w' = w := by
  have hb : inB f n = true := by simp [inB]; omega
  have hconv : (convert 54 9 (.slice (some ⟨q, f * 16, none⟩) 16 16)).run Try.prog w = .ok (.string ⟨s.toArray⟩) w := by
    have := run_convert_bytes_back (P := Try.prog) w 54 9 5 ⟨q, f * 16, none⟩ 16 s (by kernel_rfl) (by kernel_rfl) (by kernel_rfl) (fun j hj => by
      rw [Addr.add_mid]; exact hr j _ (by simp [cells, List.getElem?_eq_getElem hj]))
    rw [hl] at this
    exact this
  clear hr
  go_enter Try.func14, Try.ntmps14
  go_wp2_with (first | (go_at_call 26; refine (has_any _ _ _ _ _ h1).mono ?_; rintro e w' ⟨rfl, rfl⟩))
  go_ret2
  exact ⟨rfl, rfl⟩

theorem wpList_copy_str {P : Program} {w : World} {ops : Array Oper} {rest : List Oper} {o : Oper} {a : Act} {Q : Exit → Act → World → Prop} (hgd : o.guard = none) (d s : Operand) (dT sT : TypeId)
    (ho : o.op = .call { callee := .builtin .copy, args := #[d, s], argTypes := #[dT, sT] }) (elem : TypeId) (hu : P.underlying dT = some (.slice elem)) (hz : ∀ w, (Go.sizeOf elem).run P w = .ok 1 w)
    (b off dLen dCap : Nat) (hd : a.eval d = .slice (some ⟨b, off, none⟩) dLen dCap) (t : ByteArray) (hx : a.eval s = .string t) (hle : t.size ≤ dLen)
    (ht : w.there b off t.size)
    (h : wpList P ops Q rest (a.put o.dst (goInt t.size)) (w.setCells b off (cells t.data.toList))) : wpList P ops Q (o :: rest) a w := by
  refine wpList_plain hgd fun K hK => ?_
  have hrun := run_copy_string (P := P) w dT sT o.type elem b off dLen dCap t hu hz hle (fun j hj => (ht j hj).1) (fun j hj => (ht j hj).2)
  unfold Oper.wp
  simp [execOp, ho, resolve, invoke, builtin, hd, hx, hrun, Result.andThen]
  exact hK _ _ h

theorem size5 (w : World) : (Go.sizeOf 5).run Try.prog w = .ok 1 w := by kernel_rfl

end Go.Proofs.Ytjfgeledmlkppab
