/- Appends, boxes, an own row kept, frames; no statement is proved in this text. -/
import Derived.Test.YtihbbgcpdgnhoaaGreatDoorBase
import Derived.Test.YtihbbgcpdgnhoaaGreatDoorOrd
import Derived.Test.YtihbbgcpdgnhoaaGreatDoorPure2
namespace Go.Proofs.YtihbbgcpdgnhoaaGreatDoor
open Go.ChangeShapes Go.WideShapes Go.ChangeAt Go.RowKit Go.Deep
attribute [local go_sem ↓] Go.wp_at_zero Go.wp_at_succ

abbrev pq (q : Nat) : Value := .pointer (some ⟨q, 0, none⟩)
abbrev u16v (x : Int) : Value := .int .u16 x
theorem hid {p : Prop} (h : p) : Hid p := h
theorem below_one (w : World) (o : Obj) : Below w.heap.size w (w.alloc o) := (Below.refl _ _).alloc (Nat.le_refl _) _
theorem Touch.of_below {q : Nat} {w w' : World} (h : Below w.heap.size w w') : Touch q w w' := ⟨h.os, h.tape, h.output, h.size, fun x hx _ => h.block x hx⟩
theorem wpList_app_run {P : Program} {w : World} {ops : Array Oper} {rest : List Oper} {o : Oper} {a : Act} {Q : Exit → Act → World → Prop} (hgd : o.guard = none) (s x : Operand) (t : TypeId)
    (ho : o.op = .call { callee := .builtin .append, args := #[s, x], argTypes := #[t, t] }) (v1 v2 : Value) (hs : a.eval s = v1) (hx : a.eval x = v2) (ty : TypeId) (hty : o.type = ty) (r : Value) (w' : World)
    (hr : (Builtin.append_ #[t, t] ty #[v1, v2]).run P w = .ok r w') (h : wpList P ops Q rest (a.put o.dst r) w') : wpList P ops Q (o :: rest) a w :=
  wpList_plain hgd fun _ hK => by
    unfold Oper.wp execOp
    simp only [ho, resolve, invoke, builtin, Sem.run_bind, Sem.run_pure, Result.andThen_ok, List.map_toArray, List.map_cons, List.map_nil, hs, hx, hty, hr]
    exact hK _ _ h
theorem own_keep {w w' : World} {base : Nat} {e : TypeId} {size : Nat} {v : Value} {n : Nat} {xs : List Value} (h : w.ownsRow base e size v n xs) (hk : ∀ (k : Nat) (C : Array Value), w.heap[k]? = some (.cells C e) → w'.heap[k]? = some (.cells C e)) : w'.ownsRow base e size v n xs := by
  refine ⟨h.1, ?_⟩
  rcases h.2 with hn | ⟨g, cap, cur, rfl, hbg, hgg, rest⟩
  · exact .inl hn
  · exact .inr ⟨g, cap, cur, rfl, hbg, hk g cur hgg, rest⟩
theorem wp_app_run {P : Program} {w : World} {o : Oper} {a : Act} {K : Act → World → Prop} {Q : Exit → Act → World → Prop} (s x : Operand) (t : TypeId)
    (ho : o.op = .call { callee := .builtin .append, args := #[s, x], argTypes := #[t, t] }) (v1 v2 : Value) (hs : a.eval s = v1) (hx : a.eval x = v2) (ty : TypeId) (hty : o.type = ty) (r : Value) (w' : World)
    (hr : (Builtin.append_ #[t, t] ty #[v1, v2]).run P w = .ok r w') (h : K (a.put o.dst r) w') : Oper.wp P o a w K Q := by
  unfold Oper.wp execOp
  simp only [ho, resolve, invoke, builtin, Sem.run_bind, Sem.run_pure, Result.andThen_ok, List.map_toArray, List.map_cons, List.map_nil, hs, hx, hty, hr]
  exact h
theorem own_keep1 {w w' : World} {base : Nat} {e : TypeId} {size : Nat} {v : Value} {n : Nat} {xs : List Value} (h : w.ownsRow base e size v n xs) (hk : ∀ k, v.ownBlock = some k → w'.heap[k]? = w.heap[k]?) : w'.ownsRow base e size v n xs := by
  refine ⟨h.1, ?_⟩
  rcases h.2 with hn | ⟨g, cap, cur, rfl, hbg, hgg, rest⟩
  · exact .inl hn
  · exact .inr ⟨g, cap, cur, rfl, hbg, (hk g rfl).trans hgg, rest⟩
/-- An append, whose other blocks are all as they were. -/
theorem app_far {t e te : TypeId} {size bytes : Nat} {z : Value} (hu : Tryz.prog.underlying t = some (.slice e)) (hin : (Tryz.prog.info? e).map (fun i => (i.zero, i.size, i.bytes)) = some (some z, size, bytes)) (hzs : z.cells.size = size) (hsz : 0 < size) (hby : bytes ≤ 1000)
    {V : World} {base : Nat} {v : Value} {n : Nat} {xs : List Value} (ho : V.ownsRow base e size v n xs) (C : List Value) (hC : C.length = size) (h1 : ∀ u ∈ C, u.oneCell' = true) (hn : n ≤ 100000) (hB : base ≤ V.heap.size) :
    ∃ ao cap w', (Builtin.append_ #[t, t] t #[v, .slice (some ⟨V.heap.size, 0, none⟩) 1 1]).run Tryz.prog (V.alloc (.cells C.toArray te)) = .ok (.slice ao (n + 1) cap) w' ∧ w'.ownsRow base e size (.slice ao (n + 1) cap) (n + 1) (xs ++ C) ∧ Fr base [e] V w' ∧ (∀ k, k < V.heap.size → some k ≠ v.ownBlock → w'.heap[k]? = V.heap[k]?) ∧ ((Value.slice ao (n + 1) cap).ownBlock = v.ownBlock ∨ (Value.slice ao (n + 1) cap).ownBlock = some (V.heap.size + 1)) := by
  obtain ⟨i, hi, hz, hs, hb⟩ := info_parts hin
  have hb1 : Below V.heap.size V (V.alloc (.cells C.toArray te)) := below_one V _
  have ho2 : (V.alloc (.cells C.toArray te)).ownsRow base e size v n xs := ho.alloc _
  have hmul : (n + 1) * bytes ≤ 140737488355328 := Nat.le_trans (Nat.mul_le_mul (show n + 1 ≤ 100001 by omega) hby) (by decide)
  obtain ⟨v', w', hr, h2, h3, _, h5⟩ := run_append_own_at (P := Tryz.prog) (V.alloc (.cells C.toArray te)) base t t e i z size bytes hu hi hz hs hb hzs hsz v n xs ho2 ⟨V.heap.size, 0, none⟩ 1 1 C (by rw [hC, Nat.one_mul]) (World.news_of_block (heap_last V _)) h1 (by unfold maxLen; omega) hmul (by have := hb1.size; omega)
  obtain ⟨ao, cap, rfl, _⟩ := own_slice h2
  have hgb : ∀ k o, V.heap[k]? = some o → keeps [e] o = true → w'.heap[k]? = some o := fun k o hk hko => by
    rw [h3.block k (by have := blk_lt hk; simp; omega) (fun hE => ?_)]
    · exact blk_below hk hb1
    · rcases ho.2 with ⟨rfl, _⟩ | ⟨g, cap, cur, rfl, _, hgg, _⟩
      · simp [Value.ownBlock] at hE
      · simp [Value.ownBlock] at hE
        subst hE
        rw [hgg] at hk
        cases hk
        simp [keeps] at hko
  refine ⟨ao, cap, w', hr, h2, ⟨⟨h3.os, h3.tape, h3.output, Nat.le_trans hb1.size h3.size, fun k hk => ?_⟩, hgb⟩, fun k hk hne => ?_, ?_⟩
  · rw [h3.block k (by simp; omega) (fun hE => by have := (ho.lt k hE.symm).1; omega)]
    exact hb1.block k (by omega)
  · rw [h3.block k (by simp; omega) hne]
    exact hb1.block k hk
  · rcases h5 with h5 | h5
    · exact .inl h5
    · exact .inr (by rw [h5]; simp)
theorem own_low {w : World} {base base' : Nat} {e : TypeId} {size : Nat} {v : Value} {n : Nat} {xs : List Value} (h : w.ownsRow base e size v n xs) (hb : base' ≤ base) : w.ownsRow base' e size v n xs := by
  refine ⟨h.1, ?_⟩
  rcases h.2 with hn | ⟨g, cap, cur, rfl, hbg, rest⟩
  · exact .inl hn
  · exact .inr ⟨g, cap, cur, rfl, by omega, rest⟩
theorem results_cell {W : World} {t : Array Value} {a : Addr} {u v : Value} {F : Func} {n m : Nat} {ty : TypeId} (hr : F.results = #[.cell n ty, .tmp m]) (h6 : t.getD n undef = .pointer (some a)) (h7 : t.getD m undef = v) (g : (loadVar ty a).run Tryz.prog W = .ok u W) :
    (results F t).run Tryz.prog W = .ok (.tuple #[u, v]) W := by
  simp only [results, hr]
  simp [Result.andThen, asAddr, h6, h7, g, -Array.getD_eq_getD_getElem?]
theorem set2 {V : World} {b : Nat} {x y : Value} {t : TypeId} (h : V.heap[b]? = some (.cells #[x, y] t)) (s g : Value) : ((V.setCell ⟨b, 0, none⟩ s).setCell ⟨b, 1, none⟩ g).heap[b]? = some (.cells #[s, g] t) := by
  have h1 := heap_setCell_same V b 0 _ t s h
  have h2 := heap_setCell_same _ b 1 _ t g h1
  simpa using h2
theorem eqI (d : Nat) (a b : Int) (w : World) : (Op.equalIn (d + 1) 3 (i64 a) (i64 b)).run Tryz.prog w = .ok (a == b) w := by
  simp [Op.equalIn, run_underlying Tryz.underlying3]
theorem cell_keep {w : World} {a : Addr} {v : Value} (h : w.cell? a = some v) (o : Obj) : (w.alloc o).cell? a = some v := by
  rw [World.cell?_of_block (w := w) (Below.heap_alloc _ _ _ (World.block_lt_of_cell? w _ h))]; exact h
theorem cell_set {w : World} {a : Addr} {v : Value} (h : w.cell? a = some v) (p : Addr) (u : Value) (hne : a.block ≠ p.block) : (w.setCell p u).cell? a = some v := by
  rw [World.cell?_of_block (w := w) (Below.heap_setCell _ _ _ _ hne)]; exact h
theorem wrap_id {x : Int} (h0 : -9223372036854775808 ≤ x) (h1 : x ≤ 9223372036854775807) : IntKind.i64.wrap x = x := by
  simp [IntKind.wrap, IntKind.bits, IntKind.signed]
  omega
theorem wrap_u16 {x : Int} (h0 : 0 ≤ x) (h1 : x ≤ 65535) : IntKind.u16.wrap x = x := by
  simp [IntKind.wrap, IntKind.bits, IntKind.signed]
  omega

/-! ### A type in memory -/
abbrev str (l : Bs) : Value := .string ⟨l.toArray⟩
theorem str_of (s : ByteArray) : Value.string s = str s.data.toList := rfl
/-- A slice of strings that reads as l, in blocks of S. -/
def Strs (w : World) (S : Nat → Prop) (v : Value) (l : List Bs) : Prop :=
  ∃ ao cap, v = .slice ao l.length cap ∧ l.length ≤ maxLen ∧ (l.length ≤ cap ∧ ∀ x ∈ l, x.length ≤ maxLen) ∧ (l = [] ∨ ∃ b off, ao = some ⟨b, off, none⟩ ∧ S b ∧ b < w.heap.size ∧ ∀ i x, l[i]? = some x → w.cell? ⟨b, off + i, none⟩ = some (str x))
/-- A type that reads as T: its Names' slice, its Kids' slice, in blocks of S. -/
inductive Rd (w : World) (S : Nat → Prop) : Ty → Value → Value → Prop where
  | mk {k n : Int} {names : List Bs} {kids : List Ty} {nv : Value} {ao : Option Addr} {cap : Nat} (b off : Nat) (nvs kvs : Nat → Value) (hn : Strs w S nv names) (hl : kids.length ≤ maxLen)
      (ha : kids = [] ∨ (ao = some ⟨b, off, none⟩ ∧ S b ∧ b < w.heap.size))
      (hc : ∀ i T, kids[i]? = some T → w.rangeAt b (off + i * 4) [i64 T.kind, i64 T.num, nvs i, kvs i])
      (hr : ∀ i T, kids[i]? = some T → Rd w S T (nvs i) (kvs i)) : Rd w S (.mk k n names kids) nv (.slice ao kids.length cap)
theorem Strs.move {w w' : World} {S S' : Nat → Prop} {v : Value} {l : List Bs} (h : Strs w S v l) (hz : w.heap.size ≤ w'.heap.size) (hk : ∀ b, S b → b < w.heap.size → S' b ∧ w'.heap[b]? = w.heap[b]?) : Strs w' S' v l := by
  obtain ⟨ao, cap, rfl, h1, h2, h3⟩ := h
  refine ⟨ao, cap, rfl, h1, h2, ?_⟩
  rcases h3 with h3 | ⟨b, off, rfl, hS, hlt, hc⟩
  · exact Or.inl h3
  · exact Or.inr ⟨b, off, rfl, (hk b hS hlt).1, by omega, fun i x hx => by rw [World.cell?_of_block (w := w) (hk b hS hlt).2]; exact hc i x hx⟩
theorem range_keep {w w' : World} {b o : Nat} {l : List Value} (h : w.rangeAt b o l) (hb : w'.heap[b]? = w.heap[b]?) : w'.rangeAt b o l := fun j v hv => by
  rw [World.cell?_of_block (w := w) hb]; exact h j v hv
theorem Rd.move {w w' : World} {S S' : Nat → Prop} {T : Ty} {nv kv : Value} (h : Rd w S T nv kv) (hz : w.heap.size ≤ w'.heap.size) (hk : ∀ b, S b → b < w.heap.size → S' b ∧ w'.heap[b]? = w.heap[b]?) : Rd w' S' T nv kv := by
  induction h with
  | mk b off nvs kvs hn hl ha hc _ ih =>
    refine .mk b off nvs kvs (hn.move hz hk) hl ?_ ?_ ih
    · rcases ha with ha | ⟨h1, h2, h3⟩
      · exact Or.inl ha
      · exact Or.inr ⟨h1, (hk b h2 h3).1, by omega⟩
    · intro i T hT
      rcases ha with ha | ⟨h1, h2, h3⟩
      · subst ha; simp at hT
      · exact range_keep (hc i T hT) (hk b h2 h3).2
theorem Rd.under {w w' : World} {S : Nat → Prop} {T : Ty} {nv kv : Value} (h : Rd w S T nv kv) (hb : Below w.heap.size w w') : Rd w' S T nv kv := h.move hb.size fun b hS hlt => ⟨hS, hb.block b hlt⟩
theorem Strs.below {w w' : World} {S : Nat → Prop} {v : Value} {l : List Bs} (h : Strs w S v l) (hb : Below w.heap.size w w') : Strs w' S v l := h.move hb.size fun b hS hlt => ⟨hS, hb.block b hlt⟩
theorem Rd.mono {w : World} {S S' : Nat → Prop} {T : Ty} {nv kv : Value} (h : Rd w S T nv kv) (hs : ∀ b, S b → b < w.heap.size → S' b) : Rd w S' T nv kv := h.move (Nat.le_refl _) fun b hS hlt => ⟨hs b hS hlt, rfl⟩
theorem Strs.mono {w : World} {S S' : Nat → Prop} {v : Value} {l : List Bs} (h : Strs w S v l) (hs : ∀ b, S b → b < w.heap.size → S' b) : Strs w S' v l := h.move (Nat.le_refl _) fun b hS hlt => ⟨hs b hS hlt, rfl⟩
theorem Rd.touch {w w' : World} {q : Nat} {T : Ty} {nv kv : Value} (h : Rd w (fun b => b ≠ q) T nv kv) (ht : Touch q w w') : Rd w' (fun b => b ≠ q) T nv kv := h.move ht.size fun b hS hlt => ⟨hS, ht.block b hlt hS⟩
theorem Strs.at {w : World} {S : Nat → Prop} {v : Value} {l : List Bs} (h : Strs w S v l) : ∃ ao cap, v = .slice ao l.length cap ∧ ∀ k (hk : k < l.length), ∃ b off, ao = some ⟨b, off, none⟩ ∧ b < w.heap.size ∧ w.cell? ⟨b, off + k, none⟩ = some (str l[k]) := by
  obtain ⟨ao, cap, rfl, _, _, h3⟩ := h
  refine ⟨ao, cap, rfl, fun k hk => ?_⟩
  rcases h3 with rfl | ⟨b, off, rfl, _, hlt, hc⟩
  · simp at hk
  · exact ⟨b, off, rfl, hlt, hc k _ (List.getElem?_eq_getElem hk)⟩
/-- What is at a kid's place. -/
theorem Rd.kid {w : World} {S : Nat → Prop} {k n : Int} {names : List Bs} {kids : List Ty} {nv kv : Value} (h : Rd w S (.mk k n names kids) nv kv) : Strs w S nv names ∧ kids.length ≤ maxLen ∧ ∃ ao cap, kv = .slice ao kids.length cap ∧
    ∀ i (hi : i < kids.length), ∃ b off nv' kv', ao = some ⟨b, off, none⟩ ∧ S b ∧ b < w.heap.size ∧ w.rangeAt b (off + i * 4) [i64 kids[i].kind, i64 kids[i].num, nv', kv'] ∧ Rd w S kids[i] nv' kv' := by
  cases h with
  | mk b off nvs kvs hn hl ha hc hr =>
    refine ⟨hn, hl, _, _, rfl, fun i hi => ?_⟩
    have hT : kids[i]? = some kids[i] := List.getElem?_eq_getElem hi
    rcases ha with rfl | ⟨h1, h2, h3⟩
    · simp at hi
    · exact ⟨b, off, nvs i, kvs i, h1, h2, h3, hc i _ hT, hr i _ hT⟩
abbrev tyV (k n : Int) (nv kv : Value) : Value := .agg #[i64 k, i64 n, nv, kv]
end Go.Proofs.YtihbbgcpdgnhoaaGreatDoor
