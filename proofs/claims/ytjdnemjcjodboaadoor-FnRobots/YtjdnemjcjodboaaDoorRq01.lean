/- Base, LowerWalk, PctPlain. -/
import Derived.WalkKit
import Derived.WalkLawsBesides
import Derived.WalkSpells
import Derived.Laws.IdiomStrings
import Derived.Test.YtjdnemjcjodboaaDoorRows
set_option maxHeartbeats 1000000
namespace Go.Proofs.YtjdnemjcjodboaaDoor
open Go.RowKit
abbrev CB (f : FuncId) (a : Array Value) (W : World) (v : Value) : Prop := Calls Tryd.prog f a W fun e w' => e = .returned v ∧ Below W.heap.size W w'
abbrev CS (f : FuncId) (a : Array Value) (W : World) (v : Value) : Prop := Calls Tryd.prog f a W fun e w' => e = .returned v ∧ W = w'
def bcells (l : List UInt8) : List Value := l.map fun b => Value.int .u8 (b.toNat : Int)
theorem bcells_snoc (l : List UInt8) (c : UInt8) : bcells (l ++ [c]) = bcells l ++ [Value.int .u8 (c.toNat : Int)] := by simp [bcells]
theorem bcells_append (l m : List UInt8) : bcells (l ++ m) = bcells l ++ bcells m := by simp [bcells]
theorem bcells_length (l : List UInt8) : (bcells l).length = l.length := by simp [bcells]
theorem run_string_own {P : Program} (w : World) (src dst e : TypeId) (hs : P.underlying src = some (.slice e)) (he : P.underlying e = some (.int .u8)) (hd : P.underlying dst = some .string)
  {base : Nat} {v : Value} {n : Nat} {l : List UInt8} (hown : w.ownsRow base e 1 v n (bcells l)) :
  (convert src dst v).run P w = .ok (.string ⟨l.toArray⟩) w := by
 have hn : l.length = n := by have := hown.1; simpa [bcells_length] using this
 rcases hown.2 with ⟨rfl, h0⟩ | ⟨g, cap, cur, rfl, hb, hg, hnc, hcm, hcs, htake⟩
 ·rw [h0] at hn
  have : l = [] := List.eq_nil_of_length_eq_zero hn
  subst this
  rw [run_convert_bytes_string w src dst e _ _ _ hs he hd]
  simp [Conv.bytesToString]
  rfl
 subst hn
 refine run_convert_bytes_back w src dst e ⟨g, 0, none⟩ cap l hs he hd fun j hj => ?_
 exact hown.cells (g := g) rfl j _ (by simp [bcells, hj])
def bytesAt (w : World) (B : Nat) (l : List UInt8) : Prop :=
 ∀ j (hj : j < l.length), w.cell? ⟨B, j, none⟩ = some (.int .u8 (l[j].toNat : Int)) ∧ w.frozen? ⟨B, j, none⟩ = false
theorem bytesAt.drew {w : World} {B : Nat} {l : List UInt8} (h : bytesAt w B l) : bytesAt w.drew B l := h
theorem bytesAt_made (w : World) (s : ByteArray) (cap : Nat) (e : TypeId) :
  bytesAt (w.alloc (.cells (bytesRow s cap) e ((bytesRow s cap).size, (bytesRow s cap).size + 1))) w.heap.size s.data.toList := by
 intro j hj
 have hj' : j < s.data.size := by simpa using hj
 constructor
 ·rw [World.cell?_alloc_mark]
  unfold bytesRow
  rw [Array.getElem?_append_left (by simpa using hj')]
  rw [Array.getElem?_map, Array.getElem?_eq_getElem hj']
  simp
 have hb : (w.alloc (.cells (bytesRow s cap) e ((bytesRow s cap).size, (bytesRow s cap).size + 1))).heap[w.heap.size]? = some (.cells (bytesRow s cap) e ((bytesRow s cap).size, (bytesRow s cap).size + 1)) := heap_alloc_new w _
 have hsz : j < (bytesRow s cap).size := by
  have h0 : s.size = s.data.size := rfl
  unfold bytesRow
  simp only [Array.size_append, Array.size_map, Array.size_replicate]
  omega
 simp only [World.frozen?, hb]
 simp
 omega
theorem bytesAt.set {w : World} {B : Nat} {l : List UInt8} (h : bytesAt w B l) (k : Nat) (hk : k < l.length) (c : UInt8) {x : Int} (hx : x = (c.toNat : Int)) :
  bytesAt (w.setCell ⟨B, k, none⟩ (.int .u8 x)) B (l.set k c) := by
 subst hx
 intro j hj
 have hj' : j < l.length := by simpa using hj
 refine ⟨?_, by rw [World.frozen?_setCell]; exact (h j hj').2⟩
 by_cases e : k = j
 ·subst e
  rw [World.cell?_setCell_same' _ _ _ (by rw [(h k hk).1]; rfl)]
  simp
 rw [World.cell?_setCell_other _ _ _ _ (fun h => e (by injection h))]
 rw [List.getElem_set_ne e]
 exact (h j hj').1
theorem run_string_at {P : Program} (w : World) (src dst e : TypeId) (hs : P.underlying src = some (.slice e)) (he : P.underlying e = some (.int .u8)) (hd : P.underlying dst = some .string)
  {B n cap : Nat} {l : List UInt8} (hn : l.length = n) (h : bytesAt w B l) :
  (convert src dst (.slice (some ⟨B, 0, none⟩) n cap)).run P w = .ok (.string ⟨l.toArray⟩) w := by
 subst hn
 refine run_convert_bytes_back w src dst e ⟨B, 0, none⟩ cap l hs he hd fun j hj => ?_
 have e : (⟨B, 0, none⟩ : Addr).add j = ⟨B, j, none⟩ := by rw [Addr.add_lit]; simp
 rw [e]
 exact (h j hj).1
theorem wpList_append_newG {P : Program} (wr : World) {ops : Array Oper} {rest : List Oper} {o : Oper} {a : Act} {Q : Exit → Act → World → Prop}
  (hg : o.guard = none) (s x : Operand) (t : TypeId) (hop : o.op = .call { callee := .builtin .append, args := #[s, x], argTypes := #[t, t] })
  (B : Nat) (e : TypeId) (z : Value) (bytes : Nat) (ht : P.underlying t = some (.slice e)) (hinfo : (P.info? e).map (fun i => (i.zero, i.size, i.bytes)) = some (some z, 1, bytes)) (hz : z.cells.size = 1)
  (v : Value) (n : Nat) (xs : List Value) (hs : a.eval s = v) (hown : wr.ownsRow B e 1 v n xs)
  (cs : Array Value) (m : Nat) (hm : cs.size = m) (hx : a.eval x = .slice (some ⟨wr.heap.size, 0, none⟩) m m) (h1 : ∀ u ∈ cs.toList, u.oneCell' = true)
  (hroom : (n + m) * bytes ≤ 140737488355328) (hroom' : n + m ≤ maxLen) (hB : B ≤ wr.heap.size)
  (hK : ∀ v' w1, w1.ownsRow B e 1 v' (n + m) (xs ++ cs.toList) → Below B wr w1 → (∀ k, k < wr.heap.size → some k ≠ v.ownBlock → w1.heap[k]? = wr.heap[k]?) → wpList P ops Q rest (a.put o.dst v') w1) :
  wpList P ops Q (o :: rest) a (wr.alloc (.cells cs e)) := by
 obtain ⟨i0, hi, hz0, hz1, hz2⟩ := info_parts hinfo
 refine wpList_append_own (wr.alloc (.cells cs e)) hg s x t hop B e i0 z 1 bytes ht hi hz0 hz1 hz2 hz (by decide) v n xs hs (hown.alloc _) ⟨wr.heap.size, 0, none⟩ m m cs.toList hx (by simp [hm]) ?_ h1 hroom' hroom (by simp; omega) ?_
 ·intro j u hj
  rw [Addr.add_lit, Nat.zero_add]
  rw [World.cell?_alloc_at _ _ _ _ rfl]
  simpa using hj
 intro v' w1 h1 h2 _
 exact hK v' w1 h1 (((Below.refl B wr).alloc hB _).grown h2 (by simp; omega) (fun k hk => (hown.lt k hk).1))
  (fun k hk hne => (h2.block k (by simp; omega) hne).trans (Below.heap_alloc wr _ k hk))
theorem wpList_append_new {P : Program} (wr : World) {ops : Array Oper} {rest : List Oper} {o : Oper} {a : Act} {Q : Exit → Act → World → Prop}
  (hg : o.guard = none) (s x : Operand) (t : TypeId) (hop : o.op = .call { callee := .builtin .append, args := #[s, x], argTypes := #[t, t] })
  (B : Nat) (e : TypeId) (z : Value) (bytes : Nat) (ht : P.underlying t = some (.slice e)) (hinfo : (P.info? e).map (fun i => (i.zero, i.size, i.bytes)) = some (some z, 1, bytes)) (hz : z.cells.size = 1)
  (v : Value) (n : Nat) (xs : List Value) (hs : a.eval s = v) (hown : wr.ownsRow B e 1 v n xs)
  (cs : Array Value) (m : Nat) (hm : cs.size = m) (hx : a.eval x = .slice (some ⟨wr.heap.size, 0, none⟩) m m) (h1 : ∀ u ∈ cs.toList, u.oneCell' = true)
  (hroom : (n + m) * bytes ≤ 140737488355328) (hroom' : n + m ≤ maxLen) (hB : B ≤ wr.heap.size)
  (hK : ∀ v' w1, w1.ownsRow B e 1 v' (n + m) (xs ++ cs.toList) → Below B wr w1 → wpList P ops Q rest (a.put o.dst v') w1) :
  wpList P ops Q (o :: rest) a (wr.alloc (.cells cs e)) :=
 wpList_append_newG wr hg s x t hop B e z bytes ht hinfo hz v n xs hs hown cs m hm hx h1 hroom hroom' hB (fun v' w1 a b _ => hK v' w1 a b)
theorem own_below {w w' : World} {B : Nat} {e : TypeId} {size : Nat} {v : Value} {n : Nat} {xs : List Value} (h : w.ownsRow B e size v n xs) (hb : Below w.heap.size w w') : w'.ownsRow B e size v n xs :=
 h.kept (row := none) ⟨hb.os, hb.tape, hb.output, hb.size, fun k hk _ => hb.block k hk⟩ (by cases hv : v.ownBlock <;> simp)
theorem grow_below {w w1 w2 : World} {row : Option Nat} (h : w.grownBy w1 row) (hb : Below w1.heap.size w1 w2) : w.grownBy w2 row :=
 ⟨hb.os.trans h.os, hb.tape.trans h.tape, hb.output.trans h.output, Nat.le_trans h.size hb.size, fun k hk hne => (hb.block k (Nat.lt_of_lt_of_le hk h.size)).trans (h.block k hk hne)⟩
theorem grow_trans {w w1 w2 : World} {row : Option Nat} (h : w.grownBy w1 row) (hb : w1.grownBy w2 row) : w.grownBy w2 row :=
 ⟨hb.os.trans h.os, hb.tape.trans h.tape, hb.output.trans h.output, Nat.le_trans h.size hb.size, fun k hk hne => (hb.block k (Nat.lt_of_lt_of_le hk h.size) hne).trans (h.block k hk hne)⟩
theorem own_shape {w : World} {B : Nat} {e : TypeId} {v : Value} {n : Nat} {xs : List Value} (h : w.ownsRow B e 1 v n xs) :
  (n = 0 ∧ xs = [] ∧ ∃ ao cap, v = .slice ao 0 cap) ∨ (0 < n ∧ ∃ g cap, v = .slice (some ⟨g, 0, none⟩) n cap) := by
 have hl := h.1
 rcases h.2 with ⟨rfl, rfl⟩ | ⟨g, cap, cur, rfl, _⟩
 ·exact .inl ⟨rfl, List.eq_nil_of_length_eq_zero (by simpa using hl), none, 0, rfl⟩
 by_cases h0 : n = 0
 ·subst h0
  exact .inl ⟨rfl, List.eq_nil_of_length_eq_zero (by simpa using hl), _, cap, rfl⟩
 exact .inr ⟨by omega, g, cap, rfl⟩
def scells (l : List ByteArray) : List Value := l.map Value.string
theorem scells_snoc (l : List ByteArray) (s : ByteArray) : scells (l ++ [s]) = scells l ++ [Value.string s] := by simp [scells]
theorem scell_at {w : World} {B : Nat} {e : TypeId} {g n cap : Nat} {fs : List ByteArray} (h : w.ownsRow B e 1 (.slice (some ⟨g, 0, none⟩) n cap) n (scells fs)) (k : Nat) (hk : k < n) :
  w.cell? ⟨g, k, none⟩ = some (.string (fs.getD k ByteArray.empty)) := by
 have hl : fs.length = n := by have := h.1; simpa [scells] using this
 rw [h.cellAt k (by omega)]
 simp [scells, List.getD, show k < fs.length by omega]
theorem ret_bool {a b : Bool} (h : a = b) : Ending.returned (.bool a) = .returned (.bool b) := by rw [h]
theorem ret_int {k : IntKind} {a b : Int} (h : a = b) : Ending.returned (.int k a) = .returned (.int k b) := by rw [h]
theorem ret_str {a b : List UInt8} (h : a = b) : Ending.returned (.string ⟨a.toArray⟩) = .returned (.string ⟨b.toArray⟩) := by rw [h]
theorem take_snoc (s : ByteArray) (k : Nat) (h : k < s.size) : s.data.toList.take (k + 1) = s.data.toList.take k ++ [s[k]] := by
 rw [List.take_succ_eq_append_getElem (by simpa using h)]; rfl
theorem take_all (s : ByteArray) (k : Nat) (h : s.size ≤ k) : s.data.toList.take k = s.data.toList := List.take_of_length_le (by simpa using h)
theorem specL1In_yes (x a b : Int) (w : World) (h1 : a ≤ x) (h2 : x ≤ b) :
  Calls Tryd.prog 68 #[.int .i64 x, .int .i64 a, .int .i64 b] w fun e w' => e = .returned (.bool true) ∧ w = w' := by
 go_enter Tryd.func68, Tryd.ntmps68
 go_wp2
 go_ret
 exact ⟨rfl, rfl⟩
theorem specL1In_no (x a b : Int) (w : World) (h : x < a ∨ b < x) :
  Calls Tryd.prog 68 #[.int .i64 x, .int .i64 a, .int .i64 b] w fun e w' => e = .returned (.bool false) ∧ w = w' := by
 rcases Int.lt_or_le x a with h1 | h1
 ·clear h
  go_enter Tryd.func68, Tryd.ntmps68
  go_wp2
  go_ret
  exact ⟨rfl, rfl⟩
 have h2 : b < x := by omega
 clear h
 go_enter Tryd.func68, Tryd.ntmps68
 go_wp2
 go_ret
 exact ⟨ret_bool (by simp; omega), rfl⟩
def lowerC (c : UInt8) : UInt8 := if 65 ≤ c.toNat ∧ c.toNat ≤ 90 then c + 32 else c
def lowerL (l : List UInt8) : List UInt8 := l.map lowerC
theorem Tryd.info5 : (Tryd.prog.info? 5).map (fun i => (i.zero, i.size, i.bytes)) = some (some (.int .u8 0), 1, 1) := by kernel_rfl
theorem lowerC_toNat (c : UInt8) : ((lowerC c).toNat : Int) = if 65 ≤ (c.toNat : Int) ∧ (c.toNat : Int) ≤ 90 then (c.toNat : Int) + 32 else c.toNat := by
 unfold lowerC
 split
 ·rw [if_pos (by omega)]
  have : (c + 32).toNat = (c.toNat + 32) % 256 := by rw [UInt8.toNat_add]; rfl
  omega
 rw [if_neg (by omega)]
theorem lower_step (s : ByteArray) (k : Nat) (h : k < s.size) {w1 : World} {B : Nat} {v : Value} {x : Int}
  (hown : w1.ownsRow B 5 1 v (k + 1) (bcells (lowerL (s.data.toList.take k)) ++ [.int .u8 x]))
  (hx : x = if 65 ≤ (s[k].toNat : Int) ∧ (s[k].toNat : Int) ≤ 90 then (s[k].toNat : Int) + 32 else s[k].toNat) :
  w1.ownsRow B 5 1 v (k + 1) (bcells (lowerL (s.data.toList.take (k + 1)))) := by
 have e : bcells (lowerL (s.data.toList.take (k + 1))) = bcells (lowerL (s.data.toList.take k)) ++ [.int .u8 x] := by
  rw [take_snoc s k h, hx, ← lowerC_toNat]
  simp [lowerL, bcells]
 rw [e]; exact hown
theorem specLower (s : ByteArray) (w : World) (hs : s.size ≤ 1048576) :
  Calls Tryd.prog 59 #[.string s] w fun e w' => e = .returned (.string ⟨(lowerL s.data.toList).toArray⟩) ∧ Below w.heap.size w w' := by
 obtain ⟨i0, hi, hz0, hz1, hz2⟩ := info_parts Tryd.info5
 go_enter Tryd.func59, Tryd.ntmps59
 go_wp2
 go_loopw [3, 4] (fun v i wr => ∃ k : Nat, k ≤ s.size ∧ i = .int .i64 k ∧ wr.ownsRow w.heap.size 5 1 v k (bcells (lowerL (s.data.toList.take k))) ∧ Below w.heap.size w wr)
  (fun _ i _ => s.size - (intOf i).toNat)
 case atStart => exact ⟨0, Nat.zero_le _, rfl, World.ownsRow_lit w #[] 0 (Nat.le_refl _) (by decide) rfl, (Below.refl _ _).alloc (Nat.le_refl _) _⟩
 obtain ⟨k, hk, rfl, hown, hbel⟩ := hrel
 by_cases hlt : k < s.size
 ·have hsz := hbel.size
  by_cases hc : 65 ≤ (s[k].toNat : Int) ∧ (s[k].toNat : Int) ≤ 90
  ·obtain ⟨hc1, hc2⟩ := hc
   go_wp2_with (first
    | (at_builtin; refine wpList_append_own _ rfl _ _ 22 rfl w.heap.size 5 i0 (.int .u8 0) 1 1 Tryd.underlying22 hi hz0 hz1 hz2 rfl (by decide) _ _ _ rfl (hown.alloc _) ⟨wr.heap.size, 0, none⟩ 1 1 [.int .u8 ((s[k].toNat : Int) + 32)] rfl rfl ?c1A ?c2A ?c3A ?c4A ?c5A ?_)
    | (go_at_call 68; refine (specL1In_yes (s[k].toNat : Int) 65 90 _ hc1 hc2).mono ?_; rintro e w' ⟨rfl, rfl⟩))
   case c1A => exact cell_one_new _ _ _
   case c2A => intro u hu; simp at hu; subst hu; rfl
   case c3A => unfold maxLen; omega
   case c4A => omega
   case c5A => simp; omega
   intro v' w1 hown' hgrow _
   have R := lower_step s k hlt hown' (by rw [if_pos ⟨hc1, hc2⟩])
   have B1 : Below w.heap.size w w1 := (hbel.alloc hsz _).grown hgrow (by simp; omega) (fun k hk => (hown.lt k hk).1)
   clear hown' hgrow hown hbel
   go_wp2
   go_roundw
   case rel => exact ⟨k + 1, by omega, by go_num, R, B1⟩
   case measure => simp [intOf]; omega
  have hc' : (s[k].toNat : Int) < 65 ∨ 90 < (s[k].toNat : Int) := by omega
  have HC : Hid ((s[k].toNat : Int) < 65 ∨ 90 < (s[k].toNat : Int)) := hc'
  clear hc hc'
  have hb : (s[k].toNat : Int) ≤ 255 := by have := s[k].toNat_lt; omega
  go_wp2_with (first
   | (at_builtin; refine wpList_append_own _ rfl _ _ 22 rfl w.heap.size 5 i0 (.int .u8 0) 1 1 Tryd.underlying22 hi hz0 hz1 hz2 rfl (by decide) _ _ _ rfl (hown.alloc _) ⟨wr.heap.size, 0, none⟩ 1 1 [.int .u8 ((s[k].toNat : Int))] rfl rfl ?c1B ?c2B ?c3B ?c4B ?c5B ?_)
   | (go_at_call 68; refine (specL1In_no (s[k].toNat : Int) 65 90 _ HC.out).mono ?_; rintro e w' ⟨rfl, rfl⟩))
  case c1B => exact cell_one_new _ _ _
  case c2B => intro u hu; simp at hu; subst hu; rfl
  case c3B => unfold maxLen; omega
  case c4B => omega
  case c5B => simp; omega
  intro v' w1 hown' hgrow _
  have R := lower_step s k hlt hown' (by rw [if_neg (by rcases HC.out with h | h <;> omega)])
  have B1 : Below w.heap.size w w1 := (hbel.alloc hsz _).grown hgrow (by simp; omega) (fun k hk => (hown.lt k hk).1)
  clear hown' hgrow hown hbel
  go_wp2
  go_roundw
  case rel => exact ⟨k + 1, by omega, by go_num, R, B1⟩
  case measure => simp [intOf]; omega
 have HO : (convert 22 9 u3).run Tryd.prog wr = .ok (.string ⟨(lowerL (s.data.toList.take k)).toArray⟩) wr := run_string_own wr 22 9 5 Tryd.underlying22 Tryd.underlying5 Tryd.underlying9 hown
 go_wp2
 go_ret
 exact ⟨ret_str (by rw [take_all s k (by omega)]), hbel⟩
def lowerTo (l : List UInt8) (k : Nat) : List UInt8 := lowerL (l.take k) ++ l.drop k
theorem lowerTo_zero (l : List UInt8) : lowerTo l 0 = l := by simp [lowerTo, lowerL]
theorem lowerTo_length (l : List UInt8) (k : Nat) : (lowerTo l k).length = l.length := by simp [lowerTo, lowerL]; omega
theorem lowerTo_at (s : ByteArray) (k : Nat) (h : k < s.size) (h' : k < (lowerTo s.data.toList k).length) : (lowerTo s.data.toList k)[k] = s[k] := by
 have hk : k < s.data.toList.length := by simpa using h
 have e : (lowerTo s.data.toList k)[k]? = some s[k] := by
  unfold lowerTo
  rw [List.getElem?_append_right (by simp [lowerL]; omega)]
  simp only [lowerL, List.length_map, List.length_take, Nat.min_eq_left (Nat.le_of_lt hk), Nat.sub_self, List.getElem?_drop, Nat.add_zero]
  rw [List.getElem?_eq_getElem hk]
  rfl
 rw [List.getElem?_eq_getElem h'] at e
 exact Option.some.inj e
theorem lowerTo_succ (s : ByteArray) (k : Nat) (h : k < s.size) : (lowerTo s.data.toList k).set k (lowerC s[k]) = lowerTo s.data.toList (k + 1) := by
 have hk : k < s.data.toList.length := by simpa using h
 unfold lowerTo
 rw [List.set_append_right _ _ (by simp [lowerL]; omega)]
 rw [take_snoc s k h, List.drop_eq_getElem_cons hk]
 simp [lowerL, Nat.min_eq_left (Nat.le_of_lt h)]
theorem lowerTo_keep (s : ByteArray) (k : Nat) (h : k < s.size) (hc : lowerC s[k] = s[k]) : lowerTo s.data.toList k = lowerTo s.data.toList (k + 1) := by
 rw [← lowerTo_succ s k h, hc]
 have h' : k < (lowerTo s.data.toList k).length := by rw [lowerTo_length]; simpa using h
 rw [← lowerTo_at s k h h', List.set_getElem_self]
theorem implLower (s : ByteArray) (w : World) (hs : s.size ≤ 1048576) :
  Calls Tryd.prog 30 #[.string s] w fun e w' => e = .returned (.string ⟨(lowerL s.data.toList).toArray⟩) ∧ Below w.heap.size w w' := by
 obtain ⟨cap, hcap⟩ : ∃ cap, grownCap w s.size 0 5 = cap := ⟨_, rfl⟩
 have hconv := run_bytes_of_string w 9 22 5 s Tryd.underlying9 Tryd.underlying22 Tryd.underlying5
 rw [hcap] at hconv
 have hmade := bytesAt_made w s cap 5
 generalize hC : bytesRow s cap = C at hconv hmade
 clear hC hcap
 go_enter Tryd.func30, Tryd.ntmps30
 go_wp2
 go_loopw [10] (fun i wr => ∃ k : Nat, k ≤ s.size ∧ i = .int .i64 k ∧ bytesAt wr w.heap.size (lowerTo s.data.toList k) ∧ Below w.heap.size w wr)
  (fun i _ => s.size - (intOf i).toNat)
 case atStart => exact ⟨0, Nat.zero_le _, rfl, by rw [lowerTo_zero]; exact hmade, ((Below.refl _ _).alloc (Nat.le_refl _) _).drew⟩
 obtain ⟨k, hk, rfl, hat, hbel⟩ := hrel
 clear hmade hconv
 by_cases hlt : k < s.size
 ·have hl : k < (lowerTo s.data.toList k).length := by rw [lowerTo_length]; simpa using hlt
  obtain ⟨hc, hf⟩ := hat k hl
  rw [lowerTo_at s k hlt hl] at hc
  by_cases hcc : 65 ≤ (s[k].toNat : Int) ∧ (s[k].toNat : Int) ≤ 90
  ·obtain ⟨hc1, hc2⟩ := hcc
   go_wp2
   go_roundw
   case rel =>
    refine ⟨k + 1, by omega, by go_num, ?_, hbel.setCell (Nat.le_refl _) _⟩
    rw [← lowerTo_succ s k hlt]
    exact hat.set k hl (lowerC s[k]) (by rw [lowerC_toNat, if_pos ⟨hc1, hc2⟩]; omega)
   case measure => simp [intOf]; omega
  have hcc' : lowerC s[k] = s[k] := by unfold lowerC; rw [if_neg (by omega)]
  have HC : Hid (lowerC s[k] = s[k]) := hcc'
  clear hcc'
  by_cases h65 : 65 ≤ (s[k].toNat : Int)
  all_goals
   go_wp2
   go_roundw
   case rel => exact ⟨k + 1, by omega, by go_num, by rw [← lowerTo_keep s k hlt HC.out]; exact hat, hbel⟩
   case measure => simp [intOf]; omega
 have e : lowerTo s.data.toList k = lowerL s.data.toList := by
  unfold lowerTo
  rw [take_all s k (by omega), List.drop_eq_nil_of_le (by simp; omega), List.append_nil]
 rw [e] at hat
 have HO := run_string_at (P := Tryd.prog) wr 22 9 5 Tryd.underlying22 Tryd.underlying5 Tryd.underlying9 (n := s.size) (cap := cap) (by simp [lowerL]) hat
 clear e
 go_wp2
 go_ret
 exact ⟨rfl, hbel⟩
def letterN (c : Nat) : Bool := decide (97 ≤ c ∧ c ≤ 122) || decide (65 ≤ c ∧ c ≤ 90)
def digitN (c : Nat) : Bool := decide (48 ≤ c ∧ c ≤ 57)
def plainT (c : Nat) : Bool := decide (c = 45 ∨ c = 46 ∨ c = 95 ∨ c = 126)
def freeN (c : Nat) : Bool := letterN c || digitN c || plainT c
def markN (c : Nat) : Bool := decide (c = 33 ∨ c = 36 ∨ c = 38 ∨ c = 39 ∨ c = 40 ∨ c = 41 ∨ c = 42 ∨ c = 43 ∨ c = 44 ∨ c = 59 ∨ c = 61 ∨ c = 58 ∨ c = 64)
def keepN (set : Int) (c : Nat) : Bool := decide (1 ≤ set ∧ set ≤ 3) && (freeN c || markN c || (decide (c = 47) && decide (set ≠ 3)) || (decide (c = 63) && decide (set = 2)))
def keepZ (set c : Int) : Bool := decide (0 ≤ c) && keepN set c.toNat
def hexN (c : Nat) : Int := if 48 ≤ c ∧ c ≤ 57 then (c : Int) - 48 else if 97 ≤ c ∧ c ≤ 102 then (c : Int) - 87 else if 65 ≤ c ∧ c ≤ 70 then (c : Int) - 55 else -1
def digU (n : Nat) : UInt8 := UInt8.ofNat (if n < 10 then 48 + n else 55 + n)
def putB (c : UInt8) : List UInt8 := [37, digU (c.toNat / 16), digU (c.toNat % 16)]
def pctV (a b c : Nat) : Int := if a = 37 ∧ 0 ≤ hexN b ∧ 0 ≤ hexN c then hexN b * 16 + hexN c else -1
def pctHd : List UInt8 → Int
 | a :: b :: c :: _ => pctV a.toNat b.toNat c.toNat
 | _ => -1
theorem hexN_le (c : Nat) : -1 ≤ hexN c ∧ hexN c ≤ 15 := by
 unfold hexN
 split
 ·omega
 split
 ·omega
 split <;> omega
theorem pctV_le (a b c : Nat) : -1 ≤ pctV a b c ∧ pctV a b c ≤ 255 := by
 have h1 := hexN_le b
 have h2 := hexN_le c
 unfold pctV
 split <;> omega
def tokL {α : Type} (f g : UInt8 → List α) : List UInt8 → List α
 | a :: b :: c :: r => if 0 ≤ pctV a.toNat b.toNat c.toNat then f (UInt8.ofNat (pctV a.toNat b.toNat c.toNat).toNat) ++ tokL f g r else g a ++ tokL f g (b :: c :: r)
 | [a, b] => g a ++ g b
 | [a] => g a
 | [] => []
theorem tok_pct {α : Type} (f g : UInt8 → List α) (a b c : UInt8) (r : List UInt8) (h : 0 ≤ pctV a.toNat b.toNat c.toNat) :
  tokL f g (a :: b :: c :: r) = f (UInt8.ofNat (pctV a.toNat b.toNat c.toNat).toNat) ++ tokL f g r := by
 rw [tokL, if_pos h]
theorem tok_byte {α : Type} (f g : UInt8 → List α) (a : UInt8) (r : List UInt8) (h : pctHd (a :: r) < 0) : tokL f g (a :: r) = g a ++ tokL f g r := by
 match r, h with
 | [], _ => simp [tokL]
 | [b], _ => simp [tokL]
 | b :: c :: r, h =>
  have h' : ¬ 0 ≤ pctV a.toNat b.toNat c.toNat := by have h2 : pctV a.toNat b.toNat c.toNat < 0 := h; omega
  rw [tokL, if_neg h']
theorem hd_no (a : UInt8) (r : List UInt8) (h : a.toNat ≠ 37) : pctHd (a :: r) < 0 := by
 match r with
 | [] => simp [pctHd]
 | [b] => simp [pctHd]
 | b :: c :: r => simp [pctHd, pctV, h]
theorem tok_ind (P : List UInt8 → Prop) (h0 : P []) (h1 : ∀ a b c r, 0 ≤ pctV a.toNat b.toNat c.toNat → P r → P (a :: b :: c :: r)) (h2 : ∀ a r, pctHd (a :: r) < 0 → P r → P (a :: r)) : ∀ l, P l
 | [] => h0
 | [a] => h2 a [] (by simp [pctHd]) h0
 | [a, b] => h2 a [b] (by simp [pctHd]) (h2 b [] (by simp [pctHd]) h0)
 | a :: b :: c :: r =>
  if h : 0 ≤ pctV a.toNat b.toNat c.toNat then h1 a b c r h (tok_ind P h0 h1 h2 r)
  else h2 a (b :: c :: r) (by show pctV a.toNat b.toNat c.toNat < 0; omega) (tok_ind P h0 h1 h2 (b :: c :: r))
theorem put_all : ∀ n, n < 256 → pctV 37 (digU (n / 16)).toNat (digU (n % 16)).toNat = (n : Int) := by decide +kernel
theorem pctV_put (c : UInt8) : pctV (37 : UInt8).toNat (digU (c.toNat / 16)).toNat (digU (c.toNat % 16)).toNat = (c.toNat : Int) := put_all c.toNat c.toNat_lt
theorem tok_put {α : Type} (f g : UInt8 → List α) (c : UInt8) (r : List UInt8) : tokL f g (putB c ++ r) = f c ++ tokL f g r := by
 have h := pctV_put c
 show tokL f g (37 :: digU (c.toNat / 16) :: digU (c.toNat % 16) :: r) = _
 rw [tok_pct f g _ _ _ _ (by rw [h]; omega), h]
 simp
def freeB (c : UInt8) : List UInt8 := if freeN c.toNat then [c] else putB c
def keptB (set : Int) (c : UInt8) : List UInt8 := if keepN set c.toNat then [c] else putB c
def plL (set : Int) : List UInt8 → List UInt8 := tokL freeB (keptB set)
theorem keep37 (set : Int) : keepN set 37 = false := by
 simp [keepN, freeN, letterN, digitN, plainT, markN]
theorem keep_ne {set : Int} {c : Nat} (h : keepN set c = true) : c ≠ 37 := by
 intro e
 rw [e, keep37] at h
 cases h
theorem free_ne {c : Nat} (h : freeN c = true) : c ≠ 37 := by
 intro e
 subst e
 revert h
 decide
theorem keep_free {set : Int} {c : Nat} (hs : 1 ≤ set ∧ set ≤ 3) (h : freeN c = true) : keepN set c = true := by
 simp [keepN, hs, h]
theorem keep_out {set : Int} {c : Nat} (hs : ¬ (1 ≤ set ∧ set ≤ 3)) : keepN set c = false := by
 unfold keepN
 rw [decide_eq_false hs]
 rfl
theorem free_lt {c : Nat} (h : freeN c = true) : c < 128 := by
 simp [freeN, letterN, digitN, plainT] at h
 omega
theorem keep_lt {set : Int} {c : Nat} (h : keepN set c = true) : c < 128 := by
 simp [keepN, freeN, letterN, digitN, plainT, markN] at h
 omega
theorem tok_kept {α : Type} (f g : UInt8 → List α) (set : Int) (c : UInt8) (r : List UInt8) : tokL f g (keptB set c ++ r) = (if keepN set c.toNat then g c else f c) ++ tokL f g r := by
 unfold keptB
 split
 ·next h => exact tok_byte f g c r (hd_no c r (keep_ne h))
 exact tok_put f g c r
theorem tok_free {α : Type} (f g : UInt8 → List α) (c : UInt8) (r : List UInt8) : tokL f g (freeB c ++ r) = (if freeN c.toNat then g c else f c) ++ tokL f g r := by
 unfold freeB
 split
 ·next h => exact tok_byte f g c r (hd_no c r (free_ne h))
 exact tok_put f g c r
theorem kept_len (set : Int) (c : UInt8) : 1 ≤ (keptB set c).length ∧ (keptB set c).length ≤ 3 := by
 unfold keptB
 split <;> simp [putB]
theorem free_len (c : UInt8) : 1 ≤ (freeB c).length ∧ (freeB c).length ≤ 3 := by
 unfold freeB
 split <;> simp [putB]
theorem pl_pct (set : Int) (a b c : UInt8) (r : List UInt8) (h : 0 ≤ pctV a.toNat b.toNat c.toNat) : plL set (a :: b :: c :: r) = freeB (UInt8.ofNat (pctV a.toNat b.toNat c.toNat).toNat) ++ plL set r := tok_pct _ _ a b c r h
theorem pl_byte (set : Int) (a : UInt8) (r : List UInt8) (h : pctHd (a :: r) < 0) : plL set (a :: r) = keptB set a ++ plL set r := tok_byte _ _ a r h
theorem pl_pl (set : Int) (hs : 1 ≤ set ∧ set ≤ 3) (l : List UInt8) : plL set (plL set l) = plL set l := by
 induction l using tok_ind with
 | h0 => rfl
 | h1 a b c r h ih =>
  rw [pl_pct set a b c r h]
  generalize UInt8.ofNat (pctV a.toNat b.toNat c.toNat).toNat = d
  have e : plL set (freeB d ++ plL set r) = (if freeN d.toNat then keptB set d else freeB d) ++ plL set (plL set r) := tok_free _ _ d _
  rw [e, ih]
  congr 1
  split
  ·next h => unfold keptB freeB; rw [keep_free hs h, h]
  rfl
 | h2 a r h ih =>
  rw [pl_byte set a r h]
  have e : plL set (keptB set a ++ plL set r) = (if keepN set a.toNat then keptB set a else freeB a) ++ plL set (plL set r) := tok_kept _ _ set a _
  rw [e, ih]
  congr 1
  split
  ·rfl
  next h =>
  have hf : freeN a.toNat = false := by
   cases hx : freeN a.toNat with
   | false => rfl
   | true => exact absurd (keep_free hs hx) h
  unfold keptB freeB
  rw [hf]
  simp [h]
def pctAt (s : ByteArray) (k : Nat) : Int := pctHd (s.data.toList.drop k)
theorem drop_at (s : ByteArray) (k : Nat) (h : k < s.size) : s.data.toList.drop k = s[k] :: s.data.toList.drop (k + 1) := by
 have hk : k < s.data.toList.length := by simpa using h
 rw [List.drop_eq_getElem_cons hk]
 rfl
theorem pctAt_in (s : ByteArray) (k : Nat) (h : k + 2 < s.size) : pctAt s k = pctV s[k].toNat s[k + 1].toNat s[k + 2].toNat := by
 unfold pctAt
 rw [drop_at s k (by omega), drop_at s (k + 1) (by omega), drop_at s (k + 2) (by omega)]
 rfl
theorem pctAt_out (s : ByteArray) (k : Nat) (h : s.size ≤ k + 2) : pctAt s k = -1 := by
 unfold pctAt
 have hl : (s.data.toList.drop k).length ≤ 2 := by
  rw [List.length_drop]
  have : s.data.toList.length = s.size := by simp
  omega
 match s.data.toList.drop k, hl with
 | [], _ => rfl
 | [_], _ => rfl
 | [_, _], _ => rfl
theorem pctAt_le (s : ByteArray) (k : Nat) : -1 ≤ pctAt s k ∧ pctAt s k ≤ 255 := by
 by_cases h : k + 2 < s.size
 ·rw [pctAt_in s k h]; exact pctV_le _ _ _
 rw [pctAt_out s k (by omega)]; omega
theorem pctAt_lt {s : ByteArray} {k : Nat} (h : 0 ≤ pctAt s k) : k + 2 < s.size := by
 rcases Nat.lt_or_ge (k + 2) s.size with h1 | h1
 ·exact h1
 rw [pctAt_out s k h1] at h; omega
theorem tok_hit {α : Type} (f g : UInt8 → List α) (s : ByteArray) (k : Nat) (h : 0 ≤ pctAt s k) : tokL f g (s.data.toList.drop k) = f (UInt8.ofNat (pctAt s k).toNat) ++ tokL f g (s.data.toList.drop (k + 3)) := by
 have hk := pctAt_lt h
 rw [pctAt_in s k hk] at h ⊢
 rw [drop_at s k (by omega), drop_at s (k + 1) (by omega), drop_at s (k + 2) (by omega)]
 exact tok_pct f g _ _ _ _ h
theorem tok_miss {α : Type} (f g : UInt8 → List α) (s : ByteArray) (k : Nat) (hk : k < s.size) (h : pctAt s k < 0) : tokL f g (s.data.toList.drop k) = g s[k] ++ tokL f g (s.data.toList.drop (k + 1)) := by
 unfold pctAt at h
 rw [drop_at s k hk] at h ⊢
 exact tok_byte f g _ _ h
theorem tok_end {α : Type} (f g : UInt8 → List α) (s : ByteArray) (k : Nat) (hk : s.size ≤ k) : tokL f g (s.data.toList.drop k) = [] := by
 rw [List.drop_of_length_le (by simpa using hk)]
 rfl
end Go.Proofs.YtjdnemjcjodboaaDoor
