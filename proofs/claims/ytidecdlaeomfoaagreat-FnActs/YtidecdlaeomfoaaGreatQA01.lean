/- Base, LowerWalk, AsciiWalk, Shelf, Bits, RuneOk, PutWalk. -/
import Derived.WalkKit
import Derived.WalkLawsBesides
import Derived.WalkSpells
import Derived.Laws.IdiomStrings
import Derived.Test.YtidecdlaeomfoaaGreatRows
import Derived.Shelf.Lay
import Derived.Lib.Strings
import Derived.Lib.Bytealg
import Derived.Lib.Join
import Derived.Lib.LastIndexByte
import Derived.Shelf.Strings.LastIndex
import Derived.Shelf.Strings.Prefix
import Derived.Shelf.Strings.Cut
import Derived.Deep.DeepCutAuto
import Derived.Handy
import Derived.Shelf.LaySoft
import Derived.Test.YtidecdlaeomfoaaGreatProg
import Derived.Laws.BitsAllLaws
import Derived.Lib.RuneBytes
import Derived.BigQuiet
import Derived.Deep.QuietTactic
set_option maxHeartbeats 1000000
namespace Go.Proofs.YtidecdlaeomfoaaGreat
open Go.RowKit
abbrev CB (f : FuncId) (a : Array Value) (W : World) (v : Value) : Prop := Calls Tryz.prog f a W fun e w' => e = .returned v ∧ Below W.heap.size W w'
abbrev CS (f : FuncId) (a : Array Value) (W : World) (v : Value) : Prop := Calls Tryz.prog f a W fun e w' => e = .returned v ∧ W = w'
def bcells (l : List UInt8) : List Value := l.map fun b => Value.int .u8 (b.toNat : Int)
theorem bcells_snoc (l : List UInt8) (c : UInt8) : bcells (l ++ [c]) = bcells l ++ [Value.int .u8 (c.toNat : Int)] := by simp [bcells]
theorem bcells_append (l m : List UInt8) : bcells (l ++ m) = bcells l ++ bcells m := by simp [bcells]
theorem bcells_length (l : List UInt8) : (bcells l).length = l.length := by simp [bcells]
theorem bcells_oneCell (l : List UInt8) : ∀ u ∈ bcells l, u.oneCell' = true := by
 intro u hu
 obtain ⟨_, _, rfl⟩ := List.mem_map.1 hu
 rfl
theorem run_string_own {P : Program} (w : World) (src dst e : TypeId) (hs : P.underlying src = some (.slice e)) (he : P.underlying e = some (.int .u8)) (hd : P.underlying dst = some .string)
  {base : Nat} {v : Value} {n : Nat} {l : List UInt8} (hown : w.ownsRow base e 1 v n (bcells l)) :
  (convert src dst v).run P w = .ok (.string ⟨l.toArray⟩) w := by
 have hn : l.length = n := by have := hown.1; simpa [bcells_length] using this
 rcases hown.2 with ⟨rfl, h0⟩ | ⟨g, cap, cur, rfl, hb, hg, hnc, hcm, hcs, htake⟩
 ·rw [h0] at hn
  have : l = [] := List.eq_nil_of_length_eq_zero hn
  subst this
  rw [run_convert_bytes_string w src dst e _ _ _ hs he hd]
  simp [Conv.bytesToString]
  rfl
 subst hn
 refine run_convert_bytes_back w src dst e ⟨g, 0, none⟩ cap l hs he hd fun j hj => ?_
 exact hown.cells (g := g) rfl j _ (by simp [bcells, hj])
def bytesAt (w : World) (B : Nat) (l : List UInt8) : Prop :=
 ∀ j (hj : j < l.length), w.cell? ⟨B, j, none⟩ = some (.int .u8 (l[j].toNat : Int)) ∧ w.frozen? ⟨B, j, none⟩ = false
theorem bytesAt.drew {w : World} {B : Nat} {l : List UInt8} (h : bytesAt w B l) : bytesAt w.drew B l := h
theorem bytesAt_made (w : World) (s : ByteArray) (cap : Nat) (e : TypeId) :
  bytesAt (w.alloc (.cells (bytesRow s cap) e ((bytesRow s cap).size, (bytesRow s cap).size + 1))) w.heap.size s.data.toList := by
 intro j hj
 have hj' : j < s.data.size := by simpa using hj
 constructor
 ·rw [World.cell?_alloc_mark]
  unfold bytesRow
  rw [Array.getElem?_append_left (by simpa using hj')]
  rw [Array.getElem?_map, Array.getElem?_eq_getElem hj']
  simp
 have hb : (w.alloc (.cells (bytesRow s cap) e ((bytesRow s cap).size, (bytesRow s cap).size + 1))).heap[w.heap.size]? = some (.cells (bytesRow s cap) e ((bytesRow s cap).size, (bytesRow s cap).size + 1)) := heap_alloc_new w _
 have hsz : j < (bytesRow s cap).size := by
  have h0 : s.size = s.data.size := rfl
  unfold bytesRow
  simp only [Array.size_append, Array.size_map, Array.size_replicate]
  omega
 simp only [World.frozen?, hb]
 simp
 omega
theorem bytesAt.set {w : World} {B : Nat} {l : List UInt8} (h : bytesAt w B l) (k : Nat) (hk : k < l.length) (c : UInt8) {x : Int} (hx : x = (c.toNat : Int)) :
  bytesAt (w.setCell ⟨B, k, none⟩ (.int .u8 x)) B (l.set k c) := by
 subst hx
 intro j hj
 have hj' : j < l.length := by simpa using hj
 refine ⟨?_, by rw [World.frozen?_setCell]; exact (h j hj').2⟩
 by_cases e : k = j
 ·subst e
  rw [World.cell?_setCell_same' _ _ _ (by rw [(h k hk).1]; rfl)]
  simp
 rw [World.cell?_setCell_other _ _ _ _ (fun h => e (by injection h))]
 rw [List.getElem_set_ne e]
 exact (h j hj').1
theorem run_string_at {P : Program} (w : World) (src dst e : TypeId) (hs : P.underlying src = some (.slice e)) (he : P.underlying e = some (.int .u8)) (hd : P.underlying dst = some .string)
  {B n cap : Nat} {l : List UInt8} (hn : l.length = n) (h : bytesAt w B l) :
  (convert src dst (.slice (some ⟨B, 0, none⟩) n cap)).run P w = .ok (.string ⟨l.toArray⟩) w := by
 subst hn
 refine run_convert_bytes_back w src dst e ⟨B, 0, none⟩ cap l hs he hd fun j hj => ?_
 have e : (⟨B, 0, none⟩ : Addr).add j = ⟨B, j, none⟩ := by rw [Addr.add_lit]; simp
 rw [e]
 exact (h j hj).1
theorem wpList_append_newG {P : Program} (wr : World) {ops : Array Oper} {rest : List Oper} {o : Oper} {a : Act} {Q : Exit → Act → World → Prop}
  (hg : o.guard = none) (s x : Operand) (t : TypeId) (hop : o.op = .call { callee := .builtin .append, args := #[s, x], argTypes := #[t, t] })
  (B : Nat) (e : TypeId) (z : Value) (bytes : Nat) (ht : P.underlying t = some (.slice e)) (hinfo : (P.info? e).map (fun i => (i.zero, i.size, i.bytes)) = some (some z, 1, bytes)) (hz : z.cells.size = 1)
  (v : Value) (n : Nat) (xs : List Value) (hs : a.eval s = v) (hown : wr.ownsRow B e 1 v n xs)
  (cs : Array Value) (m : Nat) (hm : cs.size = m) (hx : a.eval x = .slice (some ⟨wr.heap.size, 0, none⟩) m m) (h1 : ∀ u ∈ cs.toList, u.oneCell' = true)
  (hroom : (n + m) * bytes ≤ 140737488355328) (hroom' : n + m ≤ maxLen) (hB : B ≤ wr.heap.size)
  (hK : ∀ v' w1, w1.ownsRow B e 1 v' (n + m) (xs ++ cs.toList) → Below B wr w1 → (∀ k, k < wr.heap.size → some k ≠ v.ownBlock → w1.heap[k]? = wr.heap[k]?) → wpList P ops Q rest (a.put o.dst v') w1) :
  wpList P ops Q (o :: rest) a (wr.alloc (.cells cs e)) := by
 obtain ⟨i0, hi, hz0, hz1, hz2⟩ := info_parts hinfo
 refine wpList_append_own (wr.alloc (.cells cs e)) hg s x t hop B e i0 z 1 bytes ht hi hz0 hz1 hz2 hz (by decide) v n xs hs (hown.alloc _) ⟨wr.heap.size, 0, none⟩ m m cs.toList hx (by simp [hm]) ?_ h1 hroom' hroom (by simp; omega) ?_
 ·intro j u hj
  rw [Addr.add_lit, Nat.zero_add]
  rw [World.cell?_alloc_at _ _ _ _ rfl]
  simpa using hj
 intro v' w1 h1 h2 _
 exact hK v' w1 h1 (((Below.refl B wr).alloc hB _).grown h2 (by simp; omega) (fun k hk => (hown.lt k hk).1))
  (fun k hk hne => (h2.block k (by simp; omega) hne).trans (Below.heap_alloc wr _ k hk))
theorem wpList_append_new {P : Program} (wr : World) {ops : Array Oper} {rest : List Oper} {o : Oper} {a : Act} {Q : Exit → Act → World → Prop}
  (hg : o.guard = none) (s x : Operand) (t : TypeId) (hop : o.op = .call { callee := .builtin .append, args := #[s, x], argTypes := #[t, t] })
  (B : Nat) (e : TypeId) (z : Value) (bytes : Nat) (ht : P.underlying t = some (.slice e)) (hinfo : (P.info? e).map (fun i => (i.zero, i.size, i.bytes)) = some (some z, 1, bytes)) (hz : z.cells.size = 1)
  (v : Value) (n : Nat) (xs : List Value) (hs : a.eval s = v) (hown : wr.ownsRow B e 1 v n xs)
  (cs : Array Value) (m : Nat) (hm : cs.size = m) (hx : a.eval x = .slice (some ⟨wr.heap.size, 0, none⟩) m m) (h1 : ∀ u ∈ cs.toList, u.oneCell' = true)
  (hroom : (n + m) * bytes ≤ 140737488355328) (hroom' : n + m ≤ maxLen) (hB : B ≤ wr.heap.size)
  (hK : ∀ v' w1, w1.ownsRow B e 1 v' (n + m) (xs ++ cs.toList) → Below B wr w1 → wpList P ops Q rest (a.put o.dst v') w1) :
  wpList P ops Q (o :: rest) a (wr.alloc (.cells cs e)) :=
 wpList_append_newG wr hg s x t hop B e z bytes ht hinfo hz v n xs hs hown cs m hm hx h1 hroom hroom' hB (fun v' w1 a b _ => hK v' w1 a b)
theorem own_below {w w' : World} {B : Nat} {e : TypeId} {size : Nat} {v : Value} {n : Nat} {xs : List Value} (h : w.ownsRow B e size v n xs) (hb : Below w.heap.size w w') : w'.ownsRow B e size v n xs :=
 h.kept (row := none) ⟨hb.os, hb.tape, hb.output, hb.size, fun k hk _ => hb.block k hk⟩ (by cases hv : v.ownBlock <;> simp)
theorem grow_below {w w1 w2 : World} {row : Option Nat} (h : w.grownBy w1 row) (hb : Below w1.heap.size w1 w2) : w.grownBy w2 row :=
 ⟨hb.os.trans h.os, hb.tape.trans h.tape, hb.output.trans h.output, Nat.le_trans h.size hb.size, fun k hk hne => (hb.block k (Nat.lt_of_lt_of_le hk h.size)).trans (h.block k hk hne)⟩
theorem grow_trans {w w1 w2 : World} {row : Option Nat} (h : w.grownBy w1 row) (hb : w1.grownBy w2 row) : w.grownBy w2 row :=
 ⟨hb.os.trans h.os, hb.tape.trans h.tape, hb.output.trans h.output, Nat.le_trans h.size hb.size, fun k hk hne => (hb.block k (Nat.lt_of_lt_of_le hk h.size) hne).trans (h.block k hk hne)⟩
theorem own_shape {w : World} {B : Nat} {e : TypeId} {v : Value} {n : Nat} {xs : List Value} (h : w.ownsRow B e 1 v n xs) :
  (n = 0 ∧ xs = [] ∧ ∃ ao cap, v = .slice ao 0 cap) ∨ (0 < n ∧ ∃ g cap, v = .slice (some ⟨g, 0, none⟩) n cap) := by
 have hl := h.1
 rcases h.2 with ⟨rfl, rfl⟩ | ⟨g, cap, cur, rfl, _⟩
 ·exact .inl ⟨rfl, List.eq_nil_of_length_eq_zero (by simpa using hl), none, 0, rfl⟩
 by_cases h0 : n = 0
 ·subst h0
  exact .inl ⟨rfl, List.eq_nil_of_length_eq_zero (by simpa using hl), _, cap, rfl⟩
 exact .inr ⟨by omega, g, cap, rfl⟩
def scells (l : List ByteArray) : List Value := l.map Value.string
theorem scells_snoc (l : List ByteArray) (s : ByteArray) : scells (l ++ [s]) = scells l ++ [Value.string s] := by simp [scells]
theorem own_some {w : World} {B : Nat} {e : TypeId} {g n cap : Nat} {xs : List Value} (h : w.ownsRow B e 1 (.slice (some ⟨g, 0, none⟩) n cap) n xs) (k : Nat) (hk : k < n) :
  ∃ u, w.cell? ⟨g, k, none⟩ = some u := by
 have hl : xs.length = n := by simpa using h.1
 rw [h.cellAt k (by omega)]
 exact ⟨xs[k], by simp [show k < xs.length by omega]⟩
theorem scell_at {w : World} {B : Nat} {e : TypeId} {g n cap : Nat} {fs : List ByteArray} (h : w.ownsRow B e 1 (.slice (some ⟨g, 0, none⟩) n cap) n (scells fs)) (k : Nat) (hk : k < n) :
  w.cell? ⟨g, k, none⟩ = some (.string (fs.getD k ByteArray.empty)) := by
 have hl : fs.length = n := by have := h.1; simpa [scells] using this
 rw [h.cellAt k (by omega)]
 simp [scells, List.getD, show k < fs.length by omega]
def icells (l : List Int) : List Value := l.map (Value.int .i64)
theorem icells_snoc (l : List Int) (x : Int) : icells (l ++ [x]) = icells l ++ [Value.int .i64 x] := by simp [icells]
theorem icell_at {w : World} {B : Nat} {e : TypeId} {g n cap : Nat} {zs : List Int} (h : w.ownsRow B e 1 (.slice (some ⟨g, 0, none⟩) n cap) n (icells zs)) (k : Nat) (hk : k < n) :
  w.cell? ⟨g, k, none⟩ = some (.int .i64 (zs.getD k 0)) := by
 have hl : zs.length = n := by have := h.1; simpa [icells] using this
 rw [h.cellAt k (by omega)]
 simp [icells, List.getD, show k < zs.length by omega]
theorem ztake_snoc (l : List Int) (k : Nat) (h : k < l.length) : l.take (k + 1) = l.take k ++ [l.getD k 0] := by
 rw [List.take_succ_eq_append_getElem h]
 simp [List.getD, h]
theorem ret_bool {a b : Bool} (h : a = b) : Ending.returned (.bool a) = .returned (.bool b) := by rw [h]
theorem ret_int {k : IntKind} {a b : Int} (h : a = b) : Ending.returned (.int k a) = .returned (.int k b) := by rw [h]
theorem ret_str {a b : List UInt8} (h : a = b) : Ending.returned (.string ⟨a.toArray⟩) = .returned (.string ⟨b.toArray⟩) := by rw [h]
theorem take_snoc (s : ByteArray) (k : Nat) (h : k < s.size) : s.data.toList.take (k + 1) = s.data.toList.take k ++ [s[k]] := by
 rw [List.take_succ_eq_append_getElem (by simpa using h)]; rfl
theorem take_all (s : ByteArray) (k : Nat) (h : s.size ≤ k) : s.data.toList.take k = s.data.toList := List.take_of_length_le (by simpa using h)
theorem specL1In_yes (x a b : Int) (w : World) (h1 : a ≤ x) (h2 : x ≤ b) :
  Calls Tryz.prog 18 #[.int .i64 x, .int .i64 a, .int .i64 b] w fun e w' => e = .returned (.bool true) ∧ w = w' := by
 go_enter Tryz.func18, Tryz.ntmps18
 go_wp2
 go_ret
 exact ⟨rfl, rfl⟩
theorem specL1In_no (x a b : Int) (w : World) (h : x < a ∨ b < x) :
  Calls Tryz.prog 18 #[.int .i64 x, .int .i64 a, .int .i64 b] w fun e w' => e = .returned (.bool false) ∧ w = w' := by
 rcases Int.lt_or_le x a with h1 | h1
 ·clear h
  go_enter Tryz.func18, Tryz.ntmps18
  go_wp2
  go_ret
  exact ⟨rfl, rfl⟩
 have h2 : b < x := by omega
 clear h
 go_enter Tryz.func18, Tryz.ntmps18
 go_wp2
 go_ret
 exact ⟨ret_bool (by simp; omega), rfl⟩
def lowerC (c : UInt8) : UInt8 := if 65 ≤ c.toNat ∧ c.toNat ≤ 90 then c + 32 else c
def lowerL (l : List UInt8) : List UInt8 := l.map lowerC
theorem Tryz.info5 : (Tryz.prog.info? 5).map (fun i => (i.zero, i.size, i.bytes)) = some (some (.int .u8 0), 1, 1) := by kernel_rfl
theorem lowerC_toNat (c : UInt8) : ((lowerC c).toNat : Int) = if 65 ≤ (c.toNat : Int) ∧ (c.toNat : Int) ≤ 90 then (c.toNat : Int) + 32 else c.toNat := by
 unfold lowerC
 split
 ·rw [if_pos (by omega)]
  have : (c + 32).toNat = (c.toNat + 32) % 256 := by rw [UInt8.toNat_add]; rfl
  omega
 rw [if_neg (by omega)]
theorem lower_step (s : ByteArray) (k : Nat) (h : k < s.size) {w1 : World} {B : Nat} {v : Value} {x : Int}
  (hown : w1.ownsRow B 5 1 v (k + 1) (bcells (lowerL (s.data.toList.take k)) ++ [.int .u8 x]))
  (hx : x = if 65 ≤ (s[k].toNat : Int) ∧ (s[k].toNat : Int) ≤ 90 then (s[k].toNat : Int) + 32 else s[k].toNat) :
  w1.ownsRow B 5 1 v (k + 1) (bcells (lowerL (s.data.toList.take (k + 1)))) := by
 have e : bcells (lowerL (s.data.toList.take (k + 1))) = bcells (lowerL (s.data.toList.take k)) ++ [.int .u8 x] := by
  rw [take_snoc s k h, hx, ← lowerC_toNat]
  simp [lowerL, bcells]
 rw [e]; exact hown
theorem specLower (s : ByteArray) (w : World) (hs : s.size ≤ 1048576) :
  Calls Tryz.prog 44 #[.string s] w fun e w' => e = .returned (.string ⟨(lowerL s.data.toList).toArray⟩) ∧ Below w.heap.size w w' := by
 obtain ⟨i0, hi, hz0, hz1, hz2⟩ := info_parts Tryz.info5
 go_enter Tryz.func44, Tryz.ntmps44
 go_wp2
 go_loopw [3, 4] (fun v i wr => ∃ k : Nat, k ≤ s.size ∧ i = .int .i64 k ∧ wr.ownsRow w.heap.size 5 1 v k (bcells (lowerL (s.data.toList.take k))) ∧ Below w.heap.size w wr)
  (fun _ i _ => s.size - (intOf i).toNat)
 case atStart => exact ⟨0, Nat.zero_le _, rfl, World.ownsRow_lit w #[] 0 (Nat.le_refl _) (by decide) rfl, (Below.refl _ _).alloc (Nat.le_refl _) _⟩
 obtain ⟨k, hk, rfl, hown, hbel⟩ := hrel
 by_cases hlt : k < s.size
 ·have hsz := hbel.size
  by_cases hc : 65 ≤ (s[k].toNat : Int) ∧ (s[k].toNat : Int) ≤ 90
  ·obtain ⟨hc1, hc2⟩ := hc
   go_wp2_with (first
    | (at_builtin; refine wpList_append_own _ rfl _ _ 22 rfl w.heap.size 5 i0 (.int .u8 0) 1 1 Tryz.underlying22 hi hz0 hz1 hz2 rfl (by decide) _ _ _ rfl (hown.alloc _) ⟨wr.heap.size, 0, none⟩ 1 1 [.int .u8 ((s[k].toNat : Int) + 32)] rfl rfl ?c1A ?c2A ?c3A ?c4A ?c5A ?_)
    | (go_at_call 18; refine (specL1In_yes (s[k].toNat : Int) 65 90 _ hc1 hc2).mono ?_; rintro e w' ⟨rfl, rfl⟩))
   case c1A => exact cell_one_new _ _ _
   case c2A => intro u hu; simp at hu; subst hu; rfl
   case c3A => unfold maxLen; omega
   case c4A => omega
   case c5A => simp; omega
   intro v' w1 hown' hgrow _
   have R := lower_step s k hlt hown' (by rw [if_pos ⟨hc1, hc2⟩])
   have B1 : Below w.heap.size w w1 := (hbel.alloc hsz _).grown hgrow (by simp; omega) (fun k hk => (hown.lt k hk).1)
   clear hown' hgrow hown hbel
   go_wp2
   go_roundw
   case rel => exact ⟨k + 1, by omega, by go_num, R, B1⟩
   case measure => simp [intOf]; omega
  have hc' : (s[k].toNat : Int) < 65 ∨ 90 < (s[k].toNat : Int) := by omega
  have HC : Hid ((s[k].toNat : Int) < 65 ∨ 90 < (s[k].toNat : Int)) := hc'
  clear hc hc'
  have hb : (s[k].toNat : Int) ≤ 255 := by have := s[k].toNat_lt; omega
  go_wp2_with (first
   | (at_builtin; refine wpList_append_own _ rfl _ _ 22 rfl w.heap.size 5 i0 (.int .u8 0) 1 1 Tryz.underlying22 hi hz0 hz1 hz2 rfl (by decide) _ _ _ rfl (hown.alloc _) ⟨wr.heap.size, 0, none⟩ 1 1 [.int .u8 ((s[k].toNat : Int))] rfl rfl ?c1B ?c2B ?c3B ?c4B ?c5B ?_)
   | (go_at_call 18; refine (specL1In_no (s[k].toNat : Int) 65 90 _ HC.out).mono ?_; rintro e w' ⟨rfl, rfl⟩))
  case c1B => exact cell_one_new _ _ _
  case c2B => intro u hu; simp at hu; subst hu; rfl
  case c3B => unfold maxLen; omega
  case c4B => omega
  case c5B => simp; omega
  intro v' w1 hown' hgrow _
  have R := lower_step s k hlt hown' (by rw [if_neg (by rcases HC.out with h | h <;> omega)])
  have B1 : Below w.heap.size w w1 := (hbel.alloc hsz _).grown hgrow (by simp; omega) (fun k hk => (hown.lt k hk).1)
  clear hown' hgrow hown hbel
  go_wp2
  go_roundw
  case rel => exact ⟨k + 1, by omega, by go_num, R, B1⟩
  case measure => simp [intOf]; omega
 have HO : (convert 22 9 u3).run Tryz.prog wr = .ok (.string ⟨(lowerL (s.data.toList.take k)).toArray⟩) wr := run_string_own wr 22 9 5 Tryz.underlying22 Tryz.underlying5 Tryz.underlying9 hown
 go_wp2
 go_ret
 exact ⟨ret_str (by rw [take_all s k (by omega)]), hbel⟩
def asciiB (l : List UInt8) : Bool := l.all fun c => decide (c.toNat < 128)
theorem asciiB_yes (s : ByteArray) (h : ∀ j, (hj : j < s.size) → s[j].toNat < 128) : asciiB s.data.toList = true := by
 unfold asciiB
 rw [List.all_eq_true]
 intro c hc
 obtain ⟨j, hj, rfl⟩ := List.getElem_of_mem hc
 exact decide_eq_true (h j (by simpa using hj))
theorem asciiB_no (s : ByteArray) (k : Nat) (hk : k < s.size) (h : 128 ≤ s[k].toNat) : asciiB s.data.toList = false := by
 unfold asciiB
 rw [List.all_eq_false]
 refine ⟨s[k], ?_, by simpa using h⟩
 exact List.mem_iff_getElem.2 ⟨k, by simpa using hk, rfl⟩
theorem specAscii (s : ByteArray) (w : World) (hs : s.size ≤ maxLen) :
  Calls Tryz.prog 86 #[.string s] w fun e w' => e = .returned (.bool (asciiB s.data.toList)) ∧ w = w' := by
 unfold maxLen at hs
 go_enter Tryz.func86, Tryz.ntmps86
 go_wp2
 go_loop [3] (fun i => ∃ k : Nat, k ≤ s.size ∧ i = .int .i64 k ∧ ∀ j, (hj : j < s.size) → j < k → s[j].toNat < 128) (fun i => s.size - (intOf i).toNat)
 case atStart => exact ⟨0, Nat.zero_le _, rfl, fun j _ h => by omega⟩
 obtain ⟨k, hk, rfl, hall⟩ := hrel
 have HA : Hid (∀ j, (hj : j < s.size) → j < k → s[j].toNat < 128) := hall
 clear hall
 by_cases hlt : k < s.size
 ·by_cases hb : s[k].toNat < 128
  ·have hb' : (s[k].toNat : Int) ≤ 127 := by omega
   go_wp2
   go_round
   case rel =>
    refine ⟨k + 1, by omega, by go_num, fun j hj h => ?_⟩
    by_cases e : j = k
    ·subst e; omega
    exact HA.out j hj (by omega)
   case measure => simp [intOf]; omega
  have hb' : 127 < (s[k].toNat : Int) := by omega
  go_wp2
  go_ret
  exact ⟨ret_bool (asciiB_no s k hlt (by omega)).symm, rfl⟩
 go_wp2
 go_ret
 exact ⟨ret_bool (asciiB_yes s fun j hj => HA.out j hj (by omega)).symm, rfl⟩
end Go.Proofs.YtidecdlaeomfoaaGreat
namespace Go.Proofs
open Go.Shelf
shelf_tried
end Go.Proofs
namespace Go.Proofs.YtidecdlaeomfoaaGreat
theorem i64_wrap_small (n : Int) (h0 : 0 ≤ n) (h1 : n < 9223372036854775808) : IntKind.i64.wrap n = n := by
 simp [IntKind.wrap, IntKind.bits, IntKind.signed]; omega
theorem i64_and_nat (a b : Nat) (ha : a < 9223372036854775808) (hb : b < 9223372036854775808) : bits .and .i64 (a : Int) (b : Int) = ((a &&& b : Nat) : Int) := by
 have hx : a &&& b < 2 ^ 63 := Nat.and_lt_two_pow _ (by omega)
 have h1 : (BitVec.ofInt 64 (a : Int)).toNat = a := by
  rw [BitVec.ofInt_natCast, BitVec.toNat_ofNat]; exact Nat.mod_eq_of_lt (by omega)
 have h2 : (BitVec.ofInt 64 (b : Int)).toNat = b := by
  rw [BitVec.ofInt_natCast, BitVec.toNat_ofNat]; exact Nat.mod_eq_of_lt (by omega)
 show IntKind.i64.wrap ((BitVec.ofInt 64 (a : Int) &&& BitVec.ofInt 64 (b : Int)).toNat : Int) = _
 rw [BitVec.toNat_and, h1, h2, i64_wrap_small _ (by omega) (by omega)]
theorem i64_or_nat (a b : Nat) (ha : a < 9223372036854775808) (hb : b < 9223372036854775808) : bits .or .i64 (a : Int) (b : Int) = ((a ||| b : Nat) : Int) := by
 have hx : a ||| b < 2 ^ 63 := Nat.or_lt_two_pow (by omega) (by omega)
 have h1 : (BitVec.ofInt 64 (a : Int)).toNat = a := by
  rw [BitVec.ofInt_natCast, BitVec.toNat_ofNat]; exact Nat.mod_eq_of_lt (by omega)
 have h2 : (BitVec.ofInt 64 (b : Int)).toNat = b := by
  rw [BitVec.ofInt_natCast, BitVec.toNat_ofNat]; exact Nat.mod_eq_of_lt (by omega)
 show IntKind.i64.wrap ((BitVec.ofInt 64 (a : Int) ||| BitVec.ofInt 64 (b : Int)).toNat : Int) = _
 rw [BitVec.toNat_or, h1, h2, i64_wrap_small _ (by omega) (by omega)]
theorem i64_low (i : Nat) (m : Nat) (hm : m = 2 ^ i - 1) (x : Int) (h0 : 0 ≤ x) (h1 : x < 9223372036854775808) (hi : m < 9223372036854775808) : bits .and .i64 x (m : Int) = x % ((2 ^ i : Nat) : Int) := by
 obtain ⟨a, rfl⟩ := Int.eq_ofNat_of_zero_le h0
 rw [i64_and_nat a m (by omega) hi, hm, Nat.and_two_pow_sub_one_eq_mod]
 omega
theorem i64_and63 (x : Int) (h0 : 0 ≤ x) (h1 : x < 9223372036854775808) : bits .and .i64 x 63 = x % 64 := i64_low 6 63 rfl x h0 h1 (by omega)
theorem i64_and31 (x : Int) (h0 : 0 ≤ x) (h1 : x < 9223372036854775808) : bits .and .i64 x 31 = x % 32 := i64_low 5 31 rfl x h0 h1 (by omega)
theorem i64_and15 (x : Int) (h0 : 0 ≤ x) (h1 : x < 9223372036854775808) : bits .and .i64 x 15 = x % 16 := i64_low 4 15 rfl x h0 h1 (by omega)
theorem i64_and7 (x : Int) (h0 : 0 ≤ x) (h1 : x < 9223372036854775808) : bits .and .i64 x 7 = x % 8 := i64_low 3 7 rfl x h0 h1 (by omega)
theorem i64_join (i : Nat) (x y : Int) (hx0 : 0 ≤ x) (hx1 : x < 9223372036854775808) (hx : x.toNat % 2 ^ i = 0) (hy0 : 0 ≤ y) (hy1 : y < 9223372036854775808) (hy : y.toNat < 2 ^ i) : bits .or .i64 x y = x + y := by
 obtain ⟨a, rfl⟩ := Int.eq_ofNat_of_zero_le hx0
 obtain ⟨b, rfl⟩ := Int.eq_ofNat_of_zero_le hy0
 rw [i64_or_nat a b (by omega) (by omega), nat_join i a b (by simpa using hx) (by simpa using hy)]
 omega
end Go.Proofs.YtidecdlaeomfoaaGreat
namespace Go.Proofs.YtidecdlaeomfoaaGreat
open Go.RowKit
def runeOk (r : Int) : Prop := 0 ≤ r ∧ r ≤ 1114111 ∧ (r < 55296 ∨ 57343 < r)
theorem specL1IsRune_yes (r : Int) (w : World) (h : runeOk r) :
  Calls Tryz.prog 96 #[.int .i64 r] w fun e w' => e = .returned (.bool true) ∧ w = w' := by
 obtain ⟨h0, h1, h2⟩ := h
 have H2 : Hid (r < 55296 ∨ 57343 < r) := h2
 clear h2
 go_enter Tryz.func96, Tryz.ntmps96
 go_wp2_with fail
 refine (specL1In_yes r 0 1114111 _ h0 h1).mono ?_
 rintro e w' ⟨rfl, rfl⟩
 go_wp2_with fail
 refine (specL1In_no r 55296 57343 _ H2.out).mono ?_
 rintro e w' ⟨rfl, rfl⟩
 go_wp2
 go_ret
 exact ⟨rfl, rfl⟩
theorem specL1IsRune_no (r : Int) (w : World) (h : ¬ runeOk r) :
  Calls Tryz.prog 96 #[.int .i64 r] w fun e w' => e = .returned (.bool false) ∧ w = w' := by
 unfold runeOk at h
 by_cases a : 0 ≤ r ∧ r ≤ 1114111
 ·obtain ⟨h0, h1⟩ := a
  have h2 : 55296 ≤ r ∧ r ≤ 57343 := by omega
  clear h
  go_enter Tryz.func96, Tryz.ntmps96
  go_wp2_with fail
  refine (specL1In_yes r 0 1114111 _ h0 h1).mono ?_
  rintro e w' ⟨rfl, rfl⟩
  go_wp2_with fail
  refine (specL1In_yes r 55296 57343 _ h2.1 h2.2).mono ?_
  rintro e w' ⟨rfl, rfl⟩
  go_wp2
  go_ret
  exact ⟨rfl, rfl⟩
 have H : Hid (r < 0 ∨ 1114111 < r) := by show _ ∨ _; omega
 clear h a
 go_enter Tryz.func96, Tryz.ntmps96
 go_wp2_with fail
 refine (specL1In_no r 0 1114111 _ H.out).mono ?_
 rintro e w' ⟨rfl, rfl⟩
 go_wp2
 go_ret
 exact ⟨rfl, rfl⟩

end Go.Proofs.YtidecdlaeomfoaaGreat
