/- Rows of Leases in memory, wherever they lie; such that a call owns. -/
import Derived.Test.YtcjblhiihgdljaaGreatRows
import Derived.Test.YtcjblhiihgdljaaGreatRowStr
import Derived.Maps.AppendAt
namespace Go.Proofs.YtcjblhiihgdljaaGreat
open Go.RowKit
set_option linter.unusedVariables false

structure LsV where
  k : ByteArray
  s : ByteArray
  p : Int
  u : Int
def lsv0 : LsV := ⟨ByteArray.empty, ByteArray.empty, 0, 0⟩
/-- The cells of one. -/
def lsvs (x : LsV) : List Value := [.string x.k, .string x.s, .int .i64 x.p, .int .i64 x.u]
/-- The cells of the one at the place o of the block g. -/
def LsAt (w : World) (g o : Nat) (x : LsV) : Prop := w.cell? ⟨g, o, none⟩ = some (.string x.k) ∧ w.cell? ⟨g, o + 1, none⟩ = some (.string x.s) ∧ w.cell? ⟨g, o + 2, none⟩ = some (.int .i64 x.p) ∧ w.cell? ⟨g, o + 3, none⟩ = some (.int .i64 x.u)
theorem LsAt.same {w w' : World} {g o : Nat} {x : LsV} (h : LsAt w g o x) (hb : w'.heap[g]? = w.heap[g]?) : LsAt w' g o x :=
  ⟨(World.cell?_of_block (w := w) (a := ⟨g, o, none⟩) hb).trans h.1, (World.cell?_of_block (w := w) (a := ⟨g, o + 1, none⟩) hb).trans h.2.1, (World.cell?_of_block (w := w) (a := ⟨g, o + 2, none⟩) hb).trans h.2.2.1, (World.cell?_of_block (w := w) (a := ⟨g, o + 3, none⟩) hb).trans h.2.2.2⟩
theorem LsAt.below {w w' : World} {g o m : Nat} {x : LsV} (h : LsAt w g o x) (hb : Below m w w') (hg : g < m) : LsAt w' g o x := h.same (hb.block g hg)
/-- A row of them. -/
def LsRow (w : World) (v : Value) (l : List LsV) : Prop :=
  (l = [] ∧ ∃ ao cap, v = .slice ao 0 cap) ∨ (0 < l.length ∧ ∃ g off cap, v = .slice (some ⟨g, off, none⟩) l.length (l.length + cap) ∧ g < w.heap.size ∧ ∀ i, i < l.length → LsAt w g (off + i * 4) (l.getD i lsv0))
theorem LsRow.same {w w' : World} {v : Value} {l : List LsV} (h : LsRow w v l) (hs : w.heap.size ≤ w'.heap.size) (hb : ∀ k, k < w.heap.size → w'.heap[k]? = w.heap[k]?) : LsRow w' v l := by
  rcases h with h | ⟨h0, g, off, cap, h1, h2, h3⟩
  · exact .inl h
  · exact .inr ⟨h0, g, off, cap, h1, by omega, fun i hi => (h3 i hi).same (hb g h2)⟩
theorem LsRow.below {w w' : World} {v : Value} {l : List LsV} (h : LsRow w v l) (hb : Below w.heap.size w w') : LsRow w' v l := h.same hb.size hb.block
theorem LsRow.slice {w : World} {v : Value} {l : List LsV} (h : LsRow w v l) : ∃ ao cap, v = .slice ao l.length cap := by
  rcases h with ⟨rfl, ao, cap, rfl⟩ | ⟨_, g, off, cap, h1, _⟩
  · exact ⟨ao, cap, rfl⟩
  · exact ⟨_, _, h1⟩
theorem LsRow.nil (w : World) (ao : Option Addr) (cap : Nat) : LsRow w (.slice ao 0 cap) [] := .inl ⟨rfl, ao, cap, rfl⟩
def lscells (l : List LsV) : List Value := l.flatMap lsvs
theorem lscells_length : ∀ l : List LsV, (lscells l).length = l.length * 4
  | [] => rfl
  | x :: l => by
    have := lscells_length l
    unfold lscells at this ⊢
    rw [List.flatMap_cons, List.length_append, this]
    simp only [lsvs, List.length_cons, List.length_nil]
    omega
theorem lscells_append (l m : List LsV) : lscells (l ++ m) = lscells l ++ lscells m := by unfold lscells; rw [List.flatMap_append]
theorem lscells_cons (x : LsV) (l : List LsV) : lscells (x :: l) = .string x.k :: .string x.s :: .int .i64 x.p :: .int .i64 x.u :: lscells l := rfl
theorem lscells_one (x : LsV) : lscells [x] = lsvs x := rfl
theorem lscells_at : ∀ (l : List LsV) (i : Nat), i < l.length → (lscells l)[i * 4]? = some (.string (l.getD i lsv0).k) ∧ (lscells l)[i * 4 + 1]? = some (.string (l.getD i lsv0).s) ∧ (lscells l)[i * 4 + 2]? = some (.int .i64 (l.getD i lsv0).p) ∧ (lscells l)[i * 4 + 3]? = some (.int .i64 (l.getD i lsv0).u)
  | [], i, h => absurd h (Nat.not_lt_zero _)
  | x :: l, 0, _ => ⟨rfl, rfl, rfl, rfl⟩
  | x :: l, i + 1, h => by
    have := lscells_at l i (by simpa using h)
    rw [lscells_cons, show (i + 1) * 4 = i * 4 + 1 + 1 + 1 + 1 by omega]
    exact this
theorem lscells_one' (l : List LsV) : ∀ u ∈ lscells l, u.oneCell' = true := by
  intro u hu
  obtain ⟨x, _, hx⟩ := List.mem_flatMap.1 hu
  simp [lsvs] at hx
  rcases hx with rfl | rfl | rfl | rfl <;> rfl
theorem LsRow.of_own {w : World} {base : Nat} {e : TypeId} {v : Value} {l : List LsV} (h : w.ownsRow base e 4 v l.length (lscells l)) : LsRow w v l := by
  by_cases h0 : l.length = 0
  · have hl : l = [] := List.eq_nil_of_length_eq_zero h0
    rw [h0] at h
    rcases h.2 with ⟨rfl, _⟩ | ⟨g, cap, cur, rfl, _⟩
    · exact .inl ⟨hl, _, _, rfl⟩
    · exact .inl ⟨hl, _, _, rfl⟩
  · rcases h.2 with ⟨_, h1⟩ | ⟨g, cap, cur, rfl, _⟩
    · exact absurd h1 h0
    · refine .inr ⟨by omega, g, 0, cap - l.length, by rw [Nat.add_sub_cancel' (own_room h)], (h.lt g rfl).2, fun i hi => ?_⟩
      obtain ⟨h1, h2, h3, h4⟩ := lscells_at l i hi
      rw [Nat.zero_add]
      exact ⟨(h.cellAt (i * 4) (by omega)).trans h1, (h.cellAt (i * 4 + 1) (by omega)).trans h2, (h.cellAt (i * 4 + 2) (by omega)).trans h3, (h.cellAt (i * 4 + 3) (by omega)).trans h4⟩
/-- The cells of one are set. -/
def setLs (xs : List Value) (i : Nat) (x : LsV) : List Value := ((((xs.set (i * 4) (.string x.k)).set (i * 4 + 1) (.string x.s)).set (i * 4 + 2) (.int .i64 x.p)).set (i * 4 + 3) (.int .i64 x.u))
theorem setLs_length (xs : List Value) (i : Nat) (x : LsV) : (setLs xs i x).length = xs.length := by unfold setLs; simp only [List.length_set]
theorem setLs_take (xs : List Value) (n i : Nat) (l : List LsV) (x : LsV) (hl : xs.length = n * 4) (hi : i < n) (hll : l.length = i) (h : xs.take (i * 4) = lscells l) : (setLs xs i x).take ((i + 1) * 4) = lscells (l ++ [x]) := by
  rw [lscells_append, ← h, lscells_one]
  refine List.ext_getElem? fun j => ?_
  have hlt : (xs.take (i * 4)).length = i * 4 := by rw [List.length_take]; omega
  unfold setLs
  by_cases hj : j < i * 4
  · rw [List.getElem?_take, if_pos (by omega), List.getElem?_set_ne (by omega), List.getElem?_set_ne (by omega), List.getElem?_set_ne (by omega), List.getElem?_set_ne (by omega), List.getElem?_append_left (by omega), List.getElem?_take, if_pos hj]
  · rw [List.getElem?_append_right (by omega), hlt, List.getElem?_take]
    by_cases hj0 : j = i * 4
    · subst hj0
      rw [if_pos (by omega), List.getElem?_set_ne (by omega), List.getElem?_set_ne (by omega), List.getElem?_set_ne (by omega), List.getElem?_set_self (by omega), Nat.sub_self]
      rfl
    by_cases hj1 : j = i * 4 + 1
    · subst hj1
      rw [if_pos (by omega), List.getElem?_set_ne (by omega), List.getElem?_set_ne (by omega), List.getElem?_set_self (by rw [List.length_set]; omega), show i * 4 + 1 - i * 4 = 1 by omega]
      rfl
    by_cases hj2 : j = i * 4 + 2
    · subst hj2
      rw [if_pos (by omega), List.getElem?_set_ne (by omega), List.getElem?_set_self (by rw [List.length_set, List.length_set]; omega), show i * 4 + 2 - i * 4 = 2 by omega]
      rfl
    by_cases hj3 : j = i * 4 + 3
    · subst hj3
      rw [if_pos (by omega), List.getElem?_set_self (by rw [List.length_set, List.length_set, List.length_set]; omega), show i * 4 + 3 - i * 4 = 3 by omega]
      rfl
    · rw [if_neg (by omega), List.getElem?_eq_none (by simp [lsvs]; omega)]
theorem lscells_ext {xs : List Value} {l : List LsV} (hl : xs.length = l.length * 4) (h : ∀ i, i < l.length → xs[i * 4]? = some (.string (l.getD i lsv0).k) ∧ xs[i * 4 + 1]? = some (.string (l.getD i lsv0).s) ∧ xs[i * 4 + 2]? = some (.int .i64 (l.getD i lsv0).p) ∧ xs[i * 4 + 3]? = some (.int .i64 (l.getD i lsv0).u)) : xs = lscells l := by
  refine List.ext_getElem? fun j => ?_
  by_cases hj : j < l.length * 4
  · have hm : j / 4 < l.length := by omega
    obtain ⟨a0, a1, a2, a3⟩ := lscells_at l (j / 4) hm
    obtain ⟨b0, b1, b2, b3⟩ := h (j / 4) hm
    have h4 : j = j / 4 * 4 ∨ j = j / 4 * 4 + 1 ∨ j = j / 4 * 4 + 2 ∨ j = j / 4 * 4 + 3 := by omega
    rcases h4 with e | e | e | e <;> rw [e]
    · rw [a0, b0]
    · rw [a1, b1]
    · rw [a2, b2]
    · rw [a3, b3]
  · rw [List.getElem?_eq_none (by omega), List.getElem?_eq_none (by rw [lscells_length]; omega)]
theorem ls_getD_set (l : List LsV) (i m : Nat) (hm : m < l.length) (x : LsV) : (l.set i x).getD m lsv0 = if i = m then x else l.getD m lsv0 := by
  rw [List.getD_eq_getElem?_getD, List.getD_eq_getElem?_getD, List.getElem?_set]
  split
  · rename_i he; subst he; simp [hm]
  · rfl
theorem setLs_set (l : List LsV) (i : Nat) (h : i < l.length) (x : LsV) : setLs (lscells l) i x = lscells (l.set i x) := by
  have hl := lscells_length l
  refine lscells_ext (by rw [setLs_length, hl, List.length_set]) fun m hm => ?_
  rw [List.length_set] at hm
  have hg := ls_getD_set l i m hm x
  obtain ⟨a0, a1, a2, a3⟩ := lscells_at l m hm
  rw [hg]
  unfold setLs
  by_cases him : i = m
  · subst him
    rw [if_pos rfl]
    refine ⟨?_, ?_, ?_, ?_⟩
    · rw [List.getElem?_set_ne (by omega), List.getElem?_set_ne (by omega), List.getElem?_set_ne (by omega), List.getElem?_set_self (by omega)]
    · rw [List.getElem?_set_ne (by omega), List.getElem?_set_ne (by omega), List.getElem?_set_self (by rw [List.length_set]; omega)]
    · rw [List.getElem?_set_ne (by omega), List.getElem?_set_self (by rw [List.length_set, List.length_set]; omega)]
    · rw [List.getElem?_set_self (by rw [List.length_set, List.length_set, List.length_set]; omega)]
  · rw [if_neg him]
    refine ⟨?_, ?_, ?_, ?_⟩
    · rw [List.getElem?_set_ne (by omega), List.getElem?_set_ne (by omega), List.getElem?_set_ne (by omega), List.getElem?_set_ne (by omega)]; exact a0
    · rw [List.getElem?_set_ne (by omega), List.getElem?_set_ne (by omega), List.getElem?_set_ne (by omega), List.getElem?_set_ne (by omega)]; exact a1
    · rw [List.getElem?_set_ne (by omega), List.getElem?_set_ne (by omega), List.getElem?_set_ne (by omega), List.getElem?_set_ne (by omega)]; exact a2
    · rw [List.getElem?_set_ne (by omega), List.getElem?_set_ne (by omega), List.getElem?_set_ne (by omega), List.getElem?_set_ne (by omega)]; exact a3
/-- A row that the call owns, one of it to be stored. -/
theorem own_ls {w : World} {B : Nat} {e : TypeId} {n cap : Nat} {g : Nat} {xs : List Value} (h : w.ownsRow B e 4 (.slice (some ⟨g, 0, none⟩) n cap) n xs) (k : Nat) (hk : k < n) :
    (∃ u, w.cell? ⟨g, k * 4, none⟩ = some u) ∧ (∃ u, w.cell? ⟨g, k * 4 + 1, none⟩ = some u) ∧ (∃ u, w.cell? ⟨g, k * 4 + 2, none⟩ = some u) ∧ (∃ u, w.cell? ⟨g, k * 4 + 3, none⟩ = some u) := by
  have hl : xs.length = n * 4 := h.1
  exact ⟨⟨_, (h.cellAt (k * 4) (by omega)).trans (List.getElem?_eq_getElem (by omega))⟩, ⟨_, (h.cellAt (k * 4 + 1) (by omega)).trans (List.getElem?_eq_getElem (by omega))⟩, ⟨_, (h.cellAt (k * 4 + 2) (by omega)).trans (List.getElem?_eq_getElem (by omega))⟩, ⟨_, (h.cellAt (k * 4 + 3) (by omega)).trans (List.getElem?_eq_getElem (by omega))⟩⟩
/-- 'append' of one, which lies in a new block of its own, to such as the call owns. -/
theorem wpList_append_ls {P : Program} (wr : World) {ops : Array Oper} {rest : List Oper} {o : Oper} {a : Act} {Q : Exit → Act → World → Prop}
    (hg : o.guard = none) (s x : Operand) (t : TypeId) (hop : o.op = .call { callee := .builtin .append, args := #[s, x], argTypes := #[t, t] })
    (B : Nat) (e : TypeId) (z : Value) (bytes : Nat) (ht : P.underlying t = some (.slice e)) (hinfo : (P.info? e).map (fun i => (i.zero, i.size, i.bytes)) = some (some z, 4, bytes)) (hz : z.cells.size = 4)
    (v : Value) (n : Nat) (l : List LsV) (hs : a.eval s = v) (hown : wr.ownsRow B e 4 v n (lscells l))
    (x0 : ByteArray) (x1 : ByteArray) (x2 : Int) (x3 : Int) (N : Nat) (hN : wr.heap.size = N) (hx : a.eval x = .slice (some ⟨N, 0, none⟩) 1 1)
    (hroom : (n + 1) * bytes ≤ 140737488355328) (hroom' : n + 1 ≤ maxLen) (hB : B ≤ wr.heap.size)
    (hK : ∀ v' w1, w1.ownsRow B e 4 v' (n + 1) (lscells (l ++ [⟨x0, x1, x2, x3⟩])) → wr.grownBy w1 v.ownBlock → wpList P ops Q rest (a.put o.dst v') w1) :
    wpList P ops Q (o :: rest) a (wr.alloc (.cells #[.string x0, .string x1, .int .i64 x2, .int .i64 x3] e)) := by
  subst hN
  obtain ⟨i0, hi, hz0, hz1, hz2⟩ := info_parts hinfo
  refine wpList_append_own_at (wr.alloc (.cells #[.string x0, .string x1, .int .i64 x2, .int .i64 x3] e)) hg s x t hop B e i0 z 4 bytes ht hi hz0 hz1 hz2 hz (by decide) v n (lscells l) hs (hown.alloc _) ⟨wr.heap.size, 0, none⟩ 1 1 [.string x0, .string x1, .int .i64 x2, .int .i64 x3] hx (by simp) ?_ ?_ hroom' hroom (by simp; omega) ?_
  · intro j u hj
    rw [Addr.add_lit, Nat.zero_add]
    rw [World.cell?_alloc_at _ _ _ _ rfl]
    simpa using hj
  · intro u hu
    simp at hu
    rcases hu with rfl | rfl | rfl | rfl
    · rfl
    · rfl
    · rfl
    · rfl
  · intro v' w1 h1 h2 _ h4
    refine hK v' w1 (by rw [lscells_append]; exact h1) ⟨h2.os, h2.tape, h2.output, ?_, fun k hk hne => (h2.block k (by simp; omega) hne).trans (Below.heap_alloc wr _ k hk)⟩
    have := h2.size
    simp at this
    omega
theorem Tryz.infoLs : (Tryz.prog.info? 51).map (fun i => (i.zero, i.size, i.bytes)) = some (some (.agg #[.string ⟨#[]⟩, .string ⟨#[]⟩, .int .i64 0, .int .i64 0]), 4, 48) := by kernel_rfl
end Go.Proofs.YtcjblhiihgdljaaGreat
