/- Rows of Sites in memory, wherever they lie; such that a call owns. -/
import Derived.Test.YtcjblhiihgdljaaGreatRows
import Derived.Test.YtcjblhiihgdljaaGreatRowStr
import Derived.Maps.AppendAt
namespace Go.Proofs.YtcjblhiihgdljaaGreat
open Go.RowKit
set_option linter.unusedVariables false

structure SiV where
  n : ByteArray
  r : Int
  q : Value
def siv0 : SiV := ⟨ByteArray.empty, 0, .slice none 0 0⟩
/-- The cells of one. -/
def sivs (x : SiV) : List Value := [.string x.n, .int .i64 x.r, x.q]
/-- The cells of the one at the place o of the block g. -/
def SiAt (w : World) (g o : Nat) (x : SiV) : Prop := w.cell? ⟨g, o, none⟩ = some (.string x.n) ∧ w.cell? ⟨g, o + 1, none⟩ = some (.int .i64 x.r) ∧ w.cell? ⟨g, o + 2, none⟩ = some (x.q)
theorem SiAt.same {w w' : World} {g o : Nat} {x : SiV} (h : SiAt w g o x) (hb : w'.heap[g]? = w.heap[g]?) : SiAt w' g o x :=
  ⟨(World.cell?_of_block (w := w) (a := ⟨g, o, none⟩) hb).trans h.1, (World.cell?_of_block (w := w) (a := ⟨g, o + 1, none⟩) hb).trans h.2.1, (World.cell?_of_block (w := w) (a := ⟨g, o + 2, none⟩) hb).trans h.2.2⟩
theorem SiAt.below {w w' : World} {g o m : Nat} {x : SiV} (h : SiAt w g o x) (hb : Below m w w') (hg : g < m) : SiAt w' g o x := h.same (hb.block g hg)
/-- A row of them. -/
def SiRow (w : World) (v : Value) (l : List SiV) : Prop :=
  (l = [] ∧ ∃ ao cap, v = .slice ao 0 cap) ∨ (0 < l.length ∧ ∃ g off cap, v = .slice (some ⟨g, off, none⟩) l.length (l.length + cap) ∧ g < w.heap.size ∧ ∀ i, i < l.length → SiAt w g (off + i * 3) (l.getD i siv0))
theorem SiRow.same {w w' : World} {v : Value} {l : List SiV} (h : SiRow w v l) (hs : w.heap.size ≤ w'.heap.size) (hb : ∀ k, k < w.heap.size → w'.heap[k]? = w.heap[k]?) : SiRow w' v l := by
  rcases h with h | ⟨h0, g, off, cap, h1, h2, h3⟩
  · exact .inl h
  · exact .inr ⟨h0, g, off, cap, h1, by omega, fun i hi => (h3 i hi).same (hb g h2)⟩
theorem SiRow.below {w w' : World} {v : Value} {l : List SiV} (h : SiRow w v l) (hb : Below w.heap.size w w') : SiRow w' v l := h.same hb.size hb.block
theorem SiRow.slice {w : World} {v : Value} {l : List SiV} (h : SiRow w v l) : ∃ ao cap, v = .slice ao l.length cap := by
  rcases h with ⟨rfl, ao, cap, rfl⟩ | ⟨_, g, off, cap, h1, _⟩
  · exact ⟨ao, cap, rfl⟩
  · exact ⟨_, _, h1⟩
theorem SiRow.nil (w : World) (ao : Option Addr) (cap : Nat) : SiRow w (.slice ao 0 cap) [] := .inl ⟨rfl, ao, cap, rfl⟩
def sicells (l : List SiV) : List Value := l.flatMap sivs
theorem sicells_length : ∀ l : List SiV, (sicells l).length = l.length * 3
  | [] => rfl
  | x :: l => by
    have := sicells_length l
    unfold sicells at this ⊢
    rw [List.flatMap_cons, List.length_append, this]
    simp only [sivs, List.length_cons, List.length_nil]
    omega
theorem sicells_append (l m : List SiV) : sicells (l ++ m) = sicells l ++ sicells m := by unfold sicells; rw [List.flatMap_append]
theorem sicells_cons (x : SiV) (l : List SiV) : sicells (x :: l) = .string x.n :: .int .i64 x.r :: x.q :: sicells l := rfl
theorem sicells_one (x : SiV) : sicells [x] = sivs x := rfl
theorem sicells_at : ∀ (l : List SiV) (i : Nat), i < l.length → (sicells l)[i * 3]? = some (.string (l.getD i siv0).n) ∧ (sicells l)[i * 3 + 1]? = some (.int .i64 (l.getD i siv0).r) ∧ (sicells l)[i * 3 + 2]? = some ((l.getD i siv0).q)
  | [], i, h => absurd h (Nat.not_lt_zero _)
  | x :: l, 0, _ => ⟨rfl, rfl, rfl⟩
  | x :: l, i + 1, h => by
    have := sicells_at l i (by simpa using h)
    rw [sicells_cons, show (i + 1) * 3 = i * 3 + 1 + 1 + 1 by omega]
    exact this
theorem SiRow.of_own {w : World} {base : Nat} {e : TypeId} {v : Value} {l : List SiV} (h : w.ownsRow base e 3 v l.length (sicells l)) : SiRow w v l := by
  by_cases h0 : l.length = 0
  · have hl : l = [] := List.eq_nil_of_length_eq_zero h0
    rw [h0] at h
    rcases h.2 with ⟨rfl, _⟩ | ⟨g, cap, cur, rfl, _⟩
    · exact .inl ⟨hl, _, _, rfl⟩
    · exact .inl ⟨hl, _, _, rfl⟩
  · rcases h.2 with ⟨_, h1⟩ | ⟨g, cap, cur, rfl, _⟩
    · exact absurd h1 h0
    · refine .inr ⟨by omega, g, 0, cap - l.length, by rw [Nat.add_sub_cancel' (own_room h)], (h.lt g rfl).2, fun i hi => ?_⟩
      obtain ⟨h1, h2, h3⟩ := sicells_at l i hi
      rw [Nat.zero_add]
      exact ⟨(h.cellAt (i * 3) (by omega)).trans h1, (h.cellAt (i * 3 + 1) (by omega)).trans h2, (h.cellAt (i * 3 + 2) (by omega)).trans h3⟩
/-- The cells of one are set. -/
def setSi (xs : List Value) (i : Nat) (x : SiV) : List Value := (((xs.set (i * 3) (.string x.n)).set (i * 3 + 1) (.int .i64 x.r)).set (i * 3 + 2) (x.q))
theorem setSi_length (xs : List Value) (i : Nat) (x : SiV) : (setSi xs i x).length = xs.length := by unfold setSi; simp only [List.length_set]
theorem setSi_take (xs : List Value) (n i : Nat) (l : List SiV) (x : SiV) (hl : xs.length = n * 3) (hi : i < n) (hll : l.length = i) (h : xs.take (i * 3) = sicells l) : (setSi xs i x).take ((i + 1) * 3) = sicells (l ++ [x]) := by
  rw [sicells_append, ← h, sicells_one]
  refine List.ext_getElem? fun j => ?_
  have hlt : (xs.take (i * 3)).length = i * 3 := by rw [List.length_take]; omega
  unfold setSi
  by_cases hj : j < i * 3
  · rw [List.getElem?_take, if_pos (by omega), List.getElem?_set_ne (by omega), List.getElem?_set_ne (by omega), List.getElem?_set_ne (by omega), List.getElem?_append_left (by omega), List.getElem?_take, if_pos hj]
  · rw [List.getElem?_append_right (by omega), hlt, List.getElem?_take]
    by_cases hj0 : j = i * 3
    · subst hj0
      rw [if_pos (by omega), List.getElem?_set_ne (by omega), List.getElem?_set_ne (by omega), List.getElem?_set_self (by omega), Nat.sub_self]
      rfl
    by_cases hj1 : j = i * 3 + 1
    · subst hj1
      rw [if_pos (by omega), List.getElem?_set_ne (by omega), List.getElem?_set_self (by rw [List.length_set]; omega), show i * 3 + 1 - i * 3 = 1 by omega]
      rfl
    by_cases hj2 : j = i * 3 + 2
    · subst hj2
      rw [if_pos (by omega), List.getElem?_set_self (by rw [List.length_set, List.length_set]; omega), show i * 3 + 2 - i * 3 = 2 by omega]
      rfl
    · rw [if_neg (by omega), List.getElem?_eq_none (by simp [sivs]; omega)]
theorem sicells_ext {xs : List Value} {l : List SiV} (hl : xs.length = l.length * 3) (h : ∀ i, i < l.length → xs[i * 3]? = some (.string (l.getD i siv0).n) ∧ xs[i * 3 + 1]? = some (.int .i64 (l.getD i siv0).r) ∧ xs[i * 3 + 2]? = some ((l.getD i siv0).q)) : xs = sicells l := by
  refine List.ext_getElem? fun j => ?_
  by_cases hj : j < l.length * 3
  · have hm : j / 3 < l.length := by omega
    obtain ⟨a0, a1, a2⟩ := sicells_at l (j / 3) hm
    obtain ⟨b0, b1, b2⟩ := h (j / 3) hm
    have h4 : j = j / 3 * 3 ∨ j = j / 3 * 3 + 1 ∨ j = j / 3 * 3 + 2 := by omega
    rcases h4 with e | e | e <;> rw [e]
    · rw [a0, b0]
    · rw [a1, b1]
    · rw [a2, b2]
  · rw [List.getElem?_eq_none (by omega), List.getElem?_eq_none (by rw [sicells_length]; omega)]
theorem si_getD_set (l : List SiV) (i m : Nat) (hm : m < l.length) (x : SiV) : (l.set i x).getD m siv0 = if i = m then x else l.getD m siv0 := by
  rw [List.getD_eq_getElem?_getD, List.getD_eq_getElem?_getD, List.getElem?_set]
  split
  · rename_i he; subst he; simp [hm]
  · rfl
theorem setSi_set (l : List SiV) (i : Nat) (h : i < l.length) (x : SiV) : setSi (sicells l) i x = sicells (l.set i x) := by
  have hl := sicells_length l
  refine sicells_ext (by rw [setSi_length, hl, List.length_set]) fun m hm => ?_
  rw [List.length_set] at hm
  have hg := si_getD_set l i m hm x
  obtain ⟨a0, a1, a2⟩ := sicells_at l m hm
  rw [hg]
  unfold setSi
  by_cases him : i = m
  · subst him
    rw [if_pos rfl]
    refine ⟨?_, ?_, ?_⟩
    · rw [List.getElem?_set_ne (by omega), List.getElem?_set_ne (by omega), List.getElem?_set_self (by omega)]
    · rw [List.getElem?_set_ne (by omega), List.getElem?_set_self (by rw [List.length_set]; omega)]
    · rw [List.getElem?_set_self (by rw [List.length_set, List.length_set]; omega)]
  · rw [if_neg him]
    refine ⟨?_, ?_, ?_⟩
    · rw [List.getElem?_set_ne (by omega), List.getElem?_set_ne (by omega), List.getElem?_set_ne (by omega)]; exact a0
    · rw [List.getElem?_set_ne (by omega), List.getElem?_set_ne (by omega), List.getElem?_set_ne (by omega)]; exact a1
    · rw [List.getElem?_set_ne (by omega), List.getElem?_set_ne (by omega), List.getElem?_set_ne (by omega)]; exact a2
/-- A row that the call owns, one of it to be stored. -/
theorem own_si {w : World} {B : Nat} {e : TypeId} {n cap : Nat} {g : Nat} {xs : List Value} (h : w.ownsRow B e 3 (.slice (some ⟨g, 0, none⟩) n cap) n xs) (k : Nat) (hk : k < n) :
    (∃ u, w.cell? ⟨g, k * 3, none⟩ = some u) ∧ (∃ u, w.cell? ⟨g, k * 3 + 1, none⟩ = some u) ∧ (∃ u, w.cell? ⟨g, k * 3 + 2, none⟩ = some u) := by
  have hl : xs.length = n * 3 := h.1
  exact ⟨⟨_, (h.cellAt (k * 3) (by omega)).trans (List.getElem?_eq_getElem (by omega))⟩, ⟨_, (h.cellAt (k * 3 + 1) (by omega)).trans (List.getElem?_eq_getElem (by omega))⟩, ⟨_, (h.cellAt (k * 3 + 2) (by omega)).trans (List.getElem?_eq_getElem (by omega))⟩⟩
/-- 'append' of one, which lies in a new block of its own, to such as the call owns. -/
theorem wpList_append_si {P : Program} (wr : World) {ops : Array Oper} {rest : List Oper} {o : Oper} {a : Act} {Q : Exit → Act → World → Prop}
    (hg : o.guard = none) (s x : Operand) (t : TypeId) (hop : o.op = .call { callee := .builtin .append, args := #[s, x], argTypes := #[t, t] })
    (B : Nat) (e : TypeId) (z : Value) (bytes : Nat) (ht : P.underlying t = some (.slice e)) (hinfo : (P.info? e).map (fun i => (i.zero, i.size, i.bytes)) = some (some z, 3, bytes)) (hz : z.cells.size = 3)
    (v : Value) (n : Nat) (l : List SiV) (hs : a.eval s = v) (hown : wr.ownsRow B e 3 v n (sicells l))
    (x0 : ByteArray) (x1 : Int) (x2 : Value) (h1c2 : x2.oneCell' = true) (N : Nat) (hN : wr.heap.size = N) (hx : a.eval x = .slice (some ⟨N, 0, none⟩) 1 1)
    (hroom : (n + 1) * bytes ≤ 140737488355328) (hroom' : n + 1 ≤ maxLen) (hB : B ≤ wr.heap.size)
    (hK : ∀ v' w1, w1.ownsRow B e 3 v' (n + 1) (sicells (l ++ [⟨x0, x1, x2⟩])) → wr.grownBy w1 v.ownBlock → wpList P ops Q rest (a.put o.dst v') w1) :
    wpList P ops Q (o :: rest) a (wr.alloc (.cells #[.string x0, .int .i64 x1, x2] e)) := by
  subst hN
  obtain ⟨i0, hi, hz0, hz1, hz2⟩ := info_parts hinfo
  refine wpList_append_own_at (wr.alloc (.cells #[.string x0, .int .i64 x1, x2] e)) hg s x t hop B e i0 z 3 bytes ht hi hz0 hz1 hz2 hz (by decide) v n (sicells l) hs (hown.alloc _) ⟨wr.heap.size, 0, none⟩ 1 1 [.string x0, .int .i64 x1, x2] hx (by simp) ?_ ?_ hroom' hroom (by simp; omega) ?_
  · intro j u hj
    rw [Addr.add_lit, Nat.zero_add]
    rw [World.cell?_alloc_at _ _ _ _ rfl]
    simpa using hj
  · intro u hu
    simp at hu
    rcases hu with rfl | rfl | rfl
    · rfl
    · rfl
    · exact h1c2
  · intro v' w1 h1 h2 _ h4
    refine hK v' w1 (by rw [sicells_append]; exact h1) ⟨h2.os, h2.tape, h2.output, ?_, fun k hk hne => (h2.block k (by simp; omega) hne).trans (Below.heap_alloc wr _ k hk)⟩
    have := h2.size
    simp at this
    omega
theorem Tryz.infoSi : (Tryz.prog.info? 43).map (fun i => (i.zero, i.size, i.bytes)) = some (some (.agg #[.string ⟨#[]⟩, .int .i64 0, .slice none 0 0]), 3, 48) := by kernel_rfl
end Go.Proofs.YtcjblhiihgdljaaGreat
