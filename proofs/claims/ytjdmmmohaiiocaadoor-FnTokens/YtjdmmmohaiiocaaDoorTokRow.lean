/- Rows of tokens in memory, wherever they lie; such that a call owns. -/
import Derived.Test.YtjdmmmohaiiocaaDoorRows
import Derived.Test.YtjdmmmohaiiocaaDoorRowStr
namespace Go.Proofs.YtjdmmmohaiiocaaDoor
open Go.RowKit
set_option linter.unusedVariables false

/-- A token: its kind and its text. -/
structure TV where
  k : Int
  s : ByteArray
def tv0 : TV := ⟨0, ByteArray.empty⟩
/-- A row of tokens: a kind and a text each. -/
def TokRow (w : World) (v : Value) (l : List TV) : Prop :=
  (l = [] ∧ ∃ ao cap, v = .slice ao 0 cap) ∨ (0 < l.length ∧ ∃ g off cap, v = .slice (some ⟨g, off, none⟩) l.length (l.length + cap) ∧ g < w.heap.size ∧ ∀ i, i < l.length → w.cell? ⟨g, off + i * 2, none⟩ = some (.int .i64 (l.getD i tv0).k) ∧ w.cell? ⟨g, off + i * 2 + 1, none⟩ = some (.string (l.getD i tv0).s))
theorem TokRow.same {w w' : World} {v : Value} {l : List TV} (h : TokRow w v l) (hs : w.heap.size ≤ w'.heap.size) (hb : ∀ k, k < w.heap.size → w'.heap[k]? = w.heap[k]?) : TokRow w' v l := by
  rcases h with h | ⟨h0, g, off, cap, h1, h2, h3⟩
  · exact .inl h
  · exact .inr ⟨h0, g, off, cap, h1, by omega, fun i hi => ⟨(World.cell?_of_block (w := w) (a := ⟨g, off + i * 2, none⟩) (hb g h2)).trans (h3 i hi).1, (World.cell?_of_block (w := w) (a := ⟨g, off + i * 2 + 1, none⟩) (hb g h2)).trans (h3 i hi).2⟩⟩
theorem TokRow.below {w w' : World} {v : Value} {l : List TV} (h : TokRow w v l) (hb : Below w.heap.size w w') : TokRow w' v l := h.same hb.size hb.block
theorem TokRow.slice {w : World} {v : Value} {l : List TV} (h : TokRow w v l) : ∃ ao cap, v = .slice ao l.length cap := by
  rcases h with ⟨rfl, ao, cap, rfl⟩ | ⟨_, g, off, cap, h1, _⟩
  · exact ⟨ao, cap, rfl⟩
  · exact ⟨_, _, h1⟩
theorem TokRow.of_own {w : World} {base : Nat} {e : TypeId} {v : Value} {l : List TV} {vs : List Value} (h : w.ownsRow base e 2 v l.length vs)
    (hin : ∀ i, i < l.length → vs[i * 2]? = some (.int .i64 (l.getD i tv0).k) ∧ vs[i * 2 + 1]? = some (.string (l.getD i tv0).s)) : TokRow w v l := by
  by_cases h0 : l.length = 0
  · have hl : l = [] := List.eq_nil_of_length_eq_zero h0
    rw [h0] at h
    rcases h.2 with ⟨rfl, _⟩ | ⟨g, cap, cur, rfl, _⟩
    · exact .inl ⟨hl, _, _, rfl⟩
    · exact .inl ⟨hl, _, _, rfl⟩
  · rcases h.2 with ⟨_, h1⟩ | ⟨g, cap, cur, rfl, _⟩
    · exact absurd h1 h0
    · refine .inr ⟨by omega, g, 0, cap - l.length, by rw [Nat.add_sub_cancel' (own_room h)], (h.lt g rfl).2, fun i hi => ?_⟩
      obtain ⟨h1, h2⟩ := hin i hi
      refine ⟨?_, ?_⟩
      · rw [Nat.zero_add, h.cellAt (i * 2) (by omega)]; exact h1
      · rw [Nat.zero_add, h.cellAt (i * 2 + 1) (by omega)]; exact h2
def tcells (l : List TV) : List Value := l.flatMap fun x => [.int .i64 x.k, .string x.s]
theorem tcells_length : ∀ l : List TV, (tcells l).length = l.length * 2
  | [] => rfl
  | x :: l => by
    have := tcells_length l
    unfold tcells at this ⊢
    rw [List.flatMap_cons, List.length_append, this]
    simp only [List.length_cons, List.length_nil]
    omega
theorem tcells_append (l m : List TV) : tcells (l ++ m) = tcells l ++ tcells m := by unfold tcells; rw [List.flatMap_append]
theorem tcells_cons (x : TV) (l : List TV) : tcells (x :: l) = .int .i64 x.k :: .string x.s :: tcells l := rfl
theorem tcells_one (x : TV) : tcells [x] = [.int .i64 x.k, .string x.s] := rfl
theorem tcells_at : ∀ (l : List TV) (i : Nat), i < l.length → (tcells l)[i * 2]? = some (.int .i64 (l.getD i tv0).k) ∧ (tcells l)[i * 2 + 1]? = some (.string (l.getD i tv0).s)
  | [], i, h => absurd h (Nat.not_lt_zero _)
  | x :: l, 0, _ => ⟨rfl, rfl⟩
  | x :: l, i + 1, h => by
    have := tcells_at l i (by simpa using h)
    rw [tcells_cons, show (i + 1) * 2 = i * 2 + 1 + 1 by omega]
    exact this
theorem tcells_one' (l : List TV) : ∀ u ∈ tcells l, u.oneCell' = true := by
  intro u hu
  obtain ⟨x, _, hx⟩ := List.mem_flatMap.1 hu
  simp at hx
  rcases hx with rfl | rfl <;> rfl
theorem tcells_set (l : List TV) (i : Nat) (h : i < l.length) (x : TV) : ((tcells l).set (i * 2) (.int .i64 x.k)).set (i * 2 + 1) (.string x.s) = tcells (l.set i x) := by
  refine List.ext_getElem? fun j => ?_
  have hl := tcells_length l
  by_cases hj : j < l.length * 2
  · obtain ⟨m, hm⟩ : ∃ m, m = j / 2 := ⟨_, rfl⟩
    have hml : m < l.length := by omega
    have e0 := tcells_at l m hml
    have e1 := tcells_at (l.set i x) m (by rw [List.length_set]; exact hml)
    have hg : (l.set i x).getD m tv0 = if i = m then x else l.getD m tv0 := by
      rw [List.getD_eq_getElem?_getD, List.getD_eq_getElem?_getD, List.getElem?_set]
      split
      · rename_i he; subst he; simp
      · rfl
    rw [hg] at e1
    by_cases hmod : j % 2 = 0
    · obtain rfl : j = m * 2 := by omega
      rw [e1.1, List.getElem?_set_ne (by omega)]
      by_cases him : i = m
      · subst him; rw [List.getElem?_set_self (by omega), if_pos rfl]
      · rw [List.getElem?_set_ne (by omega), e0.1, if_neg him]
    · obtain rfl : j = m * 2 + 1 := by omega
      rw [e1.2]
      by_cases him : i = m
      · subst him; rw [List.getElem?_set_self (by rw [List.length_set]; omega), if_pos rfl]
      · rw [List.getElem?_set_ne (by omega), List.getElem?_set_ne (by omega), e0.2, if_neg him]
  · rw [List.getElem?_eq_none (by rw [List.length_set, List.length_set]; omega), List.getElem?_eq_none (by rw [tcells_length, List.length_set]; omega)]
theorem TokRow.of_own' {w : World} {base : Nat} {e : TypeId} {v : Value} {l : List TV} (h : w.ownsRow base e 2 v l.length (tcells l)) : TokRow w v l := TokRow.of_own h fun i hi => tcells_at l i hi
end Go.Proofs.YtjdmmmohaiiocaaDoor
