/- Rows of entries in memory, wherever they lie; such that a call owns. -/
import Derived.Test.YtdnlaijpgjpplaaRows
import Derived.Test.YtdnlaijpgjpplaaRowStr
namespace Go.Proofs.Ytdnlaijpgjpplaa
open Go.RowKit
set_option linter.unusedVariables false

/-- An entry: how much it matters, and its text (which lies first). -/
structure EV where
  k : Int
  s : ByteArray
def ev0 : EV := ⟨0, ByteArray.empty⟩
/-- A row of entries: a text and a number each. -/
def EntRow (w : World) (v : Value) (l : List EV) : Prop :=
  (l = [] ∧ ∃ ao cap, v = .slice ao 0 cap) ∨ (0 < l.length ∧ ∃ g off cap, v = .slice (some ⟨g, off, none⟩) l.length (l.length + cap) ∧ g < w.heap.size ∧ ∀ i, i < l.length → w.cell? ⟨g, off + i * 2, none⟩ = some (.string (l.getD i ev0).s) ∧ w.cell? ⟨g, off + i * 2 + 1, none⟩ = some (.int .i64 (l.getD i ev0).k))
theorem EntRow.same {w w' : World} {v : Value} {l : List EV} (h : EntRow w v l) (hs : w.heap.size ≤ w'.heap.size) (hb : ∀ k, k < w.heap.size → w'.heap[k]? = w.heap[k]?) : EntRow w' v l := by
  rcases h with h | ⟨h0, g, off, cap, h1, h2, h3⟩
  · exact .inl h
  · exact .inr ⟨h0, g, off, cap, h1, by omega, fun i hi => ⟨(World.cell?_of_block (w := w) (a := ⟨g, off + i * 2, none⟩) (hb g h2)).trans (h3 i hi).1, (World.cell?_of_block (w := w) (a := ⟨g, off + i * 2 + 1, none⟩) (hb g h2)).trans (h3 i hi).2⟩⟩
theorem EntRow.below {w w' : World} {v : Value} {l : List EV} (h : EntRow w v l) (hb : Below w.heap.size w w') : EntRow w' v l := h.same hb.size hb.block
theorem EntRow.slice {w : World} {v : Value} {l : List EV} (h : EntRow w v l) : ∃ ao cap, v = .slice ao l.length cap := by
  rcases h with ⟨rfl, ao, cap, rfl⟩ | ⟨_, g, off, cap, h1, _⟩
  · exact ⟨ao, cap, rfl⟩
  · exact ⟨_, _, h1⟩
theorem EntRow.of_own {w : World} {base : Nat} {e : TypeId} {v : Value} {l : List EV} {vs : List Value} (h : w.ownsRow base e 2 v l.length vs)
    (hin : ∀ i, i < l.length → vs[i * 2]? = some (.string (l.getD i ev0).s) ∧ vs[i * 2 + 1]? = some (.int .i64 (l.getD i ev0).k)) : EntRow w v l := by
  by_cases h0 : l.length = 0
  · have hl : l = [] := List.eq_nil_of_length_eq_zero h0
    rw [h0] at h
    rcases h.2 with ⟨rfl, _⟩ | ⟨g, cap, cur, rfl, _⟩
    · exact .inl ⟨hl, _, _, rfl⟩
    · exact .inl ⟨hl, _, _, rfl⟩
  · rcases h.2 with ⟨_, h1⟩ | ⟨g, cap, cur, rfl, _⟩
    · exact absurd h1 h0
    · refine .inr ⟨by omega, g, 0, cap - l.length, by rw [Nat.add_sub_cancel' (own_room h)], (h.lt g rfl).2, fun i hi => ?_⟩
      obtain ⟨h1, h2⟩ := hin i hi
      refine ⟨?_, ?_⟩
      · rw [Nat.zero_add, h.cellAt (i * 2) (by omega)]; exact h1
      · rw [Nat.zero_add, h.cellAt (i * 2 + 1) (by omega)]; exact h2
def ecells (l : List EV) : List Value := l.flatMap fun x => [.string x.s, .int .i64 x.k]
theorem ecells_length : ∀ l : List EV, (ecells l).length = l.length * 2
  | [] => rfl
  | x :: l => by
    have := ecells_length l
    unfold ecells at this ⊢
    rw [List.flatMap_cons, List.length_append, this]
    simp only [List.length_cons, List.length_nil]
    omega
theorem ecells_append (l m : List EV) : ecells (l ++ m) = ecells l ++ ecells m := by unfold ecells; rw [List.flatMap_append]
theorem ecells_cons (x : EV) (l : List EV) : ecells (x :: l) = .string x.s :: .int .i64 x.k :: ecells l := rfl
theorem ecells_one (x : EV) : ecells [x] = [.string x.s, .int .i64 x.k] := rfl
theorem ecells_at : ∀ (l : List EV) (i : Nat), i < l.length → (ecells l)[i * 2]? = some (.string (l.getD i ev0).s) ∧ (ecells l)[i * 2 + 1]? = some (.int .i64 (l.getD i ev0).k)
  | [], i, h => absurd h (Nat.not_lt_zero _)
  | x :: l, 0, _ => ⟨rfl, rfl⟩
  | x :: l, i + 1, h => by
    have := ecells_at l i (by simpa using h)
    rw [ecells_cons, show (i + 1) * 2 = i * 2 + 1 + 1 by omega]
    exact this
theorem ecells_one' (l : List EV) : ∀ u ∈ ecells l, u.oneCell' = true := by
  intro u hu
  obtain ⟨x, _, hx⟩ := List.mem_flatMap.1 hu
  simp at hx
  rcases hx with rfl | rfl <;> rfl
theorem ecells_set (l : List EV) (i : Nat) (h : i < l.length) (x : EV) : ((ecells l).set (i * 2) (.string x.s)).set (i * 2 + 1) (.int .i64 x.k) = ecells (l.set i x) := by
  refine List.ext_getElem? fun j => ?_
  have hl := ecells_length l
  by_cases hj : j < l.length * 2
  · obtain ⟨m, hm⟩ : ∃ m, m = j / 2 := ⟨_, rfl⟩
    have hml : m < l.length := by omega
    have e0 := ecells_at l m hml
    have e1 := ecells_at (l.set i x) m (by rw [List.length_set]; exact hml)
    have hg : (l.set i x).getD m ev0 = if i = m then x else l.getD m ev0 := by
      rw [List.getD_eq_getElem?_getD, List.getD_eq_getElem?_getD, List.getElem?_set]
      split
      · rename_i he; subst he; simp
      · rfl
    rw [hg] at e1
    by_cases hmod : j % 2 = 0
    · obtain rfl : j = m * 2 := by omega
      rw [e1.1, List.getElem?_set_ne (by omega)]
      by_cases him : i = m
      · subst him; rw [List.getElem?_set_self (by omega), if_pos rfl]
      · rw [List.getElem?_set_ne (by omega), e0.1, if_neg him]
    · obtain rfl : j = m * 2 + 1 := by omega
      rw [e1.2]
      by_cases him : i = m
      · subst him; rw [List.getElem?_set_self (by rw [List.length_set]; omega), if_pos rfl]
      · rw [List.getElem?_set_ne (by omega), List.getElem?_set_ne (by omega), e0.2, if_neg him]
  · rw [List.getElem?_eq_none (by rw [List.length_set, List.length_set]; omega), List.getElem?_eq_none (by rw [ecells_length, List.length_set]; omega)]
theorem EntRow.of_own' {w : World} {base : Nat} {e : TypeId} {v : Value} {l : List EV} (h : w.ownsRow base e 2 v l.length (ecells l)) : EntRow w v l := EntRow.of_own h fun i hi => ecells_at l i hi
end Go.Proofs.Ytdnlaijpgjpplaa
