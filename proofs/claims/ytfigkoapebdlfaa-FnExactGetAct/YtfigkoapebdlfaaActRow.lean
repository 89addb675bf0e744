/- Rows of acts in memory, wherever they lie; such that a call owns. -/
import Derived.Test.YtfigkoapebdlfaaRows
import Derived.Test.YtfigkoapebdlfaaRowStr
import Derived.Test.YtfigkoapebdlfaaActPlain
namespace Go.Proofs.Ytfigkoapebdlfaa
open Go.RowKit
set_option linter.unusedVariables false

/-- The cells of an act. -/
def av4 (x : AV) : List Value := [.int .i64 x.k, .string x.t, .string x.b, .int .i64 x.n]
/-- The cells of the act at the place o of the block g. -/
def ActAt (w : World) (g o : Nat) (x : AV) : Prop := w.cell? ⟨g, o, none⟩ = some (.int .i64 x.k) ∧ w.cell? ⟨g, o + 1, none⟩ = some (.string x.t) ∧ w.cell? ⟨g, o + 2, none⟩ = some (.string x.b) ∧ w.cell? ⟨g, o + 3, none⟩ = some (.int .i64 x.n)
theorem ActAt.same {w w' : World} {g o : Nat} {x : AV} (h : ActAt w g o x) (hb : w'.heap[g]? = w.heap[g]?) : ActAt w' g o x :=
  ⟨(World.cell?_of_block (w := w) (a := ⟨g, o, none⟩) hb).trans h.1, (World.cell?_of_block (w := w) (a := ⟨g, o + 1, none⟩) hb).trans h.2.1, (World.cell?_of_block (w := w) (a := ⟨g, o + 2, none⟩) hb).trans h.2.2.1, (World.cell?_of_block (w := w) (a := ⟨g, o + 3, none⟩) hb).trans h.2.2.2⟩
theorem ActAt.below {w w' : World} {g o m : Nat} {x : AV} (h : ActAt w g o x) (hb : Below m w w') (hg : g < m) : ActAt w' g o x := h.same (hb.block g hg)
/-- A row of acts. -/
def ActRow (w : World) (v : Value) (l : List AV) : Prop :=
  (l = [] ∧ ∃ ao cap, v = .slice ao 0 cap) ∨ (0 < l.length ∧ ∃ g off cap, v = .slice (some ⟨g, off, none⟩) l.length (l.length + cap) ∧ g < w.heap.size ∧ ∀ i, i < l.length → ActAt w g (off + i * 4) (l.getD i av0))
theorem ActRow.same {w w' : World} {v : Value} {l : List AV} (h : ActRow w v l) (hs : w.heap.size ≤ w'.heap.size) (hb : ∀ k, k < w.heap.size → w'.heap[k]? = w.heap[k]?) : ActRow w' v l := by
  rcases h with h | ⟨h0, g, off, cap, h1, h2, h3⟩
  · exact .inl h
  · exact .inr ⟨h0, g, off, cap, h1, by omega, fun i hi => (h3 i hi).same (hb g h2)⟩
theorem ActRow.below {w w' : World} {v : Value} {l : List AV} (h : ActRow w v l) (hb : Below w.heap.size w w') : ActRow w' v l := h.same hb.size hb.block
theorem ActRow.slice {w : World} {v : Value} {l : List AV} (h : ActRow w v l) : ∃ ao cap, v = .slice ao l.length cap := by
  rcases h with ⟨rfl, ao, cap, rfl⟩ | ⟨_, g, off, cap, h1, _⟩
  · exact ⟨ao, cap, rfl⟩
  · exact ⟨_, _, h1⟩
def acells (l : List AV) : List Value := l.flatMap av4
theorem acells_length : ∀ l : List AV, (acells l).length = l.length * 4
  | [] => rfl
  | x :: l => by
    have := acells_length l
    unfold acells at this ⊢
    rw [List.flatMap_cons, List.length_append, this]
    simp only [av4, List.length_cons, List.length_nil]
    omega
theorem acells_append (l m : List AV) : acells (l ++ m) = acells l ++ acells m := by unfold acells; rw [List.flatMap_append]
theorem acells_cons (x : AV) (l : List AV) : acells (x :: l) = .int .i64 x.k :: .string x.t :: .string x.b :: .int .i64 x.n :: acells l := rfl
theorem acells_one (x : AV) : acells [x] = av4 x := rfl
theorem acells_at : ∀ (l : List AV) (i : Nat), i < l.length → (acells l)[i * 4]? = some (.int .i64 (l.getD i av0).k) ∧ (acells l)[i * 4 + 1]? = some (.string (l.getD i av0).t) ∧ (acells l)[i * 4 + 2]? = some (.string (l.getD i av0).b) ∧ (acells l)[i * 4 + 3]? = some (.int .i64 (l.getD i av0).n)
  | [], i, h => absurd h (Nat.not_lt_zero _)
  | x :: l, 0, _ => ⟨rfl, rfl, rfl, rfl⟩
  | x :: l, i + 1, h => by
    have := acells_at l i (by simpa using h)
    rw [acells_cons, show (i + 1) * 4 = i * 4 + 1 + 1 + 1 + 1 by omega]
    exact this
theorem acells_one' (l : List AV) : ∀ u ∈ acells l, u.oneCell' = true := by
  intro u hu
  obtain ⟨x, _, hx⟩ := List.mem_flatMap.1 hu
  simp [av4] at hx
  rcases hx with rfl | rfl | rfl | rfl <;> rfl
theorem ActRow.of_own {w : World} {base : Nat} {e : TypeId} {v : Value} {l : List AV} (h : w.ownsRow base e 4 v l.length (acells l)) : ActRow w v l := by
  by_cases h0 : l.length = 0
  · have hl : l = [] := List.eq_nil_of_length_eq_zero h0
    rw [h0] at h
    rcases h.2 with ⟨rfl, _⟩ | ⟨g, cap, cur, rfl, _⟩
    · exact .inl ⟨hl, _, _, rfl⟩
    · exact .inl ⟨hl, _, _, rfl⟩
  · rcases h.2 with ⟨_, h1⟩ | ⟨g, cap, cur, rfl, _⟩
    · exact absurd h1 h0
    · refine .inr ⟨by omega, g, 0, cap - l.length, by rw [Nat.add_sub_cancel' (own_room h)], (h.lt g rfl).2, fun i hi => ?_⟩
      obtain ⟨h1, h2, h3, h4⟩ := acells_at l i hi
      rw [Nat.zero_add]
      exact ⟨(h.cellAt (i * 4) (by omega)).trans h1, (h.cellAt (i * 4 + 1) (by omega)).trans h2, (h.cellAt (i * 4 + 2) (by omega)).trans h3, (h.cellAt (i * 4 + 3) (by omega)).trans h4⟩
/-- Four cells that are set make one act. -/
def setFour (xs : List Value) (i : Nat) (x : AV) : List Value := (((xs.set (i * 4) (.int .i64 x.k)).set (i * 4 + 1) (.string x.t)).set (i * 4 + 2) (.string x.b)).set (i * 4 + 3) (.int .i64 x.n)
theorem setFour_length (xs : List Value) (i : Nat) (x : AV) : (setFour xs i x).length = xs.length := by unfold setFour; simp only [List.length_set]
theorem setFour_take (xs : List Value) (n i : Nat) (l : List AV) (x : AV) (hl : xs.length = n * 4) (hi : i < n) (hll : l.length = i) (h : xs.take (i * 4) = acells l) : (setFour xs i x).take ((i + 1) * 4) = acells (l ++ [x]) := by
  rw [acells_append, ← h, acells_one]
  refine List.ext_getElem? fun j => ?_
  have hlt : (xs.take (i * 4)).length = i * 4 := by rw [List.length_take]; omega
  unfold setFour
  by_cases hj : j < i * 4
  · rw [List.getElem?_take, if_pos (by omega), List.getElem?_set_ne (by omega), List.getElem?_set_ne (by omega), List.getElem?_set_ne (by omega), List.getElem?_set_ne (by omega), List.getElem?_append_left (by omega), List.getElem?_take, if_pos hj]
  · rw [List.getElem?_append_right (by omega), hlt, List.getElem?_take]
    by_cases hj0 : j = i * 4
    · subst hj0
      rw [if_pos (by omega), List.getElem?_set_ne (by omega), List.getElem?_set_ne (by omega), List.getElem?_set_ne (by omega), List.getElem?_set_self (by omega), Nat.sub_self]
      rfl
    by_cases hj1 : j = i * 4 + 1
    · subst hj1
      rw [if_pos (by omega), List.getElem?_set_ne (by omega), List.getElem?_set_ne (by omega), List.getElem?_set_self (by rw [List.length_set]; omega), show i * 4 + 1 - i * 4 = 1 by omega]
      rfl
    by_cases hj2 : j = i * 4 + 2
    · subst hj2
      rw [if_pos (by omega), List.getElem?_set_ne (by omega), List.getElem?_set_self (by rw [List.length_set, List.length_set]; omega), show i * 4 + 2 - i * 4 = 2 by omega]
      rfl
    by_cases hj3 : j = i * 4 + 3
    · subst hj3
      rw [if_pos (by omega), List.getElem?_set_self (by rw [List.length_set, List.length_set, List.length_set]; omega), show i * 4 + 3 - i * 4 = 3 by omega]
      rfl
    · rw [if_neg (by omega), List.getElem?_eq_none (by simp [av4]; omega)]
theorem acells_ext {xs : List Value} {l : List AV} (hl : xs.length = l.length * 4) (h : ∀ i, i < l.length → xs[i * 4]? = some (.int .i64 (l.getD i av0).k) ∧ xs[i * 4 + 1]? = some (.string (l.getD i av0).t) ∧ xs[i * 4 + 2]? = some (.string (l.getD i av0).b) ∧ xs[i * 4 + 3]? = some (.int .i64 (l.getD i av0).n)) : xs = acells l := by
  refine List.ext_getElem? fun j => ?_
  by_cases hj : j < l.length * 4
  · have hm : j / 4 < l.length := by omega
    obtain ⟨a0, a1, a2, a3⟩ := acells_at l (j / 4) hm
    obtain ⟨b0, b1, b2, b3⟩ := h (j / 4) hm
    have h4 : j = j / 4 * 4 ∨ j = j / 4 * 4 + 1 ∨ j = j / 4 * 4 + 2 ∨ j = j / 4 * 4 + 3 := by omega
    rcases h4 with e | e | e | e <;> rw [e]
    · rw [a0, b0]
    · rw [a1, b1]
    · rw [a2, b2]
    · rw [a3, b3]
  · rw [List.getElem?_eq_none (by omega), List.getElem?_eq_none (by rw [acells_length]; omega)]
theorem setFour_set (l : List AV) (i : Nat) (h : i < l.length) (x : AV) : setFour (acells l) i x = acells (l.set i x) := by
  have hl := acells_length l
  refine acells_ext (by rw [setFour_length, hl, List.length_set]) fun m hm => ?_
  rw [List.length_set] at hm
  have hg : (l.set i x).getD m av0 = if i = m then x else l.getD m av0 := by
    rw [List.getD_eq_getElem?_getD, List.getD_eq_getElem?_getD, List.getElem?_set]
    split
    · rename_i he; subst he; simp
    · rfl
  obtain ⟨a0, a1, a2, a3⟩ := acells_at l m hm
  rw [hg]
  unfold setFour
  by_cases him : i = m
  · subst him
    rw [if_pos rfl]
    refine ⟨?_, ?_, ?_, ?_⟩
    · rw [List.getElem?_set_ne (by omega), List.getElem?_set_ne (by omega), List.getElem?_set_ne (by omega), List.getElem?_set_self (by omega)]
    · rw [List.getElem?_set_ne (by omega), List.getElem?_set_ne (by omega), List.getElem?_set_self (by rw [List.length_set]; omega)]
    · rw [List.getElem?_set_ne (by omega), List.getElem?_set_self (by rw [List.length_set, List.length_set]; omega)]
    · rw [List.getElem?_set_self (by rw [List.length_set, List.length_set, List.length_set]; omega)]
  · rw [if_neg him]
    refine ⟨?_, ?_, ?_, ?_⟩
    · rw [List.getElem?_set_ne (by omega), List.getElem?_set_ne (by omega), List.getElem?_set_ne (by omega), List.getElem?_set_ne (by omega)]; exact a0
    · rw [List.getElem?_set_ne (by omega), List.getElem?_set_ne (by omega), List.getElem?_set_ne (by omega), List.getElem?_set_ne (by omega)]; exact a1
    · rw [List.getElem?_set_ne (by omega), List.getElem?_set_ne (by omega), List.getElem?_set_ne (by omega), List.getElem?_set_ne (by omega)]; exact a2
    · rw [List.getElem?_set_ne (by omega), List.getElem?_set_ne (by omega), List.getElem?_set_ne (by omega), List.getElem?_set_ne (by omega)]; exact a3
/-- A row that the call owns, one act of it stored. -/
theorem own_four {w : World} {B : Nat} {e : TypeId} {n cap : Nat} {g : Nat} {xs : List Value} (h : w.ownsRow B e 4 (.slice (some ⟨g, 0, none⟩) n cap) n xs) (k : Nat) (hk : k < n) :
    (∃ u, w.cell? ⟨g, k * 4, none⟩ = some u) ∧ (∃ u, w.cell? ⟨g, k * 4 + 1, none⟩ = some u) ∧ (∃ u, w.cell? ⟨g, k * 4 + 2, none⟩ = some u) ∧ (∃ u, w.cell? ⟨g, k * 4 + 3, none⟩ = some u) := by
  have hl : xs.length = n * 4 := h.1
  exact ⟨⟨_, (h.cellAt (k * 4) (by omega)).trans (List.getElem?_eq_getElem (by omega))⟩, ⟨_, (h.cellAt (k * 4 + 1) (by omega)).trans (List.getElem?_eq_getElem (by omega))⟩, ⟨_, (h.cellAt (k * 4 + 2) (by omega)).trans (List.getElem?_eq_getElem (by omega))⟩, ⟨_, (h.cellAt (k * 4 + 3) (by omega)).trans (List.getElem?_eq_getElem (by omega))⟩⟩
end Go.Proofs.Ytfigkoapebdlfaa
