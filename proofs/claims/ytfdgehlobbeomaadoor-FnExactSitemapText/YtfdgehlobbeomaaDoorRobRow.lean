/- Rows of lines and of parts in memory, wherever they lie. -/
import Derived.Test.YtfdgehlobbeomaaDoorRows
import Derived.Test.YtfdgehlobbeomaaDoorRowStr
import Derived.Test.YtfdgehlobbeomaaDoorRobPlain
namespace Go.Proofs.YtfdgehlobbeomaaDoor
open Go.RowKit

/-- A row of lines: a truth and a text each. -/
def LineRow (w : World) (v : Value) (l : List LV) : Prop :=
  (l = [] ∧ ∃ ao cap, v = .slice ao 0 cap) ∨ (0 < l.length ∧ ∃ g off cap, v = .slice (some ⟨g, off, none⟩) l.length (l.length + cap) ∧ g < w.heap.size ∧ ∀ i, i < l.length → w.cell? ⟨g, off + i * 2, none⟩ = some (.bool (l.getD i lv0).al) ∧ w.cell? ⟨g, off + i * 2 + 1, none⟩ = some (.string (l.getD i lv0).pa))
theorem LineRow.same {w w' : World} {v : Value} {l : List LV} (h : LineRow w v l) (hs : w.heap.size ≤ w'.heap.size) (hb : ∀ k, k < w.heap.size → w'.heap[k]? = w.heap[k]?) : LineRow w' v l := by
  rcases h with h | ⟨h0, g, off, cap, h1, h2, h3⟩
  · exact .inl h
  · exact .inr ⟨h0, g, off, cap, h1, by omega, fun i hi => ⟨(World.cell?_of_block (w := w) (a := ⟨g, off + i * 2, none⟩) (hb g h2)).trans (h3 i hi).1, (World.cell?_of_block (w := w) (a := ⟨g, off + i * 2 + 1, none⟩) (hb g h2)).trans (h3 i hi).2⟩⟩
theorem LineRow.below {w w' : World} {v : Value} {l : List LV} (h : LineRow w v l) (hb : Below w.heap.size w w') : LineRow w' v l := h.same hb.size hb.block
theorem LineRow.slice {w : World} {v : Value} {l : List LV} (h : LineRow w v l) : ∃ ao cap, v = .slice ao l.length cap := by
  rcases h with ⟨rfl, ao, cap, rfl⟩ | ⟨_, g, off, cap, h1, _⟩
  · exact ⟨ao, cap, rfl⟩
  · exact ⟨_, _, h1⟩
theorem LineRow.of_own {w : World} {base : Nat} {e : TypeId} {v : Value} {l : List LV} {vs : List Value} (h : w.ownsRow base e 2 v l.length vs)
    (hin : ∀ i, i < l.length → vs[i * 2]? = some (.bool (l.getD i lv0).al) ∧ vs[i * 2 + 1]? = some (.string (l.getD i lv0).pa)) : LineRow w v l := by
  by_cases h0 : l.length = 0
  · have hl : l = [] := List.eq_nil_of_length_eq_zero h0
    rw [h0] at h
    rcases h.2 with ⟨rfl, _⟩ | ⟨g, cap, cur, rfl, _⟩
    · exact .inl ⟨hl, _, _, rfl⟩
    · exact .inl ⟨hl, _, _, rfl⟩
  · rcases h.2 with ⟨_, h1⟩ | ⟨g, cap, cur, rfl, _⟩
    · exact absurd h1 h0
    · refine .inr ⟨by omega, g, 0, cap - l.length, by rw [Nat.add_sub_cancel' (own_room h)], (h.lt g rfl).2, fun i hi => ?_⟩
      obtain ⟨h1, h2⟩ := hin i hi
      refine ⟨?_, ?_⟩
      · rw [Nat.zero_add, h.cellAt (i * 2) (by omega)]; exact h1
      · rw [Nat.zero_add, h.cellAt (i * 2 + 1) (by omega)]; exact h2
/-- A row of parts: a row of names and a row of lines each. -/
def PartRow (w : World) (v : Value) (l : List PT) : Prop :=
  (l = [] ∧ ∃ ao cap, v = .slice ao 0 cap) ∨ (0 < l.length ∧ ∃ g off cap, v = .slice (some ⟨g, off, none⟩) l.length (l.length + cap) ∧ g < w.heap.size ∧ ∀ i, i < l.length → ∃ p q, w.cell? ⟨g, off + i * 2, none⟩ = some p ∧ StrRow w p (l.getD i pt0).ag ∧ w.cell? ⟨g, off + i * 2 + 1, none⟩ = some q ∧ LineRow w q (l.getD i pt0).ln)
theorem PartRow.same {w w' : World} {v : Value} {l : List PT} (h : PartRow w v l) (hs : w.heap.size ≤ w'.heap.size) (hb : ∀ k, k < w.heap.size → w'.heap[k]? = w.heap[k]?) : PartRow w' v l := by
  rcases h with h | ⟨h0, g, off, cap, h1, h2, h3⟩
  · exact .inl h
  · refine .inr ⟨h0, g, off, cap, h1, by omega, fun i hi => ?_⟩
    obtain ⟨p, q, c1, c2, c3, c4⟩ := h3 i hi
    exact ⟨p, q, (World.cell?_of_block (w := w) (a := ⟨g, off + i * 2, none⟩) (hb g h2)).trans c1, c2.same hs hb, (World.cell?_of_block (w := w) (a := ⟨g, off + i * 2 + 1, none⟩) (hb g h2)).trans c3, c4.same hs hb⟩
theorem PartRow.below {w w' : World} {v : Value} {l : List PT} (h : PartRow w v l) (hb : Below w.heap.size w w') : PartRow w' v l := h.same hb.size hb.block
theorem PartRow.slice {w : World} {v : Value} {l : List PT} (h : PartRow w v l) : ∃ ao cap, v = .slice ao l.length cap := by
  rcases h with ⟨rfl, ao, cap, rfl⟩ | ⟨_, g, off, cap, h1, _⟩
  · exact ⟨ao, cap, rfl⟩
  · exact ⟨_, _, h1⟩
end Go.Proofs.YtfdgehlobbeomaaDoor
