/- Rows of what waits, and of leases, as rows of cells. -/
import Derived.Test.YtcjblhiihgdljaaGreatRows
import Derived.Test.YtcjblhiihgdljaaGreatSitRow
import Derived.Test.YtcjblhiihgdljaaGreatCRowK
namespace Go.Proofs.YtcjblhiihgdljaaGreat
open Go.RowKit
set_option linter.unusedVariables false

theorem WtRow.crow {w : World} {q : Value} {l : List WtV} (h : WtRow w q l) : CRow w q l.length 3 (wtcells l) := by
  refine ⟨⟨wtcells_length l, wtcells_one' l⟩, ?_⟩
  rcases h with ⟨rfl, ao, cap, rfl⟩ | ⟨h0, g, off, cap, h1, h2, h3⟩
  · exact .inl ⟨rfl, _, _, rfl⟩
  · refine .inr ⟨_, _, _, h1, h2, fun j u hj => ?_⟩
    have hjl : j < l.length * 3 := by
      have := (List.getElem?_eq_some_iff.1 hj).1
      rwa [wtcells_length] at this
    obtain ⟨e1, e2, e3⟩ := wtcells_at l (j / 3) (by omega)
    obtain ⟨f1, f2, f3⟩ := h3 (j / 3) (by omega)
    rcases (show j % 3 = 0 ∨ j % 3 = 1 ∨ j % 3 = 2 by omega) with hm | hm | hm
    · rw [show j / 3 * 3 = j by omega] at e1 f1
      rw [f1, ← e1, hj]
    · rw [show j / 3 * 3 + 1 = j by omega] at e2
      rw [show off + j / 3 * 3 + 1 = off + j by omega] at f2
      rw [f2, ← e2, hj]
    · rw [show j / 3 * 3 + 2 = j by omega] at e3
      rw [show off + j / 3 * 3 + 2 = off + j by omega] at f3
      rw [f3, ← e3, hj]
theorem LsRow.crow {w : World} {q : Value} {l : List LsV} (h : LsRow w q l) : CRow w q l.length 4 (lscells l) := by
  refine ⟨⟨lscells_length l, lscells_one' l⟩, ?_⟩
  rcases h with ⟨rfl, ao, cap, rfl⟩ | ⟨h0, g, off, cap, h1, h2, h3⟩
  · exact .inl ⟨rfl, _, _, rfl⟩
  · refine .inr ⟨_, _, _, h1, h2, fun j u hj => ?_⟩
    have hjl : j < l.length * 4 := by
      have := (List.getElem?_eq_some_iff.1 hj).1
      rwa [lscells_length] at this
    obtain ⟨e1, e2, e3, e4⟩ := lscells_at l (j / 4) (by omega)
    obtain ⟨f1, f2, f3, f4⟩ := h3 (j / 4) (by omega)
    rcases (show j % 4 = 0 ∨ j % 4 = 1 ∨ j % 4 = 2 ∨ j % 4 = 3 by omega) with hm | hm | hm | hm
    · rw [show j / 4 * 4 = j by omega] at e1 f1
      rw [f1, ← e1, hj]
    · rw [show j / 4 * 4 + 1 = j by omega] at e2
      rw [show off + j / 4 * 4 + 1 = off + j by omega] at f2
      rw [f2, ← e2, hj]
    · rw [show j / 4 * 4 + 2 = j by omega] at e3
      rw [show off + j / 4 * 4 + 2 = off + j by omega] at f3
      rw [f3, ← e3, hj]
    · rw [show j / 4 * 4 + 3 = j by omega] at e4
      rw [show off + j / 4 * 4 + 3 = off + j by omega] at f4
      rw [f4, ← e4, hj]
end Go.Proofs.YtcjblhiihgdljaaGreat
