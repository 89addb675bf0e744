/- Contracts of the laws' helpers that measure marks. -/
import Derived.Test.YtdnlaijpgjpplaaRows
import Derived.Test.YtdnlaijpgjpplaaEntRow
import Derived.Test.YtdnlaijpgjpplaaSumZ
import Derived.Test.YtdnlaijpgjpplaaBlockAt
import Derived.Handy
import Derived.Deep.DeepCutAuto
namespace Go.Proofs.Ytdnlaijpgjpplaa
open Go.RowKit
set_option linter.unusedVariables false

def sumEn (l : List EV) : Nat := l.length + psum (fun i => (l.getD i ev0).s.size) l.length
def EMx (l : List EV) : Prop := l.length ≤ maxLen ∧ ∀ i, i < l.length → (l.getD i ev0).s.size ≤ maxLen
/-- A row of rows of marks. -/
def RunRow (w : World) (v : Value) (ll : List (List EV)) : Prop :=
  (ll = [] ∧ ∃ ao cap, v = .slice ao 0 cap) ∨ (0 < ll.length ∧ ∃ g off cap, v = .slice (some ⟨g, off, none⟩) ll.length (ll.length + cap) ∧ g < w.heap.size ∧ ∀ i, i < ll.length → ∃ x, w.cell? ⟨g, off + i, none⟩ = some x ∧ EntRow w x (ll.getD i []))
theorem RunRow.same {w w' : World} {v : Value} {ll : List (List EV)} (h : RunRow w v ll) (hs : w.heap.size ≤ w'.heap.size) (hb : ∀ k, k < w.heap.size → w'.heap[k]? = w.heap[k]?) : RunRow w' v ll := by
  rcases h with h | ⟨h0, g, off, cap, h1, h2, h3⟩
  · exact .inl h
  · refine .inr ⟨h0, g, off, cap, h1, by omega, fun i hi => ?_⟩
    obtain ⟨x, a1, a2⟩ := h3 i hi
    exact ⟨x, (World.cell?_of_block (w := w) (a := ⟨g, off + i, none⟩) (hb g h2)).trans a1, a2.same hs hb⟩
theorem RunRow.below {w w' : World} {v : Value} {ll : List (List EV)} (h : RunRow w v ll) (hb : Below w.heap.size w w') : RunRow w' v ll := h.same hb.size hb.block
theorem RunRow.slice {w : World} {v : Value} {ll : List (List EV)} (h : RunRow w v ll) : ∃ ao cap, v = .slice ao ll.length cap := by
  rcases h with ⟨rfl, ao, cap, rfl⟩ | ⟨_, g, off, cap, h1, _⟩
  · exact ⟨ao, cap, rfl⟩
  · exact ⟨_, _, h1⟩
def RMx (ll : List (List EV)) : Prop := ll.length ≤ maxLen ∧ ∀ i, i < ll.length → EMx (ll.getD i [])
def sumR (ll : List (List EV)) : Nat := ll.length + psum (fun i => sumEn (ll.getD i [])) ll.length
end Go.Proofs.Ytdnlaijpgjpplaa
