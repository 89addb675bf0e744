/- Package bytealg's variable. -/
import Derived.Test.YtjdmmmohaiiocaaDoorRows
import Derived.Test.YtjdmmmohaiiocaaDoorBase
import Derived.Test.YtjdmmmohaiiocaaDoorShelf
import Derived.ProofKit
namespace Go.Proofs.YtjdmmmohaiiocaaDoor
open Go.RowKit

/-- Package bytealg's variable holds some int. -/
def MaxI (w : World) : Prop := ∃ m, w.cell? ⟨1, 0, none⟩ = some (.int .i64 m)
theorem max_shaped {w : World} (h : w.ShapedOpen Tryd.prog) : MaxI w := Tryd.laysM145.s1_3 w h
theorem max_below {w w' : World} (h : MaxI w) (hb : Below w.heap.size w w') : MaxI w' := by
  obtain ⟨m, hm⟩ := h
  exact ⟨m, cell_later hb hm⟩

end Go.Proofs.YtjdmmmohaiiocaaDoor
