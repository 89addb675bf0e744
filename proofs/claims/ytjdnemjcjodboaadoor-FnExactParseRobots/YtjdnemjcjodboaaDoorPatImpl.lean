/- The contract of the code's PatternOf. -/
import Derived.Test.YtjdnemjcjodboaaDoorRows
import Derived.Test.YtjdnemjcjodboaaDoorPlainlyWalk
import Derived.Test.YtjdnemjcjodboaaDoorRobPlain
namespace Go.Proofs.YtjdnemjcjodboaaDoor
open Go.RowKit

theorem implPatternOf (s : ByteArray) (w : World) (hM : Marks w) (hs : s.size ≤ 4294967296) :
    Calls Tryd.prog 10 #[.string s] w fun e w' => e = .returned (.string ⟨(plL 2 s.data.toList).toArray⟩) ∧ Below w.heap.size w w' := by
  have CP : Hid (Calls Tryd.prog 27 #[.string s, .int .i64 2] w fun e w' => e = .returned (.string ⟨(plL 2 s.data.toList).toArray⟩) ∧ Below w.heap.size w w') := implPlainly s 2 w hM hs
  clear hM
  generalize plL 2 s.data.toList = R at *
  go_enter Tryd.func10, Tryd.ntmps10
  go_wp2_with fail
  refine CP.out.mono ?_
  rintro e w1 ⟨rfl, b1⟩
  go_wp2_with fail
  go_ret
  exact ⟨rfl, b1⟩
end Go.Proofs.YtjdnemjcjodboaaDoor
