/- The four variables that chapter 11's rows list: what they give a walk, and a world that holds them. -/
import Derived.Test.YtjdnemjcjodboaaDoorRows
import Derived.Test.YtjdnemjcjodboaaDoorLaidMarks
import Derived.Test.YtjdnemjcjodboaaDoorMaxLaid
import Derived.Lib.LaidU8T
namespace Go.Proofs.YtjdnemjcjodboaaDoor
open Go.ChangeShapes Go.WideShapes Go.ChangeAt Go.RowKit Go.Lib

def laidRob : List (String × DataW Unit) := [("unicode/utf8.acceptRanges", Rows.laid_unicode_utf8_acceptRanges), ("loop.example/g00191/impl.plainMarks", Rows.laid_loop_example_g00191_impl_plainMarks), ("loop.example/g00191/impl.keptMarks", Rows.laid_loop_example_g00191_impl_keptMarks), ("unicode/utf8.first", Rows.laid_unicode_utf8_first)]

theorem rob_marks {W : World} (hL : laidMet Tryd.prog laidRob W) : Marks W := by
  unfold laidRob at hL
  rw [plain_data, kept_data] at hL
  have h1 := bools_of_reads (P := Tryd.prog) (g := 0) (t := 91) (e := 4) (by kernel_rfl) (by kernel_rfl) (by kernel_rfl) (by kernel_rfl) (by kernel_rfl) (Lib.laidMet.reads hL (.tail _ (.head _)))
  have h2 := bools_of_reads (P := Tryd.prog) (g := 1) (t := 91) (e := 4) (by kernel_rfl) (by kernel_rfl) (by kernel_rfl) (by kernel_rfl) (by kernel_rfl) (Lib.laidMet.reads hL (.tail _ (.tail _ (.head _))))
  exact fun c hc => ⟨h1 c hc, h2 c hc⟩

def putCells4 (cs : Array Value) : Obj → Obj
  | .cells _ t frozen => .cells cs t frozen
  | o => o
/-- The heap of the witness: the four variables hold what their initialisers lay. -/
def robHeap (h : Array Obj) : Array Obj :=
  ((marksHeap h).modify 3 (putCells4 (Lib.firstTab.map fun z => Value.int .u8 z).toArray)).modify 4 (putCells4 ((List.range 16).flatMap fun i => [Value.int .u8 (Lib.accLo i), Value.int .u8 (Lib.accHi i)]).toArray)
theorem rob_met (os : Os) (args : Array Value) : laidMet Tryd.prog laidRob (({ World.holding Tryd.prog os ⟨#[], #[], []⟩ with heap := robHeap (World.holding Tryd.prog os ⟨#[], #[], []⟩).heap } : World).forCall (fun _ _ => 0) ⟨#[], args, []⟩).memory :=
  (LaidIn.of_run (l := laidRob) [4, 0, 1, 3] 8 (by kernel_rfl) (by kernel_rfl) (by kernel_rfl) (by kernel_rfl)).met
end Go.Proofs.YtjdnemjcjodboaaDoor
