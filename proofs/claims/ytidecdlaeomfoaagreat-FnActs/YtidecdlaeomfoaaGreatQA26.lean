/- Endless, ThrWalk. -/
import Derived.RangeFuncNested
import Derived.RangeFuncBound
import Derived.RangeFuncCalls
import Derived.RangeFuncLeaves
import Derived.Test.YtidecdlaeomfoaaGreatQA04
import Derived.RangeFuncBox
import Derived.Shelf.Abstract
import Derived.Shelf.RegionOpen
import Derived.OwnWalkIn
import Derived.TacticsInMore
import Derived.LoopNIn
import Derived.LoopIn
import Derived.Maps.AppendAt
namespace Go.Proofs.YtidecdlaeomfoaaGreat
open Go.RowKit
def LoopAt (W : World) (b : Nat) (r : Loop) : Prop := W.heap[b + 1]? = some (.loop r) ∧ W.heap[b]? = some (.deferred (some []))
theorem LoopAt.put {W : World} {b : Nat} {r : Loop} (h : LoopAt W b r) (r' : Loop) : LoopAt (W.putObj (b + 1) (.loop r')) b r' :=
 ⟨World.putObj_heap_same (Array.getElem?_eq_some_iff.1 h.1).1, (World.putObj_heap_other (by omega)).trans h.2⟩
theorem OwnFrom.put {β : Type} {b : Nat} {I : β → World → Prop} (h : OwnFrom b I) {s : β} {W : World} {r : Loop} (hl : LoopAt W b r) (o : Obj) (hs : I s W) : I s (W.putObj (b + 1) o) :=
 h.putObj o hs (by omega) hl.1 rfl
end Go.Proofs.YtidecdlaeomfoaaGreat
namespace Go.Proofs.YtidecdlaeomfoaaGreat
open Go.RowKit Go.Shelf
attribute [local go_sem] Oper.semAt_some
end Go.Proofs.YtidecdlaeomfoaaGreat
