/- Lines that came in as an argument. -/
import Derived.Test.YtfdgehlobbeomaaDoorRows
import Derived.Test.YtfdgehlobbeomaaDoorRobSz
import Derived.OpenShut
import Derived.Deep.Strs
import Derived.Deep.Slices
import Derived.Deep.SlicePairs
namespace Go.Proofs.YtfdgehlobbeomaaDoor
open Go.RowKit Go.WideShapes Go.ChangeShapes
set_option maxRecDepth 100000

section
variable {H : Type} {enc : TypeId × Value → H} {W : World} {base : Nat} {sp : Nat → Bool} {held : Bool}
theorem spot_none {W : World} {a : Addr} {v : Value} (h : W.cell? (a.add 0) = some v) : a = ⟨a.block, a.off, none⟩ := by
  obtain ⟨b, off, spot⟩ := a
  have hspot : spot = none := by simpa [Addr.add] using World.cell?_spot h
  subst hspot
  rfl
theorem getD_map {α : Type} (d : α) (f : Nat → α) (n i : Nat) (h : i < n) : ((List.range n).map f).getD i d = f i := by simp [List.getD, h]
end
end Go.Proofs.YtfdgehlobbeomaaDoor
