/- Contract of spec.PunyDecode, of a text past its length. -/
import Derived.Test.YtcgjabbjpalmkaaDoorRows
import Derived.Test.YtcgjabbjpalmkaaDoorPunyDecWalk
namespace Go.Proofs.YtcgjabbjpalmkaaDoor
open Go.RowKit

theorem specPunyDecode_big (s : ByteArray) (w : World) (h : 600 < (s.size : Int)) :
    Calls Tryd.prog 55 #[.string s] w fun e w' => decAns w w' none e ∧ Below w.heap.size w w' := by
  go_enter Tryd.func55, Tryd.ntmps55
  go_wp2
  go_ret2
  exact ⟨decAns_none rfl (World.ownsRow_lit w #[] 0 (Nat.le_refl _) (by decide) rfl) rfl, (Below.refl _ _).alloc (Nat.le_refl _) _⟩
end Go.Proofs.YtcgjabbjpalmkaaDoor
