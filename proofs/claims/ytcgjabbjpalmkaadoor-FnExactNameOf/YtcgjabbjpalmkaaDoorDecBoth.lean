/- PunyDecode of the specification and of the program at whatever text: the same answer. -/
import Derived.Test.YtcgjabbjpalmkaaDoorRows
import Derived.Test.YtcgjabbjpalmkaaDoorPunyDecBig
import Derived.Test.YtcgjabbjpalmkaaDoorDecImpl
import Derived.Test.YtcgjabbjpalmkaaDoorIntMarks
namespace Go.Proofs.YtcgjabbjpalmkaaDoor
open Go.RowKit

theorem decBoth (s : ByteArray) : ∃ r : Option (List Nat), (∀ l, r = some l → encOk l = true ∧ encC l = sN s) ∧
    (∀ w : World, Calls Tryd.prog 55 #[.string s] w fun e w' => decAns w w' r e ∧ Below w.heap.size w w') ∧
    (∀ w : World, Calls Tryd.prog 32 #[.string s] w fun e w' => decAns w w' r e ∧ Below w.heap.size w w') := by
  by_cases h : (s.size : Int) ≤ 600
  · refine ⟨decC (sN s), fun l hl => (dec_iff _ _).1 hl, fun w => specPunyDecode s w h, fun w => implPunyDecode s w h⟩
  · exact ⟨none, fun l hl => (by cases hl), fun w => specPunyDecode_big s w (by omega), fun w => implPunyDecode_big s w (by omega)⟩
end Go.Proofs.YtcgjabbjpalmkaaDoor
