/- Contracts of spec.Percent and impl.Percent. -/
import Derived.Test.YtbjidcejpdeegaaRows
import Derived.Test.YtbjidcejpdeegaaPutPct
import Derived.Test.YtbjidcejpdeegaaKeepSpec
namespace Go.Proofs.Ytbjidcejpdeegaa
open Go.RowKit

theorem kept_yes {set : Int} {c : UInt8} (h : keepN set c.toNat = true) : keptB set c = [c] := by unfold keptB; rw [h]; rfl
theorem kept_no {set : Int} {c : UInt8} (h : keepN set c.toNat = false) : keptB set c = putB c := by unfold keptB; rw [h]; rfl

theorem pc_snoc (set : Int) (s : ByteArray) (k : Nat) (h : k < s.size) : pcL set (s.data.toList.take (k + 1)) = pcL set (s.data.toList.take k) ++ keptB set s[k] := by
  rw [take_snoc s k h]
  unfold pcL
  rw [List.flatMap_append]
  simp
theorem pc_take_len (set : Int) (s : ByteArray) (k : Nat) : (pcL set (s.data.toList.take k)).length ≤ 3 * k := by
  have h1 := (pc_len set (s.data.toList.take k)).2
  have h2 : (s.data.toList.take k).length ≤ k := List.length_take_le _ _
  omega


end Go.Proofs.Ytbjidcejpdeegaa
