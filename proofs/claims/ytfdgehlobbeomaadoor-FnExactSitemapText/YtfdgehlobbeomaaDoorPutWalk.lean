/- Contracts of spec.l1IsRune, spec.l1Put, impl.isRune. -/
import Derived.Test.YtfdgehlobbeomaaDoorRows
import Derived.Test.YtfdgehlobbeomaaDoorLowerWalk
import Derived.Test.YtfdgehlobbeomaaDoorShelf
import Derived.Test.YtfdgehlobbeomaaDoorBits
import Derived.Lib.RuneBytes
import Derived.BigQuiet
import Derived.Deep.QuietTactic
import Derived.Test.YtfdgehlobbeomaaDoorRuneOk
namespace Go.Proofs.YtfdgehlobbeomaaDoor
open Go.RowKit

theorem enc_cells (r : Int) : Lib.runeCells r = bcells (Lib.encodeRune r) := by
  rw [← Lib.byteCells_encodeRune]
  rfl

theorem enc_length (r : Int) : 1 ≤ (Lib.encodeRune r).length ∧ (Lib.encodeRune r).length ≤ 4 := by
  have := Lib.runeCells_le r
  rw [Lib.runeCells_length] at this
  exact this

theorem put_step {w1 : World} {B : Nat} {e : TypeId} {v : Value} {n m : Nat} {l : List UInt8} {cs : List Value} (r : Int) (hcs : cs = Lib.runeCells r) (hm : cs.length = m)
    (h : w1.ownsRow B e 1 v (n + m) (bcells l ++ cs)) : w1.ownsRow B e 1 v (n + (Lib.encodeRune r).length) (bcells (l ++ Lib.encodeRune r)) := by
  subst hcs
  rw [Lib.runeCells_length] at hm
  rw [bcells_append, ← enc_cells, hm]
  exact h

theorem ints_one (cs : List Int) : ∀ u ∈ (cs.map (Value.int .u8)), u.oneCell' = true := by
  intro u hu
  obtain ⟨_, _, rfl⟩ := List.mem_map.1 hu
  rfl

end Go.Proofs.YtfdgehlobbeomaaDoor
