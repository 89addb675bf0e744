/- A block of six cells that is stored whole. -/
import Derived.Test.YtcjblhiihgdljaaGreatRows
import Derived.Test.YtcjblhiihgdljaaGreatBlockAt
import Derived.Test.YtcjblhiihgdljaaGreatOnlyIn
namespace Go.Proofs.YtcjblhiihgdljaaGreat
open Go.RowKit
set_option linter.unusedVariables false

/-- Six cells of a block are stored. -/
def six (W : World) (B : Nat) (a b c d e f : Value) : World := (((((W.setCell ⟨B, 0, none⟩ a).setCell ⟨B, 1, none⟩ b).setCell ⟨B, 2, none⟩ c).setCell ⟨B, 3, none⟩ d).setCell ⟨B, 4, none⟩ e).setCell ⟨B, 5, none⟩ f
theorem six_at {W : World} {B : Nat} {a0 b0 c0 d0 e0 f0 : Value} (h : BAt W B [a0, b0, c0, d0, e0, f0]) (a b c d e f : Value) : BAt (six W B a b c d e f) B [a, b, c, d, e, f] :=
  (((((h.set 0 (by simp) a).set 1 (by simp) b).set 2 (by simp) c).set 3 (by simp) d).set 4 (by simp) e).set 5 (by simp) f
theorem six_below {n : Nat} {W0 W : World} {B : Nat} (h : Below n W0 W) (hn : n ≤ B) (a b c d e f : Value) : Below n W0 (six W B a b c d e f) :=
  (((((h.setCell hn a).setCell hn b).setCell hn c).setCell hn d).setCell hn e).setCell hn f
theorem six_size (W : World) (B : Nat) (a b c d e f : Value) : (six W B a b c d e f).heap.size = W.heap.size := by simp [six]
theorem six_block (W : World) (B : Nat) (a b c d e f : Value) {k : Nat} (h : k ≠ B) : (six W B a b c d e f).heap[k]? = W.heap[k]? := by
  unfold six
  rw [Below.heap_setCell _ _ _ _ h, Below.heap_setCell _ _ _ _ h, Below.heap_setCell _ _ _ _ h, Below.heap_setCell _ _ _ _ h, Below.heap_setCell _ _ _ _ h, Below.heap_setCell _ _ _ _ h]
theorem six_grown (W : World) (B : Nat) (a b c d e f : Value) : W.grownBy (six W B a b c d e f) (some B) :=
  ((((((put_grown W B 0 a).trans (put_grown _ B 1 b)).trans (put_grown _ B 2 c)).trans (put_grown _ B 3 d)).trans (put_grown _ B 4 e)).trans (put_grown _ B 5 f))
end Go.Proofs.YtcjblhiihgdljaaGreat
