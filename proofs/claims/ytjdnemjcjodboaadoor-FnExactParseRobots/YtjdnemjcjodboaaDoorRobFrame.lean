/- Two answers of ParseRobots in two variables, and what leaves them. -/
import Derived.Test.YtjdnemjcjodboaaDoorRows
import Derived.Test.YtjdnemjcjodboaaDoorRobOwn
import Derived.Test.YtjdnemjcjodboaaDoorBlockAt
namespace Go.Proofs.YtjdnemjcjodboaaDoor
open Go.RowKit

structure RobSt (w W : World) (p1 B2 p2 : Nat) (v1 v2 : Value) (R X : List PT) : Prop where
  a1 : BAt W p1 [v1]
  a2 : BAt W p2 [v2]
  r1 : RobOwn W w.heap.size p1 v1 R
  r2 : RobOwn W B2 p2 v2 X
  b : Below w.heap.size w W
  l1 : p1 < B2
  l2 : B2 ≤ p2
  l3 : p2 < W.heap.size
theorem RobSt.only {w W W' : World} {p1 B2 p2 : Nat} {v1 v2 : Value} {R X X' : List PT} (h : RobSt w W p1 B2 p2 v1 v2 R X) (ho : Only B2 p2 W W') (hr : RobOwn W' B2 p2 v2 X') (hw : w.heap.size ≤ B2) : RobSt w W' p1 B2 p2 v1 v2 R X' := by
  have l1 := h.l1
  have l2 := h.l2
  have l3 := h.l3
  exact ⟨h.a1.same ho.size (ho.block _ (by omega) (.inl (by omega))), h.a2.same ho.size (ho.block _ (by omega) (.inr (by omega))), h.r1.same fun b _ hb => ho.block b (by omega) (.inl (by omega)), hr, h.b.trans ((ho.below (by omega)).mono hw), h.l1, h.l2, Nat.lt_of_lt_of_le h.l3 ho.size⟩
theorem RobSt.below {w W W' : World} {p1 B2 p2 : Nat} {v1 v2 : Value} {R X : List PT} (h : RobSt w W p1 B2 p2 v1 v2 R X) (hb : Below W.heap.size W W') : RobSt w W' p1 B2 p2 v1 v2 R X := by
  have l1 := h.l1
  have l2 := h.l2
  have l3 := h.l3
  exact ⟨h.a1.below hb, h.a2.below hb, h.r1.below (by omega) hb, h.r2.below (by omega) hb, h.b.trans (hb.mono h.b.size), h.l1, h.l2, Nat.lt_of_lt_of_le h.l3 hb.size⟩
theorem RobSt.new {w w1 U1 w2 U2 : World} {v1 v2 : Value} {R : List PT} (hU1 : U1 = w1.alloc (.cells #[v1] 26)) (hU2 : U2 = w2.alloc (.cells #[v2] 26)) (r1 : RobOwn w1 w.heap.size w1.heap.size v1 R) (b1 : Below w.heap.size w w1)
    (r2 : RobOwn w2 U1.heap.size w2.heap.size v2 R) (b2 : Below U1.heap.size U1 w2) : RobSt w U2 w1.heap.size U1.heap.size w2.heap.size v1 v2 R R := by
  have bU1 : Below w1.heap.size w1 U1 := by rw [hU1]; exact (Below.refl _ _).alloc (Nat.le_refl _) _
  have bU2 : Below w2.heap.size w2 U2 := by rw [hU2]; exact (Below.refl _ _).alloc (Nat.le_refl _) _
  have z1 : U1.heap.size = w1.heap.size + 1 := by rw [hU1]; simp
  have z2 : U2.heap.size = w2.heap.size + 1 := by rw [hU2]; simp
  have A1 : BAt U1 w1.heap.size [v1] := by rw [hU1]; exact BAt.new w1 #[v1] _
  have A2 : BAt U2 w2.heap.size [v2] := by rw [hU2]; exact BAt.new w2 #[v2] _
  have s1 := b1.size
  have s2 := b2.size
  have bt := (bU1.trans (b2.mono bU1.size)).trans (bU2.mono (by omega))
  exact ⟨(A1.below b2).below bU2, A2, r1.below (Nat.le_refl _) bt, r2.below (Nat.le_refl _) bU2, b1.trans (bt.mono s1), by omega, by omega, by omega⟩
end Go.Proofs.YtjdnemjcjodboaaDoor
