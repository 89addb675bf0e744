/- How far the marks of parts go. -/
import Derived.Test.YtjdnemjcjodboaaDoorRows
import Derived.Test.YtjdnemjcjodboaaDoorRobMark2
import Derived.Test.YtjdnemjcjodboaaDoorRobLen
namespace Go.Proofs.YtjdnemjcjodboaaDoor
open Go.RowKit

theorem kP_le (k0 : Nat) (l : List PT) : ∀ k, k ≤ l.length → kP k0 l k ≤ k0 + 2 * psum (fun i => sumT (l.getD i pt0)) k
  | 0, _ => by simp [kP, psum]
  | k + 1, hk => by
    have h1 := kP_le k0 l k (by omega)
    have e2 : sumT (l.getD k pt0) = sumS (l.getD k pt0).ag + sumL (l.getD k pt0).ln := rfl
    have e3 : (l.getD k pt0).ln.length ≤ sumL (l.getD k pt0).ln := Nat.le_add_right _ _
    have e4 : (l.getD k pt0).ag.length ≤ sumS (l.getD k pt0).ag := Nat.le_add_right _ _
    show kP k0 l k + (l.getD k pt0).ag.length + 2 * (l.getD k pt0).ln.length ≤ k0 + 2 * (psum _ k + sumT (l.getD k pt0))
    omega
theorem kP_most {l : List PT} (hN : sumP l ≤ 1048576) : kP 1 l l.length ≤ 1000000000 := by
  have h := kP_le 1 l l.length (Nat.le_refl _)
  unfold sumP at hN
  omega
end Go.Proofs.YtjdnemjcjodboaaDoor
