/- A row of marks that a call owns, and that is sorted in its place: what it is behind an exchange. -/
import Derived.Test.YtdnlaijpgjpplaaRows
import Derived.Test.YtdnlaijpgjpplaaEntRow
import Derived.Test.YtdnlaijpgjpplaaSumZ
import Derived.Test.YtdnlaijpgjpplaaBlockAt
import Derived.BigQuiet
import Derived.Deep.QuietTactic
import Derived.Deep.RegionWith
import Derived.Handy
namespace Go.Proofs.Ytdnlaijpgjpplaa
open Go.RowKit
set_option linter.unusedVariables false

/-- The row g of n marks, owned: nothing but it has turned since w. -/
structure MRw (w W : World) (base g n cap : Nat) (l : List EV) : Prop where
  len : l.length = n
  own : W.ownsRow base 35 2 (.slice (some ⟨g, 0, none⟩) n cap) n (ecells l)
  gr : w.grownBy W (some g)
theorem MRw.below {w W W' : World} {base g n cap : Nat} {l : List EV} (h : MRw w W base g n cap l) (hb : Below W.heap.size W W') : MRw w W' base g n cap l :=
  ⟨h.len, own_below h.own hb, grow_below h.gr hb⟩
theorem MRw.drew {w W : World} {base g n cap : Nat} {l : List EV} (h : MRw w W base g n cap l) : MRw w W.drew base g n cap l := h.below (Below.refl _ _).drew
theorem MRw.cell {w W : World} {base g n cap : Nat} {A B : List EV} {x : EV} {i : Nat} (h : MRw w W base g n cap (A ++ x :: B)) (hi : A.length = i) :
    W.cell? ⟨g, i * 2, none⟩ = some (.string x.s) ∧ W.cell? ⟨g, i * 2 + 1, none⟩ = some (.int .i64 x.k) := by
  have hl := h.len
  have hn : i < n := by rw [← hl, ← hi]; simp
  have e := ecells_at (A ++ x :: B) i (by rw [hl]; exact hn)
  have hg : (A ++ x :: B).getD i ev0 = x := by rw [List.getD_eq_getElem?_getD, ← hi]; simp
  rw [hg] at e
  exact ⟨(h.own.cellAt (i * 2) (by omega)).trans e.1, (h.own.cellAt (i * 2 + 1) (by omega)).trans e.2⟩
theorem MRw.at {w W : World} {base g n cap : Nat} {l : List EV} (h : MRw w W base g n cap l) {i : Nat} (hi : i < n) :
    W.cell? ⟨g, i * 2, none⟩ = some (.string (l.getD i ev0).s) ∧ W.cell? ⟨g, i * 2 + 1, none⟩ = some (.int .i64 (l.getD i ev0).k) := by
  have e := ecells_at l i (by rw [h.len]; exact hi)
  exact ⟨(h.own.cellAt (i * 2) (by omega)).trans e.1, (h.own.cellAt (i * 2 + 1) (by omega)).trans e.2⟩
theorem MRw.fz {w W : World} {base g n cap : Nat} {l : List EV} (h : MRw w W base g n cap l) (j : Nat) : W.frozen? ⟨g, j, none⟩ = false := h.own.frozenAt j
/-- One mark put in its place. -/
theorem MRw.put {w W : World} {base g n cap : Nat} {l : List EV} (h : MRw w W base g n cap l) {i : Nat} (hi : i < n) (x : EV) :
    MRw w ((W.setCell ⟨g, i * 2, none⟩ (.string x.s)).setCell ⟨g, i * 2 + 1, none⟩ (.int .i64 x.k)) base g n cap (l.set i x) := by
  obtain ⟨S1, G1⟩ := h.own.stored (i * 2) (.string x.s)
  obtain ⟨S2, G2⟩ := S1.stored (i * 2 + 1) (.int .i64 x.k)
  rw [ecells_set l i (by rw [h.len]; exact hi) x] at S2
  exact ⟨by rw [List.length_set]; exact h.len, S2, grow_trans (grow_trans h.gr G1) G2⟩
theorem set_two {A B C : List EV} {x y : EV} {i j : Nat} (hi : A.length = i) (hj : A.length + 1 + B.length = j) :
    ((A ++ x :: (B ++ y :: C)).set i y).set j x = A ++ y :: (B ++ x :: C) := by
  subst hi hj
  rw [List.set_append_right _ _ (Nat.le_refl _), Nat.sub_self, List.set_cons_zero, List.set_append_right _ _ (by omega), show A.length + 1 + B.length - A.length = B.length + 1 by omega, List.set_cons_succ, List.set_append_right _ _ (Nat.le_refl _), Nat.sub_self, List.set_cons_zero]
/-- Two marks exchanged, the former first. -/
theorem MRw.swap {w W : World} {base g n cap : Nat} {A B C : List EV} {x y : EV} {i j : Nat} (h : MRw w W base g n cap (A ++ x :: (B ++ y :: C))) (hi : A.length = i) (hj : A.length + 1 + B.length = j) :
    MRw w ((((W.setCell ⟨g, i * 2, none⟩ (.string y.s)).setCell ⟨g, i * 2 + 1, none⟩ (.int .i64 y.k)).setCell ⟨g, j * 2, none⟩ (.string x.s)).setCell ⟨g, j * 2 + 1, none⟩ (.int .i64 x.k)) base g n cap (A ++ y :: (B ++ x :: C)) := by
  have hl := h.len
  simp at hl
  have := (h.put (i := i) (by omega) y).put (i := j) (by omega) x
  rwa [set_two hi hj] at this
/-- .. the latter first. -/
theorem MRw.swap' {w W : World} {base g n cap : Nat} {A B C : List EV} {x y : EV} {i j : Nat} (h : MRw w W base g n cap (A ++ x :: (B ++ y :: C))) (hi : A.length = i) (hj : A.length + 1 + B.length = j) :
    MRw w ((((W.setCell ⟨g, j * 2, none⟩ (.string x.s)).setCell ⟨g, j * 2 + 1, none⟩ (.int .i64 x.k)).setCell ⟨g, i * 2, none⟩ (.string y.s)).setCell ⟨g, i * 2 + 1, none⟩ (.int .i64 y.k)) base g n cap (A ++ y :: (B ++ x :: C)) := by
  have hl := h.len
  simp at hl
  have := (h.put (i := j) (by omega) x).put (i := i) (by omega) y
  rwa [List.set_comm _ _ (by omega), set_two hi hj] at this
end Go.Proofs.Ytdnlaijpgjpplaa
