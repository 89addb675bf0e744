/- A block of cells, whole: its type and what it holds. -/
import Derived.Test.YtcjblhiihgdljaaGreatRows
import Derived.Test.YtcjblhiihgdljaaGreatBlockAt
import Derived.Test.YtcjblhiihgdljaaGreatOnlyIn
import Derived.Laws.Rows
namespace Go.Proofs.YtcjblhiihgdljaaGreat
open Go.RowKit
set_option linter.unusedVariables false

def OAt (W : World) (B : Nat) (t : TypeId) (vs : List Value) : Prop := W.heap[B]? = some (.cells vs.toArray t (0, 0))
theorem OAt.lt {W : World} {B : Nat} {t : TypeId} {vs : List Value} (h : OAt W B t vs) : B < W.heap.size := (Array.getElem?_eq_some_iff.1 h).1
theorem OAt.bat {W : World} {B : Nat} {t : TypeId} {vs : List Value} (h : OAt W B t vs) : BAt W B vs :=
  ⟨fun j v hv => by rw [cell_of_row W B j _ _ (0, 0) h]; simpa using hv, fun j => frozen_of_row _ _ _ _ _ h, h.lt⟩
theorem OAt.new (W : World) (t : TypeId) (vs : List Value) : OAt (W.alloc (.cells vs.toArray t)) W.heap.size t vs := heap_alloc_new W _
theorem OAt.same {W W' : World} {B : Nat} {t : TypeId} {vs : List Value} (h : OAt W B t vs) (hs : W'.heap[B]? = W.heap[B]?) : OAt W' B t vs := hs.trans h
theorem OAt.below {W W' : World} {B : Nat} {t : TypeId} {vs : List Value} (h : OAt W B t vs) (hb : Below W.heap.size W W') : OAt W' B t vs := h.same (hb.block B h.lt)
theorem OAt.kept {W W' : World} {B : Nat} {t : TypeId} {vs : List Value} {row : Option Nat} (h : OAt W B t vs) (hg : W.grownBy W' row) (hne : some B ≠ row) : OAt W' B t vs := h.same (hg.block B h.lt hne)
theorem OAt.set {W : World} {B : Nat} {t : TypeId} {vs : List Value} (h : OAt W B t vs) (j : Nat) (x : Value) : OAt (W.setCell ⟨B, j, none⟩ x) B t (vs.set j x) := by
  have := heap_setCell_same W B j _ t x h
  unfold OAt
  rw [this]
  simp
theorem OAt.other {W : World} {B C : Nat} {t : TypeId} {vs : List Value} (h : OAt W B t vs) (hne : B ≠ C) (j : Nat) (x : Value) : OAt (W.setCell ⟨C, j, none⟩ x) B t vs := h.same (Below.heap_setCell _ _ _ _ hne)
/-- A block of one type is no row of another. -/
theorem OAt.no_row {W : World} {B : Nat} {t e : TypeId} {vs : List Value} (h : OAt W B t vs) (ht : t ≠ e) {base size n : Nat} {v : Value} {xs : List Value} (ho : W.ownsRow base e size v n xs) : v.ownBlock ≠ some B := fun hb => by
  obtain ⟨c, f, g⟩ := own_ty ho hb
  rw [show W.heap[B]? = _ from h] at g
  injection g with g
  injection g with _ g2
  exact ht g2
theorem OAt.ne {W : World} {B C : Nat} {t t' : TypeId} {vs vs' : List Value} (h : OAt W B t vs) (h' : OAt W C t' vs') (ht : t ≠ t') : B ≠ C := fun e => by
  subst e
  have h2 : some (Obj.cells vs.toArray t (0, 0)) = some (.cells vs'.toArray t' (0, 0)) := h.symm.trans h'
  injection h2 with h2
  injection h2 with _ h3
  exact ht h3
end Go.Proofs.YtcjblhiihgdljaaGreat
