/- A block of memory that holds a row of values and may be written. -/
import Derived.Test.YtcjblhiihgdljaaGreatRows
import Derived.Test.YtcjblhiihgdljaaGreatBase
namespace Go.Proofs.YtcjblhiihgdljaaGreat
open Go.RowKit

/-- The block B holds these values, and may be written. -/
def BAt (W : World) (B : Nat) (vs : List Value) : Prop := (∀ j v, vs[j]? = some v → W.cell? ⟨B, j, none⟩ = some v) ∧ (∀ j, W.frozen? ⟨B, j, none⟩ = false) ∧ B < W.heap.size
theorem BAt.new (w : World) (vs : Array Value) (t : TypeId) : BAt (w.alloc (.cells vs t)) w.heap.size vs.toList := by
  refine ⟨fun j v h => ?_, fun j => frozen_of_row _ _ j _ t (heap_alloc_new w _), by simp⟩
  rw [World.cell?_alloc_at _ _ _ _ rfl]
  simpa using h
theorem BAt.same {W W' : World} {B : Nat} {vs : List Value} (h : BAt W B vs) (hz : W.heap.size ≤ W'.heap.size) (hs : W'.heap[B]? = W.heap[B]?) : BAt W' B vs :=
  ⟨fun j v hv => (World.cell?_of_block (w := W) (a := ⟨B, j, none⟩) hs).trans (h.1 j v hv), fun j => (World.frozen?_of_block (w := W) (a := ⟨B, j, none⟩) hs).trans (h.2.1 j), Nat.lt_of_lt_of_le h.2.2 hz⟩
theorem BAt.below {W W' : World} {B : Nat} {vs : List Value} (h : BAt W B vs) (hb : Below W.heap.size W W') : BAt W' B vs := h.same hb.size (hb.block B h.2.2)
theorem BAt.alloc {W : World} {B : Nat} {vs : List Value} (h : BAt W B vs) (o : Obj) : BAt (W.alloc o) B vs := h.below ((Below.refl _ _).alloc (Nat.le_refl _) o)
theorem BAt.grown {W W' : World} {B C : Nat} {vs : List Value} (h : BAt W B vs) (hg : W.grownBy W' (some C)) (hne : B ≠ C) : BAt W' B vs := h.same hg.size (hg.block B h.2.2 (fun e => hne (by injection e)))
theorem frozen_put (W : World) (B C j i : Nat) (v : Value) (h : W.frozen? ⟨B, i, none⟩ = false) : (W.setCell ⟨C, j, none⟩ v).frozen? ⟨B, i, none⟩ = false := by
  simpa [go_sem] using h
theorem BAt.set {W : World} {B : Nat} {vs : List Value} (h : BAt W B vs) (j : Nat) (hj : j < vs.length) (x : Value) : BAt (W.setCell ⟨B, j, none⟩ x) B (vs.set j x) := by
  refine ⟨fun i v hv => ?_, fun i => frozen_put W B B j i x (h.2.1 i), by have := h.2.2; simpa using this⟩
  by_cases e : j = i
  · subst e
    rw [World.cell?_setCell_same' _ _ _ (by rw [h.1 j _ (List.getElem?_eq_getElem hj)]; rfl)]
    rw [List.getElem?_set_self hj] at hv
    exact hv
  · rw [World.cell?_setCell_other _ _ _ _ (fun h => e (by injection h)), h.1 i v]
    rwa [List.getElem?_set_ne e] at hv
theorem BAt.other {W : World} {B C : Nat} {vs : List Value} (h : BAt W B vs) (hne : B ≠ C) (j : Nat) (x : Value) : BAt (W.setCell ⟨C, j, none⟩ x) B vs := by
  refine ⟨fun i v hv => ?_, fun i => frozen_put W B C j i x (h.2.1 i), by have := h.2.2; simpa using this⟩
  rw [World.cell?_setCell_other _ _ _ _ (fun h => hne (by injection h with h1 _; exact h1.symm))]
  exact h.1 i v hv
theorem put_grown (W : World) (C j : Nat) (x : Value) : W.grownBy (W.setCell ⟨C, j, none⟩ x) (some C) :=
  have b := (Below.refl C W).setCell (p := ⟨C, j, none⟩) (Nat.le_refl _) x
  ⟨b.os, b.tape, b.output, b.size, fun k hk hne => heap_setCell_other W ⟨C, j, none⟩ k x (fun e => hne (by rw [e]))⟩
theorem own_put {W : World} {base : Nat} {e : TypeId} {size n : Nat} {v : Value} {xs : List Value} (h : W.ownsRow base e size v n xs) {C : Nat} (hC : C < base) (j : Nat) (x : Value) : (W.setCell ⟨C, j, none⟩ x).ownsRow base e size v n xs :=
  h.kept (put_grown W C j x) (.inr fun e => by have := (h.lt C e).1; omega)
end Go.Proofs.YtcjblhiihgdljaaGreat
