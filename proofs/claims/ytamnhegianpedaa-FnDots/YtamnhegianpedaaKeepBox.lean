/- Plain laws of a variable's box that holds a row of texts, with a block beside them that must stay. -/
import Derived.Test.YtamnhegianpedaaDotPlain
import Derived.RangeFuncBox
namespace Go.Proofs.Ytamnhegianpedaa
open Go.RowKit

/-- The box B holds a slice that owns the texts 'out', in no block below n0 and not in g. -/
def KeepI (tb te : TypeId) (n0 B g : Nat) (out : List ByteArray) (W : World) : Prop :=
  ∃ v, Boxed W B tb v ∧ W.ownsRow n0 te 1 v out.length (scells out) ∧ some g ≠ v.ownBlock ∧ g < W.heap.size

theorem grown_of {w w' : World} (hb : Below w.heap.size w w') : w.grownBy w' none := ⟨hb.os, hb.tape, hb.output, hb.size, fun k hk _ => hb.block k hk⟩
theorem box_below {W W' : World} {B : Nat} {t : TypeId} {v : Value} (h : Boxed W B t v) (hb : Below W.heap.size W W') : Boxed W' B t v := h.kept (grown_of hb) (by simp)
theorem keepI_below {tb te : TypeId} {n0 B g : Nat} {out : List ByteArray} {W W' : World} (h : KeepI tb te n0 B g out W) (hb : Below W.heap.size W W') : KeepI tb te n0 B g out W' := by
  obtain ⟨v, h1, h2, h3, h4⟩ := h
  refine ⟨v, box_below h1 hb, h2.kept (grown_of hb) (by cases hv : v.ownBlock <;> simp), h3, Nat.lt_of_lt_of_le h4 hb.size⟩

/-- Behind the append and the store. -/
theorem keepI_put {tb te : TypeId} (hte : tb ≠ te) {n0 B g : Nat} {out : List ByteArray} {x : ByteArray} {W w1 : World} {v v' : Value} (hgB : g ≠ B) (hB : n0 ≤ B) (hn : n0 ≤ W.heap.size)
    (h1 : Boxed W B tb v) (h2 : W.ownsRow n0 te 1 v out.length (scells out)) (h3 : some g ≠ v.ownBlock) (h4 : g < W.heap.size)
    (o : w1.ownsRow n0 te 1 v' (out.length + 1) (scells out ++ [.string x])) (hgr : W.grownBy w1 v.ownBlock) (hat : v'.ownBlock = v.ownBlock ∨ v'.ownBlock = some (W.heap.size + 1)) :
    Boxed w1 B tb v ∧ KeepI tb te n0 B g (out ++ [x]) (w1.setCell ⟨B, 0, none⟩ v') ∧ (w1.setCell ⟨B, 0, none⟩ v').heap[g]? = W.heap[g]? ∧ Below n0 W (w1.setCell ⟨B, 0, none⟩ v') := by
  have hb1 : Boxed w1 B tb v := h1.kept hgr (h1.not_row hte h2)
  have hgs := grownBy_setCell' w1 B v'
  refine ⟨hb1, ⟨v', hb1.set v', ?_, ?_, ?_⟩, ?_, ?_⟩
  · rw [scells_snoc, List.length_append]
    exact o.kept hgs (.inr (hb1.not_row hte o).symm)
  · rcases hat with h | h
    · rw [h]; exact h3
    · rw [h]; intro e; cases e; omega
  · exact Nat.lt_of_lt_of_le (Nat.lt_of_lt_of_le h4 hgr.size) hgs.size
  · rw [hgs.block g (Nat.lt_of_lt_of_le h4 hgr.size) (fun e => hgB (by cases e; rfl)), hgr.block g h4 h3]
  · refine ((Below.refl n0 W).grown hgr hn fun j ej => ?_).setCell (p := ⟨B, 0, none⟩) hB v'
    exact (h2.lt j ej).1

/-- Behind the store of a shorter slice. -/
theorem keepI_cut {tb te : TypeId} (hte : tb ≠ te) {n0 B g b cap : Nat} {out : List ByteArray} {W : World} (m : Nat) (hm : m ≤ out.length) (hgB : g ≠ B) (hB : n0 ≤ B)
    (h1 : Boxed W B tb (.slice (some ⟨b, 0, none⟩) out.length cap)) (h2 : W.ownsRow n0 te 1 (.slice (some ⟨b, 0, none⟩) out.length cap) out.length (scells out)) (h3 : some g ≠ (Value.slice (some ⟨b, 0, none⟩) out.length cap).ownBlock) (h4 : g < W.heap.size) :
    KeepI tb te n0 B g (out.take m) (W.setCell ⟨B, 0, none⟩ (.slice (some ⟨b, 0, none⟩) m cap)) ∧ (W.setCell ⟨B, 0, none⟩ (.slice (some ⟨b, 0, none⟩) m cap)).heap[g]? = W.heap[g]? ∧ Below n0 W (W.setCell ⟨B, 0, none⟩ (.slice (some ⟨b, 0, none⟩) m cap)) := by
  have hgs := grownBy_setCell' W B (.slice (some ⟨b, 0, none⟩) m cap)
  have o := own_take h2 m hm
  rw [scells_take] at o
  refine ⟨⟨_, h1.set _, ?_, h3, Nat.lt_of_lt_of_le h4 hgs.size⟩, hgs.block g h4 (fun e => hgB (by cases e; rfl)), (Below.refl n0 W).setCell (p := ⟨B, 0, none⟩) hB _⟩
  rw [List.length_take, Nat.min_eq_left hm]
  exact o.kept hgs (.inr (h1.not_row hte o).symm)

/-- A block that stays keeps its cells. -/
theorem cell_same {W W' : World} {g : Nat} (h : W'.heap[g]? = W.heap[g]?) (j : Nat) : W'.cell? ⟨g, j, none⟩ = W.cell? ⟨g, j, none⟩ := by
  simp only [World.cell?, h]
end Go.Proofs.Ytamnhegianpedaa
