/- Contracts of the laws' own helpers over rows of ints: toIntS, eqIntS. -/
import Derived.Test.YtamnhegianpedaaGreatDoorRows
import Derived.Test.YtamnhegianpedaaGreatDoorBase
import Derived.BigQuiet
import Derived.Deep.QuietTactic
namespace Go.Proofs.YtamnhegianpedaaGreatDoor
open Go.RowKit

/-- A slice of ints that came in: its numbers. -/
def InRow (w : World) (ao : Option Addr) (n : Nat) (zl : List Int) : Prop :=
  zl.length = n ∧ (n = 0 ∨ ∃ b off, ao = some ⟨b, off, none⟩ ∧ b < w.heap.size ∧ ∀ i, i < n → w.cell? ⟨b, off + i, none⟩ = some (.int .i64 (zl.getD i 0)))

theorem InRow.below {w w' : World} {ao : Option Addr} {n : Nat} {zl : List Int} (h : InRow w ao n zl) (hb : Below w.heap.size w w') : InRow w' ao n zl := by
  refine ⟨h.1, ?_⟩
  rcases h.2 with h0 | ⟨b, off, h1, h2, h3⟩
  · exact .inl h0
  · exact .inr ⟨b, off, h1, Nat.lt_of_lt_of_le h2 hb.size, fun i hi => (hb.cell (p := ⟨b, off + i, none⟩) h2).trans (h3 i hi)⟩

theorem Tryz.infoInt : (Tryz.prog.info? 3).map (fun i => (i.zero, i.size, i.bytes)) = some (some (.int .i64 0), 1, 8) := by kernel_rfl

theorem to_set (zl : List Int) (k : Nat) (h : k < zl.length) (x : Value) (xs : List Value) :
    (icells (zl.take k) ++ x :: xs).set k (.int .i64 (zl.getD k 0)) = icells (zl.take (k + 1)) ++ xs := by
  rw [List.set_append_right _ _ (by simp [icells]; omega), ztake_snoc zl k h, icells_snoc]
  simp [icells, Nat.min_eq_left (Nat.le_of_lt h)]




def imarks (k0 n : Nat) : List Int := (List.range n).map fun i => ((k0 + i : Nat) : Int)

theorem imarks_succ (k0 n : Nat) : imarks k0 (n + 1) = imarks k0 n ++ [((k0 + n : Nat) : Int)] := by simp [imarks, List.range_succ]

theorem imarks_length (k0 n : Nat) : (imarks k0 n).length = n := by simp [imarks]

theorem imarks_at (k0 n k : Nat) (h : k < n) : (imarks k0 n).getD k 0 = ((k0 + k : Nat) : Int) := by simp [imarks, List.getD, h]

theorem imarks_set (k0 : Nat) (xs : List Value) (k : Nat) (h : k < xs.length) (x : Int) (hx : x = ((k0 + k : Nat) : Int)) :
    (icells (imarks k0 k) ++ xs.drop k).set k (.int .i64 x) = icells (imarks k0 (k + 1)) ++ xs.drop (k + 1) := by
  subst hx
  rw [List.set_append_right _ _ (by simp [icells_length, imarks_length])]
  rw [imarks_succ, icells_snoc]
  simp only [icells_length, imarks_length, Nat.sub_self, List.append_assoc, List.append_cancel_left_eq]
  rw [List.drop_eq_getElem_cons h]
  rfl


end Go.Proofs.YtamnhegianpedaaGreatDoor
