/- Contracts of spec.Fields and impl.Fields: a new row with the texts between the bytes 'by'. -/
import Derived.Test.YtocgdbinfmdkcaaRows
import Derived.Test.YtocgdbinfmdkcaaCloneWalk
namespace Go.Proofs.Ytocgdbinfmdkcaa
open Go.RowKit

def fieldsTo (s : ByteArray) (b : Int) : Nat → List ByteArray × Nat
  | 0 => ([], 0)
  | k + 1 => if ((s.data.toList.getD k 0).toNat : Int) = b then ((fieldsTo s b k).1 ++ [s.extract (fieldsTo s b k).2 k], k + 1) else fieldsTo s b k

def fieldsL (s : ByteArray) (b : Int) : List ByteArray := (fieldsTo s b s.size).1 ++ [s.extract (fieldsTo s b s.size).2 s.size]

theorem fieldsTo_le (s : ByteArray) (b : Int) (k : Nat) : (fieldsTo s b k).2 ≤ k ∧ (fieldsTo s b k).1.length ≤ k := by
  induction k with
  | zero => simp [fieldsTo]
  | succ k ih =>
    unfold fieldsTo
    split
    · simp; omega
    · omega

theorem getD_at (s : ByteArray) (k : Nat) (h : k < s.size) : s.data.toList.getD k 0 = s[k] := by
  have hk : k < s.data.toList.length := by simpa using h
  rw [List.getD_eq_getElem?_getD, List.getElem?_eq_getElem hk]
  rfl

theorem fieldsTo_hit (s : ByteArray) (b : Int) (k : Nat) (h : k < s.size) (e : (s[k].toNat : Int) = b) : fieldsTo s b (k + 1) = ((fieldsTo s b k).1 ++ [s.extract (fieldsTo s b k).2 k], k + 1) := by
  rw [fieldsTo, getD_at s k h, if_pos e]

theorem fieldsTo_miss (s : ByteArray) (b : Int) (k : Nat) (h : k < s.size) (e : ¬ (s[k].toNat : Int) = b) : fieldsTo s b (k + 1) = fieldsTo s b k := by
  rw [fieldsTo, getD_at s k h, if_neg e]

theorem Try.infoStr : (Try.prog.info? 9).map (fun i => (i.zero, i.size, i.bytes)) = some (some (.string ⟨#[]⟩), 1, 16) := by kernel_rfl

theorem str_one (s : ByteArray) : ∀ u ∈ #[Value.string s].toList, u.oneCell' = true := by
  intro u hu; simp at hu; subst hu; rfl

theorem fields_end (s : ByteArray) (b : Int) (k : Nat) (hk : k = s.size) {w1 : World} {B : Nat} {v : Value} {e : TypeId}
    (hown : w1.ownsRow B e 1 v ((fieldsTo s b k).1.length + 1) (scells (fieldsTo s b k).1 ++ [.string (s.extract (fieldsTo s b k).2 k)])) :
    w1.ownsRow B e 1 v (fieldsL s b).length (scells (fieldsL s b)) := by
  subst hk
  unfold fieldsL
  rw [scells_snoc, List.length_append]
  exact hown

theorem fields_hit (s : ByteArray) (b : Int) (k : Nat) (hk : k < s.size) (h : (s[k].toNat : Int) = b) {w1 : World} {B : Nat} {v : Value} {e : TypeId}
    (hown : w1.ownsRow B e 1 v ((fieldsTo s b k).1.length + 1) (scells (fieldsTo s b k).1 ++ [.string (s.extract (fieldsTo s b k).2 k)])) :
    w1.ownsRow B e 1 v (fieldsTo s b (k + 1)).1.length (scells (fieldsTo s b (k + 1)).1) := by
  rw [fieldsTo_hit s b k hk h]
  simp only
  rw [scells_snoc, List.length_append]
  exact hown


end Go.Proofs.Ytocgdbinfmdkcaa
