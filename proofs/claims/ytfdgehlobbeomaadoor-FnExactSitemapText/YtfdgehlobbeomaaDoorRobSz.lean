/- Contracts of the laws' helpers that measure: names, lines, parts. -/
import Derived.Test.YtfdgehlobbeomaaDoorRows
import Derived.Test.YtfdgehlobbeomaaDoorRobRow
import Derived.Handy
import Derived.Deep.DeepCutAuto
namespace Go.Proofs.YtfdgehlobbeomaaDoor
open Go.RowKit
set_option linter.unusedVariables false

def psum (f : Nat → Nat) : Nat → Nat
  | 0 => 0
  | k + 1 => psum f k + f k
theorem psum_le (f : Nat → Nat) {k : Nat} : ∀ {n}, k ≤ n → psum f k ≤ psum f n
  | 0, h => by rw [show k = 0 by omega]; exact Nat.le_refl _
  | n + 1, h => by
    by_cases hk : k = n + 1
    · rw [hk]; exact Nat.le_refl _
    · have := psum_le f (show k ≤ n by omega)
      show _ ≤ psum f n + f n
      omega
theorem psum_at (f : Nat → Nat) {k n : Nat} (h : k < n) : f k ≤ psum f n := by
  have := psum_le f (show k + 1 ≤ n from h)
  have e : psum f (k + 1) = psum f k + f k := rfl
  omega
def sumS (l : List ByteArray) : Nat := l.length + psum (fun i => (l.getD i ByteArray.empty).size) l.length
def sumL (l : List LV) : Nat := l.length + psum (fun i => (l.getD i lv0).pa.size) l.length
def sumT (p : PT) : Nat := sumS p.ag + sumL p.ln
def sumP (l : List PT) : Nat := l.length + psum (fun i => sumT (l.getD i pt0)) l.length
/-- What came in is no longer than a slice or a text may be. -/
def SMx (l : List ByteArray) : Prop := l.length ≤ maxLen ∧ ∀ i, i < l.length → (l.getD i ByteArray.empty).size ≤ maxLen
def LMx (l : List LV) : Prop := l.length ≤ maxLen ∧ ∀ i, i < l.length → (l.getD i lv0).pa.size ≤ maxLen
def PMx (l : List PT) : Prop := l.length ≤ maxLen ∧ ∀ i, i < l.length → SMx (l.getD i pt0).ag ∧ LMx (l.getD i pt0).ln
/-- What is left when so much is taken away. -/
def leftZ (left : Int) (n : Nat) : Int := if (n : Int) ≤ left then left - n else -1
theorem leftZ_yes {left : Int} {n : Nat} (h : (n : Int) ≤ left) : leftZ left n = left - n := if_pos h
theorem leftZ_no {left : Int} {n : Nat} (h : left < (n : Int)) : leftZ left n = -1 := if_neg (by omega)
theorem leftZ_le {left : Int} {n : Nat} (h0 : 0 ≤ left) : -1 ≤ leftZ left n ∧ leftZ left n ≤ left ∧ (0 ≤ leftZ left n → (n : Int) ≤ left) := by
  unfold leftZ
  split
  · exact ⟨by omega, by omega, fun _ => by omega⟩
  · exact ⟨by omega, by omega, fun h => by omega⟩
end Go.Proofs.YtfdgehlobbeomaaDoor
