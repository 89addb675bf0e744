/- Sums over a row, and what is left of a measure. -/
import Derived.Test.YtcjblhiihgdljaaGreatRows
import Derived.Test.YtcjblhiihgdljaaGreatBase
namespace Go.Proofs.YtcjblhiihgdljaaGreat
open Go.RowKit
set_option linter.unusedVariables false
theorem hidM {p : Prop} (h : p) : Hid p := h

def psum (f : Nat → Nat) : Nat → Nat
  | 0 => 0
  | k + 1 => psum f k + f k
theorem psum_le (f : Nat → Nat) {k : Nat} : ∀ {n}, k ≤ n → psum f k ≤ psum f n
  | 0, h => by rw [show k = 0 by omega]; exact Nat.le_refl _
  | n + 1, h => by
    by_cases hk : k = n + 1
    · rw [hk]; exact Nat.le_refl _
    · have := psum_le f (show k ≤ n by omega)
      show _ ≤ psum f n + f n
      omega
theorem psum_at (f : Nat → Nat) {k n : Nat} (h : k < n) : f k ≤ psum f n := by
  have := psum_le f (show k + 1 ≤ n from h)
  have e : psum f (k + 1) = psum f k + f k := rfl
  omega
def leftZ (left : Int) (n : Nat) : Int := if (n : Int) ≤ left then left - n else -1
theorem leftZ_yes {left : Int} {n : Nat} (h : (n : Int) ≤ left) : leftZ left n = left - n := if_pos h
theorem leftZ_no {left : Int} {n : Nat} (h : left < (n : Int)) : leftZ left n = -1 := if_neg (by omega)
theorem leftZ_le {left : Int} {n : Nat} (h0 : 0 ≤ left) : -1 ≤ leftZ left n ∧ leftZ left n ≤ left ∧ (0 ≤ leftZ left n → (n : Int) ≤ left) := by
  unfold leftZ
  split
  · exact ⟨by omega, by omega, fun _ => by omega⟩
  · exact ⟨by omega, by omega, fun h => by omega⟩
theorem leftZ_two {left : Int} {a b : Nat} (h0 : 0 ≤ left) (h : (a : Int) ≤ left) : leftZ (leftZ left a) b = leftZ left (a + b) := by
  rw [leftZ_yes h]
  unfold leftZ
  by_cases hb : (b : Int) ≤ left - a
  · rw [if_pos hb, if_pos (by omega)]; omega
  · rw [if_neg hb, if_neg (by omega)]

theorem spot_none {W : World} {a : Addr} {v : Value} (h : W.cell? (a.add 0) = some v) : a = ⟨a.block, a.off, none⟩ := by
  obtain ⟨b, off, spot⟩ := a
  have hspot : spot = none := by simpa [Addr.add] using World.cell?_spot h
  subst hspot
  rfl
theorem getD_map {α : Type} (d : α) (f : Nat → α) (n i : Nat) (h : i < n) : ((List.range n).map f).getD i d = f i := by simp [List.getD, h]
end Go.Proofs.YtcjblhiihgdljaaGreat
