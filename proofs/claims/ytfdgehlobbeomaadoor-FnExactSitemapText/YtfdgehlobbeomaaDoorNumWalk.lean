/- Contracts of a row of digits to a base: spec.l5Number and impl.digits. -/
import Derived.Test.YtfdgehlobbeomaaDoorRows
import Derived.Test.YtfdgehlobbeomaaDoorHexWalk
import Derived.Test.YtfdgehlobbeomaaDoorSplPlain
namespace Go.Proofs.YtfdgehlobbeomaaDoor
open Go.RowKit

def numZ (r : Option Nat) : Int := match r with
  | none => -1
  | some n => n

theorem digF_drop (s : ByteArray) (k : Nat) (h : k < s.size) (base n : Nat) : digF base n (s.data.toList.drop k) =
    if 0 ≤ hexN s[k].toNat ∧ hexN s[k].toNat < (base : Int) then digF base (n * base + (hexN s[k].toNat).toNat) (s.data.toList.drop (k + 1)) else none := by
  rw [List.drop_eq_getElem_cons (by simpa using h), digF]
  rfl

theorem num_no {base most : Nat} {l : List UInt8} (h : most < l.length) : numL base most l = none := by unfold numL; rw [if_neg (by omega)]
theorem num_yes {base most : Nat} {l : List UInt8} (h : l.length ≤ most) : numL base most l = digF base 0 l := by unfold numL; rw [if_pos h]
theorem pow_room {n base d k : Nat} (hb : base ≤ 16) (hd : d < base) (hn : n < 16 ^ k) : n * base + d < 16 ^ (k + 1) := by
  have h1 : n * base ≤ n * 16 := Nat.mul_le_mul_left _ hb
  rw [Nat.pow_succ]
  omega
theorem pow_le {k : Nat} (h : k ≤ 11) : 16 ^ k ≤ 17592186044416 := Nat.pow_le_pow_right (by decide) h


/-- What a number and whether it is one answer. -/
def numA (r : Option Nat) : Value := match r with
  | none => .tuple #[.int .i64 0, .bool false]
  | some n => .tuple #[.int .i64 n, .bool true]

/-- Digits to a base alone. -/
def alD (base : Nat) (l : List UInt8) : Bool := l.all fun c => decide (0 ≤ hexN c.toNat ∧ hexN c.toNat < (base : Int))
theorem alD_drop (s : ByteArray) (k : Nat) (h : k < s.size) (base : Nat) : alD base (s.data.toList.drop k) = (decide (0 ≤ hexN s[k].toNat ∧ hexN s[k].toNat < (base : Int)) && alD base (s.data.toList.drop (k + 1))) := by
  rw [List.drop_eq_getElem_cons (by simpa using h)]
  rfl
theorem digF_no {base : Nat} : ∀ {l : List UInt8} {n : Nat}, alD base l = false → digF base n l = none
  | [], _, h => by simp [alD] at h
  | c :: r, n, h => by
    rw [digF]
    split
    · rename_i hc
      refine digF_no ?_
      have h2 : (decide (0 ≤ hexN c.toNat ∧ hexN c.toNat < (base : Int)) && alD base r) = false := h
      rw [decide_eq_true hc] at h2
      simpa using h2
    · rfl
theorem alD_at {base : Nat} {s : ByteArray} (h : alD base s.data.toList = true) (k : Nat) (hk : k < s.size) : 0 ≤ hexN s[k].toNat ∧ hexN s[k].toNat < (base : Int) :=
  of_decide_eq_true (List.all_eq_true.1 h s[k] (by
    have hk2 : k < s.data.toList.length := by simpa using hk
    exact List.getElem_mem hk2))


end Go.Proofs.YtfdgehlobbeomaaDoor
