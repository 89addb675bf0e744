/- Chapter 14, plainly: how much something matters as a text. -/
import Derived.Test.YtfdgehlobbeomaaDoorRows
import Derived.Test.YtfdgehlobbeomaaDoorBase
namespace Go.Proofs.YtfdgehlobbeomaaDoor
open Go.RowKit
set_option linter.unusedVariables false

def dgB (n : Nat) : UInt8 := UInt8.ofNat (48 + n)
/-- How much something matters, as a text. -/
def prioT (z : Int) : List UInt8 := if 0 ≤ z ∧ z ≤ 1000 then [dgB (z.toNat / 1000), 46, dgB (z.toNat / 100 % 10), dgB (z.toNat / 10 % 10), dgB (z.toNat % 10)] else []
theorem dgB_dig (n : Nat) (h : n < 10) : (dgB n).toNat = 48 + n := by unfold dgB; simp; omega
theorem prioT_in {z : Int} (h0 : 0 ≤ z) (h1 : z ≤ 1000) : prioT z = [dgB (z.toNat / 1000), 46, dgB (z.toNat / 100 % 10), dgB (z.toNat / 10 % 10), dgB (z.toNat % 10)] := by unfold prioT; rw [if_pos ⟨h0, h1⟩]
theorem prioT_mem {z : Int} {c : UInt8} (h : c ∈ prioT z) : c.toNat = 46 ∨ (48 ≤ c.toNat ∧ c.toNat ≤ 57) := by
  unfold prioT at h
  split at h
  · rename_i hz
    have q1 := dgB_dig (z.toNat / 1000) (by omega)
    have q2 := dgB_dig (z.toNat / 100 % 10) (by omega)
    have q3 := dgB_dig (z.toNat / 10 % 10) (by omega)
    have q4 := dgB_dig (z.toNat % 10) (by omega)
    simp only [List.mem_cons, List.not_mem_nil, or_false] at h
    rcases h with rfl | rfl | rfl | rfl | rfl
    · omega
    · exact .inl rfl
    · omega
    · omega
    · omega
  · cases h
end Go.Proofs.YtfdgehlobbeomaaDoor
