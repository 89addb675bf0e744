/- The contract of the specification's PriorityText. -/
import Derived.Test.YtfdgehlobbeomaaDoorRows
import Derived.Test.YtfdgehlobbeomaaDoorPrioPlain
import Derived.Test.YtfdgehlobbeomaaDoorTxtOne
import Derived.Test.YtfdgehlobbeomaaDoorLowerWalk
namespace Go.Proofs.YtfdgehlobbeomaaDoor
open Go.RowKit
set_option linter.unusedVariables false
set_option linter.unusedSimpArgs false

def prioV (z : Int) : ByteArray := ⟨(prioT z).toArray⟩
theorem prioV_cat {z : Int} (h0 : 0 ≤ z) (h1 : z ≤ 1000) : prioV z = decT (z / 1000) ++ ⟨#[46]⟩ ++ decT (z / 100 % 10) ++ decT (z / 10 % 10) ++ decT (z % 10) := by
  rw [decT_1 (x := z / 1000) (by omega) (by omega), decT_1 (x := z / 100 % 10) (by omega) (by omega), decT_1 (x := z / 10 % 10) (by omega) (by omega), decT_1 (x := z % 10) (by omega) (by omega)]
  unfold prioV
  rw [prioT_in h0 h1]
  have e1 : (z / 1000).toNat = z.toNat / 1000 := by omega
  have e2 : (z / 100 % 10).toNat = z.toNat / 100 % 10 := by omega
  have e3 : (z / 10 % 10).toNat = z.toNat / 10 % 10 := by omega
  have e4 : (z % 10).toNat = z.toNat % 10 := by omega
  rw [e1, e2, e3, e4]
  apply ByteArray.ext
  simp [digT, dgB, ByteArray.data_append]
theorem prioV_size (z : Int) : (prioV z).size ≤ 5 := by
  show (prioT z).length ≤ 5
  unfold prioT
  split
  · exact Nat.le_refl _
  · exact Nat.zero_le _
set_option maxHeartbeats 2000000 in
theorem specPriorityText (z : Int) (w : World) : Calls Tryd.prog 11 #[.int .i64 z] w fun e w' => e = .returned (.string (prioV z)) ∧ Below w.heap.size w w' := by
  by_cases h : 0 ≤ z ∧ z ≤ 1000
  · obtain ⟨h0, h1⟩ := h
    have HT := prioV_cat h0 h1
    have c1 : Hid (∀ W, Calls Tryd.prog 21 #[.int .i64 (z / 1000)] W fun e w' => e = .returned (.string (decT (z / 1000))) ∧ Below W.heap.size W w') := fun W => specText1 _ W (by omega) (by omega)
    have c2 : Hid (∀ W, Calls Tryd.prog 21 #[.int .i64 (z / 100 % 10)] W fun e w' => e = .returned (.string (decT (z / 100 % 10))) ∧ Below W.heap.size W w') := fun W => specText1 _ W (by omega) (by omega)
    have c3 : Hid (∀ W, Calls Tryd.prog 21 #[.int .i64 (z / 10 % 10)] W fun e w' => e = .returned (.string (decT (z / 10 % 10))) ∧ Below W.heap.size W w') := fun W => specText1 _ W (by omega) (by omega)
    have c4 : Hid (∀ W, Calls Tryd.prog 21 #[.int .i64 (z % 10)] W fun e w' => e = .returned (.string (decT (z % 10))) ∧ Below W.heap.size W w') := fun W => specText1 _ W (by omega) (by omega)
    have s1 := decT_size (z / 1000)
    have s2 := decT_size (z / 100 % 10)
    have s3 := decT_size (z / 10 % 10)
    have s4 := decT_size (z % 10)
    rw [HT]
    clear HT
    generalize decT (z / 1000) = T1 at *
    generalize decT (z / 100 % 10) = T2 at *
    generalize decT (z / 10 % 10) = T3 at *
    generalize decT (z % 10) = T4 at *
    have sz : (⟨#[46]⟩ : ByteArray).size = 1 := rfl
    go_enter Tryd.func11, Tryd.ntmps11
    go_wp2_with fail
    refine (specL1In_yes _ _ _ _ h0 h1).mono ?_
    rintro e w' ⟨rfl, rfl⟩
    go_wp2_with fail
    refine (c1.out _).mono ?_
    rintro e w1 ⟨rfl, k1⟩
    go_wp2_with fail
    refine (c2.out _).mono ?_
    rintro e w2 ⟨rfl, k2⟩
    go_wp2_with fail
    refine (c3.out _).mono ?_
    rintro e w3 ⟨rfl, k3⟩
    go_wp2_with fail
    refine (c4.out _).mono ?_
    rintro e w4 ⟨rfl, k4⟩
    have B1 : Below w.heap.size w w4 := ((k1.trans (k2.mono k1.size)).trans (k3.mono (Nat.le_trans k1.size k2.size))).trans (k4.mono (Nat.le_trans (Nat.le_trans k1.size k2.size) k3.size))
    clear k1 k2 k3 k4
    go_wp2_with fail
    go_ret
    exact ⟨rfl, B1⟩
  · have HT : prioV z = ⟨#[]⟩ := by unfold prioV prioT; rw [if_neg h]
    rw [HT]
    clear HT
    go_enter Tryd.func11, Tryd.ntmps11
    go_wp2_with fail
    refine (specL1In_no _ _ _ _ (by omega)).mono ?_
    rintro e w' ⟨rfl, rfl⟩
    go_wp2_with fail
    go_ret
    exact ⟨rfl, Below.refl _ _⟩
end Go.Proofs.YtfdgehlobbeomaaDoor
