/- The contract of the code's PriorityText. -/
import Derived.Test.YtfdgehlobbeomaaDoorRows
import Derived.Test.YtfdgehlobbeomaaDoorPrioSpec
namespace Go.Proofs.YtfdgehlobbeomaaDoor
open Go.RowKit
set_option linter.unusedVariables false
set_option linter.unusedSimpArgs false

theorem implLastDigit (z : Int) (w : World) (h0 : 0 ≤ z) (h1 : z ≤ 1000) :
    Calls Tryd.prog 29 #[.int .i64 z] w fun e w' => e = .returned (.int .u8 (48 + z % 10)) ∧ w = w' := by
  have hr : z.tmod 10 = z % 10 := Int.tmod_eq_emod_of_nonneg h0
  go_enter Tryd.func29, Tryd.ntmps29
  go_wp2_with fail
  go_ret
  exact ⟨rfl, rfl⟩
/-- Five bytes that were just laid, as a text. -/
theorem conv_five (W : World) (x : List UInt8) (l : List Value) (hl : x.map (fun c => Value.int .u8 (c.toNat : Int)) = l) (h5 : x.length = 5) :
    (convert 42 9 (.slice (some ⟨W.heap.size, 0, none⟩) 5 5)).run Tryd.prog (W.alloc (.cells l.toArray 5)) = .ok (.string ⟨x.toArray⟩) (W.alloc (.cells l.toArray 5)) := by
  subst hl
  have h := run_convert_bytes_back (P := Tryd.prog) (W.alloc (.cells (x.map (fun c => Value.int .u8 (c.toNat : Int))).toArray 5)) 42 9 5 ⟨W.heap.size, 0, none⟩ 5 x Tryd.underlying42 Tryd.underlying5 Tryd.underlying9 (fun j hj => by
    rw [Addr.add_lit, World.cell?_alloc_at _ _ _ _ rfl]
    simp [hj])
  rw [h5] at h
  exact h
theorem dg_val (n : Nat) (h : n < 10) : ((dgB n).toNat : Int) = 48 + n := by rw [dgB_dig n h]; omega
set_option maxHeartbeats 2000000 in
theorem implPriorityText (z : Int) (w : World) : Calls Tryd.prog 25 #[.int .i64 z] w fun e w' => e = .returned (.string (prioV z)) ∧ Below w.heap.size w w' := by
  by_cases h : 0 ≤ z ∧ z ≤ 1000
  · obtain ⟨h0, h1⟩ := h
    have hcv := conv_five w (prioT z) [.int .u8 (48 + z / 1000 % 10), .int .u8 46, .int .u8 (48 + z / 100 % 10), .int .u8 (48 + z / 10 % 10), .int .u8 (48 + z % 10)] (by
      rw [prioT_in h0 h1]
      simp only [List.map_cons, List.map_nil]
      rw [dg_val _ (by omega), dg_val _ (by omega), dg_val _ (by omega), dg_val _ (by omega), show ((46 : UInt8).toNat : Int) = 46 from rfl]
      congr 1
      · congr 1; omega
      congr 1
      congr 1
      · congr 1; omega
      congr 1
      · congr 1; omega
      congr 1
      congr 1; omega) (by rw [prioT_in h0 h1]; rfl)
    rw [show (⟨(prioT z).toArray⟩ : ByteArray) = prioV z from rfl] at hcv
    generalize prioV z = T at hcv ⊢
    go_enter Tryd.func25, Tryd.ntmps25
    go_wp2_with (go_at_call 29; refine (implLastDigit _ _ (by omega) (by omega)).mono ?_; rintro e w' ⟨rfl, rfl⟩)
    go_ret
    exact ⟨rfl, (Below.refl _ _).alloc (Nat.le_refl _) _⟩
  · have HT : prioV z = ⟨#[]⟩ := by unfold prioV prioT; rw [if_neg h]
    rw [HT]
    clear HT
    go_enter Tryd.func25, Tryd.ntmps25
    by_cases hz : z < 0
    · go_wp2_with fail
      go_ret
      exact ⟨rfl, Below.refl _ _⟩
    · have hz1 : 1000 < z := by omega
      go_wp2_with fail
      go_ret
      exact ⟨rfl, Below.refl _ _⟩
end Go.Proofs.YtfdgehlobbeomaaDoor
