/- Contract of spec.l1IsRune. -/
import Derived.Test.YtjdmmmohaiiocaaDoorRows
import Derived.Test.YtjdmmmohaiiocaaDoorLowerWalk
namespace Go.Proofs.YtjdmmmohaiiocaaDoor
open Go.RowKit

def runeOk (r : Int) : Prop := 0 ≤ r ∧ r ≤ 1114111 ∧ (r < 55296 ∨ 57343 < r)

set_option maxHeartbeats 400000 in
theorem specL1IsRune_yes (r : Int) (w : World) (h : runeOk r) :
    Calls Tryd.prog 50 #[.int .i64 r] w fun e w' => e = .returned (.bool true) ∧ w = w' := by
  obtain ⟨h0, h1, h2⟩ := h
  have H2 : Hid (r < 55296 ∨ 57343 < r) := h2
  clear h2
  go_enter Tryd.func50, Tryd.ntmps50
  go_wp2_with fail
  refine (specL1In_yes r 0 1114111 _ h0 h1).mono ?_
  rintro e w' ⟨rfl, rfl⟩
  go_wp2_with fail
  refine (specL1In_no r 55296 57343 _ H2.out).mono ?_
  rintro e w' ⟨rfl, rfl⟩
  go_wp2
  go_ret
  exact ⟨rfl, rfl⟩

set_option maxHeartbeats 400000 in
theorem specL1IsRune_no (r : Int) (w : World) (h : ¬ runeOk r) :
    Calls Tryd.prog 50 #[.int .i64 r] w fun e w' => e = .returned (.bool false) ∧ w = w' := by
  unfold runeOk at h
  by_cases a : 0 ≤ r ∧ r ≤ 1114111
  · obtain ⟨h0, h1⟩ := a
    have h2 : 55296 ≤ r ∧ r ≤ 57343 := by omega
    clear h
    go_enter Tryd.func50, Tryd.ntmps50
    go_wp2_with fail
    refine (specL1In_yes r 0 1114111 _ h0 h1).mono ?_
    rintro e w' ⟨rfl, rfl⟩
    go_wp2_with fail
    refine (specL1In_yes r 55296 57343 _ h2.1 h2.2).mono ?_
    rintro e w' ⟨rfl, rfl⟩
    go_wp2
    go_ret
    exact ⟨rfl, rfl⟩
  · have H : Hid (r < 0 ∨ 1114111 < r) := by show _ ∨ _; omega
    clear h a
    go_enter Tryd.func50, Tryd.ntmps50
    go_wp2_with fail
    refine (specL1In_no r 0 1114111 _ H.out).mono ?_
    rintro e w' ⟨rfl, rfl⟩
    go_wp2
    go_ret
    exact ⟨rfl, rfl⟩
end Go.Proofs.YtjdmmmohaiiocaaDoor
