/- Contracts of spec.DefaultPort and impl.DefaultPort. -/
import Derived.Test.YtgmfkgeepecknaaRows
import Derived.Test.YtgmfkgeepecknaaBase
namespace Go.Proofs.Ytgmfkgeepecknaa
open Go.RowKit

def dport (s : Int) : Int := if s = 1 then 80 else if s = 2 then 443 else 0
set_option maxHeartbeats 1000000 in
theorem specDefaultPort (s : Int) (w : World) :
    Calls Try.prog 4 #[.int .i64 s] w fun e w' => e = .returned (.int .i64 (dport s)) ∧ w = w' := by
  by_cases h1 : s = 1
  · subst h1
    go_enter Try.func4, Try.ntmps4
    go_wp2
    go_ret
    exact ⟨rfl, rfl⟩
  · have q1 : (s == 1) = false := beq_eq_false_iff_ne.2 h1
    by_cases h2 : s = 2
    · subst h2
      go_enter Try.func4, Try.ntmps4
      go_wp2
      go_ret
      exact ⟨rfl, rfl⟩
    · have q2 : (s == 2) = false := beq_eq_false_iff_ne.2 h2
      have HD : Hid (dport s = 0) := by show _ = _; unfold dport; rw [if_neg h1, if_neg h2]
      clear h1 h2
      go_enter Try.func4, Try.ntmps4
      go_wp2
      go_ret
      exact ⟨ret_int (by rw [HD.out]), rfl⟩

set_option maxHeartbeats 1000000 in
theorem implDefaultPort (s : Int) (w : World) :
    Calls Try.prog 5 #[.int .i64 s] w fun e w' => e = .returned (.int .i64 (dport s)) ∧ w = w' := by
  by_cases h1 : s = 1
  · subst h1
    go_enter Try.func5, Try.ntmps5
    go_wp2
    go_ret
    exact ⟨rfl, rfl⟩
  · have q1 : (s == 1) = false := beq_eq_false_iff_ne.2 h1
    by_cases h2 : s = 2
    · subst h2
      go_enter Try.func5, Try.ntmps5
      go_wp2
      go_ret
      exact ⟨rfl, rfl⟩
    · have q2 : (s == 2) = false := beq_eq_false_iff_ne.2 h2
      have HD : Hid (dport s = 0) := by show _ = _; unfold dport; rw [if_neg h1, if_neg h2]
      clear h1 h2
      go_enter Try.func5, Try.ntmps5
      go_wp2
      go_ret
      exact ⟨ret_int (by rw [HD.out]), rfl⟩
end Go.Proofs.Ytgmfkgeepecknaa
