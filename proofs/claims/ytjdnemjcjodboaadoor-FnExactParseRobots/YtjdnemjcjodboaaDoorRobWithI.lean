/- The contracts of the code's takesAgents and withValue. -/
import Derived.Test.YtjdnemjcjodboaaDoorRows
import Derived.Test.YtjdnemjcjodboaaDoorRobPut2
import Derived.Test.YtjdnemjcjodboaaDoorRobStep
import Derived.Test.YtjdnemjcjodboaaDoorAgImpl
import Derived.Test.YtjdnemjcjodboaaDoorPatImpl
import Derived.Test.YtjdnemjcjodboaaDoorBlockAt
import Derived.Test.YtjdnemjcjodboaaDoorFieldsWalk
import Derived.Deep.RegionHeld3
import Derived.Handy
import Derived.Deep.DeepCutAuto
namespace Go.Proofs.YtjdnemjcjodboaaDoor
open Go.RowKit
set_option linter.unusedVariables false

theorem Tryd.infoL3 : (Tryd.prog.info? 35).map (fun i => (i.zero, i.size, i.bytes)) = some (some (.agg #[.bool false, .string ⟨#[]⟩]), 2, 24) := by kernel_rfl
set_option maxHeartbeats 2000000 in
theorem implTakes (l : List PT) (v : Value) (base top : Nat) (w : World) (hl : l.length ≤ 1048576) (h : RobOwn w base top v l) :
    Calls Tryd.prog 45 #[v] w fun e w' => e = .returned (.bool (!newP l)) ∧ w = w' := by
  by_cases h0 : l.length = 0
  · obtain rfl : l = [] := List.eq_nil_of_length_eq_zero h0
    obtain ⟨ao, cap, rfl⟩ := h.row.slice
    clear h
    go_enter Tryd.func45, Tryd.ntmps45
    go_wp2_with fail
    go_ret
    exact ⟨rfl, rfl⟩
  · obtain ⟨m, hm⟩ : ∃ m, l.length = m + 1 := ⟨l.length - 1, by omega⟩
    obtain ⟨g, cap, vs, p, q, rfl, h1, h2, hp, hq, cp, cq, op, oq⟩ := h.last hm
    have HNP : Hid (newP l = !decide ((lastG l).ln.length = 0)) := newP_last (by omega)
    obtain ⟨qa, qk, hqq⟩ := (LineRow.of_own' oq).slice
    rw [hqq] at cq
    have hmi : (m : Int) ≤ 1048576 := by omega
    have hwm : IntKind.i64.wrap (m : Int) = (m : Int) := by rw [IntKind.wrap_i64]; omega
    have hm0 : 0 < (m : Int) + 1 := by omega
    clear h h0 hm h1 h2 hp hq cp op oq hqq
    generalize (lastG l).ln.length = ln at *
    by_cases hl0 : ln = 0
    · subst hl0
      have HE : Hid ((!newP l) = true) := by show _ = _; rw [HNP.out]; rfl
      clear HNP
      go_enter Tryd.func45, Tryd.ntmps45
      go_wp2_with fail
      go_ret
      exact ⟨by rw [HE.out]; rfl, rfl⟩
    · have HE : Hid ((!newP l) = false) := by show _ = _; rw [HNP.out, decide_eq_false hl0]; rfl
      have hln : ((ln : Int) == 0) = false := beq_eq_false_iff_ne.2 (by omega)
      clear HNP hl0
      go_enter Tryd.func45, Tryd.ntmps45
      go_wp2_with fail
      go_ret
      exact ⟨by rw [HE.out]; rfl, rfl⟩
end Go.Proofs.YtjdnemjcjodboaaDoor
