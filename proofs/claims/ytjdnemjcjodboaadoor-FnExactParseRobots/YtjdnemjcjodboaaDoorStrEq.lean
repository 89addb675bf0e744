/- The laws' comparison of two rows of texts that are the same. -/
import Derived.Test.YtjdnemjcjodboaaDoorRows
import Derived.Test.YtjdnemjcjodboaaDoorRowStr
import Derived.Test.YtjdnemjcjodboaaDoorRowMore
import Derived.Test.YtjdnemjcjodboaaDoorPctWalk
import Derived.BigQuiet
import Derived.Deep.QuietTactic
import Derived.Deep.RegionWith
namespace Go.Proofs.YtjdnemjcjodboaaDoor
open Go.RowKit
set_option linter.unusedVariables false

set_option maxHeartbeats 2000000 in
theorem eqStrs (l : List ByteArray) (va vb : Value) (w : World) (hl : l.length ≤ 1099511627776) (ha : StrRow w va l) (hb : StrRow w vb l) :
    Calls Tryd.prog 80 #[va, vb] w fun e w' => e = .returned (.bool true) ∧ ∃ m, w' = w.drewN m := by
  rcases ha with ⟨rfl, ao, cap, rfl⟩ | ⟨h0, g, off, cap, rfl, hg, hc⟩
  · obtain ⟨bo, cap', rfl⟩ := hb.slice
    clear hb hl
    go_enter Tryd.func80, Tryd.ntmps80
    go_wp2
    refine wp_loop_rounds 1 ?_
    rw [rounds_succ]
    go_wp2
    go_ret
    exact ⟨rfl, 0, rfl⟩
  · rcases hb with ⟨rfl, _⟩ | ⟨_, g', off', cap', rfl, hg', hc'⟩
    · exact absurd h0 (by simp)
    · have HC : Hid (∀ i, i < l.length → w.cell? ⟨g, off + i, none⟩ = some (.string (l.getD i ByteArray.empty))) := hc
      have HC' : Hid (∀ i, i < l.length → w.cell? ⟨g', off' + i, none⟩ = some (.string (l.getD i ByteArray.empty))) := hc'
      clear hc hc'
      go_enter Tryd.func80, Tryd.ntmps80
      go_wp2
      go_loopw [5] (fun i wr => ∃ k : Nat, k ≤ l.length ∧ i = .int .i64 k ∧ ∃ m, wr = w.drewN m) (fun i _ => l.length - (intOf i).toNat)
      case atStart => exact ⟨0, Nat.zero_le _, rfl, 0, rfl⟩
      case round =>
        obtain ⟨k, hk, rfl, m, rfl⟩ := hrel
        by_cases hlt : k < l.length
        · have ca := HC.out k hlt
          have cb := HC'.out k hlt
          have hki : (k : Int) < l.length := by omega
          generalize l.getD k ByteArray.empty = x at ca cb
          go_wp2
          go_quiet (fail)
          go_wp2
          go_roundw
          case rel => exact ⟨k + 1, by omega, by go_num, m + nq, by first | rfl | rw [World.drewN_drewN]⟩
          case measure => simp [intOf]; omega
        · have hki : ¬ (k : Int) < l.length := by omega
          go_wp2
          go_ret
          exact ⟨rfl, m, rfl⟩
end Go.Proofs.YtjdnemjcjodboaaDoor
