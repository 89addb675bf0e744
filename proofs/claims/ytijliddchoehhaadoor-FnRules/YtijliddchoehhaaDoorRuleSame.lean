/- The law's helper sameTexts, at two rows of the same texts. -/
import Derived.Test.YtijliddchoehhaaDoorRows
import Derived.Test.YtijliddchoehhaaDoorRuleRow
import Derived.Test.YtijliddchoehhaaDoorRowMore
import Derived.Test.YtijliddchoehhaaDoorPctWalk
import Derived.BigQuiet
import Derived.Deep.QuietTactic
import Derived.Deep.RegionWith
namespace Go.Proofs.YtijliddchoehhaaDoor
open Go.RowKit
set_option linter.unusedVariables false

set_option maxHeartbeats 2000000 in
theorem sameTexts (l : List ByteArray) (va vb : Value) (w : World) (hl : l.length ≤ 1099511627776) (ha : StrRow w va l) (hb : StrRow w vb l) :
    Calls Tryd.prog 11 #[va, vb] w fun e w' => e = .returned (.bool true) ∧ Below w.heap.size w w' := by
  rcases ha with ⟨rfl, ao, cap, rfl⟩ | ⟨h0, g, off, cap, rfl, hg, hc⟩
  · obtain ⟨bo, cap', rfl⟩ := hb.slice
    clear hb hl
    go_enter Tryd.func11, Tryd.ntmps11
    go_wp2
    refine wp_loop_rounds 1 ?_
    rw [rounds_succ]
    go_wp2
    go_ret
    exact ⟨rfl, Below.refl _ _⟩
  · rcases hb with ⟨rfl, _⟩ | ⟨_, g', off', cap', rfl, hg', hc'⟩
    · exact absurd h0 (by simp)
    · have HC : Hid (∀ i, i < l.length → w.cell? ⟨g, off + i, none⟩ = some (.string (l.getD i ByteArray.empty))) := hc
      have HC' : Hid (∀ i, i < l.length → w.cell? ⟨g', off' + i, none⟩ = some (.string (l.getD i ByteArray.empty))) := hc'
      clear hc hc'
      go_enter Tryd.func11, Tryd.ntmps11
      go_wp2
      go_loopw [5] (fun i wr => ∃ k : Nat, k ≤ l.length ∧ i = .int .i64 k ∧ ∃ m, wr = w.drewN m) (fun i _ => l.length - (intOf i).toNat)
      case atStart => exact ⟨0, Nat.zero_le _, rfl, 0, rfl⟩
      case round =>
        obtain ⟨k, hk, rfl, m, rfl⟩ := hrel
        by_cases hlt : k < l.length
        · have ca := HC.out k hlt
          have cb := HC'.out k hlt
          have hki : (k : Int) < l.length := by omega
          generalize l.getD k ByteArray.empty = x at ca cb
          go_wp2
          go_quiet (fail)
          go_wp2
          go_roundw
          case rel => exact ⟨k + 1, by omega, by go_num, m + nq, by first | rfl | rw [World.drewN_drewN]⟩
          case measure => simp [intOf]; omega
        · have hki : ¬ (k : Int) < l.length := by omega
          go_wp2
          go_ret
          exact ⟨rfl, below_drewN (Below.refl _ _) m⟩
theorem RuleRow.at {w : World} {ao : Option Addr} {n cp : Nat} {l : List RV} (h : RuleRow w (.slice ao n cp) l) {k : Nat} (hk : k < l.length) : ∃ g off p, ao = some ⟨g, off, none⟩ ∧ w.cell? ⟨g, off + k * 2, none⟩ = some p ∧ StrRow w p (l.getD k rv0).ps ∧ w.cell? ⟨g, off + k * 2 + 1, none⟩ = some (.bool (l.getD k rv0).ex) := by
  rcases h with ⟨rfl, _⟩ | ⟨_, g, off, cap, h1, _, h3⟩
  · exact absurd hk (Nat.not_lt_zero _)
  · obtain ⟨p, c1, c2, c3⟩ := h3 k hk
    injection h1 with h1
    exact ⟨g, off, p, h1, c1, c2, c3⟩
end Go.Proofs.YtijliddchoehhaaDoor
