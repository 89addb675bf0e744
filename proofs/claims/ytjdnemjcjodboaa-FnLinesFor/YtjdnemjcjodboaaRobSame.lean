/- The contract of the law's among: whether a row of texts has one; of two rows of lines that are the same. -/
import Derived.Test.YtjdnemjcjodboaaRows
import Derived.Test.YtjdnemjcjodboaaHasSpec
import Derived.Test.YtjdnemjcjodboaaRobRow
import Derived.Deep.RegionWith
import Derived.BigQuiet
import Derived.Deep.QuietTactic
import Derived.Test.YtjdnemjcjodboaaRowMore
namespace Go.Proofs.Ytjdnemjcjodboaa
open Go.RowKit
set_option linter.unusedVariables false

set_option maxHeartbeats 1000000 in
theorem lawAmong (l : List ByteArray) (v : Value) (s : ByteArray) (w : World) (hl : l.length ≤ 1099511627776) (h : StrRow w v l) :
    Calls Try.prog 11 #[v, .string s] w fun e w' => e = .returned (.bool (hasS l s)) ∧ w = w' := by
  rcases h with ⟨rfl, ao, cap, rfl⟩ | ⟨h0, g, off, cap, rfl, hg, hc⟩
  · go_enter Try.func11, Try.ntmps11
    go_wp2
    refine wp_loop_rounds 1 ?_
    rw [rounds_succ]
    go_wp2
    go_ret
    exact ⟨rfl, rfl⟩
  · have HC : Hid (∀ i, i < l.length → w.cell? ⟨g, off + i, none⟩ = some (.string (l.getD i ByteArray.empty))) := hc
    clear hc
    go_enter Try.func11, Try.ntmps11
    go_wp2
    go_loop [5] (fun i => ∃ k : Nat, k ≤ l.length ∧ i = .int .i64 k ∧ Hid (∀ j, j < k → l.getD j ByteArray.empty ≠ s)) (fun i => l.length - (intOf i).toNat)
    case atStart => exact ⟨0, Nat.zero_le _, rfl, fun j hj => absurd hj (Nat.not_lt_zero _)⟩
    case round =>
      obtain ⟨k, hk, rfl, HP⟩ := hrel
      by_cases hlt : k < l.length
      · have hki : (k : Int) < l.length := by omega
        have ca := HC.out k hlt
        by_cases he : l.getD k ByteArray.empty = s
        · have HY : Hid (hasS l s = true) := has_yes hlt he
          rw [he] at ca
          clear he HP
          go_wp2_with fail
          go_ret
          exact ⟨ret_bool HY.out.symm, rfl⟩
        · have HP2 : Hid (∀ j, j < k + 1 → l.getD j ByteArray.empty ≠ s) := fun j hj => by
            by_cases hjk : j < k
            · exact HP.out j hjk
            · rw [show j = k by omega]; exact he
          have hst := str_ne he
          clear he HP
          generalize l.getD k ByteArray.empty = x at ca hst
          go_wp2_with fail
          go_round
          case rel => exact ⟨k + 1, by omega, by go_num, HP2⟩
          case measure => simp [intOf]; omega
      · have hki : ¬ (k : Int) < l.length := by omega
        have HN : Hid (hasS l s = false) := has_no fun j hj => HP.out j (by omega)
        clear HP
        go_wp2_with fail
        go_ret
        exact ⟨ret_bool HN.out.symm, rfl⟩
set_option maxHeartbeats 4000000 in
theorem lawSame (l : List LV) (va vb : Value) (w : World) (hl : l.length ≤ 1099511627776) (ha : LineRow w va l) (hb : LineRow w vb l) :
    Calls Try.prog 12 #[va, vb] w fun e w' => e = .returned (.bool true) ∧ Below w.heap.size w w' := by
  rcases ha with ⟨rfl, ao, cap, rfl⟩ | ⟨h0, g, off, cap, rfl, hg, hc⟩
  · obtain ⟨bo, cap', rfl⟩ := hb.slice
    clear hb hl
    go_enter Try.func12, Try.ntmps12
    go_wp2
    refine wp_loop_rounds 1 ?_
    rw [rounds_succ]
    go_wp2
    go_ret
    exact ⟨rfl, Below.refl _ _⟩
  · rcases hb with ⟨rfl, _⟩ | ⟨_, g', off', cap', rfl, hg', hc'⟩
    · exact absurd h0 (by simp)
    · have HC : Hid (∀ i, i < l.length → w.cell? ⟨g, off + i * 2, none⟩ = some (.bool (l.getD i lv0).al) ∧ w.cell? ⟨g, off + i * 2 + 1, none⟩ = some (.string (l.getD i lv0).pa)) := hc
      have HC' : Hid (∀ i, i < l.length → w.cell? ⟨g', off' + i * 2, none⟩ = some (.bool (l.getD i lv0).al) ∧ w.cell? ⟨g', off' + i * 2 + 1, none⟩ = some (.string (l.getD i lv0).pa)) := hc'
      clear hc hc'
      go_enter Try.func12, Try.ntmps12
      go_wp2
      go_loopw [5] (fun i wr => ∃ k : Nat, k ≤ l.length ∧ i = .int .i64 k ∧ Below w.heap.size w wr) (fun i _ => l.length - (intOf i).toNat)
      case atStart => exact ⟨0, Nat.zero_le _, rfl, Below.refl _ _⟩
      case round =>
        obtain ⟨k, hk, rfl, hbel⟩ := hrel
        by_cases hlt : k < l.length
        · have hki : (k : Int) < l.length := by omega
          obtain ⟨c1, c3⟩ := HC.out k hlt
          obtain ⟨d1, d3⟩ := HC'.out k hlt
          have c1w := (hbel.cell (p := ⟨g, off + k * 2, none⟩) hg).trans c1
          have c3w := (hbel.cell (p := ⟨g, off + k * 2 + 1, none⟩) hg).trans c3
          have d1w := (hbel.cell (p := ⟨g', off' + k * 2, none⟩) hg').trans d1
          have d3w := (hbel.cell (p := ⟨g', off' + k * 2 + 1, none⟩) hg').trans d3
          clear c1 c3 d1 d3
          generalize (l.getD k lv0).al = al at *
          generalize (l.getD k lv0).pa = pa at *
          go_wp2_with fail
          go_region_with (fail)
          all_goals
            have B1 := hbel.drew
            go_wp2_with fail
            refine ⟨⟨k + 1, by omega, by go_num, B1⟩, ?_⟩
            simp [intOf]
            omega
        · have hki : ¬ (k : Int) < l.length := by omega
          go_wp2_with fail
          go_ret
          exact ⟨rfl, hbel⟩
end Go.Proofs.Ytjdnemjcjodboaa
