/- Contracts of the laws' helpers that compare rows of texts and rows of rules that are the same. -/
import Derived.Test.YtijliddchoehhaaDoorRows
import Derived.Test.YtijliddchoehhaaDoorRuleRow
import Derived.Test.YtijliddchoehhaaDoorRowMore
import Derived.Test.YtijliddchoehhaaDoorPctWalk
import Derived.BigQuiet
import Derived.Deep.QuietTactic
import Derived.Deep.RegionWith
namespace Go.Proofs.YtijliddchoehhaaDoor
open Go.RowKit
set_option linter.unusedVariables false

set_option maxHeartbeats 2000000 in
theorem eqStrs (l : List ByteArray) (va vb : Value) (w : World) (hl : l.length ≤ 1099511627776) (ha : StrRow w va l) (hb : StrRow w vb l) :
    Calls Tryd.prog 58 #[va, vb] w fun e w' => e = .returned (.bool true) ∧ ∃ m, w' = w.drewN m := by
  rcases ha with ⟨rfl, ao, cap, rfl⟩ | ⟨h0, g, off, cap, rfl, hg, hc⟩
  · obtain ⟨bo, cap', rfl⟩ := hb.slice
    clear hb hl
    go_enter Tryd.func58, Tryd.ntmps58
    go_wp2
    refine wp_loop_rounds 1 ?_
    rw [rounds_succ]
    go_wp2
    go_ret
    exact ⟨rfl, 0, rfl⟩
  · rcases hb with ⟨rfl, _⟩ | ⟨_, g', off', cap', rfl, hg', hc'⟩
    · exact absurd h0 (by simp)
    · have HC : Hid (∀ i, i < l.length → w.cell? ⟨g, off + i, none⟩ = some (.string (l.getD i ByteArray.empty))) := hc
      have HC' : Hid (∀ i, i < l.length → w.cell? ⟨g', off' + i, none⟩ = some (.string (l.getD i ByteArray.empty))) := hc'
      clear hc hc'
      go_enter Tryd.func58, Tryd.ntmps58
      go_wp2
      go_loopw [5] (fun i wr => ∃ k : Nat, k ≤ l.length ∧ i = .int .i64 k ∧ ∃ m, wr = w.drewN m) (fun i _ => l.length - (intOf i).toNat)
      case atStart => exact ⟨0, Nat.zero_le _, rfl, 0, rfl⟩
      case round =>
        obtain ⟨k, hk, rfl, m, rfl⟩ := hrel
        by_cases hlt : k < l.length
        · have ca := HC.out k hlt
          have cb := HC'.out k hlt
          have hki : (k : Int) < l.length := by omega
          generalize l.getD k ByteArray.empty = x at ca cb
          go_wp2
          go_quiet (fail)
          go_wp2
          go_roundw
          case rel => exact ⟨k + 1, by omega, by go_num, m + nq, by first | rfl | rw [World.drewN_drewN]⟩
          case measure => simp [intOf]; omega
        · have hki : ¬ (k : Int) < l.length := by omega
          go_wp2
          go_ret
          exact ⟨rfl, m, rfl⟩
set_option maxHeartbeats 2000000 in
theorem eqRule (r : RV) (p q : Value) (w : World) (hl : r.ps.length ≤ 1099511627776) (ha : StrRow w p r.ps) (hb : StrRow w q r.ps) :
    Calls Tryd.prog 40 #[.agg #[p, .bool r.ex], .agg #[q, .bool r.ex]] w fun e w' => e = .returned (.bool true) ∧ Below w.heap.size w w' := by
  obtain ⟨O, hO⟩ : ∃ O, O = (w.alloc (.cells #[p, .bool r.ex] 32)).alloc (.cells #[q, .bool r.ex] 32) := ⟨_, rfl⟩
  have hbO : Below w.heap.size w O := by rw [hO]; exact ((Below.refl _ _).alloc (Nat.le_refl _) _).alloc (by simp) _
  have CE : Hid (Calls Tryd.prog 58 #[p, q] O fun e w' => e = .returned (.bool true) ∧ ∃ m, w' = O.drewN m) := eqStrs r.ps p q O hl (ha.below hbO) (hb.below hbO)
  rw [hO] at CE hbO
  clear ha hb hO
  go_enter Tryd.func40, Tryd.ntmps40
  go_wp2_with fail
  refine CE.out.mono ?_
  rintro e w1 ⟨rfl, m, rfl⟩
  clear CE
  go_wp2_with fail
  go_ret
  exact ⟨rfl, below_drewN hbO m⟩
set_option maxHeartbeats 4000000 in
theorem eqRules (l : List RV) (va vb : Value) (w : World) (hl : l.length ≤ 1048576) (hz : ∀ r ∈ l, r.ps.length ≤ 2097152) (ha : RuleRow w va l) (hb : RuleRow w vb l) :
    Calls Tryd.prog 14 #[va, vb] w fun e w' => e = .returned (.bool true) ∧ Below w.heap.size w w' := by
  have HZ : Hid (∀ r ∈ l, r.ps.length ≤ 2097152) := hz
  clear hz
  rcases ha with ⟨rfl, ao, cap, rfl⟩ | ⟨h0, g, off, cap, rfl, hg, hc⟩
  · obtain ⟨bo, cap', rfl⟩ := hb.slice
    clear hb hl HZ
    go_enter Tryd.func14, Tryd.ntmps14
    go_wp2
    refine wp_loop_rounds 1 ?_
    rw [rounds_succ]
    go_wp2
    go_ret
    exact ⟨rfl, Below.refl _ _⟩
  · rcases hb with ⟨rfl, _⟩ | ⟨_, g', off', cap', rfl, hg', hc'⟩
    · exact absurd h0 (by simp)
    · have HC : Hid (∀ i, i < l.length → ∃ p, w.cell? ⟨g, off + i * 2, none⟩ = some p ∧ StrRow w p (l.getD i rv0).ps ∧ w.cell? ⟨g, off + i * 2 + 1, none⟩ = some (.bool (l.getD i rv0).ex)) := hc
      have HC' : Hid (∀ i, i < l.length → ∃ p, w.cell? ⟨g', off' + i * 2, none⟩ = some p ∧ StrRow w p (l.getD i rv0).ps ∧ w.cell? ⟨g', off' + i * 2 + 1, none⟩ = some (.bool (l.getD i rv0).ex)) := hc'
      clear hc hc'
      go_enter Tryd.func14, Tryd.ntmps14
      go_wp2
      go_loopw [5] (fun i wr => ∃ k : Nat, k ≤ l.length ∧ i = .int .i64 k ∧ Below w.heap.size w wr) (fun i _ => l.length - (intOf i).toNat)
      case atStart => exact ⟨0, Nat.zero_le _, rfl, Below.refl _ _⟩
      case round =>
        obtain ⟨k, hk, rfl, hbel⟩ := hrel
        by_cases hlt : k < l.length
        · have hki : (k : Int) < l.length := by omega
          obtain ⟨p, c1, c2, c3⟩ := HC.out k hlt
          obtain ⟨q, d1, d2, d3⟩ := HC'.out k hlt
          have c1w := (hbel.cell (p := ⟨g, off + k * 2, none⟩) hg).trans c1
          have c3w := (hbel.cell (p := ⟨g, off + k * 2 + 1, none⟩) hg).trans c3
          have d1w := (hbel.cell (p := ⟨g', off' + k * 2, none⟩) hg').trans d1
          have d3w := (hbel.cell (p := ⟨g', off' + k * 2 + 1, none⟩) hg').trans d3
          have hzk := HZ.out (l.getD k rv0) (by
            rw [List.getD_eq_getElem?_getD, List.getElem?_eq_getElem hlt]
            exact List.getElem_mem _)
          have CE : Hid (∀ W, Below w.heap.size w W → Calls Tryd.prog 40 #[.agg #[p, .bool (l.getD k rv0).ex], .agg #[q, .bool (l.getD k rv0).ex]] W fun e w' => e = .returned (.bool true) ∧ Below W.heap.size W w') := fun W hW => eqRule _ p q W (by omega) (c2.below hW) (d2.below hW)
          clear c1 c2 c3 d1 d2 d3 hzk
          generalize (l.getD k rv0).ex = ex at *
          go_wp2_with fail
          go_region_with (go_at_call 40; refine (CE.out _ hbel.drew).mono ?_; rintro e wc ⟨rfl, hbc⟩)
          all_goals
            have B1 := hbel.drew.trans (hbc.mono hbel.size)
            clear hbc CE
            go_wp2_with fail
            refine ⟨⟨k + 1, by omega, by go_num, B1⟩, ?_⟩
            simp [intOf]
            omega
        · have hki : ¬ (k : Int) < l.length := by omega
          go_wp2_with fail
          go_ret
          exact ⟨rfl, hbel⟩
end Go.Proofs.YtijliddchoehhaaDoor
