/- Waitings held against each other by the laws' helpers. -/
import Derived.Test.YtcjblhiihgdljaaGreatRows
import Derived.Test.YtcjblhiihgdljaaGreatWtRow
import Derived.Test.YtcjblhiihgdljaaGreatBlockAt
import Derived.Handy
import Derived.Deep.DeepCutAuto
import Derived.Deep.RegionWith
namespace Go.Proofs.YtcjblhiihgdljaaGreat
open Go.RowKit
set_option linter.unusedVariables false

set_option maxHeartbeats 2000000 in
theorem eqWt (x : WtV) (w : World) :
    Calls Tryz.prog 186 #[.agg #[.string x.k, .int .i64 x.p, .int .i64 x.q], .agg #[.string x.k, .int .i64 x.p, .int .i64 x.q]] w fun e w' => e = .returned (.bool true) ∧ Below w.heap.size w w' := by
  obtain ⟨a, b, c⟩ := x
  have hbO : Below w.heap.size w ((w.alloc (.cells #[.string a, .int .i64 b, .int .i64 c] 83)).alloc (.cells #[.string a, .int .i64 b, .int .i64 c] 83)) := ((Below.refl _ _).alloc (Nat.le_refl _) _).alloc (by simp) _
  dsimp only
  go_enter Tryz.func186, Tryz.ntmps186
  go_wp2_with fail
  go_ret
  exact ⟨rfl, by first | exact hbO | exact below_drewN hbO _ | exact hbO.drew | exact hbO.drew.drew⟩
set_option maxHeartbeats 4000000 in
theorem eqWts (l : List WtV) (va vb : Value) (w : World) (hl : l.length ≤ 1099511627776) (ha : WtRow w va l) (hb : WtRow w vb l) :
    Calls Tryz.prog 154 #[va, vb] w fun e w' => e = .returned (.bool true) ∧ Below w.heap.size w w' := by
  rcases ha with ⟨rfl, ao, cap, rfl⟩ | ⟨h0, g, off, cap, rfl, hg, hc⟩
  · obtain ⟨bo, cap', rfl⟩ := hb.slice
    clear hb hl
    go_enter Tryz.func154, Tryz.ntmps154
    go_wp2
    refine wp_loop_rounds 1 ?_
    rw [rounds_succ]
    go_wp2
    go_ret
    exact ⟨rfl, Below.refl _ _⟩
  · rcases hb with ⟨rfl, _⟩ | ⟨_, g', off', cap', rfl, hg', hc'⟩
    · exact absurd h0 (by simp)
    · have HC : Hid (∀ i, i < l.length → WtAt w g (off + i * 3) (l.getD i wtv0)) := hc
      have HC' : Hid (∀ i, i < l.length → WtAt w g' (off' + i * 3) (l.getD i wtv0)) := hc'
      clear hc hc'
      go_enter Tryz.func154, Tryz.ntmps154
      go_wp2
      go_loopw [5] (fun i wr => ∃ k : Nat, k ≤ l.length ∧ i = .int .i64 k ∧ Below w.heap.size w wr) (fun i _ => l.length - (intOf i).toNat)
      case atStart => exact ⟨0, Nat.zero_le _, rfl, Below.refl _ _⟩
      case round =>
        obtain ⟨k, hk, rfl, hbel⟩ := hrel
        by_cases hlt : k < l.length
        · have hki : (k : Int) < l.length := by omega
          obtain ⟨c0, c1, c2⟩ := (HC.out k hlt).below hbel hg
          obtain ⟨d0, d1, d2⟩ := (HC'.out k hlt).below hbel hg'
          have CE : Hid (∀ W, Calls Tryz.prog 186 #[.agg #[.string (l.getD k wtv0).k, .int .i64 (l.getD k wtv0).p, .int .i64 (l.getD k wtv0).q], .agg #[.string (l.getD k wtv0).k, .int .i64 (l.getD k wtv0).p, .int .i64 (l.getD k wtv0).q]] W fun e w' => e = .returned (.bool true) ∧ Below W.heap.size W w') := fun W => eqWt _ W
          generalize (l.getD k wtv0).k = x0 at *
          generalize (l.getD k wtv0).p = x1 at *
          generalize (l.getD k wtv0).q = x2 at *
          go_wp2_with fail
          go_region_with (go_at_call 186; refine (CE.out _).mono ?_; rintro e wc ⟨rfl, hbc⟩)
          all_goals
            have B1 := hbel.drew.trans (hbc.mono hbel.size)
            clear hbc CE
            go_wp2_with fail
            refine ⟨⟨k + 1, by omega, by go_num, B1⟩, ?_⟩
            simp [intOf]
            omega
        · have hki : ¬ (k : Int) < l.length := by omega
          go_wp2_with fail
          go_ret
          exact ⟨rfl, hbel⟩
end Go.Proofs.YtcjblhiihgdljaaGreat
