/- Contracts of the laws' helpers that compare rows of marks that are the same. -/
import Derived.Test.YtocgdbinfmdkcaaRows
import Derived.Test.YtocgdbinfmdkcaaEntRow
import Derived.Test.YtocgdbinfmdkcaaStrEq
namespace Go.Proofs.Ytocgdbinfmdkcaa
open Go.RowKit
set_option linter.unusedVariables false

set_option maxHeartbeats 2000000 in
theorem eqMrk (a : Int) (s : ByteArray) (w : World) :
    Calls Try.prog 68 #[.agg #[.string s, .int .i64 a], .agg #[.string s, .int .i64 a]] w fun e w' => e = .returned (.bool true) ∧ Below w.heap.size w w' := by
  have hbO : Below w.heap.size w ((w.alloc (.cells #[.string s, .int .i64 a] 35)).alloc (.cells #[.string s, .int .i64 a] 35)) := ((Below.refl _ _).alloc (Nat.le_refl _) _).alloc (by simp) _
  go_enter Try.func68, Try.ntmps68
  go_wp2_with fail
  go_ret
  exact ⟨rfl, by first | exact hbO | exact below_drewN hbO _ | exact hbO.drew | exact hbO.drew.drew⟩
set_option maxHeartbeats 4000000 in
theorem eqMrks (l : List EV) (va vb : Value) (w : World) (hl : l.length ≤ 1099511627776) (ha : EntRow w va l) (hb : EntRow w vb l) :
    Calls Try.prog 48 #[va, vb] w fun e w' => e = .returned (.bool true) ∧ Below w.heap.size w w' := by
  rcases ha with ⟨rfl, ao, cap, rfl⟩ | ⟨h0, g, off, cap, rfl, hg, hc⟩
  · obtain ⟨bo, cap', rfl⟩ := hb.slice
    clear hb hl
    go_enter Try.func48, Try.ntmps48
    go_wp2
    refine wp_loop_rounds 1 ?_
    rw [rounds_succ]
    go_wp2
    go_ret
    exact ⟨rfl, Below.refl _ _⟩
  · rcases hb with ⟨rfl, _⟩ | ⟨_, g', off', cap', rfl, hg', hc'⟩
    · exact absurd h0 (by simp)
    · have HC : Hid (∀ i, i < l.length → w.cell? ⟨g, off + i * 2, none⟩ = some (.string (l.getD i ev0).s) ∧ w.cell? ⟨g, off + i * 2 + 1, none⟩ = some (.int .i64 (l.getD i ev0).k)) := hc
      have HC' : Hid (∀ i, i < l.length → w.cell? ⟨g', off' + i * 2, none⟩ = some (.string (l.getD i ev0).s) ∧ w.cell? ⟨g', off' + i * 2 + 1, none⟩ = some (.int .i64 (l.getD i ev0).k)) := hc'
      clear hc hc'
      go_enter Try.func48, Try.ntmps48
      go_wp2
      go_loopw [5] (fun i wr => ∃ k : Nat, k ≤ l.length ∧ i = .int .i64 k ∧ Below w.heap.size w wr) (fun i _ => l.length - (intOf i).toNat)
      case atStart => exact ⟨0, Nat.zero_le _, rfl, Below.refl _ _⟩
      case round =>
        obtain ⟨k, hk, rfl, hbel⟩ := hrel
        by_cases hlt : k < l.length
        · have hki : (k : Int) < l.length := by omega
          obtain ⟨c1, c3⟩ := HC.out k hlt
          obtain ⟨d1, d3⟩ := HC'.out k hlt
          have c1w := (hbel.cell (p := ⟨g, off + k * 2, none⟩) hg).trans c1
          have c3w := (hbel.cell (p := ⟨g, off + k * 2 + 1, none⟩) hg).trans c3
          have d1w := (hbel.cell (p := ⟨g', off' + k * 2, none⟩) hg').trans d1
          have d3w := (hbel.cell (p := ⟨g', off' + k * 2 + 1, none⟩) hg').trans d3
          have CE : Hid (∀ W, Calls Try.prog 68 #[.agg #[.string (l.getD k ev0).s, .int .i64 (l.getD k ev0).k], .agg #[.string (l.getD k ev0).s, .int .i64 (l.getD k ev0).k]] W fun e w' => e = .returned (.bool true) ∧ Below W.heap.size W w') := fun W => eqMrk _ _ W
          clear c1 c3 d1 d3
          generalize (l.getD k ev0).k = al at *
          generalize (l.getD k ev0).s = pa at *
          go_wp2_with fail
          go_region_with (go_at_call 68; refine (CE.out _).mono ?_; rintro e wc ⟨rfl, hbc⟩)
          all_goals
            have B1 := hbel.drew.trans (hbc.mono hbel.size)
            clear hbc CE
            go_wp2_with fail
            refine ⟨⟨k + 1, by omega, by go_num, B1⟩, ?_⟩
            simp [intOf]
            omega
        · have hki : ¬ (k : Int) < l.length := by omega
          go_wp2_with fail
          go_ret
          exact ⟨rfl, hbel⟩
end Go.Proofs.Ytocgdbinfmdkcaa
