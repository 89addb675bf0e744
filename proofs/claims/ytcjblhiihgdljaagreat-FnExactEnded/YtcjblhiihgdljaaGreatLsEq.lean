/- Leases held against each other by the laws' helpers. -/
import Derived.Test.YtcjblhiihgdljaaGreatRows
import Derived.Test.YtcjblhiihgdljaaGreatLsRow
import Derived.Test.YtcjblhiihgdljaaGreatBlockAt
import Derived.Handy
import Derived.Deep.DeepCutAuto
import Derived.Deep.RegionWith
namespace Go.Proofs.YtcjblhiihgdljaaGreat
open Go.RowKit
set_option linter.unusedVariables false

set_option maxHeartbeats 2000000 in
theorem eqLs (x : LsV) (w : World) :
    Calls Tryz.prog 131 #[.agg #[.string x.k, .string x.s, .int .i64 x.p, .int .i64 x.u], .agg #[.string x.k, .string x.s, .int .i64 x.p, .int .i64 x.u]] w fun e w' => e = .returned (.bool true) ∧ Below w.heap.size w w' := by
  obtain ⟨a, b, c, d⟩ := x
  have hbO : Below w.heap.size w ((w.alloc (.cells #[.string a, .string b, .int .i64 c, .int .i64 d] 51)).alloc (.cells #[.string a, .string b, .int .i64 c, .int .i64 d] 51)) := ((Below.refl _ _).alloc (Nat.le_refl _) _).alloc (by simp) _
  dsimp only
  go_enter Tryz.func131, Tryz.ntmps131
  go_wp2_with fail
  go_ret
  exact ⟨rfl, by first | exact hbO | exact below_drewN hbO _ | exact hbO.drew | exact hbO.drew.drew⟩
set_option maxHeartbeats 4000000 in
theorem eqLss (l : List LsV) (va vb : Value) (w : World) (hl : l.length ≤ 1099511627776) (ha : LsRow w va l) (hb : LsRow w vb l) :
    Calls Tryz.prog 85 #[va, vb] w fun e w' => e = .returned (.bool true) ∧ Below w.heap.size w w' := by
  rcases ha with ⟨rfl, ao, cap, rfl⟩ | ⟨h0, g, off, cap, rfl, hg, hc⟩
  · obtain ⟨bo, cap', rfl⟩ := hb.slice
    clear hb hl
    go_enter Tryz.func85, Tryz.ntmps85
    go_wp2
    refine wp_loop_rounds 1 ?_
    rw [rounds_succ]
    go_wp2
    go_ret
    exact ⟨rfl, Below.refl _ _⟩
  · rcases hb with ⟨rfl, _⟩ | ⟨_, g', off', cap', rfl, hg', hc'⟩
    · exact absurd h0 (by simp)
    · have HC : Hid (∀ i, i < l.length → LsAt w g (off + i * 4) (l.getD i lsv0)) := hc
      have HC' : Hid (∀ i, i < l.length → LsAt w g' (off' + i * 4) (l.getD i lsv0)) := hc'
      clear hc hc'
      go_enter Tryz.func85, Tryz.ntmps85
      go_wp2
      go_loopw [5] (fun i wr => ∃ k : Nat, k ≤ l.length ∧ i = .int .i64 k ∧ Below w.heap.size w wr) (fun i _ => l.length - (intOf i).toNat)
      case atStart => exact ⟨0, Nat.zero_le _, rfl, Below.refl _ _⟩
      case round =>
        obtain ⟨k, hk, rfl, hbel⟩ := hrel
        by_cases hlt : k < l.length
        · have hki : (k : Int) < l.length := by omega
          obtain ⟨c0, c1, c2, c3⟩ := (HC.out k hlt).below hbel hg
          obtain ⟨d0, d1, d2, d3⟩ := (HC'.out k hlt).below hbel hg'
          have CE : Hid (∀ W, Calls Tryz.prog 131 #[.agg #[.string (l.getD k lsv0).k, .string (l.getD k lsv0).s, .int .i64 (l.getD k lsv0).p, .int .i64 (l.getD k lsv0).u], .agg #[.string (l.getD k lsv0).k, .string (l.getD k lsv0).s, .int .i64 (l.getD k lsv0).p, .int .i64 (l.getD k lsv0).u]] W fun e w' => e = .returned (.bool true) ∧ Below W.heap.size W w') := fun W => eqLs _ W
          generalize (l.getD k lsv0).k = x0 at *
          generalize (l.getD k lsv0).s = x1 at *
          generalize (l.getD k lsv0).p = x2 at *
          generalize (l.getD k lsv0).u = x3 at *
          go_wp2_with fail
          go_region_with (go_at_call 131; refine (CE.out _).mono ?_; rintro e wc ⟨rfl, hbc⟩)
          all_goals
            have B1 := hbel.drew.trans (hbc.mono hbel.size)
            clear hbc CE
            go_wp2_with fail
            refine ⟨⟨k + 1, by omega, by go_num, B1⟩, ?_⟩
            simp [intOf]
            omega
        · have hki : ¬ (k : Int) < l.length := by omega
          go_wp2_with fail
          go_ret
          exact ⟨rfl, hbel⟩
end Go.Proofs.YtcjblhiihgdljaaGreat
