/- Contracts of the laws' helpers that compare rows of lines, parts and robots that are the same. -/
import Derived.Test.YtbjidcejpdeegaaRows
import Derived.Test.YtbjidcejpdeegaaRobRow
import Derived.Test.YtbjidcejpdeegaaStrEq
namespace Go.Proofs.Ytbjidcejpdeegaa
open Go.RowKit
set_option linter.unusedVariables false

set_option maxHeartbeats 2000000 in
theorem eqLine (a : Bool) (s : ByteArray) (w : World) :
    Calls Try.prog 37 #[.agg #[.bool a, .string s], .agg #[.bool a, .string s]] w fun e w' => e = .returned (.bool true) ∧ Below w.heap.size w w' := by
  have hbO : Below w.heap.size w ((w.alloc (.cells #[.bool a, .string s] 34)).alloc (.cells #[.bool a, .string s] 34)) := ((Below.refl _ _).alloc (Nat.le_refl _) _).alloc (by simp) _
  go_enter Try.func37, Try.ntmps37
  go_wp2_with fail
  go_ret
  exact ⟨rfl, by first | exact hbO | exact below_drewN hbO _ | exact hbO.drew | exact hbO.drew.drew⟩
set_option maxHeartbeats 4000000 in
theorem eqLines (l : List LV) (va vb : Value) (w : World) (hl : l.length ≤ 1099511627776) (ha : LineRow w va l) (hb : LineRow w vb l) :
    Calls Try.prog 20 #[va, vb] w fun e w' => e = .returned (.bool true) ∧ Below w.heap.size w w' := by
  rcases ha with ⟨rfl, ao, cap, rfl⟩ | ⟨h0, g, off, cap, rfl, hg, hc⟩
  · obtain ⟨bo, cap', rfl⟩ := hb.slice
    clear hb hl
    go_enter Try.func20, Try.ntmps20
    go_wp2
    refine wp_loop_rounds 1 ?_
    rw [rounds_succ]
    go_wp2
    go_ret
    exact ⟨rfl, Below.refl _ _⟩
  · rcases hb with ⟨rfl, _⟩ | ⟨_, g', off', cap', rfl, hg', hc'⟩
    · exact absurd h0 (by simp)
    · have HC : Hid (∀ i, i < l.length → w.cell? ⟨g, off + i * 2, none⟩ = some (.bool (l.getD i lv0).al) ∧ w.cell? ⟨g, off + i * 2 + 1, none⟩ = some (.string (l.getD i lv0).pa)) := hc
      have HC' : Hid (∀ i, i < l.length → w.cell? ⟨g', off' + i * 2, none⟩ = some (.bool (l.getD i lv0).al) ∧ w.cell? ⟨g', off' + i * 2 + 1, none⟩ = some (.string (l.getD i lv0).pa)) := hc'
      clear hc hc'
      go_enter Try.func20, Try.ntmps20
      go_wp2
      go_loopw [5] (fun i wr => ∃ k : Nat, k ≤ l.length ∧ i = .int .i64 k ∧ Below w.heap.size w wr) (fun i _ => l.length - (intOf i).toNat)
      case atStart => exact ⟨0, Nat.zero_le _, rfl, Below.refl _ _⟩
      case round =>
        obtain ⟨k, hk, rfl, hbel⟩ := hrel
        by_cases hlt : k < l.length
        · have hki : (k : Int) < l.length := by omega
          obtain ⟨c1, c3⟩ := HC.out k hlt
          obtain ⟨d1, d3⟩ := HC'.out k hlt
          have c1w := (hbel.cell (p := ⟨g, off + k * 2, none⟩) hg).trans c1
          have c3w := (hbel.cell (p := ⟨g, off + k * 2 + 1, none⟩) hg).trans c3
          have d1w := (hbel.cell (p := ⟨g', off' + k * 2, none⟩) hg').trans d1
          have d3w := (hbel.cell (p := ⟨g', off' + k * 2 + 1, none⟩) hg').trans d3
          have CE : Hid (∀ W, Calls Try.prog 37 #[.agg #[.bool (l.getD k lv0).al, .string (l.getD k lv0).pa], .agg #[.bool (l.getD k lv0).al, .string (l.getD k lv0).pa]] W fun e w' => e = .returned (.bool true) ∧ Below W.heap.size W w') := fun W => eqLine _ _ W
          clear c1 c3 d1 d3
          generalize (l.getD k lv0).al = al at *
          generalize (l.getD k lv0).pa = pa at *
          go_wp2_with fail
          go_region_with (go_at_call 37; refine (CE.out _).mono ?_; rintro e wc ⟨rfl, hbc⟩)
          all_goals
            have B1 := hbel.drew.trans (hbc.mono hbel.size)
            clear hbc CE
            go_wp2_with fail
            refine ⟨⟨k + 1, by omega, by go_num, B1⟩, ?_⟩
            simp [intOf]
            omega
        · have hki : ¬ (k : Int) < l.length := by omega
          go_wp2_with fail
          go_ret
          exact ⟨rfl, hbel⟩
end Go.Proofs.Ytbjidcejpdeegaa
