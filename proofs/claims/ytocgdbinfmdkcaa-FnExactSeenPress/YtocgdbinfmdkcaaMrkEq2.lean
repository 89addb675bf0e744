/- Contracts of the laws' helpers that compare rows of rows of marks, and what was seen, that are the same. -/
import Derived.Test.YtocgdbinfmdkcaaRows
import Derived.Test.YtocgdbinfmdkcaaMrkEq
import Derived.Test.YtocgdbinfmdkcaaMrkSz
namespace Go.Proofs.Ytocgdbinfmdkcaa
open Go.RowKit
set_option linter.unusedVariables false

set_option maxHeartbeats 4000000 in
theorem eqRuns (l : List (List EV)) (va vb : Value) (w : World) (hl : l.length ≤ 1099511627776) (hr : ∀ i, i < l.length → (l.getD i []).length ≤ 1099511627776) (ha : RunRow w va l) (hb : RunRow w vb l) :
    Calls Try.prog 49 #[va, vb] w fun e w' => e = .returned (.bool true) ∧ Below w.heap.size w w' := by
  rcases ha with ⟨rfl, ao, cap, rfl⟩ | ⟨h0, g, off, cap, rfl, hg, hc⟩
  · obtain ⟨bo, cap', rfl⟩ := hb.slice
    clear hb hl hr
    go_enter Try.func49, Try.ntmps49
    go_wp2
    refine wp_loop_rounds 1 ?_
    rw [rounds_succ]
    go_wp2
    go_ret
    exact ⟨rfl, Below.refl _ _⟩
  · rcases hb with ⟨rfl, _⟩ | ⟨_, g', off', cap', rfl, hg', hc'⟩
    · exact absurd h0 (by simp)
    · have HC : Hid (∀ i, i < l.length → ∃ x, w.cell? ⟨g, off + i, none⟩ = some x ∧ EntRow w x (l.getD i [])) := hc
      have HC' : Hid (∀ i, i < l.length → ∃ x, w.cell? ⟨g', off' + i, none⟩ = some x ∧ EntRow w x (l.getD i [])) := hc'
      have HR := hidM hr
      clear hc hc' hr
      go_enter Try.func49, Try.ntmps49
      go_wp2
      go_loopw [5] (fun i wr => ∃ k : Nat, k ≤ l.length ∧ i = .int .i64 k ∧ Below w.heap.size w wr) (fun i _ => l.length - (intOf i).toNat)
      case atStart => exact ⟨0, Nat.zero_le _, rfl, Below.refl _ _⟩
      case round =>
        obtain ⟨k, hk, rfl, hbel⟩ := hrel
        by_cases hlt : k < l.length
        · have hki : (k : Int) < l.length := by omega
          obtain ⟨x, c1, c3⟩ := HC.out k hlt
          obtain ⟨y, d1, d3⟩ := HC'.out k hlt
          have c1w := (hbel.cell (p := ⟨g, off + k, none⟩) hg).trans c1
          have d1w := (hbel.cell (p := ⟨g', off' + k, none⟩) hg').trans d1
          have CE : Hid (∀ W, Below w.heap.size w W → Calls Try.prog 48 #[x, y] W fun e w' => e = .returned (.bool true) ∧ Below W.heap.size W w') := fun W hW => eqMrks (l.getD k []) x y W (HR.out k hlt) (c3.below hW) (d3.below hW)
          obtain ⟨xa, xc, hx⟩ := c3.slice
          obtain ⟨ya, yc, hy⟩ := d3.slice
          clear c1 c3 d1 d3
          generalize (l.getD k []).length = XN at *
          subst hx hy
          go_wp2_with fail
          go_region_with (go_at_call 48; refine (CE.out _ hbel.drew).mono ?_; rintro e wc ⟨rfl, hbc⟩)
          all_goals
            have B1 := hbel.drew.trans (hbc.mono hbel.size)
            clear hbc CE
            go_wp2_with fail
            refine ⟨⟨k + 1, by omega, by go_num, B1⟩, ?_⟩
            simp [intOf]
            omega
        · have hki : ¬ (k : Int) < l.length := by omega
          go_wp2_with fail
          go_ret
          exact ⟨rfl, hbel⟩
set_option maxHeartbeats 4000000 in
theorem eqSeen (m : List EV) (l : List (List EV)) (p q p' q' : Value) (w : World) (hm : m.length ≤ 1099511627776) (hl : l.length ≤ 1099511627776) (hr : ∀ i, i < l.length → (l.getD i []).length ≤ 1099511627776) (ha : EntRow w p m) (hb : RunRow w q l) (ha' : EntRow w p' m) (hb' : RunRow w q' l) :
    Calls Try.prog 22 #[.agg #[p, q], .agg #[p', q']] w fun e w' => e = .returned (.bool true) ∧ Below w.heap.size w w' := by
  obtain ⟨O, hO⟩ : ∃ O, O = (w.alloc (.cells #[p, q] 27)).alloc (.cells #[p', q'] 27) := ⟨_, rfl⟩
  have bO : Below w.heap.size w O := by rw [hO]; exact ((Below.refl _ _).alloc (Nat.le_refl _) _).alloc (by simp) _
  have A0 : BAt O w.heap.size [p, q] := by rw [hO]; exact (BAt.new w #[p, q] _).alloc _
  have A1 : BAt O (w.heap.size + 1) [p', q'] := by
    rw [hO]
    have := BAt.new (w.alloc (.cells #[p, q] 27)) #[p', q'] 27
    rwa [World.size_alloc] at this
  have CE : Hid (∀ W, Below w.heap.size w W → Calls Try.prog 48 #[p, p'] W fun e w' => e = .returned (.bool true) ∧ Below W.heap.size W w') := fun W hW => eqMrks m p p' W hm (ha.below hW) (ha'.below hW)
  have CR : Hid (∀ W, Below w.heap.size w W → Calls Try.prog 49 #[q, q'] W fun e w' => e = .returned (.bool true) ∧ Below W.heap.size W w') := fun W hW => eqRuns l q q' W hl hr (hb.below hW) (hb'.below hW)
  obtain ⟨_, _, rfl⟩ := ha.slice
  obtain ⟨_, _, rfl⟩ := hb.slice
  obtain ⟨_, _, rfl⟩ := ha'.slice
  obtain ⟨_, _, rfl⟩ := hb'.slice
  clear ha hb ha' hb' hr hm hl
  go_enter Try.func22, Try.ntmps22
  go_upto_region 1 with fail
  rw [← hO]
  clear hO
  have c0 := A0.1 0 _ rfl
  have d0 := A1.1 0 _ rfl
  go_wp2_with fail
  refine (CE.out _ bO).mono ?_
  rintro e wc ⟨rfl, bc⟩
  have B1 := bO.trans (bc.mono bO.size)
  have c1 := (A0.below bc).1 1 _ rfl
  have d1 := (A1.below bc).1 1 _ rfl
  clear c0 d0 bc CE
  go_wp2_with fail
  refine (CR.out _ B1).mono ?_
  rintro e wd ⟨rfl, bd⟩
  have B2 := B1.trans (bd.mono B1.size)
  clear bd CR
  go_wp2_with fail
  go_ret
  exact ⟨rfl, B2⟩
end Go.Proofs.Ytocgdbinfmdkcaa
