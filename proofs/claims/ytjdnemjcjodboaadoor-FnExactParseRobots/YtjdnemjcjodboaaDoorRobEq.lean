/- Contracts of the laws' helpers that compare rows of lines, parts and robots that are the same. -/
import Derived.Test.YtjdnemjcjodboaaDoorRows
import Derived.Test.YtjdnemjcjodboaaDoorRobRow
import Derived.Test.YtjdnemjcjodboaaDoorStrEq
namespace Go.Proofs.YtjdnemjcjodboaaDoor
open Go.RowKit
set_option linter.unusedVariables false

set_option maxHeartbeats 2000000 in
theorem eqLine (a : Bool) (s : ByteArray) (w : World) :
    Calls Tryd.prog 96 #[.agg #[.bool a, .string s], .agg #[.bool a, .string s]] w fun e w' => e = .returned (.bool true) ∧ Below w.heap.size w w' := by
  have hbO : Below w.heap.size w ((w.alloc (.cells #[.bool a, .string s] 35)).alloc (.cells #[.bool a, .string s] 35)) := ((Below.refl _ _).alloc (Nat.le_refl _) _).alloc (by simp) _
  go_enter Tryd.func96, Tryd.ntmps96
  go_wp2_with fail
  go_ret
  exact ⟨rfl, by first | exact hbO | exact below_drewN hbO _ | exact hbO.drew | exact hbO.drew.drew⟩
set_option maxHeartbeats 4000000 in
theorem eqLines (l : List LV) (va vb : Value) (w : World) (hl : l.length ≤ 1099511627776) (ha : LineRow w va l) (hb : LineRow w vb l) :
    Calls Tryd.prog 81 #[va, vb] w fun e w' => e = .returned (.bool true) ∧ Below w.heap.size w w' := by
  rcases ha with ⟨rfl, ao, cap, rfl⟩ | ⟨h0, g, off, cap, rfl, hg, hc⟩
  · obtain ⟨bo, cap', rfl⟩ := hb.slice
    clear hb hl
    go_enter Tryd.func81, Tryd.ntmps81
    go_wp2
    refine wp_loop_rounds 1 ?_
    rw [rounds_succ]
    go_wp2
    go_ret
    exact ⟨rfl, Below.refl _ _⟩
  · rcases hb with ⟨rfl, _⟩ | ⟨_, g', off', cap', rfl, hg', hc'⟩
    · exact absurd h0 (by simp)
    · have HC : Hid (∀ i, i < l.length → w.cell? ⟨g, off + i * 2, none⟩ = some (.bool (l.getD i lv0).al) ∧ w.cell? ⟨g, off + i * 2 + 1, none⟩ = some (.string (l.getD i lv0).pa)) := hc
      have HC' : Hid (∀ i, i < l.length → w.cell? ⟨g', off' + i * 2, none⟩ = some (.bool (l.getD i lv0).al) ∧ w.cell? ⟨g', off' + i * 2 + 1, none⟩ = some (.string (l.getD i lv0).pa)) := hc'
      clear hc hc'
      go_enter Tryd.func81, Tryd.ntmps81
      go_wp2
      go_loopw [5] (fun i wr => ∃ k : Nat, k ≤ l.length ∧ i = .int .i64 k ∧ Below w.heap.size w wr) (fun i _ => l.length - (intOf i).toNat)
      case atStart => exact ⟨0, Nat.zero_le _, rfl, Below.refl _ _⟩
      case round =>
        obtain ⟨k, hk, rfl, hbel⟩ := hrel
        by_cases hlt : k < l.length
        · have hki : (k : Int) < l.length := by omega
          obtain ⟨c1, c3⟩ := HC.out k hlt
          obtain ⟨d1, d3⟩ := HC'.out k hlt
          have c1w := (hbel.cell (p := ⟨g, off + k * 2, none⟩) hg).trans c1
          have c3w := (hbel.cell (p := ⟨g, off + k * 2 + 1, none⟩) hg).trans c3
          have d1w := (hbel.cell (p := ⟨g', off' + k * 2, none⟩) hg').trans d1
          have d3w := (hbel.cell (p := ⟨g', off' + k * 2 + 1, none⟩) hg').trans d3
          have CE : Hid (∀ W, Calls Tryd.prog 96 #[.agg #[.bool (l.getD k lv0).al, .string (l.getD k lv0).pa], .agg #[.bool (l.getD k lv0).al, .string (l.getD k lv0).pa]] W fun e w' => e = .returned (.bool true) ∧ Below W.heap.size W w') := fun W => eqLine _ _ W
          clear c1 c3 d1 d3
          generalize (l.getD k lv0).al = al at *
          generalize (l.getD k lv0).pa = pa at *
          go_wp2_with fail
          go_region_with (go_at_call 96; refine (CE.out _).mono ?_; rintro e wc ⟨rfl, hbc⟩)
          all_goals
            have B1 := hbel.drew.trans (hbc.mono hbel.size)
            clear hbc CE
            go_wp2_with fail
            refine ⟨⟨k + 1, by omega, by go_num, B1⟩, ?_⟩
            simp [intOf]
            omega
        · have hki : ¬ (k : Int) < l.length := by omega
          go_wp2_with fail
          go_ret
          exact ⟨rfl, hbel⟩
set_option maxHeartbeats 2000000 in
theorem eqPart (x : PT) (p q p' q' : Value) (w : World) (h1 : x.ag.length ≤ 1099511627776) (h2 : x.ln.length ≤ 1099511627776) (hp : StrRow w p x.ag) (hq : LineRow w q x.ln) (hp' : StrRow w p' x.ag) (hq' : LineRow w q' x.ln) :
    Calls Tryd.prog 62 #[.agg #[p, q], .agg #[p', q']] w fun e w' => e = .returned (.bool true) ∧ Below w.heap.size w w' := by
  obtain ⟨O, hO⟩ : ∃ O, O = (w.alloc (.cells #[p, q] 33)).alloc (.cells #[p', q'] 33) := ⟨_, rfl⟩
  have hbO : Below w.heap.size w O := by rw [hO]; exact ((Below.refl _ _).alloc (Nat.le_refl _) _).alloc (by simp) _
  have CE : Hid (∀ W, Below w.heap.size w W → Calls Tryd.prog 80 #[p, p'] W fun e w' => e = .returned (.bool true) ∧ ∃ m, w' = W.drewN m) := fun W hW => eqStrs x.ag p p' W h1 (hp.below hW) (hp'.below hW)
  have CL : Hid (∀ W, Below w.heap.size w W → Calls Tryd.prog 81 #[q, q'] W fun e w' => e = .returned (.bool true) ∧ Below W.heap.size W w') := fun W hW => eqLines x.ln q q' W h2 (hq.below hW) (hq'.below hW)
  rw [hO] at hbO
  clear hp hq hp' hq' hO
  go_enter Tryd.func62, Tryd.ntmps62
  go_wp2_with fail
  refine (CE.out _ hbO).mono ?_
  rintro e w1 ⟨rfl, m, rfl⟩
  go_wp2_with fail
  refine (CL.out _ (below_drewN hbO m)).mono ?_
  rintro e w2 ⟨rfl, b2⟩
  go_wp2_with fail
  go_ret
  exact ⟨rfl, (below_drewN hbO m).trans (b2.mono (below_drewN hbO m).size)⟩
def PSz (l : List PT) : Prop := ∀ i, i < l.length → (l.getD i pt0).ag.length ≤ 1099511627776 ∧ (l.getD i pt0).ln.length ≤ 1099511627776
set_option maxHeartbeats 4000000 in
theorem eqParts (l : List PT) (va vb : Value) (w : World) (hl : l.length ≤ 1099511627776) (hz : PSz l) (ha : PartRow w va l) (hb : PartRow w vb l) :
    Calls Tryd.prog 34 #[va, vb] w fun e w' => e = .returned (.bool true) ∧ Below w.heap.size w w' := by
  have HZ : Hid (PSz l) := hz
  clear hz
  rcases ha with ⟨rfl, ao, cap, rfl⟩ | ⟨h0, g, off, cap, rfl, hg, hc⟩
  · obtain ⟨bo, cap', rfl⟩ := hb.slice
    clear hb hl HZ
    go_enter Tryd.func34, Tryd.ntmps34
    go_wp2
    refine wp_loop_rounds 1 ?_
    rw [rounds_succ]
    go_wp2
    go_ret
    exact ⟨rfl, Below.refl _ _⟩
  · rcases hb with ⟨rfl, _⟩ | ⟨_, g', off', cap', rfl, hg', hc'⟩
    · exact absurd h0 (by simp)
    · have HC : Hid (∀ i, i < l.length → ∃ p q, w.cell? ⟨g, off + i * 2, none⟩ = some p ∧ StrRow w p (l.getD i pt0).ag ∧ w.cell? ⟨g, off + i * 2 + 1, none⟩ = some q ∧ LineRow w q (l.getD i pt0).ln) := hc
      have HC' : Hid (∀ i, i < l.length → ∃ p q, w.cell? ⟨g', off' + i * 2, none⟩ = some p ∧ StrRow w p (l.getD i pt0).ag ∧ w.cell? ⟨g', off' + i * 2 + 1, none⟩ = some q ∧ LineRow w q (l.getD i pt0).ln) := hc'
      clear hc hc'
      go_enter Tryd.func34, Tryd.ntmps34
      go_wp2
      go_loopw [5] (fun i wr => ∃ k : Nat, k ≤ l.length ∧ i = .int .i64 k ∧ Below w.heap.size w wr) (fun i _ => l.length - (intOf i).toNat)
      case atStart => exact ⟨0, Nat.zero_le _, rfl, Below.refl _ _⟩
      case round =>
        obtain ⟨k, hk, rfl, hbel⟩ := hrel
        by_cases hlt : k < l.length
        · have hki : (k : Int) < l.length := by omega
          obtain ⟨p, q, c1, c2, c3, c4⟩ := HC.out k hlt
          obtain ⟨p', q', d1, d2, d3, d4⟩ := HC'.out k hlt
          have c1w := (hbel.cell (p := ⟨g, off + k * 2, none⟩) hg).trans c1
          have c3w := (hbel.cell (p := ⟨g, off + k * 2 + 1, none⟩) hg).trans c3
          have d1w := (hbel.cell (p := ⟨g', off' + k * 2, none⟩) hg').trans d1
          have d3w := (hbel.cell (p := ⟨g', off' + k * 2 + 1, none⟩) hg').trans d3
          obtain ⟨z1, z2⟩ := HZ.out k hlt
          have CE : Hid (∀ W, Below w.heap.size w W → Calls Tryd.prog 62 #[.agg #[p, q], .agg #[p', q']] W fun e w' => e = .returned (.bool true) ∧ Below W.heap.size W w') := fun W hW => eqPart _ p q p' q' W z1 z2 (c2.below hW) (c4.below hW) (d2.below hW) (d4.below hW)
          clear c1 c2 c3 c4 d1 d2 d3 d4 z1 z2
          go_wp2_with fail
          go_region_with (go_at_call 62; refine (CE.out _ hbel.drew).mono ?_; rintro e wc ⟨rfl, hbc⟩)
          all_goals
            have B1 := hbel.drew.trans (hbc.mono hbel.size)
            clear hbc CE
            go_wp2_with fail
            refine ⟨⟨k + 1, by omega, by go_num, B1⟩, ?_⟩
            simp [intOf]
            omega
        · have hki : ¬ (k : Int) < l.length := by omega
          go_wp2_with fail
          go_ret
          exact ⟨rfl, hbel⟩
set_option maxHeartbeats 2000000 in
theorem eqRobots (l : List PT) (va vb : Value) (w : World) (hl : l.length ≤ 1099511627776) (hz : PSz l) (ha : PartRow w va l) (hb : PartRow w vb l) :
    Calls Tryd.prog 13 #[.agg #[va], .agg #[vb]] w fun e w' => e = .returned (.bool true) ∧ Below w.heap.size w w' := by
  obtain ⟨O, hO⟩ : ∃ O, O = (w.alloc (.cells #[va] 26)).alloc (.cells #[vb] 26) := ⟨_, rfl⟩
  have hbO : Below w.heap.size w O := by rw [hO]; exact ((Below.refl _ _).alloc (Nat.le_refl _) _).alloc (by simp) _
  have CE : Hid (∀ W, Below w.heap.size w W → Calls Tryd.prog 34 #[va, vb] W fun e w' => e = .returned (.bool true) ∧ Below W.heap.size W w') := fun W hW => eqParts l va vb W hl hz (ha.below hW) (hb.below hW)
  rw [hO] at hbO
  clear ha hb hO hz
  go_enter Tryd.func13, Tryd.ntmps13
  go_wp2_with fail
  refine (CE.out _ hbO).mono ?_
  rintro e w1 ⟨rfl, b1⟩
  go_wp2_with fail
  go_ret
  exact ⟨rfl, hbO.trans (b1.mono hbO.size)⟩
end Go.Proofs.YtjdnemjcjodboaaDoor
