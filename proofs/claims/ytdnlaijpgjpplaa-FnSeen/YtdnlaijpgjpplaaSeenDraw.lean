/- What is drawn for chapter 15's laws (l15Key, l15Draw, DrawSeen), and laws.sameMarks. -/
import Derived.Test.YtdnlaijpgjpplaaRows
import Derived.Test.YtdnlaijpgjpplaaDrawWalk
import Derived.Test.YtdnlaijpgjpplaaPutRight
import Derived.Test.YtdnlaijpgjpplaaPutSpec
import Derived.BigQuiet
import Derived.Deep.QuietTactic
import Derived.Deep.RegionHeld3
namespace Go.Proofs.Ytdnlaijpgjpplaa
open Go.RowKit
set_option linter.unusedVariables false
set_option linter.unusedSimpArgs false

set_option maxHeartbeats 4000000 in
theorem sameMarks (l : List EV) (va vb : Value) (w : World) (hl : l.length ≤ 1099511627776) (ha : EntRow w va l) (hb : EntRow w vb l) :
    Calls Try.prog 9 #[va, vb] w fun e w' => e = .returned (.bool true) ∧ Below w.heap.size w w' := by
  rcases ha with ⟨rfl, ao, cap, rfl⟩ | ⟨h0, g, off, cap, rfl, hg, hc⟩
  · obtain ⟨bo, cap', rfl⟩ := hb.slice
    clear hb hl
    go_enter Try.func9, Try.ntmps9
    go_wp2
    refine wp_loop_rounds 1 ?_
    rw [rounds_succ]
    go_wp2
    go_ret
    exact ⟨rfl, Below.refl _ _⟩
  · rcases hb with ⟨rfl, _⟩ | ⟨_, g', off', cap', rfl, hg', hc'⟩
    · exact absurd h0 (by simp)
    · have HC : Hid (∀ i, i < l.length → w.cell? ⟨g, off + i * 2, none⟩ = some (.string (l.getD i ev0).s) ∧ w.cell? ⟨g, off + i * 2 + 1, none⟩ = some (.int .i64 (l.getD i ev0).k)) := hc
      have HC' : Hid (∀ i, i < l.length → w.cell? ⟨g', off' + i * 2, none⟩ = some (.string (l.getD i ev0).s) ∧ w.cell? ⟨g', off' + i * 2 + 1, none⟩ = some (.int .i64 (l.getD i ev0).k)) := hc'
      clear hc hc'
      go_enter Try.func9, Try.ntmps9
      go_wp2
      go_loopw [5] (fun i wr => ∃ k : Nat, k ≤ l.length ∧ i = .int .i64 k ∧ Below w.heap.size w wr) (fun i _ => l.length - (intOf i).toNat)
      case atStart => exact ⟨0, Nat.zero_le _, rfl, Below.refl _ _⟩
      case round =>
        obtain ⟨k, hk, rfl, hbel⟩ := hrel
        by_cases hlt : k < l.length
        · have hki : (k : Int) < l.length := by omega
          obtain ⟨c1, c3⟩ := HC.out k hlt
          obtain ⟨d1, d3⟩ := HC'.out k hlt
          have c1w := (hbel.cell (p := ⟨g, off + k * 2, none⟩) hg).trans c1
          have c3w := (hbel.cell (p := ⟨g, off + k * 2 + 1, none⟩) hg).trans c3
          have d1w := (hbel.cell (p := ⟨g', off' + k * 2, none⟩) hg').trans d1
          have d3w := (hbel.cell (p := ⟨g', off' + k * 2 + 1, none⟩) hg').trans d3
          clear c1 c3 d1 d3
          generalize (l.getD k ev0).k = al at *
          generalize (l.getD k ev0).s = pa at *
          go_wp2
          go_quiet (fail)
          go_wp2
          go_roundw
          case rel => exact ⟨k + 1, by omega, by go_num, below_drewN hbel _⟩
          case measure => simp [intOf]; omega
        · have hki : ¬ (k : Int) < l.length := by omega
          go_wp2
          go_ret
          exact ⟨rfl, hbel⟩

set_option maxRecDepth 100000 in
set_option maxHeartbeats 2000000 in
theorem l15Key (D B : Nat) (ao : Option Addr) (len cap : Nat) (w : World) (hcur : Cur D B ao len cap w) :
    Calls Try.prog 19 #[.pointer (some ⟨B, 0, none⟩)] w fun e w' => ∃ z : ByteArray, 1 ≤ z.size ∧ z.size ≤ 3 ∧ e = .returned (.string z) ∧ Cur D B ao len cap w' ∧ w.grownBy w' (some B) := by
  have HC : Hid (Cur D B ao len cap w) := hcur
  have hB := hcur.lt
  clear hcur
  go_enter Try.func19, Try.ntmps19
  go_wp2_with fail
  refine (l1Str 8 _ 8 0 [⟨#[97]⟩, ⟨#[98]⟩, ⟨#[99]⟩, ⟨#[100]⟩, ⟨#[97, 98]⟩, ⟨#[101]⟩, ⟨#[102]⟩, ⟨#[103]⟩] _ _ _ _ _ _ (by omega) (by omega) (HC.out.alloc _) (World.ownsRow_lit w #[.string ⟨#[97]⟩, .string ⟨#[98]⟩, .string ⟨#[99]⟩, .string ⟨#[100]⟩, .string ⟨#[97, 98]⟩, .string ⟨#[101]⟩, .string ⟨#[102]⟩, .string ⟨#[103]⟩] 8 (Nat.zero_le _) (by decide) rfl) (by omega)).mono ?_
  rintro e wa ⟨y, hy, rfl, ca, ga⟩
  have CA : Hid (Cur D B ao len cap wa) := ca
  have hBa := ca.lt
  have Ga := grow_trans (grow_alloc (World.grownBy.refl w (some B)) _) ga
  have hy1 : 1 ≤ y.size ∧ y.size ≤ 2 := by
    simp at hy
    rcases hy with rfl | rfl | rfl | rfl | rfl | rfl | rfl | rfl <;> decide
  clear ca ga hy
  go_wp2_with fail
  refine (l1Str 4 _ 4 0 [⟨#[]⟩, ⟨#[49]⟩, ⟨#[50]⟩, ⟨#[51]⟩] _ _ _ _ _ _ (by omega) (by omega) (CA.out.alloc _) (World.ownsRow_lit wa #[.string ⟨#[]⟩, .string ⟨#[49]⟩, .string ⟨#[50]⟩, .string ⟨#[51]⟩] 4 (Nat.zero_le _) (by decide) rfl) (by omega)).mono ?_
  rintro e wb ⟨z, hz, rfl, cb, gb⟩
  have CB : Hid (Cur D B ao len cap wb) := cb
  have Gb := grow_trans (grow_alloc Ga _) gb
  have hz1 : z.size ≤ 1 := by
    simp at hz
    rcases hz with rfl | rfl | rfl | rfl <;> decide
  clear cb gb hz Ga
  go_wp2_with fail
  go_ret
  exact ⟨_, by rw [ByteArray.size_append]; omega, by rw [ByteArray.size_append]; omega, rfl, CB.out, Gb⟩
end Go.Proofs.Ytdnlaijpgjpplaa
