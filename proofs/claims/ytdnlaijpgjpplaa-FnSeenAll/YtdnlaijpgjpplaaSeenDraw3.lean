/- The draw of a Seen: DrawSeen. -/
import Derived.Test.YtdnlaijpgjpplaaRows
import Derived.Test.YtdnlaijpgjpplaaSeenDraw2
namespace Go.Proofs.Ytdnlaijpgjpplaa
open Go.RowKit
set_option linter.unusedVariables false
set_option linter.unusedSimpArgs false

set_option maxHeartbeats 1000000 in
theorem l1Size15 (ao : Option Addr) (len cap : Nat) (most : Int) (w : World) (hl : len ≤ 1048576) (h1 : 4 ≤ most) (h2 : most ≤ 50) :
    Calls Try.prog 18 #[.slice ao len cap, .int .i64 most] w fun e w' => ∃ z : Int, 0 < z ∧ z ≤ most ∧ e = .returned (.int .i64 z) ∧ w = w' := by
  obtain ⟨q, hq⟩ : ∃ q : Nat, (len : Int) / 12 = (q : Int) := ⟨len / 12, by omega⟩
  by_cases h : most < 3 + (q : Int)
  · go_enter Try.func18, Try.ntmps18
    go_wp2_with fail
    go_ret
    exact ⟨most, by omega, by omega, rfl, rfl⟩
  · go_enter Try.func18, Try.ntmps18
    go_wp2_with fail
    go_ret
    exact ⟨3 + (q : Int), by omega, by omega, ret_int (by omega), rfl⟩

/-- What DrawSeen answers. -/
def DrawnA (w w' : World) (e : Ending) : Prop := ∃ v5 v6 m ll, Rgt m ll 50 ∧ e = .returned (.agg #[v5, v6]) ∧ EntRow w' v5 m ∧ RunRow w' v6 ll ∧ Below w.heap.size w w'

set_option maxRecDepth 100000 in
set_option maxHeartbeats 4000000 in
theorem drawSeen (ao : Option Addr) (len cap : Nat) (w : World) (hl : len ≤ 1048576) (hcode : CodeRow w.heap.size w ao len) :
    Calls Try.prog 13 #[.slice ao len cap] w fun e w' => DrawnA w w' e := by
  obtain ⟨O, hO⟩ : ∃ O, O = w.alloc (.cells #[.slice none 0 0, .slice none 0 0] 27) := ⟨_, rfl⟩
  have bO : Below w.heap.size w O := by rw [hO]; exact (Below.refl _ _).alloc (Nat.le_refl _) _
  have hzO : O.heap.size = w.heap.size + 1 := by rw [hO]; simp
  have HR : O.heap[w.heap.size]? = some (.cells #[.slice none 0 0, .slice none 0 0] 27 (0, 0)) := by rw [hO]; exact heap_alloc_new w _
  have HC := hidM (hcode.later bO)
  clear hcode
  go_enter Try.func13, Try.ntmps13
  go_upto_region 1 with fail
  rw [← hO]
  clear hO
  go_wp2_with fail
  refine (l1New _ _ _ _ hl HC.out).mono ?_
  rintro e wa ⟨B, rfl, hB, ca, ba⟩
  have CA : Hid (Cur O.heap.size B ao len cap wa) := ca
  clear ca
  go_wp2_with fail
  refine (l1Size15 _ _ _ 50 _ hl (by omega) (by omega)).mono ?_
  rintro e w1 ⟨z, hz0, hz1, rfl, rfl⟩
  go_wp2_with fail
  refine (l15Draw z _ _ _ _ _ _ hz0 hz1 CA.out).mono ?_
  rintro e wb ⟨v5, v6, m, ll, vs, hr, rfl, o5, o6, e6, _, cb, gb⟩
  have hza := ba.size
  have hRb : wb.heap[w.heap.size]? = some (.cells #[.slice none 0 0, .slice none 0 0] 27 (0, 0)) := ((gb.block w.heap.size (by omega) (fun e => by injection e; omega)).trans (ba.block w.heap.size (by omega))).trans HR
  obtain ⟨hsZ, AZ⟩ := two_set v5 v6 hRb
  have r0 : wb.cell? ⟨w.heap.size, 0, none⟩ = some (.slice none 0 0) := by rw [cell_of_row wb _ _ _ _ (0, 0) hRb]; rfl
  have r1 : wb.cell? ⟨w.heap.size, 1, none⟩ = some (.slice none 0 0) := by rw [cell_of_row wb _ _ _ _ (0, 0) hRb]; rfl
  have f0 : wb.frozen? ⟨w.heap.size, 0, none⟩ = false := frozen_of_row _ _ _ _ _ hRb
  have f1 : wb.frozen? ⟨w.heap.size, 1, none⟩ = false := frozen_of_row _ _ _ _ _ hRb
  have OF := hidM (own_far o5 hRb (by decide) hsZ)
  have NF := hidM (own_far o6 hRb (by decide) hsZ)
  have EF := hidM (e6.far hRb (by decide) hsZ)
  have RF := hidM hr
  have Bb : Below O.heap.size O wb := ba.grown gb ba.size (fun k hk => by cases hk; exact hB)
  have BF : Below w.heap.size w ((wb.setCell ⟨w.heap.size, 0, none⟩ v5).setCell ⟨w.heap.size, 1, none⟩ v6) := ((bO.trans (Bb.mono bO.size)).setCell (by simp) _).setCell (by simp) _
  obtain ⟨a5, c5, hv5⟩ := (EntRow.of_own' o5).slice
  obtain ⟨a6, c6, hv6⟩ := (e6.row o6).slice
  clear o5 o6 e6 cb gb hr hsZ CA
  subst hv5 hv6
  go_wp2_with fail
  refine bodyPost_ret (seen_resultS rfl _ _ w.heap.size _ _ rfl AZ) rfl ?_
  exact ⟨_, _, m, ll, RF.out, rfl, EntRow.of_own' OF.out, EF.out.row NF.out, BF⟩
end Go.Proofs.Ytdnlaijpgjpplaa
