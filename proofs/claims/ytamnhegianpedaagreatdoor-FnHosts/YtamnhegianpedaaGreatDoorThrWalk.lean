/- Contracts of impl.thresholds and of the function value that it hands back: it never ends of itself. -/
import Derived.Test.YtamnhegianpedaaGreatDoorRows
import Derived.Test.YtamnhegianpedaaGreatDoorEndless
import Derived.Test.YtamnhegianpedaaGreatDoorPunyEnc
import Derived.RangeFuncBox
import Derived.Shelf.Abstract
import Derived.Shelf.RegionOpen
import Derived.WalkKit
import Derived.OwnWalkIn
import Derived.TacticsInMore
import Derived.LoopNIn
import Derived.LoopIn
import Derived.Maps.AppendAt
namespace Go.Proofs.YtamnhegianpedaaGreatDoor
open Go.RowKit Go.Shelf
attribute [local go_sem] Oper.semAt_some

/-- The k-th threshold (from 0 on). -/
def thrN (bias k : Nat) : Nat := limN (36 * (k + 1)) bias

theorem lim_int (k bias : Nat) : min (max ((k : Int) - (bias : Int)) 1) 26 = (limN k bias : Int) := by
  unfold limN
  split
  · omega
  · split <;> omega

set_option maxRecDepth 100000 in
set_option maxHeartbeats 2000000 in
theorem thr1_in (F : Fence) (n : Nat) (h6 : F.fn 170) (hro : F.round = none) (hn : 1 ≤ n) (B bias N : Nat) (hb : (bias : Int) ≤ 2400) (hN : (N : Int) ≤ 1000) :
    Endless F n Tryz.prog 170 #[.pointer (some ⟨B, 0, none⟩)] (fun k => .int .i64 (thrN bias k : Int)) (fun V => V.cell? ⟨B, 0, none⟩ = some (.int .i64 (bias : Int))) N := fun l J Jx W hC hY h0 => by
  have HC : Hid (∀ k V, J k V → k < N ∧ V.cell? ⟨B, 0, none⟩ = some (.int .i64 (bias : Int))) := hC
  have HY : Hid (∀ k V, J k V → YieldAt F (n - 1) Tryz.prog l #[.int .i64 (thrN bias k : Int)] V fun e V' => (e = .returned (.bool true) ∧ J (k + 1) V') ∨ (e = .returned (.bool false) ∧ Jx V')) := hY
  clear hC hY
  refine callsIn_of_wp Tryz.func170 rfl h6 ?_ hro
  simp only [Tryz.ntmps170, List.size_toArray, List.length_cons, List.length_nil, Nat.reduceAdd, Nat.reduceSub, Array.replicate_succ, Array.replicate_zero, List.push_toArray, List.append_toArray, List.nil_append, List.cons_append]
  gi_wp2
  gi_loopw [3] (fun p wr => ∃ k : Nat, p = .int .i64 (36 * ((k : Int) + 1)) ∧ J k wr) (fun p _ => (36 * (1000 : Int) + 36 - intOf p).toNat)
  case atStart => exact ⟨0, rfl, h0⟩
  case round =>
    obtain ⟨k, rfl, hJ⟩ := hrel
    obtain ⟨hk, hc⟩ := HC.out k wr hJ
    have hk1 : (k : Int) < 1000 := by omega
    have hk0 : 0 ≤ (k : Int) := by omega
    have hb0 : 0 ≤ (bias : Int) := by omega
    obtain ⟨fn, tmps, assign, body, hy, hR⟩ := HY.out k wr hJ
    have hL := lim_int (36 * (k + 1)) bias
    rw [show ((36 * (k + 1) : Nat) : Int) = 36 * ((k : Int) + 1) by omega] at hL
    unfold thrN at hy
    rcases (show 36 * ((k : Int) + 1) - (bias : Int) < 1 ∨ 26 < 36 * ((k : Int) + 1) - (bias : Int) ∨ (1 ≤ 36 * ((k : Int) + 1) - (bias : Int) ∧ 36 * ((k : Int) + 1) - (bias : Int) ≤ 26) by omega) with hd | hd | hd
    · rw [show (limN (36 * (k + 1)) bias : Int) = 1 by omega] at hy
      clear hL
      gi_wp2
      refine hR.mono ?_
      rintro e W3 (⟨rfl, hJ3⟩ | ⟨rfl, hJx3⟩)
      · gi_wp2
        go_roundw
        case rel => exact ⟨k + 1, by go_num, hJ3⟩
        case measure => simp [intOf]; omega
      · gi_wp2
        go_end0
        exact ⟨⟨_, rfl⟩, hJx3⟩
    · rw [show (limN (36 * (k + 1)) bias : Int) = 26 by omega] at hy
      clear hL
      gi_wp2
      refine hR.mono ?_
      rintro e W3 (⟨rfl, hJ3⟩ | ⟨rfl, hJx3⟩)
      · gi_wp2
        go_roundw
        case rel => exact ⟨k + 1, by go_num, hJ3⟩
        case measure => simp [intOf]; omega
      · gi_wp2
        go_end0
        exact ⟨⟨_, rfl⟩, hJx3⟩
    · rw [show (limN (36 * (k + 1)) bias : Int) = 36 * ((k : Int) + 1) - (bias : Int) by omega] at hy
      clear hL
      obtain ⟨hd1, hd2⟩ := hd
      gi_wp2
      refine hR.mono ?_
      rintro e W3 (⟨rfl, hJ3⟩ | ⟨rfl, hJx3⟩)
      · gi_wp2
        go_roundw
        case rel => exact ⟨k + 1, by go_num, hJ3⟩
        case measure => simp [intOf]; omega
      · gi_wp2
        go_end0
        exact ⟨⟨_, rfl⟩, hJx3⟩

set_option maxHeartbeats 1000000 in
theorem thr_in (F : Fence) (n : Nat) (h5 : F.fn 167) (hro : F.round = none) (bias : Int) (w : World) :
    CallsIn F n Tryz.prog 167 #[.int .i64 bias] w fun e w' => e = .returned (.func (.func 170) #[] #[.pointer (some ⟨w.heap.size, 0, none⟩)]) ∧ w' = w.alloc (.cells #[.int .i64 bias] 3) := by
  refine callsIn_of_wp Tryz.func167 rfl h5 ?_ hro
  simp only [Tryz.ntmps167, List.size_toArray, List.length_cons, List.length_nil, Nat.reduceAdd, Nat.reduceSub, Array.replicate_succ, Array.replicate_zero, List.push_toArray, List.append_toArray, List.nil_append, List.cons_append]
  gi_wp2
  go_ret
  exact ⟨rfl, rfl⟩
end Go.Proofs.YtamnhegianpedaaGreatDoor
