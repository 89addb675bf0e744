/- The leases of a map, collected in whatever order. -/
import Derived.Test.YtcjblhiihgdljaaGreatRows
import Derived.Test.YtcjblhiihgdljaaGreatLeaseMap
import Derived.Test.YtcjblhiihgdljaaGreatSumZ
import Derived.RangeFuncNested
import Derived.RangeFuncBound
import Derived.RangeFuncCalls
import Derived.RangeFuncLeaves
import Derived.RangeFuncBox
import Derived.Shelf.Abstract
import Derived.Shelf.RegionOpen
import Derived.WalkKit
import Derived.OwnWalkIn
import Derived.TacticsInMore
import Derived.RegionIn
import Derived.LoopNIn
import Derived.LoopIn
import Derived.Maps.AppendAt
import Derived.Maps.OwnIn
import Derived.Sort.MapsRangeIn
import Derived.Sort.KeysCollected
namespace Go.Proofs.YtcjblhiihgdljaaGreat
open Go.RowKit Go.Shelf Go.Maps Go.Sort
attribute [local go_sem] Oper.semAt_some
set_option linter.unusedVariables false
set_option linter.unusedSimpArgs false

def kB (x : LsV) : List UInt8 := x.k.data.toList
theorem kB_inj {x y : LsV} (h : kB x = kB y) : x.k = y.k := ByteArray.ext (by rw [← Array.toList_inj]; exact h)
theorem vals_grow {W W' : World} (b : Below W.heap.size W W') : W.grownBy W' none := ⟨b.os, b.tape, b.output, b.size, fun k hk _ => b.block k hk⟩
set_option maxHeartbeats 1000000 in
theorem implVals (n : Nat) (mb : Option Nat) (w : World) :
    CallsIn Fence.wide n Tryz.prog 137 #[.map mb] w fun e w' => e = .returned (.func (.func 157) #[] #[.pointer (some ⟨w.heap.size, 0, none⟩)]) ∧ w' = w.alloc (.cells #[.map mb] 93) := by
  refine callsIn_of_wp Tryz.func137 rfl trivial ?_ rfl
  simp only [Tryz.ntmps137, List.size_toArray, List.length_cons, List.length_nil, Nat.reduceAdd, Nat.reduceSub, Array.replicate_succ, Array.replicate_zero, List.push_toArray, List.append_toArray, List.nil_append, List.cons_append]
  gi_wp2
  go_ret
  exact ⟨rfl, rfl⟩
set_option maxRecDepth 100000 in
set_option maxHeartbeats 4000000 in
theorem implVals1 (n : Nat) (hn : 1 ≤ n) (Bm b N : Nat) (le : List LsV) (w : World) (hBm : Bm < w.heap.size) (hm : w.cell? ⟨Bm, 0, none⟩ = some (.map (some b))) (hL : LMapO w b N le) (hnd : (le.map kB).Nodup) :
    SeqStopsK Fence.wide n Tryz.prog 157 #[.pointer (some ⟨Bm, 0, none⟩)] (fun x : LsV => #[lsA x]) KeepsWalks (fun xs => xs.Perm le) (fun _ => True) N w := fun l J Jx W hW hJ hJx hY h0 => by
  obtain ⟨D, hL0⟩ := hL
  have hown : W.ownsMap Tryz.prog 9 leaseD b N D := hL0.own.kept (vals_grow hW) (by simp)
  have HLM : Hid (LMap w b N D le) := hL0
  have HND := hidM hnd
  have hmW := (hW.cell (p := ⟨Bm, 0, none⟩) hBm).trans hm
  have HJ : Hid (∀ pre W1 W2, J pre W1 → Below W1.heap.size W1 W2 → J pre W2) := fun pre W1 W2 h hb => hJ pre W1 W2 none h (vals_grow hb) (fun r e => by cases e)
  have HSZ : Hid (Maps.size D ≤ N) := hown.size_le
  have HPM : Hid (∀ ps : List LsV, (ps.map kB).Nodup → (∀ x ∈ ps, x ∈ le) → (∀ x ∈ le, kB x ∈ ps.map kB) → ps.Perm le) := fun ps h1 h2 h3 => by
    refine (List.perm_ext_iff_of_nodup (List.Pairwise.of_map kB (fun a b h e => h (by rw [e])) h1) (List.Pairwise.of_map kB (fun a b h e => h (by rw [e])) HND.out)).2 fun x => ⟨h2 x, fun hx => ?_⟩
    obtain ⟨y, hy, e⟩ := List.mem_map.1 (h3 x hx)
    have hyl := h2 y hy
    have : y = x := by
      have hp := HND.out
      rw [List.nodup_iff_pairwise_ne, List.pairwise_map] at hp
      obtain ⟨i, hi, rfl⟩ := mem_getD lsv0 hyl
      obtain ⟨j, hj, rfl⟩ := mem_getD lsv0 hx
      rcases Nat.lt_trichotomy i j with hij | hij | hij
      · exact absurd e (pair_at (R := fun a b : LsV => kB a ≠ kB b) lsv0 hp hij hj)
      · rw [hij]
      · exact absurd e.symm (pair_at (R := fun a b : LsV => kB a ≠ kB b) lsv0 hp hij hi)
    rwa [← this]
  clear hJx hL0 hnd hm
  refine callsIn_of_wp Tryz.func157 rfl trivial ?_ rfl
  simp only [Tryz.ntmps157, List.size_toArray, List.length_cons, List.length_nil, Nat.reduceAdd, Nat.reduceSub, Array.replicate_succ, Array.replicate_zero, List.push_toArray, List.append_toArray, List.nil_append, List.cons_append]
  gi_wp2_with (first
    | (gi_at_range; refine wpListIn_range_own _ rfl _ 93 rfl 9 51 (Maps.string_keyed Tryz.underlying9) Tryz.underlying93 _ b N _ rfl hown ?_; intro w0 hrg0 hg0 hs0)
    | gi_in)
  gi_loopw [4] (fun _ wr => ∃ (left : Lit → Bool) (cnt : Nat) (ps : List LsV), wr.ranges Tryz.prog 9 leaseD b W.heap.size N D left cnt ∧ ps.length + cnt ≤ Maps.size D ∧ Hid (Collected D left (ps.map kB)) ∧ Hid (∀ x ∈ ps, x ∈ le) ∧ J ps wr)
    (fun _ wr => wr.rangeLeft b W.heap.size)
  case atStart => exact ⟨_, _, [], hrg0, by simp, Collected.start D, (fun x hx => absurd hx (List.not_mem_nil)), hJ [] W w0 none h0 hg0 (fun r e => by cases e)⟩
  case round =>
    obtain ⟨left, cnt, ps, hrg, hcs, hC, hV, hJs⟩ := hrel
    gi_wp2_with (first
      | (gi_at_next; refine wpListIn_next_ranges _ rfl _ rfl 9 (Maps.string_keyed Tryz.underlying9) leaseD encStr lsA (fun key kl hk => by obtain ⟨x, hx, _⟩ := Maps.keyOf_str Tryz.underlying9 hk; exact ⟨x, hx⟩) (fun v y hv => by obtain ⟨c, rfl, _⟩ := leaseD_inv hv; exact ⟨c, rfl⟩) b W.heap.size N _ _ _ rfl hrg ?_ ?_)
      | gi_in)
    · intro hc0 hl0
      gi_wp2
      go_end0
      refine ⟨⟨_, rfl⟩, .inl ⟨ps, HPM.out ps hC.out.1 hV.out fun x hx => ?_, hJs⟩⟩
      exact (hC.out.2 (kB x)).2 ⟨HLM.out.yes hx, hl0 _⟩
    · intro x c kl yd yp w2 cnt2 hkey hlk hv hat hrg2 hlt hg2 hs2 hen
      obtain ⟨x', ex, rfl, _⟩ := Maps.keyOf_str Tryz.underlying9 hkey
      obtain rfl : yd = lsData c := by rw [leaseD_mk] at hv; injection hv with hv; exact (Prod.mk.inj hv).1.symm
      have hcm : c ∈ le ∧ kB c = x' := by
        obtain ⟨z, hz, e⟩ := HLM.out.has x' (Maps.has_true_of_atKey hat)
        have h1 := HLM.out.at' z hz (lsData c)
        have h2 := hat (lsData c)
        unfold kLit at h1
        rw [e, h2] at h1
        rw [lsData_inj h1]
        exact ⟨hz, e⟩
      have hJ2 : J ps w2 := hJ _ wr w2 (some W.heap.size) hJs hg2 (fun r e => by cases e; exact ⟨Nat.le_refl _, hrg.iter_walk⟩)
      have hC2 : Hid (Collected D (fun z => left z && !z.sameKey (.string x')) ((ps ++ [c]).map kB)) := hidM (by
        rw [List.map_append, List.map_singleton, hcm.2]
        exact hC.out.step hlk hat)
      have hV2 : Hid (∀ y ∈ ps ++ [c], y ∈ le) := fun y hy => by
        rcases List.mem_append.1 hy with h | h
        · exact hV.out y h
        · rw [List.mem_singleton.1 h]; exact hcm.1
      have hJ3 : J ps (w2.alloc (.cells #[.string c.k, .string c.s, .int .i64 c.p, .int .i64 c.u] 51)) := HJ.out ps w2 _ hJ2 ((Below.refl _ _).alloc (Nat.le_refl _) _)
      have hrg4 := hrg2.alloc (.cells #[.string c.k, .string c.s, .int .i64 c.p, .int .i64 c.u] 51)
      have hlen2 : ps.length < N := by have := HSZ.out; omega
      obtain ⟨fn, tmps, assign, body, hy, hR⟩ := hY ps c _ hJ3 hlen2
      have hcs2 : (ps ++ [c]).length + cnt2 ≤ Maps.size D := by rw [List.length_append, List.length_singleton]; omega
      dsimp only [lsA] at hen hy ⊢
      have HR := hidM hR
      clear hs2 hJ2 hJ3 hV hC hJs hcm hat hv hkey hR hlk
      gi_wp2
      refine HR.out.mono ?_
      rintro e W3 (⟨rfl, hJ5, hk3⟩ | ⟨rfl, hJx3⟩)
      · gi_wp2
        have hrg3 := hrg4.of_walks hk3
        go_roundw
        case rel => exact ⟨_, cnt2, ps ++ [c], hrg3, hcs2, hC2, hV2, hJ5⟩
        case measure => rw [hrg3.left_eq, hrg.left_eq]; exact hlt
      · gi_wp2
        refine bodyPost_ret (results_none rfl _ _ _) rfl ?_
        exact ⟨⟨_, rfl⟩, .inr ⟨ps ++ [c], trivial, hJx3⟩⟩
end Go.Proofs.YtcjblhiihgdljaaGreat
