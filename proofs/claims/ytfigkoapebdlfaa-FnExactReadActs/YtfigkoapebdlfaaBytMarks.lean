/- Contracts of the laws' own helpers over rows of bytes: toByteS, eqByteS, sameBytes, markByteS, heldByteS. -/
import Derived.Test.YtfigkoapebdlfaaRows
import Derived.Test.YtfigkoapebdlfaaBytRow
import Derived.BigQuiet
import Derived.Deep.QuietTactic
namespace Go.Proofs.Ytfigkoapebdlfaa
open Go.RowKit
set_option linter.unusedVariables false

theorem byte_lt (l : List UInt8) (k : Nat) : (l.getD k 0).toNat < 256 := (l.getD k 0).toNat_lt

theorem btake_snoc (l : List UInt8) (k : Nat) (h : k < l.length) : l.take (k + 1) = l.take k ++ [l.getD k 0] := by
  rw [List.take_succ_eq_append_getElem h]
  simp [List.getD, h]

theorem bto_set (l : List UInt8) (k : Nat) (h : k < l.length) (x : Value) (xs : List Value) :
    (bcells (l.take k) ++ x :: xs).set k (.int .u8 ((l.getD k 0).toNat : Int)) = bcells (l.take (k + 1)) ++ xs := by
  rw [List.set_append_right _ _ (by simp [bcells]; omega), btake_snoc l k h, bcells_snoc]
  simp [bcells, Nat.min_eq_left (Nat.le_of_lt h)]

set_option maxHeartbeats 1000000 in
theorem toByteS (v : Value) (l : List UInt8) (w : World) (hin : BRow w v l) (hn : l.length ≤ 1099511627776) :
    Calls Try.prog 18 #[v] w fun e w' => ∃ v', e = .returned v' ∧ w'.ownsRow w.heap.size 5 1 v' l.length (bcells l) ∧ Below w.heap.size w w' := by
  obtain ⟨i0, hi, hz0, hz1, hz2⟩ := info_parts Try.infoByte
  rcases hin with ⟨rfl, ao, cap, rfl⟩ | ⟨h0, b, off, cap, rfl, hb, hc⟩
  · go_enter Try.func18, Try.ntmps18
    go_wp2_with (at_make; refine wpList_make_full _ rfl _ _ 29 rfl w.heap.size 5 i0 (.int .u8 0) 1 Try.underlying29 hi hz0 hz1 _ _ _ _ 0 rfl rfl (by omega) (by omega) (by rw [hz2]; omega) (by unfold maxLen; omega) (Nat.le_refl _) ?_)
    intro wm hmo hgm
    have Bm : Below w.heap.size w wm := (Below.refl _ _).grown hgm (Nat.le_refl _) (fun k hk => by cases hk)
    clear hgm
    go_wp2
    refine wp_loop_rounds 1 ?_
    rw [rounds_succ]
    go_wp2
    go_ret
    refine ⟨_, rfl, ?_, Bm⟩
    simpa [madeCells, bcells] using hmo
  · have HC : Hid (∀ i, i < l.length → w.cell? ⟨b, off + i, none⟩ = some (.int .u8 ((l.getD i 0).toNat : Int))) := hc
    clear hc
    obtain ⟨n, hn0⟩ : ∃ n, n = l.length := ⟨_, rfl⟩
    have HL : Hid (n = l.length) := hn0
    rw [← hn0] at hn h0 ⊢
    clear hn0
    go_enter Try.func18, Try.ntmps18
    go_wp2_with (at_make; refine wpList_make_full _ rfl _ _ 29 rfl w.heap.size 5 i0 (.int .u8 0) 1 Try.underlying29 hi hz0 hz1 _ _ _ _ n rfl rfl (by omega) (by omega) (by rw [hz2]; omega) (by unfold maxLen; omega) (Nat.le_refl _) ?_)
    intro wm hmo hgm
    have Bm : Below w.heap.size w wm := (Below.refl _ _).grown hgm (Nat.le_refl _) (fun k hk => by cases hk)
    obtain ⟨xs0, hmo, hml⟩ : ∃ xs0, wm.ownsRow w.heap.size 5 1 (.slice (some ⟨w.heap.size, 0, none⟩) n n) n xs0 ∧ xs0.length = n := ⟨_, hmo, by have := hmo.1; omega⟩
    have HM : Hid (xs0.length = n) := hml
    clear hgm hml
    go_wp2
    go_loopw [4] (fun i wr => ∃ (k : Nat) (xs : List Value), k ≤ n ∧ i = .int .i64 k ∧ k + xs.length = n ∧ wr.ownsRow w.heap.size 5 1 (.slice (some ⟨w.heap.size, 0, none⟩) n n) n (bcells (l.take k) ++ xs) ∧ Below w.heap.size w wr) (fun i _ => n - (intOf i).toNat)
    case atStart => exact ⟨0, xs0, Nat.zero_le _, rfl, by rw [HM.out]; omega, by simpa [bcells] using hmo, Bm⟩
    case round =>
      obtain ⟨k, xs, hk, rfl, hx, hown, hbel⟩ := hrel
      have HX : Hid (k + xs.length = n) := hx
      clear hx
      by_cases hlt : k < n
      · have ca : wr.cell? ⟨b, off + k, none⟩ = some (.int .u8 ((l.getD k 0).toNat : Int)) := (hbel.cell (p := ⟨b, off + k, none⟩) hb).trans (HC.out k (by have := HL.out; omega))
        have hfz := hown.frozenAt k
        obtain ⟨u, hcl⟩ := own_some hown k hlt
        have R := hown.stored k (.int .u8 ((l.getD k 0).toNat : Int))
        have hex : ∃ x ys, xs = x :: ys := by
          cases xs with
          | nil => have := HX.out; simp at this; omega
          | cons x ys => exact ⟨x, ys, rfl⟩
        obtain ⟨x, ys, hxs⟩ := hex
        have HY : Hid (k + 1 + ys.length = n) := by show _ = _; have := HX.out; rw [hxs] at this; simp at this; omega
        rw [hxs, bto_set l k (by have := HL.out; omega)] at R
        obtain ⟨R1, R2⟩ := R
        have B1 := hbel.grown R2 hbel.size (fun k hk => by cases hk; exact Nat.le_refl _)
        have hr := byte_lt l k
        clear hown R2 hbel hxs
        generalize (l.getD k 0).toNat = r at *
        go_wp2
        go_roundw
        case rel => exact ⟨k + 1, ys, by omega, by go_num, HY.out, R1, B1⟩
        case measure => simp [intOf]; omega
      · have hxe : xs = [] := List.eq_nil_of_length_eq_zero (by have := HX.out; omega)
        have R : wr.ownsRow w.heap.size 5 1 (.slice (some ⟨w.heap.size, 0, none⟩) n n) n (bcells l) := by
          rw [hxe, List.append_nil, List.take_of_length_le (by have := HL.out; omega)] at hown
          exact hown
        clear hown hxe
        go_wp2
        go_ret
        exact ⟨_, rfl, R, hbel⟩

set_option maxHeartbeats 1000000 in
theorem eqByteS (l : List UInt8) (n : Nat) (va vb : Value) (Ba Bb : Nat) (w : World) (hn : n ≤ 1099511627776)
    (ha : w.ownsRow Ba 5 1 va n (bcells l)) (hb : w.ownsRow Bb 5 1 vb n (bcells l)) :
    Calls Try.prog 14 #[va, vb] w fun e w' => e = .returned (.bool true) ∧ Below w.heap.size w w' := by
  rcases own_shape ha with ⟨hz, _, ao, cap, rfl⟩ | ⟨hp, g, cap, rfl⟩
  · rw [hz] at hb
    rcases own_shape hb with ⟨_, _, bo, cap', rfl⟩ | ⟨hp, _⟩
    · clear ha hb
      go_enter Try.func14, Try.ntmps14
      go_wp2
      refine wp_loop_rounds 1 ?_
      rw [rounds_succ]
      go_wp2
      go_ret
      exact ⟨rfl, Below.refl _ _⟩
    · omega
  · rcases own_shape hb with ⟨hz, _⟩ | ⟨_, g', cap', rfl⟩
    · omega
    · go_enter Try.func14, Try.ntmps14
      go_wp2
      go_loopw [5] (fun i wr => ∃ k : Nat, k ≤ n ∧ i = .int .i64 k ∧ Below w.heap.size w wr) (fun i _ => n - (intOf i).toNat)
      case atStart => exact ⟨0, Nat.zero_le _, rfl, Below.refl _ _⟩
      case round =>
        obtain ⟨k, hk, rfl, hbel⟩ := hrel
        by_cases hlt : k < n
        · have ca := bcell_at (own_below ha hbel) k hlt
          have cb := bcell_at (own_below hb hbel) k hlt
          have hr := byte_lt l k
          generalize (l.getD k 0).toNat = x at ca cb hr
          go_wp2
          go_quiet (fail)
          go_wp2
          go_roundw
          case rel => exact ⟨k + 1, by omega, by go_num, below_drewN hbel _⟩
          case measure => simp [intOf]; omega
        · go_wp2
          go_ret
          exact ⟨rfl, hbel⟩


def bmarks (k0 n : Nat) : List UInt8 := (List.range n).map fun i => UInt8.ofNat (k0 + i)

theorem bmarks_succ (k0 n : Nat) : bmarks k0 (n + 1) = bmarks k0 n ++ [UInt8.ofNat (k0 + n)] := by simp [bmarks, List.range_succ]

theorem bmarks_length (k0 n : Nat) : (bmarks k0 n).length = n := by simp [bmarks]

theorem bmarks_at (k0 n k : Nat) (h : k < n) : ((bmarks k0 n).getD k 0).toNat = (k0 + k) % 256 := by
  simp [bmarks, List.getD, h]

theorem bmarks_set (k0 : Nat) (xs : List Value) (k : Nat) (h : k < xs.length) (x : Int) (hx : x = ((k0 + k : Nat) : Int) % 256) :
    (bcells (bmarks k0 k) ++ xs.drop k).set k (.int .u8 x) = bcells (bmarks k0 (k + 1)) ++ xs.drop (k + 1) := by
  subst hx
  rw [List.set_append_right _ _ (by simp [bcells_length, bmarks_length])]
  rw [bmarks_succ, bcells_snoc]
  simp only [bcells_length, bmarks_length, Nat.sub_self, List.append_assoc, List.append_cancel_left_eq]
  simp
  rw [List.drop_eq_getElem_cons h]
  rfl

set_option maxHeartbeats 1000000 in
theorem markByteS (k0 n : Nat) (v : Value) (B : Nat) (xs : List Value) (w : World) (hn : k0 + n ≤ 1099511627776) (hown0 : w.ownsRow B 5 1 v n xs) :
    Calls Try.prog 15 #[v, .int .i64 (k0 : Int)] w fun e w' => e = .returned (.int .i64 ((k0 + n : Nat) : Int)) ∧ w'.ownsRow B 5 1 v n (bcells (bmarks k0 n)) ∧ w.grownBy w' v.ownBlock := by
  rcases own_shape hown0 with ⟨hz, hxs, ao, cap, rfl⟩ | ⟨hp, g, cap, rfl⟩
  · subst hz
    subst hxs
    go_enter Try.func15, Try.ntmps15
    go_wp2
    refine wp_loop_rounds 1 ?_
    rw [rounds_succ]
    go_wp2
    go_ret
    exact ⟨rfl, hown0, World.grownBy.refl _ _⟩
  · have hxl : xs.length = n := by simpa using hown0.1
    have HX : Hid (xs.length = n) := hxl
    clear hxl
    go_enter Try.func15, Try.ntmps15
    go_wp2
    go_loopw [1, 5] (fun a i wr => ∃ k : Nat, k ≤ n ∧ i = .int .i64 k ∧ a = .int .i64 ((k0 : Int) + k) ∧ wr.ownsRow B 5 1 (.slice (some ⟨g, 0, none⟩) n cap) n (bcells (bmarks k0 k) ++ xs.drop k) ∧ w.grownBy wr (some g)) (fun _ i _ => n - (intOf i).toNat)
    case atStart => exact ⟨0, Nat.zero_le _, rfl, by simp, by simpa [bmarks, bcells] using hown0, World.grownBy.refl _ _⟩
    case round =>
      obtain ⟨k, hk, rfl, rfl, hown, hgr⟩ := hrel
      by_cases hlt : k < n
      · have hfz := hown.frozenAt k
        obtain ⟨u, hcl⟩ := own_some hown k hlt
        have R := hown.stored k (.int .u8 (((k0 : Int) + k) % 256))
        rw [bmarks_set k0 xs k (by have := HX.out; omega) _ (by omega)] at R
        obtain ⟨R1, R2⟩ := R
        have G := grow_trans hgr R2
        clear R2 hown hgr hown0
        go_wp2
        go_roundw
        case rel => exact ⟨k + 1, by omega, by go_num, by go_num, R1, G⟩
        case measure => simp [intOf]; omega
      · have hkn : k = n := by omega
        have HK : Hid (k = n) := hkn
        clear hkn
        go_wp2
        go_ret
        refine ⟨ret_int (by have := HK.out; omega), ?_, hgr⟩
        have := HX.out
        rw [List.drop_eq_nil_of_le (by have := HK.out; omega), List.append_nil] at hown
        rw [HK.out] at hown
        exact hown

set_option maxHeartbeats 1000000 in
theorem heldByteS (k0 n : Nat) (v : Value) (B : Nat) (w : World) (hn : k0 + n ≤ 1099511627776) (hown0 : w.ownsRow B 5 1 v n (bcells (bmarks k0 n))) :
    Calls Try.prog 16 #[v, .int .i64 (k0 : Int)] w fun e w' => e = .returned (.int .i64 ((k0 + n : Nat) : Int)) ∧ Below w.heap.size w w' := by
  rcases own_shape hown0 with ⟨hz, _, ao, cap, rfl⟩ | ⟨hp, g, cap, rfl⟩
  · subst hz
    clear hown0
    go_enter Try.func16, Try.ntmps16
    go_wp2
    refine wp_loop_rounds 1 ?_
    rw [rounds_succ]
    go_wp2
    go_ret
    exact ⟨rfl, Below.refl _ _⟩
  · go_enter Try.func16, Try.ntmps16
    go_wp2
    go_loopw [1, 5] (fun a i wr => ∃ k : Nat, k ≤ n ∧ i = .int .i64 k ∧ a = .int .i64 ((k0 : Int) + k) ∧ Below w.heap.size w wr) (fun _ i _ => n - (intOf i).toNat)
    case atStart => exact ⟨0, Nat.zero_le _, rfl, by simp, Below.refl _ _⟩
    case round =>
      obtain ⟨k, hk, rfl, rfl, hbel⟩ := hrel
      by_cases hlt : k < n
      · have ca := bcell_at (own_below hown0 hbel) k hlt
        rw [bmarks_at k0 n k hlt, show (((k0 + k) % 256 : Nat) : Int) = ((k0 : Int) + k) % 256 by omega] at ca
        go_wp2
        go_roundw
        case rel => exact ⟨k + 1, by omega, by go_num, by go_num, hbel⟩
        case measure => simp [intOf]; omega
      · go_wp2
        go_ret
        exact ⟨ret_int (by omega), hbel⟩
end Go.Proofs.Ytfigkoapebdlfaa
