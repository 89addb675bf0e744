/- Contracts of the laws' own helpers over rows of ints: toIntS, eqIntS. -/
import Derived.Test.YtdbhhohdfibplaaRows
import Derived.Test.YtdbhhohdfibplaaBase
import Derived.BigQuiet
import Derived.Deep.QuietTactic
namespace Go.Proofs.Ytdbhhohdfibplaa
open Go.RowKit

/-- A slice of ints that came in: its numbers. -/
def InRow (w : World) (ao : Option Addr) (n : Nat) (zl : List Int) : Prop :=
  zl.length = n ∧ (n = 0 ∨ ∃ b off, ao = some ⟨b, off, none⟩ ∧ b < w.heap.size ∧ ∀ i, i < n → w.cell? ⟨b, off + i, none⟩ = some (.int .i64 (zl.getD i 0)))

theorem InRow.below {w w' : World} {ao : Option Addr} {n : Nat} {zl : List Int} (h : InRow w ao n zl) (hb : Below w.heap.size w w') : InRow w' ao n zl := by
  refine ⟨h.1, ?_⟩
  rcases h.2 with h0 | ⟨b, off, h1, h2, h3⟩
  · exact .inl h0
  · exact .inr ⟨b, off, h1, Nat.lt_of_lt_of_le h2 hb.size, fun i hi => (hb.cell (p := ⟨b, off + i, none⟩) h2).trans (h3 i hi)⟩

theorem Try.infoInt : (Try.prog.info? 3).map (fun i => (i.zero, i.size, i.bytes)) = some (some (.int .i64 0), 1, 8) := by kernel_rfl

theorem to_set (zl : List Int) (k : Nat) (h : k < zl.length) (x : Value) (xs : List Value) :
    (icells (zl.take k) ++ x :: xs).set k (.int .i64 (zl.getD k 0)) = icells (zl.take (k + 1)) ++ xs := by
  rw [List.set_append_right _ _ (by simp [icells]; omega), ztake_snoc zl k h, icells_snoc]
  simp [icells, Nat.min_eq_left (Nat.le_of_lt h)]

set_option maxHeartbeats 1000000 in
theorem toIntS (ao : Option Addr) (n cap : Nat) (zl : List Int) (w : World) (hin : InRow w ao n zl) (hn : n ≤ 1099511627776) :
    Calls Try.prog 20 #[.slice ao n cap] w fun e w' => ∃ v, e = .returned v ∧ w'.ownsRow w.heap.size 3 1 v n (icells zl) ∧ Below w.heap.size w w' := by
  obtain ⟨i0, hi, hz0, hz1, hz2⟩ := info_parts Try.infoInt
  obtain ⟨hl, hin⟩ := hin
  have HL : Hid (zl.length = n) := hl
  clear hl
  rcases hin with h0 | ⟨b, off, rfl, hb, hc⟩
  · subst h0
    have he : zl = [] := List.eq_nil_of_length_eq_zero HL.out
    have HE : Hid (zl = []) := he
    clear he
    go_enter Try.func20, Try.ntmps20
    go_wp2_with (at_make; refine wpList_make_full _ rfl _ _ 24 rfl w.heap.size 3 i0 (.int .i64 0) 1 Try.underlying24 hi hz0 hz1 _ _ _ _ 0 rfl rfl (by omega) (by omega) (by rw [hz2]; omega) (by unfold maxLen; omega) (Nat.le_refl _) ?_)
    intro wm hmo hgm
    have Bm : Below w.heap.size w wm := (Below.refl _ _).grown hgm (Nat.le_refl _) (fun k hk => by cases hk)
    clear hgm
    go_wp2
    refine wp_loop_rounds 1 ?_
    rw [rounds_succ]
    go_wp2
    go_ret
    refine ⟨_, rfl, ?_, Bm⟩
    rw [HE.out]
    simpa [madeCells, icells] using hmo
  · have HC : Hid (∀ i, i < n → w.cell? ⟨b, off + i, none⟩ = some (.int .i64 (zl.getD i 0))) := hc
    clear hc
    go_enter Try.func20, Try.ntmps20
    go_wp2_with (at_make; refine wpList_make_full _ rfl _ _ 24 rfl w.heap.size 3 i0 (.int .i64 0) 1 Try.underlying24 hi hz0 hz1 _ _ _ _ n rfl rfl (by omega) (by omega) (by rw [hz2]; omega) (by unfold maxLen; omega) (Nat.le_refl _) ?_)
    intro wm hmo hgm
    have Bm : Below w.heap.size w wm := (Below.refl _ _).grown hgm (Nat.le_refl _) (fun k hk => by cases hk)
    obtain ⟨xs0, hmo, hml⟩ : ∃ xs0, wm.ownsRow w.heap.size 3 1 (.slice (some ⟨w.heap.size, 0, none⟩) n n) n xs0 ∧ xs0.length = n := ⟨_, hmo, by have := hmo.1; omega⟩
    have HM : Hid (xs0.length = n) := hml
    clear hgm hml
    go_wp2
    go_loopw [4] (fun i wr => ∃ (k : Nat) (xs : List Value), k ≤ n ∧ i = .int .i64 k ∧ k + xs.length = n ∧ wr.ownsRow w.heap.size 3 1 (.slice (some ⟨w.heap.size, 0, none⟩) n n) n (icells (zl.take k) ++ xs) ∧ Below w.heap.size w wr) (fun i _ => n - (intOf i).toNat)
    case atStart => exact ⟨0, xs0, Nat.zero_le _, rfl, by rw [HM.out]; omega, by simpa [icells] using hmo, Bm⟩
    case round =>
      obtain ⟨k, xs, hk, rfl, hx, hown, hbel⟩ := hrel
      have HX : Hid (k + xs.length = n) := hx
      clear hx
      by_cases hlt : k < n
      · have ca : wr.cell? ⟨b, off + k, none⟩ = some (.int .i64 (zl.getD k 0)) := (hbel.cell (p := ⟨b, off + k, none⟩) hb).trans (HC.out k hlt)
        have hfz := hown.frozenAt k
        obtain ⟨u, hcl⟩ := own_some hown k hlt
        have R := hown.stored k (.int .i64 (zl.getD k 0))
        have hex : ∃ x ys, xs = x :: ys := by
          cases xs with
          | nil => have := HX.out; simp at this; omega
          | cons x ys => exact ⟨x, ys, rfl⟩
        obtain ⟨x, ys, hxs⟩ := hex
        have HY : Hid (k + 1 + ys.length = n) := by show _ = _; have := HX.out; rw [hxs] at this; simp at this; omega
        rw [hxs, to_set zl k (by have := HL.out; omega)] at R
        obtain ⟨R1, R2⟩ := R
        have B1 := hbel.grown R2 hbel.size (fun k hk => by cases hk; exact Nat.le_refl _)
        clear hown R2 hbel hxs
        generalize zl.getD k 0 = r at *
        go_wp2
        go_roundw
        case rel => exact ⟨k + 1, ys, by omega, by go_num, HY.out, R1, B1⟩
        case measure => simp [intOf]; omega
      · have hxe : xs = [] := List.eq_nil_of_length_eq_zero (by have := HX.out; omega)
        have R : wr.ownsRow w.heap.size 3 1 (.slice (some ⟨w.heap.size, 0, none⟩) n n) n (icells zl) := by
          rw [hxe, List.append_nil, List.take_of_length_le (by have := HL.out; omega)] at hown
          exact hown
        clear hown hxe
        go_wp2
        go_ret
        exact ⟨_, rfl, R, hbel⟩

set_option maxHeartbeats 1000000 in
theorem eqIntS (zs : List Int) (n : Nat) (va vb : Value) (Ba Bb : Nat) (w : World) (hn : n ≤ 1099511627776)
    (ha : w.ownsRow Ba 3 1 va n (icells zs)) (hb : w.ownsRow Bb 3 1 vb n (icells zs)) :
    Calls Try.prog 21 #[va, vb] w fun e w' => e = .returned (.bool true) ∧ Below w.heap.size w w' := by
  rcases own_shape ha with ⟨hz, _, ao, cap, rfl⟩ | ⟨hp, g, cap, rfl⟩
  · rw [hz] at hb
    rcases own_shape hb with ⟨_, _, bo, cap', rfl⟩ | ⟨hp, _⟩
    · clear ha hb
      go_enter Try.func21, Try.ntmps21
      go_wp2
      refine wp_loop_rounds 1 ?_
      rw [rounds_succ]
      go_wp2
      go_ret
      exact ⟨rfl, Below.refl _ _⟩
    · omega
  · rcases own_shape hb with ⟨hz, _⟩ | ⟨_, g', cap', rfl⟩
    · omega
    · go_enter Try.func21, Try.ntmps21
      go_wp2
      go_loopw [5] (fun i wr => ∃ k : Nat, k ≤ n ∧ i = .int .i64 k ∧ Below w.heap.size w wr) (fun i _ => n - (intOf i).toNat)
      case atStart => exact ⟨0, Nat.zero_le _, rfl, Below.refl _ _⟩
      case round =>
        obtain ⟨k, hk, rfl, hbel⟩ := hrel
        by_cases hlt : k < n
        · have ca := icell_at (own_below ha hbel) k hlt
          have cb := icell_at (own_below hb hbel) k hlt
          generalize zs.getD k 0 = x at ca cb
          go_wp2
          go_quiet (fail)
          go_wp2
          go_roundw
          case rel => exact ⟨k + 1, by omega, by go_num, below_drewN hbel _⟩
          case measure => simp [intOf]; omega
        · go_wp2
          go_ret
          exact ⟨rfl, hbel⟩

set_option maxHeartbeats 1000000 in
theorem sameInts (zs : List Int) (n : Nat) (va vb : Value) (Ba Bb : Nat) (w : World) (hn : n ≤ 1099511627776)
    (ha : w.ownsRow Ba 3 1 va n (icells zs)) (hb : w.ownsRow Bb 3 1 vb n (icells zs)) :
    Calls Try.prog 13 #[va, vb] w fun e w' => e = .returned (.bool true) ∧ Below w.heap.size w w' := by
  rcases own_shape ha with ⟨hz, _, ao, cap, rfl⟩ | ⟨hp, g, cap, rfl⟩
  · rw [hz] at hb
    rcases own_shape hb with ⟨_, _, bo, cap', rfl⟩ | ⟨hp, _⟩
    · clear ha hb
      go_enter Try.func13, Try.ntmps13
      go_wp2
      refine wp_loop_rounds 1 ?_
      rw [rounds_succ]
      go_wp2
      go_ret
      exact ⟨rfl, Below.refl _ _⟩
    · omega
  · rcases own_shape hb with ⟨hz, _⟩ | ⟨_, g', cap', rfl⟩
    · omega
    · go_enter Try.func13, Try.ntmps13
      go_wp2
      go_loopw [5] (fun i wr => ∃ k : Nat, k ≤ n ∧ i = .int .i64 k ∧ Below w.heap.size w wr) (fun i _ => n - (intOf i).toNat)
      case atStart => exact ⟨0, Nat.zero_le _, rfl, Below.refl _ _⟩
      case round =>
        obtain ⟨k, hk, rfl, hbel⟩ := hrel
        by_cases hlt : k < n
        · have ca := icell_at (own_below ha hbel) k hlt
          have cb := icell_at (own_below hb hbel) k hlt
          generalize zs.getD k 0 = x at ca cb
          go_wp2
          go_quiet (fail)
          go_wp2
          go_roundw
          case rel => exact ⟨k + 1, by omega, by go_num, below_drewN hbel _⟩
          case measure => simp [intOf]; omega
        · go_wp2
          go_ret
          exact ⟨rfl, hbel⟩

def imarks (k0 n : Nat) : List Int := (List.range n).map fun i => ((k0 + i : Nat) : Int)

theorem imarks_succ (k0 n : Nat) : imarks k0 (n + 1) = imarks k0 n ++ [((k0 + n : Nat) : Int)] := by simp [imarks, List.range_succ]

theorem imarks_length (k0 n : Nat) : (imarks k0 n).length = n := by simp [imarks]

theorem imarks_at (k0 n k : Nat) (h : k < n) : (imarks k0 n).getD k 0 = ((k0 + k : Nat) : Int) := by simp [imarks, List.getD, h]

theorem imarks_set (k0 : Nat) (xs : List Value) (k : Nat) (h : k < xs.length) (x : Int) (hx : x = ((k0 + k : Nat) : Int)) :
    (icells (imarks k0 k) ++ xs.drop k).set k (.int .i64 x) = icells (imarks k0 (k + 1)) ++ xs.drop (k + 1) := by
  subst hx
  rw [List.set_append_right _ _ (by simp [icells_length, imarks_length])]
  rw [imarks_succ, icells_snoc]
  simp only [icells_length, imarks_length, Nat.sub_self, List.append_assoc, List.append_cancel_left_eq]
  rw [List.drop_eq_getElem_cons h]
  rfl

set_option maxHeartbeats 1000000 in
theorem markIntS (k0 n : Nat) (v : Value) (B : Nat) (xs : List Value) (w : World) (hn : k0 + n ≤ 1099511627776) (hown0 : w.ownsRow B 3 1 v n xs) :
    Calls Try.prog 22 #[v, .int .i64 (k0 : Int)] w fun e w' => e = .returned (.int .i64 ((k0 + n : Nat) : Int)) ∧ w'.ownsRow B 3 1 v n (icells (imarks k0 n)) ∧ w.grownBy w' v.ownBlock := by
  rcases own_shape hown0 with ⟨hz, hxs, ao, cap, rfl⟩ | ⟨hp, g, cap, rfl⟩
  · subst hz
    subst hxs
    go_enter Try.func22, Try.ntmps22
    go_wp2
    refine wp_loop_rounds 1 ?_
    rw [rounds_succ]
    go_wp2
    go_ret
    exact ⟨rfl, hown0, World.grownBy.refl _ _⟩
  · have hxl : xs.length = n := by simpa using hown0.1
    have HX : Hid (xs.length = n) := hxl
    clear hxl
    go_enter Try.func22, Try.ntmps22
    go_wp2
    go_loopw [1, 5] (fun a i wr => ∃ k : Nat, k ≤ n ∧ i = .int .i64 k ∧ a = .int .i64 ((k0 : Int) + k) ∧ wr.ownsRow B 3 1 (.slice (some ⟨g, 0, none⟩) n cap) n (icells (imarks k0 k) ++ xs.drop k) ∧ w.grownBy wr (some g)) (fun _ i _ => n - (intOf i).toNat)
    case atStart => exact ⟨0, Nat.zero_le _, rfl, by simp, by simpa [imarks, icells] using hown0, World.grownBy.refl _ _⟩
    case round =>
      obtain ⟨k, hk, rfl, rfl, hown, hgr⟩ := hrel
      by_cases hlt : k < n
      · have hfz := hown.frozenAt k
        obtain ⟨u, hcl⟩ := own_some hown k hlt
        have R := hown.stored k (.int .i64 ((k0 : Int) + k))
        rw [imarks_set k0 xs k (by have := HX.out; omega) _ (by omega)] at R
        obtain ⟨R1, R2⟩ := R
        have G := grow_trans hgr R2
        clear R2 hown hgr hown0
        go_wp2
        go_roundw
        case rel => exact ⟨k + 1, by omega, by go_num, by go_num, R1, G⟩
        case measure => simp [intOf]; omega
      · have hkn : k = n := by omega
        have HK : Hid (k = n) := hkn
        clear hkn
        go_wp2
        go_ret
        refine ⟨ret_int (by have := HK.out; omega), ?_, hgr⟩
        have := HX.out
        rw [List.drop_eq_nil_of_le (by have := HK.out; omega), List.append_nil] at hown
        rw [HK.out] at hown
        exact hown

set_option maxHeartbeats 1000000 in
theorem heldIntS (k0 n : Nat) (v : Value) (B : Nat) (w : World) (hn : k0 + n ≤ 1099511627776) (hown0 : w.ownsRow B 3 1 v n (icells (imarks k0 n))) :
    Calls Try.prog 23 #[v, .int .i64 (k0 : Int)] w fun e w' => e = .returned (.int .i64 ((k0 + n : Nat) : Int)) ∧ Below w.heap.size w w' := by
  rcases own_shape hown0 with ⟨hz, _, ao, cap, rfl⟩ | ⟨hp, g, cap, rfl⟩
  · subst hz
    clear hown0
    go_enter Try.func23, Try.ntmps23
    go_wp2
    refine wp_loop_rounds 1 ?_
    rw [rounds_succ]
    go_wp2
    go_ret
    exact ⟨rfl, Below.refl _ _⟩
  · go_enter Try.func23, Try.ntmps23
    go_wp2
    go_loopw [1, 5] (fun a i wr => ∃ k : Nat, k ≤ n ∧ i = .int .i64 k ∧ a = .int .i64 ((k0 : Int) + k) ∧ Below w.heap.size w wr) (fun _ i _ => n - (intOf i).toNat)
    case atStart => exact ⟨0, Nat.zero_le _, rfl, by simp, Below.refl _ _⟩
    case round =>
      obtain ⟨k, hk, rfl, rfl, hbel⟩ := hrel
      by_cases hlt : k < n
      · have ca := icell_at (own_below hown0 hbel) k hlt
        rw [imarks_at k0 n k hlt, Int.natCast_add] at ca
        go_wp2
        go_roundw
        case rel => exact ⟨k + 1, by omega, by go_num, by go_num, hbel⟩
        case measure => simp [intOf]; omega
      · go_wp2
        go_ret
        exact ⟨ret_int (by omega), hbel⟩
end Go.Proofs.Ytdbhhohdfibplaa
