/- Contracts of the laws' own helpers over rows of ints: toIntS, eqIntS. -/
import Derived.Test.YtcjblhiihgdljaaRows
import Derived.Test.YtcjblhiihgdljaaBase
import Derived.BigQuiet
import Derived.Deep.QuietTactic
namespace Go.Proofs.Ytcjblhiihgdljaa
open Go.RowKit

/-- A slice of ints that came in: its numbers. -/
def InRow (w : World) (ao : Option Addr) (n : Nat) (zl : List Int) : Prop :=
  zl.length = n ∧ (n = 0 ∨ ∃ b off, ao = some ⟨b, off, none⟩ ∧ b < w.heap.size ∧ ∀ i, i < n → w.cell? ⟨b, off + i, none⟩ = some (.int .i64 (zl.getD i 0)))

theorem InRow.below {w w' : World} {ao : Option Addr} {n : Nat} {zl : List Int} (h : InRow w ao n zl) (hb : Below w.heap.size w w') : InRow w' ao n zl := by
  refine ⟨h.1, ?_⟩
  rcases h.2 with h0 | ⟨b, off, h1, h2, h3⟩
  · exact .inl h0
  · exact .inr ⟨b, off, h1, Nat.lt_of_lt_of_le h2 hb.size, fun i hi => (hb.cell (p := ⟨b, off + i, none⟩) h2).trans (h3 i hi)⟩

theorem Try.infoInt : (Try.prog.info? 3).map (fun i => (i.zero, i.size, i.bytes)) = some (some (.int .i64 0), 1, 8) := by kernel_rfl

theorem to_set (zl : List Int) (k : Nat) (h : k < zl.length) (x : Value) (xs : List Value) :
    (icells (zl.take k) ++ x :: xs).set k (.int .i64 (zl.getD k 0)) = icells (zl.take (k + 1)) ++ xs := by
  rw [List.set_append_right _ _ (by simp [icells]; omega), ztake_snoc zl k h, icells_snoc]
  simp [icells, Nat.min_eq_left (Nat.le_of_lt h)]


set_option maxHeartbeats 1000000 in
theorem eqIntS (zs : List Int) (n : Nat) (va vb : Value) (Ba Bb : Nat) (w : World) (hn : n ≤ 1099511627776)
    (ha : w.ownsRow Ba 3 1 va n (icells zs)) (hb : w.ownsRow Bb 3 1 vb n (icells zs)) :
    Calls Try.prog 17 #[va, vb] w fun e w' => e = .returned (.bool true) ∧ Below w.heap.size w w' := by
  rcases own_shape ha with ⟨hz, _, ao, cap, rfl⟩ | ⟨hp, g, cap, rfl⟩
  · rw [hz] at hb
    rcases own_shape hb with ⟨_, _, bo, cap', rfl⟩ | ⟨hp, _⟩
    · clear ha hb
      go_enter Try.func17, Try.ntmps17
      go_wp2
      refine wp_loop_rounds 1 ?_
      rw [rounds_succ]
      go_wp2
      go_ret
      exact ⟨rfl, Below.refl _ _⟩
    · omega
  · rcases own_shape hb with ⟨hz, _⟩ | ⟨_, g', cap', rfl⟩
    · omega
    · go_enter Try.func17, Try.ntmps17
      go_wp2
      go_loopw [5] (fun i wr => ∃ k : Nat, k ≤ n ∧ i = .int .i64 k ∧ Below w.heap.size w wr) (fun i _ => n - (intOf i).toNat)
      case atStart => exact ⟨0, Nat.zero_le _, rfl, Below.refl _ _⟩
      case round =>
        obtain ⟨k, hk, rfl, hbel⟩ := hrel
        by_cases hlt : k < n
        · have ca := icell_at (own_below ha hbel) k hlt
          have cb := icell_at (own_below hb hbel) k hlt
          generalize zs.getD k 0 = x at ca cb
          go_wp2
          go_quiet (fail)
          go_wp2
          go_roundw
          case rel => exact ⟨k + 1, by omega, by go_num, below_drewN hbel _⟩
          case measure => simp [intOf]; omega
        · go_wp2
          go_ret
          exact ⟨rfl, hbel⟩


def imarks (k0 n : Nat) : List Int := (List.range n).map fun i => ((k0 + i : Nat) : Int)

theorem imarks_succ (k0 n : Nat) : imarks k0 (n + 1) = imarks k0 n ++ [((k0 + n : Nat) : Int)] := by simp [imarks, List.range_succ]

theorem imarks_length (k0 n : Nat) : (imarks k0 n).length = n := by simp [imarks]

theorem imarks_at (k0 n k : Nat) (h : k < n) : (imarks k0 n).getD k 0 = ((k0 + k : Nat) : Int) := by simp [imarks, List.getD, h]

theorem imarks_set (k0 : Nat) (xs : List Value) (k : Nat) (h : k < xs.length) (x : Int) (hx : x = ((k0 + k : Nat) : Int)) :
    (icells (imarks k0 k) ++ xs.drop k).set k (.int .i64 x) = icells (imarks k0 (k + 1)) ++ xs.drop (k + 1) := by
  subst hx
  rw [List.set_append_right _ _ (by simp [icells_length, imarks_length])]
  rw [imarks_succ, icells_snoc]
  simp only [icells_length, imarks_length, Nat.sub_self, List.append_assoc, List.append_cancel_left_eq]
  rw [List.drop_eq_getElem_cons h]
  rfl

set_option maxHeartbeats 1000000 in
theorem markIntS (k0 n : Nat) (v : Value) (B : Nat) (xs : List Value) (w : World) (hn : k0 + n ≤ 1099511627776) (hown0 : w.ownsRow B 3 1 v n xs) :
    Calls Try.prog 18 #[v, .int .i64 (k0 : Int)] w fun e w' => e = .returned (.int .i64 ((k0 + n : Nat) : Int)) ∧ w'.ownsRow B 3 1 v n (icells (imarks k0 n)) ∧ w.grownBy w' v.ownBlock := by
  rcases own_shape hown0 with ⟨hz, hxs, ao, cap, rfl⟩ | ⟨hp, g, cap, rfl⟩
  · subst hz
    subst hxs
    go_enter Try.func18, Try.ntmps18
    go_wp2
    refine wp_loop_rounds 1 ?_
    rw [rounds_succ]
    go_wp2
    go_ret
    exact ⟨rfl, hown0, World.grownBy.refl _ _⟩
  · have hxl : xs.length = n := by simpa using hown0.1
    have HX : Hid (xs.length = n) := hxl
    clear hxl
    go_enter Try.func18, Try.ntmps18
    go_wp2
    go_loopw [1, 5] (fun a i wr => ∃ k : Nat, k ≤ n ∧ i = .int .i64 k ∧ a = .int .i64 ((k0 : Int) + k) ∧ wr.ownsRow B 3 1 (.slice (some ⟨g, 0, none⟩) n cap) n (icells (imarks k0 k) ++ xs.drop k) ∧ w.grownBy wr (some g)) (fun _ i _ => n - (intOf i).toNat)
    case atStart => exact ⟨0, Nat.zero_le _, rfl, by simp, by simpa [imarks, icells] using hown0, World.grownBy.refl _ _⟩
    case round =>
      obtain ⟨k, hk, rfl, rfl, hown, hgr⟩ := hrel
      by_cases hlt : k < n
      · have hfz := hown.frozenAt k
        obtain ⟨u, hcl⟩ := own_some hown k hlt
        have R := hown.stored k (.int .i64 ((k0 : Int) + k))
        rw [imarks_set k0 xs k (by have := HX.out; omega) _ (by omega)] at R
        obtain ⟨R1, R2⟩ := R
        have G := grow_trans hgr R2
        clear R2 hown hgr hown0
        go_wp2
        go_roundw
        case rel => exact ⟨k + 1, by omega, by go_num, by go_num, R1, G⟩
        case measure => simp [intOf]; omega
      · have hkn : k = n := by omega
        have HK : Hid (k = n) := hkn
        clear hkn
        go_wp2
        go_ret
        refine ⟨ret_int (by have := HK.out; omega), ?_, hgr⟩
        have := HX.out
        rw [List.drop_eq_nil_of_le (by have := HK.out; omega), List.append_nil] at hown
        rw [HK.out] at hown
        exact hown

set_option maxHeartbeats 1000000 in
theorem heldIntS (k0 n : Nat) (v : Value) (B : Nat) (w : World) (hn : k0 + n ≤ 1099511627776) (hown0 : w.ownsRow B 3 1 v n (icells (imarks k0 n))) :
    Calls Try.prog 19 #[v, .int .i64 (k0 : Int)] w fun e w' => e = .returned (.int .i64 ((k0 + n : Nat) : Int)) ∧ Below w.heap.size w w' := by
  rcases own_shape hown0 with ⟨hz, _, ao, cap, rfl⟩ | ⟨hp, g, cap, rfl⟩
  · subst hz
    clear hown0
    go_enter Try.func19, Try.ntmps19
    go_wp2
    refine wp_loop_rounds 1 ?_
    rw [rounds_succ]
    go_wp2
    go_ret
    exact ⟨rfl, Below.refl _ _⟩
  · go_enter Try.func19, Try.ntmps19
    go_wp2
    go_loopw [1, 5] (fun a i wr => ∃ k : Nat, k ≤ n ∧ i = .int .i64 k ∧ a = .int .i64 ((k0 : Int) + k) ∧ Below w.heap.size w wr) (fun _ i _ => n - (intOf i).toNat)
    case atStart => exact ⟨0, Nat.zero_le _, rfl, by simp, Below.refl _ _⟩
    case round =>
      obtain ⟨k, hk, rfl, rfl, hbel⟩ := hrel
      by_cases hlt : k < n
      · have ca := icell_at (own_below hown0 hbel) k hlt
        rw [imarks_at k0 n k hlt, Int.natCast_add] at ca
        go_wp2
        go_roundw
        case rel => exact ⟨k + 1, by omega, by go_num, by go_num, hbel⟩
        case measure => simp [intOf]; omega
      · go_wp2
        go_ret
        exact ⟨ret_int (by omega), hbel⟩
end Go.Proofs.Ytcjblhiihgdljaa
