/- Contracts of the byte that a percent at a place tells. -/
import Derived.Test.YtbjidcejpdeegaaRows
import Derived.Test.YtbjidcejpdeegaaHexWalk
namespace Go.Proofs.Ytbjidcejpdeegaa
open Go.RowKit

theorem below_drewN {B : Nat} {w w' : World} (h : Below B w w') (n : Nat) : Below B w (w'.drewN n) := ⟨h.os, h.tape, h.output, h.size, h.block⟩

theorem pctAt_not {s : ByteArray} {k : Nat} (h : k + 2 < s.size) (h1 : s[k].toNat ≠ 37) : pctAt s k = -1 := by
  rw [pctAt_in s k h]
  unfold pctV
  rw [if_neg (fun h => h1 h.1)]
theorem pctAt_hex {s : ByteArray} {k d1 d2 : Nat} (h : k + 2 < s.size) (h1 : s[k].toNat = 37) (e1 : s[k + 1].toNat = d1) (e2 : s[k + 2].toNat = d2) : pctAt s k = if 0 ≤ hexN d1 ∧ 0 ≤ hexN d2 then hexN d1 * 16 + hexN d2 else -1 := by
  rw [pctAt_in s k h, e1, e2]
  unfold pctV
  simp [h1]

theorem run_at (P : Program) (t : TypeId) (h : P.underlying t = some .string) (s : ByteArray) (i : Int) (j d : Nat) (hj : j < s.size) (hi : i = (j : Int)) (hd : s[j].toNat = d) (W : World) :
    (Instr.index t (.string s) (.int .i64 i)).run P W = .ok (.int .u8 (d : Int)) W := by
  subst hi
  rw [run_index_string W t s .i64 _ h, dif_pos (by omega)]
  simp [hd]


set_option maxHeartbeats 2000000 in
theorem specByte (s : ByteArray) (k : Nat) (w : World) (hk : k < s.size) (hs : s.size ≤ 1099511627776) :
    Calls Try.prog 53 #[.string s, .int .i64 (k : Int)] w fun e w' => e = .returned (.int .i64 (pctAt s k)) ∧ Below w.heap.size w w' := by
  have hki : (k : Int) ≤ 1099511627776 := by omega
  have hk0 : 0 ≤ (k : Int) := by omega
  have hw1 : IntKind.i64.wrap ((k : Int) + 1) = ((k + 1 : Nat) : Int) := by rw [IntKind.wrap_i64]; omega
  have hw2 : IntKind.i64.wrap ((k : Int) + 2) = ((k + 2 : Nat) : Int) := by rw [IntKind.wrap_i64]; omega
  by_cases h2 : k + 2 < s.size
  · have h2i : ¬ (s.size : Int) ≤ (k : Int) + 2 := by omega
    by_cases h37 : s[k].toNat = 37
    · obtain ⟨d1, e1⟩ : ∃ d : Nat, s[k + 1].toNat = d := ⟨_, rfl⟩
      obtain ⟨d2, e2⟩ : ∃ d : Nat, s[k + 2].toNat = d := ⟨_, rfl⟩
      have i1 := run_at Try.prog 9 Try.underlying9 s ((k : Int) + 1) (k + 1) d1 (by omega) (by omega) e1
      have i2 := run_at Try.prog 9 Try.underlying9 s ((k : Int) + 2) (k + 2) d2 (by omega) (by omega) e2
      have b1 : d1 ≤ 255 := by have := s[k + 1].toNat_lt; omega
      have b2 : d2 ≤ 255 := by have := s[k + 2].toNat_lt; omega
      have HV : Hid (pctAt s k = if 0 ≤ hexN d1 ∧ 0 ≤ hexN d2 then hexN d1 * 16 + hexN d2 else -1) := pctAt_hex h2 h37 e1 e2
      have c1 := fun n : Nat => Calls.quiet_of_same (w := w) (n := n) (v := .int .i64 (hexN d1)) ((specHex d1 (w.drewN n) (by omega)).mono fun _ _ ⟨a, b⟩ => ⟨a, b.symm⟩)
      have c2 := fun n : Nat => Calls.quiet_of_same (w := w) (n := n) (v := .int .i64 (hexN d2)) ((specHex d2 (w.drewN n) (by omega)).mono fun _ _ ⟨a, b⟩ => ⟨a, b.symm⟩)
      have q1 := fun W : World => specHex d1 W (by omega)
      have q2 := fun W : World => specHex d2 W (by omega)
      have l1 := hexN_le d1
      have l2 := hexN_le d2
      generalize hexN d1 = x at HV c1 l1 q1
      generalize hexN d2 = y at HV c2 l2 q2
      have C1 : Hid (∀ n, Calls Try.prog 57 #[.int .u8 (d1 : Int)] (w.drewN n) fun e w'' => e = .returned (.int .i64 x) ∧ ∃ m, w'' = w.drewN m) := c1
      have C2 : Hid (∀ n, Calls Try.prog 57 #[.int .u8 (d2 : Int)] (w.drewN n) fun e w'' => e = .returned (.int .i64 y) ∧ ∃ m, w'' = w.drewN m) := c2
      have D1 : Hid (∀ W, Calls Try.prog 57 #[.int .u8 (d1 : Int)] W fun e w' => e = .returned (.int .i64 x) ∧ W = w') := q1
      have D2 : Hid (∀ W, Calls Try.prog 57 #[.int .u8 (d2 : Int)] W fun e w' => e = .returned (.int .i64 y) ∧ W = w') := q2
      clear c1 c2 q1 q2
      obtain ⟨l1a, l1b⟩ := l1
      obtain ⟨l2a, l2b⟩ := l2
      by_cases hx : 0 ≤ x
      · by_cases hy : 0 ≤ y
        · go_enter Try.func53, Try.ntmps53
          go_wp2_with fail
          refine (D1.out _).mono ?_
          rintro e w' ⟨rfl, rfl⟩
          go_wp2_with fail
          refine (D2.out _).mono ?_
          rintro e w' ⟨rfl, rfl⟩
          go_wp2_with fail
          go_quiet ((go_at_call 57; first | with_reducible exact C1.out _ | with_reducible exact C2.out _))
          go_wp2
          go_ret
          exact ⟨ret_int (by rw [HV.out, if_pos ⟨hx, hy⟩]), below_drewN (Below.refl _ _) _⟩
        · go_enter Try.func53, Try.ntmps53
          go_wp2_with fail
          refine (D1.out _).mono ?_
          rintro e w' ⟨rfl, rfl⟩
          go_wp2_with fail
          refine (D2.out _).mono ?_
          rintro e w' ⟨rfl, rfl⟩
          go_wp2
          go_ret
          exact ⟨ret_int (by rw [HV.out, if_neg (by omega)]), Below.refl _ _⟩
      · go_enter Try.func53, Try.ntmps53
        go_wp2_with fail
        refine (D1.out _).mono ?_
        rintro e w' ⟨rfl, rfl⟩
        go_wp2
        go_ret
        exact ⟨ret_int (by rw [HV.out, if_neg (by omega)]), Below.refl _ _⟩
    · have HV : Hid (pctAt s k = -1) := pctAt_not h2 h37
      obtain ⟨d0, e0⟩ : ∃ d : Nat, s[k].toNat = d := ⟨_, rfl⟩
      have hne : ¬ (d0 : Int) = 37 := by omega
      clear h37
      go_enter Try.func53, Try.ntmps53
      go_wp2
      go_ret
      exact ⟨ret_int (by rw [HV.out]), Below.refl _ _⟩
  · have h2i : (s.size : Int) ≤ (k : Int) + 2 := by omega
    have HV : Hid (pctAt s k = -1) := pctAt_out s k (by omega)
    go_enter Try.func53, Try.ntmps53
    go_wp2
    go_ret
    exact ⟨ret_int (by rw [HV.out]), Below.refl _ _⟩
end Go.Proofs.Ytbjidcejpdeegaa
