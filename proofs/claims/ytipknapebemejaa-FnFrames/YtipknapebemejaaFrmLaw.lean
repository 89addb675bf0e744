/- What FnFrames needs besides: laws.at, a bit that is turned. -/
import Derived.Test.YtipknapebemejaaRows
import Derived.Test.YtipknapebemejaaDrawWalk
import Derived.Test.YtipknapebemejaaCrcBoth
namespace Go.Proofs.Ytipknapebemejaa
open Go.RowKit
set_option linter.unusedVariables false

set_option maxHeartbeats 1000000 in
theorem lawsAt (i : Nat) (ao : Option Addr) (len cap : Nat) (D : Nat) (w : World) (hi : i ≤ 100) (hl : len ≤ 1048576) (hcode : CodeRow D w ao len) :
    Calls Try.prog 23 #[.slice ao len cap, .int .i64 (i : Int)] w fun e w' => ∃ y : Nat, y ≤ 255 ∧ e = .returned (.int .i64 (y : Int)) ∧ w = w' := by
  by_cases hlt : i < len
  · rcases hcode with h | ⟨b, off, rfl, hb, hc⟩
    · omega
    · obtain ⟨x, hx, h0, h1⟩ := hc i hlt
      obtain ⟨y, rfl⟩ := Int.eq_ofNat_of_zero_le h0
      clear hc
      go_enter Try.func23, Try.ntmps23
      go_wp2
      go_ret
      exact ⟨y, by omega, rfl, rfl⟩
  · have hy : (((i * 31 + len * 7) % 256 : Nat) : Int) = ((i : Int) * 31 + (len : Int) * 7) % 256 := by omega
    go_enter Try.func23, Try.ntmps23
    go_wp2
    go_ret
    exact ⟨(i * 31 + len * 7) % 256, by omega, ret_int (by omega), rfl⟩

theorem u8_bits {a : Nat} (ha : a < 256) : (BitVec.ofInt 8 (a : Int)).toNat = a := by
  rw [BitVec.ofInt_natCast, BitVec.toNat_ofNat]; exact Nat.mod_eq_of_lt (by omega)

theorem u8_xor_nat (a b : Nat) (ha : a < 256) (hb : b < 256) : bits .xor .u8 (a : Int) (b : Int) = ((a ^^^ b : Nat) : Int) := by
  have hx : a ^^^ b < 2 ^ 8 := Nat.xor_lt_two_pow (by omega) (by omega)
  show IntKind.u8.wrap ((BitVec.ofInt 8 (a : Int) ^^^ BitVec.ofInt 8 (b : Int)).toNat : Int) = _
  rw [BitVec.toNat_xor, u8_bits ha, u8_bits hb]
  simp [IntKind.wrap, IntKind.bits, IntKind.signed]
  omega

/-- A bit that is turned is another byte. -/
theorem turn_other (r e : Nat) (hr : r < 256) (he : e < 8) : ∃ t : Nat, t < 256 ∧ t ≠ r ∧ bits .xor .u8 (r : Int) (2 ^ e % 256) = (t : Int) := by
  have hm : 2 ^ e < 256 := Nat.lt_of_lt_of_le (Nat.pow_lt_pow_right (by omega) he) (by decide)
  have hp : 0 < 2 ^ e := Nat.pow_pos (by omega)
  refine ⟨r ^^^ 2 ^ e, Nat.xor_lt_two_pow (n := 8) (by omega) (by omega), fun h => ?_, ?_⟩
  · have h2 : r ^^^ (r ^^^ 2 ^ e) = r ^^^ r := by rw [h]
    rw [← Nat.xor_assoc, Nat.xor_self, Nat.zero_xor] at h2
    omega
  · have := u8_xor_nat r (2 ^ e) hr hm
    rw [← this]
    have e2 : ((2 : Int) ^ e % 256) = ((2 ^ e : Nat) : Int) := by
      rw [show (2 : Int) ^ e = ((2 ^ e : Nat) : Int) by norm_cast]
      omega
    rw [e2]
end Go.Proofs.Ytipknapebemejaa
