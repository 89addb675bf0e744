/- Contracts of what is drawn for chapter 7. -/
import Derived.Test.YtamnhegianpedaaRows
import Derived.Test.YtamnhegianpedaaDrawWalk
namespace Go.Proofs.Ytamnhegianpedaa
open Go.RowKit

set_option maxRecDepth 100000 in
set_option maxHeartbeats 2000000 in
theorem l7Path (D B : Nat) (ao : Option Addr) (len cap : Nat) (w : World) (hcur : Cur D B ao len cap w) :
    Calls Try.prog 20 #[.pointer (some ⟨B, 0, none⟩)] w fun e w' => ∃ z : ByteArray, 1 ≤ z.size ∧ z.size ≤ 1000 ∧ e = .returned (.string z) ∧ Cur D B ao len cap w' ∧ w.grownBy w' (some B) := by
  have HC : Hid (Cur D B ao len cap w) := hcur
  clear hcur
  go_enter Try.func20, Try.ntmps20
  go_wp2_with fail
  refine (l1Below 7 _ _ _ _ _ _ (by omega) (by omega) HC.out).mono ?_
  rintro e wa ⟨x, hx0, hx1, rfl, ca, ga⟩
  have CA : Hid (Cur D B ao len cap wa) := ca
  clear ca
  obtain ⟨n, rfl⟩ := Int.eq_ofNat_of_zero_le hx0
  go_wp2_with fail
  go_loopw [3, 4] (fun a i wr => ∃ (k : Nat) (z : ByteArray), k ≤ n ∧ i = .int .i64 k ∧ a = .string z ∧ 1 ≤ z.size ∧ z.size + 20 * k ≤ 20 * n + 1 ∧ Cur D B ao len cap wr ∧ w.grownBy wr (some B)) (fun _ i _ => (intOf i).toNat)
  case atStart => exact ⟨n, ⟨#[47]⟩, Nat.le_refl _, rfl, rfl, by simp [ByteArray.size], by simp [ByteArray.size]; omega, CA.out, ga⟩
  case round =>
    obtain ⟨k, z, hk, rfl, rfl, hz1, hz, hcu, hgr⟩ := hrel
    have HU : Hid (Cur D B ao len cap wr) := hcu
    have hB := hcu.lt
    clear hcu
    by_cases hp : 0 < k
    · go_wp2_with fail
      refine (l1StrX 20 14 _ 14 0 _ _ _ _ _ _ _ (by omega) (by omega) (HU.out.alloc _) (World.ownsRow_lit wr _ 14 (Nat.zero_le _) (by decide) rfl) (by omega) (by decide)).mono ?_
      rintro e wc ⟨y, hy, rfl, cc, gc⟩
      have CC : Hid (Cur D B ao len cap wc) := cc
      have G := grow_trans (grow_alloc hgr _) gc
      clear cc gc hgr
      go_wp2_with fail
      go_roundw
      case rel => exact ⟨k - 1, z ++ y, by omega, by go_num, rfl, by rw [ByteArray.size_append]; omega, by rw [ByteArray.size_append]; omega, CC.out, G⟩
      case measure => simp [intOf]; omega
    · go_wp2_with fail
      go_ret
      exact ⟨z, hz1, by omega, rfl, HU.out, hgr⟩

set_option maxRecDepth 100000 in
set_option maxHeartbeats 2000000 in
theorem drawDropDots (ao : Option Addr) (len cap : Nat) (w : World) (hl : len ≤ 1048576) (hcode : CodeRow w.heap.size w ao len) :
    Calls Try.prog 9 #[.slice ao len cap] w fun e w' => ∃ z : ByteArray, z.size ≤ 1000 ∧ e = .returned (.string z) ∧ Below w.heap.size w w' := by
  go_enter Try.func9, Try.ntmps9
  go_wp2_with fail
  refine (l1New _ _ _ _ hl hcode).mono ?_
  rintro e wa ⟨B, rfl, hB, ca, ba⟩
  have CA : Hid (Cur w.heap.size B ao len cap wa) := ca
  have za := ba.size
  clear ca hcode
  go_wp2_with fail
  refine (l7Path _ _ _ _ _ _ CA.out).mono ?_
  rintro e wb ⟨x, hx1, hx, rfl, cb, gb⟩
  have CB : Hid (Cur w.heap.size B ao len cap wb) := cb
  have Bb : Below w.heap.size w wb := ba.grown gb za (fun k hk => by cases hk; exact hB)
  have zb := Bb.size
  clear cb gb ba
  go_wp2_with fail
  refine (l1Once 10 _ _ _ _ _ _ (by omega) (by omega) CB.out).mono ?_
  rintro e wc ⟨y, rfl, cc, gc⟩
  have Bc : Below w.heap.size w wc := Bb.grown gc zb (fun k hk => by cases hk; exact hB)
  clear cc gc Bb
  cases y with
  | true =>
    go_wp2_with fail
    go_ret
    exact ⟨_, by rw [ByteArray.size_extract]; omega, rfl, Bc⟩
  | false =>
    go_wp2_with fail
    go_ret
    exact ⟨x, hx, rfl, Bc⟩
end Go.Proofs.Ytamnhegianpedaa
