/- Contracts of what is drawn for chapter 4. -/
import Derived.Test.YtamnhegianpedaaGreatDoorRows
import Derived.Test.YtamnhegianpedaaGreatDoorDrawWalk
namespace Go.Proofs.YtamnhegianpedaaGreatDoor
open Go.RowKit

set_option maxRecDepth 100000 in
set_option maxHeartbeats 2000000 in
theorem l4Label (D B : Nat) (ao : Option Addr) (len cap : Nat) (w : World) (hcur : Cur D B ao len cap w) :
    Calls Tryz.prog 62 #[.pointer (some ⟨B, 0, none⟩)] w fun e w' => ∃ z : ByteArray, z.size ≤ 20 ∧ e = .returned (.string z) ∧ Cur D B ao len cap w' ∧ w.grownBy w' (some B) := by
  have HC : Hid (Cur D B ao len cap w) := hcur
  have hB := hcur.lt
  clear hcur
  go_enter Tryz.func62, Tryz.ntmps62
  go_wp2_with fail
  refine (l1StrX 20 16 _ 16 0 _ _ _ _ _ _ _ (by omega) (by omega) (HC.out.alloc _) (World.ownsRow_lit w _ 16 (Nat.zero_le _) (by decide) rfl) (by omega) (by decide)).mono ?_
  rintro e wc ⟨y, hy, rfl, cc, gc⟩
  have CC : Hid (Cur D B ao len cap wc) := cc
  have G := grow_trans (World.grownBy_alloc w _ (some B)) gc
  clear cc gc
  go_wp2_with fail
  go_ret
  exact ⟨y, hy, rfl, CC.out, G⟩

set_option maxRecDepth 100000 in
set_option maxHeartbeats 2000000 in
theorem l4LabelAny (D B : Nat) (ao : Option Addr) (len cap : Nat) (w : World) (hcur : Cur D B ao len cap w) :
    Calls Tryz.prog 37 #[.pointer (some ⟨B, 0, none⟩)] w fun e w' => ∃ z : ByteArray, z.size ≤ 80 ∧ e = .returned (.string z) ∧ Cur D B ao len cap w' ∧ w.grownBy w' (some B) := by
  have HC : Hid (Cur D B ao len cap w) := hcur
  clear hcur
  go_enter Tryz.func37, Tryz.ntmps37
  go_wp2_with fail
  refine (l1Once 5 _ _ _ _ _ _ (by omega) (by omega) HC.out).mono ?_
  rintro e wa ⟨b, rfl, ca, ga⟩
  have CA : Hid (Cur D B ao len cap wa) := ca
  have hB := ca.lt
  clear ca
  cases b with
  | true =>
    go_wp2_with fail
    refine (l1StrX 80 15 _ 15 0 _ _ _ _ _ _ _ (by omega) (by omega) (CA.out.alloc _) (World.ownsRow_lit wa _ 15 (Nat.zero_le _) (by decide) rfl) (by omega) (by decide)).mono ?_
    rintro e wc ⟨y, hy, rfl, cc, gc⟩
    have CC : Hid (Cur D B ao len cap wc) := cc
    have G := grow_trans (grow_alloc ga _) gc
    clear cc gc ga
    go_wp2_with fail
    go_ret
    exact ⟨y, hy, rfl, CC.out, G⟩
  | false =>
    go_wp2_with fail
    refine (l4Label _ _ _ _ _ _ CA.out).mono ?_
    rintro e wc ⟨y, hy, rfl, cc, gc⟩
    have CC : Hid (Cur D B ao len cap wc) := cc
    have G := grow_trans ga gc
    clear cc gc ga
    go_wp2_with fail
    go_ret
    exact ⟨y, by omega, rfl, CC.out, G⟩

set_option maxRecDepth 100000 in
set_option maxHeartbeats 2000000 in
theorem l4Name (D B : Nat) (ao : Option Addr) (len cap : Nat) (w : World) (hcur : Cur D B ao len cap w) :
    Calls Tryz.prog 59 #[.pointer (some ⟨B, 0, none⟩)] w fun e w' => ∃ z : ByteArray, z.size ≤ 100 ∧ e = .returned (.string z) ∧ Cur D B ao len cap w' ∧ w.grownBy w' (some B) := by
  have HC : Hid (Cur D B ao len cap w) := hcur
  clear hcur
  go_enter Tryz.func59, Tryz.ntmps59
  go_wp2_with fail
  refine (l4Label _ _ _ _ _ _ HC.out).mono ?_
  rintro e wz ⟨z0, hz0, rfl, cz, gz⟩
  have CZ : Hid (Cur D B ao len cap wz) := cz
  clear cz
  go_wp2_with fail
  refine (l1Below 4 _ _ _ _ _ _ (by omega) (by omega) CZ.out).mono ?_
  rintro e wa ⟨x, hx0, hx1, rfl, ca, ga⟩
  have CA : Hid (Cur D B ao len cap wa) := ca
  have GA := grow_trans gz ga
  clear ca gz ga
  obtain ⟨n, rfl⟩ := Int.eq_ofNat_of_zero_le hx0
  go_wp2_with fail
  go_loopw [3, 4] (fun a i wr => ∃ (k : Nat) (z : ByteArray), k ≤ n ∧ i = .int .i64 k ∧ a = .string z ∧ z.size + 21 * k ≤ 20 + 21 * n ∧ Cur D B ao len cap wr ∧ w.grownBy wr (some B)) (fun _ i _ => (intOf i).toNat)
  case atStart => exact ⟨n, z0, Nat.le_refl _, rfl, rfl, by omega, CA.out, GA⟩
  case round =>
    obtain ⟨k, z, hk, rfl, rfl, hz, hcu, hgr⟩ := hrel
    have HU : Hid (Cur D B ao len cap wr) := hcu
    clear hcu
    by_cases hp : 0 < k
    · have hd1 : (⟨#[46]⟩ : ByteArray).size = 1 := rfl
      go_wp2_with fail
      refine (l4Label _ _ _ _ _ _ HU.out).mono ?_
      rintro e wc ⟨y, hy, rfl, cc, gc⟩
      have CC : Hid (Cur D B ao len cap wc) := cc
      have G := grow_trans hgr gc
      clear cc gc hgr
      go_wp2_with fail
      go_roundw
      case rel => exact ⟨k - 1, _, by omega, by go_num, rfl, by rw [ByteArray.size_append, ByteArray.size_append, hd1]; omega, CC.out, G⟩
      case measure => simp [intOf]; omega
    · go_wp2_with fail
      go_ret
      exact ⟨z, by omega, rfl, HU.out, hgr⟩



end Go.Proofs.YtamnhegianpedaaGreatDoor
