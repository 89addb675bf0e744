/- Contracts of what is drawn for chapter 2. -/
import Derived.Test.YtokkcbjhkepjnaaDoorRows
import Derived.Test.YtokkcbjhkepjnaaDoorDrawWalk
namespace Go.Proofs.YtokkcbjhkepjnaaDoor
open Go.RowKit

set_option maxRecDepth 100000 in
set_option maxHeartbeats 2000000 in
theorem l2Text (D B : Nat) (ao : Option Addr) (len cap : Nat) (w : World) (hcur : Cur D B ao len cap w) :
    Calls Tryd.prog 57 #[.pointer (some ⟨B, 0, none⟩)] w fun e w' => ∃ z : ByteArray, z.size ≤ 1000 ∧ e = .returned (.string z) ∧ Cur D B ao len cap w' ∧ w.grownBy w' (some B) := by
  have HC : Hid (Cur D B ao len cap w) := hcur
  clear hcur
  go_enter Tryd.func57, Tryd.ntmps57
  go_wp2_with fail
  refine (l1Below 7 _ _ _ _ _ _ (by omega) (by omega) HC.out).mono ?_
  rintro e wa ⟨x, hx0, hx1, rfl, ca, ga⟩
  have CA : Hid (Cur D B ao len cap wa) := ca
  clear ca
  obtain ⟨n, rfl⟩ := Int.eq_ofNat_of_zero_le hx0
  go_wp2_with fail
  go_loopw [3, 4] (fun a i wr => ∃ (k : Nat) (z : ByteArray), k ≤ n ∧ i = .int .i64 k ∧ a = .string z ∧ z.size + 20 * k ≤ 20 * n ∧ Cur D B ao len cap wr ∧ w.grownBy wr (some B)) (fun _ i _ => (intOf i).toNat)
  case atStart => exact ⟨n, ⟨#[]⟩, Nat.le_refl _, rfl, rfl, by simp [ByteArray.size], CA.out, ga⟩
  case round =>
    obtain ⟨k, z, hk, rfl, rfl, hz, hcu, hgr⟩ := hrel
    have HU : Hid (Cur D B ao len cap wr) := hcu
    have hB := hcu.lt
    clear hcu
    by_cases hp : 0 < k
    · go_wp2_with fail
      refine (l1StrX 20 17 _ 17 0 _ _ _ _ _ _ _ (by omega) (by omega) (HU.out.alloc _) (World.ownsRow_lit wr _ 17 (Nat.zero_le _) (by decide) rfl) (by omega) (by decide)).mono ?_
      rintro e wc ⟨y, hy, rfl, cc, gc⟩
      have CC : Hid (Cur D B ao len cap wc) := cc
      have G := grow_trans (grow_alloc hgr _) gc
      clear cc gc hgr
      go_wp2_with fail
      go_roundw
      case rel => exact ⟨k - 1, z ++ y, by omega, by go_num, rfl, by rw [ByteArray.size_append]; omega, CC.out, G⟩
      case measure => simp [intOf]; omega
    · go_wp2_with fail
      go_ret
      exact ⟨z, by omega, rfl, HU.out, hgr⟩

set_option maxRecDepth 100000 in
set_option maxHeartbeats 2000000 in
theorem l2Set (D B : Nat) (ao : Option Addr) (len cap : Nat) (w : World) (hcur : Cur D B ao len cap w) :
    Calls Tryd.prog 58 #[.pointer (some ⟨B, 0, none⟩)] w fun e w' => ∃ z : Int, e = .returned (.int .i64 z) ∧ Cur D B ao len cap w' ∧ w.grownBy w' (some B) := by
  have HC : Hid (Cur D B ao len cap w) := hcur
  have hB := hcur.lt
  clear hcur
  go_enter Tryd.func58, Tryd.ntmps58
  go_wp2_with fail
  refine (l1IntX 10 _ 10 0 _ _ _ _ _ _ _ (by omega) (by omega) (HC.out.alloc _) (World.ownsRow_lit w _ 10 (Nat.zero_le _) (by decide) rfl) (by omega) rfl).mono ?_
  rintro e wc ⟨y, rfl, cc, gc⟩
  have CC : Hid (Cur D B ao len cap wc) := cc
  have G := grow_trans (World.grownBy_alloc w _ (some B)) gc
  clear cc gc
  go_wp2_with fail
  go_ret
  exact ⟨y, rfl, CC.out, G⟩

set_option maxRecDepth 100000 in
set_option maxHeartbeats 2000000 in
theorem drawPercent (ao : Option Addr) (len cap : Nat) (w : World) (hl : len ≤ 1048576) (hcode : CodeRow w.heap.size w ao len) :
    Calls Tryd.prog 26 #[.slice ao len cap] w fun e w' => ∃ (z : ByteArray) (k : Int), z.size ≤ 1000 ∧ e = .returned (.tuple #[.string z, .int .i64 k]) ∧ Below w.heap.size w w' := by
  go_enter Tryd.func26, Tryd.ntmps26
  go_wp2_with fail
  refine (l1New _ _ _ _ hl hcode).mono ?_
  rintro e wa ⟨B, rfl, hB, ca, ba⟩
  have CA : Hid (Cur w.heap.size B ao len cap wa) := ca
  have za := ba.size
  clear ca hcode
  go_wp2_with fail
  refine (l2Text _ _ _ _ _ _ CA.out).mono ?_
  rintro e wb ⟨x, hx, rfl, cb, gb⟩
  have CB : Hid (Cur w.heap.size B ao len cap wb) := cb
  have Bb : Below w.heap.size w wb := ba.grown gb za (fun k hk => by cases hk; exact hB)
  have zb := Bb.size
  clear cb gb ba
  go_wp2_with fail
  refine (l2Set _ _ _ _ _ _ CB.out).mono ?_
  rintro e wc ⟨y, rfl, cc, gc⟩
  have Bc : Below w.heap.size w wc := Bb.grown gc zb (fun k hk => by cases hk; exact hB)
  clear cc gc Bb
  go_wp2_with fail
  go_ret2
  exact ⟨x, y, hx, rfl, Bc⟩

set_option maxRecDepth 100000 in
set_option maxHeartbeats 2000000 in
theorem drawPlainly (ao : Option Addr) (len cap : Nat) (w : World) (hl : len ≤ 1048576) (hcode : CodeRow w.heap.size w ao len) :
    Calls Tryd.prog 30 #[.slice ao len cap] w fun e w' => ∃ (z : ByteArray) (k : Int), z.size ≤ 1000 ∧ e = .returned (.tuple #[.string z, .int .i64 k]) ∧ Below w.heap.size w w' := by
  go_enter Tryd.func30, Tryd.ntmps30
  go_wp2_with fail
  refine (l1New _ _ _ _ hl hcode).mono ?_
  rintro e wa ⟨B, rfl, hB, ca, ba⟩
  have CA : Hid (Cur w.heap.size B ao len cap wa) := ca
  have za := ba.size
  clear ca hcode
  go_wp2_with fail
  refine (l2Text _ _ _ _ _ _ CA.out).mono ?_
  rintro e wb ⟨x, hx, rfl, cb, gb⟩
  have CB : Hid (Cur w.heap.size B ao len cap wb) := cb
  have Bb : Below w.heap.size w wb := ba.grown gb za (fun k hk => by cases hk; exact hB)
  have zb := Bb.size
  clear cb gb ba
  go_wp2_with fail
  refine (l2Set _ _ _ _ _ _ CB.out).mono ?_
  rintro e wc ⟨y, rfl, cc, gc⟩
  have Bc : Below w.heap.size w wc := Bb.grown gc zb (fun k hk => by cases hk; exact hB)
  clear cc gc Bb
  go_wp2_with fail
  go_ret2
  exact ⟨x, y, hx, rfl, Bc⟩
end Go.Proofs.YtokkcbjhkepjnaaDoor
