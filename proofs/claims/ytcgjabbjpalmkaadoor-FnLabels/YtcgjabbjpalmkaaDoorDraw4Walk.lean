/- Contracts of what is drawn for chapter 4. -/
import Derived.Test.YtcgjabbjpalmkaaDoorRows
import Derived.Test.YtcgjabbjpalmkaaDoorDrawWalk
namespace Go.Proofs.YtcgjabbjpalmkaaDoor
open Go.RowKit

set_option maxRecDepth 100000 in
set_option maxHeartbeats 2000000 in
theorem l4Label (D B : Nat) (ao : Option Addr) (len cap : Nat) (w : World) (hcur : Cur D B ao len cap w) :
    Calls Tryd.prog 46 #[.pointer (some ⟨B, 0, none⟩)] w fun e w' => ∃ z : ByteArray, z.size ≤ 20 ∧ e = .returned (.string z) ∧ Cur D B ao len cap w' ∧ w.grownBy w' (some B) := by
  have HC : Hid (Cur D B ao len cap w) := hcur
  have hB := hcur.lt
  clear hcur
  go_enter Tryd.func46, Tryd.ntmps46
  go_wp2_with fail
  refine (l1StrX 20 16 _ 16 0 _ _ _ _ _ _ _ (by omega) (by omega) (HC.out.alloc _) (World.ownsRow_lit w _ 16 (Nat.zero_le _) (by decide) rfl) (by omega) (by decide)).mono ?_
  rintro e wc ⟨y, hy, rfl, cc, gc⟩
  have CC : Hid (Cur D B ao len cap wc) := cc
  have G := grow_trans (World.grownBy_alloc w _ (some B)) gc
  clear cc gc
  go_wp2_with fail
  go_ret
  exact ⟨y, hy, rfl, CC.out, G⟩

set_option maxRecDepth 100000 in
set_option maxHeartbeats 2000000 in
theorem l4LabelAny (D B : Nat) (ao : Option Addr) (len cap : Nat) (w : World) (hcur : Cur D B ao len cap w) :
    Calls Tryd.prog 20 #[.pointer (some ⟨B, 0, none⟩)] w fun e w' => ∃ z : ByteArray, z.size ≤ 80 ∧ e = .returned (.string z) ∧ Cur D B ao len cap w' ∧ w.grownBy w' (some B) := by
  have HC : Hid (Cur D B ao len cap w) := hcur
  clear hcur
  go_enter Tryd.func20, Tryd.ntmps20
  go_wp2_with fail
  refine (l1Once 5 _ _ _ _ _ _ (by omega) (by omega) HC.out).mono ?_
  rintro e wa ⟨b, rfl, ca, ga⟩
  have CA : Hid (Cur D B ao len cap wa) := ca
  have hB := ca.lt
  clear ca
  cases b with
  | true =>
    go_wp2_with fail
    refine (l1StrX 80 15 _ 15 0 _ _ _ _ _ _ _ (by omega) (by omega) (CA.out.alloc _) (World.ownsRow_lit wa _ 15 (Nat.zero_le _) (by decide) rfl) (by omega) (by decide)).mono ?_
    rintro e wc ⟨y, hy, rfl, cc, gc⟩
    have CC : Hid (Cur D B ao len cap wc) := cc
    have G := grow_trans (grow_alloc ga _) gc
    clear cc gc ga
    go_wp2_with fail
    go_ret
    exact ⟨y, hy, rfl, CC.out, G⟩
  | false =>
    go_wp2_with fail
    refine (l4Label _ _ _ _ _ _ CA.out).mono ?_
    rintro e wc ⟨y, hy, rfl, cc, gc⟩
    have CC : Hid (Cur D B ao len cap wc) := cc
    have G := grow_trans ga gc
    clear cc gc ga
    go_wp2_with fail
    go_ret
    exact ⟨y, by omega, rfl, CC.out, G⟩

set_option maxRecDepth 100000 in
set_option maxHeartbeats 2000000 in
theorem l4Name (D B : Nat) (ao : Option Addr) (len cap : Nat) (w : World) (hcur : Cur D B ao len cap w) :
    Calls Tryd.prog 61 #[.pointer (some ⟨B, 0, none⟩)] w fun e w' => ∃ z : ByteArray, z.size ≤ 100 ∧ e = .returned (.string z) ∧ Cur D B ao len cap w' ∧ w.grownBy w' (some B) := by
  have HC : Hid (Cur D B ao len cap w) := hcur
  clear hcur
  go_enter Tryd.func61, Tryd.ntmps61
  go_wp2_with fail
  refine (l4Label _ _ _ _ _ _ HC.out).mono ?_
  rintro e wz ⟨z0, hz0, rfl, cz, gz⟩
  have CZ : Hid (Cur D B ao len cap wz) := cz
  clear cz
  go_wp2_with fail
  refine (l1Below 4 _ _ _ _ _ _ (by omega) (by omega) CZ.out).mono ?_
  rintro e wa ⟨x, hx0, hx1, rfl, ca, ga⟩
  have CA : Hid (Cur D B ao len cap wa) := ca
  have GA := grow_trans gz ga
  clear ca gz ga
  obtain ⟨n, rfl⟩ := Int.eq_ofNat_of_zero_le hx0
  go_wp2_with fail
  go_loopw [3, 4] (fun a i wr => ∃ (k : Nat) (z : ByteArray), k ≤ n ∧ i = .int .i64 k ∧ a = .string z ∧ z.size + 21 * k ≤ 20 + 21 * n ∧ Cur D B ao len cap wr ∧ w.grownBy wr (some B)) (fun _ i _ => (intOf i).toNat)
  case atStart => exact ⟨n, z0, Nat.le_refl _, rfl, rfl, by omega, CA.out, GA⟩
  case round =>
    obtain ⟨k, z, hk, rfl, rfl, hz, hcu, hgr⟩ := hrel
    have HU : Hid (Cur D B ao len cap wr) := hcu
    clear hcu
    by_cases hp : 0 < k
    · have hd1 : (⟨#[46]⟩ : ByteArray).size = 1 := rfl
      go_wp2_with fail
      refine (l4Label _ _ _ _ _ _ HU.out).mono ?_
      rintro e wc ⟨y, hy, rfl, cc, gc⟩
      have CC : Hid (Cur D B ao len cap wc) := cc
      have G := grow_trans hgr gc
      clear cc gc hgr
      go_wp2_with fail
      go_roundw
      case rel => exact ⟨k - 1, _, by omega, by go_num, rfl, by rw [ByteArray.size_append, ByteArray.size_append, hd1]; omega, CC.out, G⟩
      case measure => simp [intOf]; omega
    · go_wp2_with fail
      go_ret
      exact ⟨z, by omega, rfl, HU.out, hgr⟩

set_option maxRecDepth 100000 in
set_option maxHeartbeats 4000000 in
theorem l4NameAny (D B : Nat) (ao : Option Addr) (len cap : Nat) (w : World) (hcur : Cur D B ao len cap w) :
    Calls Tryd.prog 35 #[.pointer (some ⟨B, 0, none⟩)] w fun e w' => ∃ z : ByteArray, z.size ≤ 200 ∧ e = .returned (.string z) ∧ Cur D B ao len cap w' ∧ w.grownBy w' (some B) := by
  have HC : Hid (Cur D B ao len cap w) := hcur
  clear hcur
  have hd1 : (⟨#[46]⟩ : ByteArray).size = 1 := rfl
  go_enter Tryd.func35, Tryd.ntmps35
  go_wp2_with fail
  refine (l4Name _ _ _ _ _ _ HC.out).mono ?_
  rintro e wz ⟨z, hz, rfl, cz, gz⟩
  have CZ : Hid (Cur D B ao len cap wz) := cz
  clear cz
  go_wp2_with fail
  refine (l1Below 8 _ _ _ _ _ _ (by omega) (by omega) CZ.out).mono ?_
  rintro e wa ⟨x, hx0, hx1, rfl, ca, ga⟩
  have CA : Hid (Cur D B ao len cap wa) := ca
  have hB := ca.lt
  have GA := grow_trans gz ga
  clear ca gz ga
  by_cases h0 : x = 0
  · subst h0
    go_wp2_with fail
    go_ret
    exact ⟨_, by rw [ByteArray.size_append, hd1]; omega, rfl, CA.out, GA⟩
  · by_cases h1 : x = 1
    · subst h1
      go_wp2_with fail
      refine (l4LabelAny _ _ _ _ _ _ CA.out).mono ?_
      rintro e wc ⟨y, hy, rfl, cc, gc⟩
      have CC : Hid (Cur D B ao len cap wc) := cc
      have G := grow_trans GA gc
      clear cc gc GA
      go_wp2_with fail
      go_ret
      exact ⟨_, by rw [ByteArray.size_append, ByteArray.size_append, hd1]; omega, rfl, CC.out, G⟩
    · by_cases h2 : x = 2
      · subst h2
        go_wp2_with fail
        refine (l1StrX 20 4 _ 4 0 _ _ _ _ _ _ _ (by omega) (by omega) (CA.out.alloc _) (World.ownsRow_lit wa _ 4 (Nat.zero_le _) (by decide) rfl) (by omega) (by decide)).mono ?_
        rintro e wc ⟨y, hy, rfl, cc, gc⟩
        have CC : Hid (Cur D B ao len cap wc) := cc
        have G := grow_trans (grow_alloc GA _) gc
        clear cc gc GA
        go_wp2_with fail
        go_ret
        exact ⟨y, by omega, rfl, CC.out, G⟩
      · go_wp2_with fail
        go_ret
        exact ⟨z, by omega, rfl, CA.out, GA⟩

set_option maxRecDepth 100000 in
set_option maxHeartbeats 2000000 in
theorem drawToAscii (ao : Option Addr) (len cap : Nat) (w : World) (hl : len ≤ 1048576) (hcode : CodeRow w.heap.size w ao len) :
    Calls Tryd.prog 9 #[.slice ao len cap] w fun e w' => ∃ (z : ByteArray), z.size ≤ 80 ∧ e = .returned (.string z) ∧ Below w.heap.size w w' := by
  go_enter Tryd.func9, Tryd.ntmps9
  go_wp2_with fail
  refine (l1New _ _ _ _ hl hcode).mono ?_
  rintro e wa ⟨B, rfl, hB, ca, ba⟩
  have CA : Hid (Cur w.heap.size B ao len cap wa) := ca
  have za := ba.size
  clear ca hcode
  go_wp2_with fail
  refine (l4LabelAny _ _ _ _ _ _ CA.out).mono ?_
  rintro e wb ⟨x, hx, rfl, cb, gb⟩
  have Bb : Below w.heap.size w wb := ba.grown gb za (fun k hk => by cases hk; exact hB)
  clear cb gb ba
  go_wp2_with fail
  go_ret
  exact ⟨x, hx, rfl, Bb⟩

set_option maxRecDepth 100000 in
set_option maxHeartbeats 4000000 in
theorem drawNameOf (ao : Option Addr) (len cap : Nat) (w : World) (hl : len ≤ 1048576) (hcode : CodeRow w.heap.size w ao len) :
    Calls Tryd.prog 14 #[.slice ao len cap] w fun e w' => ∃ (z : ByteArray), z.size ≤ 300 ∧ e = .returned (.string z) ∧ Below w.heap.size w w' := by
  have hd2 : (⟨#[46, 97]⟩ : ByteArray).size = 2 := rfl
  go_enter Tryd.func14, Tryd.ntmps14
  go_wp2_with fail
  refine (l1New _ _ _ _ hl hcode).mono ?_
  rintro e wa ⟨B, rfl, hB, ca, ba⟩
  have CA : Hid (Cur w.heap.size B ao len cap wa) := ca
  have za := ba.size
  clear ca hcode
  go_wp2_with fail
  refine (l4NameAny _ _ _ _ _ _ CA.out).mono ?_
  rintro e wb ⟨x, hx, rfl, cb, gb⟩
  have CB : Hid (Cur w.heap.size B ao len cap wb) := cb
  have Bb : Below w.heap.size w wb := ba.grown gb za (fun k hk => by cases hk; exact hB)
  have zb := Bb.size
  clear cb gb ba
  go_wp2_with fail
  refine (l1Once 30 _ _ _ _ _ _ (by omega) (by omega) CB.out).mono ?_
  rintro e wc ⟨b, rfl, cc, gc⟩
  have CC : Hid (Cur w.heap.size B ao len cap wc) := cc
  have Bc : Below w.heap.size w wc := Bb.grown gc zb (fun k hk => by cases hk; exact hB)
  clear cc gc Bb
  cases b with
  | false =>
    go_wp2_with fail
    go_ret
    exact ⟨x, by omega, rfl, Bc⟩
  | true =>
    go_wp2_with fail
    go_loopw [4] (fun a wr => ∃ z : ByteArray, a = .string z ∧ z.size ≤ 258 ∧ Cur w.heap.size B ao len cap wr ∧ Below w.heap.size w wr) (fun a _ => 300 - (match a with | .string z => z.size | _ => 0))
    case atStart => exact ⟨x, rfl, by omega, CC.out, Bc⟩
    case round =>
      obtain ⟨z, rfl, hz, hcu, hbe⟩ := hrel
      have HU : Hid (Cur w.heap.size B ao len cap wr) := hcu
      have hzb := hbe.size
      clear hcu
      go_wp2_with fail
      refine (l1Below 8 _ _ _ _ _ _ (by omega) (by omega) HU.out).mono ?_
      rintro e wd ⟨y, hy0, hy1, rfl, cd, gd⟩
      have CD : Hid (Cur w.heap.size B ao len cap wd) := cd
      have Bd : Below w.heap.size w wd := hbe.grown gd hzb (fun k hk => by cases hk; exact hB)
      clear cd gd hbe
      by_cases hlt : (z.size : Int) < 250 + y
      · have hzs : (z ++ (⟨#[46, 97]⟩ : ByteArray)).size = z.size + 2 := by rw [ByteArray.size_append, hd2]
        go_wp2_with fail
        go_roundw
        case rel => exact ⟨_, rfl, by rw [hzs]; omega, CD.out, Bd⟩
        case measure => simp [hzs]; omega
      · go_wp2_with fail
        go_ret
        exact ⟨z, by omega, rfl, Bd⟩
end Go.Proofs.YtcgjabbjpalmkaaDoor
