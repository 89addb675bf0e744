/- Contracts of what is drawn for chapter 11: texts. -/
import Derived.Test.YtjdnemjcjodboaaRows
import Derived.Test.YtjdnemjcjodboaaDrawWalk
namespace Go.Proofs.Ytjdnemjcjodboaa
open Go.RowKit

set_option maxRecDepth 100000 in
set_option maxHeartbeats 2000000 in
theorem l11Pattern (D B : Nat) (ao : Option Addr) (len cap : Nat) (w : World) (hcur : Cur D B ao len cap w) :
    Calls Try.prog 61 #[.pointer (some ⟨B, 0, none⟩)] w fun e w' => ∃ z : ByteArray, z.size ≤ 80 ∧ e = .returned (.string z) ∧ Cur D B ao len cap w' ∧ w.grownBy w' (some B) := by
  have HC : Hid (Cur D B ao len cap w) := hcur
  clear hcur
  go_enter Try.func61, Try.ntmps61
  go_wp2_with fail
  refine (l1Below 4 _ _ _ _ _ _ (by omega) (by omega) HC.out).mono ?_
  rintro e wa ⟨x, hx0, hx1, rfl, ca, ga⟩
  have CA : Hid (Cur D B ao len cap wa) := ca
  clear ca
  obtain ⟨n, rfl⟩ := Int.eq_ofNat_of_zero_le hx0
  go_wp2_with fail
  go_loopw [3, 4] (fun a i wr => ∃ (k : Nat) (z : ByteArray), k ≤ n + 1 ∧ i = .int .i64 k ∧ a = .string z ∧ z.size + 20 * k ≤ 20 * (n + 1) ∧ Cur D B ao len cap wr ∧ w.grownBy wr (some B)) (fun _ i _ => (intOf i).toNat)
  case atStart => exact ⟨n + 1, ⟨#[]⟩, Nat.le_refl _, by go_num, rfl, by simp [ByteArray.size], CA.out, ga⟩
  case round =>
    obtain ⟨k, z, hk, rfl, rfl, hz, hcu, hgr⟩ := hrel
    have HU : Hid (Cur D B ao len cap wr) := hcu
    have hB := hcu.lt
    clear hcu
    by_cases hp : 0 < k
    · go_wp2_with fail
      refine (l1StrX 20 11 _ 11 0 _ _ _ _ _ _ _ (by omega) (by omega) (HU.out.alloc _) (World.ownsRow_lit wr _ 11 (Nat.zero_le _) (by decide) rfl) (by omega) (by decide)).mono ?_
      rintro e wc ⟨y, hy, rfl, cc, gc⟩
      have CC : Hid (Cur D B ao len cap wc) := cc
      have G := grow_trans (grow_alloc hgr _) gc
      clear cc gc hgr
      go_wp2_with fail
      go_roundw
      case rel => exact ⟨k - 1, z ++ y, by omega, by go_num, rfl, by rw [ByteArray.size_append]; omega, CC.out, G⟩
      case measure => simp [intOf]; omega
    · go_wp2_with fail
      go_ret
      exact ⟨z, by omega, rfl, HU.out, hgr⟩
set_option maxRecDepth 100000 in
set_option maxHeartbeats 4000000 in
theorem l11Text (D B : Nat) (ao : Option Addr) (len cap : Nat) (w : World) (hcur : Cur D B ao len cap w) :
    Calls Try.prog 45 #[.pointer (some ⟨B, 0, none⟩)] w fun e w' => ∃ z : ByteArray, z.size ≤ 1600 ∧ e = .returned (.string z) ∧ Cur D B ao len cap w' ∧ w.grownBy w' (some B) := by
  have HC : Hid (Cur D B ao len cap w) := hcur
  clear hcur
  go_enter Try.func45, Try.ntmps45
  go_wp2_with fail
  refine (l1Below 9 _ _ _ _ _ _ (by omega) (by omega) HC.out).mono ?_
  rintro e wa ⟨x, hx0, hx1, rfl, ca, ga⟩
  have CA : Hid (Cur D B ao len cap wa) := ca
  clear ca
  obtain ⟨n, rfl⟩ := Int.eq_ofNat_of_zero_le hx0
  go_wp2_with fail
  go_loopw [3, 4] (fun a i wr => ∃ (k : Nat) (z : ByteArray), k ≤ n ∧ i = .int .i64 k ∧ a = .string z ∧ z.size + 200 * k ≤ 200 * n ∧ Cur D B ao len cap wr ∧ w.grownBy wr (some B)) (fun _ i _ => (intOf i).toNat)
  case atStart => exact ⟨n, ⟨#[]⟩, Nat.le_refl _, rfl, rfl, by simp [ByteArray.size], CA.out, ga⟩
  case round =>
    obtain ⟨k, z, hk, rfl, rfl, hz, hcu, hgr⟩ := hrel
    have HU : Hid (Cur D B ao len cap wr) := hcu
    have hB := hcu.lt
    clear hcu CA ga
    have h10 : (⟨#[68, 105, 115, 97, 108, 108, 111, 119, 58, 32]⟩ : ByteArray).size = 10 := rfl
    have h10' : (⟨#[100, 105, 115, 97, 108, 108, 111, 119, 58, 32]⟩ : ByteArray).size = 10 := rfl
    have h6 : (⟨#[97, 108, 108, 111, 119, 58]⟩ : ByteArray).size = 6 := rfl
    have z1 : (z ++ ⟨#[68, 105, 115, 97, 108, 108, 111, 119, 58, 32]⟩ : ByteArray).size ≤ 2000 := by rw [ByteArray.size_append, h10]; omega
    have z2 : (z ++ ⟨#[100, 105, 115, 97, 108, 108, 111, 119, 58, 32]⟩ : ByteArray).size ≤ 2000 := by rw [ByteArray.size_append, h10']; omega
    have z3 : (z ++ ⟨#[97, 108, 108, 111, 119, 58]⟩ : ByteArray).size ≤ 2000 := by rw [ByteArray.size_append, h6]; omega
    by_cases hp : 0 < k
    · go_wp2_with fail
      refine (l1Below 8 _ _ _ _ _ _ (by omega) (by omega) HU.out).mono ?_
      rintro e wa ⟨x8, h80, h81, rfl, ca, ga0⟩
      have CA : Hid (Cur D B ao len cap wa) := ca
      have ga := grow_trans hgr ga0
      clear ca hgr HU ga0
      have h8 : x8 = 0 ∨ x8 = 1 ∨ x8 = 2 ∨ x8 = 3 ∨ x8 = 4 ∨ x8 = 5 ∨ x8 = 6 ∨ x8 = 7 := by omega
      clear h80 h81
      rcases h8 with rfl | rfl | rfl | rfl | rfl | rfl | rfl | rfl
      · have hBa := CA.out.lt
        go_wp2_with fail
        refine (l1StrX 40 5 _ 5 0 _ _ _ _ _ _ _ (by omega) (by omega) (CA.out.alloc _) (World.ownsRow_lit wa _ 5 (Nat.zero_le _) (by decide) rfl) (by omega) (by decide)).mono ?_
        rintro e wc ⟨y, hy, rfl, cc, gc⟩
        have CC : Hid (Cur D B ao len cap wc) := cc
        have G := grow_trans (grow_alloc ga _) gc
        have hzz : (z ++ y : ByteArray).size + 200 * (k - 1) + 2 ≤ 200 * n := by (rw [ByteArray.size_append]; omega)
        clear cc gc ga CA
        have hB2 := CC.out.lt
        go_wp2_with fail
        refine (l1StrX 2 3 _ 3 0 _ _ _ _ _ _ _ (by omega) (by omega) (CC.out.alloc _) (World.ownsRow_lit wc _ 3 (Nat.zero_le _) (by decide) rfl) (by omega) (by decide)).mono ?_
        rintro e wd ⟨y2, hy2, rfl, cd, gd⟩
        have CD : Hid (Cur D B ao len cap wd) := cd
        have GD := grow_trans (grow_alloc G _) gd
        clear cd gd G CC
        go_wp2_with fail
        go_roundw
        case rel => exact ⟨k - 1, _, by omega, by go_num, rfl, by rw [ByteArray.size_append]; omega, CD.out, GD⟩
        case measure => simp [intOf]; omega
      · have hBa := CA.out.lt
        go_wp2_with fail
        refine (l1StrX 40 5 _ 5 0 _ _ _ _ _ _ _ (by omega) (by omega) (CA.out.alloc _) (World.ownsRow_lit wa _ 5 (Nat.zero_le _) (by decide) rfl) (by omega) (by decide)).mono ?_
        rintro e wc ⟨y, hy, rfl, cc, gc⟩
        have CC : Hid (Cur D B ao len cap wc) := cc
        have G := grow_trans (grow_alloc ga _) gc
        have hzz : (z ++ y : ByteArray).size + 200 * (k - 1) + 2 ≤ 200 * n := by (rw [ByteArray.size_append]; omega)
        clear cc gc ga CA
        have hB2 := CC.out.lt
        go_wp2_with fail
        refine (l1StrX 2 3 _ 3 0 _ _ _ _ _ _ _ (by omega) (by omega) (CC.out.alloc _) (World.ownsRow_lit wc _ 3 (Nat.zero_le _) (by decide) rfl) (by omega) (by decide)).mono ?_
        rintro e wd ⟨y2, hy2, rfl, cd, gd⟩
        have CD : Hid (Cur D B ao len cap wd) := cd
        have GD := grow_trans (grow_alloc G _) gd
        clear cd gd G CC
        go_wp2_with fail
        go_roundw
        case rel => exact ⟨k - 1, _, by omega, by go_num, rfl, by rw [ByteArray.size_append]; omega, CD.out, GD⟩
        case measure => simp [intOf]; omega
      · go_wp2_with fail
        refine (l11Pattern _ _ _ _ _ _ CA.out).mono ?_
        rintro e wc ⟨y, hy, rfl, cc, gc⟩
        have CC : Hid (Cur D B ao len cap wc) := cc
        have G := grow_trans ga gc
        have hzz : ((z ++ ⟨#[68, 105, 115, 97, 108, 108, 111, 119, 58, 32]⟩) ++ y : ByteArray).size + 200 * (k - 1) + 2 ≤ 200 * n := by (rw [ByteArray.size_append, ByteArray.size_append, h10]; omega)
        clear cc gc ga CA
        have hB2 := CC.out.lt
        go_wp2_with fail
        refine (l1StrX 2 3 _ 3 0 _ _ _ _ _ _ _ (by omega) (by omega) (CC.out.alloc _) (World.ownsRow_lit wc _ 3 (Nat.zero_le _) (by decide) rfl) (by omega) (by decide)).mono ?_
        rintro e wd ⟨y2, hy2, rfl, cd, gd⟩
        have CD : Hid (Cur D B ao len cap wd) := cd
        have GD := grow_trans (grow_alloc G _) gd
        clear cd gd G CC
        go_wp2_with fail
        go_roundw
        case rel => exact ⟨k - 1, _, by omega, by go_num, rfl, by rw [ByteArray.size_append]; omega, CD.out, GD⟩
        case measure => simp [intOf]; omega
      · go_wp2_with fail
        refine (l11Pattern _ _ _ _ _ _ CA.out).mono ?_
        rintro e wc ⟨y, hy, rfl, cc, gc⟩
        have CC : Hid (Cur D B ao len cap wc) := cc
        have G := grow_trans ga gc
        have hzz : ((z ++ ⟨#[68, 105, 115, 97, 108, 108, 111, 119, 58, 32]⟩) ++ y : ByteArray).size + 200 * (k - 1) + 2 ≤ 200 * n := by (rw [ByteArray.size_append, ByteArray.size_append, h10]; omega)
        clear cc gc ga CA
        have hB2 := CC.out.lt
        go_wp2_with fail
        refine (l1StrX 2 3 _ 3 0 _ _ _ _ _ _ _ (by omega) (by omega) (CC.out.alloc _) (World.ownsRow_lit wc _ 3 (Nat.zero_le _) (by decide) rfl) (by omega) (by decide)).mono ?_
        rintro e wd ⟨y2, hy2, rfl, cd, gd⟩
        have CD : Hid (Cur D B ao len cap wd) := cd
        have GD := grow_trans (grow_alloc G _) gd
        clear cd gd G CC
        go_wp2_with fail
        go_roundw
        case rel => exact ⟨k - 1, _, by omega, by go_num, rfl, by rw [ByteArray.size_append]; omega, CD.out, GD⟩
        case measure => simp [intOf]; omega
      · go_wp2_with fail
        refine (l11Pattern _ _ _ _ _ _ CA.out).mono ?_
        rintro e wc ⟨y, hy, rfl, cc, gc⟩
        have CC : Hid (Cur D B ao len cap wc) := cc
        have G := grow_trans ga gc
        have hzz : ((z ++ ⟨#[97, 108, 108, 111, 119, 58]⟩) ++ y : ByteArray).size + 200 * (k - 1) + 2 ≤ 200 * n := by (rw [ByteArray.size_append, ByteArray.size_append, h6]; omega)
        clear cc gc ga CA
        have hB2 := CC.out.lt
        go_wp2_with fail
        refine (l1StrX 2 3 _ 3 0 _ _ _ _ _ _ _ (by omega) (by omega) (CC.out.alloc _) (World.ownsRow_lit wc _ 3 (Nat.zero_le _) (by decide) rfl) (by omega) (by decide)).mono ?_
        rintro e wd ⟨y2, hy2, rfl, cd, gd⟩
        have CD : Hid (Cur D B ao len cap wd) := cd
        have GD := grow_trans (grow_alloc G _) gd
        clear cd gd G CC
        go_wp2_with fail
        go_roundw
        case rel => exact ⟨k - 1, _, by omega, by go_num, rfl, by rw [ByteArray.size_append]; omega, CD.out, GD⟩
        case measure => simp [intOf]; omega
      · have hBa := CA.out.lt
        go_wp2_with fail
        refine (l1StrX 40 7 _ 7 0 _ _ _ _ _ _ _ (by omega) (by omega) (CA.out.alloc _) (World.ownsRow_lit wa _ 7 (Nat.zero_le _) (by decide) rfl) (by omega) (by decide)).mono ?_
        rintro e wc ⟨y, hy, rfl, cc, gc⟩
        have CC : Hid (Cur D B ao len cap wc) := cc
        have G := grow_trans (grow_alloc ga _) gc
        have hzz : (z ++ y : ByteArray).size + 200 * (k - 1) + 2 ≤ 200 * n := by (rw [ByteArray.size_append]; omega)
        clear cc gc ga CA
        have hB2 := CC.out.lt
        go_wp2_with fail
        refine (l1StrX 2 3 _ 3 0 _ _ _ _ _ _ _ (by omega) (by omega) (CC.out.alloc _) (World.ownsRow_lit wc _ 3 (Nat.zero_le _) (by decide) rfl) (by omega) (by decide)).mono ?_
        rintro e wd ⟨y2, hy2, rfl, cd, gd⟩
        have CD : Hid (Cur D B ao len cap wd) := cd
        have GD := grow_trans (grow_alloc G _) gd
        clear cd gd G CC
        go_wp2_with fail
        go_roundw
        case rel => exact ⟨k - 1, _, by omega, by go_num, rfl, by rw [ByteArray.size_append]; omega, CD.out, GD⟩
        case measure => simp [intOf]; omega
      · have hBa := CA.out.lt
        go_wp2_with fail
        refine (l1StrX 40 5 _ 5 0 _ _ _ _ _ _ _ (by omega) (by omega) (CA.out.alloc _) (World.ownsRow_lit wa _ 5 (Nat.zero_le _) (by decide) rfl) (by omega) (by decide)).mono ?_
        rintro e wc ⟨y, hy, rfl, cc, gc⟩
        have CC : Hid (Cur D B ao len cap wc) := cc
        have G := grow_trans (grow_alloc ga _) gc
        have hzz : ((z ++ ⟨#[100, 105, 115, 97, 108, 108, 111, 119, 58, 32]⟩) ++ y : ByteArray).size + 200 * (k - 1) + 2 ≤ 200 * n := by (rw [ByteArray.size_append, ByteArray.size_append, h10']; omega)
        clear cc gc ga CA
        have hB2 := CC.out.lt
        go_wp2_with fail
        refine (l1StrX 2 3 _ 3 0 _ _ _ _ _ _ _ (by omega) (by omega) (CC.out.alloc _) (World.ownsRow_lit wc _ 3 (Nat.zero_le _) (by decide) rfl) (by omega) (by decide)).mono ?_
        rintro e wd ⟨y2, hy2, rfl, cd, gd⟩
        have CD : Hid (Cur D B ao len cap wd) := cd
        have GD := grow_trans (grow_alloc G _) gd
        clear cd gd G CC
        go_wp2_with fail
        go_roundw
        case rel => exact ⟨k - 1, _, by omega, by go_num, rfl, by rw [ByteArray.size_append]; omega, CD.out, GD⟩
        case measure => simp [intOf]; omega
      · have hBa := CA.out.lt
        go_wp2_with fail
        refine (l1StrX 40 5 _ 5 0 _ _ _ _ _ _ _ (by omega) (by omega) (CA.out.alloc _) (World.ownsRow_lit wa _ 5 (Nat.zero_le _) (by decide) rfl) (by omega) (by decide)).mono ?_
        rintro e wc ⟨y, hy, rfl, cc, gc⟩
        have CC : Hid (Cur D B ao len cap wc) := cc
        have G := grow_trans (grow_alloc ga _) gc
        have hzz : ((z ++ ⟨#[100, 105, 115, 97, 108, 108, 111, 119, 58, 32]⟩) ++ y : ByteArray).size + 200 * (k - 1) + 2 ≤ 200 * n := by (rw [ByteArray.size_append, ByteArray.size_append, h10']; omega)
        clear cc gc ga CA
        have hB2 := CC.out.lt
        go_wp2_with fail
        refine (l1StrX 2 3 _ 3 0 _ _ _ _ _ _ _ (by omega) (by omega) (CC.out.alloc _) (World.ownsRow_lit wc _ 3 (Nat.zero_le _) (by decide) rfl) (by omega) (by decide)).mono ?_
        rintro e wd ⟨y2, hy2, rfl, cd, gd⟩
        have CD : Hid (Cur D B ao len cap wd) := cd
        have GD := grow_trans (grow_alloc G _) gd
        clear cd gd G CC
        go_wp2_with fail
        go_roundw
        case rel => exact ⟨k - 1, _, by omega, by go_num, rfl, by rw [ByteArray.size_append]; omega, CD.out, GD⟩
        case measure => simp [intOf]; omega
    · go_wp2_with fail
      go_ret
      exact ⟨z, by omega, rfl, HU.out, hgr⟩
end Go.Proofs.Ytjdnemjcjodboaa
