/- Draw11X, Draw11R. -/
import Derived.Test.YtjdnemjcjodboaaDoorRq16
set_option maxHeartbeats 4000000
set_option maxRecDepth 100000
namespace Go.Proofs.YtjdnemjcjodboaaDoor
open Go.RowKit
set_option linter.unusedVariables false
def patS : List ByteArray := [⟨#[47]⟩, ⟨#[97]⟩, ⟨#[42]⟩, ⟨#[36]⟩, ⟨#[98, 46, 104, 116, 109, 108]⟩, ⟨#[47, 97, 47]⟩, ⟨#[37, 50, 102]⟩, ⟨#[63, 113, 61]⟩, ⟨#[37, 52, 49]⟩, ⟨#[195, 169]⟩, ⟨#[120]⟩]
def patN (cs : Nat → Int) (len : Nat) : Nat → ByteArray → Nat × Int → ByteArray × (Nat × Int)
 | 0, z, s => (z, s)
 | k + 1, z, s => patN cs len k (z ++ strF patS cs len s) (belowF cs len 11 s).2
def patF (cs : Nat → Int) (len : Nat) (s : Nat × Int) : ByteArray × (Nat × Int) := patN cs len ((belowF cs len 4 s).1.toNat + 1) ⟨#[]⟩ (belowF cs len 4 s).2
theorem patS_size : ∀ z ∈ patS, z.size ≤ 20 := by decide
theorem l11PatternX (cs : Nat → Int) (s : Nat × Int) (D B : Nat) (ao : Option Addr) (len cap : Nat) (w : World) (hcur : CurX cs D B ao len cap s w) :
  Calls Tryd.prog 49 #[.pointer (some ⟨B, 0, none⟩)] w fun e w' => e = .returned (.string (patF cs len s).1) ∧ (patF cs len s).1.size ≤ 80 ∧ CurX cs D B ao len cap (patF cs len s).2 w' ∧ w.grownBy w' (some B) := by
 have HC : Hid (CurX cs D B ao len cap s w) := hcur
 clear hcur
 have HP : Hid (patN cs len ((belowF cs len 4 s).1.toNat + 1) ⟨#[]⟩ (belowF cs len 4 s).2 = patF cs len s) := rfl
 go_enter Tryd.func49, Tryd.ntmps49
 go_wp2_with fail
 refine (l1BelowX 4 _ _ _ _ _ _ _ _ (by omega) (by omega) HC.out).mono ?_
 rintro e wa ⟨rfl, hx0, hx1, ca, ga⟩
 have CA : Hid (CurX cs D B ao len cap (belowF cs len 4 s).2 wa) := ca
 clear ca HC
 generalize (belowF cs len 4 s).1 = x at *
 generalize (belowF cs len 4 s).2 = s1 at *
 obtain ⟨n, rfl⟩ := Int.eq_ofNat_of_zero_le hx0
 have HP1 : Hid (patN cs len (n + 1) ⟨#[]⟩ s1 = patF cs len s) := HP.out
 clear HP
 go_wp2_with fail
 go_loopw [3, 4] (fun a i wr => ∃ (k : Nat) (z : ByteArray) (s2 : Nat × Int), k ≤ n + 1 ∧ i = .int .i64 k ∧ a = .string z ∧ z.size + 20 * k ≤ 20 * (n + 1) ∧ Hid (patN cs len k z s2 = patF cs len s) ∧ Hid (CurX cs D B ao len cap s2 wr) ∧ w.grownBy wr (some B)) (fun _ i _ => (intOf i).toNat)
 case atStart => exact ⟨n + 1, ⟨#[]⟩, s1, Nat.le_refl _, by go_num, rfl, by simp [ByteArray.size], HP1, CA.out, ga⟩
 obtain ⟨k, z, s2, hk, rfl, rfl, hz, HPN, HU, hgr⟩ := hrel
 have hB := HU.out.lt
 clear HP1
 by_cases hp : 0 < k
 ·obtain ⟨j, rfl⟩ : ∃ j, k = j + 1 := ⟨k - 1, by omega⟩
  have HPN1 : Hid (patN cs len j (z ++ strF patS cs len s2) (belowF cs len 11 s2).2 = patF cs len s) := HPN.out
  clear HPN
  go_wp2_with fail
  refine (l1StrZ 11 _ 11 0 patS _ _ _ _ _ _ _ _ (by omega) (by omega) (HU.out.alloc _) (World.ownsRow_lit wr _ 11 (Nat.zero_le _) (by decide) rfl) (by omega)).mono ?_
  rintro e wb ⟨hy, rfl, cc, gc⟩
  have CC : Hid (CurX cs D B ao len cap (belowF cs len 11 s2).2 wb) := cc
  have G := grow_trans (grow_alloc hgr _) gc
  have hys := patS_size _ hy
  clear cc gc hgr hy HU
  generalize strF patS cs len s2 = y at *
  generalize (belowF cs len 11 s2).2 = s3 at *
  go_wp2_with fail
  go_roundw
  case rel => exact ⟨j, z ++ y, s3, by omega, by go_num, rfl, by rw [ByteArray.size_append]; omega, HPN1, CC.out, G⟩
  case measure => simp [intOf] <;> omega
 have h0 : k = 0 := by omega
 subst h0
 have HPE : Hid (patF cs len s = (z, s2)) := HPN.out.symm
 go_wp2_with fail
 go_ret
 rw [HPE.out]
 exact ⟨rfl, by show z.size ≤ 80; omega, HU.out, hgr⟩
def agtS : List ByteArray := [⟨#[85, 115, 101, 114, 45, 97, 103, 101, 110, 116, 58, 32, 42]⟩, ⟨#[117, 115, 101, 114, 45, 97, 103, 101, 110, 116, 58, 32, 87, 97, 121, 102, 97, 114, 101, 114, 47, 49, 46, 48]⟩, ⟨#[85, 83, 69, 82, 45, 65, 71, 69, 78, 84, 32, 58, 98, 111, 116]⟩, ⟨#[117, 115, 101, 114, 45, 97, 103, 101, 110, 116, 58, 32, 119, 97, 121, 102, 97, 114, 101, 114, 32, 35, 32, 120]⟩, ⟨#[117, 115, 101, 114, 45, 97, 103, 101, 110, 116, 58]⟩]
def othS : List ByteArray := [⟨#[100, 105, 115, 97, 108, 108, 111, 119, 58]⟩, ⟨#[115, 105, 116, 101, 109, 97, 112, 58, 32, 104, 116, 116, 112, 58, 47, 47, 97, 46, 99, 111, 109, 47, 115, 46, 120, 109, 108]⟩, ⟨#[35, 32, 97, 108, 108]⟩, ⟨#[99, 114, 97, 119, 108, 45, 100, 101, 108, 97, 121, 58, 32, 51]⟩, ⟨#[]⟩, ⟨#[97, 108, 108, 111, 119]⟩, ⟨#[58, 120]⟩]
def plnS : List ByteArray := [⟨#[47]⟩, ⟨#[47, 97]⟩, ⟨#[47, 42, 46, 104, 116, 109, 108, 36]⟩, ⟨#[47, 97, 47, 42]⟩, ⟨#[47, 98, 63]⟩]
def eolS : List ByteArray := [⟨#[10]⟩, ⟨#[13, 10]⟩, ⟨#[13]⟩]
theorem agtS_size : ∀ z ∈ agtS, z.size ≤ 40 := by decide
theorem othS_size : ∀ z ∈ othS, z.size ≤ 40 := by decide
theorem plnS_size : ∀ z ∈ plnS, z.size ≤ 40 := by decide
theorem eolS_size : ∀ z ∈ eolS, z.size ≤ 2 := by decide
def midT (cs : Nat → Int) (len : Nat) (z : ByteArray) (s : Nat × Int) : Nat → ByteArray × (Nat × Int)
 | 0 => (z ++ strF agtS cs len s, (belowF cs len 5 s).2)
 | 1 => (z ++ strF agtS cs len s, (belowF cs len 5 s).2)
 | 2 => ((z ++ ⟨#[68, 105, 115, 97, 108, 108, 111, 119, 58, 32]⟩) ++ (patF cs len s).1, (patF cs len s).2)
 | 3 => ((z ++ ⟨#[68, 105, 115, 97, 108, 108, 111, 119, 58, 32]⟩) ++ (patF cs len s).1, (patF cs len s).2)
 | 4 => ((z ++ ⟨#[97, 108, 108, 111, 119, 58]⟩) ++ (patF cs len s).1, (patF cs len s).2)
 | 5 => (z ++ strF othS cs len s, (belowF cs len 7 s).2)
 | _ => ((z ++ ⟨#[100, 105, 115, 97, 108, 108, 111, 119, 58, 32]⟩) ++ strF plnS cs len s, (belowF cs len 5 s).2)
def textN (cs : Nat → Int) (len : Nat) : Nat → ByteArray → Nat × Int → ByteArray × (Nat × Int)
 | 0, z, s => (z, s)
 | k + 1, z, s => textN cs len k ((midT cs len z (belowF cs len 8 s).2 (belowF cs len 8 s).1.toNat).1 ++ strF eolS cs len (midT cs len z (belowF cs len 8 s).2 (belowF cs len 8 s).1.toNat).2) (belowF cs len 3 (midT cs len z (belowF cs len 8 s).2 (belowF cs len 8 s).1.toNat).2).2
def textF (cs : Nat → Int) (len : Nat) (s : Nat × Int) : ByteArray × (Nat × Int) := textN cs len (belowF cs len 9 s).1.toNat ⟨#[]⟩ (belowF cs len 9 s).2
theorem l11TextX (cs : Nat → Int) (s : Nat × Int) (D B : Nat) (ao : Option Addr) (len cap : Nat) (w : World) (hcur : CurX cs D B ao len cap s w) :
  Calls Tryd.prog 21 #[.pointer (some ⟨B, 0, none⟩)] w fun e w' => e = .returned (.string (textF cs len s).1) ∧ (textF cs len s).1.size ≤ 1600 ∧ CurX cs D B ao len cap (textF cs len s).2 w' ∧ w.grownBy w' (some B) := by
 have HC : Hid (CurX cs D B ao len cap s w) := hcur
 clear hcur
 have HP : Hid (textN cs len (belowF cs len 9 s).1.toNat ⟨#[]⟩ (belowF cs len 9 s).2 = textF cs len s) := rfl
 go_enter Tryd.func21, Tryd.ntmps21
 go_wp2_with fail
 refine (l1BelowX 9 _ _ _ _ _ _ _ _ (by omega) (by omega) HC.out).mono ?_
 rintro e wa ⟨rfl, hx0, hx1, ca, ga⟩
 have CA : Hid (CurX cs D B ao len cap (belowF cs len 9 s).2 wa) := ca
 clear ca HC
 generalize (belowF cs len 9 s).1 = x at *
 generalize (belowF cs len 9 s).2 = s0 at *
 obtain ⟨n, rfl⟩ := Int.eq_ofNat_of_zero_le hx0
 have HP1 : Hid (textN cs len n ⟨#[]⟩ s0 = textF cs len s) := HP.out
 clear HP
 go_wp2_with fail
 go_loopw [3, 4] (fun a i wr => ∃ (k : Nat) (z : ByteArray) (s2 : Nat × Int), k ≤ n ∧ i = .int .i64 k ∧ a = .string z ∧ z.size + 200 * k ≤ 200 * n ∧ Hid (textN cs len k z s2 = textF cs len s) ∧ Hid (CurX cs D B ao len cap s2 wr) ∧ w.grownBy wr (some B)) (fun _ i _ => (intOf i).toNat)
 case atStart => exact ⟨n, ⟨#[]⟩, s0, Nat.le_refl _, rfl, rfl, by simp [ByteArray.size], HP1, CA.out, ga⟩
 obtain ⟨k, z, s2, hk, rfl, rfl, hz, HPN, HU, hgr⟩ := hrel
 have hB := HU.out.lt
 clear HP1 CA ga
 have h10 : (⟨#[68, 105, 115, 97, 108, 108, 111, 119, 58, 32]⟩ : ByteArray).size = 10 := rfl
 have h10' : (⟨#[100, 105, 115, 97, 108, 108, 111, 119, 58, 32]⟩ : ByteArray).size = 10 := rfl
 have h6 : (⟨#[97, 108, 108, 111, 119, 58]⟩ : ByteArray).size = 6 := rfl
 have z1 : (z ++ ⟨#[68, 105, 115, 97, 108, 108, 111, 119, 58, 32]⟩ : ByteArray).size ≤ 2000 := by rw [ByteArray.size_append, h10]; omega
 have z2 : (z ++ ⟨#[100, 105, 115, 97, 108, 108, 111, 119, 58, 32]⟩ : ByteArray).size ≤ 2000 := by rw [ByteArray.size_append, h10']; omega
 have z3 : (z ++ ⟨#[97, 108, 108, 111, 119, 58]⟩ : ByteArray).size ≤ 2000 := by rw [ByteArray.size_append, h6]; omega
 by_cases hp : 0 < k
 ·obtain ⟨j, rfl⟩ : ∃ j, k = j + 1 := ⟨k - 1, by omega⟩
  have HPN1 : Hid (textN cs len j ((midT cs len z (belowF cs len 8 s2).2 (belowF cs len 8 s2).1.toNat).1 ++ strF eolS cs len (midT cs len z (belowF cs len 8 s2).2 (belowF cs len 8 s2).1.toNat).2) (belowF cs len 3 (midT cs len z (belowF cs len 8 s2).2 (belowF cs len 8 s2).1.toNat).2).2 = textF cs len s) := HPN.out
  clear HPN
  go_wp2_with fail
  refine (l1BelowX 8 _ _ _ _ _ _ _ _ (by omega) (by omega) HU.out).mono ?_
  rintro e wa ⟨rfl, h80, h81, ca, ga0⟩
  have CA : Hid (CurX cs D B ao len cap (belowF cs len 8 s2).2 wa) := ca
  have ga := grow_trans hgr ga0
  clear ca hgr HU ga0
  generalize (belowF cs len 8 s2).1 = x8 at *
  generalize (belowF cs len 8 s2).2 = s1 at *
  have h8 : x8 = 0 ∨ x8 = 1 ∨ x8 = 2 ∨ x8 = 3 ∨ x8 = 4 ∨ x8 = 5 ∨ x8 = 6 ∨ x8 = 7 := by omega
  clear h80 h81
  rcases h8 with rfl | rfl | rfl | rfl | rfl | rfl | rfl | rfl
  ·have hBa := CA.out.lt
   have HPN2 : Hid (textN cs len j ((z ++ strF agtS cs len s1) ++ strF eolS cs len (belowF cs len 5 s1).2) (belowF cs len 3 (belowF cs len 5 s1).2).2 = textF cs len s) := HPN1.out
   clear HPN1
   go_wp2_with fail
   refine (l1StrZ 5 _ 5 0 agtS _ _ _ _ _ _ _ _ (by omega) (by omega) (CA.out.alloc _) (World.ownsRow_lit wa _ 5 (Nat.zero_le _) (by decide) rfl) (by omega)).mono ?_
   rintro e wb ⟨hy, rfl, cc, gc⟩
   have CC : Hid (CurX cs D B ao len cap (belowF cs len 5 s1).2 wb) := cc
   have G := grow_trans (grow_alloc ga _) gc
   have hys := agtS_size _ hy
   have hzz : (z ++ strF agtS cs len s1 : ByteArray).size + 200 * j + 2 ≤ 200 * n := by (rw [ByteArray.size_append]; omega)
   clear cc gc ga CA hy
   generalize strF agtS cs len s1 = y at *
   generalize (belowF cs len 5 s1).2 = s3 at *
   have hB2 := CC.out.lt
   go_wp2_with fail
   refine (l1StrZ 3 _ 3 0 eolS _ _ _ _ _ _ _ _ (by omega) (by omega) (CC.out.alloc _) (World.ownsRow_lit wb _ 3 (Nat.zero_le _) (by decide) rfl) (by omega)).mono ?_
   rintro e wd ⟨hy2, rfl, cd, gd⟩
   have CD : Hid (CurX cs D B ao len cap (belowF cs len 3 s3).2 wd) := cd
   have GD := grow_trans (grow_alloc G _) gd
   have hy2s := eolS_size _ hy2
   clear cd gd G CC hy2
   generalize strF eolS cs len s3 = y2 at *
   generalize (belowF cs len 3 s3).2 = s4 at *
   go_wp2_with fail
   go_roundw
   case rel => exact ⟨j, _, s4, by omega, by go_num, rfl, by rw [ByteArray.size_append]; omega, HPN2, CD.out, GD⟩
   case measure => simp [intOf] <;> omega
  ·have hBa := CA.out.lt
   have HPN2 : Hid (textN cs len j ((z ++ strF agtS cs len s1) ++ strF eolS cs len (belowF cs len 5 s1).2) (belowF cs len 3 (belowF cs len 5 s1).2).2 = textF cs len s) := HPN1.out
   clear HPN1
   go_wp2_with fail
   refine (l1StrZ 5 _ 5 0 agtS _ _ _ _ _ _ _ _ (by omega) (by omega) (CA.out.alloc _) (World.ownsRow_lit wa _ 5 (Nat.zero_le _) (by decide) rfl) (by omega)).mono ?_
   rintro e wb ⟨hy, rfl, cc, gc⟩
   have CC : Hid (CurX cs D B ao len cap (belowF cs len 5 s1).2 wb) := cc
   have G := grow_trans (grow_alloc ga _) gc
   have hys := agtS_size _ hy
   have hzz : (z ++ strF agtS cs len s1 : ByteArray).size + 200 * j + 2 ≤ 200 * n := by (rw [ByteArray.size_append]; omega)
   clear cc gc ga CA hy
   generalize strF agtS cs len s1 = y at *
   generalize (belowF cs len 5 s1).2 = s3 at *
   have hB2 := CC.out.lt
   go_wp2_with fail
   refine (l1StrZ 3 _ 3 0 eolS _ _ _ _ _ _ _ _ (by omega) (by omega) (CC.out.alloc _) (World.ownsRow_lit wb _ 3 (Nat.zero_le _) (by decide) rfl) (by omega)).mono ?_
   rintro e wd ⟨hy2, rfl, cd, gd⟩
   have CD : Hid (CurX cs D B ao len cap (belowF cs len 3 s3).2 wd) := cd
   have GD := grow_trans (grow_alloc G _) gd
   have hy2s := eolS_size _ hy2
   clear cd gd G CC hy2
   generalize strF eolS cs len s3 = y2 at *
   generalize (belowF cs len 3 s3).2 = s4 at *
   go_wp2_with fail
   go_roundw
   case rel => exact ⟨j, _, s4, by omega, by go_num, rfl, by rw [ByteArray.size_append]; omega, HPN2, CD.out, GD⟩
   case measure => simp [intOf] <;> omega
  ·have HPN2 : Hid (textN cs len j (((z ++ ⟨#[68, 105, 115, 97, 108, 108, 111, 119, 58, 32]⟩) ++ (patF cs len s1).1) ++ strF eolS cs len (patF cs len s1).2) (belowF cs len 3 (patF cs len s1).2).2 = textF cs len s) := HPN1.out
   clear HPN1
   go_wp2_with fail
   refine (l11PatternX _ _ _ _ _ _ _ _ CA.out).mono ?_
   rintro e wb ⟨rfl, hys, cc, gc⟩
   have CC : Hid (CurX cs D B ao len cap (patF cs len s1).2 wb) := cc
   have G := grow_trans ga gc
   have hzz : ((z ++ ⟨#[68, 105, 115, 97, 108, 108, 111, 119, 58, 32]⟩) ++ (patF cs len s1).1 : ByteArray).size + 200 * j + 2 ≤ 200 * n := by (rw [ByteArray.size_append, ByteArray.size_append, h10]; omega)
   clear cc gc ga CA
   generalize (patF cs len s1).1 = y at *
   generalize (patF cs len s1).2 = s3 at *
   have hB2 := CC.out.lt
   go_wp2_with fail
   refine (l1StrZ 3 _ 3 0 eolS _ _ _ _ _ _ _ _ (by omega) (by omega) (CC.out.alloc _) (World.ownsRow_lit wb _ 3 (Nat.zero_le _) (by decide) rfl) (by omega)).mono ?_
   rintro e wd ⟨hy2, rfl, cd, gd⟩
   have CD : Hid (CurX cs D B ao len cap (belowF cs len 3 s3).2 wd) := cd
   have GD := grow_trans (grow_alloc G _) gd
   have hy2s := eolS_size _ hy2
   clear cd gd G CC hy2
   generalize strF eolS cs len s3 = y2 at *
   generalize (belowF cs len 3 s3).2 = s4 at *
   go_wp2_with fail
   go_roundw
   case rel => exact ⟨j, _, s4, by omega, by go_num, rfl, by rw [ByteArray.size_append]; omega, HPN2, CD.out, GD⟩
   case measure => simp [intOf] <;> omega
  ·have HPN2 : Hid (textN cs len j (((z ++ ⟨#[68, 105, 115, 97, 108, 108, 111, 119, 58, 32]⟩) ++ (patF cs len s1).1) ++ strF eolS cs len (patF cs len s1).2) (belowF cs len 3 (patF cs len s1).2).2 = textF cs len s) := HPN1.out
   clear HPN1
   go_wp2_with fail
   refine (l11PatternX _ _ _ _ _ _ _ _ CA.out).mono ?_
   rintro e wb ⟨rfl, hys, cc, gc⟩
   have CC : Hid (CurX cs D B ao len cap (patF cs len s1).2 wb) := cc
   have G := grow_trans ga gc
   have hzz : ((z ++ ⟨#[68, 105, 115, 97, 108, 108, 111, 119, 58, 32]⟩) ++ (patF cs len s1).1 : ByteArray).size + 200 * j + 2 ≤ 200 * n := by (rw [ByteArray.size_append, ByteArray.size_append, h10]; omega)
   clear cc gc ga CA
   generalize (patF cs len s1).1 = y at *
   generalize (patF cs len s1).2 = s3 at *
   have hB2 := CC.out.lt
   go_wp2_with fail
   refine (l1StrZ 3 _ 3 0 eolS _ _ _ _ _ _ _ _ (by omega) (by omega) (CC.out.alloc _) (World.ownsRow_lit wb _ 3 (Nat.zero_le _) (by decide) rfl) (by omega)).mono ?_
   rintro e wd ⟨hy2, rfl, cd, gd⟩
   have CD : Hid (CurX cs D B ao len cap (belowF cs len 3 s3).2 wd) := cd
   have GD := grow_trans (grow_alloc G _) gd
   have hy2s := eolS_size _ hy2
   clear cd gd G CC hy2
   generalize strF eolS cs len s3 = y2 at *
   generalize (belowF cs len 3 s3).2 = s4 at *
   go_wp2_with fail
   go_roundw
   case rel => exact ⟨j, _, s4, by omega, by go_num, rfl, by rw [ByteArray.size_append]; omega, HPN2, CD.out, GD⟩
   case measure => simp [intOf] <;> omega
  ·have HPN2 : Hid (textN cs len j (((z ++ ⟨#[97, 108, 108, 111, 119, 58]⟩) ++ (patF cs len s1).1) ++ strF eolS cs len (patF cs len s1).2) (belowF cs len 3 (patF cs len s1).2).2 = textF cs len s) := HPN1.out
   clear HPN1
   go_wp2_with fail
   refine (l11PatternX _ _ _ _ _ _ _ _ CA.out).mono ?_
   rintro e wb ⟨rfl, hys, cc, gc⟩
   have CC : Hid (CurX cs D B ao len cap (patF cs len s1).2 wb) := cc
   have G := grow_trans ga gc
   have hzz : ((z ++ ⟨#[97, 108, 108, 111, 119, 58]⟩) ++ (patF cs len s1).1 : ByteArray).size + 200 * j + 2 ≤ 200 * n := by (rw [ByteArray.size_append, ByteArray.size_append, h6]; omega)
   clear cc gc ga CA
   generalize (patF cs len s1).1 = y at *
   generalize (patF cs len s1).2 = s3 at *
   have hB2 := CC.out.lt
   go_wp2_with fail
   refine (l1StrZ 3 _ 3 0 eolS _ _ _ _ _ _ _ _ (by omega) (by omega) (CC.out.alloc _) (World.ownsRow_lit wb _ 3 (Nat.zero_le _) (by decide) rfl) (by omega)).mono ?_
   rintro e wd ⟨hy2, rfl, cd, gd⟩
   have CD : Hid (CurX cs D B ao len cap (belowF cs len 3 s3).2 wd) := cd
   have GD := grow_trans (grow_alloc G _) gd
   have hy2s := eolS_size _ hy2
   clear cd gd G CC hy2
   generalize strF eolS cs len s3 = y2 at *
   generalize (belowF cs len 3 s3).2 = s4 at *
   go_wp2_with fail
   go_roundw
   case rel => exact ⟨j, _, s4, by omega, by go_num, rfl, by rw [ByteArray.size_append]; omega, HPN2, CD.out, GD⟩
   case measure => simp [intOf] <;> omega
  ·have hBa := CA.out.lt
   have HPN2 : Hid (textN cs len j ((z ++ strF othS cs len s1) ++ strF eolS cs len (belowF cs len 7 s1).2) (belowF cs len 3 (belowF cs len 7 s1).2).2 = textF cs len s) := HPN1.out
   clear HPN1
   go_wp2_with fail
   refine (l1StrZ 7 _ 7 0 othS _ _ _ _ _ _ _ _ (by omega) (by omega) (CA.out.alloc _) (World.ownsRow_lit wa _ 7 (Nat.zero_le _) (by decide) rfl) (by omega)).mono ?_
   rintro e wb ⟨hy, rfl, cc, gc⟩
   have CC : Hid (CurX cs D B ao len cap (belowF cs len 7 s1).2 wb) := cc
   have G := grow_trans (grow_alloc ga _) gc
   have hys := othS_size _ hy
   have hzz : (z ++ strF othS cs len s1 : ByteArray).size + 200 * j + 2 ≤ 200 * n := by (rw [ByteArray.size_append]; omega)
   clear cc gc ga CA hy
   generalize strF othS cs len s1 = y at *
   generalize (belowF cs len 7 s1).2 = s3 at *
   have hB2 := CC.out.lt
   go_wp2_with fail
   refine (l1StrZ 3 _ 3 0 eolS _ _ _ _ _ _ _ _ (by omega) (by omega) (CC.out.alloc _) (World.ownsRow_lit wb _ 3 (Nat.zero_le _) (by decide) rfl) (by omega)).mono ?_
   rintro e wd ⟨hy2, rfl, cd, gd⟩
   have CD : Hid (CurX cs D B ao len cap (belowF cs len 3 s3).2 wd) := cd
   have GD := grow_trans (grow_alloc G _) gd
   have hy2s := eolS_size _ hy2
   clear cd gd G CC hy2
   generalize strF eolS cs len s3 = y2 at *
   generalize (belowF cs len 3 s3).2 = s4 at *
   go_wp2_with fail
   go_roundw
   case rel => exact ⟨j, _, s4, by omega, by go_num, rfl, by rw [ByteArray.size_append]; omega, HPN2, CD.out, GD⟩
   case measure => simp [intOf] <;> omega
  ·have hBa := CA.out.lt
   have HPN2 : Hid (textN cs len j (((z ++ ⟨#[100, 105, 115, 97, 108, 108, 111, 119, 58, 32]⟩) ++ strF plnS cs len s1) ++ strF eolS cs len (belowF cs len 5 s1).2) (belowF cs len 3 (belowF cs len 5 s1).2).2 = textF cs len s) := HPN1.out
   clear HPN1
   go_wp2_with fail
   refine (l1StrZ 5 _ 5 0 plnS _ _ _ _ _ _ _ _ (by omega) (by omega) (CA.out.alloc _) (World.ownsRow_lit wa _ 5 (Nat.zero_le _) (by decide) rfl) (by omega)).mono ?_
   rintro e wb ⟨hy, rfl, cc, gc⟩
   have CC : Hid (CurX cs D B ao len cap (belowF cs len 5 s1).2 wb) := cc
   have G := grow_trans (grow_alloc ga _) gc
   have hys := plnS_size _ hy
   have hzz : ((z ++ ⟨#[100, 105, 115, 97, 108, 108, 111, 119, 58, 32]⟩) ++ strF plnS cs len s1 : ByteArray).size + 200 * j + 2 ≤ 200 * n := by (rw [ByteArray.size_append, ByteArray.size_append, h10']; omega)
   clear cc gc ga CA hy
   generalize strF plnS cs len s1 = y at *
   generalize (belowF cs len 5 s1).2 = s3 at *
   have hB2 := CC.out.lt
   go_wp2_with fail
   refine (l1StrZ 3 _ 3 0 eolS _ _ _ _ _ _ _ _ (by omega) (by omega) (CC.out.alloc _) (World.ownsRow_lit wb _ 3 (Nat.zero_le _) (by decide) rfl) (by omega)).mono ?_
   rintro e wd ⟨hy2, rfl, cd, gd⟩
   have CD : Hid (CurX cs D B ao len cap (belowF cs len 3 s3).2 wd) := cd
   have GD := grow_trans (grow_alloc G _) gd
   have hy2s := eolS_size _ hy2
   clear cd gd G CC hy2
   generalize strF eolS cs len s3 = y2 at *
   generalize (belowF cs len 3 s3).2 = s4 at *
   go_wp2_with fail
   go_roundw
   case rel => exact ⟨j, _, s4, by omega, by go_num, rfl, by rw [ByteArray.size_append]; omega, HPN2, CD.out, GD⟩
   case measure => simp [intOf] <;> omega
  have hBa := CA.out.lt
  have HPN2 : Hid (textN cs len j (((z ++ ⟨#[100, 105, 115, 97, 108, 108, 111, 119, 58, 32]⟩) ++ strF plnS cs len s1) ++ strF eolS cs len (belowF cs len 5 s1).2) (belowF cs len 3 (belowF cs len 5 s1).2).2 = textF cs len s) := HPN1.out
  clear HPN1
  go_wp2_with fail
  refine (l1StrZ 5 _ 5 0 plnS _ _ _ _ _ _ _ _ (by omega) (by omega) (CA.out.alloc _) (World.ownsRow_lit wa _ 5 (Nat.zero_le _) (by decide) rfl) (by omega)).mono ?_
  rintro e wb ⟨hy, rfl, cc, gc⟩
  have CC : Hid (CurX cs D B ao len cap (belowF cs len 5 s1).2 wb) := cc
  have G := grow_trans (grow_alloc ga _) gc
  have hys := plnS_size _ hy
  have hzz : ((z ++ ⟨#[100, 105, 115, 97, 108, 108, 111, 119, 58, 32]⟩) ++ strF plnS cs len s1 : ByteArray).size + 200 * j + 2 ≤ 200 * n := by (rw [ByteArray.size_append, ByteArray.size_append, h10']; omega)
  clear cc gc ga CA hy
  generalize strF plnS cs len s1 = y at *
  generalize (belowF cs len 5 s1).2 = s3 at *
  have hB2 := CC.out.lt
  go_wp2_with fail
  refine (l1StrZ 3 _ 3 0 eolS _ _ _ _ _ _ _ _ (by omega) (by omega) (CC.out.alloc _) (World.ownsRow_lit wb _ 3 (Nat.zero_le _) (by decide) rfl) (by omega)).mono ?_
  rintro e wd ⟨hy2, rfl, cd, gd⟩
  have CD : Hid (CurX cs D B ao len cap (belowF cs len 3 s3).2 wd) := cd
  have GD := grow_trans (grow_alloc G _) gd
  have hy2s := eolS_size _ hy2
  clear cd gd G CC hy2
  generalize strF eolS cs len s3 = y2 at *
  generalize (belowF cs len 3 s3).2 = s4 at *
  go_wp2_with fail
  go_roundw
  case rel => exact ⟨j, _, s4, by omega, by go_num, rfl, by rw [ByteArray.size_append]; omega, HPN2, CD.out, GD⟩
  case measure => simp [intOf] <;> omega
 have h0 : k = 0 := by omega
 subst h0
 have HPE : Hid (textF cs len s = (z, s2)) := HPN.out.symm
 go_wp2_with fail
 go_ret
 rw [HPE.out]
 exact ⟨rfl, by show z.size ≤ 1600; omega, HU.out, hgr⟩
theorem Tryd.infoU8x : (Tryd.prog.info? 5).map (fun i => (i.zero, i.size, i.bytes)) = some (some (.int .u8 0), 1, 1) := by kernel_rfl
theorem made_zero (n : Nat) : (madeCells #[Value.int .u8 0] n).toList = bcells (List.replicate n 0) := by
 simp only [madeCells, bcells, Array.toList_map, Array.toList_range, List.map_replicate]
 refine List.ext_getElem (by simp) fun i h1 h2 => ?_
 simp [Nat.mod_one]
def zeroS : ByteArray := ⟨(List.replicate 19970 (0 : UInt8)).toArray⟩
theorem zeroS_size : zeroS.size = 19970 := by
 show (List.replicate 19970 (0 : UInt8)).toArray.size = _
 rw [List.size_toArray, List.length_replicate]
def lateS : ByteArray := ⟨#[10, 117, 115, 101, 114, 45, 97, 103, 101, 110, 116, 58, 32, 42, 10, 100, 105, 115, 97, 108, 108, 111, 119, 58, 32, 47, 97, 98, 99, 100, 101, 102, 103, 104]⟩
def drawF (cs : Nat → Int) (len : Nat) : ByteArray := if ((belowF cs len 60 (textF cs len (0, seedF cs len)).2).1 == 0) = true then zeroS ++ lateS else (textF cs len (0, seedF cs len)).1
theorem drawParseRobotsX (cs : Nat → Int) (ao : Option Addr) (len cap : Nat) (w : World) (hl : len ≤ 1048576) (hcode : CodeX cs w.heap.size w ao len) :
  Calls Tryd.prog 8 #[.slice ao len cap] w fun e w' => e = .returned (.string (drawF cs len)) ∧ (drawF cs len).size ≤ 1048576 ∧ Below w.heap.size w w' := by
 obtain ⟨i0, hi, hz0, hz1, hz2⟩ := info_parts Tryd.infoU8x
 have HI : Hid (Tryd.prog.info? 5 = some i0 ∧ i0.zero = some (.int .u8 0) ∧ i0.size = 1 ∧ i0.bytes = 1) := ⟨hi, hz0, hz1, hz2⟩
 have HCO : Hid (CodeX cs w.heap.size w ao len) := hcode
 clear hi hz0 hz1 hz2 hcode
 have HDF : Hid (drawF cs len = if ((belowF cs len 60 (textF cs len (0, seedF cs len)).2).1 == 0) = true then zeroS ++ lateS else (textF cs len (0, seedF cs len)).1) := rfl
 go_enter Tryd.func8, Tryd.ntmps8
 go_wp2_with fail
 refine (l1NewX _ _ _ _ _ hl HCO.out).mono ?_
 rintro e wa ⟨B, rfl, hB, ca, ba⟩
 have CA : Hid (CurX cs w.heap.size B ao len cap (0, seedF cs len) wa) := ca
 have za := ba.size
 clear ca HCO
 go_wp2_with fail
 refine (l11TextX _ _ _ _ _ _ _ _ CA.out).mono ?_
 rintro e wb ⟨rfl, hx, cb, gb⟩
 have CB : Hid (CurX cs w.heap.size B ao len cap (textF cs len (0, seedF cs len)).2 wb) := cb
 have Bb : Below w.heap.size w wb := ba.grown gb za (fun k hk => by cases hk; exact hB)
 have zb := Bb.size
 clear cb gb ba CA
 generalize (textF cs len (0, seedF cs len)).1 = x at *
 generalize (textF cs len (0, seedF cs len)).2 = s1 at *
 go_wp2_with fail
 refine (l1OnceX 60 _ _ _ _ _ _ _ _ (by omega) (by omega) CB.out).mono ?_
 rintro e wk ⟨rfl, ck, gk⟩
 have Bc : Below w.heap.size w wk := Bb.grown gk zb (fun k hk => by cases hk; exact hB)
 have zc := Bc.size
 clear ck gk Bb CB
 generalize ((belowF cs len 60 s1).1 == 0) = y at *
 cases y with
 | false =>
  have HX : Hid (drawF cs len = x) := by rw [HDF.out, if_neg (by decide)]; rfl
  clear HDF
  go_wp2_with fail
  go_ret
  rw [HX.out]
  exact ⟨rfl, by omega, Bc⟩
 | true =>
  have HX : Hid (drawF cs len = zeroS ++ lateS) := by rw [HDF.out, if_pos rfl]; rfl
  clear HDF
  go_wp2_with (at_make; refine wpList_make_full _ rfl _ _ 22 rfl w.heap.size 5 i0 (.int .u8 0) 1 Tryd.underlying22 HI.out.1 HI.out.2.1 HI.out.2.2.1 _ _ _ _ 19970 rfl rfl (by omega) (by omega) (by rw [HI.out.2.2.2]; omega) (by unfold maxLen; omega) zc ?_)
  intro wm hmo hgm
  have Bm : Below w.heap.size w wm := Bc.grown hgm zc (fun k hk => by cases hk)
  have ho : wm.ownsRow w.heap.size 5 1 (.slice (some ⟨wk.heap.size, 0, none⟩) 19970 19970) (List.replicate 19970 (0 : UInt8)).length (bcells (List.replicate 19970 0)) := by
   rw [← made_zero, List.length_replicate]
   exact hmo
  have HO : (convert 22 9 (.slice (some ⟨wk.heap.size, 0, none⟩) 19970 19970)).run Tryd.prog wm = .ok (.string zeroS) wm := run_string_own (P := Tryd.prog) wm 22 9 5 Tryd.underlying22 Tryd.underlying5 Tryd.underlying9 ho
  have hzs := zeroS_size
  have HPS : Hid ((lateS : ByteArray).size = 34) := rfl
  have HLS : Hid (lateS = ⟨#[10, 117, 115, 101, 114, 45, 97, 103, 101, 110, 116, 58, 32, 42, 10, 100, 105, 115, 97, 108, 108, 111, 119, 58, 32, 47, 97, 98, 99, 100, 101, 102, 103, 104]⟩) := rfl
  have hps : (⟨#[10, 117, 115, 101, 114, 45, 97, 103, 101, 110, 116, 58, 32, 42, 10, 100, 105, 115, 97, 108, 108, 111, 119, 58, 32, 47, 97, 98, 99, 100, 101, 102, 103, 104]⟩ : ByteArray).size = 34 := rfl
  generalize zeroS = Z at *
  clear hmo hgm Bc ho
  go_wp2_with fail
  go_ret
  rw [HX.out, HLS.out]
  exact ⟨rfl, by rw [ByteArray.size_append, hps]; omega, Bm⟩
end Go.Proofs.YtjdnemjcjodboaaDoor
