/- RoundRegion, NumImpl, AdaptImpl, EncImpl, IntMarks, EncBoth, InsImpl, CutImpl, ReadImpl, DecImpl, RuneAtWalk. -/
import Derived.Test.YtidecdlaeomfoaaGreatQA26
import Derived.RegionIn
import Derived.Test.YtidecdlaeomfoaaGreatQA25
set_option maxHeartbeats 4000000
set_option maxRecDepth 100000
namespace Go.Proofs.YtidecdlaeomfoaaGreat
open Go.RowKit
end Go.Proofs.YtidecdlaeomfoaaGreat
namespace Go.Proofs.YtidecdlaeomfoaaGreat
open Go.RowKit Go.Shelf
attribute [local go_sem] Oper.semAt_some
end Go.Proofs.YtidecdlaeomfoaaGreat
namespace Go.Proofs.YtidecdlaeomfoaaGreat
open Go.RowKit
end Go.Proofs.YtidecdlaeomfoaaGreat
namespace Go.Proofs.YtidecdlaeomfoaaGreat
open Go.RowKit Go.Shelf
end Go.Proofs.YtidecdlaeomfoaaGreat
namespace Go.Proofs.YtidecdlaeomfoaaGreat
open Go.RowKit
def InRow (w : World) (ao : Option Addr) (n : Nat) (zl : List Int) : Prop :=
 zl.length = n ∧ (n = 0 ∨ ∃ b off, ao = some ⟨b, off, none⟩ ∧ b < w.heap.size ∧ ∀ i, i < n → w.cell? ⟨b, off + i, none⟩ = some (.int .i64 (zl.getD i 0)))
theorem InRow.below {w w' : World} {ao : Option Addr} {n : Nat} {zl : List Int} (h : InRow w ao n zl) (hb : Below w.heap.size w w') : InRow w' ao n zl := by
 refine ⟨h.1, ?_⟩
 rcases h.2 with h0 | ⟨b, off, h1, h2, h3⟩
 ·exact .inl h0
 exact .inr ⟨b, off, h1, Nat.lt_of_lt_of_le h2 hb.size, fun i hi => (hb.cell (p := ⟨b, off + i, none⟩) h2).trans (h3 i hi)⟩
theorem Tryz.infoInt : (Tryz.prog.info? 3).map (fun i => (i.zero, i.size, i.bytes)) = some (some (.int .i64 0), 1, 8) := by kernel_rfl
theorem specEncAll (l : List Nat) (v : Value) (B : Nat) (w : World) (hk : encOk l = true) (h : w.ownsRow B 3 1 v l.length (icN l)) :
  Calls Tryz.prog 88 #[v] w fun e w' => e = .returned (.tuple #[.string ⟨(b8 (encC l)).toArray⟩, .bool true]) ∧ Below w.heap.size w w' := by
 rcases own_shape h with ⟨h0, _, ao, cap, rfl⟩ | ⟨_, g, cap, rfl⟩
 ·have hl0 : l = [] := List.eq_nil_of_length_eq_zero h0
  subst hl0
  exact specPunyEncode_nil ao cap w
 exact specPunyEncode_yes l l.length g cap B w hk rfl h
end Go.Proofs.YtidecdlaeomfoaaGreat
namespace Go.Proofs.YtidecdlaeomfoaaGreat
open Go.RowKit Go.Shelf
end Go.Proofs.YtidecdlaeomfoaaGreat
namespace Go.Proofs.YtidecdlaeomfoaaGreat
open Go.RowKit Go.Shelf
attribute [local go_sem] Oper.semAt_some
end Go.Proofs.YtidecdlaeomfoaaGreat
namespace Go.Proofs.YtidecdlaeomfoaaGreat
open Go.RowKit Go.Shelf

end Go.Proofs.YtidecdlaeomfoaaGreat
namespace Go.Proofs.YtidecdlaeomfoaaGreat
open Go.RowKit
def accR (s : ByteArray) (p : Nat) (r0 : Int) : Nat → Int
 | 0 => r0
 | m + 1 => accR s p r0 m * 64 + (bt s (p + (m + 1)) : Int) % 64
theorem accR_bound (s : ByteArray) (p : Nat) (r0 : Int) (h0 : 0 ≤ r0) (h1 : r0 < 32) : ∀ m, m ≤ 3 → 0 ≤ accR s p r0 m ∧ accR s p r0 m < 8388608
 | 0, _ => by simp only [accR]; omega
 | 1, _ => by simp only [accR]; omega
 | 2, _ => by simp only [accR]; omega
 | 3, _ => by simp only [accR]; omega
theorem specL1Rune2 (s : ByteArray) (p c : Nat) (w : World) (hp : p < s.size) (hs : s.size ≤ 1099511627776) (hc : s[p].toNat = c) (hb1 : 194 ≤ c) (hb2 : c ≤ 223) :
  Calls Tryz.prog 95 #[.string s, .int .i64 (p : Int)] w fun e w' => e = .returned (.tuple #[.int .i64 (runeAt s p).1, .int .i64 (runeAt s p).2]) ∧ Below w.heap.size w w' := by
 have e0 : bits .and .i64 (c : Int) 31 = (c : Int) % 32 := i64_and31 _ (by omega) (by omega)
 have hbt : bt s p = c := by rw [bt_at s p hp, hc]
 have HBT : Hid (bt s p = c) := hbt
 clear hbt
 by_cases hshort : p + 2 ≤ s.size
 ·have hsh : ¬ ((s.size : Int) < (p : Int) + 2) := by omega
  go_enter Tryz.func95, Tryz.ntmps95
  go_wp2_with fail
  refine (specL1In_yes _ 194 223 _ (by omega) (by omega)).mono ?_
  rintro e w' ⟨rfl, rfl⟩
  go_wp2_with fail
  clear e0
  go_loop [8, 9] (fun r i => ∃ m : Nat, m ≤ 1 ∧ i = .int .i64 ((m : Int) + 1) ∧ r = .int .i64 (accR s p ((c : Int) % 32) m) ∧ ∀ j, j < m → 128 ≤ bt s (p + (j + 1)) ∧ bt s (p + (j + 1)) ≤ 191) (fun _ i => 3 - (intOf i).toNat)
  case atStart => exact ⟨0, by omega, rfl, rfl, fun j h => by omega⟩
  obtain ⟨m, hm, rfl, rfl, hall⟩ := hrel
  have HA : Hid (∀ j, j < m → 128 ≤ bt s (p + (j + 1)) ∧ bt s (p + (j + 1)) ≤ 191) := hall
  clear hall
  have hab := accR_bound s p ((c : Int) % 32) (by omega) (by omega) m (by omega)
  by_cases hlt : m < 1
  ·have hq : p + (m + 1) < s.size := by omega
   obtain ⟨d, hd⟩ : ∃ d : Nat, s[p + (m + 1)].toNat = d := ⟨_, rfl⟩
   have hd255 : d ≤ 255 := by have := s[p + (m + 1)].toNat_lt; omega
   have HD : Hid (bt s (p + (m + 1)) = d) := by show _ = _; rw [bt_at s _ hq, hd]
   have HN : Hid (accR s p ((c : Int) % 32) (m + 1) = accR s p ((c : Int) % 32) m * 64 + (d : Int) % 64) := by show _ = _; rw [accR, HD.out]
   generalize accR s p ((c : Int) % 32) m = a at hab HN ⊢
   obtain ⟨ha0, ha1⟩ := hab
   have e1 : bits .and .i64 (d : Int) 63 = (d : Int) % 64 := i64_and63 _ (by omega) (by omega)
   have e2 : bits .or .i64 (a * 64) ((d : Int) % 64) = a * 64 + (d : Int) % 64 := i64_join 6 _ _ (by omega) (by omega) (by omega) (by omega) (by omega) (by omega)
   by_cases hg : 128 ≤ d ∧ d ≤ 191
   ·obtain ⟨hg1, hg2⟩ := hg
    go_wp2_with fail
    refine (specL1In_yes _ 128 191 _ (by omega) (by omega)).mono ?_
    rintro e w' ⟨rfl, rfl⟩
    go_wp2_with fail
    go_round
    case rel =>
     refine ⟨m + 1, by omega, by go_num, by rw [HN.out], fun j hj => ?_⟩
     by_cases e : j = m
     ·subst e; rw [HD.out]; exact ⟨hg1, hg2⟩
     exact HA.out j (by omega)
    case measure => simp [intOf]; omega
   have HG : Hid (((d : Int) < 128) ∨ (191 : Int) < (d : Int)) := by show _ ∨ _; omega
   have hR := rune2_bad s p (by rw [HBT.out]; omega) (by
    intro hh
    have := HD.out
    have hg' := hg
    obtain rfl : m = 0 := by omega
    all_goals (simp only [Nat.zero_add] at this; omega))
   have HR : Hid (runeAt s p = (0, 0)) := hR
   clear hg hR
   go_wp2_with fail
   refine (specL1In_no _ 128 191 _ HG.out).mono ?_
   rintro e w' ⟨rfl, rfl⟩
   go_wp2_with fail
   go_ret2
   exact ⟨by rw [HR.out]; rfl, Below.refl _ _⟩
  have hme : m = 1 := by omega
  subst hme
  clear hm hlt
  have hr : accR s p ((c : Int) % 32) 1 = (bt s p : Int) % 32 * 64 + (bt s (p + 1) : Int) % 64 := by
   rw [HBT.out]
   simp only [accR, Nat.zero_add]
  have hR := rune2 s p (by rw [HBT.out]; omega) ⟨by omega, (HA.out 0 (by omega)).1, (HA.out 0 (by omega)).2⟩
  rw [← hr] at hR
  have hlo : 128 ≤ accR s p ((c : Int) % 32) 1 := by rw [hr, HBT.out]; omega
  have hhi : accR s p ((c : Int) % 32) 1 ≤ 2047 := by rw [hr, HBT.out]; omega
  generalize accR s p ((c : Int) % 32) 1 = r at hR hlo hhi ⊢
  have HR : Hid (runeAt s p = (r, 2)) := hR
  clear hR hr hab
  go_wp2_with fail
  refine (specL1IsRune_yes r _ ⟨by omega, by omega, by omega⟩).mono ?_
  rintro e w' ⟨rfl, rfl⟩
  go_wp2_with fail
  go_ret2
  exact ⟨by rw [HR.out]; rfl, (Below.refl _ _).alloc (Nat.le_refl _) _⟩
 have hR := rune2_bad s p (by rw [HBT.out]; omega) (by omega)
 have HR : Hid (runeAt s p = (0, 0)) := hR
 clear hR
 go_enter Tryz.func95, Tryz.ntmps95
 go_wp2_with fail
 refine (specL1In_yes _ 194 223 _ (by omega) (by omega)).mono ?_
 rintro e w' ⟨rfl, rfl⟩
 go_wp2_with fail
 go_ret2
 exact ⟨by rw [HR.out]; rfl, Below.refl _ _⟩
theorem specL1Rune3 (s : ByteArray) (p c : Nat) (w : World) (hp : p < s.size) (hs : s.size ≤ 1099511627776) (hc : s[p].toNat = c) (hb1 : 224 ≤ c) (hb2 : c ≤ 239) :
  Calls Tryz.prog 95 #[.string s, .int .i64 (p : Int)] w fun e w' => e = .returned (.tuple #[.int .i64 (runeAt s p).1, .int .i64 (runeAt s p).2]) ∧ Below w.heap.size w w' := by
 have e0 : bits .and .i64 (c : Int) 15 = (c : Int) % 16 := i64_and15 _ (by omega) (by omega)
 have hbt : bt s p = c := by rw [bt_at s p hp, hc]
 have HBT : Hid (bt s p = c) := hbt
 clear hbt
 by_cases hshort : p + 3 ≤ s.size
 ·have hsh : ¬ ((s.size : Int) < (p : Int) + 3) := by omega
  go_enter Tryz.func95, Tryz.ntmps95
  go_wp2_with fail
  refine (specL1In_no _ 194 223 _ (.inr (by omega))).mono ?_
  rintro e w' ⟨rfl, rfl⟩
  go_wp2_with fail
  refine (specL1In_yes _ 224 239 _ (by omega) (by omega)).mono ?_
  rintro e w' ⟨rfl, rfl⟩
  go_wp2_with fail
  clear e0
  go_loop [8, 9] (fun r i => ∃ m : Nat, m ≤ 2 ∧ i = .int .i64 ((m : Int) + 1) ∧ r = .int .i64 (accR s p ((c : Int) % 16) m) ∧ ∀ j, j < m → 128 ≤ bt s (p + (j + 1)) ∧ bt s (p + (j + 1)) ≤ 191) (fun _ i => 4 - (intOf i).toNat)
  case atStart => exact ⟨0, by omega, rfl, rfl, fun j h => by omega⟩
  obtain ⟨m, hm, rfl, rfl, hall⟩ := hrel
  have HA : Hid (∀ j, j < m → 128 ≤ bt s (p + (j + 1)) ∧ bt s (p + (j + 1)) ≤ 191) := hall
  clear hall
  have hab := accR_bound s p ((c : Int) % 16) (by omega) (by omega) m (by omega)
  by_cases hlt : m < 2
  ·have hq : p + (m + 1) < s.size := by omega
   obtain ⟨d, hd⟩ : ∃ d : Nat, s[p + (m + 1)].toNat = d := ⟨_, rfl⟩
   have hd255 : d ≤ 255 := by have := s[p + (m + 1)].toNat_lt; omega
   have HD : Hid (bt s (p + (m + 1)) = d) := by show _ = _; rw [bt_at s _ hq, hd]
   have HN : Hid (accR s p ((c : Int) % 16) (m + 1) = accR s p ((c : Int) % 16) m * 64 + (d : Int) % 64) := by show _ = _; rw [accR, HD.out]
   generalize accR s p ((c : Int) % 16) m = a at hab HN ⊢
   obtain ⟨ha0, ha1⟩ := hab
   have e1 : bits .and .i64 (d : Int) 63 = (d : Int) % 64 := i64_and63 _ (by omega) (by omega)
   have e2 : bits .or .i64 (a * 64) ((d : Int) % 64) = a * 64 + (d : Int) % 64 := i64_join 6 _ _ (by omega) (by omega) (by omega) (by omega) (by omega) (by omega)
   by_cases hg : 128 ≤ d ∧ d ≤ 191
   ·obtain ⟨hg1, hg2⟩ := hg
    go_wp2_with fail
    refine (specL1In_yes _ 128 191 _ (by omega) (by omega)).mono ?_
    rintro e w' ⟨rfl, rfl⟩
    go_wp2_with fail
    go_round
    case rel =>
     refine ⟨m + 1, by omega, by go_num, by rw [HN.out], fun j hj => ?_⟩
     by_cases e : j = m
     ·subst e; rw [HD.out]; exact ⟨hg1, hg2⟩
     exact HA.out j (by omega)
    case measure => simp [intOf]; omega
   have HG : Hid (((d : Int) < 128) ∨ (191 : Int) < (d : Int)) := by show _ ∨ _; omega
   have hR := rune3_bad s p (by rw [HBT.out]; omega) (by
    intro hh
    have := HD.out
    have hg' := hg
    rcases (show m = 0 ∨ m = 1 by omega) with rfl | rfl
    all_goals (simp only [Nat.zero_add, Nat.reduceAdd] at this; omega))
   have HR : Hid (runeAt s p = (0, 0)) := hR
   clear hg hR
   go_wp2_with fail
   refine (specL1In_no _ 128 191 _ HG.out).mono ?_
   rintro e w' ⟨rfl, rfl⟩
   go_wp2_with fail
   go_ret2
   exact ⟨by rw [HR.out]; rfl, Below.refl _ _⟩
  have hme : m = 2 := by omega
  subst hme
  clear hm hlt
  have hr : accR s p ((c : Int) % 16) 2 = (bt s p : Int) % 16 * 4096 + (bt s (p + 1) : Int) % 64 * 64 + (bt s (p + 2) : Int) % 64 := by
   rw [HBT.out]
   simp only [accR, Nat.zero_add, Nat.reduceAdd]
   omega
  have hR := rune3 s p (accR s p ((c : Int) % 16) 2) (by rw [HBT.out]; omega) ⟨by omega, (HA.out 0 (by omega)).1, (HA.out 0 (by omega)).2, by omega, (HA.out 1 (by omega)).1, (HA.out 1 (by omega)).2⟩ hr
  have hhi : accR s p ((c : Int) % 16) 2 ≤ 65535 := by rw [hr, HBT.out]; omega
  generalize accR s p ((c : Int) % 16) 2 = r at hR hab hhi ⊢
  obtain ⟨ha0, ha1⟩ := hab
  clear hr
  by_cases hl : r < 2048
  ·rw [if_pos (.inl hl)] at hR
   have HR : Hid (runeAt s p = (0, 0)) := hR
   clear hR
   go_wp2_with fail
   go_ret2
   exact ⟨by rw [HR.out]; rfl, (Below.refl _ _).alloc (Nat.le_refl _) _⟩
  by_cases hg : ¬ (r < 55296 ∨ 57343 < r)
  ·rw [if_pos (.inr hg)] at hR
   have HR : Hid (runeAt s p = (0, 0)) := hR
   have HG : Hid (¬ runeOk r) := by show ¬ _; unfold runeOk; omega
   clear hR hg
   go_wp2_with fail
   refine (specL1IsRune_no r _ HG.out).mono ?_
   rintro e w' ⟨rfl, rfl⟩
   go_wp2_with fail
   go_ret2
   exact ⟨by rw [HR.out]; rfl, (Below.refl _ _).alloc (Nat.le_refl _) _⟩
  rw [if_neg (by omega)] at hR
  have HR : Hid (runeAt s p = (r, 3)) := hR
  have HG : Hid (runeOk r) := by show runeOk r; unfold runeOk; omega
  clear hR hg
  go_wp2_with fail
  refine (specL1IsRune_yes r _ HG.out).mono ?_
  rintro e w' ⟨rfl, rfl⟩
  go_wp2_with fail
  go_ret2
  exact ⟨by rw [HR.out]; rfl, (Below.refl _ _).alloc (Nat.le_refl _) _⟩
 have hR := rune3_bad s p (by rw [HBT.out]; omega) (by omega)
 have HR : Hid (runeAt s p = (0, 0)) := hR
 clear hR
 go_enter Tryz.func95, Tryz.ntmps95
 go_wp2_with fail
 refine (specL1In_no _ 194 223 _ (.inr (by omega))).mono ?_
 rintro e w' ⟨rfl, rfl⟩
 go_wp2_with fail
 refine (specL1In_yes _ 224 239 _ (by omega) (by omega)).mono ?_
 rintro e w' ⟨rfl, rfl⟩
 go_wp2_with fail
 go_ret2
 exact ⟨by rw [HR.out]; rfl, Below.refl _ _⟩
theorem specL1Rune4 (s : ByteArray) (p c : Nat) (w : World) (hp : p < s.size) (hs : s.size ≤ 1099511627776) (hc : s[p].toNat = c) (hb1 : 240 ≤ c) (hb2 : c ≤ 244) :
  Calls Tryz.prog 95 #[.string s, .int .i64 (p : Int)] w fun e w' => e = .returned (.tuple #[.int .i64 (runeAt s p).1, .int .i64 (runeAt s p).2]) ∧ Below w.heap.size w w' := by
 have e0 : bits .and .i64 (c : Int) 7 = (c : Int) % 8 := i64_and7 _ (by omega) (by omega)
 have hbt : bt s p = c := by rw [bt_at s p hp, hc]
 have HBT : Hid (bt s p = c) := hbt
 clear hbt
 by_cases hshort : p + 4 ≤ s.size
 ·have hsh : ¬ ((s.size : Int) < (p : Int) + 4) := by omega
  go_enter Tryz.func95, Tryz.ntmps95
  go_wp2_with fail
  refine (specL1In_no _ 194 223 _ (.inr (by omega))).mono ?_
  rintro e w' ⟨rfl, rfl⟩
  go_wp2_with fail
  refine (specL1In_no _ 224 239 _ (.inr (by omega))).mono ?_
  rintro e w' ⟨rfl, rfl⟩
  go_wp2_with fail
  refine (specL1In_yes _ 240 244 _ (by omega) (by omega)).mono ?_
  rintro e w' ⟨rfl, rfl⟩
  go_wp2_with fail
  clear e0
  go_loop [8, 9] (fun r i => ∃ m : Nat, m ≤ 3 ∧ i = .int .i64 ((m : Int) + 1) ∧ r = .int .i64 (accR s p ((c : Int) % 8) m) ∧ ∀ j, j < m → 128 ≤ bt s (p + (j + 1)) ∧ bt s (p + (j + 1)) ≤ 191) (fun _ i => 5 - (intOf i).toNat)
  case atStart => exact ⟨0, by omega, rfl, rfl, fun j h => by omega⟩
  obtain ⟨m, hm, rfl, rfl, hall⟩ := hrel
  have HA : Hid (∀ j, j < m → 128 ≤ bt s (p + (j + 1)) ∧ bt s (p + (j + 1)) ≤ 191) := hall
  clear hall
  have hab := accR_bound s p ((c : Int) % 8) (by omega) (by omega) m (by omega)
  by_cases hlt : m < 3
  ·have hq : p + (m + 1) < s.size := by omega
   obtain ⟨d, hd⟩ : ∃ d : Nat, s[p + (m + 1)].toNat = d := ⟨_, rfl⟩
   have hd255 : d ≤ 255 := by have := s[p + (m + 1)].toNat_lt; omega
   have HD : Hid (bt s (p + (m + 1)) = d) := by show _ = _; rw [bt_at s _ hq, hd]
   have HN : Hid (accR s p ((c : Int) % 8) (m + 1) = accR s p ((c : Int) % 8) m * 64 + (d : Int) % 64) := by show _ = _; rw [accR, HD.out]
   generalize accR s p ((c : Int) % 8) m = a at hab HN ⊢
   obtain ⟨ha0, ha1⟩ := hab
   have e1 : bits .and .i64 (d : Int) 63 = (d : Int) % 64 := i64_and63 _ (by omega) (by omega)
   have e2 : bits .or .i64 (a * 64) ((d : Int) % 64) = a * 64 + (d : Int) % 64 := i64_join 6 _ _ (by omega) (by omega) (by omega) (by omega) (by omega) (by omega)
   by_cases hg : 128 ≤ d ∧ d ≤ 191
   ·obtain ⟨hg1, hg2⟩ := hg
    go_wp2_with fail
    refine (specL1In_yes _ 128 191 _ (by omega) (by omega)).mono ?_
    rintro e w' ⟨rfl, rfl⟩
    go_wp2_with fail
    go_round
    case rel =>
     refine ⟨m + 1, by omega, by go_num, by rw [HN.out], fun j hj => ?_⟩
     by_cases e : j = m
     ·subst e; rw [HD.out]; exact ⟨hg1, hg2⟩
     exact HA.out j (by omega)
    case measure => simp [intOf]; omega
   have HG : Hid (((d : Int) < 128) ∨ (191 : Int) < (d : Int)) := by show _ ∨ _; omega
   have hR := rune4_bad s p (by rw [HBT.out]; omega) (by
    intro hh
    have := HD.out
    have hg' := hg
    rcases (show m = 0 ∨ m = 1 ∨ m = 2 by omega) with rfl | rfl | rfl
    all_goals (simp only [Nat.zero_add, Nat.reduceAdd] at this; omega))
   have HR : Hid (runeAt s p = (0, 0)) := hR
   clear hg hR
   go_wp2_with fail
   refine (specL1In_no _ 128 191 _ HG.out).mono ?_
   rintro e w' ⟨rfl, rfl⟩
   go_wp2_with fail
   go_ret2
   exact ⟨by rw [HR.out]; rfl, Below.refl _ _⟩
  have hme : m = 3 := by omega
  subst hme
  clear hm hlt
  have hr : accR s p ((c : Int) % 8) 3 = (bt s p : Int) % 8 * 262144 + (bt s (p + 1) : Int) % 64 * 4096 + (bt s (p + 2) : Int) % 64 * 64 + (bt s (p + 3) : Int) % 64 := by
   rw [HBT.out]
   simp only [accR, Nat.zero_add, Nat.reduceAdd]
   omega
  have hR := rune4 s p (accR s p ((c : Int) % 8) 3) (by rw [HBT.out]; omega) ⟨by omega, (HA.out 0 (by omega)).1, (HA.out 0 (by omega)).2, by omega, (HA.out 1 (by omega)).1, (HA.out 1 (by omega)).2, by omega, (HA.out 2 (by omega)).1, (HA.out 2 (by omega)).2⟩ hr
  have hhi : accR s p ((c : Int) % 8) 3 ≤ 2097151 := by rw [hr, HBT.out]; omega
  generalize accR s p ((c : Int) % 8) 3 = r at hR hab hhi ⊢
  obtain ⟨ha0, ha1⟩ := hab
  clear hr
  by_cases hl : r < 65536
  ·rw [if_pos (.inl hl)] at hR
   have HR : Hid (runeAt s p = (0, 0)) := hR
   clear hR
   go_wp2_with fail
   go_ret2
   exact ⟨by rw [HR.out]; rfl, (Below.refl _ _).alloc (Nat.le_refl _) _⟩
  by_cases hg : ¬ r ≤ 1114111
  ·rw [if_pos (.inr hg)] at hR
   have HR : Hid (runeAt s p = (0, 0)) := hR
   have HG : Hid (¬ runeOk r) := by show ¬ _; unfold runeOk; omega
   clear hR hg
   go_wp2_with fail
   refine (specL1IsRune_no r _ HG.out).mono ?_
   rintro e w' ⟨rfl, rfl⟩
   go_wp2_with fail
   go_ret2
   exact ⟨by rw [HR.out]; rfl, (Below.refl _ _).alloc (Nat.le_refl _) _⟩
  rw [if_neg (by omega)] at hR
  have HR : Hid (runeAt s p = (r, 4)) := hR
  have HG : Hid (runeOk r) := by show runeOk r; unfold runeOk; omega
  clear hR hg
  go_wp2_with fail
  refine (specL1IsRune_yes r _ HG.out).mono ?_
  rintro e w' ⟨rfl, rfl⟩
  go_wp2_with fail
  go_ret2
  exact ⟨by rw [HR.out]; rfl, (Below.refl _ _).alloc (Nat.le_refl _) _⟩
 have hR := rune4_bad s p (by rw [HBT.out]; omega) (by omega)
 have HR : Hid (runeAt s p = (0, 0)) := hR
 clear hR
 go_enter Tryz.func95, Tryz.ntmps95
 go_wp2_with fail
 refine (specL1In_no _ 194 223 _ (.inr (by omega))).mono ?_
 rintro e w' ⟨rfl, rfl⟩
 go_wp2_with fail
 refine (specL1In_no _ 224 239 _ (.inr (by omega))).mono ?_
 rintro e w' ⟨rfl, rfl⟩
 go_wp2_with fail
 refine (specL1In_yes _ 240 244 _ (by omega) (by omega)).mono ?_
 rintro e w' ⟨rfl, rfl⟩
 go_wp2_with fail
 go_ret2
 exact ⟨by rw [HR.out]; rfl, Below.refl _ _⟩
theorem specL1Rune1 (s : ByteArray) (p c : Nat) (w : World) (hp : p < s.size) (_hs : s.size ≤ 1099511627776) (hc : s[p].toNat = c) (hb : c < 128) :
  Calls Tryz.prog 95 #[.string s, .int .i64 (p : Int)] w fun e w' => e = .returned (.tuple #[.int .i64 (runeAt s p).1, .int .i64 (runeAt s p).2]) ∧ Below w.heap.size w w' := by
 have hR := rune1 s p (by rw [bt_at s p hp, hc]; omega)
 rw [bt_at s p hp, hc] at hR
 have HR : Hid (runeAt s p = ((c : Int), 1)) := hR
 clear hR
 go_enter Tryz.func95, Tryz.ntmps95
 go_wp2_with fail
 go_ret2
 exact ⟨by rw [HR.out]; rfl, Below.refl _ _⟩
theorem specL1Rune0 (s : ByteArray) (p c : Nat) (w : World) (hp : p < s.size) (_hs : s.size ≤ 1099511627776) (hc : s[p].toNat = c) (hb : 128 ≤ c) (hb2 : c < 194 ∨ 244 < c) :
  Calls Tryz.prog 95 #[.string s, .int .i64 (p : Int)] w fun e w' => e = .returned (.tuple #[.int .i64 (runeAt s p).1, .int .i64 (runeAt s p).2]) ∧ Below w.heap.size w w' := by
 have hR := rune0 s p (by rw [bt_at s p hp, hc]; omega) (by rw [bt_at s p hp, hc]; omega)
 have HR : Hid (runeAt s p = (0, 0)) := hR
 have h255 : c ≤ 255 := by have := s[p].toNat_lt; omega
 have HB : Hid (c < 194 ∨ 244 < c) := hb2
 clear hR hb2
 go_enter Tryz.func95, Tryz.ntmps95
 go_wp2_with fail
 refine (specL1In_no _ 194 223 _ (by have := HB.out; omega)).mono ?_
 rintro e w' ⟨rfl, rfl⟩
 go_wp2_with fail
 refine (specL1In_no _ 224 239 _ (by have := HB.out; omega)).mono ?_
 rintro e w' ⟨rfl, rfl⟩
 go_wp2_with fail
 refine (specL1In_no _ 240 244 _ (by have := HB.out; omega)).mono ?_
 rintro e w' ⟨rfl, rfl⟩
 go_wp2_with fail
 go_ret2
 exact ⟨by rw [HR.out]; rfl, Below.refl _ _⟩
theorem specL1Rune (s : ByteArray) (p : Nat) (w : World) (hp : p < s.size) (hs : s.size ≤ 1099511627776) :
  Calls Tryz.prog 95 #[.string s, .int .i64 (p : Int)] w fun e w' => e = .returned (.tuple #[.int .i64 (runeAt s p).1, .int .i64 (runeAt s p).2]) ∧ Below w.heap.size w w' := by
 by_cases h1 : s[p].toNat < 128
 ·exact specL1Rune1 s p _ w hp hs rfl h1
 by_cases h2 : 194 ≤ s[p].toNat ∧ s[p].toNat ≤ 223
 ·exact specL1Rune2 s p _ w hp hs rfl h2.1 h2.2
 by_cases h3 : 224 ≤ s[p].toNat ∧ s[p].toNat ≤ 239
 ·exact specL1Rune3 s p _ w hp hs rfl h3.1 h3.2
 by_cases h4 : 240 ≤ s[p].toNat ∧ s[p].toNat ≤ 244
 ·exact specL1Rune4 s p _ w hp hs rfl h4.1 h4.2
 exact specL1Rune0 s p _ w hp hs rfl (by omega) (by omega)
end Go.Proofs.YtidecdlaeomfoaaGreat
