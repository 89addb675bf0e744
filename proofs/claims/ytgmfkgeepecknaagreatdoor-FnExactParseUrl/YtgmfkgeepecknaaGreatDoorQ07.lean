/- RuneOk, PutWalk, PutRunesWalk, RunesPlain, RunesBack, PunyPlain. -/
import Derived.Lib.RuneBytes
import Derived.Deep.QuietTactic
import Derived.Lib.TrimUEq
import Derived.Lib.MapLaws
import Derived.Lib.ValidLaws
import Derived.Lib.RuneCount
import Derived.Test.YtgmfkgeepecknaaGreatDoorQ06
set_option maxHeartbeats 400000
namespace Go.Proofs.YtgmfkgeepecknaaGreatDoor
open Go.RowKit
def runeOk (r : Int) : Prop := 0 ≤ r ∧ r ≤ 1114111 ∧ (r < 55296 ∨ 57343 < r)
theorem specL1IsRune_yes (r : Int) (w : World) (h : runeOk r) :
  Calls Tryz.prog 198 #[.int .i64 r] w fun e w' => e = .returned (.bool true) ∧ w = w' := by
 obtain ⟨h0, h1, h2⟩ := h
 have H2 : Hid (r < 55296 ∨ 57343 < r) := h2
 clear h2
 go_enter Tryz.func198, Tryz.ntmps198
 go_wp2_with fail
 refine (specL1In_yes r 0 1114111 _ h0 h1).mono ?_
 rintro e w' ⟨rfl, rfl⟩
 go_wp2_with fail
 refine (specL1In_no r 55296 57343 _ H2.out).mono ?_
 rintro e w' ⟨rfl, rfl⟩
 go_wp2
 go_ret
 exact ⟨rfl, rfl⟩
theorem specL1IsRune_no (r : Int) (w : World) (h : ¬ runeOk r) :
  Calls Tryz.prog 198 #[.int .i64 r] w fun e w' => e = .returned (.bool false) ∧ w = w' := by
 unfold runeOk at h
 by_cases a : 0 ≤ r ∧ r ≤ 1114111
 ·obtain ⟨h0, h1⟩ := a
  have h2 : 55296 ≤ r ∧ r ≤ 57343 := by omega
  clear h
  go_enter Tryz.func198, Tryz.ntmps198
  go_wp2_with fail
  refine (specL1In_yes r 0 1114111 _ h0 h1).mono ?_
  rintro e w' ⟨rfl, rfl⟩
  go_wp2_with fail
  refine (specL1In_yes r 55296 57343 _ h2.1 h2.2).mono ?_
  rintro e w' ⟨rfl, rfl⟩
  go_wp2
  go_ret
  exact ⟨rfl, rfl⟩
 have H : Hid (r < 0 ∨ 1114111 < r) := by show _ ∨ _; omega
 clear h a
 go_enter Tryz.func198, Tryz.ntmps198
 go_wp2_with fail
 refine (specL1In_no r 0 1114111 _ H.out).mono ?_
 rintro e w' ⟨rfl, rfl⟩
 go_wp2
 go_ret
 exact ⟨rfl, rfl⟩

def encAll (l : List Int) : List UInt8 := l.flatMap Lib.encodeRune
theorem encAll_snoc (l : List Int) (r : Int) : encAll (l ++ [r]) = encAll l ++ Lib.encodeRune r := by simp [encAll]
def allOk (l : List Int) : Prop := ∀ r ∈ l, runeOk r
end Go.Proofs.YtgmfkgeepecknaaGreatDoor
namespace Go.Proofs.YtgmfkgeepecknaaGreatDoor
abbrev okAt (s : ByteArray) (p : Nat) : Prop := ¬ ((Utf8.decode s p).1 = 65533 ∧ (Utf8.decode s p).2 = 1)
def runeAt (s : ByteArray) (p : Nat) : Int × Int := if okAt s p then ((Utf8.decode s p).1, (Utf8.decode s p).2) else (0, 0)
def bt (s : ByteArray) (p : Nat) : Nat := (s.get! p).toNat
theorem bt_at (s : ByteArray) (p : Nat) (h : p < s.size) : bt s p = s[p].toNat := by
 unfold bt
 have := get_at s p h
 simp only [Nat.add_zero] at this
 rw [this]
theorem bt_lt (s : ByteArray) (p : Nat) : bt s p < 256 := (s.get! p).toNat_lt
theorem runeAt_ok {s : ByteArray} {p c n : Nat} (h : Utf8.decode s p = (c, n)) (h' : ¬ (c = 65533 ∧ n = 1)) : runeAt s p = ((c : Int), (n : Int)) := by
 unfold runeAt
 rw [if_pos (show okAt s p by unfold okAt; rw [h]; exact h'), h]
theorem runeAt_bad {s : ByteArray} {p : Nat} (h : Utf8.decode s p = (65533, 1)) : runeAt s p = (0, 0) := by
 unfold runeAt
 rw [if_neg (by unfold okAt; rw [h]; simp)]
theorem rune1 (s : ByteArray) (p : Nat) (h : bt s p < 128) : runeAt s p = ((bt s p : Int), 1) := by
 refine runeAt_ok (c := bt s p) (n := 1) ?_ (by omega)
 rw [Lib.decode_at]
 unfold bt at h
 unfold Lib.decodeN bt
 rw [if_pos h]
theorem rune0 (s : ByteArray) (p : Nat) (h : 128 ≤ bt s p) (h2 : ¬ (194 ≤ bt s p ∧ bt s p ≤ 244)) : runeAt s p = (0, 0) := by
 refine runeAt_bad ?_
 have hl := bt_lt s p
 have l1 := bt_lt s (p + 1); have l2 := bt_lt s (p + 2); have l3 := bt_lt s (p + 3)
 rw [Lib.decode_at]
 unfold bt at h h2 hl l1 l2 l3
 unfold Lib.decodeN
 generalize (s.get! p).toNat = b0 at *
 generalize (s.get! (p + 1)).toNat = b1 at *
 generalize (s.get! (p + 2)).toNat = b2 at *
 generalize (s.get! (p + 3)).toNat = b3 at *
 rw [if_neg (by omega)]
 split
 ·rw [if_neg (by omega)]
 rw [if_neg (by omega)]
 split
 ·rw [if_neg (by omega)]
 rfl
theorem rune2_bad (s : ByteArray) (p : Nat) (h : 194 ≤ bt s p ∧ bt s p ≤ 223) (hb : ¬ (p + 1 < s.size ∧ 128 ≤ bt s (p + 1) ∧ bt s (p + 1) ≤ 191)) : runeAt s p = (0, 0) := by
 refine runeAt_bad ?_
 have l1 := bt_lt s (p + 1)
 rw [Lib.decode_at]
 unfold bt at h hb l1
 unfold Lib.decodeN
 generalize (s.get! p).toNat = b0 at *
 generalize (s.get! (p + 1)).toNat = b1 at *
 generalize (s.get! (p + 2)).toNat = b2 at *
 generalize (s.get! (p + 3)).toNat = b3 at *
 rw [if_neg (by omega), if_neg (by omega), if_neg (by omega), if_neg (by omega)]
theorem rune2 (s : ByteArray) (p : Nat) (h : 194 ≤ bt s p ∧ bt s p ≤ 223) (hb : p + 1 < s.size ∧ 128 ≤ bt s (p + 1) ∧ bt s (p + 1) ≤ 191) :
  runeAt s p = ((bt s p : Int) % 32 * 64 + (bt s (p + 1) : Int) % 64, 2) := by
 have e : Utf8.decode s p = (bt s p % 32 * 64 + bt s (p + 1) % 64, 2) := by
  rw [Lib.decode_at]
  unfold bt at h hb ⊢
  unfold Lib.decodeN
  generalize (s.get! p).toNat = b0 at *
  generalize (s.get! (p + 1)).toNat = b1 at *
  generalize (s.get! (p + 2)).toNat = b2 at *
  generalize (s.get! (p + 3)).toNat = b3 at *
  rw [if_neg (by omega), if_pos (by omega), if_pos (by omega)]
 rw [runeAt_ok e (by omega)]
 simp
theorem rune3_bad (s : ByteArray) (p : Nat) (h : 224 ≤ bt s p ∧ bt s p ≤ 239) (hb : ¬ (p + 1 < s.size ∧ 128 ≤ bt s (p + 1) ∧ bt s (p + 1) ≤ 191 ∧ p + 2 < s.size ∧ 128 ≤ bt s (p + 2) ∧ bt s (p + 2) ≤ 191)) : runeAt s p = (0, 0) := by
 refine runeAt_bad ?_
 have l1 := bt_lt s (p + 1); have l2 := bt_lt s (p + 2)
 rw [Lib.decode_at]
 unfold bt at h hb l1 l2
 unfold Lib.decodeN
 generalize (s.get! p).toNat = b0 at *
 generalize (s.get! (p + 1)).toNat = b1 at *
 generalize (s.get! (p + 2)).toNat = b2 at *
 generalize (s.get! (p + 3)).toNat = b3 at *
 rw [if_neg (by omega), if_neg (by omega), if_neg (by omega), if_neg (by omega)]
theorem rune3 (s : ByteArray) (p : Nat) (r : Int) (h : 224 ≤ bt s p ∧ bt s p ≤ 239) (hb : p + 1 < s.size ∧ 128 ≤ bt s (p + 1) ∧ bt s (p + 1) ≤ 191 ∧ p + 2 < s.size ∧ 128 ≤ bt s (p + 2) ∧ bt s (p + 2) ≤ 191)
  (hr : r = (bt s p : Int) % 16 * 4096 + (bt s (p + 1) : Int) % 64 * 64 + (bt s (p + 2) : Int) % 64) :
  runeAt s p = if r < 2048 ∨ ¬ (r < 55296 ∨ 57343 < r) then (0, 0) else (r, 3) := by
 have e : Utf8.decode s p = if bt s p % 16 * 4096 + bt s (p + 1) % 64 * 64 + bt s (p + 2) % 64 ≥ 2048 ∧ (bt s p % 16 * 4096 + bt s (p + 1) % 64 * 64 + bt s (p + 2) % 64 < 55296 ∨ 57344 ≤ bt s p % 16 * 4096 + bt s (p + 1) % 64 * 64 + bt s (p + 2) % 64) then (bt s p % 16 * 4096 + bt s (p + 1) % 64 * 64 + bt s (p + 2) % 64, 3) else (65533, 1) := by
  rw [Lib.decode_at]
  unfold bt at h hb ⊢
  unfold Lib.decodeN
  generalize (s.get! p).toNat = b0 at *
  generalize (s.get! (p + 1)).toNat = b1 at *
  generalize (s.get! (p + 2)).toNat = b2 at *
  generalize (s.get! (p + 3)).toNat = b3 at *
  rw [if_neg (by omega), if_neg (by omega), if_pos (by omega)]
  by_cases hx : b0 % 16 * 4096 + b1 % 64 * 64 + b2 % 64 ≥ 2048 ∧ (b0 % 16 * 4096 + b1 % 64 * 64 + b2 % 64 < 55296 ∨ 57344 ≤ b0 % 16 * 4096 + b1 % 64 * 64 + b2 % 64)
  ·rw [if_pos hx, if_pos (by omega)]
  rw [if_neg hx, if_neg (by omega)]
 generalize hc : bt s p % 16 * 4096 + bt s (p + 1) % 64 * 64 + bt s (p + 2) % 64 = c at e
 have hrc : r = (c : Int) := by omega
 by_cases hx : c ≥ 2048 ∧ (c < 55296 ∨ 57344 ≤ c)
 ·rw [if_pos hx] at e
  rw [runeAt_ok e (by omega), if_neg (by omega), hrc]
  rfl
 rw [if_neg hx] at e
 rw [runeAt_bad e, if_pos (by omega)]
theorem rune4_bad (s : ByteArray) (p : Nat) (h : 240 ≤ bt s p ∧ bt s p ≤ 244) (hb : ¬ (p + 1 < s.size ∧ 128 ≤ bt s (p + 1) ∧ bt s (p + 1) ≤ 191 ∧ p + 2 < s.size ∧ 128 ≤ bt s (p + 2) ∧ bt s (p + 2) ≤ 191 ∧ p + 3 < s.size ∧ 128 ≤ bt s (p + 3) ∧ bt s (p + 3) ≤ 191)) : runeAt s p = (0, 0) := by
 refine runeAt_bad ?_
 have l1 := bt_lt s (p + 1); have l2 := bt_lt s (p + 2); have l3 := bt_lt s (p + 3)
 rw [Lib.decode_at]
 unfold bt at h hb l1 l2 l3
 unfold Lib.decodeN
 generalize (s.get! p).toNat = b0 at *
 generalize (s.get! (p + 1)).toNat = b1 at *
 generalize (s.get! (p + 2)).toNat = b2 at *
 generalize (s.get! (p + 3)).toNat = b3 at *
 rw [if_neg (by omega), if_neg (by omega), if_neg (by omega), if_neg (by omega)]
theorem rune4 (s : ByteArray) (p : Nat) (r : Int) (h : 240 ≤ bt s p ∧ bt s p ≤ 244) (hb : p + 1 < s.size ∧ 128 ≤ bt s (p + 1) ∧ bt s (p + 1) ≤ 191 ∧ p + 2 < s.size ∧ 128 ≤ bt s (p + 2) ∧ bt s (p + 2) ≤ 191 ∧ p + 3 < s.size ∧ 128 ≤ bt s (p + 3) ∧ bt s (p + 3) ≤ 191)
  (hr : r = (bt s p : Int) % 8 * 262144 + (bt s (p + 1) : Int) % 64 * 4096 + (bt s (p + 2) : Int) % 64 * 64 + (bt s (p + 3) : Int) % 64) :
  runeAt s p = if r < 65536 ∨ ¬ r ≤ 1114111 then (0, 0) else (r, 4) := by
 have e : Utf8.decode s p = if bt s p % 8 * 262144 + bt s (p + 1) % 64 * 4096 + bt s (p + 2) % 64 * 64 + bt s (p + 3) % 64 ≥ 65536 ∧ bt s p % 8 * 262144 + bt s (p + 1) % 64 * 4096 + bt s (p + 2) % 64 * 64 + bt s (p + 3) % 64 ≤ 1114111 then (bt s p % 8 * 262144 + bt s (p + 1) % 64 * 4096 + bt s (p + 2) % 64 * 64 + bt s (p + 3) % 64, 4) else (65533, 1) := by
  rw [Lib.decode_at]
  unfold bt at h hb ⊢
  unfold Lib.decodeN
  generalize (s.get! p).toNat = b0 at *
  generalize (s.get! (p + 1)).toNat = b1 at *
  generalize (s.get! (p + 2)).toNat = b2 at *
  generalize (s.get! (p + 3)).toNat = b3 at *
  rw [if_neg (by omega), if_neg (by omega), if_neg (by omega), if_pos (by omega)]
  by_cases hx : b0 % 8 * 262144 + b1 % 64 * 4096 + b2 % 64 * 64 + b3 % 64 ≥ 65536 ∧ b0 % 8 * 262144 + b1 % 64 * 4096 + b2 % 64 * 64 + b3 % 64 ≤ 1114111
  ·rw [if_pos hx, if_pos (by omega)]
  rw [if_neg hx, if_neg (by omega)]
 generalize hc : bt s p % 8 * 262144 + bt s (p + 1) % 64 * 4096 + bt s (p + 2) % 64 * 64 + bt s (p + 3) % 64 = c at e
 have hrc : r = (c : Int) := by omega
 by_cases hx : c ≥ 65536 ∧ c ≤ 1114111
 ·rw [if_pos hx] at e
  rw [runeAt_ok e (by omega), if_neg (by omega), hrc]
  rfl
 rw [if_neg hx] at e
 rw [runeAt_bad e, if_pos (by omega)]
def stR (s : ByteArray) : Nat → Nat × List Int
 | 0 => (0, [])
 | k + 1 => if (stR s k).1 < s.size ∧ okAt s (stR s k).1 then ((stR s k).1 + (Utf8.decode s (stR s k).1).2, (stR s k).2 ++ [((Utf8.decode s (stR s k).1).1 : Int)]) else stR s k
def stuckR (s : ByteArray) (k : Nat) : Prop := ¬ ((stR s k).1 < s.size ∧ okAt s (stR s k).1)
theorem stR_step (s : ByteArray) (k : Nat) (h1 : (stR s k).1 < s.size) (h2 : okAt s (stR s k).1) : stR s (k + 1) = ((stR s k).1 + (Utf8.decode s (stR s k).1).2, (stR s k).2 ++ [((Utf8.decode s (stR s k).1).1 : Int)]) := by
 rw [stR, if_pos ⟨h1, h2⟩]
theorem stR_stuck (s : ByteArray) (k : Nat) (h : stuckR s k) : ∀ j, stR s (k + j) = stR s k ∧ stuckR s (k + j)
 | 0 => ⟨rfl, h⟩
 | j + 1 => by
  obtain ⟨e, g⟩ := stR_stuck s k h j
  have e' : stR s (k + (j + 1)) = stR s k := by
   rw [← Nat.add_assoc, stR, if_neg g, e]
  refine ⟨e', ?_⟩
  unfold stuckR at h ⊢
  rw [e']; exact h
theorem stR_ge (s : ByteArray) (k : Nat) : stuckR s k ∨ k ≤ (stR s k).1 := by
 induction k with
 | zero => exact .inr (Nat.zero_le _)
 | succ k ih =>
  rcases ih with h | h
  ·exact .inl (stR_stuck s k h 1).2
  by_cases g : (stR s k).1 < s.size ∧ okAt s (stR s k).1
  ·refine .inr ?_
   rw [stR_step s k g.1 g.2]
   have := Lib.decode_width_pos s (stR s k).1 g.1
   simp only
   omega
  exact .inl (stR_stuck s k g 1).2
def finR (s : ByteArray) : Nat × List Int := stR s s.size
theorem finR_stuck (s : ByteArray) : stuckR s s.size := by
 rcases stR_ge s s.size with h | h
 ·exact h
 unfold stuckR; omega
theorem stR_fin (s : ByteArray) (k : Nat) (h : stuckR s k) : stR s k = finR s := by
 unfold finR
 rcases Nat.le_total k s.size with g | g
 ·have := (stR_stuck s k h (s.size - k)).1
  rw [show k + (s.size - k) = s.size by omega] at this
  exact this.symm
 have := (stR_stuck s s.size (finR_stuck s) (k - s.size)).1
 rw [show s.size + (k - s.size) = k by omega] at this
 exact this
theorem stR_len (s : ByteArray) (k : Nat) : (stR s k).2.length ≤ k := by
 induction k with
 | zero => simp [stR]
 | succ k ih =>
  rw [stR]
  split
  ·simp; omega
  omega
theorem stR_len' (s : ByteArray) (k : Nat) : (stR s k).2.length ≤ (stR s k).1 := by
 induction k with
 | zero => simp [stR]
 | succ k ih =>
  rw [stR]
  split
  ·rename_i g
   have := Lib.decode_width_pos s (stR s k).1 g.1
   simp; omega
  exact ih
theorem stR_le (s : ByteArray) (k : Nat) : (stR s k).1 ≤ s.size := by
 induction k with
 | zero => simp [stR]
 | succ k ih =>
  rw [stR]
  split
  ·rename_i g
   have hne : s.data.toList.drop (stR s k).1 ≠ [] := by
    intro e
    have := congrArg List.length e
    simp at this
    omega
   have := Lib.decodeL_le (s.data.toList.drop (stR s k).1) hne
   rw [Lib.decodeL_drop] at this
   simp at this ⊢
   omega
  exact ih
theorem valid_at (s : ByteArray) (k : Nat) : Lib.validD (s.data.toList.drop (stR s k).1) = Lib.validD s.data.toList := by
 induction k with
 | zero => simp [stR]
 | succ k ih =>
  rw [stR]
  split
  ·rename_i g
   have hne : s.data.toList.drop (stR s k).1 ≠ [] := by
    intro e
    have := congrArg List.length e
    simp at this
    omega
   rw [← ih, Lib.validD_step _ hne, Lib.decodeL_drop, if_neg g.2, List.drop_drop]
  exact ih
theorem valid_iff (s : ByteArray) : Lib.validD s.data.toList = true ↔ (finR s).1 = s.size := by
 have h := valid_at s s.size
 have hs := finR_stuck s
 have hle := stR_le s s.size
 unfold finR stuckR at *
 rw [← h]
 constructor
 ·intro hv
  by_cases e : (stR s s.size).1 = s.size
  ·exact e
  have hlt : (stR s s.size).1 < s.size := by omega
  have hb : ¬ okAt s (stR s s.size).1 := fun g => hs ⟨hlt, g⟩
  have hne : s.data.toList.drop (stR s s.size).1 ≠ [] := by
   intro e
   have := congrArg List.length e
   simp at this
   omega
  rw [Lib.validD_step _ hne, Lib.decodeL_drop, if_pos (Classical.not_not.1 hb)] at hv
  cases hv
 intro e
 rw [List.drop_eq_nil_of_le (by simp; omega)]
 rfl
theorem valid_ok (s : ByteArray) (h : Lib.validD s.data.toList = true) (k : Nat) (hk : (stR s k).1 < s.size) : okAt s (stR s k).1 := by
 by_cases g : okAt s (stR s k).1
 ·exact g
 exfalso
 have hst : stuckR s k := fun x => g x.2
 have e := stR_fin s k hst
 have := (valid_iff s).1 h
 rw [← e] at this
 omega
theorem decode_runeOk (s : ByteArray) (p : Nat) (h : okAt s p) : runeOk ((Utf8.decode s p).1 : Int) := by
 unfold okAt at h
 rw [Lib.decode_at] at h ⊢
 generalize (s.get! p).toNat = b0 at *
 generalize (s.get! (p + 1)).toNat = b1 at *
 generalize (s.get! (p + 2)).toNat = b2 at *
 generalize (s.get! (p + 3)).toNat = b3 at *
 unfold runeOk
 rcases Lib.decodeN_shape (s.size - p) b0 b1 b2 b3 with ⟨c, e⟩ | ⟨c1, c2, c3, cv, e⟩ | ⟨c1, c2, c3, c4, cv, cs, e⟩ | ⟨c1, c2, c3, c4, c5, cv, cs, e⟩ | e
 ·rw [e]; simp only; omega
 ·rw [e]; simp only; omega
 ·rw [e]; simp only; omega
 ·rw [e]; simp only; omega
 rw [e] at h; simp at h
theorem stR_back (s : ByteArray) (k : Nat) : allOk (stR s k).2 ∧ encAll (stR s k).2 = s.data.toList.take (stR s k).1 := by
 induction k with
 | zero => exact ⟨fun r hr => by simp [stR] at hr, by simp [stR, encAll]⟩
 | succ k ih =>
  obtain ⟨i1, i2⟩ := ih
  rw [stR]
  split
  ·rename_i g
   refine ⟨fun r hr => ?_, ?_⟩
   ·rcases List.mem_append.1 hr with hr | hr
    ·exact i1 r hr
    rw [List.mem_singleton.1 hr]; exact decode_runeOk s _ g.2
   have hne : s.data.toList.drop (stR s k).1 ≠ [] := by
    intro e
    have := congrArg List.length e
    simp at this
    omega
   have hd := Lib.encode_decode (s.data.toList.drop (stR s k).1) hne (by rw [Lib.decodeL_drop]; exact g.2)
   rw [Lib.decodeL_drop] at hd
   simp only
   rw [encAll_snoc, i2, hd, List.take_add]
  exact ⟨i1, i2⟩
theorem fin_back (s : ByteArray) (h : (finR s).1 = s.size) : allOk (finR s).2 ∧ encAll (finR s).2 = s.data.toList := by
 obtain ⟨a, b⟩ := stR_back s s.size
 unfold finR at h ⊢
 refine ⟨a, ?_⟩
 rw [b, h, take_all s _ (Nat.le_refl _)]
end Go.Proofs.YtgmfkgeepecknaaGreatDoor
namespace Go.Proofs.YtgmfkgeepecknaaGreatDoor
open Go.RowKit
def limN (k bias : Nat) : Nat := if k ≤ bias then 1 else if 26 < k - bias then 26 else k - bias
theorem lim_le (k bias : Nat) : 1 ≤ limN k bias ∧ limN k bias ≤ 26 := by
 unfold limN
 split
 ·omega
 split <;> omega
def numF : Nat → Nat → Nat → Nat → List Nat
 | 0, _, _, _ => []
 | f + 1, k, bias, q => if q < limN k bias then [q] else (limN k bias + (q - limN k bias) % (36 - limN k bias)) :: numF f (k + 36) bias ((q - limN k bias) / (36 - limN k bias))
def readL (bias : Nat) : Nat → Nat → Nat → List Nat → Option (Nat × List Nat)
 | _, _, _, [] => none
 | k, i, w, d :: ds => if 1099511627776 < i ∨ 1099511627776 < w ∨ 36 ≤ d then none else if d < limN k bias then some (i + d * w, ds) else readL bias (k + 36) (i + d * w) (w * (36 - limN k bias)) ds
theorem num_step (q t : Nat) (h : t ≤ q) : (t + (q - t) % (36 - t)) + (36 - t) * ((q - t) / (36 - t)) = q := by
 have := Nat.mod_add_div (q - t) (36 - t)
 omega
theorem num_less (q t f : Nat) (h1 : 1 ≤ t) (h2 : t ≤ 26) (hq : q < 2 ^ (f + 1)) : (q - t) / (36 - t) < 2 ^ f := by
 have h3 : (q - t) / (36 - t) ≤ (q - t) / 2 := Nat.div_le_div_left (by omega) (by omega)
 have h4 : 2 ^ (f + 1) = 2 * 2 ^ f := by rw [Nat.pow_succ]; omega
 omega
theorem read_num (bias : Nat) (r : List Nat) : ∀ (f k q i w : Nat), q < 2 ^ f → i + w * q ≤ 17179869184 → w ≤ 1099511627776 → readL bias k i w (numF (f + 1) k bias q ++ r) = some (i + w * q, r) := by
 intro f
 induction f with
 | zero =>
  intro k q i w hq hi hw
  have h0 : q = 0 := by simpa using hq
  subst h0
  have hl := lim_le k bias
  have e : numF (0 + 1) k bias 0 = [0] := by unfold numF; rw [if_pos (by omega)]
  rw [e]
  show readL bias k i w (0 :: r) = _
  unfold readL
  rw [if_neg (by omega), if_pos (by omega)]
  simp
 | succ f ih =>
  intro k q i w hq hi hw
  obtain ⟨l1, l2⟩ := lim_le k bias
  by_cases hlt : q < limN k bias
  ·have e : numF (f + 1 + 1) k bias q = [q] := by rw [numF, if_pos hlt]
   rw [e]
   show readL bias k i w (q :: r) = _
   unfold readL
   rw [if_neg (by omega), if_pos hlt, Nat.mul_comm q w]
  have e : numF (f + 1 + 1) k bias q = (limN k bias + (q - limN k bias) % (36 - limN k bias)) :: numF (f + 1) (k + 36) bias ((q - limN k bias) / (36 - limN k bias)) := by rw [numF, if_neg hlt]
  rw [e]
  obtain ⟨t, ht⟩ : ∃ t, limN k bias = t := ⟨_, rfl⟩
  rw [ht] at hlt l1 l2 ⊢
  have hs := num_step q t (by omega)
  have hless := num_less q t f l1 l2 hq
  have hm : (q - t) % (36 - t) < 36 - t := Nat.mod_lt _ (by omega)
  have hw1 : w ≤ w * q := Nat.le_mul_of_pos_right w (by omega)
  generalize (q - t) % (36 - t) = m at *
  generalize (q - t) / (36 - t) = q' at *
  have hsum : i + (t + m) * w + w * (36 - t) * q' = i + w * q := by
   rw [← hs, Nat.mul_add, Nat.mul_comm (t + m) w, Nat.mul_assoc]
   omega
  have hw2 : w * (36 - t) ≤ w * 35 := Nat.mul_le_mul_left w (by omega)
  show readL bias k i w ((t + m) :: (numF (f + 1) (k + 36) bias q' ++ r)) = _
  unfold readL
  rw [if_neg (by omega), if_neg (by omega), ht, ih (k + 36) q' _ _ hless (by omega) (by omega), hsum]
def digB (n : Nat) : Nat := if n < 26 then 97 + n else 22 + n
def valB (c : Nat) : Nat := if 97 ≤ c ∧ c ≤ 122 then c - 97 else if 48 ≤ c ∧ c ≤ 57 then c - 22 else 36
theorem val_dig {n : Nat} (h : n < 36) : valB (digB n) = n := by
 unfold digB valB
 split
 ·rw [if_pos (by omega)]; omega
 rw [if_neg (by omega), if_pos (by omega)]; omega
theorem dig_lt {n : Nat} (h : n < 36) : digB n < 128 ∧ digB n ≠ 45 := by
 unfold digB
 split <;> omega
theorem num_lt (bias : Nat) : ∀ (f k q : Nat), ∀ d ∈ numF f k bias q, d < 36 := by
 intro f
 induction f with
 | zero => intro k q d h; simp [numF] at h
 | succ f ih =>
  intro k q d h
  obtain ⟨l1, l2⟩ := lim_le k bias
  unfold numF at h
  split at h
  ·rw [List.mem_singleton.1 h]; omega
  rcases List.mem_cons.1 h with h | h
  ·rw [h]
   have hm : (q - limN k bias) % (36 - limN k bias) < 36 - limN k bias := Nat.mod_lt _ (by omega)
   omega
  exact ih _ _ d h
theorem num_pos (bias f k q : Nat) : numF (f + 1) k bias q ≠ [] := by
 unfold numF
 split <;> simp
def adaptF : Nat → Nat → Nat → Nat
 | 0, d, k => k + 36 * d / (d + 38)
 | f + 1, d, k => if 455 < d then adaptF f (d / 35) (k + 36) else k + 36 * d / (d + 38)
def adaptN (delta n : Nat) (first : Bool) : Nat :=
 if 1000000000000 < delta ∨ n < 1 ∨ 1000000 < n then 0
 else adaptF 64 ((if first then delta / 700 else delta / 2) + (if first then delta / 700 else delta / 2) / n) 0
def passD (n : Nat) : List Nat → Nat → List Nat × Nat
 | [], d => ([], d)
 | c :: r, d => if c < n then passD n r (d + 1) else if c = n then (d :: (passD n r 0).1, (passD n r 0).2) else passD n r d
def leastN (n : Nat) : List Nat → Nat
 | [] => 1114112
 | c :: r => if n ≤ c ∧ c < leastN n r then c else leastN n r
def encD (l : List Nat) : Nat → Nat → Nat → Nat → List Nat
 | 0, _, _, _ => []
 | f + 1, n, d, h => if h < l.length then (passD (leastN n l) l (d + (leastN n l - n) * (h + 1))).1 ++ encD l f (leastN n l + 1) ((passD (leastN n l) l (d + (leastN n l - n) * (h + 1))).2 + 1) (h + (passD (leastN n l) l (d + (leastN n l - n) * (h + 1))).1.length) else []
def insAt (i x : Nat) (l : List Nat) : List Nat := l.take i ++ x :: l.drop i
theorem insAt_mid (a b : List Nat) (x : Nat) : insAt a.length x (a ++ b) = a ++ x :: b := by simp [insAt]
def insD : Nat → Nat → List Nat → List Nat → Option (List Nat)
 | _, _, out, [] => some out
 | n, i, out, d :: ds =>
  if 60 < out.length + 1 ∨ 1114111 < n + (i + d) / (out.length + 1) then none
  else insD (n + (i + d) / (out.length + 1)) ((i + d) % (out.length + 1) + 1) (insAt ((i + d) % (out.length + 1)) (n + (i + d) / (out.length + 1)) out) ds
theorem ins_step (n0 i0 d n pos : Nat) (out ds : List Nat) (hn : n0 ≤ n) (hp : pos ≤ out.length) (hl : out.length < 60) (hm : n ≤ 1114111) (he : d + i0 + n0 * (out.length + 1) = n * (out.length + 1) + pos) :
  insD n0 i0 out (d :: ds) = insD n (pos + 1) (insAt pos n out) ds := by
 have hx : i0 + d = (n - n0) * (out.length + 1) + pos := by
  have h1 : (n - n0) * (out.length + 1) + n0 * (out.length + 1) = n * (out.length + 1) := by rw [← Nat.add_mul]; congr 1; omega
  omega
 have hdiv : (i0 + d) / (out.length + 1) = n - n0 := by
  rw [hx, Nat.mul_comm, Nat.mul_add_div (by omega), Nat.div_eq_of_lt (by omega)]; omega
 have hmod : (i0 + d) % (out.length + 1) = pos := by
  rw [hx, Nat.mul_comm, Nat.mul_add_mod, Nat.mod_eq_of_lt (by omega)]
 rw [insD, hdiv, hmod, show n0 + (n - n0) = n by omega, if_neg (by omega)]
theorem ins_pass (n : Nat) (hn : n ≤ 1114111) : ∀ (l2 l1 : List Nat) (d n0 i0 : Nat) (ds : List Nat), n0 ≤ n → (l1 ++ l2).length ≤ 60 →
  d + i0 + n0 * ((l1.filter (· ≤ n) ++ l2.filter (· < n)).length + 1) = n * ((l1.filter (· ≤ n) ++ l2.filter (· < n)).length + 1) + (l1.filter (· ≤ n)).length →
  ∃ n1 i1, n1 ≤ n ∧ insD n0 i0 (l1.filter (· ≤ n) ++ l2.filter (· < n)) ((passD n l2 d).1 ++ ds) = insD n1 i1 ((l1 ++ l2).filter (· ≤ n)) ds ∧
   (passD n l2 d).2 + i1 + n1 * (((l1 ++ l2).filter (· ≤ n)).length + 1) = n * (((l1 ++ l2).filter (· ≤ n)).length + 1) + ((l1 ++ l2).filter (· ≤ n)).length ∧
   (l1.filter (· ≤ n) ++ l2.filter (· < n)).length + (passD n l2 d).1.length = ((l1 ++ l2).filter (· ≤ n)).length := by
 intro l2
 induction l2 with
 | nil =>
  intro l1 d n0 i0 ds h0 hlen he
  refine ⟨n0, i0, h0, ?_, ?_, ?_⟩
  ·simp [passD]
  ·simpa [passD] using he
  simp [passD]
 | cons c r ih =>
  intro l1 d n0 i0 ds h0 hlen he
  have hass : l1 ++ c :: r = (l1 ++ [c]) ++ r := by simp
  rcases Nat.lt_trichotomy c n with hc | hc | hc
  ·have ep : passD n (c :: r) d = passD n r (d + 1) := by rw [passD, if_pos hc]
   have e1 : (l1 ++ [c]).filter (· ≤ n) = l1.filter (· ≤ n) ++ [c] := by simp [List.filter_append, Nat.le_of_lt hc]
   have e2 : (c :: r).filter (· < n) = c :: r.filter (· < n) := by simp [hc]
   have e3 : l1.filter (· ≤ n) ++ (c :: r).filter (· < n) = (l1 ++ [c]).filter (· ≤ n) ++ r.filter (· < n) := by rw [e1, e2]; simp
   rw [e3] at he ⊢
   rw [ep, hass]
   exact ih (l1 ++ [c]) (d + 1) n0 i0 ds h0 (by rw [← hass]; exact hlen) (by
    have h1 : ((l1 ++ [c]).filter (· ≤ n)).length = (l1.filter (· ≤ n)).length + 1 := by rw [e1]; simp
    omega)
  ·subst hc
   have ep : passD c (c :: r) d = (d :: (passD c r 0).1, (passD c r 0).2) := by rw [passD, if_neg (by omega), if_pos rfl]
   have e1 : (l1 ++ [c]).filter (· ≤ c) = l1.filter (· ≤ c) ++ [c] := by simp [List.filter_append]
   have e2 : (c :: r).filter (· < c) = r.filter (· < c) := by simp
   rw [e2] at he ⊢
   rw [ep, hass]
   have hout : (l1.filter (· ≤ c) ++ r.filter (· < c)).length < 60 := by
    have h1 := List.length_filter_le (fun x => decide (x ≤ c)) l1
    have h2 := List.length_filter_le (fun x => decide (x < c)) r
    simp only [List.length_append, List.length_cons] at hlen ⊢
    omega
   have hst := ins_step n0 i0 d c (l1.filter (· ≤ c)).length (l1.filter (· ≤ c) ++ r.filter (· < c)) ((passD c r 0).1 ++ ds) h0 (by simp) hout hn he
   have e4 : insAt (l1.filter (· ≤ c)).length c (l1.filter (· ≤ c) ++ r.filter (· < c)) = (l1 ++ [c]).filter (· ≤ c) ++ r.filter (· < c) := by rw [insAt_mid, e1]; simp
   rw [e4] at hst
   obtain ⟨n1, i1, g0, g1, g2, g3⟩ := ih (l1 ++ [c]) 0 c ((l1.filter (· ≤ c)).length + 1) ds (Nat.le_refl _) (by rw [← hass]; exact hlen) (by rw [e1, List.length_append]; simp; omega)
   refine ⟨n1, i1, g0, ?_, g2, ?_⟩
   ·show insD n0 i0 _ (d :: ((passD c r 0).1 ++ ds)) = _
    rw [hst, g1]
   rw [← g3, e1]
   simp; omega
  have ep : passD n (c :: r) d = passD n r d := by rw [passD, if_neg (by omega), if_neg (by omega)]
  have e1 : (l1 ++ [c]).filter (· ≤ n) = l1.filter (· ≤ n) := by
   rw [List.filter_append, List.filter_cons_of_neg (by simp; omega)]
   simp
  have e2 : (c :: r).filter (· < n) = r.filter (· < n) := List.filter_cons_of_neg (by simp; omega)
  have e3 : l1.filter (· ≤ n) ++ (c :: r).filter (· < n) = (l1 ++ [c]).filter (· ≤ n) ++ r.filter (· < n) := by rw [e1, e2]
  rw [e3] at he ⊢
  rw [ep, hass]
  exact ih (l1 ++ [c]) d n0 i0 ds h0 (by rw [← hass]; exact hlen) (by rw [e1] at he ⊢; exact he)
theorem least_spec (n : Nat) : ∀ (l : List Nat), (∀ c ∈ l, c ≤ 1114111) → (∃ c ∈ l, n ≤ c) → leastN n l ∈ l ∧ n ≤ leastN n l ∧ ∀ c ∈ l, n ≤ c → leastN n l ≤ c
 | [], _, h => by obtain ⟨c, hc, _⟩ := h; simp at hc
 | c :: r, hv, h => by
  have hc := hv c (by simp)
  have hv' : ∀ c ∈ r, c ≤ 1114111 := fun x hx => hv x (by simp [hx])
  by_cases hr : ∃ x ∈ r, n ≤ x
  ·obtain ⟨h1, h2, h3⟩ := least_spec n r hv' hr
   unfold leastN
   split
   ·next hlt =>
    refine ⟨by simp, hlt.1, fun x hx hn => ?_⟩
    rcases List.mem_cons.1 hx with rfl | hx
    ·omega
    have := h3 x hx hn; omega
   next hlt =>
   refine ⟨by simp [h1], h2, fun x hx hn => ?_⟩
   rcases List.mem_cons.1 hx with rfl | hx
   ·omega
   exact h3 x hx hn
  have hcn : n ≤ c := by
   obtain ⟨x, hx, hn⟩ := h
   rcases List.mem_cons.1 hx with rfl | hx
   ·exact hn
   exact absurd ⟨x, hx, hn⟩ hr
  have hbig : ∀ (r : List Nat), (¬ ∃ x ∈ r, n ≤ x) → leastN n r = 1114112 := by
   intro r
   induction r with
   | nil => intro _; rfl
   | cons y r ih =>
    intro hno
    unfold leastN
    rw [if_neg (fun hy => hno ⟨y, by simp, hy.1⟩)]
    exact ih (fun ⟨x, hx, hn⟩ => hno ⟨x, by simp [hx], hn⟩)
  unfold leastN
  rw [hbig r hr, if_pos (by omega)]
  refine ⟨by simp, hcn, fun x hx hn => ?_⟩
  rcases List.mem_cons.1 hx with rfl | hx
  ·omega
  exact absurd ⟨x, hx, hn⟩ hr
theorem filter_more (m : Nat) : ∀ (l : List Nat), m ∈ l → (l.filter (· < m)).length < (l.filter (· ≤ m)).length := by
 have hle : ∀ (l : List Nat), (l.filter (· < m)).length ≤ (l.filter (· ≤ m)).length := by
  intro l
  induction l with
  | nil => simp
  | cons c r ih =>
   by_cases h1 : c < m
   ·rw [List.filter_cons_of_pos (by simpa using h1), List.filter_cons_of_pos (by simp; omega)]; simp; exact ih
   rw [List.filter_cons_of_neg (by simpa using h1)]
   by_cases h2 : c ≤ m
   ·rw [List.filter_cons_of_pos (by simpa using h2)]; simp; omega
   rw [List.filter_cons_of_neg (by simpa using h2)]; exact ih
 intro l
 induction l with
 | nil => intro h; simp at h
 | cons c r ih =>
  intro h
  by_cases h1 : c < m
  ·have hr : m ∈ r := by
    rcases List.mem_cons.1 h with rfl | h
    ·omega
    exact h
   rw [List.filter_cons_of_pos (by simpa using h1), List.filter_cons_of_pos (by simp; omega)]; simp; exact ih hr
  rw [List.filter_cons_of_neg (by simpa using h1)]
  by_cases h2 : c ≤ m
  ·rw [List.filter_cons_of_pos (by simpa using h2)]
   have := hle r
   simp; omega
  have hr : m ∈ r := by
   rcases List.mem_cons.1 h with rfl | h
   ·omega
   exact h
  rw [List.filter_cons_of_neg (by simpa using h2)]; exact ih hr
theorem filter_congr' (l : List Nat) (p q : Nat → Bool) (h : ∀ c ∈ l, p c = q c) : l.filter p = l.filter q := List.filter_congr h
theorem ins_enc (l : List Nat) (hl : l.length ≤ 60) (hv : ∀ c ∈ l, c ≤ 1114111) : ∀ (f n d n0 i0 : Nat), n0 ≤ n → l.length ≤ (l.filter (· < n)).length + f →
  d + i0 + n0 * ((l.filter (· < n)).length + 1) = n * ((l.filter (· < n)).length + 1) → insD n0 i0 (l.filter (· < n)) (encD l f n d (l.filter (· < n)).length) = some l := by
 intro f
 induction f with
 | zero =>
  intro n d n0 i0 _ hf _
  have h1 := List.length_filter_le (fun x => decide (x < n)) l
  have h2 : l.filter (· < n) = l := List.filter_eq_self.2 (List.length_filter_eq_length_iff.1 (by omega))
  rw [encD, insD, h2]
 | succ f ih =>
  intro n d n0 i0 h0 hf he
  have hfl := List.length_filter_le (fun x => decide (x < n)) l
  by_cases hlt : (l.filter (· < n)).length < l.length
  ·have hex : ∃ c ∈ l, n ≤ c := by
    by_cases hx : ∃ c ∈ l, n ≤ c
    ·exact hx
    have h2 : l.filter (· < n) = l := List.filter_eq_self.2 (fun c hc => by
     simp only [decide_eq_true_eq]
     rcases Nat.lt_or_ge c n with h | h
     ·exact h
     exact absurd ⟨c, hc, h⟩ hx)
    rw [h2] at hlt
    omega
   obtain ⟨m1, m2, m3⟩ := least_spec n l hv hex
   have hd : encD l (f + 1) n d (l.filter (· < n)).length = (passD (leastN n l) l (d + (leastN n l - n) * ((l.filter (· < n)).length + 1))).1 ++ encD l f (leastN n l + 1) ((passD (leastN n l) l (d + (leastN n l - n) * ((l.filter (· < n)).length + 1))).2 + 1) ((l.filter (· < n)).length + (passD (leastN n l) l (d + (leastN n l - n) * ((l.filter (· < n)).length + 1))).1.length) := by
    rw [encD, if_pos hlt]
   rw [hd]
   generalize leastN n l = m at *
   have hsame : l.filter (· < n) = l.filter (· < m) := filter_congr' l _ _ (fun c hc => by
    rcases Nat.lt_or_ge c n with h | h
    ·simp [h]; omega
    have := m3 c hc h
    rw [decide_eq_false (by omega), decide_eq_false (by omega)])
   have hle : l.filter (· < m + 1) = l.filter (· ≤ m) := filter_congr' l _ _ (fun c _ => decide_eq_decide.2 (by omega))
   have hmore := filter_more m l m1
   have hmv := hv m m1
   rw [hsame] at he hf ⊢
   generalize hds : encD l f (m + 1) _ _ = ds
   have hstep := ins_pass m hmv l [] (d + (m - n) * ((l.filter (· < m)).length + 1)) n0 i0 ds (by omega) (by simpa using hl) (by
    simp only [List.filter_nil, List.nil_append, List.length_nil, Nat.add_zero]
    have h1 : (m - n) * ((l.filter (· < m)).length + 1) + n * ((l.filter (· < m)).length + 1) = m * ((l.filter (· < m)).length + 1) := by rw [← Nat.add_mul]; congr 1; omega
    omega)
   simp only [List.filter_nil, List.nil_append] at hstep
   obtain ⟨n1, i1, g0, g1, g2, g3⟩ := hstep
   rw [g1, ← hds, g3]
   have hnext := ih (m + 1) ((passD m l (d + (m - n) * ((l.filter (· < m)).length + 1))).2 + 1) n1 i1 (by omega) (by rw [hle]; omega) (by
    rw [hle, Nat.add_mul]
    omega)
   rw [hle] at hnext
   exact hnext
  have h2 : l.filter (· < n) = l := List.filter_eq_self.2 (List.length_filter_eq_length_iff.1 (by omega))
  rw [encD, if_neg hlt, insD, h2]
theorem pass_le (n : Nat) : ∀ (l : List Nat) (d M : Nat), d + l.length ≤ M → (∀ x ∈ (passD n l d).1, x ≤ M) ∧ (passD n l d).2 ≤ M
 | [], d, M, h => ⟨fun x hx => by simp [passD] at hx, by simpa [passD] using h⟩
 | c :: r, d, M, h => by
  simp only [List.length_cons] at h
  unfold passD
  split
  ·exact pass_le n r (d + 1) M (by omega)
  split
  ·have hr := pass_le n r 0 M (by omega)
   refine ⟨fun x hx => ?_, hr.2⟩
   rcases List.mem_cons.1 hx with rfl | hx
   ·omega
   exact hr.1 x hx
  exact pass_le n r d M (by omega)
theorem pass_len (n : Nat) : ∀ (l : List Nat) (d : Nat), (l.filter (· < n)).length + (passD n l d).1.length = (l.filter (· ≤ n)).length
 | [], d => by simp [passD]
 | c :: r, d => by
  unfold passD
  split
  ·next h =>
   have hr := pass_len n r (d + 1)
   rw [List.filter_cons_of_pos (by simpa using h), List.filter_cons_of_pos (by simp; omega)]
   simp only [List.length_cons]
   omega
  next h =>
  rw [List.filter_cons_of_neg (by simpa using h)]
  split
  ·next e =>
   have hr := pass_len n r 0
   rw [List.filter_cons_of_pos (by simp; omega)]
   simp only [List.length_cons]
   omega
  next e =>
  have hr := pass_len n r d
  rw [List.filter_cons_of_neg (by simp; omega)]
  exact hr
theorem least_of (l : List Nat) (n : Nat) (hv : ∀ c ∈ l, c ≤ 1114111) (hlt : (l.filter (· < n)).length < l.length) : leastN n l ∈ l ∧ n ≤ leastN n l ∧ ∀ c ∈ l, n ≤ c → leastN n l ≤ c := by
 refine least_spec n l hv ?_
 by_cases hx : ∃ c ∈ l, n ≤ c
 ·exact hx
 have h2 : l.filter (· < n) = l := List.filter_eq_self.2 (fun c hc => by
  simp only [decide_eq_true_eq]
  rcases Nat.lt_or_ge c n with h | h
  ·exact h
  exact absurd ⟨c, hc, h⟩ hx)
 rw [h2] at hlt
 omega
theorem filter_same (l : List Nat) (n m : Nat) (h2 : n ≤ m) (h3 : ∀ c ∈ l, n ≤ c → m ≤ c) : l.filter (· < n) = l.filter (· < m) :=
 filter_congr' l _ _ (fun c hc => by
  rcases Nat.lt_or_ge c n with h | h
  ·simp [h]; omega
  have := h3 c hc h
  rw [decide_eq_false (by omega), decide_eq_false (by omega)])
theorem filter_le_lt (l : List Nat) (m : Nat) : l.filter (· < m + 1) = l.filter (· ≤ m) := filter_congr' l _ _ (fun c _ => decide_eq_decide.2 (by omega))
theorem enc_le (l : List Nat) (hl : l.length ≤ 60) (hv : ∀ c ∈ l, c ≤ 1114111) : ∀ (f n d : Nat), d ≤ 61 * n → ∀ x ∈ encD l f n d (l.filter (· < n)).length, x ≤ 67960831 := by
 intro f
 induction f with
 | zero => intro n d _ x hx; simp [encD] at hx
 | succ f ih =>
  intro n d hd x hx
  by_cases hlt : (l.filter (· < n)).length < l.length
  ·obtain ⟨m1, m2, m3⟩ := least_of l n hv hlt
   rw [encD, if_pos hlt] at hx
   generalize leastN n l = m at *
   have hmv := hv m m1
   rw [filter_same l n m m2 m3] at hx hlt
   have hb : d + (m - n) * ((l.filter (· < m)).length + 1) ≤ 61 * m := by
    have h1 : (m - n) * ((l.filter (· < m)).length + 1) ≤ (m - n) * 61 := Nat.mul_le_mul_left _ (by omega)
    omega
   have hp := pass_le m l (d + (m - n) * ((l.filter (· < m)).length + 1)) (61 * m + 60) (by omega)
   have hpl := pass_len m l (d + (m - n) * ((l.filter (· < m)).length + 1))
   rcases List.mem_append.1 hx with hx | hx
   ·have := hp.1 x hx; omega
   rw [hpl, ← filter_le_lt] at hx
   exact ih (m + 1) _ (by have := hp.2; omega) x hx
  rw [encD, if_neg hlt] at hx
  simp at hx
def codeV (basic : Nat) : Nat → Nat → List Nat → List Nat
 | _, _, [] => []
 | h, bias, d :: ds => numF 28 36 bias d ++ codeV basic (h + 1) (adaptN d (h + 1) (h == basic)) ds
def rawL (basic : Nat) : Nat → List Nat → Nat → Nat → Nat → List Nat → Option (List Nat)
 | _, [], _, _, _, out => some out
 | 0, _ :: _, _, _, _, _ => none
 | f + 1, v :: vs, n, i, bias, out =>
  match readL bias 36 0 1 (v :: vs) with
  | none => none
  | some (more, rest) =>
   if 60 < out.length + 1 ∨ 1114111 < n + (i + more) / (out.length + 1) then none
   else rawL basic f rest (n + (i + more) / (out.length + 1)) ((i + more) % (out.length + 1) + 1) (adaptN more (out.length + 1) (out.length == basic)) (insAt ((i + more) % (out.length + 1)) (n + (i + more) / (out.length + 1)) out)
theorem insAt_length (i x : Nat) (l : List Nat) : (insAt i x l).length = l.length + 1 := by
 unfold insAt
 rw [List.length_append, List.length_cons, List.length_take, List.length_drop]
 omega
theorem raw_code (basic : Nat) : ∀ (ds : List Nat) (f h bias n i : Nat) (out : List Nat), out.length = h → (∀ d ∈ ds, d ≤ 67960831) → ds.length ≤ f →
  rawL basic f (codeV basic h bias ds) n i bias out = insD n i out ds
 | [], f, h, bias, n, i, out, _, _, _ => by cases f <;> rfl
 | d :: ds, f, h, bias, n, i, out, hh, hd, hf => by
  obtain ⟨f, rfl⟩ : ∃ g, f = g + 1 := ⟨f - 1, by simp at hf; omega⟩
  have hdd := hd d (by simp)
  have hread := read_num bias (codeV basic (h + 1) (adaptN d (h + 1) (h == basic)) ds) 27 36 d 0 1 (by simp; omega) (by omega) (by omega)
  have hne : ∃ v vs, numF (27 + 1) 36 bias d ++ codeV basic (h + 1) (adaptN d (h + 1) (h == basic)) ds = v :: vs := by
   cases hx : numF (27 + 1) 36 bias d with
   | nil => exact absurd hx (num_pos bias 27 36 d)
   | cons v vs => exact ⟨v, _, rfl⟩
  obtain ⟨v, vs, hv⟩ := hne
  have hcode : codeV basic h bias (d :: ds) = v :: vs := hv
  rw [hv] at hread
  rw [hcode, rawL, hread]
  simp only [Nat.zero_add, Nat.one_mul]
  rw [insD]
  split
  ·rfl
  subst hh
  exact raw_code basic ds f _ _ _ _ _ (insAt_length _ _ _) (fun x hx => hd x (by simp [hx])) (by simp at hf; omega)
def encV (l : List Nat) : List Nat := codeV (l.filter (· < 128)).length (l.filter (· < 128)).length 72 (encD l l.length 128 0 (l.filter (· < 128)).length)
theorem enc_count (l : List Nat) (hv : ∀ c ∈ l, c ≤ 1114111) : ∀ (f n d : Nat), (l.filter (· < n)).length + (encD l f n d (l.filter (· < n)).length).length ≤ l.length := by
 intro f
 induction f with
 | zero => intro n d; simp only [encD, List.length_nil, Nat.add_zero]; exact List.length_filter_le _ _
 | succ f ih =>
  intro n d
  by_cases hlt : (l.filter (· < n)).length < l.length
  ·obtain ⟨m1, m2, m3⟩ := least_of l n hv hlt
   rw [encD, if_pos hlt]
   generalize leastN n l = m at *
   rw [filter_same l n m m2 m3]
   have hpl := pass_len m l (d + (m - n) * ((l.filter (· < m)).length + 1))
   rw [List.length_append, hpl, ← filter_le_lt]
   rw [← filter_le_lt] at hpl
   have := ih (m + 1) ((passD m l (d + (m - n) * ((l.filter (· < m)).length + 1))).2 + 1)
   omega
  rw [encD, if_neg hlt]
  simp only [List.length_nil, Nat.add_zero]
  exact List.length_filter_le _ _
def encC (l : List Nat) : List Nat := l.filter (· < 128) ++ (if 0 < (l.filter (· < 128)).length then [45] else []) ++ (encV l).map digB
def splitD : List Nat → Option (List Nat × List Nat)
 | [] => none
 | c :: r => match splitD r with
  | some (a, b) => some (c :: a, b)
  | none => if c = 45 then some ([], r) else none
theorem split_none : ∀ (b : List Nat), (∀ c ∈ b, c ≠ 45) → splitD b = none
 | [], _ => rfl
 | c :: r, h => by
  rw [splitD, split_none r (fun x hx => h x (by simp [hx]))]
  exact if_neg (h c (by simp))
theorem split_at (b : List Nat) (hb : ∀ c ∈ b, c ≠ 45) : ∀ (a : List Nat), splitD (a ++ 45 :: b) = some (a, b)
 | [] => by
  show splitD (45 :: b) = _
  rw [splitD, split_none b hb]
  rfl
 | c :: a => by
  show splitD (c :: (a ++ 45 :: b)) = _
  rw [splitD, split_at b hb a]
def headD (s : List Nat) : List Nat := match splitD s with
 | some (a, _) => a
 | none => []
def tailD (s : List Nat) : List Nat := match splitD s with
 | some (_, b) => b
 | none => s
def rawC (s : List Nat) : Option (List Nat) := rawL (headD s).length s.length ((tailD s).map valB) 128 0 72 (headD s)
theorem codeV_lt (basic : Nat) : ∀ (ds : List Nat) (h bias : Nat), ∀ v ∈ codeV basic h bias ds, v < 36
 | [], _, _, v, hv => by simp [codeV] at hv
 | d :: ds, h, bias, v, hv => by
  rcases List.mem_append.1 hv with hv | hv
  ·exact num_lt bias 28 36 d v hv
  exact codeV_lt basic ds _ _ v hv
theorem encV_lt (l : List Nat) : ∀ v ∈ encV l, v < 36 := codeV_lt _ _ _ _
theorem dig_back : ∀ (vs : List Nat), (∀ v ∈ vs, v < 36) → (vs.map digB).map valB = vs
 | [], _ => rfl
 | v :: vs, h => by
  rw [List.map_cons, List.map_cons, val_dig (h v (by simp)), dig_back vs (fun x hx => h x (by simp [hx]))]
theorem dig_dash (vs : List Nat) (h : ∀ v ∈ vs, v < 36) : ∀ c ∈ vs.map digB, c ≠ 45 := by
 intro c hc
 obtain ⟨v, hv, rfl⟩ := List.mem_map.1 hc
 exact (dig_lt (h v hv)).2
theorem enc_parts (l : List Nat) : headD (encC l) = l.filter (· < 128) ∧ tailD (encC l) = (encV l).map digB := by
 have hd := dig_dash (encV l) (encV_lt l)
 unfold headD tailD encC
 by_cases h : 0 < (l.filter (· < 128)).length
 ·rw [if_pos h, List.append_assoc]
  show (match splitD (l.filter (· < 128) ++ 45 :: (encV l).map digB) with | some (a, _) => a | none => []) = _ ∧ _
  rw [split_at _ hd]
  exact ⟨rfl, by show (match splitD (l.filter (· < 128) ++ 45 :: (encV l).map digB) with | some (_, b) => b | none => _) = _; rw [split_at _ hd]⟩
 have he : l.filter (· < 128) = [] := List.eq_nil_of_length_eq_zero (by omega)
 rw [if_neg h, he]
 simp only [List.nil_append]
 rw [split_none _ hd]
 exact ⟨rfl, rfl⟩
theorem num_len (bias : Nat) : ∀ (f k q : Nat), (numF f k bias q).length ≤ f
 | 0, _, _ => by simp [numF]
 | f + 1, k, q => by
  unfold numF
  split
  ·simp
  have := num_len bias f (k + 36) ((q - limN k bias) / (36 - limN k bias))
  simp; omega
theorem codeV_ge (basic : Nat) : ∀ (ds : List Nat) (h bias : Nat), ds.length ≤ (codeV basic h bias ds).length
 | [], _, _ => by simp
 | d :: ds, h, bias => by
  have h1 := codeV_ge basic ds (h + 1) (adaptN d (h + 1) (h == basic))
  have h2 : 1 ≤ (numF 28 36 bias d).length := by
   cases hx : numF 28 36 bias d with
   | nil => exact absurd hx (num_pos bias 27 36 d)
   | cons => simp
  show (d :: ds).length ≤ (numF 28 36 bias d ++ codeV basic (h + 1) (adaptN d (h + 1) (h == basic)) ds).length
  rw [List.length_append, List.length_cons]
  omega
theorem raw_enc' (l : List Nat) (hl : l.length ≤ 60) (hv : ∀ c ∈ l, c ≤ 1114111) : rawC (encC l) = some l := by
 unfold rawC
 obtain ⟨h1, h2⟩ := enc_parts l
 rw [h1, h2, dig_back _ (encV_lt l)]
 have hc := enc_count l hv l.length 128 0
 have hge := codeV_ge (l.filter (· < 128)).length (encD l l.length 128 0 (l.filter (· < 128)).length) (l.filter (· < 128)).length 72
 unfold encV
 rw [raw_code _ _ _ _ 72 128 0 _ rfl (enc_le l hl hv l.length 128 0 (by omega)) ?_]
 ·exact ins_enc l hl hv l.length 128 0 128 0 (Nat.le_refl _) (by omega) (by omega)
 unfold encC encV
 rw [List.length_append, List.length_append, List.length_map]
 omega
def runeN (c : Nat) : Bool := decide (c ≤ 1114111) && !(decide (55296 ≤ c) && decide (c ≤ 57343))
def encOk (l : List Nat) : Bool := decide (l.length ≤ 60) && l.all runeN
def decC (s : List Nat) : Option (List Nat) := match rawC s with
 | some l => if encOk l = true ∧ encC l = s then some l else none
 | none => none
theorem encOk_parts {l : List Nat} (h : encOk l = true) : l.length ≤ 60 ∧ ∀ c ∈ l, c ≤ 1114111 := by
 simp only [encOk, Bool.and_eq_true, decide_eq_true_eq, List.all_eq_true] at h
 refine ⟨h.1, fun c hc => ?_⟩
 have := h.2 c hc
 simp only [runeN, Bool.and_eq_true, decide_eq_true_eq] at this
 exact this.1
theorem dec_enc {l : List Nat} (h : encOk l = true) : decC (encC l) = some l := by
 unfold decC
 obtain ⟨h1, h2⟩ := encOk_parts h
 rw [raw_enc' l h1 h2]
 exact if_pos ⟨h, rfl⟩
theorem dec_iff (s l : List Nat) : decC s = some l ↔ encOk l = true ∧ encC l = s := by
 constructor
 ·intro h
  unfold decC at h
  split at h
  ·split at h
   ·next hh => cases h; exact hh
   cases h
  cases h
 rintro ⟨h, rfl⟩
 exact dec_enc h
theorem enc_ascii {l : List Nat} : ∀ c ∈ encC l, c < 128 := by
 intro c hc
 unfold encC at hc
 rcases List.mem_append.1 hc with hc | hc
 ·rcases List.mem_append.1 hc with hc | hc
  ·have := (List.mem_filter.1 hc).2
   simpa using this
  split at hc
  ·rw [List.mem_singleton.1 hc]; omega
  simp at hc
 obtain ⟨v, hv, rfl⟩ := List.mem_map.1 hc
 exact (dig_lt (encV_lt l v hv)).1
end Go.Proofs.YtgmfkgeepecknaaGreatDoor
