/- PutRunesWalk, RunesPlain, RunesBack, PctPlain, HexWalk. -/
import Derived.Test.YtidecdlaeomfoaaGreatQA01
import Derived.Lib.TrimUEq
import Derived.Lib.MapLaws
import Derived.Lib.ValidLaws
import Derived.Lib.RuneCount
set_option maxHeartbeats 1000000
namespace Go.Proofs.YtidecdlaeomfoaaGreat
open Go.RowKit
def encAll (l : List Int) : List UInt8 := l.flatMap Lib.encodeRune
theorem encAll_snoc (l : List Int) (r : Int) : encAll (l ++ [r]) = encAll l ++ Lib.encodeRune r := by simp [encAll]
def allOk (l : List Int) : Prop := ∀ r ∈ l, runeOk r
end Go.Proofs.YtidecdlaeomfoaaGreat
namespace Go.Proofs.YtidecdlaeomfoaaGreat
abbrev okAt (s : ByteArray) (p : Nat) : Prop := ¬ ((Utf8.decode s p).1 = 65533 ∧ (Utf8.decode s p).2 = 1)
def runeAt (s : ByteArray) (p : Nat) : Int × Int := if okAt s p then ((Utf8.decode s p).1, (Utf8.decode s p).2) else (0, 0)
def bt (s : ByteArray) (p : Nat) : Nat := (s.get! p).toNat
theorem bt_at (s : ByteArray) (p : Nat) (h : p < s.size) : bt s p = s[p].toNat := by
 unfold bt
 have := get_at s p h
 simp only [Nat.add_zero] at this
 rw [this]
theorem bt_lt (s : ByteArray) (p : Nat) : bt s p < 256 := (s.get! p).toNat_lt
theorem runeAt_ok {s : ByteArray} {p c n : Nat} (h : Utf8.decode s p = (c, n)) (h' : ¬ (c = 65533 ∧ n = 1)) : runeAt s p = ((c : Int), (n : Int)) := by
 unfold runeAt
 rw [if_pos (show okAt s p by unfold okAt; rw [h]; exact h'), h]
theorem runeAt_bad {s : ByteArray} {p : Nat} (h : Utf8.decode s p = (65533, 1)) : runeAt s p = (0, 0) := by
 unfold runeAt
 rw [if_neg (by unfold okAt; rw [h]; simp)]
theorem rune1 (s : ByteArray) (p : Nat) (h : bt s p < 128) : runeAt s p = ((bt s p : Int), 1) := by
 refine runeAt_ok (c := bt s p) (n := 1) ?_ (by omega)
 rw [Lib.decode_at]
 unfold bt at h
 unfold Lib.decodeN bt
 rw [if_pos h]
theorem rune0 (s : ByteArray) (p : Nat) (h : 128 ≤ bt s p) (h2 : ¬ (194 ≤ bt s p ∧ bt s p ≤ 244)) : runeAt s p = (0, 0) := by
 refine runeAt_bad ?_
 have hl := bt_lt s p
 have l1 := bt_lt s (p + 1); have l2 := bt_lt s (p + 2); have l3 := bt_lt s (p + 3)
 rw [Lib.decode_at]
 unfold bt at h h2 hl l1 l2 l3
 unfold Lib.decodeN
 generalize (s.get! p).toNat = b0 at *
 generalize (s.get! (p + 1)).toNat = b1 at *
 generalize (s.get! (p + 2)).toNat = b2 at *
 generalize (s.get! (p + 3)).toNat = b3 at *
 rw [if_neg (by omega)]
 split
 ·rw [if_neg (by omega)]
 rw [if_neg (by omega)]
 split
 ·rw [if_neg (by omega)]
 rfl
theorem rune2_bad (s : ByteArray) (p : Nat) (h : 194 ≤ bt s p ∧ bt s p ≤ 223) (hb : ¬ (p + 1 < s.size ∧ 128 ≤ bt s (p + 1) ∧ bt s (p + 1) ≤ 191)) : runeAt s p = (0, 0) := by
 refine runeAt_bad ?_
 have l1 := bt_lt s (p + 1)
 rw [Lib.decode_at]
 unfold bt at h hb l1
 unfold Lib.decodeN
 generalize (s.get! p).toNat = b0 at *
 generalize (s.get! (p + 1)).toNat = b1 at *
 generalize (s.get! (p + 2)).toNat = b2 at *
 generalize (s.get! (p + 3)).toNat = b3 at *
 rw [if_neg (by omega), if_neg (by omega), if_neg (by omega), if_neg (by omega)]
theorem rune2 (s : ByteArray) (p : Nat) (h : 194 ≤ bt s p ∧ bt s p ≤ 223) (hb : p + 1 < s.size ∧ 128 ≤ bt s (p + 1) ∧ bt s (p + 1) ≤ 191) :
  runeAt s p = ((bt s p : Int) % 32 * 64 + (bt s (p + 1) : Int) % 64, 2) := by
 have e : Utf8.decode s p = (bt s p % 32 * 64 + bt s (p + 1) % 64, 2) := by
  rw [Lib.decode_at]
  unfold bt at h hb ⊢
  unfold Lib.decodeN
  generalize (s.get! p).toNat = b0 at *
  generalize (s.get! (p + 1)).toNat = b1 at *
  generalize (s.get! (p + 2)).toNat = b2 at *
  generalize (s.get! (p + 3)).toNat = b3 at *
  rw [if_neg (by omega), if_pos (by omega), if_pos (by omega)]
 rw [runeAt_ok e (by omega)]
 simp
theorem rune3_bad (s : ByteArray) (p : Nat) (h : 224 ≤ bt s p ∧ bt s p ≤ 239) (hb : ¬ (p + 1 < s.size ∧ 128 ≤ bt s (p + 1) ∧ bt s (p + 1) ≤ 191 ∧ p + 2 < s.size ∧ 128 ≤ bt s (p + 2) ∧ bt s (p + 2) ≤ 191)) : runeAt s p = (0, 0) := by
 refine runeAt_bad ?_
 have l1 := bt_lt s (p + 1); have l2 := bt_lt s (p + 2)
 rw [Lib.decode_at]
 unfold bt at h hb l1 l2
 unfold Lib.decodeN
 generalize (s.get! p).toNat = b0 at *
 generalize (s.get! (p + 1)).toNat = b1 at *
 generalize (s.get! (p + 2)).toNat = b2 at *
 generalize (s.get! (p + 3)).toNat = b3 at *
 rw [if_neg (by omega), if_neg (by omega), if_neg (by omega), if_neg (by omega)]
theorem rune3 (s : ByteArray) (p : Nat) (r : Int) (h : 224 ≤ bt s p ∧ bt s p ≤ 239) (hb : p + 1 < s.size ∧ 128 ≤ bt s (p + 1) ∧ bt s (p + 1) ≤ 191 ∧ p + 2 < s.size ∧ 128 ≤ bt s (p + 2) ∧ bt s (p + 2) ≤ 191)
  (hr : r = (bt s p : Int) % 16 * 4096 + (bt s (p + 1) : Int) % 64 * 64 + (bt s (p + 2) : Int) % 64) :
  runeAt s p = if r < 2048 ∨ ¬ (r < 55296 ∨ 57343 < r) then (0, 0) else (r, 3) := by
 have e : Utf8.decode s p = if bt s p % 16 * 4096 + bt s (p + 1) % 64 * 64 + bt s (p + 2) % 64 ≥ 2048 ∧ (bt s p % 16 * 4096 + bt s (p + 1) % 64 * 64 + bt s (p + 2) % 64 < 55296 ∨ 57344 ≤ bt s p % 16 * 4096 + bt s (p + 1) % 64 * 64 + bt s (p + 2) % 64) then (bt s p % 16 * 4096 + bt s (p + 1) % 64 * 64 + bt s (p + 2) % 64, 3) else (65533, 1) := by
  rw [Lib.decode_at]
  unfold bt at h hb ⊢
  unfold Lib.decodeN
  generalize (s.get! p).toNat = b0 at *
  generalize (s.get! (p + 1)).toNat = b1 at *
  generalize (s.get! (p + 2)).toNat = b2 at *
  generalize (s.get! (p + 3)).toNat = b3 at *
  rw [if_neg (by omega), if_neg (by omega), if_pos (by omega)]
  by_cases hx : b0 % 16 * 4096 + b1 % 64 * 64 + b2 % 64 ≥ 2048 ∧ (b0 % 16 * 4096 + b1 % 64 * 64 + b2 % 64 < 55296 ∨ 57344 ≤ b0 % 16 * 4096 + b1 % 64 * 64 + b2 % 64)
  ·rw [if_pos hx, if_pos (by omega)]
  rw [if_neg hx, if_neg (by omega)]
 generalize hc : bt s p % 16 * 4096 + bt s (p + 1) % 64 * 64 + bt s (p + 2) % 64 = c at e
 have hrc : r = (c : Int) := by omega
 by_cases hx : c ≥ 2048 ∧ (c < 55296 ∨ 57344 ≤ c)
 ·rw [if_pos hx] at e
  rw [runeAt_ok e (by omega), if_neg (by omega), hrc]
  rfl
 rw [if_neg hx] at e
 rw [runeAt_bad e, if_pos (by omega)]
theorem rune4_bad (s : ByteArray) (p : Nat) (h : 240 ≤ bt s p ∧ bt s p ≤ 244) (hb : ¬ (p + 1 < s.size ∧ 128 ≤ bt s (p + 1) ∧ bt s (p + 1) ≤ 191 ∧ p + 2 < s.size ∧ 128 ≤ bt s (p + 2) ∧ bt s (p + 2) ≤ 191 ∧ p + 3 < s.size ∧ 128 ≤ bt s (p + 3) ∧ bt s (p + 3) ≤ 191)) : runeAt s p = (0, 0) := by
 refine runeAt_bad ?_
 have l1 := bt_lt s (p + 1); have l2 := bt_lt s (p + 2); have l3 := bt_lt s (p + 3)
 rw [Lib.decode_at]
 unfold bt at h hb l1 l2 l3
 unfold Lib.decodeN
 generalize (s.get! p).toNat = b0 at *
 generalize (s.get! (p + 1)).toNat = b1 at *
 generalize (s.get! (p + 2)).toNat = b2 at *
 generalize (s.get! (p + 3)).toNat = b3 at *
 rw [if_neg (by omega), if_neg (by omega), if_neg (by omega), if_neg (by omega)]
theorem rune4 (s : ByteArray) (p : Nat) (r : Int) (h : 240 ≤ bt s p ∧ bt s p ≤ 244) (hb : p + 1 < s.size ∧ 128 ≤ bt s (p + 1) ∧ bt s (p + 1) ≤ 191 ∧ p + 2 < s.size ∧ 128 ≤ bt s (p + 2) ∧ bt s (p + 2) ≤ 191 ∧ p + 3 < s.size ∧ 128 ≤ bt s (p + 3) ∧ bt s (p + 3) ≤ 191)
  (hr : r = (bt s p : Int) % 8 * 262144 + (bt s (p + 1) : Int) % 64 * 4096 + (bt s (p + 2) : Int) % 64 * 64 + (bt s (p + 3) : Int) % 64) :
  runeAt s p = if r < 65536 ∨ ¬ r ≤ 1114111 then (0, 0) else (r, 4) := by
 have e : Utf8.decode s p = if bt s p % 8 * 262144 + bt s (p + 1) % 64 * 4096 + bt s (p + 2) % 64 * 64 + bt s (p + 3) % 64 ≥ 65536 ∧ bt s p % 8 * 262144 + bt s (p + 1) % 64 * 4096 + bt s (p + 2) % 64 * 64 + bt s (p + 3) % 64 ≤ 1114111 then (bt s p % 8 * 262144 + bt s (p + 1) % 64 * 4096 + bt s (p + 2) % 64 * 64 + bt s (p + 3) % 64, 4) else (65533, 1) := by
  rw [Lib.decode_at]
  unfold bt at h hb ⊢
  unfold Lib.decodeN
  generalize (s.get! p).toNat = b0 at *
  generalize (s.get! (p + 1)).toNat = b1 at *
  generalize (s.get! (p + 2)).toNat = b2 at *
  generalize (s.get! (p + 3)).toNat = b3 at *
  rw [if_neg (by omega), if_neg (by omega), if_neg (by omega), if_pos (by omega)]
  by_cases hx : b0 % 8 * 262144 + b1 % 64 * 4096 + b2 % 64 * 64 + b3 % 64 ≥ 65536 ∧ b0 % 8 * 262144 + b1 % 64 * 4096 + b2 % 64 * 64 + b3 % 64 ≤ 1114111
  ·rw [if_pos hx, if_pos (by omega)]
  rw [if_neg hx, if_neg (by omega)]
 generalize hc : bt s p % 8 * 262144 + bt s (p + 1) % 64 * 4096 + bt s (p + 2) % 64 * 64 + bt s (p + 3) % 64 = c at e
 have hrc : r = (c : Int) := by omega
 by_cases hx : c ≥ 65536 ∧ c ≤ 1114111
 ·rw [if_pos hx] at e
  rw [runeAt_ok e (by omega), if_neg (by omega), hrc]
  rfl
 rw [if_neg hx] at e
 rw [runeAt_bad e, if_pos (by omega)]
def stR (s : ByteArray) : Nat → Nat × List Int
 | 0 => (0, [])
 | k + 1 => if (stR s k).1 < s.size ∧ okAt s (stR s k).1 then ((stR s k).1 + (Utf8.decode s (stR s k).1).2, (stR s k).2 ++ [((Utf8.decode s (stR s k).1).1 : Int)]) else stR s k
def stuckR (s : ByteArray) (k : Nat) : Prop := ¬ ((stR s k).1 < s.size ∧ okAt s (stR s k).1)
theorem stR_step (s : ByteArray) (k : Nat) (h1 : (stR s k).1 < s.size) (h2 : okAt s (stR s k).1) : stR s (k + 1) = ((stR s k).1 + (Utf8.decode s (stR s k).1).2, (stR s k).2 ++ [((Utf8.decode s (stR s k).1).1 : Int)]) := by
 rw [stR, if_pos ⟨h1, h2⟩]
theorem stR_stuck (s : ByteArray) (k : Nat) (h : stuckR s k) : ∀ j, stR s (k + j) = stR s k ∧ stuckR s (k + j)
 | 0 => ⟨rfl, h⟩
 | j + 1 => by
  obtain ⟨e, g⟩ := stR_stuck s k h j
  have e' : stR s (k + (j + 1)) = stR s k := by
   rw [← Nat.add_assoc, stR, if_neg g, e]
  refine ⟨e', ?_⟩
  unfold stuckR at h ⊢
  rw [e']; exact h
theorem stR_ge (s : ByteArray) (k : Nat) : stuckR s k ∨ k ≤ (stR s k).1 := by
 induction k with
 | zero => exact .inr (Nat.zero_le _)
 | succ k ih =>
  rcases ih with h | h
  ·exact .inl (stR_stuck s k h 1).2
  by_cases g : (stR s k).1 < s.size ∧ okAt s (stR s k).1
  ·refine .inr ?_
   rw [stR_step s k g.1 g.2]
   have := Lib.decode_width_pos s (stR s k).1 g.1
   simp only
   omega
  exact .inl (stR_stuck s k g 1).2
def finR (s : ByteArray) : Nat × List Int := stR s s.size
theorem finR_stuck (s : ByteArray) : stuckR s s.size := by
 rcases stR_ge s s.size with h | h
 ·exact h
 unfold stuckR; omega
theorem stR_fin (s : ByteArray) (k : Nat) (h : stuckR s k) : stR s k = finR s := by
 unfold finR
 rcases Nat.le_total k s.size with g | g
 ·have := (stR_stuck s k h (s.size - k)).1
  rw [show k + (s.size - k) = s.size by omega] at this
  exact this.symm
 have := (stR_stuck s s.size (finR_stuck s) (k - s.size)).1
 rw [show s.size + (k - s.size) = k by omega] at this
 exact this
theorem stR_len (s : ByteArray) (k : Nat) : (stR s k).2.length ≤ k := by
 induction k with
 | zero => simp [stR]
 | succ k ih =>
  rw [stR]
  split
  ·simp; omega
  omega
theorem stR_len' (s : ByteArray) (k : Nat) : (stR s k).2.length ≤ (stR s k).1 := by
 induction k with
 | zero => simp [stR]
 | succ k ih =>
  rw [stR]
  split
  ·rename_i g
   have := Lib.decode_width_pos s (stR s k).1 g.1
   simp; omega
  exact ih
theorem stR_le (s : ByteArray) (k : Nat) : (stR s k).1 ≤ s.size := by
 induction k with
 | zero => simp [stR]
 | succ k ih =>
  rw [stR]
  split
  ·rename_i g
   have hne : s.data.toList.drop (stR s k).1 ≠ [] := by
    intro e
    have := congrArg List.length e
    simp at this
    omega
   have := Lib.decodeL_le (s.data.toList.drop (stR s k).1) hne
   rw [Lib.decodeL_drop] at this
   simp at this ⊢
   omega
  exact ih
theorem decode_runeOk (s : ByteArray) (p : Nat) (h : okAt s p) : runeOk ((Utf8.decode s p).1 : Int) := by
 unfold okAt at h
 rw [Lib.decode_at] at h ⊢
 generalize (s.get! p).toNat = b0 at *
 generalize (s.get! (p + 1)).toNat = b1 at *
 generalize (s.get! (p + 2)).toNat = b2 at *
 generalize (s.get! (p + 3)).toNat = b3 at *
 unfold runeOk
 rcases Lib.decodeN_shape (s.size - p) b0 b1 b2 b3 with ⟨c, e⟩ | ⟨c1, c2, c3, cv, e⟩ | ⟨c1, c2, c3, c4, cv, cs, e⟩ | ⟨c1, c2, c3, c4, c5, cv, cs, e⟩ | e
 ·rw [e]; simp only; omega
 ·rw [e]; simp only; omega
 ·rw [e]; simp only; omega
 ·rw [e]; simp only; omega
 rw [e] at h; simp at h
theorem stR_back (s : ByteArray) (k : Nat) : allOk (stR s k).2 ∧ encAll (stR s k).2 = s.data.toList.take (stR s k).1 := by
 induction k with
 | zero => exact ⟨fun r hr => by simp [stR] at hr, by simp [stR, encAll]⟩
 | succ k ih =>
  obtain ⟨i1, i2⟩ := ih
  rw [stR]
  split
  ·rename_i g
   refine ⟨fun r hr => ?_, ?_⟩
   ·rcases List.mem_append.1 hr with hr | hr
    ·exact i1 r hr
    rw [List.mem_singleton.1 hr]; exact decode_runeOk s _ g.2
   have hne : s.data.toList.drop (stR s k).1 ≠ [] := by
    intro e
    have := congrArg List.length e
    simp at this
    omega
   have hd := Lib.encode_decode (s.data.toList.drop (stR s k).1) hne (by rw [Lib.decodeL_drop]; exact g.2)
   rw [Lib.decodeL_drop] at hd
   simp only
   rw [encAll_snoc, i2, hd, List.take_add]
  exact ⟨i1, i2⟩
theorem fin_back (s : ByteArray) (h : (finR s).1 = s.size) : allOk (finR s).2 ∧ encAll (finR s).2 = s.data.toList := by
 obtain ⟨a, b⟩ := stR_back s s.size
 unfold finR at h ⊢
 refine ⟨a, ?_⟩
 rw [b, h, take_all s _ (Nat.le_refl _)]
end Go.Proofs.YtidecdlaeomfoaaGreat
namespace Go.Proofs.YtidecdlaeomfoaaGreat
open Go.RowKit
def letterN (c : Nat) : Bool := decide (97 ≤ c ∧ c ≤ 122) || decide (65 ≤ c ∧ c ≤ 90)
def digitN (c : Nat) : Bool := decide (48 ≤ c ∧ c ≤ 57)
def plainT (c : Nat) : Bool := decide (c = 45 ∨ c = 46 ∨ c = 95 ∨ c = 126)
def freeN (c : Nat) : Bool := letterN c || digitN c || plainT c
def markN (c : Nat) : Bool := decide (c = 33 ∨ c = 36 ∨ c = 38 ∨ c = 39 ∨ c = 40 ∨ c = 41 ∨ c = 42 ∨ c = 43 ∨ c = 44 ∨ c = 59 ∨ c = 61 ∨ c = 58 ∨ c = 64)
def keepN (set : Int) (c : Nat) : Bool := decide (1 ≤ set ∧ set ≤ 3) && (freeN c || markN c || (decide (c = 47) && decide (set ≠ 3)) || (decide (c = 63) && decide (set = 2)))
def keepZ (set c : Int) : Bool := decide (0 ≤ c) && keepN set c.toNat
def hexN (c : Nat) : Int := if 48 ≤ c ∧ c ≤ 57 then (c : Int) - 48 else if 97 ≤ c ∧ c ≤ 102 then (c : Int) - 87 else if 65 ≤ c ∧ c ≤ 70 then (c : Int) - 55 else -1
def digU (n : Nat) : UInt8 := UInt8.ofNat (if n < 10 then 48 + n else 55 + n)
def putB (c : UInt8) : List UInt8 := [37, digU (c.toNat / 16), digU (c.toNat % 16)]
def pctV (a b c : Nat) : Int := if a = 37 ∧ 0 ≤ hexN b ∧ 0 ≤ hexN c then hexN b * 16 + hexN c else -1
def pctHd : List UInt8 → Int
 | a :: b :: c :: _ => pctV a.toNat b.toNat c.toNat
 | _ => -1
theorem hexN_le (c : Nat) : -1 ≤ hexN c ∧ hexN c ≤ 15 := by
 unfold hexN
 split
 ·omega
 split
 ·omega
 split <;> omega
theorem pctV_le (a b c : Nat) : -1 ≤ pctV a b c ∧ pctV a b c ≤ 255 := by
 have h1 := hexN_le b
 have h2 := hexN_le c
 unfold pctV
 split <;> omega
def tokL {α : Type} (f g : UInt8 → List α) : List UInt8 → List α
 | a :: b :: c :: r => if 0 ≤ pctV a.toNat b.toNat c.toNat then f (UInt8.ofNat (pctV a.toNat b.toNat c.toNat).toNat) ++ tokL f g r else g a ++ tokL f g (b :: c :: r)
 | [a, b] => g a ++ g b
 | [a] => g a
 | [] => []
theorem tok_pct {α : Type} (f g : UInt8 → List α) (a b c : UInt8) (r : List UInt8) (h : 0 ≤ pctV a.toNat b.toNat c.toNat) :
  tokL f g (a :: b :: c :: r) = f (UInt8.ofNat (pctV a.toNat b.toNat c.toNat).toNat) ++ tokL f g r := by
 rw [tokL, if_pos h]
theorem tok_byte {α : Type} (f g : UInt8 → List α) (a : UInt8) (r : List UInt8) (h : pctHd (a :: r) < 0) : tokL f g (a :: r) = g a ++ tokL f g r := by
 match r, h with
 | [], _ => simp [tokL]
 | [b], _ => simp [tokL]
 | b :: c :: r, h =>
  have h' : ¬ 0 ≤ pctV a.toNat b.toNat c.toNat := by have h2 : pctV a.toNat b.toNat c.toNat < 0 := h; omega
  rw [tokL, if_neg h']
theorem tok_ind (P : List UInt8 → Prop) (h0 : P []) (h1 : ∀ a b c r, 0 ≤ pctV a.toNat b.toNat c.toNat → P r → P (a :: b :: c :: r)) (h2 : ∀ a r, pctHd (a :: r) < 0 → P r → P (a :: r)) : ∀ l, P l
 | [] => h0
 | [a] => h2 a [] (by simp [pctHd]) h0
 | [a, b] => h2 a [b] (by simp [pctHd]) (h2 b [] (by simp [pctHd]) h0)
 | a :: b :: c :: r =>
  if h : 0 ≤ pctV a.toNat b.toNat c.toNat then h1 a b c r h (tok_ind P h0 h1 h2 r)
  else h2 a (b :: c :: r) (by show pctV a.toNat b.toNat c.toNat < 0; omega) (tok_ind P h0 h1 h2 (b :: c :: r))
def unL : List UInt8 → List UInt8 := tokL (fun c => [c]) (fun a => [a])
def freeB (c : UInt8) : List UInt8 := if freeN c.toNat then [c] else putB c
def keptB (set : Int) (c : UInt8) : List UInt8 := if keepN set c.toNat then [c] else putB c
def plL (set : Int) : List UInt8 → List UInt8 := tokL freeB (keptB set)
def okT (set : Int) : List UInt8 → List Bool := tokL (fun _ => []) (fun a => [keepN set a.toNat])
def okL (set : Int) (l : List UInt8) : Bool := (okT set l).all id
theorem keep_out {set : Int} {c : Nat} (hs : ¬ (1 ≤ set ∧ set ≤ 3)) : keepN set c = false := by
 unfold keepN
 rw [decide_eq_false hs]
 rfl
theorem kept_len (set : Int) (c : UInt8) : 1 ≤ (keptB set c).length ∧ (keptB set c).length ≤ 3 := by
 unfold keptB
 split <;> simp [putB]
theorem free_len (c : UInt8) : 1 ≤ (freeB c).length ∧ (freeB c).length ≤ 3 := by
 unfold freeB
 split <;> simp [putB]
theorem pl_pct (set : Int) (a b c : UInt8) (r : List UInt8) (h : 0 ≤ pctV a.toNat b.toNat c.toNat) : plL set (a :: b :: c :: r) = freeB (UInt8.ofNat (pctV a.toNat b.toNat c.toNat).toNat) ++ plL set r := tok_pct _ _ a b c r h
theorem pl_byte (set : Int) (a : UInt8) (r : List UInt8) (h : pctHd (a :: r) < 0) : plL set (a :: r) = keptB set a ++ plL set r := tok_byte _ _ a r h
theorem un_pct (a b c : UInt8) (r : List UInt8) (h : 0 ≤ pctV a.toNat b.toNat c.toNat) : unL (a :: b :: c :: r) = UInt8.ofNat (pctV a.toNat b.toNat c.toNat).toNat :: unL r := tok_pct _ _ a b c r h
theorem un_byte (a : UInt8) (r : List UInt8) (h : pctHd (a :: r) < 0) : unL (a :: r) = a :: unL r := tok_byte _ _ a r h
theorem pl_len (set : Int) (l : List UInt8) : (plL set l).length ≤ 3 * l.length := by
 induction l using tok_ind with
 | h0 => simp [plL, tokL]
 | h1 a b c r h ih =>
  rw [pl_pct set a b c r h, List.length_append]
  have := free_len (UInt8.ofNat (pctV a.toNat b.toNat c.toNat).toNat)
  simp only [List.length_cons]
  omega
 | h2 a r h ih =>
  rw [pl_byte set a r h, List.length_append]
  have := kept_len set a
  simp only [List.length_cons]
  omega
theorem un_len (l : List UInt8) : (unL l).length ≤ l.length := by
 induction l using tok_ind with
 | h0 => simp [unL, tokL]
 | h1 a b c r h ih => rw [un_pct a b c r h]; simp only [List.length_cons]; omega
 | h2 a r h ih => rw [un_byte a r h]; simp only [List.length_cons]; omega
def pctAt (s : ByteArray) (k : Nat) : Int := pctHd (s.data.toList.drop k)
theorem drop_at (s : ByteArray) (k : Nat) (h : k < s.size) : s.data.toList.drop k = s[k] :: s.data.toList.drop (k + 1) := by
 have hk : k < s.data.toList.length := by simpa using h
 rw [List.drop_eq_getElem_cons hk]
 rfl
theorem pctAt_in (s : ByteArray) (k : Nat) (h : k + 2 < s.size) : pctAt s k = pctV s[k].toNat s[k + 1].toNat s[k + 2].toNat := by
 unfold pctAt
 rw [drop_at s k (by omega), drop_at s (k + 1) (by omega), drop_at s (k + 2) (by omega)]
 rfl
theorem pctAt_out (s : ByteArray) (k : Nat) (h : s.size ≤ k + 2) : pctAt s k = -1 := by
 unfold pctAt
 have hl : (s.data.toList.drop k).length ≤ 2 := by
  rw [List.length_drop]
  have : s.data.toList.length = s.size := by simp
  omega
 match s.data.toList.drop k, hl with
 | [], _ => rfl
 | [_], _ => rfl
 | [_, _], _ => rfl
theorem pctAt_le (s : ByteArray) (k : Nat) : -1 ≤ pctAt s k ∧ pctAt s k ≤ 255 := by
 by_cases h : k + 2 < s.size
 ·rw [pctAt_in s k h]; exact pctV_le _ _ _
 rw [pctAt_out s k (by omega)]; omega
theorem pctAt_lt {s : ByteArray} {k : Nat} (h : 0 ≤ pctAt s k) : k + 2 < s.size := by
 rcases Nat.lt_or_ge (k + 2) s.size with h1 | h1
 ·exact h1
 rw [pctAt_out s k h1] at h; omega
theorem tok_hit {α : Type} (f g : UInt8 → List α) (s : ByteArray) (k : Nat) (h : 0 ≤ pctAt s k) : tokL f g (s.data.toList.drop k) = f (UInt8.ofNat (pctAt s k).toNat) ++ tokL f g (s.data.toList.drop (k + 3)) := by
 have hk := pctAt_lt h
 rw [pctAt_in s k hk] at h ⊢
 rw [drop_at s k (by omega), drop_at s (k + 1) (by omega), drop_at s (k + 2) (by omega)]
 exact tok_pct f g _ _ _ _ h
theorem tok_miss {α : Type} (f g : UInt8 → List α) (s : ByteArray) (k : Nat) (hk : k < s.size) (h : pctAt s k < 0) : tokL f g (s.data.toList.drop k) = g s[k] ++ tokL f g (s.data.toList.drop (k + 1)) := by
 unfold pctAt at h
 rw [drop_at s k hk] at h ⊢
 exact tok_byte f g _ _ h
theorem tok_end {α : Type} (f g : UInt8 → List α) (s : ByteArray) (k : Nat) (hk : s.size ≤ k) : tokL f g (s.data.toList.drop k) = [] := by
 rw [List.drop_of_length_le (by simpa using hk)]
 rfl
theorem specL1In (x a b : Int) (w : World) :
  Calls Tryz.prog 18 #[.int .i64 x, .int .i64 a, .int .i64 b] w fun e w' => e = .returned (.bool (decide (a ≤ x ∧ x ≤ b))) ∧ w = w' := by
 by_cases h : a ≤ x ∧ x ≤ b
 ·rw [decide_eq_true h]; exact specL1In_yes x a b w h.1 h.2
 rw [decide_eq_false h]; exact specL1In_no x a b w (by omega)
theorem hexN_09 {c : Nat} (h1 : 48 ≤ (c : Int)) (h2 : (c : Int) ≤ 57) : hexN c = (c : Int) - 48 := by unfold hexN; rw [if_pos (by omega)]
theorem hexN_az {c : Nat} (h1 : 97 ≤ (c : Int)) (h2 : (c : Int) ≤ 102) : hexN c = (c : Int) - 87 := by unfold hexN; rw [if_neg (by omega), if_pos (by omega)]
theorem hexN_AZ {c : Nat} (h1 : 65 ≤ (c : Int)) (h2 : (c : Int) ≤ 70) : hexN c = (c : Int) - 55 := by unfold hexN; rw [if_neg (by omega), if_neg (by omega), if_pos (by omega)]
theorem hexN_no {c : Nat} (h1 : ¬ (48 ≤ (c : Int) ∧ (c : Int) ≤ 57)) (h2 : ¬ (97 ≤ (c : Int) ∧ (c : Int) ≤ 102)) (h3 : ¬ (65 ≤ (c : Int) ∧ (c : Int) ≤ 70)) : hexN c = -1 := by unfold hexN; rw [if_neg (by omega), if_neg (by omega), if_neg (by omega)]
theorem specHex (c : Nat) (w : World) (hc : (c : Int) ≤ 255) :
  Calls Tryz.prog 57 #[.int .u8 (c : Int)] w fun e w' => e = .returned (.int .i64 (hexN c)) ∧ w = w' := by
 by_cases h1 : 48 ≤ (c : Int) ∧ (c : Int) ≤ 57
 ·obtain ⟨a1, a2⟩ := h1
  go_enter Tryz.func57, Tryz.ntmps57
  go_wp2_with (go_at_call 18; refine (specL1In_yes _ _ _ _ a1 a2).mono ?_; rintro e w' ⟨rfl, rfl⟩)
  go_ret
  exact ⟨ret_int (by rw [hexN_09 a1 a2]), rfl⟩
 have g1 : (c : Int) < 48 ∨ 57 < (c : Int) := by omega
 by_cases h2 : 97 ≤ (c : Int) ∧ (c : Int) ≤ 102
 ·obtain ⟨a1, a2⟩ := h2
  clear h1
  have H1 : Hid ((c : Int) < 48 ∨ 57 < (c : Int)) := g1
  clear g1
  go_enter Tryz.func57, Tryz.ntmps57
  go_wp2_with fail
  refine (specL1In_no _ _ _ _ H1.out).mono ?_
  rintro e w' ⟨rfl, rfl⟩
  go_wp2_with fail
  refine (specL1In_yes _ _ _ _ a1 a2).mono ?_
  rintro e w' ⟨rfl, rfl⟩
  go_wp2
  go_ret
  exact ⟨ret_int (by rw [hexN_az a1 a2] <;> omega), rfl⟩
 have g2 : (c : Int) < 97 ∨ 102 < (c : Int) := by omega
 have H1 : Hid ((c : Int) < 48 ∨ 57 < (c : Int)) := g1
 have H2 : Hid ((c : Int) < 97 ∨ 102 < (c : Int)) := g2
 by_cases h3 : 65 ≤ (c : Int) ∧ (c : Int) ≤ 70
 ·obtain ⟨a1, a2⟩ := h3
  clear h1 h2 g1 g2
  go_enter Tryz.func57, Tryz.ntmps57
  go_wp2_with fail
  refine (specL1In_no _ _ _ _ H1.out).mono ?_
  rintro e w' ⟨rfl, rfl⟩
  go_wp2_with fail
  refine (specL1In_no _ _ _ _ H2.out).mono ?_
  rintro e w' ⟨rfl, rfl⟩
  go_wp2_with fail
  refine (specL1In_yes _ _ _ _ a1 a2).mono ?_
  rintro e w' ⟨rfl, rfl⟩
  go_wp2
  go_ret
  exact ⟨ret_int (by rw [hexN_AZ a1 a2] <;> omega), rfl⟩
 have H0 : Hid (hexN c = -1) := hexN_no h1 h2 h3
 have H3 : Hid ((c : Int) < 65 ∨ 70 < (c : Int)) := by show _ ∨ _; omega
 clear h1 h2 h3 g1 g2
 go_enter Tryz.func57, Tryz.ntmps57
 go_wp2_with fail
 refine (specL1In_no _ _ _ _ H1.out).mono ?_
 rintro e w' ⟨rfl, rfl⟩
 go_wp2_with fail
 refine (specL1In_no _ _ _ _ H2.out).mono ?_
 rintro e w' ⟨rfl, rfl⟩
 go_wp2_with fail
 refine (specL1In_no _ _ _ _ H3.out).mono ?_
 rintro e w' ⟨rfl, rfl⟩
 go_wp2
 go_ret
 exact ⟨ret_int (by rw [H0.out]), rfl⟩
end Go.Proofs.YtidecdlaeomfoaaGreat
