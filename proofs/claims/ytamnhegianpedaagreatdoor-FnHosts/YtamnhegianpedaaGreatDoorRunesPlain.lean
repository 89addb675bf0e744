/- Plain laws on UTF-8, of no program: what stands at a place of a text, and the runes of a text step by step. -/
import Derived.Lib.TrimUEq
import Derived.Lib.MapLaws
import Derived.Lib.ValidLaws
import Derived.Lib.RuneCount
namespace Go.Proofs.YtamnhegianpedaaGreatDoor

abbrev okAt (s : ByteArray) (p : Nat) : Prop := ¬ ((Utf8.decode s p).1 = 65533 ∧ (Utf8.decode s p).2 = 1)

def runeAt (s : ByteArray) (p : Nat) : Int × Int := if okAt s p then ((Utf8.decode s p).1, (Utf8.decode s p).2) else (0, 0)

def bt (s : ByteArray) (p : Nat) : Nat := (s.get! p).toNat

theorem bt_at (s : ByteArray) (p : Nat) (h : p < s.size) : bt s p = s[p].toNat := by
  unfold bt
  have := get_at s p h
  simp only [Nat.add_zero] at this
  rw [this]

theorem bt_lt (s : ByteArray) (p : Nat) : bt s p < 256 := (s.get! p).toNat_lt

theorem runeAt_ok {s : ByteArray} {p c n : Nat} (h : Utf8.decode s p = (c, n)) (h' : ¬ (c = 65533 ∧ n = 1)) : runeAt s p = ((c : Int), (n : Int)) := by
  unfold runeAt
  rw [if_pos (show okAt s p by unfold okAt; rw [h]; exact h'), h]

theorem runeAt_bad {s : ByteArray} {p : Nat} (h : Utf8.decode s p = (65533, 1)) : runeAt s p = (0, 0) := by
  unfold runeAt
  rw [if_neg (by unfold okAt; rw [h]; simp)]

theorem rune1 (s : ByteArray) (p : Nat) (h : bt s p < 128) : runeAt s p = ((bt s p : Int), 1) := by
  refine runeAt_ok (c := bt s p) (n := 1) ?_ (by omega)
  rw [Lib.decode_at]
  unfold bt at h
  unfold Lib.decodeN bt
  rw [if_pos h]

theorem rune0 (s : ByteArray) (p : Nat) (h : 128 ≤ bt s p) (h2 : ¬ (194 ≤ bt s p ∧ bt s p ≤ 244)) : runeAt s p = (0, 0) := by
  refine runeAt_bad ?_
  have hl := bt_lt s p
  have l1 := bt_lt s (p + 1); have l2 := bt_lt s (p + 2); have l3 := bt_lt s (p + 3)
  rw [Lib.decode_at]
  unfold bt at h h2 hl l1 l2 l3
  unfold Lib.decodeN
  generalize (s.get! p).toNat = b0 at *
  generalize (s.get! (p + 1)).toNat = b1 at *
  generalize (s.get! (p + 2)).toNat = b2 at *
  generalize (s.get! (p + 3)).toNat = b3 at *
  rw [if_neg (by omega)]
  split
  · rw [if_neg (by omega)]
  · rw [if_neg (by omega)]
    split
    · rw [if_neg (by omega)]
    · rfl

theorem rune2_bad (s : ByteArray) (p : Nat) (h : 194 ≤ bt s p ∧ bt s p ≤ 223) (hb : ¬ (p + 1 < s.size ∧ 128 ≤ bt s (p + 1) ∧ bt s (p + 1) ≤ 191)) : runeAt s p = (0, 0) := by
  refine runeAt_bad ?_
  have l1 := bt_lt s (p + 1)
  rw [Lib.decode_at]
  unfold bt at h hb l1
  unfold Lib.decodeN
  generalize (s.get! p).toNat = b0 at *
  generalize (s.get! (p + 1)).toNat = b1 at *
  generalize (s.get! (p + 2)).toNat = b2 at *
  generalize (s.get! (p + 3)).toNat = b3 at *
  rw [if_neg (by omega), if_neg (by omega), if_neg (by omega), if_neg (by omega)]

theorem rune2 (s : ByteArray) (p : Nat) (h : 194 ≤ bt s p ∧ bt s p ≤ 223) (hb : p + 1 < s.size ∧ 128 ≤ bt s (p + 1) ∧ bt s (p + 1) ≤ 191) :
    runeAt s p = ((bt s p : Int) % 32 * 64 + (bt s (p + 1) : Int) % 64, 2) := by
  have e : Utf8.decode s p = (bt s p % 32 * 64 + bt s (p + 1) % 64, 2) := by
    rw [Lib.decode_at]
    unfold bt at h hb ⊢
    unfold Lib.decodeN
    generalize (s.get! p).toNat = b0 at *
    generalize (s.get! (p + 1)).toNat = b1 at *
    generalize (s.get! (p + 2)).toNat = b2 at *
    generalize (s.get! (p + 3)).toNat = b3 at *
    rw [if_neg (by omega), if_pos (by omega), if_pos (by omega)]
  rw [runeAt_ok e (by omega)]
  simp

theorem rune3_bad (s : ByteArray) (p : Nat) (h : 224 ≤ bt s p ∧ bt s p ≤ 239) (hb : ¬ (p + 1 < s.size ∧ 128 ≤ bt s (p + 1) ∧ bt s (p + 1) ≤ 191 ∧ p + 2 < s.size ∧ 128 ≤ bt s (p + 2) ∧ bt s (p + 2) ≤ 191)) : runeAt s p = (0, 0) := by
  refine runeAt_bad ?_
  have l1 := bt_lt s (p + 1); have l2 := bt_lt s (p + 2)
  rw [Lib.decode_at]
  unfold bt at h hb l1 l2
  unfold Lib.decodeN
  generalize (s.get! p).toNat = b0 at *
  generalize (s.get! (p + 1)).toNat = b1 at *
  generalize (s.get! (p + 2)).toNat = b2 at *
  generalize (s.get! (p + 3)).toNat = b3 at *
  rw [if_neg (by omega), if_neg (by omega), if_neg (by omega), if_neg (by omega)]

theorem rune3 (s : ByteArray) (p : Nat) (r : Int) (h : 224 ≤ bt s p ∧ bt s p ≤ 239) (hb : p + 1 < s.size ∧ 128 ≤ bt s (p + 1) ∧ bt s (p + 1) ≤ 191 ∧ p + 2 < s.size ∧ 128 ≤ bt s (p + 2) ∧ bt s (p + 2) ≤ 191)
    (hr : r = (bt s p : Int) % 16 * 4096 + (bt s (p + 1) : Int) % 64 * 64 + (bt s (p + 2) : Int) % 64) :
    runeAt s p = if r < 2048 ∨ ¬ (r < 55296 ∨ 57343 < r) then (0, 0) else (r, 3) := by
  have e : Utf8.decode s p = if bt s p % 16 * 4096 + bt s (p + 1) % 64 * 64 + bt s (p + 2) % 64 ≥ 2048 ∧ (bt s p % 16 * 4096 + bt s (p + 1) % 64 * 64 + bt s (p + 2) % 64 < 55296 ∨ 57344 ≤ bt s p % 16 * 4096 + bt s (p + 1) % 64 * 64 + bt s (p + 2) % 64) then (bt s p % 16 * 4096 + bt s (p + 1) % 64 * 64 + bt s (p + 2) % 64, 3) else (65533, 1) := by
    rw [Lib.decode_at]
    unfold bt at h hb ⊢
    unfold Lib.decodeN
    generalize (s.get! p).toNat = b0 at *
    generalize (s.get! (p + 1)).toNat = b1 at *
    generalize (s.get! (p + 2)).toNat = b2 at *
    generalize (s.get! (p + 3)).toNat = b3 at *
    rw [if_neg (by omega), if_neg (by omega), if_pos (by omega)]
    by_cases hx : b0 % 16 * 4096 + b1 % 64 * 64 + b2 % 64 ≥ 2048 ∧ (b0 % 16 * 4096 + b1 % 64 * 64 + b2 % 64 < 55296 ∨ 57344 ≤ b0 % 16 * 4096 + b1 % 64 * 64 + b2 % 64)
    · rw [if_pos hx, if_pos (by omega)]
    · rw [if_neg hx, if_neg (by omega)]
  generalize hc : bt s p % 16 * 4096 + bt s (p + 1) % 64 * 64 + bt s (p + 2) % 64 = c at e
  have hrc : r = (c : Int) := by omega
  by_cases hx : c ≥ 2048 ∧ (c < 55296 ∨ 57344 ≤ c)
  · rw [if_pos hx] at e
    rw [runeAt_ok e (by omega), if_neg (by omega), hrc]
    rfl
  · rw [if_neg hx] at e
    rw [runeAt_bad e, if_pos (by omega)]

theorem rune4_bad (s : ByteArray) (p : Nat) (h : 240 ≤ bt s p ∧ bt s p ≤ 244) (hb : ¬ (p + 1 < s.size ∧ 128 ≤ bt s (p + 1) ∧ bt s (p + 1) ≤ 191 ∧ p + 2 < s.size ∧ 128 ≤ bt s (p + 2) ∧ bt s (p + 2) ≤ 191 ∧ p + 3 < s.size ∧ 128 ≤ bt s (p + 3) ∧ bt s (p + 3) ≤ 191)) : runeAt s p = (0, 0) := by
  refine runeAt_bad ?_
  have l1 := bt_lt s (p + 1); have l2 := bt_lt s (p + 2); have l3 := bt_lt s (p + 3)
  rw [Lib.decode_at]
  unfold bt at h hb l1 l2 l3
  unfold Lib.decodeN
  generalize (s.get! p).toNat = b0 at *
  generalize (s.get! (p + 1)).toNat = b1 at *
  generalize (s.get! (p + 2)).toNat = b2 at *
  generalize (s.get! (p + 3)).toNat = b3 at *
  rw [if_neg (by omega), if_neg (by omega), if_neg (by omega), if_neg (by omega)]

theorem rune4 (s : ByteArray) (p : Nat) (r : Int) (h : 240 ≤ bt s p ∧ bt s p ≤ 244) (hb : p + 1 < s.size ∧ 128 ≤ bt s (p + 1) ∧ bt s (p + 1) ≤ 191 ∧ p + 2 < s.size ∧ 128 ≤ bt s (p + 2) ∧ bt s (p + 2) ≤ 191 ∧ p + 3 < s.size ∧ 128 ≤ bt s (p + 3) ∧ bt s (p + 3) ≤ 191)
    (hr : r = (bt s p : Int) % 8 * 262144 + (bt s (p + 1) : Int) % 64 * 4096 + (bt s (p + 2) : Int) % 64 * 64 + (bt s (p + 3) : Int) % 64) :
    runeAt s p = if r < 65536 ∨ ¬ r ≤ 1114111 then (0, 0) else (r, 4) := by
  have e : Utf8.decode s p = if bt s p % 8 * 262144 + bt s (p + 1) % 64 * 4096 + bt s (p + 2) % 64 * 64 + bt s (p + 3) % 64 ≥ 65536 ∧ bt s p % 8 * 262144 + bt s (p + 1) % 64 * 4096 + bt s (p + 2) % 64 * 64 + bt s (p + 3) % 64 ≤ 1114111 then (bt s p % 8 * 262144 + bt s (p + 1) % 64 * 4096 + bt s (p + 2) % 64 * 64 + bt s (p + 3) % 64, 4) else (65533, 1) := by
    rw [Lib.decode_at]
    unfold bt at h hb ⊢
    unfold Lib.decodeN
    generalize (s.get! p).toNat = b0 at *
    generalize (s.get! (p + 1)).toNat = b1 at *
    generalize (s.get! (p + 2)).toNat = b2 at *
    generalize (s.get! (p + 3)).toNat = b3 at *
    rw [if_neg (by omega), if_neg (by omega), if_neg (by omega), if_pos (by omega)]
    by_cases hx : b0 % 8 * 262144 + b1 % 64 * 4096 + b2 % 64 * 64 + b3 % 64 ≥ 65536 ∧ b0 % 8 * 262144 + b1 % 64 * 4096 + b2 % 64 * 64 + b3 % 64 ≤ 1114111
    · rw [if_pos hx, if_pos (by omega)]
    · rw [if_neg hx, if_neg (by omega)]
  generalize hc : bt s p % 8 * 262144 + bt s (p + 1) % 64 * 4096 + bt s (p + 2) % 64 * 64 + bt s (p + 3) % 64 = c at e
  have hrc : r = (c : Int) := by omega
  by_cases hx : c ≥ 65536 ∧ c ≤ 1114111
  · rw [if_pos hx] at e
    rw [runeAt_ok e (by omega), if_neg (by omega), hrc]
    rfl
  · rw [if_neg hx] at e
    rw [runeAt_bad e, if_pos (by omega)]

/-! ### Step by step. -/
def stR (s : ByteArray) : Nat → Nat × List Int
  | 0 => (0, [])
  | k + 1 => if (stR s k).1 < s.size ∧ okAt s (stR s k).1 then ((stR s k).1 + (Utf8.decode s (stR s k).1).2, (stR s k).2 ++ [((Utf8.decode s (stR s k).1).1 : Int)]) else stR s k

def stuckR (s : ByteArray) (k : Nat) : Prop := ¬ ((stR s k).1 < s.size ∧ okAt s (stR s k).1)

theorem stR_step (s : ByteArray) (k : Nat) (h1 : (stR s k).1 < s.size) (h2 : okAt s (stR s k).1) : stR s (k + 1) = ((stR s k).1 + (Utf8.decode s (stR s k).1).2, (stR s k).2 ++ [((Utf8.decode s (stR s k).1).1 : Int)]) := by
  rw [stR, if_pos ⟨h1, h2⟩]

theorem stR_stuck (s : ByteArray) (k : Nat) (h : stuckR s k) : ∀ j, stR s (k + j) = stR s k ∧ stuckR s (k + j)
  | 0 => ⟨rfl, h⟩
  | j + 1 => by
    obtain ⟨e, g⟩ := stR_stuck s k h j
    have e' : stR s (k + (j + 1)) = stR s k := by
      rw [← Nat.add_assoc, stR, if_neg g, e]
    refine ⟨e', ?_⟩
    unfold stuckR at h ⊢
    rw [e']; exact h

theorem stR_ge (s : ByteArray) (k : Nat) : stuckR s k ∨ k ≤ (stR s k).1 := by
  induction k with
  | zero => exact .inr (Nat.zero_le _)
  | succ k ih =>
    rcases ih with h | h
    · exact .inl (stR_stuck s k h 1).2
    · by_cases g : (stR s k).1 < s.size ∧ okAt s (stR s k).1
      · refine .inr ?_
        rw [stR_step s k g.1 g.2]
        have := Lib.decode_width_pos s (stR s k).1 g.1
        simp only
        omega
      · exact .inl (stR_stuck s k g 1).2

def finR (s : ByteArray) : Nat × List Int := stR s s.size

theorem finR_stuck (s : ByteArray) : stuckR s s.size := by
  rcases stR_ge s s.size with h | h
  · exact h
  · unfold stuckR; omega

theorem stR_fin (s : ByteArray) (k : Nat) (h : stuckR s k) : stR s k = finR s := by
  unfold finR
  rcases Nat.le_total k s.size with g | g
  · have := (stR_stuck s k h (s.size - k)).1
    rw [show k + (s.size - k) = s.size by omega] at this
    exact this.symm
  · have := (stR_stuck s s.size (finR_stuck s) (k - s.size)).1
    rw [show s.size + (k - s.size) = k by omega] at this
    exact this

theorem stR_len (s : ByteArray) (k : Nat) : (stR s k).2.length ≤ k := by
  induction k with
  | zero => simp [stR]
  | succ k ih =>
    rw [stR]
    split
    · simp; omega
    · omega

theorem stR_len' (s : ByteArray) (k : Nat) : (stR s k).2.length ≤ (stR s k).1 := by
  induction k with
  | zero => simp [stR]
  | succ k ih =>
    rw [stR]
    split
    · rename_i g
      have := Lib.decode_width_pos s (stR s k).1 g.1
      simp; omega
    · exact ih

theorem stR_le (s : ByteArray) (k : Nat) : (stR s k).1 ≤ s.size := by
  induction k with
  | zero => simp [stR]
  | succ k ih =>
    rw [stR]
    split
    · rename_i g
      have hne : s.data.toList.drop (stR s k).1 ≠ [] := by
        intro e
        have := congrArg List.length e
        simp at this
        omega
      have := Lib.decodeL_le (s.data.toList.drop (stR s k).1) hne
      rw [Lib.decodeL_drop] at this
      simp at this ⊢
      omega
    · exact ih

theorem valid_at (s : ByteArray) (k : Nat) : Lib.validD (s.data.toList.drop (stR s k).1) = Lib.validD s.data.toList := by
  induction k with
  | zero => simp [stR]
  | succ k ih =>
    rw [stR]
    split
    · rename_i g
      have hne : s.data.toList.drop (stR s k).1 ≠ [] := by
        intro e
        have := congrArg List.length e
        simp at this
        omega
      rw [← ih, Lib.validD_step _ hne, Lib.decodeL_drop, if_neg g.2, List.drop_drop]
    · exact ih

theorem valid_iff (s : ByteArray) : Lib.validD s.data.toList = true ↔ (finR s).1 = s.size := by
  have h := valid_at s s.size
  have hs := finR_stuck s
  have hle := stR_le s s.size
  unfold finR stuckR at *
  rw [← h]
  constructor
  · intro hv
    by_cases e : (stR s s.size).1 = s.size
    · exact e
    · have hlt : (stR s s.size).1 < s.size := by omega
      have hb : ¬ okAt s (stR s s.size).1 := fun g => hs ⟨hlt, g⟩
      have hne : s.data.toList.drop (stR s s.size).1 ≠ [] := by
        intro e
        have := congrArg List.length e
        simp at this
        omega
      rw [Lib.validD_step _ hne, Lib.decodeL_drop, if_pos (Classical.not_not.1 hb)] at hv
      cases hv
  · intro e
    rw [List.drop_eq_nil_of_le (by simp; omega)]
    rfl

theorem valid_ok (s : ByteArray) (h : Lib.validD s.data.toList = true) (k : Nat) (hk : (stR s k).1 < s.size) : okAt s (stR s k).1 := by
  by_cases g : okAt s (stR s k).1
  · exact g
  · exfalso
    have hst : stuckR s k := fun x => g x.2
    have e := stR_fin s k hst
    have := (valid_iff s).1 h
    rw [← e] at this
    omega

end Go.Proofs.YtamnhegianpedaaGreatDoor
