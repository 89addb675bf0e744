/- Plain laws, of no program: numbers in groups of seven bits, texts and frames of bytes, and their sums. -/
import Derived.Test.YtfigkoapebdlfaaBase
namespace Go.Proofs.Ytfigkoapebdlfaa
open Go.RowKit
set_option linter.unusedVariables false

/-- The groups of n, the lowest first; at most f + 1 of them. -/
def numF : Nat → Nat → List UInt8
  | 0, n => [UInt8.ofNat n]
  | f + 1, n => if n < 128 then [UInt8.ofNat n] else UInt8.ofNat (128 + n % 128) :: numF f (n / 128)

/-- A number, or the nearest that is kept. -/
def numC (n : Int) : Nat := if n < 0 then 0 else if 1000000000 < n then 1000000000 else n.toNat

def numL (n : Int) : List UInt8 := numF 4 (numC n)

/-- The number that is read from the place k of its bytes on, with how many bytes it has. -/
def getA : Nat → Nat → Nat → List UInt8 → Option (Nat × Nat)
  | 0, _, _, _ => none
  | _ + 1, _, _, [] => none
  | f + 1, k, acc, c :: r =>
    if 128 ≤ c.toNat then getA f (k + 1) (acc + c.toNat % 128 * 128 ^ k) r
    else if (c.toNat = 0 ∧ 0 < k) ∨ 1000000000 < acc + c.toNat % 128 * 128 ^ k then none
    else some (acc + c.toNat % 128 * 128 ^ k, k + 1)

def getL (l : List UInt8) (p : Int) : Option (Nat × Nat) :=
  if p < 0 ∨ (l.length : Int) < p then none else (getA 5 0 0 (l.drop p.toNat)).map fun r => (r.1, p.toNat + r.2)

/-- What stands behind its own size: where it begins, how many bytes it has. -/
def pieceL (l : List UInt8) (p : Int) : Option (Nat × Nat) :=
  match getL l p with
  | none => none
  | some (n, q) => if l.length - q < n then none else some (q, n)

def partL (l : List UInt8) (q n : Nat) : List UInt8 := (l.drop q).take n

def crcBit (x : Nat) : Nat := if x % 2 = 1 then (x / 2) ^^^ 3988292384 else x / 2

def crcBits : Nat → Nat → Nat
  | 0, x => x
  | k + 1, x => crcBits k (crcBit x)

def crcByte (x : Nat) (c : UInt8) : Nat := crcBits 8 (x ^^^ c.toNat)

def crcF (x : Nat) (l : List UInt8) : Nat := l.foldl crcByte x

def crcL (l : List UInt8) : Nat := 4294967295 - crcF 4294967295 l

def fourL (x : Nat) : List UInt8 := [UInt8.ofNat x, UInt8.ofNat (x / 256), UInt8.ofNat (x / 65536), UInt8.ofNat (x / 16777216)]

def frameL (l : List UInt8) : List UInt8 := numL l.length ++ l ++ fourL (crcL l)

/-- Where a frame's body begins, and how many bytes it has. -/
def unfL (l : List UInt8) (p : Int) : Option (Nat × Nat) :=
  match pieceL l p with
  | none => none
  | some (q, n) => if fourL (crcL (partL l q n)) = partL l (q + n) 4 then some (q, n) else none

theorem numF_len : ∀ f n, 1 ≤ (numF f n).length ∧ (numF f n).length ≤ f + 1
  | 0, n => by simp [numF]
  | f + 1, n => by
    unfold numF
    split
    · simp
    · have := numF_len f (n / 128)
      simp only [List.length_cons]
      omega

theorem numC_le (n : Int) : numC n ≤ 1000000000 := by
  unfold numC
  split
  · omega
  · split <;> omega

theorem numL_len (n : Int) : 1 ≤ (numL n).length ∧ (numL n).length ≤ 5 := numF_len 4 _

theorem ofNat_toNat {n : Nat} (h : n < 256) : (UInt8.ofNat n).toNat = n := by
  simp only [UInt8.toNat_ofNat']
  exact Nat.mod_eq_of_lt (by omega)

theorem pow_step (k : Nat) : 128 ^ (k + 1) = 128 ^ k * 128 := Nat.pow_succ ..

/-- A number comes back of its bytes, whatever is behind them. -/
theorem getA_numF : ∀ (f k acc n : Nat) (r : List UInt8), n < 128 ^ (f + 1) → acc + n * 128 ^ k ≤ 1000000000 → (k = 0 ∨ 0 < n) →
    getA (f + 1) k acc (numF f n ++ r) = some (acc + n * 128 ^ k, k + (numF f n).length)
  | 0, k, acc, n, r, h0, h1, h2 => by
    have hn : n < 128 := by simpa using h0
    simp only [numF, List.cons_append, List.nil_append, getA, ofNat_toNat (show n < 256 by omega), Nat.mod_eq_of_lt hn, List.length_cons, List.length_nil]
    rw [if_neg (by omega), if_neg (by omega)]
  | f + 1, k, acc, n, r, h0, h1, h2 => by
    unfold numF
    by_cases hn : n < 128
    · rw [if_pos hn]
      simp only [List.cons_append, List.nil_append, getA, ofNat_toNat (show n < 256 by omega), Nat.mod_eq_of_lt hn, List.length_cons, List.length_nil]
      rw [if_neg (by omega), if_neg (by omega)]
    · rw [if_neg hn]
      have hm : n % 128 < 128 := Nat.mod_lt _ (by omega)
      have hd : (n / 128) * 128 + n % 128 = n := by omega
      have key : acc + n % 128 * 128 ^ k + n / 128 * 128 ^ (k + 1) = acc + n * 128 ^ k := by
        rw [pow_step, ← Nat.mul_assoc, Nat.mul_right_comm, Nat.add_assoc, ← Nat.add_mul]
        congr 2
        omega
      have hq : n / 128 < 128 ^ (f + 1) := by
        rw [pow_step] at h0
        exact Nat.div_lt_of_lt_mul (by rw [Nat.mul_comm]; exact h0)
      simp only [List.cons_append, List.length_cons]
      rw [show getA (f + 1 + 1) k acc (UInt8.ofNat (128 + n % 128) :: (numF f (n / 128) ++ r)) = getA (f + 1) (k + 1) (acc + n % 128 * 128 ^ k) (numF f (n / 128) ++ r) by
        rw [getA, ofNat_toNat (by omega), if_pos (by omega), show (128 + n % 128) % 128 = n % 128 by omega]]
      rw [getA_numF f (k + 1) _ (n / 128) r hq (by omega) (.inr (by omega)), key]
      congr 2
      omega

theorem getL_numL (b r : List UInt8) (n : Int) : getL (b ++ (numL n ++ r)) b.length = some (numC n, b.length + (numL n).length) := by
  have hc := numC_le n
  unfold getL
  rw [if_neg (by simp only [List.length_append]; omega), Int.toNat_natCast, List.drop_left]
  unfold numL
  rw [getA_numF 4 0 0 (numC n) r (by omega) (by simp; omega) (.inl rfl)]
  simp

/-- A number whose last byte lacks is told. -/
theorem getA_cut : ∀ (f g k acc n : Nat), getA g k acc (numF f n).dropLast = none
  | 0, g, k, acc, n => by cases g <;> simp [numF, getA]
  | f + 1, g, k, acc, n => by
    unfold numF
    by_cases hn : n < 128
    · rw [if_pos hn]
      cases g <;> simp [getA]
    · rw [if_neg hn]
      have hl := (numF_len f (n / 128)).1
      have hx : numF f (n / 128) ≠ [] := by intro h; rw [h] at hl; simp at hl
      rw [List.dropLast_cons_of_ne_nil hx]
      cases g with
      | zero => rfl
      | succ g =>
        rw [getA, ofNat_toNat (by omega), if_pos (by omega)]
        exact getA_cut f g _ _ _

theorem getA_le : ∀ (f k acc : Nat) (l : List UInt8) {n q : Nat}, getA f k acc l = some (n, q) → n ≤ 1000000000 ∧ k < q ∧ q ≤ k + l.length ∧ q ≤ k + f
  | 0, k, acc, l, n, q, h => by simp [getA] at h
  | f + 1, k, acc, [], n, q, h => by simp [getA] at h
  | f + 1, k, acc, c :: r, n, q, h => by
    rw [getA] at h
    split at h
    · have := getA_le f (k + 1) _ r h
      simp only [List.length_cons]
      omega
    · split at h
      · simp at h
      · obtain ⟨rfl, rfl⟩ := by simpa using h
        simp only [List.length_cons]
        omega

theorem getL_le {l : List UInt8} {p : Int} {n q : Nat} (h : getL l p = some (n, q)) : n ≤ 1000000000 ∧ 0 ≤ p ∧ p < q ∧ q ≤ l.length := by
  unfold getL at h
  split at h
  · simp at h
  · rename_i hp
    cases hg : getA 5 0 0 (l.drop p.toNat) with
    | none => rw [hg] at h; simp at h
    | some r =>
      obtain ⟨a, b⟩ := r
      rw [hg] at h
      obtain ⟨rfl, rfl⟩ := by simpa using h
      have := getA_le _ _ _ _ hg
      rw [List.length_drop] at this
      omega

theorem pieceL_le {l : List UInt8} {p : Int} {q n : Nat} (h : pieceL l p = some (q, n)) : q + n ≤ l.length := by
  unfold pieceL at h
  split at h
  · simp at h
  · rename_i a b hg
    have := getL_le hg
    split at h
    · simp at h
    · obtain ⟨rfl, rfl⟩ := by simpa using h
      omega

theorem partL_len {l : List UInt8} {q n : Nat} (h : q + n ≤ l.length) : (partL l q n).length = n := by
  unfold partL
  rw [List.length_take, List.length_drop]
  omega

theorem crcBit_lt {x : Nat} (h : x < 4294967296) : crcBit x < 4294967296 := by
  unfold crcBit
  split
  · exact Nat.xor_lt_two_pow (n := 32) (by omega) (by omega)
  · omega

theorem crcBits_lt : ∀ (k x : Nat), x < 4294967296 → crcBits k x < 4294967296
  | 0, x, h => h
  | k + 1, x, h => crcBits_lt k _ (crcBit_lt h)

theorem crcByte_lt {x : Nat} (c : UInt8) (h : x < 4294967296) : crcByte x c < 4294967296 :=
  crcBits_lt 8 _ (Nat.xor_lt_two_pow (n := 32) (by omega) (by have := c.toNat_lt; omega))

theorem crcF_lt : ∀ (l : List UInt8) (x : Nat), x < 4294967296 → crcF x l < 4294967296
  | [], x, h => h
  | c :: r, x, h => crcF_lt r _ (crcByte_lt c h)

theorem crcL_lt (l : List UInt8) : crcL l < 4294967296 := by unfold crcL; omega

theorem crcBits_snoc : ∀ (k x : Nat), crcBits (k + 1) x = crcBit (crcBits k x)
  | 0, x => rfl
  | k + 1, x => by rw [crcBits, crcBits_snoc k]; rfl

theorem crcF_snoc (l : List UInt8) (c : UInt8) (x : Nat) : crcF x (l ++ [c]) = crcByte (crcF x l) c := by simp [crcF]

theorem crc_turn (x : Nat) (h : x < 4294967296) : x ^^^ 4294967295 = 4294967295 - x := by
  have := BitVec.xor_allOnes (x := BitVec.ofNat 32 x)
  have h2 := congrArg BitVec.toNat this
  rw [BitVec.toNat_xor, BitVec.toNat_not, BitVec.toNat_allOnes, BitVec.toNat_ofNat, Nat.mod_eq_of_lt (by omega)] at h2
  omega

theorem xor_half {a : Nat} (h : a < 2147483648) : 2147483648 ≤ a ^^^ 3988292384 := by
  apply Nat.le_of_not_lt
  intro hlt
  have h1 : (a ^^^ 3988292384).testBit 31 = false := Nat.testBit_lt_two_pow (by omega)
  rw [Nat.testBit_xor, Nat.testBit_lt_two_pow (by omega : a < 2 ^ 31)] at h1
  simp at h1
  exact absurd h1 (by decide)

theorem xor_inj {a b c : Nat} (h : a ^^^ c = b ^^^ c) : a = b := by
  have := congrArg (· ^^^ c) h
  simpa [Nat.xor_assoc] using this

theorem crcBit_inj {x y : Nat} (hx : x < 4294967296) (hy : y < 4294967296) (h : crcBit x = crcBit y) : x = y := by
  unfold crcBit at h
  split at h
  · split at h
    · have := xor_inj h
      omega
    · have := xor_half (a := x / 2) (by omega)
      omega
  · split at h
    · have := xor_half (a := y / 2) (by omega)
      omega
    · omega

theorem crcBits_inj : ∀ (k x y : Nat), x < 4294967296 → y < 4294967296 → crcBits k x = crcBits k y → x = y
  | 0, x, y, _, _, h => h
  | k + 1, x, y, hx, hy, h => crcBit_inj hx hy (crcBits_inj k _ _ (crcBit_lt hx) (crcBit_lt hy) h)

theorem crcByte_inj {x y : Nat} (c : UInt8) (hx : x < 4294967296) (hy : y < 4294967296) (h : crcByte x c = crcByte y c) : x = y := by
  have hc := c.toNat_lt
  exact xor_inj (crcBits_inj 8 _ _ (Nat.xor_lt_two_pow (n := 32) (by omega) (by omega)) (Nat.xor_lt_two_pow (n := 32) (by omega) (by omega)) h)

theorem crcByte_inj' {x : Nat} (c d : UInt8) (hx : x < 4294967296) (h : crcByte x c = crcByte x d) : c = d := by
  have hc := c.toNat_lt
  have hd := d.toNat_lt
  have := crcBits_inj 8 _ _ (Nat.xor_lt_two_pow (n := 32) (by omega) (by omega)) (Nat.xor_lt_two_pow (n := 32) (by omega) (by omega)) h
  rw [Nat.xor_comm, Nat.xor_comm x] at this
  exact UInt8.toNat_inj.1 (xor_inj this)

theorem crcF_inj : ∀ (l : List UInt8) (x y : Nat), x < 4294967296 → y < 4294967296 → crcF x l = crcF y l → x = y
  | [], x, y, _, _, h => h
  | c :: r, x, y, hx, hy, h => crcByte_inj c hx hy (crcF_inj r _ _ (crcByte_lt c hx) (crcByte_lt c hy) h)

/-- Of one byte that is another, the sum is another. -/
theorem crcF_set : ∀ (l : List UInt8) (x i : Nat) (c : UInt8), x < 4294967296 → i < l.length → crcF x (l.set i c) = crcF x l → l.getD i 0 = c
  | [], x, i, c, hx, hi, h => by simp at hi
  | d :: r, x, 0, c, hx, hi, h => by
    have := crcF_inj r _ _ (crcByte_lt c hx) (crcByte_lt d hx) h
    simpa using (crcByte_inj' c d hx this).symm
  | d :: r, x, i + 1, c, hx, hi, h => by
    have := crcF_set r (crcByte x d) i c (crcByte_lt d hx) (by simpa using hi) h
    simpa using this

theorem crcL_set {l : List UInt8} {i : Nat} {c : UInt8} (hi : i < l.length) (h : crcL (l.set i c) = crcL l) : l.getD i 0 = c := by
  have h1 := crcF_lt l 4294967295 (by omega)
  have h2 := crcF_lt (l.set i c) 4294967295 (by omega)
  unfold crcL at h
  exact crcF_set l 4294967295 i c (by omega) hi (by omega)

theorem four_inj {x y : Nat} (hx : x < 4294967296) (hy : y < 4294967296) (h : fourL x = fourL y) : x = y := by
  unfold fourL at h
  simp only [List.cons.injEq, and_true] at h
  obtain ⟨h1, h2, h3, h4⟩ := h
  have g1 := congrArg UInt8.toNat h1
  have g2 := congrArg UInt8.toNat h2
  have g3 := congrArg UInt8.toNat h3
  have g4 := congrArg UInt8.toNat h4
  simp only [UInt8.toNat_ofNat'] at g1 g2 g3 g4
  omega

theorem fourL_len (x : Nat) : (fourL x).length = 4 := rfl

theorem numC_nat {n : Nat} (h : n ≤ 1000000000) : numC (n : Int) = n := by
  unfold numC
  rw [if_neg (by omega), if_neg (by omega)]
  omega

theorem getL_cut (b : List UInt8) (n : Int) : getL ((b ++ numL n).take ((b ++ numL n).length - 1)) b.length = none := by
  have hl := numL_len n
  have e : (b ++ numL n).take ((b ++ numL n).length - 1) = b ++ (numL n).dropLast := by
    rw [List.length_append, List.take_append, List.dropLast_eq_take, List.take_of_length_le (by omega)]
    congr 2
    omega
  rw [e]
  unfold getL
  rw [if_neg (by simp only [List.length_append]; omega), Int.toNat_natCast, List.drop_left]
  unfold numL
  rw [getA_cut]
  rfl

theorem pieceL_back (b s r : List UInt8) (h : s.length ≤ 1000000000) : pieceL (b ++ (numL s.length ++ (s ++ r))) b.length = some (b.length + (numL s.length).length, s.length) := by
  unfold pieceL
  rw [getL_numL]
  simp only [numC_nat h]
  rw [if_neg (by simp only [List.length_append]; omega)]

theorem partL_mid (a s r : List UInt8) : partL (a ++ (s ++ r)) a.length s.length = s := by
  unfold partL
  rw [List.drop_left, List.take_left]

theorem text_back (b s : List UInt8) (h : s.length ≤ 1000000000) : pieceL (b ++ (numL s.length ++ s)) b.length = some (b.length + (numL s.length).length, s.length) := by
  have := pieceL_back b s [] h
  rwa [List.append_nil] at this

theorem text_part (b s : List UInt8) (n : Int) : partL (b ++ (numL n ++ s)) (b.length + (numL n).length) s.length = s := by
  have := partL_mid (b ++ numL n) s []
  rwa [List.append_nil, List.append_assoc, List.length_append] at this

theorem numL_one {n : Nat} (h : n < 128) : numL (n : Int) = [UInt8.ofNat n] := by
  unfold numL
  rw [numC_nat (by omega), numF, if_pos h]

/-- What is read of a frame whose sum may be another one. -/
theorem unf_one (body four r : List UInt8) (hb : body.length < 128) (hf : four.length = 4) :
    unfL (UInt8.ofNat body.length :: (body ++ (four ++ r))) 0 = if fourL (crcL body) = four then some (1, body.length) else none := by
  have e : UInt8.ofNat body.length :: (body ++ (four ++ r)) = [] ++ (numL body.length ++ (body ++ (four ++ r))) := by rw [numL_one hb]; rfl
  have hp : pieceL (UInt8.ofNat body.length :: (body ++ (four ++ r))) 0 = some (1, body.length) := by
    rw [e]
    have := pieceL_back [] body (four ++ r) (by omega)
    rw [numL_one hb] at this ⊢
    exact this
  have h1 : partL (UInt8.ofNat body.length :: (body ++ (four ++ r))) 1 body.length = body := partL_mid [UInt8.ofNat body.length] body (four ++ r)
  have h2 : partL (UInt8.ofNat body.length :: (body ++ (four ++ r))) (1 + body.length) 4 = four := by
    have := partL_mid (UInt8.ofNat body.length :: body) four r
    rw [hf] at this
    simpa [Nat.add_comm] using this
  unfold unfL
  rw [hp]
  simp only [h1, h2]

theorem frame_one (body : List UInt8) (hb : body.length < 128) : frameL body = UInt8.ofNat body.length :: (body ++ fourL (crcL body)) := by
  unfold frameL
  rw [numL_one hb]
  rfl

theorem frame_len (body : List UInt8) (hb : body.length < 128) : (frameL body).length = body.length + 5 := by
  rw [frame_one body hb]
  simp [fourL_len]

theorem frame_back (body r : List UInt8) (hb : body.length < 128) : unfL (frameL body ++ r) 0 = some (1, body.length) := by
  have := unf_one body (fourL (crcL body)) r hb (fourL_len _)
  rw [if_pos rfl] at this
  rw [frame_one body hb, List.cons_append, List.append_assoc]
  exact this

theorem frame_part (body r : List UInt8) (hb : body.length < 128) : partL (frameL body ++ r) 1 body.length = body := by
  rw [frame_one body hb, List.cons_append, List.append_assoc]
  exact partL_mid [UInt8.ofNat body.length] body (fourL (crcL body) ++ r)

theorem set_other {l : List UInt8} {i : Nat} {c : UInt8} (hi : i < l.length) (hc : l.getD i 0 ≠ c) : l.set i c ≠ l := by
  intro h
  apply hc
  have : (l.set i c).getD i 0 = l.getD i 0 := by rw [h]
  rw [← this]
  simp [hi]

theorem frame_turned (body : List UInt8) (hb : body.length < 128) (k : Nat) (h0 : 1 ≤ k) (h1 : k < body.length + 5) (c : UInt8) (hc : (frameL body).getD k 0 ≠ c) : unfL ((frameL body).set k c) 0 = none := by
  rw [frame_one body hb] at hc ⊢
  obtain ⟨j, rfl⟩ : ∃ j, k = j + 1 := ⟨k - 1, by omega⟩
  rw [List.set_cons_succ]
  rw [List.getD_cons_succ] at hc
  by_cases hj : j < body.length
  · rw [List.set_append_left _ _ hj]
    have hl : (body.set j c).length = body.length := by simp
    have := unf_one (body.set j c) (fourL (crcL body)) [] (by omega) (fourL_len _)
    rw [hl, List.append_nil] at this
    rw [this, if_neg]
    intro h
    have h2 := crcL_set hj (four_inj (crcL_lt _) (crcL_lt _) h)
    apply hc
    rw [← h2]
    simp [List.getD, List.getElem?_append_left hj]
  · rw [List.set_append_right _ _ (by omega)]
    have := unf_one body ((fourL (crcL body)).set (j - body.length) c) [] hb (by simp [fourL_len])
    rw [List.append_nil] at this
    rw [this, if_neg]
    intro h
    refine set_other (l := fourL (crcL body)) (i := j - body.length) (c := c) (by rw [fourL_len]; omega) ?_ h.symm
    intro h2
    apply hc
    rw [← h2]
    simp [List.getD, List.getElem?_append_right (show body.length ≤ j by omega)]

theorem frame_cut (body : List UInt8) (hb : body.length < 128) (m : Nat) (h : m < body.length + 5) : unfL ((frameL body).take m) 0 = none := by
  rw [frame_one body hb]
  cases m with
  | zero => rfl
  | succ j =>
    rw [List.take_succ_cons]
    have hl : ((body ++ fourL (crcL body)).take j).length = j := by
      rw [List.length_take, List.length_append, fourL_len]
      omega
    generalize (body ++ fourL (crcL body)).take j = t at hl
    have hg : getL (UInt8.ofNat body.length :: t) 0 = some (body.length, 1) := by
      have := getL_numL [] t (body.length : Int)
      rw [numL_one hb, numC_nat (by omega)] at this
      exact this
    unfold unfL
    unfold pieceL
    rw [hg]
    simp only [List.length_cons, hl]
    by_cases hn : j + 1 - 1 < body.length
    · rw [if_pos hn]
    · rw [if_neg hn]
      simp only
      rw [if_neg]
      intro hx
      have := congrArg List.length hx
      rw [fourL_len] at this
      unfold partL at this
      rw [List.length_take, List.length_drop, List.length_cons, hl] at this
      omega
end Go.Proofs.Ytfigkoapebdlfaa
