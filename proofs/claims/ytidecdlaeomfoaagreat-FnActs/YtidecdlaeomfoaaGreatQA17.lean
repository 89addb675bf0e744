/- UrlBits, UrlPlain, Draw17P, RowStr, BytPlain, ActPlain, ActRow. -/
import Derived.Test.YtidecdlaeomfoaaGreatQA16
import Derived.Lib.SlTrimSet
set_option maxRecDepth 100000
namespace Go.Proofs.YtidecdlaeomfoaaGreat
open Go.RowKit
set_option linter.unusedVariables false
def blanksU : List UInt8 := [32, 9, 10, 13]
def httpL : List UInt8 := [104, 116, 116, 112, 58]
def httpsL : List UInt8 := [104, 116, 116, 112, 115, 58]
def schT (s : Int) : List UInt8 := if s = 1 then httpL else httpsL
def dec5 (n : Nat) : List UInt8 := if n < 10 then [dgU n] else if n < 100 then [dgU (n / 10), dgU (n % 10)] else if n < 1000 then [dgU (n / 100), dgU (n / 10 % 10), dgU (n % 10)]
 else if n < 10000 then [dgU (n / 1000), dgU (n / 100 % 10), dgU (n / 10 % 10), dgU (n % 10)] else [dgU (n / 10000), dgU (n / 1000 % 10), dgU (n / 100 % 10), dgU (n / 10 % 10), dgU (n % 10)]
def portT (s p : Int) : List UInt8 := if p = dport s then [] else 58 :: dec5 p.toNat
def cleanL (l : List UInt8) : List UInt8 := ((Lib.trimS l blanksU).takeWhile fun c => c != 35).filter fun c => c != 9 && c != 10 && c != 13
def slB (c : UInt8) : Bool := c == 47 || c == 92
def schemeL (t : List UInt8) : Option (Int × List UInt8) :=
 if 6 < t.length ∧ (lowerL t).take 5 = httpL ∧ slB (t.getD 5 0) = true ∧ slB (t.getD 6 0) = true then some (1, t.drop 5)
 else if 7 < t.length ∧ (lowerL t).take 6 = httpsL ∧ slB (t.getD 6 0) = true ∧ slB (t.getD 7 0) = true then some (2, t.drop 6) else none
def noEnd (c : UInt8) : Bool := !(slB c || c == 63)
def lastB (l : List UInt8) : Nat → Nat
 | 0 => 0
 | k + 1 => if l.getD k 0 = 93 then k else lastB l k
def colI (l : List UInt8) : Option Nat := ((l.drop (lastB l l.length)).findIdx? fun c => c == 58).map fun k => k + lastB l l.length
def backL (l : List UInt8) : List UInt8 := l.map fun c => if c = 92 then 47 else c
def orSl (l : List UInt8) : List UInt8 := if l = [] then [47] else l
def portN (s : Int) (p : List UInt8) : Int := if p = [] then dport s else match numL 10 5 p with
 | none => -1
 | some n => (n : Int)
theorem dec5_step {n : Nat} (h0 : 10 ≤ n) (h : n < 100000) : dec5 n = dec5 (n / 10) ++ [dgU (n % 10)] := by
 unfold dec5
 by_cases h1 : n < 100
 ·rw [if_neg (by omega), if_pos h1, if_pos (by omega)]; rfl
 rw [if_neg (by omega), if_neg h1, if_neg (by omega : ¬ n / 10 < 10)]
 by_cases h2 : n < 1000
 ·rw [if_pos h2, if_pos (by omega), Nat.div_div_eq_div_mul]; rfl
 rw [if_neg h2, if_neg (by omega : ¬ n / 10 < 100)]
 by_cases h3 : n < 10000
 ·rw [if_pos h3, if_pos (by omega), Nat.div_div_eq_div_mul, Nat.div_div_eq_div_mul]; rfl
 rw [if_neg h3, if_neg (by omega : ¬ n / 10 < 1000), if_pos (by omega), Nat.div_div_eq_div_mul, Nat.div_div_eq_div_mul, Nat.div_div_eq_div_mul]; rfl
structure UV where
 s : Int
 h : HV
 p : Int
 a : ByteArray
 q : Bool
 r : ByteArray
def orgL (u : UV) : List UInt8 := schT u.s ++ 47 :: 47 :: (toL (hTx u.h) ++ portT u.s u.p)
def rstL (u : UV) : List UInt8 := if u.q then toL u.a ++ 63 :: toL u.r else toL u.a
def uOk (u : UV) : Bool := decide (dport u.s ≠ 0) && hOk u.h && decide (1 ≤ u.p ∧ u.p ≤ 65535) && rooted u.a && (u.q || decide (u.r.size = 0)) &&
 okL 1 (toL u.a) && decide (plL 1 (toL u.a) = toL u.a) && decide (toL (dropT u.a) = toL u.a) && okL 2 (toL u.r) && decide (plL 2 (toL u.r) = toL u.r)
def uTx (u : UV) : List UInt8 := if uOk u = true then orgL u ++ rstL u else []
def tailU (s : Int) (h : HV) (p : Int) (l : List UInt8) : UV :=
 ⟨s, h, p, dropT (plB 1 ⟨(backL (orSl (l.takeWhile fun c => c != 63))).toArray⟩), !(l.dropWhile fun c => c != 63).isEmpty, plB 2 ⟨((l.dropWhile fun c => c != 63).drop 1).toArray⟩⟩
def noneU : UV := ⟨0, ⟨0, ⟨#[]⟩, 0, zeros⟩, 0, ⟨#[]⟩, false, ⟨#[]⟩⟩
def fitU (u : UV) : Int × UV := if (orgL u).length + (rstL u).length ≤ 2000 then (0, u) else (1, noneU)
def hostU (s p : Int) (auth rest : List UInt8) : Int × UV := if rC (readH ⟨auth.toArray⟩) = 0 then fitU (tailU s (rV (readH ⟨auth.toArray⟩)) p rest) else (4, noneU)
def cutU (s : Int) (auth rest : List UInt8) : Int × UV := match colI auth with
 | none => hostU s (dport s) auth rest
 | some k => if 1 ≤ portN s (auth.drop (k + 1)) ∧ portN s (auth.drop (k + 1)) ≤ 65535 then hostU s (portN s (auth.drop (k + 1))) (auth.take k) rest else (5, noneU)
def authU (s : Int) (auth rest : List UInt8) : Int × UV := if auth.contains 64 = true then (3, noneU) else cutU s auth rest
def slashU (s : Int) (t : List UInt8) : Int × UV := authU s ((t.dropWhile slB).takeWhile noEnd) ((t.dropWhile slB).dropWhile noEnd)
def readT (t : List UInt8) : Int × UV := match schemeL t with
 | none => (2, noneU)
 | some (s, t) => slashU s t
def readU (l : List UInt8) : Int × UV := if 2000 < l.length then (1, noneU) else readT (cleanL l)
def urlsA : List ByteArray := [⟨#[104, 116, 116, 112, 58, 47, 47, 97, 46, 99, 111, 109, 47]⟩,
 ⟨#[104, 116, 116, 112, 58, 47, 47, 97, 46, 99, 111, 109, 47, 120]⟩,
 ⟨#[104, 116, 116, 112, 58, 47, 47, 119, 119, 119, 46, 97, 46, 99, 111, 109, 47, 121, 63, 122, 61, 49]⟩,
 ⟨#[104, 116, 116, 112, 115, 58, 47, 47, 98, 46, 99, 111, 46, 117, 107, 47]⟩,
 ⟨#[104, 116, 116, 112, 58, 47, 47, 98, 46, 99, 111, 46, 117, 107, 47, 112, 47, 113]⟩,
 ⟨#[104, 116, 116, 112, 58, 47, 47, 99, 46, 117, 107, 47]⟩,
 ⟨#[72, 84, 84, 80, 58, 47, 47, 65, 46, 99, 111, 109, 47, 46, 47, 119]⟩,
 ⟨#[104, 116, 116, 112, 58, 47, 47, 91, 58, 58, 49, 93, 47]⟩,
 ⟨#[104, 116, 116, 112, 58, 47, 47, 97, 46, 99, 111, 109, 47, 112, 114, 105, 118, 97, 116, 101, 47, 49]⟩,
 ⟨#[104, 116, 116, 112, 58, 47, 47, 97, 46, 99, 111, 109, 47, 112, 114, 105, 118, 97, 116, 101, 47, 50]⟩]
theorem urlsA_ok : ∀ z ∈ urlsA, (readU z.data.toList).2.h.z.length = 8 ∧ (readU z.data.toList).2.h.s.size ≤ 2000 ∧ (readU z.data.toList).2.a.size ≤ 2000 ∧ (readU z.data.toList).2.r.size ≤ 2000 ∧ 1 ≤ (uTx (readU z.data.toList).2).length ∧ (uTx (readU z.data.toList).2).length ≤ 2000 := by decide +kernel
theorem urlsA_sz : ∀ z ∈ urlsA, 1 ≤ z.size ∧ z.size ≤ 2000 := by decide +kernel
end Go.Proofs.YtidecdlaeomfoaaGreat
namespace Go.Proofs.YtidecdlaeomfoaaGreat
open Go.RowKit
theorem own_room {w : World} {B : Nat} {e : TypeId} {size g n cap : Nat} {xs : List Value} (h : w.ownsRow B e size (.slice (some ⟨g, 0, none⟩) n cap) n xs) : n ≤ cap := by
 rcases h.2 with ⟨h, _⟩ | ⟨_, _, _, h, _, _, h3, _⟩
 ·cases h
 cases h; exact h3
def StrRow (w : World) (v : Value) (l : List ByteArray) : Prop :=
 (l = [] ∧ ∃ ao cap, v = .slice ao 0 cap) ∨ (0 < l.length ∧ ∃ g off cap, v = .slice (some ⟨g, off, none⟩) l.length (l.length + cap) ∧ g < w.heap.size ∧ ∀ i, i < l.length → w.cell? ⟨g, off + i, none⟩ = some (.string (l.getD i ByteArray.empty)))
theorem StrRow.same {w w' : World} {v : Value} {l : List ByteArray} (h : StrRow w v l) (hs : w.heap.size ≤ w'.heap.size) (hb : ∀ k, k < w.heap.size → w'.heap[k]? = w.heap[k]?) : StrRow w' v l := by
 rcases h with h | ⟨h0, g, off, cap, h1, h2, h3⟩
 ·exact .inl h
 exact .inr ⟨h0, g, off, cap, h1, by omega, fun i hi => (World.cell?_of_block (w := w) (a := ⟨g, off + i, none⟩) (hb g h2)).trans (h3 i hi)⟩
theorem StrRow.below {w w' : World} {v : Value} {l : List ByteArray} (h : StrRow w v l) (hb : Below w.heap.size w w') : StrRow w' v l := h.same hb.size hb.block
theorem StrRow.of_own {w : World} {B : Nat} {e : TypeId} {v : Value} {l : List ByteArray} {n : Nat} (h : w.ownsRow B e 1 v n (scells l)) : StrRow w v l := by
 have hl : l.length = n := by have := h.1; simpa [scells] using this
 subst hl
 rcases own_shape h with ⟨h0, h1, ao, cap, rfl⟩ | ⟨h0, g, cap, rfl⟩
 ·refine .inl ⟨List.eq_nil_of_length_eq_zero h0, ao, cap, ?_⟩
  rfl
 exact .inr ⟨h0, g, 0, cap - l.length, by rw [Nat.add_sub_cancel' (own_room h)], (h.lt g rfl).2, fun i hi => by rw [Nat.zero_add]; exact scell_at h i hi⟩
theorem StrRow.slice {w : World} {v : Value} {l : List ByteArray} (h : StrRow w v l) : ∃ ao cap, v = .slice ao l.length cap := by
 rcases h with ⟨rfl, ao, cap, rfl⟩ | ⟨_, g, off, cap, h1, _⟩
 ·exact ⟨ao, cap, rfl⟩
 exact ⟨_, _, h1⟩
theorem StrRow.nil (w : World) (ao : Option Addr) (cap : Nat) : StrRow w (.slice ao 0 cap) [] := .inl ⟨rfl, ao, cap, rfl⟩
end Go.Proofs.YtidecdlaeomfoaaGreat
namespace Go.Proofs.YtidecdlaeomfoaaGreat
open Go.RowKit
set_option linter.unusedVariables false
def gnF : Nat → Nat → List UInt8
 | 0, n => [UInt8.ofNat n]
 | f + 1, n => if n < 128 then [UInt8.ofNat n] else UInt8.ofNat (128 + n % 128) :: gnF f (n / 128)
def numC (n : Int) : Nat := if n < 0 then 0 else if 1000000000 < n then 1000000000 else n.toNat
def gnL (n : Int) : List UInt8 := gnF 4 (numC n)
def getA : Nat → Nat → Nat → List UInt8 → Option (Nat × Nat)
 | 0, _, _, _ => none
 | _ + 1, _, _, [] => none
 | f + 1, k, acc, c :: r =>
  if 128 ≤ c.toNat then getA f (k + 1) (acc + c.toNat % 128 * 128 ^ k) r
  else if (c.toNat = 0 ∧ 0 < k) ∨ 1000000000 < acc + c.toNat % 128 * 128 ^ k then none
  else some (acc + c.toNat % 128 * 128 ^ k, k + 1)
def getL (l : List UInt8) (p : Int) : Option (Nat × Nat) :=
 if p < 0 ∨ (l.length : Int) < p then none else (getA 5 0 0 (l.drop p.toNat)).map fun r => (r.1, p.toNat + r.2)
def pieceL (l : List UInt8) (p : Int) : Option (Nat × Nat) :=
 match getL l p with
 | none => none
 | some (n, q) => if l.length - q < n then none else some (q, n)
def partL (l : List UInt8) (q n : Nat) : List UInt8 := (l.drop q).take n
def crcBit (x : Nat) : Nat := if x % 2 = 1 then (x / 2) ^^^ 3988292384 else x / 2
def crcBits : Nat → Nat → Nat
 | 0, x => x
 | k + 1, x => crcBits k (crcBit x)
def crcByte (x : Nat) (c : UInt8) : Nat := crcBits 8 (x ^^^ c.toNat)
def crcF (x : Nat) (l : List UInt8) : Nat := l.foldl crcByte x
def crcL (l : List UInt8) : Nat := 4294967295 - crcF 4294967295 l
def fourL (x : Nat) : List UInt8 := [UInt8.ofNat x, UInt8.ofNat (x / 256), UInt8.ofNat (x / 65536), UInt8.ofNat (x / 16777216)]
def frameL (l : List UInt8) : List UInt8 := gnL l.length ++ l ++ fourL (crcL l)
def unfL (l : List UInt8) (p : Int) : Option (Nat × Nat) :=
 match pieceL l p with
 | none => none
 | some (q, n) => if fourL (crcL (partL l q n)) = partL l (q + n) 4 then some (q, n) else none
theorem numF_len : ∀ f n, 1 ≤ (gnF f n).length ∧ (gnF f n).length ≤ f + 1
 | 0, n => by simp [gnF]
 | f + 1, n => by
  unfold gnF
  split
  ·simp
  have := numF_len f (n / 128)
  simp only [List.length_cons]
  omega
theorem numC_le (n : Int) : numC n ≤ 1000000000 := by
 unfold numC
 split
 ·omega
 split <;> omega
theorem numL_len (n : Int) : 1 ≤ (gnL n).length ∧ (gnL n).length ≤ 5 := numF_len 4 _
theorem ofNat_toNat {n : Nat} (h : n < 256) : (UInt8.ofNat n).toNat = n := by
 simp only [UInt8.toNat_ofNat']
 exact Nat.mod_eq_of_lt (by omega)
theorem pow_step (k : Nat) : 128 ^ (k + 1) = 128 ^ k * 128 := Nat.pow_succ ..
theorem getA_numF : ∀ (f k acc n : Nat) (r : List UInt8), n < 128 ^ (f + 1) → acc + n * 128 ^ k ≤ 1000000000 → (k = 0 ∨ 0 < n) →
  getA (f + 1) k acc (gnF f n ++ r) = some (acc + n * 128 ^ k, k + (gnF f n).length)
 | 0, k, acc, n, r, h0, h1, h2 => by
  have hn : n < 128 := by simpa using h0
  simp only [gnF, List.cons_append, List.nil_append, getA, ofNat_toNat (show n < 256 by omega), Nat.mod_eq_of_lt hn, List.length_cons, List.length_nil]
  rw [if_neg (by omega), if_neg (by omega)]
 | f + 1, k, acc, n, r, h0, h1, h2 => by
  unfold gnF
  by_cases hn : n < 128
  ·rw [if_pos hn]
   simp only [List.cons_append, List.nil_append, getA, ofNat_toNat (show n < 256 by omega), Nat.mod_eq_of_lt hn, List.length_cons, List.length_nil]
   rw [if_neg (by omega), if_neg (by omega)]
  rw [if_neg hn]
  have hm : n % 128 < 128 := Nat.mod_lt _ (by omega)
  have hd : (n / 128) * 128 + n % 128 = n := by omega
  have key : acc + n % 128 * 128 ^ k + n / 128 * 128 ^ (k + 1) = acc + n * 128 ^ k := by
   rw [pow_step, ← Nat.mul_assoc, Nat.mul_right_comm, Nat.add_assoc, ← Nat.add_mul]
   congr 2
   omega
  have hq : n / 128 < 128 ^ (f + 1) := by
   rw [pow_step] at h0
   exact Nat.div_lt_of_lt_mul (by rw [Nat.mul_comm]; exact h0)
  simp only [List.cons_append, List.length_cons]
  rw [show getA (f + 1 + 1) k acc (UInt8.ofNat (128 + n % 128) :: (gnF f (n / 128) ++ r)) = getA (f + 1) (k + 1) (acc + n % 128 * 128 ^ k) (gnF f (n / 128) ++ r) by
   rw [getA, ofNat_toNat (by omega), if_pos (by omega), show (128 + n % 128) % 128 = n % 128 by omega]]
  rw [getA_numF f (k + 1) _ (n / 128) r hq (by omega) (.inr (by omega)), key]
  congr 2
  omega
theorem getL_numL (b r : List UInt8) (n : Int) : getL (b ++ (gnL n ++ r)) b.length = some (numC n, b.length + (gnL n).length) := by
 have hc := numC_le n
 unfold getL
 rw [if_neg (by simp only [List.length_append]; omega), Int.toNat_natCast, List.drop_left]
 unfold gnL
 rw [getA_numF 4 0 0 (numC n) r (by omega) (by simp; omega) (.inl rfl)]
 simp
theorem getA_le : ∀ (f k acc : Nat) (l : List UInt8) {n q : Nat}, getA f k acc l = some (n, q) → n ≤ 1000000000 ∧ k < q ∧ q ≤ k + l.length ∧ q ≤ k + f
 | 0, k, acc, l, n, q, h => by simp [getA] at h
 | f + 1, k, acc, [], n, q, h => by simp [getA] at h
 | f + 1, k, acc, c :: r, n, q, h => by
  rw [getA] at h
  split at h
  ·have := getA_le f (k + 1) _ r h
   simp only [List.length_cons]
   omega
  split at h
  ·simp at h
  obtain ⟨rfl, rfl⟩ := by simpa using h
  simp only [List.length_cons]
  omega
theorem getL_le {l : List UInt8} {p : Int} {n q : Nat} (h : getL l p = some (n, q)) : n ≤ 1000000000 ∧ 0 ≤ p ∧ p < q ∧ q ≤ l.length := by
 unfold getL at h
 split at h
 ·simp at h
 rename_i hp
 cases hg : getA 5 0 0 (l.drop p.toNat) with
 | none => rw [hg] at h; simp at h
 | some r =>
  obtain ⟨a, b⟩ := r
  rw [hg] at h
  obtain ⟨rfl, rfl⟩ := by simpa using h
  have := getA_le _ _ _ _ hg
  rw [List.length_drop] at this
  omega
theorem pieceL_le {l : List UInt8} {p : Int} {q n : Nat} (h : pieceL l p = some (q, n)) : q + n ≤ l.length := by
 unfold pieceL at h
 split at h
 ·simp at h
 rename_i a b hg
 have := getL_le hg
 split at h
 ·simp at h
 obtain ⟨rfl, rfl⟩ := by simpa using h
 omega
theorem partL_len {l : List UInt8} {q n : Nat} (h : q + n ≤ l.length) : (partL l q n).length = n := by
 unfold partL
 rw [List.length_take, List.length_drop]
 omega
theorem crcBit_lt {x : Nat} (h : x < 4294967296) : crcBit x < 4294967296 := by
 unfold crcBit
 split
 ·exact Nat.xor_lt_two_pow (n := 32) (by omega) (by omega)
 omega
theorem crcL_lt (l : List UInt8) : crcL l < 4294967296 := by unfold crcL; omega
theorem crcF_snoc (l : List UInt8) (c : UInt8) (x : Nat) : crcF x (l ++ [c]) = crcByte (crcF x l) c := by simp [crcF]
theorem crc_turn (x : Nat) (h : x < 4294967296) : x ^^^ 4294967295 = 4294967295 - x := by
 have := BitVec.xor_allOnes (x := BitVec.ofNat 32 x)
 have h2 := congrArg BitVec.toNat this
 rw [BitVec.toNat_xor, BitVec.toNat_not, BitVec.toNat_allOnes, BitVec.toNat_ofNat, Nat.mod_eq_of_lt (by omega)] at h2
 omega
theorem fourL_len (x : Nat) : (fourL x).length = 4 := rfl
theorem numC_nat {n : Nat} (h : n ≤ 1000000000) : numC (n : Int) = n := by
 unfold numC
 rw [if_neg (by omega), if_neg (by omega)]
 omega
theorem pieceL_back (b s r : List UInt8) (h : s.length ≤ 1000000000) : pieceL (b ++ (gnL s.length ++ (s ++ r))) b.length = some (b.length + (gnL s.length).length, s.length) := by
 unfold pieceL
 rw [getL_numL]
 simp only [numC_nat h]
 rw [if_neg (by simp only [List.length_append]; omega)]
theorem partL_mid (a s r : List UInt8) : partL (a ++ (s ++ r)) a.length s.length = s := by
 unfold partL
 rw [List.drop_left, List.take_left]
structure AV where
 k : Int
 t : ByteArray
 b : ByteArray
 n : Int
def av0 : AV := ⟨0, ByteArray.empty, ByteArray.empty, 0⟩
def actB (a : AV) : Bool :=
 if a.k = 1 then decide (0 < a.t.size ∧ a.t.size ≤ 2000 ∧ a.b.size = 0 ∧ 0 ≤ a.n ∧ a.n ≤ 1000)
 else if a.k = 2 then decide (0 < a.t.size ∧ a.t.size ≤ 2000 ∧ a.b.size ≤ 2000 ∧ 1 ≤ a.n ∧ a.n ≤ 1000000)
 else if a.k = 4 ∨ a.k = 5 then decide (0 < a.t.size ∧ a.t.size ≤ 2000 ∧ a.b.size = 0 ∧ a.n = 0)
 else if a.k = 6 then decide (a.t.size = 0 ∧ a.b.size = 0 ∧ 1 ≤ a.n ∧ a.n ≤ 10000)
 else if a.k = 3 ∨ a.k = 7 then decide (a.t.size = 0 ∧ a.b.size = 0 ∧ a.n = 0)
 else false
theorem actB_le {a : AV} (h : actB a = true) : 0 ≤ a.k ∧ a.k ≤ 7 ∧ 0 ≤ a.n ∧ a.n ≤ 1000000 ∧ a.t.size ≤ 2000 ∧ a.b.size ≤ 2000 := by
 unfold actB at h
 split at h
 ·have := of_decide_eq_true h; omega
 split at h
 ·have := of_decide_eq_true h; omega
 split at h
 ·have := of_decide_eq_true h; omega
 split at h
 ·have := of_decide_eq_true h; omega
 split at h
 ·have := of_decide_eq_true h; omega
 cases h
def rwA (a : AV) : List UInt8 := gnL a.k ++ (gnL a.n ++ (gnL a.t.size ++ (a.t.data.toList ++ (gnL a.b.size ++ a.b.data.toList))))
def actL (a : AV) : List UInt8 := if actB a then rwA a else []
theorem rawL_len (a : AV) : (rwA a).length ≤ 20 + a.t.size + a.b.size ∧ 4 ≤ (rwA a).length := by
 have h1 := numL_len a.k
 have h2 := numL_len a.n
 have h3 := numL_len a.t.size
 have h4 := numL_len a.b.size
 have e1 : a.t.data.toList.length = a.t.size := rfl
 have e2 : a.b.data.toList.length = a.b.size := rfl
 unfold rwA
 simp only [List.length_append]
 omega
theorem actL_len (a : AV) : (actL a).length ≤ 4020 := by
 unfold actL
 split
 ·rename_i h
  have := actB_le h
  have := (rawL_len a).1
  omega
 exact Nat.zero_le _
def numO : Option (Nat × Nat) → Nat
 | none => 0
 | some (n, _) => n
def posO : Option (Nat × Nat) → Nat
 | none => 0
 | some (_, q) => q
def txtO (l : List UInt8) : Option (Nat × Nat) → ByteArray
 | none => ByteArray.empty
 | some (q, n) => ⟨(partL l q n).toArray⟩
def endO : Option (Nat × Nat) → Nat
 | none => 0
 | some (q, n) => q + n
def g1 (l : List UInt8) := getL l 0
def g2 (l : List UInt8) := getL l (posO (g1 l))
def g3 (l : List UInt8) := pieceL l (posO (g2 l))
def g4 (l : List UInt8) := pieceL l (endO (g3 l))
def readA (l : List UInt8) : AV := ⟨numO (g1 l), txtO l (g3 l), txtO l (g4 l), numO (g2 l)⟩
def getAct (l : List UInt8) : Option AV := if actB (readA l) = true ∧ rwA (readA l) = l then some (readA l) else none
theorem raw_get (a : AV) (h : actB a = true) : g1 (rwA a) = some (a.k.toNat, (gnL a.k).length) ∧ g2 (rwA a) = some (a.n.toNat, (gnL a.k ++ gnL a.n).length)
  ∧ g3 (rwA a) = some ((gnL a.k ++ gnL a.n).length + (gnL a.t.size).length, a.t.size)
  ∧ g4 (rwA a) = some ((gnL a.k ++ (gnL a.n ++ (gnL a.t.size ++ a.t.data.toList))).length + (gnL a.b.size).length, a.b.size) := by
 obtain ⟨h1, h2, h3, h4, h5, h6⟩ := actB_le h
 have e1 : g1 (rwA a) = some (a.k.toNat, (gnL a.k).length) := by
  have := getL_numL [] (gnL a.n ++ (gnL a.t.size ++ (a.t.data.toList ++ (gnL a.b.size ++ a.b.data.toList)))) a.k
  simp only [List.nil_append, List.length_nil, Nat.zero_add] at this
  have hk : numC a.k = a.k.toNat := by unfold numC; rw [if_neg (by omega), if_neg (by omega)]
  rw [hk] at this
  exact this
 have e2 : g2 (rwA a) = some (a.n.toNat, (gnL a.k ++ gnL a.n).length) := by
  unfold g2
  rw [e1]
  have := getL_numL (gnL a.k) (gnL a.t.size ++ (a.t.data.toList ++ (gnL a.b.size ++ a.b.data.toList))) a.n
  have hk : numC a.n = a.n.toNat := by unfold numC; rw [if_neg (by omega), if_neg (by omega)]
  rw [hk] at this
  rw [List.length_append]
  exact this
 have s1 : a.t.data.toList.length = a.t.size := rfl
 have s2 : a.b.data.toList.length = a.b.size := rfl
 have e3 : g3 (rwA a) = some ((gnL a.k ++ gnL a.n).length + (gnL a.t.size).length, a.t.size) := by
  unfold g3
  rw [e2]
  have := pieceL_back (gnL a.k ++ gnL a.n) a.t.data.toList (gnL a.b.size ++ a.b.data.toList) (by omega)
  rw [List.append_assoc] at this
  exact this
 refine ⟨e1, e2, e3, ?_⟩
 unfold g4
 rw [e3]
 have := pieceL_back (gnL a.k ++ (gnL a.n ++ (gnL a.t.size ++ a.t.data.toList))) a.b.data.toList [] (by omega)
 simp only [List.append_nil, List.append_assoc] at this
 have hp : endO (some ((gnL a.k ++ gnL a.n).length + (gnL a.t.size).length, a.t.size)) = (gnL a.k ++ (gnL a.n ++ (gnL a.t.size ++ a.t.data.toList))).length := by
  show _ + _ + _ = _
  simp only [List.length_append, s1]
  omega
 rw [hp]
 exact this
theorem get_put (a : AV) (h : actB a = true) : getAct (rwA a) = some a := by
 obtain ⟨e1, e2, e3, e4⟩ := raw_get a h
 obtain ⟨h1, h2, h3, h4, h5, h6⟩ := actB_le h
 have s1 : a.t.data.toList.length = a.t.size := rfl
 have s2 : a.b.data.toList.length = a.b.size := rfl
 have hr : readA (rwA a) = a := by
  unfold readA
  rw [e1, e2, e3, e4]
  have t1 : txtO (rwA a) (some ((gnL a.k ++ gnL a.n).length + (gnL a.t.size).length, a.t.size)) = a.t := by
   show (⟨(partL _ _ _).toArray⟩ : ByteArray) = a.t
   have := partL_mid (gnL a.k ++ (gnL a.n ++ gnL a.t.size)) a.t.data.toList (gnL a.b.size ++ a.b.data.toList)
   simp only [List.append_assoc, s1] at this
   unfold rwA
   rw [show (gnL a.k ++ gnL a.n).length + (gnL a.t.size).length = (gnL a.k ++ (gnL a.n ++ gnL a.t.size)).length by simp only [List.length_append]; omega, this]
  have t2 : txtO (rwA a) (some ((gnL a.k ++ (gnL a.n ++ (gnL a.t.size ++ a.t.data.toList))).length + (gnL a.b.size).length, a.b.size)) = a.b := by
   show (⟨(partL _ _ _).toArray⟩ : ByteArray) = a.b
   have := partL_mid (gnL a.k ++ (gnL a.n ++ (gnL a.t.size ++ (a.t.data.toList ++ gnL a.b.size)))) a.b.data.toList []
   simp only [List.append_assoc, List.append_nil, s2] at this
   unfold rwA
   rw [show (gnL a.k ++ (gnL a.n ++ (gnL a.t.size ++ a.t.data.toList))).length + (gnL a.b.size).length = (gnL a.k ++ (gnL a.n ++ (gnL a.t.size ++ (a.t.data.toList ++ gnL a.b.size)))).length by simp only [List.length_append]; omega, this]
  rw [t1, t2]
  show AV.mk _ _ _ _ = a
  obtain ⟨k, t, b, n⟩ := a
  show AV.mk (numO (some (k.toNat, _)) : Int) t b (numO (some (n.toNat, _)) : Int) = _
  have q1 : ((numO (some (k.toNat, (gnL k).length)) : Nat) : Int) = k := by show ((k.toNat : Nat) : Int) = k; have : 0 ≤ k := h1; omega
  have q2 : ((numO (some (n.toNat, (gnL k ++ gnL n).length)) : Nat) : Int) = n := by show ((n.toNat : Nat) : Int) = n; have : 0 ≤ n := h3; omega
  rw [q1, q2]
 unfold getAct
 rw [hr, if_pos ⟨h, rfl⟩]
theorem getA_canon : ∀ (f k acc : Nat) (l : List UInt8) {n q : Nat}, getA (f + 1) k acc l = some (n, q) →
  ∃ m, n = acc + m * 128 ^ k ∧ (0 < k → 0 < m) ∧ k < q ∧ l = gnF f m ++ l.drop (q - k)
 | f, k, acc, [], n, q, h => by cases h
 | f, k, acc, c :: r, n, q, h => by
  have hc := c.toNat_lt
  rw [getA] at h
  split at h
  ·rename_i h1
   cases f with
   | zero => cases h
   | succ f =>
    obtain ⟨m, e1, e2, e3, e4⟩ := getA_canon f (k + 1) _ r h
    have hm := e2 (Nat.succ_pos k)
    refine ⟨c.toNat % 128 + m * 128, ?_, fun _ => by omega, by omega, ?_⟩
    ·rw [e1, pow_step, Nat.add_mul, ← Nat.mul_assoc]
     have : m * 128 ^ k * 128 = m * 128 * 128 ^ k := by rw [Nat.mul_assoc, Nat.mul_comm (128 ^ k) 128, ← Nat.mul_assoc]
     omega
    rw [gnF, if_neg (by omega), show (c.toNat % 128 + m * 128) % 128 = c.toNat % 128 by omega, show (c.toNat % 128 + m * 128) / 128 = m by omega]
    have hcc : UInt8.ofNat (128 + c.toNat % 128) = c := by
     apply UInt8.toNat_inj.1
     rw [ofNat_toNat (by omega)]
     omega
    rw [hcc, show q - k = (q - (k + 1)) + 1 by omega, List.drop_succ_cons, List.cons_append, ← e4]
  split at h
  ·cases h
  rename_i h1 h2
  obtain ⟨rfl, rfl⟩ : acc + c.toNat % 128 * 128 ^ k = n ∧ k + 1 = q := by simpa using h
  refine ⟨c.toNat, by rw [Nat.mod_eq_of_lt (by omega)], fun hk => by omega, by omega, ?_⟩
  have hcc : UInt8.ofNat c.toNat = c := by simp
  have e : gnF f c.toNat = [c] := by
   cases f with
   | zero => rw [gnF, hcc]
   | succ f => rw [gnF, if_pos (by omega), hcc]
  rw [e, show k + 1 - k = 1 by omega]
  rfl
theorem getL_canon {l : List UInt8} {p n q : Nat} (h : getL l (p : Int) = some (n, q)) : l.drop p = gnL n ++ l.drop q ∧ p < q := by
 have hle := (getL_le h).1
 unfold getL at h
 split at h
 ·cases h
 rename_i hc
 rw [Int.toNat_natCast] at h
 cases hg : getA 5 0 0 (l.drop p) with
 | none => rw [hg] at h; cases h
 | some r =>
  obtain ⟨n', q'⟩ := r
  rw [hg] at h
  obtain ⟨rfl, rfl⟩ : n' = n ∧ p + q' = q := by simpa using h
  obtain ⟨m, e1, _, e3, e4⟩ := getA_canon 4 0 0 (l.drop p) hg
  have : m = n' := by rw [e1]; simp
  subst this
  refine ⟨?_, by omega⟩
  rw [List.drop_drop, Nat.sub_zero] at e4
  unfold gnL
  rw [numC_nat hle]
  exact e4
def actsL (l : List AV) : List UInt8 := l.flatMap fun a => if actB a then frameL (rwA a) else []
theorem actsL_snoc (l : List AV) (a : AV) : actsL (l ++ [a]) = actsL l ++ (if actB a then frameL (rwA a) else []) := by
 unfold actsL
 rw [List.flatMap_append]
 simp
theorem frameL_len (l : List UInt8) : (frameL l).length ≤ l.length + 9 := by
 have := numL_len l.length
 unfold frameL
 simp only [List.length_append, fourL_len]
 omega
theorem actsL_len : ∀ l : List AV, (actsL l).length ≤ 4040 * l.length
 | [] => Nat.le_refl _
 | a :: l => by
  have ih := actsL_len l
  have h1 : (if actB a then frameL (rwA a) else []).length ≤ 4040 := by
   split
   ·rename_i h
    have := actB_le h
    have := (rawL_len a).1
    have := frameL_len (rwA a)
    omega
   exact Nat.zero_le _
  have e : actsL (a :: l) = (if actB a then frameL (rwA a) else []) ++ actsL l := by unfold actsL; rw [List.flatMap_cons]
  rw [e, List.length_append, List.length_cons]
  omega
def stepA (l : List UInt8) (p : Int) : Option (AV × Nat) :=
 match unfL l p with
 | none => none
 | some (q, n) => match getAct (partL l q n) with
  | none => none
  | some a => some (a, q + n + 4)
def readF : Nat → List UInt8 → Nat → List AV → List AV × Nat
 | 0, _, p, acc => (acc, p)
 | f + 1, l, p, acc => match stepA l p with
  | none => (acc, p)
  | some (a, q) => readF f l q (acc ++ [a])
def rdA (l : List UInt8) : List AV × Nat := readF (l.length + 1) l 0 []
theorem unfL_le {l : List UInt8} {p : Int} {q n : Nat} (h : unfL l p = some (q, n)) : 0 ≤ p ∧ p < q ∧ q + n + 4 ≤ l.length := by
 unfold unfL at h
 cases hp : pieceL l p with
 | none => rw [hp] at h; cases h
 | some r =>
  obtain ⟨q', n'⟩ := r
  rw [hp] at h
  dsimp only at h
  split at h
  ·rename_i hf
   obtain ⟨rfl, rfl⟩ : q' = q ∧ n' = n := by simpa using h
   have hl := congrArg List.length hf
   rw [fourL_len] at hl
   unfold partL at hl
   rw [List.length_take, List.length_drop] at hl
   unfold pieceL at hp
   cases hg : getL l p with
   | none => rw [hg] at hp; cases hp
   | some r2 =>
    obtain ⟨n2, q2⟩ := r2
    have := getL_le hg
    rw [hg] at hp
    dsimp only at hp
    split at hp
    ·cases hp
    obtain ⟨rfl, rfl⟩ : q2 = q' ∧ n2 = n' := by simpa using hp
    omega
  cases h
theorem stepA_le {l : List UInt8} {p : Nat} {a : AV} {q : Nat} (h : stepA l p = some (a, q)) : p + 5 ≤ q ∧ q ≤ l.length := by
 unfold stepA at h
 cases hu : unfL l p with
 | none => rw [hu] at h; cases h
 | some r =>
  obtain ⟨q', n⟩ := r
  have := unfL_le hu
  rw [hu] at h
  dsimp only at h
  cases hg : getAct (partL l q' n) with
  | none => rw [hg] at h; cases h
  | some b =>
   rw [hg] at h
   obtain ⟨_, rfl⟩ : b = a ∧ q' + n + 4 = q := by simpa using h
   omega
theorem readF_more : ∀ (f : Nat) (l : List UInt8) (p : Nat) (acc : List AV), l.length + 1 ≤ f + p → readF (f + 1) l p acc = readF f l p acc
 | 0, l, p, acc, h => by
  have : stepA l p = none := by
   cases hs : stepA l p with
   | none => rfl
   | some r => obtain ⟨a, q⟩ := r; have := stepA_le hs; omega
  show (match stepA l p with | none => _ | some (a, q) => _) = _
  rw [this]
  rfl
 | f + 1, l, p, acc, h => by
  show (match stepA l p with | none => (acc, p) | some (a, q) => readF (f + 1) l q (acc ++ [a])) = (match stepA l p with | none => (acc, p) | some (a, q) => readF f l q (acc ++ [a]))
  cases hs : stepA l p with
  | none => rfl
  | some r =>
   obtain ⟨a, q⟩ := r
   have := stepA_le hs
   exact readF_more f l q _ (by omega)
theorem readF_next {l : List UInt8} {p : Nat} {acc : List AV} {a : AV} {q : Nat} (h : stepA l p = some (a, q)) : readF (l.length + 1) l p acc = readF (l.length + 1) l q (acc ++ [a]) := by
 have hq := stepA_le h
 rw [← readF_more (l.length + 1) l q _ (by omega)]
 have e : readF (l.length + 1 + 1) l p acc = readF (l.length + 1) l q (acc ++ [a]) := by
  show (match stepA l p with | none => (acc, p) | some (a, q) => readF (l.length + 1) l q (acc ++ [a])) = _
  rw [h]
 rw [readF_more (l.length + 1) l q _ (by omega), ← e, readF_more (l.length + 1) l p _ (by omega)]
theorem readF_stop {l : List UInt8} {p : Nat} {acc : List AV} (h : stepA l p = none) : readF (l.length + 1) l p acc = (acc, p) := by
 show (match stepA l p with | none => (acc, p) | some (a, q) => readF l.length l q (acc ++ [a])) = _
 rw [h]
def av4 (x : AV) : List Value := [.int .i64 x.k, .string x.t, .string x.b, .int .i64 x.n]
def ActAt (w : World) (g o : Nat) (x : AV) : Prop := w.cell? ⟨g, o, none⟩ = some (.int .i64 x.k) ∧ w.cell? ⟨g, o + 1, none⟩ = some (.string x.t) ∧ w.cell? ⟨g, o + 2, none⟩ = some (.string x.b) ∧ w.cell? ⟨g, o + 3, none⟩ = some (.int .i64 x.n)
theorem ActAt.same {w w' : World} {g o : Nat} {x : AV} (h : ActAt w g o x) (hb : w'.heap[g]? = w.heap[g]?) : ActAt w' g o x :=
 ⟨(World.cell?_of_block (w := w) (a := ⟨g, o, none⟩) hb).trans h.1, (World.cell?_of_block (w := w) (a := ⟨g, o + 1, none⟩) hb).trans h.2.1, (World.cell?_of_block (w := w) (a := ⟨g, o + 2, none⟩) hb).trans h.2.2.1, (World.cell?_of_block (w := w) (a := ⟨g, o + 3, none⟩) hb).trans h.2.2.2⟩
theorem ActAt.below {w w' : World} {g o m : Nat} {x : AV} (h : ActAt w g o x) (hb : Below m w w') (hg : g < m) : ActAt w' g o x := h.same (hb.block g hg)
def ActRow (w : World) (v : Value) (l : List AV) : Prop :=
 (l = [] ∧ ∃ ao cap, v = .slice ao 0 cap) ∨ (0 < l.length ∧ ∃ g off cap, v = .slice (some ⟨g, off, none⟩) l.length (l.length + cap) ∧ g < w.heap.size ∧ ∀ i, i < l.length → ActAt w g (off + i * 4) (l.getD i av0))
theorem ActRow.same {w w' : World} {v : Value} {l : List AV} (h : ActRow w v l) (hs : w.heap.size ≤ w'.heap.size) (hb : ∀ k, k < w.heap.size → w'.heap[k]? = w.heap[k]?) : ActRow w' v l := by
 rcases h with h | ⟨h0, g, off, cap, h1, h2, h3⟩
 ·exact .inl h
 exact .inr ⟨h0, g, off, cap, h1, by omega, fun i hi => (h3 i hi).same (hb g h2)⟩
theorem ActRow.below {w w' : World} {v : Value} {l : List AV} (h : ActRow w v l) (hb : Below w.heap.size w w') : ActRow w' v l := h.same hb.size hb.block
theorem ActRow.slice {w : World} {v : Value} {l : List AV} (h : ActRow w v l) : ∃ ao cap, v = .slice ao l.length cap := by
 rcases h with ⟨rfl, ao, cap, rfl⟩ | ⟨_, g, off, cap, h1, _⟩
 ·exact ⟨ao, cap, rfl⟩
 exact ⟨_, _, h1⟩
def acells (l : List AV) : List Value := l.flatMap av4
theorem acells_append (l m : List AV) : acells (l ++ m) = acells l ++ acells m := by unfold acells; rw [List.flatMap_append]
theorem acells_cons (x : AV) (l : List AV) : acells (x :: l) = .int .i64 x.k :: .string x.t :: .string x.b :: .int .i64 x.n :: acells l := rfl
theorem acells_at : ∀ (l : List AV) (i : Nat), i < l.length → (acells l)[i * 4]? = some (.int .i64 (l.getD i av0).k) ∧ (acells l)[i * 4 + 1]? = some (.string (l.getD i av0).t) ∧ (acells l)[i * 4 + 2]? = some (.string (l.getD i av0).b) ∧ (acells l)[i * 4 + 3]? = some (.int .i64 (l.getD i av0).n)
 | [], i, h => absurd h (Nat.not_lt_zero _)
 | x :: l, 0, _ => ⟨rfl, rfl, rfl, rfl⟩
 | x :: l, i + 1, h => by
  have := acells_at l i (by simpa using h)
  rw [acells_cons, show (i + 1) * 4 = i * 4 + 1 + 1 + 1 + 1 by omega]
  exact this
theorem ActRow.of_own {w : World} {base : Nat} {e : TypeId} {v : Value} {l : List AV} (h : w.ownsRow base e 4 v l.length (acells l)) : ActRow w v l := by
 by_cases h0 : l.length = 0
 ·have hl : l = [] := List.eq_nil_of_length_eq_zero h0
  rw [h0] at h
  rcases h.2 with ⟨rfl, _⟩ | ⟨g, cap, cur, rfl, _⟩
  ·exact .inl ⟨hl, _, _, rfl⟩
  exact .inl ⟨hl, _, _, rfl⟩
 rcases h.2 with ⟨_, h1⟩ | ⟨g, cap, cur, rfl, _⟩
 ·exact absurd h1 h0
 refine .inr ⟨by omega, g, 0, cap - l.length, by rw [Nat.add_sub_cancel' (own_room h)], (h.lt g rfl).2, fun i hi => ?_⟩
 obtain ⟨h1, h2, h3, h4⟩ := acells_at l i hi
 rw [Nat.zero_add]
 exact ⟨(h.cellAt (i * 4) (by omega)).trans h1, (h.cellAt (i * 4 + 1) (by omega)).trans h2, (h.cellAt (i * 4 + 2) (by omega)).trans h3, (h.cellAt (i * 4 + 3) (by omega)).trans h4⟩
end Go.Proofs.YtidecdlaeomfoaaGreat
