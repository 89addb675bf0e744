/- Patterns and paths, plainly: which places a pattern leads to; the line that decides. -/
import Derived.Test.YtbjidcejpdeegaaRows
import Derived.Test.YtbjidcejpdeegaaBase
namespace Go.Proofs.Ytbjidcejpdeegaa
open Go.RowKit
set_option linter.unusedVariables false

/-- Does a pattern, told from its end, lead to this place of a path? -/
def mA (s : List UInt8) : List UInt8 → Nat → Bool
  | [], k => k == 0
  | c :: q, k => if c = 42 then (List.range (k + 1)).any (mA s q) else decide (0 < k) && mA s q (k - 1) && decide (s[k - 1]? = some c)
def endM (p : List UInt8) : Bool := decide (p.getLast? = some 36)
def cutM (p : List UInt8) : List UInt8 := if endM p = true then p.dropLast else p
def matB (p s : List UInt8) : Bool := (List.range (s.length + 1)).any fun k => mA s (cutM p).reverse k && (!endM p || k == s.length)

theorem mA_star (s q : List UInt8) (k : Nat) : mA s (42 :: q) k = (List.range (k + 1)).any (mA s q) := by rw [mA, if_pos rfl]
theorem mA_star0 (s q : List UInt8) : mA s (42 :: q) 0 = mA s q 0 := by rw [mA_star]; simp
theorem mA_star1 (s q : List UInt8) (k : Nat) : mA s (42 :: q) (k + 1) = (mA s q (k + 1) || mA s (42 :: q) k) := by
  rw [mA_star, mA_star, List.range_succ, List.any_append, Bool.or_comm]
  simp
theorem mA_byte {c : UInt8} (hc : c ≠ 42) (s q : List UInt8) (k : Nat) : mA s (c :: q) k = (decide (0 < k) && mA s q (k - 1) && decide (s[k - 1]? = some c)) := by rw [mA, if_neg hc]
theorem any_range {n : Nat} {p : Nat → Bool} : (List.range n).any p = true ↔ ∃ i, i < n ∧ p i = true := by
  rw [List.any_eq_true]
  exact ⟨fun ⟨i, h, hi⟩ => ⟨i, List.mem_range.1 h, hi⟩, fun ⟨i, h, hi⟩ => ⟨i, List.mem_range.2 h, hi⟩⟩
theorem matB_iff {p s : List UInt8} : matB p s = true ↔ ∃ k, k ≤ s.length ∧ mA s (cutM p).reverse k = true ∧ (endM p = true → k = s.length) := by
  unfold matB
  rw [any_range]
  constructor
  · rintro ⟨k, hk, h⟩
    simp only [Bool.and_eq_true, Bool.or_eq_true, Bool.not_eq_true', beq_iff_eq] at h
    refine ⟨k, by omega, h.1, fun he => ?_⟩
    rcases h.2 with h2 | h2
    · rw [he] at h2; cases h2
    · exact h2
  · rintro ⟨k, hk, h1, h2⟩
    refine ⟨k, by omega, ?_⟩
    simp only [Bool.and_eq_true, Bool.or_eq_true, Bool.not_eq_true', beq_iff_eq]
    refine ⟨h1, ?_⟩
    cases he : endM p with
    | false => exact .inl rfl
    | true => exact .inr (h2 he)
theorem mA_more (s t : List UInt8) : ∀ (q : List UInt8) (k : Nat), k ≤ s.length → mA (s ++ t) q k = mA s q k
  | [], k, _ => rfl
  | c :: q, k, hk => by
    by_cases hc : c = 42
    · rw [hc, mA_star, mA_star, Bool.eq_iff_iff, any_range, any_range]
      constructor
      · rintro ⟨i, hi, h⟩; exact ⟨i, hi, by rw [← mA_more s t q i (by omega)]; exact h⟩
      · rintro ⟨i, hi, h⟩; exact ⟨i, hi, by rw [mA_more s t q i (by omega)]; exact h⟩
    · rw [mA_byte hc, mA_byte hc, mA_more s t q (k - 1) (by omega)]
      by_cases h0 : 0 < k
      · rw [List.getElem?_append_left (by omega)]
      · rw [decide_eq_false h0]; simp
theorem mA_self (s : List UInt8) (h : ∀ c ∈ s, c ≠ 42) : ∀ i, i ≤ s.length → ∀ k, mA s (s.take i).reverse k = (k == i)
  | 0, _, k => rfl
  | i + 1, hi, k => by
    have hlt : i < s.length := by omega
    rw [List.take_succ_eq_append_getElem hlt, List.reverse_append, List.reverse_singleton, List.singleton_append, mA_byte (h _ (List.getElem_mem hlt)), mA_self s h i (by omega)]
    rw [Bool.eq_iff_iff]
    simp only [Bool.and_eq_true, decide_eq_true_eq, beq_iff_eq]
    constructor
    · rintro ⟨⟨h1, h2⟩, _⟩; omega
    · rintro rfl
      refine ⟨⟨by omega, by omega⟩, ?_⟩
      rw [Nat.add_sub_cancel, List.getElem?_eq_getElem hlt]
theorem mA_past (s : List UInt8) : ∀ (q : List UInt8) (k : Nat), (∀ c ∈ q, c ≠ 42) → mA s q k = true → k = q.length
  | [], k, _, h => by simpa [mA] using h
  | c :: q, k, hq, h => by
    rw [mA_byte (hq c (by simp))] at h
    simp only [Bool.and_eq_true, decide_eq_true_eq] at h
    have := mA_past s q (k - 1) (fun x hx => hq x (by simp [hx])) h.1.2
    simp only [List.length_cons]
    omega

theorem endM_snoc (p : List UInt8) (c : UInt8) : endM (p ++ [c]) = decide (c = 36) := by unfold endM; simp
theorem cutM_no {p : List UInt8} (h : endM p = false) : cutM p = p := by unfold cutM; rw [if_neg (by rw [h]; decide)]
theorem cutM_yes {p : List UInt8} (h : endM p = true) : cutM p = p.dropLast := by unfold cutM; rw [if_pos h]
/-- With a star behind it a pattern matches the same. -/
theorem mat_star {p s : List UInt8} (h : endM p = false) : matB (p ++ [42]) s = matB p s := by
  have he : endM (p ++ [42]) = false := by rw [endM_snoc]; decide
  rw [Bool.eq_iff_iff, matB_iff, matB_iff, cutM_no h, cutM_no he, h, he]
  rw [List.reverse_append, List.reverse_singleton, List.singleton_append]
  constructor
  · rintro ⟨k, hk, h1, _⟩
    rw [mA_star, any_range] at h1
    obtain ⟨i, hi, h1⟩ := h1
    exact ⟨i, by omega, h1, fun h => by cases h⟩
  · rintro ⟨k, hk, h1, _⟩
    refine ⟨k, hk, ?_, fun h => by cases h⟩
    rw [mA_star, any_range]
    exact ⟨k, by omega, h1⟩
/-- With more behind the path it still matches. -/
theorem mat_more {p s t : List UInt8} (h : endM p = false) (hm : matB p s = true) : matB p (s ++ t) = true := by
  rw [matB_iff] at hm ⊢
  obtain ⟨k, hk, h1, _⟩ := hm
  refine ⟨k, by rw [List.length_append]; omega, ?_, fun he => by rw [h] at he; cases he⟩
  rw [mA_more s t _ k hk]
  exact h1
theorem mat_cut {p s : List UInt8} (h : endM p = true) (h2 : endM p.dropLast = false) (hm : matB p s = true) : matB p.dropLast s = true := by
  rw [matB_iff] at hm ⊢
  obtain ⟨k, hk, h1, _⟩ := hm
  rw [cutM_yes h] at h1
  refine ⟨k, hk, by rw [cutM_no h2]; exact h1, fun he => by rw [h2] at he; cases he⟩
theorem mat_self {s : List UInt8} (h : ∀ c ∈ s, c ≠ 42 ∧ c ≠ 36) : matB s s = true ∧ matB (s ++ [36]) s = true ∧ matB (s ++ [120]) s = false := by
  have hs := mA_self s (fun c hc => (h c hc).1) s.length (Nat.le_refl _)
  rw [List.take_length] at hs
  have he : endM s = false := by
    unfold endM
    refine decide_eq_false fun e => ?_
    exact (h 36 (List.mem_of_getLast? e)).2 rfl
  refine ⟨matB_iff.2 ⟨s.length, Nat.le_refl _, by rw [cutM_no he, hs]; simp, fun _ => rfl⟩, ?_, ?_⟩
  · have h1 : endM (s ++ [36]) = true := by rw [endM_snoc]; decide
    refine matB_iff.2 ⟨s.length, Nat.le_refl _, ?_, fun _ => rfl⟩
    rw [cutM_yes h1, List.dropLast_concat, hs]
    simp
  · have h1 : endM (s ++ [120]) = false := by rw [endM_snoc]; decide
    cases hm : matB (s ++ [120]) s with
    | false => rfl
    | true =>
      obtain ⟨k, hk, h2, _⟩ := matB_iff.1 hm
      rw [cutM_no h1] at h2
      have := mA_past s _ k (fun c hc => by
        rw [List.mem_reverse] at hc
        rcases List.mem_append.1 hc with h3 | h3
        · exact (h c h3).1
        · rw [List.mem_singleton.1 h3]; decide) h2
      simp at this
      omega
end Go.Proofs.Ytbjidcejpdeegaa
