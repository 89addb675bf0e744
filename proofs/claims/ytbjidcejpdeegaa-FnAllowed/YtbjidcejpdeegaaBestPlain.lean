/- Chapter 12, plain: the line that decides. -/
import Derived.Test.YtbjidcejpdeegaaMatchPlain
import Derived.Test.YtbjidcejpdeegaaRobRow
namespace Go.Proofs.Ytbjidcejpdeegaa

/-- The i-th line matches. -/
def matI (l : List LV) (s : List UInt8) (i : Nat) : Bool := matB (l.getD i lv0).pa.data.toList s
/-- The line i decides ahead of the line b. -/
def overI (l : List LV) (b i : Nat) : Bool := decide ((l.getD b lv0).pa.size < (l.getD i lv0).pa.size) || (decide ((l.getD i lv0).pa.size = (l.getD b lv0).pa.size) && (l.getD i lv0).al && !(l.getD b lv0).al)
theorem overI_iff (l : List LV) (b i : Nat) : overI l b i = true ↔ (l.getD b lv0).pa.size < (l.getD i lv0).pa.size ∨ ((l.getD i lv0).pa.size = (l.getD b lv0).pa.size ∧ (l.getD i lv0).al = true ∧ (l.getD b lv0).al = false) := by
  simp only [overI, Bool.or_eq_true, Bool.and_eq_true, decide_eq_true_eq, Bool.not_eq_true', and_assoc]
def bestI (l : List LV) (s : List UInt8) (b : Option Nat) (i : Nat) : Option Nat :=
  if matI l s i = false then b else match b with
    | none => some i
    | some b => if overI l b i = true then some i else some b
/-- The place of the line that decides among the first k. -/
def bestK (l : List LV) (s : List UInt8) : Nat → Option Nat
  | 0 => none
  | k + 1 => bestI l s (bestK l s k) k
def bestL (l : List LV) (s : List UInt8) : Option Nat := bestK l s l.length
def robotsT : List UInt8 := [47, 114, 111, 98, 111, 116, 115, 46, 116, 120, 116]
def allowB (l : List LV) (s : List UInt8) : Bool := decide (s = robotsT) || match bestL l s with
  | none => true
  | some k => (l.getD k lv0).al

theorem best_law (l : List LV) (s : List UInt8) : ∀ k, match bestK l s k with
    | none => ∀ i, i < k → matI l s i = false
    | some b => b < k ∧ matI l s b = true ∧ ∀ i, i < k → matI l s i = true → overI l b i = false
  | 0 => fun i hi => absurd hi (Nat.not_lt_zero _)
  | k + 1 => by
    have ih := best_law l s k
    show match bestI l s (bestK l s k) k with
      | none => ∀ i, i < k + 1 → matI l s i = false
      | some b => b < k + 1 ∧ matI l s b = true ∧ ∀ i, i < k + 1 → matI l s i = true → overI l b i = false
    unfold bestI
    by_cases hm : matI l s k = false
    · rw [if_pos hm]
      cases hb : bestK l s k with
      | none =>
        rw [hb] at ih
        intro i hi
        by_cases h : i = k
        · subst h; exact hm
        · exact ih i (by omega)
      | some b =>
        rw [hb] at ih
        refine ⟨by have := ih.1; omega, ih.2.1, fun i hi hmi => ?_⟩
        by_cases h : i = k
        · subst h; rw [hm] at hmi; cases hmi
        · exact ih.2.2 i (by omega) hmi
    · have hm' : matI l s k = true := by simpa using hm
      rw [if_neg hm]
      cases hb : bestK l s k with
      | none =>
        rw [hb] at ih
        refine ⟨by omega, hm', fun i hi hmi => ?_⟩
        by_cases h : i = k
        · subst h; simp [overI]
        · rw [ih i (by omega)] at hmi; cases hmi
      | some b =>
        rw [hb] at ih
        obtain ⟨h1, h2, h3⟩ := ih
        dsimp only
        by_cases ho : overI l b k = true
        · rw [if_pos ho]
          refine ⟨by omega, hm', fun i hi hmi => ?_⟩
          by_cases h : i = k
          · subst h; simp [overI]
          · have h4 := h3 i (by omega) hmi
            rw [← Bool.not_eq_true, overI_iff] at h4 ⊢
            rw [overI_iff] at ho
            rintro (h5 | ⟨h5, h6, h7⟩) <;> rcases ho with ho | ⟨ho, hc, hd⟩
            · exact h4 (.inl (by omega))
            · exact h4 (.inl (by omega))
            · exact h4 (.inl (by omega))
            · rw [h7] at hc; cases hc
        · rw [if_neg ho]
          refine ⟨by omega, h2, fun i hi hmi => ?_⟩
          by_cases h : i = k
          · subst h; simpa using ho
          · exact h3 i (by omega) hmi
end Go.Proofs.Ytbjidcejpdeegaa
