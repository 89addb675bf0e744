/- The code's own way to match, plainly: the pieces between the stars, each set as early as it may be. -/
import Derived.Test.YtbjidcejpdeegaaRows
import Derived.Test.YtbjidcejpdeegaaMatchPlain
import Derived.Test.YtbjidcejpdeegaaCutWay
namespace Go.Proofs.Ytbjidcejpdeegaa
open Go.RowKit
set_option linter.unusedVariables false

/-- A pattern leads from one place of a path to another. -/
def Lead (s : List UInt8) : List UInt8 → Nat → Nat → Prop
  | [], i, k => i = k
  | c :: p, i, k => (c = 42 ∧ ∃ j, i ≤ j ∧ Lead s p j k) ∨ (c ≠ 42 ∧ s[i]? = some c ∧ Lead s p (i + 1) k)
theorem lead_star (s p : List UInt8) (i k : Nat) : Lead s (42 :: p) i k ↔ ∃ j, i ≤ j ∧ Lead s p j k := by simp [Lead]
theorem lead_byte {c : UInt8} (hc : c ≠ 42) (s p : List UInt8) (i k : Nat) : Lead s (c :: p) i k ↔ s[i]? = some c ∧ Lead s p (i + 1) k := by simp [Lead, hc]
theorem lead_append (s q : List UInt8) : ∀ (p : List UInt8) (i k : Nat), Lead s (p ++ q) i k ↔ ∃ m, Lead s p i m ∧ Lead s q m k
  | [], i, k => by simp [Lead]
  | c :: p, i, k => by
    rw [List.cons_append]
    by_cases hc : c = 42
    · subst hc
      rw [lead_star]
      constructor
      · rintro ⟨j, hj, h⟩
        obtain ⟨m, h1, h2⟩ := (lead_append s q p j k).1 h
        exact ⟨m, (lead_star _ _ _ _).2 ⟨j, hj, h1⟩, h2⟩
      · rintro ⟨m, h1, h2⟩
        obtain ⟨j, hj, h⟩ := (lead_star _ _ _ _).1 h1
        exact ⟨j, hj, (lead_append s q p j k).2 ⟨m, h, h2⟩⟩
    · rw [lead_byte hc]
      constructor
      · rintro ⟨h0, h⟩
        obtain ⟨m, h1, h2⟩ := (lead_append s q p (i + 1) k).1 h
        exact ⟨m, (lead_byte hc _ _ _ _).2 ⟨h0, h1⟩, h2⟩
      · rintro ⟨m, h1, h2⟩
        obtain ⟨h0, h⟩ := (lead_byte hc _ _ _ _).1 h1
        exact ⟨h0, (lead_append s q p (i + 1) k).2 ⟨m, h, h2⟩⟩
theorem mA_lead (s : List UInt8) : ∀ (q : List UInt8) (k : Nat), mA s q k = true ↔ Lead s q.reverse 0 k
  | [], k => by
    show (k == 0) = true ↔ 0 = k
    rw [beq_iff_eq]
    exact eq_comm
  | c :: q, k => by
    rw [List.reverse_cons, lead_append]
    by_cases hc : c = 42
    · subst hc
      rw [mA_star, any_range]
      constructor
      · rintro ⟨i, hi, h⟩
        exact ⟨i, (mA_lead s q i).1 h, (lead_star _ _ _ _).2 ⟨k, by omega, rfl⟩⟩
      · rintro ⟨m, h1, h2⟩
        obtain ⟨j, hj, h⟩ := (lead_star _ _ _ _).1 h2
        have : j = k := h
        exact ⟨m, by omega, (mA_lead s q m).2 h1⟩
    · rw [mA_byte hc]
      simp only [Bool.and_eq_true, decide_eq_true_eq]
      constructor
      · rintro ⟨⟨h0, h1⟩, h2⟩
        exact ⟨k - 1, (mA_lead s q _).1 h1, (lead_byte hc _ _ _ _).2 ⟨h2, show k - 1 + 1 = k by omega⟩⟩
      · rintro ⟨m, h1, h2⟩
        obtain ⟨h3, h4⟩ := (lead_byte hc _ _ _ _).1 h2
        have h5 : m + 1 = k := h4
        subst h5
        exact ⟨⟨by omega, (mA_lead s q _).2 h1⟩, h3⟩
/-- What is left of a pattern can be led to an end of the path that serves. -/
def Can (s : List UInt8) (e : Bool) (q : List UInt8) (i : Nat) : Prop := ∃ k, k ≤ s.length ∧ Lead s q i k ∧ (e = true → k = s.length)
theorem matB_can (p s : List UInt8) : matB p s = true ↔ Can s (endM p) (cutM p) 0 := by
  rw [matB_iff]
  unfold Can
  constructor
  · rintro ⟨k, h1, h2, h3⟩
    exact ⟨k, h1, by have := (mA_lead s _ k).1 h2; rwa [List.reverse_reverse] at this, h3⟩
  · rintro ⟨k, h1, h2, h3⟩
    exact ⟨k, h1, (mA_lead s _ k).2 (by rwa [List.reverse_reverse]), h3⟩
theorem can_nil {s : List UInt8} {e : Bool} {i : Nat} (h : i ≤ s.length) : Can s e [] i ↔ (e = true → i = s.length) := by
  unfold Can
  constructor
  · rintro ⟨k, _, h2, h3⟩ he
    have : i = k := h2
    rw [this, h3 he]
  · exact fun h3 => ⟨i, h, rfl, h3⟩
/-- A piece without a star leads just over itself. -/
theorem lead_piece (s : List UInt8) : ∀ (x : List UInt8) (i k : Nat), 42 ∉ x → (Lead s x i k ↔ x <+: s.drop i ∧ k = i + x.length)
  | [], i, k, _ => by
    show i = k ↔ _
    simp only [List.nil_prefix, true_and, List.length_nil, Nat.add_zero]
    exact eq_comm
  | c :: x, i, k, h => by
    have hc : c ≠ 42 := fun e => h (by rw [e]; simp)
    rw [lead_byte hc, lead_piece s x (i + 1) k (fun h1 => h (by simp [h1]))]
    by_cases hi : i < s.length
    · rw [List.drop_eq_getElem_cons hi, List.getElem?_eq_getElem hi, List.cons_prefix_cons, List.length_cons]
      constructor
      · rintro ⟨h1, h2, h3⟩; exact ⟨⟨by injection h1 with h1; exact h1.symm, h2⟩, by omega⟩
      · rintro ⟨⟨h1, h2⟩, h3⟩; exact ⟨by rw [h1], h2, by omega⟩
    · rw [List.drop_eq_nil_of_le (by omega : s.length ≤ i), List.getElem?_eq_none (by omega)]
      simp
theorem can_piece {s x t : List UInt8} {e : Bool} {i : Nat} (h : 42 ∉ x) : Can s e (x ++ t) i ↔ x <+: s.drop i ∧ Can s e t (i + x.length) := by
  unfold Can
  constructor
  · rintro ⟨k, h1, h2, h3⟩
    obtain ⟨m, h4, h5⟩ := (lead_append s t x i k).1 h2
    obtain ⟨h6, rfl⟩ := (lead_piece s x i m h).1 h4
    exact ⟨h6, k, h1, h5, h3⟩
  · rintro ⟨h6, k, h1, h5, h3⟩
    exact ⟨k, h1, (lead_append s t x i k).2 ⟨_, (lead_piece s x i _ h).2 ⟨h6, rfl⟩, h5⟩, h3⟩
theorem can_star {s t : List UInt8} {e : Bool} {i : Nat} : Can s e (42 :: t) i ↔ ∃ j, i ≤ j ∧ Can s e t j := by
  unfold Can
  constructor
  · rintro ⟨k, h1, h2, h3⟩
    obtain ⟨j, hj, h4⟩ := (lead_star _ _ _ _).1 h2
    exact ⟨j, hj, k, h1, h4, h3⟩
  · rintro ⟨j, hj, k, h1, h4, h3⟩
    exact ⟨k, h1, (lead_star _ _ _ _).2 ⟨j, hj, h4⟩, h3⟩
/-- The last piece, where the path must end. -/
theorem can_last {s x : List UInt8} {k : Nat} (h : 42 ∉ x) (hk : k ≤ s.length) : Can s true (42 :: x) k ↔ Lib.hasSuffix (s.drop k) x = true := by
  rw [can_star]
  unfold Lib.hasSuffix
  rw [List.isSuffixOf_iff_suffix]
  constructor
  · rintro ⟨j, hj, h1⟩
    rw [← List.append_nil x, can_piece h] at h1
    obtain ⟨⟨r, hr⟩, m, h2, h3, h4⟩ := h1
    have h5 : j + x.length = m := h3
    have h6 := h4 rfl
    have hl := congrArg List.length hr
    rw [List.length_append, List.length_drop] at hl
    have hr0 : r = [] := List.eq_nil_of_length_eq_zero (by omega)
    rw [hr0, List.append_nil] at hr
    refine ⟨(s.drop k).take (j - k), ?_⟩
    rw [hr, show s.drop j = (s.drop k).drop (j - k) by rw [List.drop_drop]; congr 1; omega, List.take_append_drop]
  · rintro ⟨r, hr⟩
    have hl := congrArg List.length hr
    rw [List.length_append, List.length_drop] at hl
    refine ⟨k + r.length, by omega, ?_⟩
    rw [← List.append_nil x, can_piece h]
    refine ⟨?_, ?_⟩
    · rw [← List.drop_drop, ← hr, List.drop_left' rfl]
      exact List.prefix_rfl
    · exact (can_nil (by omega)).2 fun _ => by omega
theorem occ_iff {s x : List UInt8} {k j : Nat} : Lib.occAt (s.drop k) x j = true ↔ x <+: s.drop (k + j) := by
  unfold Lib.occAt
  rw [List.isPrefixOf_iff_prefix, List.drop_drop]
theorem can_miss {s x t : List UInt8} {e : Bool} {k : Nat} (h : 42 ∉ x) (hk : k ≤ s.length) (hi : Lib.index (s.drop k) x = -1) : ¬ Can s e (42 :: (x ++ t)) k := by
  rw [can_star]
  rintro ⟨j, hj, h1⟩
  obtain ⟨h2, m, h3, h4, _⟩ := (can_piece h).1 h1
  rcases Lib.index_spec (s.drop k) x with ⟨_, h5⟩ | ⟨i, h5, _⟩
  · have hlen : j ≤ s.length := by
      obtain ⟨r, hr⟩ := h2
      have hl := congrArg List.length hr
      rw [List.length_append, List.length_drop] at hl
      by_cases hx : x = []
      · subst hx
        have h6 := h5 0 (by omega)
        unfold Lib.occAt at h6
        simp at h6
      · have : 0 < x.length := List.length_pos_iff.2 hx
        omega
    have h6 := h5 (j - k) (by rw [List.length_drop]; omega)
    have h7 := (occ_iff (s := s) (x := x) (k := k) (j := j - k)).2 (by rw [show k + (j - k) = j by omega]; exact h2)
    rw [h6] at h7
    cases h7
  · rw [hi] at h5
    omega
theorem can_hit {s x t : List UInt8} {e : Bool} {k j : Nat} (h : 42 ∉ x) (hk : k ≤ s.length) (hi : Lib.index (s.drop k) x = j) (ht : (e = false ∧ t = []) ∨ ∃ r, t = 42 :: r) :
    k + j + x.length ≤ s.length ∧ (Can s e (42 :: (x ++ t)) k ↔ Can s e t (k + j + x.length)) := by
  have hroom : k + j + x.length ≤ s.length := by
    have := Lib.index_room (s.drop k) x (by rw [hi]; omega)
    rw [hi, List.length_drop] at this
    omega
  refine ⟨hroom, ?_⟩
  rcases Lib.index_spec (s.drop k) x with ⟨h5, _⟩ | ⟨i, h5, h6, h7, h8⟩
  · rw [hi] at h5; omega
  · obtain rfl : i = j := by rw [hi] at h5; omega
    rw [can_star]
    constructor
    · rintro ⟨m, hm, h1⟩
      obtain ⟨h2, h3⟩ := (can_piece h).1 h1
      have hle : k + i ≤ m := by
        rcases Nat.lt_or_ge m (k + i) with hlt | hge
        · have h9 := h8 (m - k) (by omega)
          have h10 := (occ_iff (s := s) (x := x) (k := k) (j := m - k)).2 (by rw [show k + (m - k) = m by omega]; exact h2)
          rw [h9] at h10
          cases h10
        · exact hge
      rcases ht with ⟨he, rfl⟩ | ⟨r, rfl⟩
      · exact (can_nil hroom).2 fun h11 => by rw [he] at h11; cases h11
      · rw [can_star] at h3 ⊢
        obtain ⟨j', hj', h4⟩ := h3
        exact ⟨j', by omega, h4⟩
    · intro h1
      exact ⟨k + i, by omega, (can_piece h).2 ⟨occ_iff.1 h7, h1⟩⟩
/-- What is left behind a piece. -/
def leftS (l : List UInt8) : List UInt8 := if l.contains 42 = true then 42 :: behB 42 l else []
theorem up_left (l : List UInt8) : l = upB 42 l ++ leftS l := by
  obtain ⟨h1, h2, _⟩ := up_beh 42 l
  unfold leftS
  cases hc : l.contains 42 with
  | true => rw [if_pos rfl]; exact h1 hc
  | false => rw [if_neg (by decide), (h2 hc).1, List.append_nil]
end Go.Proofs.Ytbjidcejpdeegaa
