/- Chapter 13, plainly: what the laws of tokens and of escapes ask. -/
import Derived.Test.YtjdmmmohaiiocaaDoorRows
import Derived.Test.YtjdmmmohaiiocaaDoorTokBack
namespace Go.Proofs.YtjdmmmohaiiocaaDoor
open Go.RowKit
set_option linter.unusedVariables false

theorem tok_le : ∀ (n : Nat) (acc l' : List TV) (l : List UInt8), l.length ≤ n → tokG acc l = (l', 0) → acc.length ≤ 3000 → l'.length ≤ 3000
  | n, acc, l', [], _, h, ha => by
    rw [tokG_nil] at h
    cases h
    exact ha
  | 0, acc, l', c :: r, hn, _, _ => by simp at hn
  | n + 1, acc, l', c :: r, hn, h, ha => by
    have hne : c :: r ≠ [] := by simp
    by_cases hc : (stepR (c :: r)).code = 0
    · by_cases hmany : 3000 < (acc ++ (stepR (c :: r)).ts).length
      · rw [tokG_many hne hc hmany] at h; cases h
      · have hs := step_le hne hc
        rw [tokG_next hne hc hmany] at h
        exact tok_le n _ l' _ (by rw [List.length_drop]; omega) h (by omega)
    · rw [tokG_bad hne hc] at h
      injection h with _ h
      exact absurd h hc
/-- More tokens ahead than there is room for. -/
theorem tok_over (pre : List TV) : ∀ (n : Nat) (acc l' : List TV) (l t : List UInt8), l.length ≤ n → tokG acc l = (l', 0) → 3000 < l'.length + pre.length → (pre ++ acc).length ≤ 3000 → tokG (pre ++ acc) (l ++ 60 :: t) = ([], 3)
  | n, acc, l', [], t, _, h, hm, hp => by
    rw [tokG_nil] at h
    cases h
    rw [List.length_append] at hp
    omega
  | 0, acc, l', c :: r, t, hn, _, _, _ => by simp at hn
  | n + 1, acc, l', c :: r, t, hn, h, hm, hp => by
    have hne : c :: r ≠ [] := by simp
    have hne2 : (c :: r) ++ 60 :: t ≠ [] := by simp
    by_cases hc : (stepR (c :: r)).code = 0
    · have ha := step_app (t := t) hne hc
      have hs := step_le hne hc
      by_cases hmany : 3000 < (acc ++ (stepR (c :: r)).ts).length
      · rw [tokG_many hne hc hmany] at h; cases h
      · rw [tokG_next hne hc hmany] at h
        by_cases hp2 : 3000 < (pre ++ acc ++ (stepR (c :: r)).ts).length
        · exact tokG_many hne2 (by rw [ha]; exact hc) (by rw [ha]; exact hp2)
        · rw [tokG_next hne2 (by rw [ha]; exact hc) (by rw [ha]; exact hp2), ha, List.append_assoc, List.drop_append_of_le_length hs.2]
          rw [List.append_assoc] at hp2
          exact tok_over pre n _ l' _ t (by rw [List.length_drop]; omega) h hm (by omega)
    · rw [tokG_bad hne hc] at h
      injection h with _ h
      exact absurd h hc
def vZ : ByteArray := ⟨#[122, 122]⟩
def vA : ByteArray := ⟨#[97]⟩
theorem open_zz (x : List UInt8) : stepR (60 :: 122 :: 122 :: 62 :: x) = ⟨[⟨1, vZ⟩], 4, 0⟩ := by
  have hn : nameN (122 :: 122 :: 62 :: x) = 2 := by
    have ht : (122 :: 122 :: 62 :: x).takeWhile nmB = [122, 122] := by rw [List.takeWhile_cons, if_pos (by decide), List.takeWhile_cons, if_pos (by decide), List.takeWhile_cons, if_neg (by decide)]
    rw [name_alt, ht]
    rfl
  have he : openE (122 :: 122 :: 62 :: x) = 2 := by unfold openE; rw [hn]; rfl
  have hm : openM (122 :: 122 :: 62 :: x) = [] := by unfold openM; rw [hn, he]; rfl
  rw [step_mark13 rfl]
  unfold markR
  rw [if_neg (by simp [Lib.hasPrefix, List.isPrefixOf]), if_neg (by simp [Lib.hasPrefix, List.isPrefixOf]), if_neg (by simp [Lib.hasPrefix, List.isPrefixOf]), if_neg (by simp [Lib.hasPrefix, List.isPrefixOf])]
  show shMR 1 (openR (122 :: 122 :: 62 :: x)) = _
  unfold openR
  rw [he, hn, hm, if_neg (by simp), if_neg (by decide)]
  rfl
theorem open_a (x : List UInt8) : stepR (60 :: 97 :: 62 :: x) = ⟨[⟨1, vA⟩], 3, 0⟩ := by
  have hn : nameN (97 :: 62 :: x) = 1 := by
    have ht : (97 :: 62 :: x).takeWhile nmB = [97] := by rw [List.takeWhile_cons, if_pos (by decide), List.takeWhile_cons, if_neg (by decide)]
    rw [name_alt, ht]
    rfl
  have he : openE (97 :: 62 :: x) = 1 := by unfold openE; rw [hn]; rfl
  have hm : openM (97 :: 62 :: x) = [] := by unfold openM; rw [hn, he]; rfl
  rw [step_mark13 rfl]
  unfold markR
  rw [if_neg (by simp [Lib.hasPrefix, List.isPrefixOf]), if_neg (by simp [Lib.hasPrefix, List.isPrefixOf]), if_neg (by simp [Lib.hasPrefix, List.isPrefixOf]), if_neg (by simp [Lib.hasPrefix, List.isPrefixOf])]
  show shMR 1 (openR (97 :: 62 :: x)) = _
  unfold openR
  rw [he, hn, hm, if_neg (by simp), if_neg (by decide)]
  rfl
def zC : List UInt8 := [47, 122, 122, 62]
def aC : List UInt8 := [47, 97, 62]
theorem close_zz : stepR (60 :: zC) = ⟨[⟨2, vZ⟩], 5, 0⟩ := by kernel_rfl
theorem close_a : stepR (60 :: aC) = ⟨[⟨2, vA⟩], 4, 0⟩ := by kernel_rfl
/-- Tokens within a pair of marks. -/
theorem tok_pair {s : List UInt8} {l : List TV} (h : toksL s = (l, 0)) : toksL ([60, 122, 122, 62] ++ s ++ 60 :: zC) = if l.length ≤ 2998 then (⟨1, vZ⟩ :: (l ++ [⟨2, vZ⟩]), 0) else ([], 3) := by
  have h' : tokG [] s = (l, 0) := h
  have hl := tok_le _ _ _ _ (Nat.le_refl _) h' (Nat.zero_le _)
  show tokG [] (60 :: 122 :: 122 :: 62 :: (s ++ 60 :: zC)) = _
  rw [tokG_next (by simp) (by rw [open_zz]) (by rw [open_zz]; simp), open_zz]
  show tokG ([⟨1, vZ⟩] ++ []) (s ++ 60 :: zC) = _
  by_cases h3 : l.length + 1 ≤ 3000
  · rw [tok_app [⟨1, vZ⟩] _ [] l s zC (Nat.le_refl _) h' h3]
    by_cases h2 : l.length ≤ 2998
    · rw [if_pos h2, tokG_next (by simp) (by rw [close_zz]) (by rw [close_zz]; simp; omega), close_zz]
      show tokG _ [] = _
      rw [tokG_nil]
      simp
    · rw [if_neg h2, tokG_many (by simp) (by rw [close_zz]) (by rw [close_zz]; simp; omega)]
  · rw [if_neg (by omega), tok_over [⟨1, vZ⟩] _ [] l s zC (Nat.le_refl _) h' (by simp; omega) (by simp)]
/-- What is balanced stays so, with others ahead and behind. -/
theorem bal_app (x : List ByteArray) (r : List TV) : ∀ (l : List TV) (st : List ByteArray), balS st l = true → balS (st ++ x) (l ++ r) = balS x r
  | [], st, h => by
    have : st = [] := by
      cases st with
      | nil => rfl
      | cons a b => cases h
    subst this
    rfl
  | t :: l, st, h => by
    rw [List.cons_append]
    by_cases h1 : t.k = 1
    · rw [bal_open h1] at h ⊢
      exact bal_app x r l (t.s :: st) h
    · by_cases h2 : t.k = 2
      · cases st with
        | nil => rw [bal_none h2] at h; cases h
        | cons a st =>
          rw [bal_close h2] at h
          rw [List.cons_append, bal_close h2]
          by_cases h3 : a = t.s
          · rw [if_pos h3] at h ⊢
            exact bal_app x r l st h
          · rw [if_neg h3] at h; cases h
      · rw [bal_text h1 h2] at h ⊢
        exact bal_app x r l st h
theorem bal_pair {l : List TV} (h : balL l = true) : balL (⟨1, vZ⟩ :: (l ++ [⟨2, vZ⟩])) = true := by
  unfold balL at h ⊢
  rw [bal_open rfl]
  have := bal_app [vZ] [⟨2, vZ⟩] l [] h
  rw [List.nil_append] at this
  rw [this, bal_close rfl, if_pos rfl]
  rfl
/-- Escapes within a pair of marks. -/
theorem tok_esc (s : List UInt8) : toksL ([60, 97, 62] ++ escL s ++ 60 :: aC) = (⟨1, vA⟩ :: ((if s = [] then [] else [⟨3, bytesV s⟩]) ++ [⟨2, vA⟩]), 0) := by
  show tokG [] (60 :: 97 :: 62 :: (escL s ++ 60 :: aC)) = _
  rw [tokG_next (by simp) (by rw [open_a]) (by rw [open_a]; simp), open_a]
  show tokG [⟨1, vA⟩] (escL s ++ 60 :: aC) = _
  by_cases hs : s = []
  · subst hs
    rw [if_pos rfl]
    show tokG [⟨1, vA⟩] (60 :: aC) = _
    rw [tokG_next (by simp) (by rw [close_a]) (by rw [close_a]; simp), close_a]
    show tokG _ [] = _
    rw [tokG_nil]
    simp
  · rw [if_neg hs]
    have hne : escL s ≠ [] := fun e => hs (by have := un_esc s; rw [e] at this; cases this; rfl)
    have hfree : 60 ∉ escL s := fun h => (esc_free s 60 h).1 rfl
    have hup : upB 60 (escL s ++ 60 :: aC) = escL s := by
      unfold upB
      rw [takeW_app (by decide)]
      exact ((up_beh 60 (escL s)).2.1 (by
        cases hc : (escL s).contains 60 with
        | false => rfl
        | true => exact absurd (by simpa using hc) hfree)).1
    have hh : (escL s ++ 60 :: aC).head? ≠ some 60 := fun e => by
      cases he : escL s with
      | nil => exact hne he
      | cons c r =>
        rw [he, List.cons_append, List.head?_cons] at e
        exact hfree (by rw [he, Option.some.inj e]; simp)
    have hst : stepR (escL s ++ 60 :: aC) = ⟨[⟨3, bytesV s⟩], (escL s).length, 0⟩ := by
      rw [step_text13 hh, hup, un_esc]
    rw [tokG_next (by simp) (by rw [hst]) (by rw [hst]; simp), hst, List.drop_left' rfl, tokG_next (by simp) (by rw [close_a]) (by rw [close_a]; simp), close_a]
    show tokG _ [] = _
    rw [tokG_nil]
    simp
/-- There are never more tokens than may be. -/
theorem tok_most : ∀ (n : Nat) (acc : List TV) (l : List UInt8), l.length ≤ n → acc.length ≤ 3000 → (tokG acc l).1.length ≤ 3000
  | n, acc, [], _, ha => ha
  | 0, acc, c :: r, hn, _ => by simp at hn
  | n + 1, acc, c :: r, hn, ha => by
    have hne : c :: r ≠ [] := by simp
    by_cases hc : (stepR (c :: r)).code = 0
    · by_cases hmany : 3000 < (acc ++ (stepR (c :: r)).ts).length
      · rw [tokG_many hne hc hmany]; exact Nat.zero_le _
      · have hs := step_le hne hc
        rw [tokG_next hne hc hmany]
        exact tok_most n _ _ (by rw [List.length_drop]; omega) (by omega)
    · rw [tokG_bad hne hc]; exact Nat.zero_le _
theorem toks_most (l : List UInt8) : (toksL l).1.length ≤ 3000 := tok_most _ _ _ (Nat.le_refl _) (Nat.zero_le _)
/-- With a fault there are none. -/
theorem tok_fault : ∀ (n : Nat) (acc : List TV) (l : List UInt8), l.length ≤ n → (tokG acc l).2 ≠ 0 → (tokG acc l).1 = []
  | n, acc, [], _, h => absurd rfl h
  | 0, acc, c :: r, hn, _ => by simp at hn
  | n + 1, acc, c :: r, hn, h => by
    have hne : c :: r ≠ [] := by simp
    by_cases hc : (stepR (c :: r)).code = 0
    · by_cases hmany : 3000 < (acc ++ (stepR (c :: r)).ts).length
      · rw [tokG_many hne hc hmany]
      · have hs := step_le hne hc
        rw [tokG_next hne hc hmany] at h ⊢
        exact tok_fault n _ _ (by rw [List.length_drop]; omega) h
    · rw [tokG_bad hne hc]
theorem toks_fault {l : List UInt8} (h : (toksL l).2 ≠ 0) : (toksL l).1 = [] := tok_fault _ _ _ (Nat.le_refl _) h
theorem bal_esc (s : List UInt8) : balL (⟨1, vA⟩ :: ((if s = [] then [] else [⟨3, bytesV s⟩]) ++ [⟨2, vA⟩])) = true := by
  have h1 : (⟨3, bytesV s⟩ : TV).k ≠ 1 := by show (3 : Int) ≠ 1; decide
  have h2 : (⟨3, bytesV s⟩ : TV).k ≠ 2 := by show (3 : Int) ≠ 2; decide
  unfold balL
  rw [bal_open rfl]
  by_cases h : s = []
  · rw [if_pos h, List.nil_append, bal_close rfl, if_pos rfl]
    rfl
  · rw [if_neg h, List.cons_append, bal_text h1 h2, List.nil_append, bal_close rfl, if_pos rfl]
    rfl
end Go.Proofs.YtjdmmmohaiiocaaDoor
