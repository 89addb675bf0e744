/- Chapter 13, plainly: tokens as the code reads them: what does not end counts ahead of what is otherwise wrong, a fault ahead of too many. -/
import Derived.Test.YtjdmmmohaiiocaaDoorRows
import Derived.Test.YtjdmmmohaiiocaaDoorTokLawP
namespace Go.Proofs.YtjdmmmohaiiocaaDoor
open Go.RowKit
set_option linter.unusedVariables false

/-- A mark that ends something: its own end is asked for first. -/
def closeI (r : List UInt8) : MR := if r.contains 62 = true then closeR r else noMR 1
def stepI (r : List UInt8) : MR := if Lib.hasPrefix r [60, 47] = true then shMR 2 (closeI (r.drop 2)) else stepR r
theorem close_has {r : List UInt8} (h : (closeR r).code = 0) : r.contains 62 = true := by
  unfold closeR at h
  split at h
  · cases h
  split at h
  · cases h
  · rename_i h2
    have h3 : r[closeE r]? = some 62 := Classical.byContradiction fun e => h2 (.inr e)
    rw [List.contains_iff_exists_mem_beq]
    exact ⟨62, List.mem_of_getElem? h3, rfl⟩
theorem closeI_of {r : List UInt8} (h : (closeR r).code = 0) : closeI r = closeR r := by unfold closeI; rw [if_pos (close_has h)]
theorem pre_close {r : List UInt8} (h : Lib.hasPrefix r [60, 47] = true) : stepR r = shMR 2 (closeR (r.drop 2)) := by
  obtain ⟨t, rfl⟩ : ∃ t, r = 60 :: 47 :: t := by
    unfold Lib.hasPrefix at h
    obtain ⟨t, ht⟩ := List.isPrefixOf_iff_prefix.1 h
    exact ⟨t, ht.symm⟩
  rw [step_mark13 rfl]
  unfold markR
  rw [if_neg (by simp [Lib.hasPrefix, List.isPrefixOf]), if_neg (by simp [Lib.hasPrefix, List.isPrefixOf]), if_neg (by simp [Lib.hasPrefix, List.isPrefixOf]), if_pos h]
theorem stepI_of {r : List UInt8} (h : (stepR r).code = 0) : stepI r = stepR r := by
  unfold stepI
  split
  · rename_i hp
    rw [pre_close hp] at h ⊢
    rw [closeI_of h]
  · rfl
theorem stepI_back {r : List UInt8} (h : (stepI r).code = 0) : stepI r = stepR r := by
  unfold stepI at h ⊢
  split
  · rename_i hp
    rw [if_pos hp] at h
    rw [pre_close hp]
    have h1 : (closeI (r.drop 2)).code = 0 := h
    unfold closeI at h1 ⊢
    split
    · rfl
    · rename_i hn
      rw [if_neg hn] at h1
      cases h1
  · rfl
theorem stepI_le {r : List UInt8} (h : r ≠ []) (hc : (stepI r).code = 0) : 1 ≤ (stepI r).n ∧ (stepI r).n ≤ r.length := by
  have e := stepI_back hc
  rw [e] at hc ⊢
  exact step_le h hc
/-- All tokens of a text behind those that were read; so many steps at most. -/
def tokV : Nat → List TV → List UInt8 → List TV × Nat
  | 0, acc, _ => (acc, 0)
  | _, acc, [] => (acc, 0)
  | n + 1, acc, c :: r => if (stepI (c :: r)).code ≠ 0 then ([], (stepI (c :: r)).code) else tokV n (acc ++ (stepI (c :: r)).ts) ((c :: r).drop (stepI (c :: r)).n)
theorem tokV_fuel : ∀ (n m : Nat) (acc : List TV) (l : List UInt8), l.length ≤ n → l.length ≤ m → tokV n acc l = tokV m acc l
  | 0, m, acc, l, h, _ => by
    have : l = [] := List.eq_nil_of_length_eq_zero (by omega)
    subst this
    cases m <;> rfl
  | n + 1, 0, acc, l, _, h => by
    have : l = [] := List.eq_nil_of_length_eq_zero (by omega)
    subst this
    rfl
  | n + 1, m + 1, acc, [], _, _ => rfl
  | n + 1, m + 1, acc, c :: r, h1, h2 => by
    rw [tokV, tokV]
    split
    · rfl
    · rename_i hc
      have hs := stepI_le (r := c :: r) (by simp) (by omega)
      exact tokV_fuel n m _ _ (by rw [List.length_drop]; omega) (by rw [List.length_drop]; omega)
def tokH (acc : List TV) (l : List UInt8) : List TV × Nat := tokV l.length acc l
theorem tokH_nil (acc : List TV) : tokH acc [] = (acc, 0) := rfl
theorem tokH_bad {acc : List TV} {l : List UInt8} (h : l ≠ []) (hc : (stepI l).code ≠ 0) : tokH acc l = ([], (stepI l).code) := by
  unfold tokH
  cases l with
  | nil => exact absurd rfl h
  | cons c r => rw [List.length_cons, tokV, if_pos hc]
theorem tokH_next {acc : List TV} {l : List UInt8} (h : l ≠ []) (hc : (stepI l).code = 0) : tokH acc l = tokH (acc ++ (stepI l).ts) (l.drop (stepI l).n) := by
  have hs := stepI_le h hc
  unfold tokH
  cases l with
  | nil => exact absurd rfl h
  | cons c r =>
    rw [List.length_cons, tokV, if_neg (by rw [hc]; simp)]
    rw [List.length_cons] at hs
    exact tokV_fuel _ _ _ _ (by rw [List.length_drop, List.length_cons]; omega) (Nat.le_refl _)
theorem tokH_step {acc : List TV} {l : List UInt8} (h : l ≠ []) (hc : (stepR l).code = 0) : tokH acc l = tokH (acc ++ (stepR l).ts) (l.drop (stepR l).n) := by
  have e := stepI_of hc
  rw [tokH_next h (by rw [e]; exact hc), e]
/-- What all tokens and a code come to: none with a fault, none where there are too many. -/
def endT (x : List TV × Nat) : List TV × Nat := if x.2 ≠ 0 then ([], x.2) else if 3000 < x.1.length then ([], 3) else x
/-- Tokens as the code reads them. -/
def toksI (l : List UInt8) : List TV × Nat := endT (tokH [] l)
theorem tokH_good : ∀ (n : Nat) (acc m : List TV) (l : List UInt8), l.length ≤ n → tokG acc l = (m, 0) → tokH acc l = (m, 0)
  | n, acc, m, [], _, h => h
  | 0, acc, m, c :: r, hn, _ => by simp at hn
  | n + 1, acc, m, c :: r, hn, h => by
    have hne : c :: r ≠ [] := by simp
    by_cases hc : (stepR (c :: r)).code = 0
    · by_cases hmany : 3000 < (acc ++ (stepR (c :: r)).ts).length
      · rw [tokG_many hne hc hmany] at h; cases h
      · have hs := step_le hne hc
        rw [tokG_next hne hc hmany] at h
        rw [tokH_step hne hc]
        exact tokH_good n _ m _ (by rw [List.length_drop]; omega) h
    · rw [tokG_bad hne hc] at h
      injection h with _ h
      exact absurd h hc
/-- What has tokens has them in the code's way too. -/
theorem toksI_good {l : List UInt8} {m : List TV} (h : toksL l = (m, 0)) : tokH [] l = (m, 0) ∧ toksI l = (m, 0) := by
  have h' : tokG [] l = (m, 0) := h
  have h1 := tokH_good _ _ _ _ (Nat.le_refl _) h'
  have hl := tok_le _ _ _ _ (Nat.le_refl _) h' (Nat.zero_le _)
  refine ⟨h1, ?_⟩
  unfold toksI endT
  rw [h1, if_neg (by simp), if_neg (by simpa using hl)]
theorem tokH_app (pre : List TV) : ∀ (n : Nat) (acc l' : List TV) (l t : List UInt8), l.length ≤ n → tokH acc l = (l', 0) → tokH (pre ++ acc) (l ++ 60 :: t) = tokH (pre ++ l') (60 :: t)
  | n, acc, l', [], t, _, h => by
    rw [tokH_nil] at h
    cases h
    rfl
  | 0, acc, l', c :: r, t, hn, _ => by simp at hn
  | n + 1, acc, l', c :: r, t, hn, h => by
    have hne : c :: r ≠ [] := by simp
    by_cases hci : (stepI (c :: r)).code = 0
    · have hs := stepI_le hne hci
      rw [tokH_next hne hci] at h
      have e := stepI_back hci
      have hc : (stepR (c :: r)).code = 0 := by rw [← e]; exact hci
      have ha := step_app (t := t) hne hc
      have hne2 : (c :: r) ++ 60 :: t ≠ [] := by simp
      rw [e] at h hs
      rw [tokH_step hne2 (by rw [ha]; exact hc), ha, List.append_assoc, List.drop_append_of_le_length hs.2]
      exact tokH_app pre n _ l' _ t (by rw [List.length_drop]; omega) h
    · rw [tokH_bad hne hci] at h
      injection h with _ h
      exact absurd h hci
/-- Tokens within a pair of marks, in the code's way. -/
theorem tokI_pair {s : List UInt8} {l : List TV} (h : toksL s = (l, 0)) : toksI ([60, 122, 122, 62] ++ s ++ 60 :: zC) = if l.length ≤ 2998 then (⟨1, vZ⟩ :: (l ++ [⟨2, vZ⟩]), 0) else ([], 3) := by
  have h' := (toksI_good h).1
  have e : tokH [] ([60, 122, 122, 62] ++ s ++ 60 :: zC) = (⟨1, vZ⟩ :: (l ++ [⟨2, vZ⟩]), 0) := by
    show tokH [] (60 :: 122 :: 122 :: 62 :: (s ++ 60 :: zC)) = _
    rw [tokH_step (by simp) (by rw [open_zz]), open_zz]
    show tokH ([⟨1, vZ⟩] ++ []) (s ++ 60 :: zC) = _
    rw [tokH_app [⟨1, vZ⟩] _ [] l s zC (Nat.le_refl _) h', tokH_step (by simp) (by rw [close_zz]), close_zz]
    show tokH _ [] = _
    rw [tokH_nil]
    simp
  unfold toksI endT
  rw [e, if_neg (by simp)]
  by_cases h2 : l.length ≤ 2998
  · rw [if_pos h2, if_neg (by simp; omega)]
  · rw [if_neg h2, if_pos (by simp; omega)]
theorem tokI_esc (s : List UInt8) : toksI ([60, 97, 62] ++ escL s ++ 60 :: aC) = (⟨1, vA⟩ :: ((if s = [] then [] else [⟨3, bytesV s⟩]) ++ [⟨2, vA⟩]), 0) := (toksI_good (tok_esc s)).2
/-- Every mark that ends something ends itself, or lacks nothing but its end. -/
def nice1 (r : List UInt8) : Bool := match r with
  | [] => true
  | d :: t => d != 47 || t.contains 62 || decide ((closeR t).code = 1)
def niceB : List UInt8 → Bool
  | [] => true
  | c :: r => (if c = 60 then nice1 r else true) && niceB r
/-- Every mark that ends something ends itself, and no mark begins at the end. -/
def closed1 (r : List UInt8) : Bool := match r with
  | [] => false
  | d :: t => d != 47 || t.contains 62
def closedB : List UInt8 → Bool
  | [] => true
  | c :: r => (if c = 60 then closed1 r else true) && closedB r
theorem closed_nice : ∀ {z y : List UInt8}, closedB z = true → niceB y = true → niceB (z ++ y) = true
  | [], y, _, h => h
  | c :: r, y, h, hy => by
    rw [closedB, Bool.and_eq_true] at h
    obtain ⟨h1, h2⟩ := h
    rw [List.cons_append, niceB, Bool.and_eq_true]
    refine ⟨?_, closed_nice h2 hy⟩
    by_cases hc : c = 60
    · rw [if_pos hc] at h1 ⊢
      cases r with
      | nil => cases h1
      | cons d t =>
        have h3 : (d != 47 || t.contains 62) = true := h1
        show (d != 47 || (t ++ y).contains 62 || decide ((closeR (t ++ y)).code = 1)) = true
        rcases Bool.or_eq_true_iff.1 h3 with h4 | h4
        · rw [h4]; rfl
        · have h5 : (t ++ y).contains 62 = true := by
            rw [List.contains_iff_exists_mem_beq] at h4 ⊢
            obtain ⟨a, ha, hb⟩ := h4
            exact ⟨a, List.mem_append_left _ ha, hb⟩
          rw [h5]; simp
    · rw [if_neg hc]
theorem closed_app : ∀ {z y : List UInt8}, closedB z = true → closedB y = true → closedB (z ++ y) = true
  | [], y, _, h => h
  | c :: r, y, h, hy => by
    rw [closedB, Bool.and_eq_true] at h
    obtain ⟨h1, h2⟩ := h
    rw [List.cons_append, closedB, Bool.and_eq_true]
    refine ⟨?_, closed_app h2 hy⟩
    by_cases hc : c = 60
    · rw [if_pos hc] at h1 ⊢
      cases r with
      | nil => cases h1
      | cons d t =>
        have h3 : (d != 47 || t.contains 62) = true := h1
        show (d != 47 || (t ++ y).contains 62) = true
        rcases Bool.or_eq_true_iff.1 h3 with h4 | h4
        · rw [h4]; rfl
        · have h5 : (t ++ y).contains 62 = true := by
            rw [List.contains_iff_exists_mem_beq] at h4 ⊢
            obtain ⟨a, ha, hb⟩ := h4
            exact ⟨a, List.mem_append_left _ ha, hb⟩
          rw [h5]; simp
    · rw [if_neg hc]
theorem closed_is {z : List UInt8} (h : closedB z = true) : niceB z = true := by
  have := closed_nice (y := []) h rfl
  rwa [List.append_nil] at this
theorem nice_step {r : List UInt8} (h : niceB r = true) : (stepI r).code = (stepR r).code := by
  unfold stepI
  split
  · rename_i hp
    rw [pre_close hp]
    show (closeI (r.drop 2)).code = (closeR (r.drop 2)).code
    obtain ⟨t, rfl⟩ : ∃ t, r = 60 :: 47 :: t := by
      unfold Lib.hasPrefix at hp
      obtain ⟨t, ht⟩ := List.isPrefixOf_iff_prefix.1 hp
      exact ⟨t, ht.symm⟩
    rw [niceB, if_pos rfl, Bool.and_eq_true] at h
    have h1 : ((47 : UInt8) != 47 || t.contains 62 || decide ((closeR t).code = 1)) = true := h.1
    show (closeI t).code = (closeR t).code
    unfold closeI
    cases ht : t.contains 62 with
    | true => rw [if_pos rfl]
    | false =>
      rw [ht] at h1
      rw [if_neg (by decide)]
      have h2 : (closeR t).code = 1 := by simpa using h1
      exact h2.symm
  · rfl
theorem nice_drop : ∀ (n : Nat) {r : List UInt8}, niceB r = true → niceB (r.drop n) = true
  | 0, r, h => h
  | n + 1, [], h => rfl
  | n + 1, c :: r, h => by
    rw [niceB, Bool.and_eq_true] at h
    exact nice_drop n h.2
theorem step_two (r : List UInt8) (h : (stepR r).code = 0) : (stepR r).ts.length ≤ 2 := by
  have hs : ∀ r m, (skipR r m).ts.length ≤ 2 := fun r m => by unfold skipR; split <;> exact Nat.zero_le _
  have hc : ∀ r, (cdataR r).ts.length ≤ 2 := fun r => by
    unfold cdataR
    split
    · exact Nat.zero_le _
    split
    · exact Nat.zero_le _
    · exact (by decide : 1 ≤ 2)
  have hcl : ∀ r, (closeR r).ts.length ≤ 2 := fun r => by
    unfold closeR
    split
    · exact Nat.zero_le _
    split
    · exact Nat.zero_le _
    · exact (by decide : 1 ≤ 2)
  have ho : ∀ r, (openR r).ts.length ≤ 2 := fun r => by
    unfold openR
    split
    · exact Nat.zero_le _
    split
    · exact Nat.zero_le _
    · dsimp only
      split
      · exact (by decide : 2 ≤ 2)
      · exact (by decide : 1 ≤ 2)
  unfold stepR
  split
  · unfold markR
    split
    · exact hs _ _
    split
    · exact hs _ _
    split
    · exact hc _
    split
    · exact hcl _
    · exact ho _
  · split
    · exact (by decide : 1 ≤ 2)
    · exact Nat.zero_le _
/-- A nice text that is short is read alike in both ways. -/
theorem nice_same : ∀ (n : Nat) (acc : List TV) (l : List UInt8), l.length ≤ n → niceB l = true → acc.length + 2 * l.length ≤ 3000 → endT (tokH acc l) = tokG acc l
  | n, acc, [], _, _, ha => by
    rw [tokH_nil, tokG_nil]
    unfold endT
    rw [if_neg (by simp), if_neg (by simp at ha ⊢; omega)]
  | 0, acc, c :: r, hn, _, _ => by simp at hn
  | n + 1, acc, c :: r, hn, hni, ha => by
    have hne : c :: r ≠ [] := by simp
    have hcc := nice_step hni
    by_cases hc : (stepR (c :: r)).code = 0
    · have hs := step_le hne hc
      have h2 := step_two _ hc
      rw [tokH_step hne hc, tokG_next hne hc (by rw [List.length_append]; omega)]
      exact nice_same n _ _ (by rw [List.length_drop]; omega) (nice_drop _ hni) (by rw [List.length_append, List.length_drop]; omega)
    · rw [tokG_bad hne hc, tokH_bad hne (by rw [hcc]; exact hc), hcc]
      unfold endT
      rw [if_pos hc]
/-- So many times a mark that begins and ends at once. -/
def repA : Nat → List UInt8
  | 0 => []
  | n + 1 => 60 :: 97 :: 47 :: 62 :: repA n
theorem repA_snoc : ∀ n, repA n ++ [60, 97, 47, 62] = repA (n + 1)
  | 0 => rfl
  | n + 1 => by
    have := repA_snoc n
    show 60 :: 97 :: 47 :: 62 :: (repA n ++ [60, 97, 47, 62]) = _
    rw [this]
    rfl
theorem rep_step (x : List UInt8) : stepR (60 :: 97 :: 47 :: 62 :: x) = ⟨[⟨1, vA⟩, ⟨2, vA⟩], 4, 0⟩ := by
  have hn : nameN (97 :: 47 :: 62 :: x) = 1 := by
    have ht : (97 :: 47 :: 62 :: x).takeWhile nmB = [97] := by rw [List.takeWhile_cons, if_pos (by decide), List.takeWhile_cons, if_neg (by decide)]
    rw [name_alt, ht]
    rfl
  have he : openE (97 :: 47 :: 62 :: x) = 2 := by unfold openE; rw [hn]; rfl
  have hm : openM (97 :: 47 :: 62 :: x) = [47] := by unfold openM; rw [hn, he]; rfl
  rw [step_mark13 rfl]
  unfold markR
  rw [if_neg (by simp [Lib.hasPrefix, List.isPrefixOf]), if_neg (by simp [Lib.hasPrefix, List.isPrefixOf]), if_neg (by simp [Lib.hasPrefix, List.isPrefixOf]), if_neg (by simp [Lib.hasPrefix, List.isPrefixOf])]
  show shMR 1 (openR (97 :: 47 :: 62 :: x)) = _
  unfold openR
  rw [he, hn, hm, if_neg (by simp), if_neg (by decide)]
  rfl
theorem rep_I : ∀ (n : Nat) (acc : List TV), (tokH acc (repA n)).2 = 0 ∧ (tokH acc (repA n)).1.length = acc.length + 2 * n
  | 0, acc => ⟨rfl, rfl⟩
  | n + 1, acc => by
    show (tokH acc (60 :: 97 :: 47 :: 62 :: repA n)).2 = 0 ∧ (tokH acc (60 :: 97 :: 47 :: 62 :: repA n)).1.length = _
    rw [tokH_step (by simp) (by rw [rep_step]), rep_step]
    have := rep_I n (acc ++ [⟨1, vA⟩, ⟨2, vA⟩])
    refine ⟨this.1, this.2.trans ?_⟩
    simp
    omega
theorem rep_L : ∀ (n : Nat) (acc : List TV), acc.length ≤ 3000 → tokG acc (repA n) = endT (tokH acc (repA n))
  | 0, acc, h => by
    show (acc, 0) = endT (acc, 0)
    unfold endT
    rw [if_neg (by simp), if_neg (by simpa using h)]
  | n + 1, acc, h => by
    by_cases hm : 3000 < acc.length + 2
    · have h2 := rep_I (n + 1) acc
      have e : endT (tokH acc (repA (n + 1))) = ([], 3) := by
        unfold endT
        rw [if_neg (by rw [h2.1]; simp), if_pos (by omega)]
      rw [e]
      show tokG acc (60 :: 97 :: 47 :: 62 :: repA n) = _
      exact tokG_many (by simp) (by rw [rep_step]) (by rw [rep_step, List.length_append]; exact hm)
    · show tokG acc (60 :: 97 :: 47 :: 62 :: repA n) = endT (tokH acc (60 :: 97 :: 47 :: 62 :: repA n))
      rw [tokH_step (by simp) (by rw [rep_step]), tokG_next (by simp) (by rw [rep_step]) (by rw [rep_step, List.length_append]; exact hm), rep_step]
      exact rep_L n _ (by simp; omega)
/-- What is drawn for tokens. -/
def DrawnT (l : List UInt8) : Prop := (l.length ≤ 160 ∧ niceB l = true) ∨ ∃ n, l = repA n
/-- What is drawn is read alike in both ways. -/
theorem drawn_same {l : List UInt8} (h : DrawnT l) : toksI l = toksL l := by
  rcases h with ⟨h1, h2⟩ | ⟨n, rfl⟩
  · exact nice_same _ _ _ (Nat.le_refl _) h2 (by simp; omega)
  · exact (rep_L n [] (Nat.zero_le _)).symm
end Go.Proofs.YtjdmmmohaiiocaaDoor
