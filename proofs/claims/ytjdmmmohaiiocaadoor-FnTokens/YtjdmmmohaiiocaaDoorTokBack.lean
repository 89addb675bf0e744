/- Chapter 13, plainly: what is read ahead of a mark is read the same behind it. -/
import Derived.Test.YtjdmmmohaiiocaaDoorRows
import Derived.Test.YtjdmmmohaiiocaaDoorTokSpec2
import Derived.Test.YtjdmmmohaiiocaaDoorBalSpec
namespace Go.Proofs.YtjdmmmohaiiocaaDoor
open Go.RowKit
set_option linter.unusedVariables false

theorem pre_app {r p t : List UInt8} (hr : r ≠ []) (hp : 60 ∉ p.drop 1) : Lib.hasPrefix (r ++ 60 :: t) p = Lib.hasPrefix r p := by
  unfold Lib.hasPrefix
  rw [Bool.eq_iff_iff, List.isPrefixOf_iff_prefix, List.isPrefixOf_iff_prefix]
  constructor
  · rintro ⟨x, hx⟩
    rcases Nat.lt_or_ge r.length p.length with h | h
    · exfalso
      have h1 : p[r.length]? = some 60 := by
        have h2 : (p ++ x)[r.length]? = (r ++ 60 :: t)[r.length]? := by rw [hx]
        rw [List.getElem?_append_left h, List.getElem?_append_right (Nat.le_refl _), Nat.sub_self] at h2
        exact h2
      have hr0 : 0 < r.length := List.length_pos_iff.2 hr
      apply hp
      have h3 : (p.drop 1)[r.length - 1]? = some 60 := by rw [List.getElem?_drop, show 1 + (r.length - 1) = r.length by omega]; exact h1
      exact List.mem_of_getElem? h3
    · refine ⟨x.take (r.length - p.length), ?_⟩
      have h2 := congrArg (List.take r.length) hx
      rw [List.take_left' rfl, List.take_append, List.take_of_length_le h] at h2
      exact h2
  · exact fun h => h.trans (List.prefix_append _ _)
theorem index_app {r m t : List UInt8} (h : Lib.index r m ≠ -1) : Lib.index (r ++ t) m = Lib.index r m := by
  rcases Lib.index_spec r m with ⟨h1, _⟩ | ⟨i, h1, h2, h3, h4⟩
  · exact absurd h1 h
  · have hroom := Lib.index_room r m (by rw [h1]; omega)
    rw [h1] at hroom
    rw [h1]
    refine Lib.index_first (by rw [List.length_append]; omega) ?_ fun j hj => ?_
    · unfold Lib.occAt at h3 ⊢
      rw [List.isPrefixOf_iff_prefix] at h3 ⊢
      rw [List.drop_append_of_le_length h2]
      exact h3.trans (List.prefix_append _ _)
    · have := h4 j hj
      unfold Lib.occAt at this ⊢
      rw [← Bool.not_eq_true, List.isPrefixOf_iff_prefix] at this ⊢
      intro hp
      apply this
      rw [List.drop_append_of_le_length (by omega)] at hp
      exact List.prefix_of_prefix_length_le hp (List.prefix_append _ _) (by rw [List.length_drop]; omega)
theorem takeW_app {p : UInt8 → Bool} {r t : List UInt8} {c : UInt8} (hc : p c = false) : (r ++ c :: t).takeWhile p = r.takeWhile p := by
  induction r with
  | nil => simp [hc]
  | cons a r ih => simp only [List.cons_append, List.takeWhile_cons, ih]
theorem name_alt (r : List UInt8) : nameN r = if 41 ≤ (r.takeWhile nmB).length then 0 else (r.takeWhile nmB).length := by
  obtain ⟨j, hj⟩ : ∃ j, (r.takeWhile nmB).length = j := ⟨_, rfl⟩
  have hjl : j ≤ r.length := by rw [← hj]; exact (List.takeWhile_sublist _).length_le
  have hall : ∀ c ∈ r.takeWhile nmB, nmB c = true := fun c hc => List.all_eq_true.1 List.all_takeWhile c hc
  have htk : r.take j = r.takeWhile nmB := by
    rw [← hj]
    exact (List.prefix_iff_eq_take.1 (List.takeWhile_prefix _)).symm
  rw [hj]
  by_cases h : 41 ≤ j
  · rw [if_pos h, name_len (j := 41) (by omega) (Nat.le_refl _) (fun c hc => hall c (by
      rw [← htk]
      exact List.mem_of_mem_take (i := 41) (by rwa [List.take_take, Nat.min_eq_left h]))) (.inr (.inl rfl)), if_pos rfl]
  · rw [if_neg h, name_len (j := j) hjl (by omega) (by rw [htk]; exact hall) ?_, if_neg (by omega)]
    by_cases he : j = r.length
    · exact .inl he
    · right; right
      have hd : r.drop j = r.dropWhile nmB := by
        have h1 : r.takeWhile nmB ++ r.dropWhile nmB = r := List.takeWhile_append_dropWhile
        have h2 := congrArg (List.drop j) h1
        rw [List.drop_left' hj] at h2
        exact h2.symm
      have hlt : j < r.length := by omega
      have h3 := List.head?_dropWhile_not nmB r
      rw [← hd, List.drop_eq_getElem_cons hlt, List.head?_cons] at h3
      exact ⟨r[j], List.getElem?_eq_getElem hlt, by simpa using h3⟩
theorem name_app {r t : List UInt8} : nameN (r ++ 60 :: t) = nameN r := by rw [name_alt, name_alt, takeW_app (by decide)]
theorem scQ_app : ∀ (l t : List UInt8) (q : UInt8), scQ q l < l.length → scQ q (l ++ t) = scQ q l
  | [], t, q, h => absurd h (Nat.not_lt_zero _)
  | c :: l, t, q, h => by
    rw [List.cons_append]
    by_cases hs : q = 0 ∧ c = 62
    · rw [scQ, scQ, if_pos hs, if_pos hs]
    · rw [scQ, if_neg hs, List.length_cons] at h
      rw [scQ, scQ, if_neg hs, if_neg hs, scQ_app l t (nxQ q c) (by omega)]
theorem skip_app {r m t : List UInt8} (h : (skipR r m).code = 0) : skipR (r ++ t) m = skipR r m := by
  unfold skipR at h ⊢
  by_cases hi : Lib.index r m = -1
  · rw [if_pos hi] at h; cases h
  · rw [index_app hi]
theorem cdata_app {r t : List UInt8} (h : (cdataR r).code = 0) : cdataR (r ++ t) = cdataR r := by
  unfold cdataR at h ⊢
  by_cases hi : Lib.index r [93, 93, 62] = -1
  · rw [if_pos hi] at h; cases h
  · rw [index_app hi, List.take_append_of_le_length]
    have h1 := Lib.index_room r [93, 93, 62] (by have := Lib.index_ge r [93, 93, 62]; omega)
    have h2 : ([93, 93, 62] : List UInt8).length = 3 := rfl
    omega
theorem close_app {r t : List UInt8} (h : (closeR r).code = 0) : closeR (r ++ 60 :: t) = closeR r := by
  have hn := nameN_le r
  have he := closeE_le r
  have hE : closeE (r ++ 60 :: t) = closeE r := by
    unfold closeE
    rw [name_app, List.drop_append_of_le_length hn.1, takeW_app (by decide)]
  unfold closeR at h ⊢
  by_cases h1 : closeE r = r.length
  · rw [if_pos h1] at h; cases h
  · rw [hE, name_app, if_neg h1, if_neg (by rw [List.length_append, List.length_cons]; omega), List.getElem?_append_left (by omega), List.take_append_of_le_length hn.1]
theorem open_app {r t : List UInt8} (h : (openR r).code = 0) : openR (r ++ 60 :: t) = openR r := by
  have hn := nameN_le r
  have he := openE_le r
  unfold openR at h
  by_cases h1 : openE r = r.length
  · rw [if_pos h1] at h; cases h
  · have hE : openE (r ++ 60 :: t) = openE r := by
      have hsc : scQ 0 (r.drop (nameN r)) < (r.drop (nameN r)).length := by
        unfold openE at he h1
        rw [List.length_drop]
        omega
      unfold openE
      rw [name_app, List.drop_append_of_le_length hn.1, scQ_app _ _ _ hsc]
    have hM : openM (r ++ 60 :: t) = openM r := by
      unfold openM
      rw [hE, name_app, List.take_append_of_le_length he]
    unfold openR
    rw [hE, hM, name_app, if_neg h1, if_neg (by rw [List.length_append, List.length_cons]; omega), List.take_append_of_le_length hn.1]
theorem step_mark13 {r : List UInt8} (h : r.head? = some 60) : stepR r = markR r := by unfold stepR; rw [if_pos h]
theorem step_text13 {r : List UInt8} (h : r.head? ≠ some 60) : stepR r = match unF (upB 60 r) with
    | some t => ⟨[⟨3, bytesV t⟩], (upB 60 r).length, 0⟩
    | none => noMR 2 := by
  unfold stepR
  rw [if_neg h]
  cases unF (upB 60 r) <;> rfl
theorem sh_code (k : Nat) (m : MR) : (shMR k m).code = m.code := rfl
theorem mark_app {r t : List UInt8} (hr : r ≠ []) (h : (markR r).code = 0) : markR (r ++ 60 :: t) = markR r := by
  have hl : 0 < r.length := List.length_pos_iff.2 hr
  unfold markR at h ⊢
  rw [pre_app hr (by decide), pre_app hr (by decide), pre_app hr (by decide), pre_app hr (by decide)]
  cases h1 : Lib.hasPrefix r [60, 33, 45, 45] with
  | true =>
    rw [h1, if_pos rfl, sh_code] at h
    have := pre_len h1
    simp only [↓reduceIte]
    rw [List.drop_append_of_le_length (by simpa using this), skip_app h]
  | false =>
    rw [h1, if_neg (by decide)] at h
    simp only [Bool.false_eq_true, ↓reduceIte]
    cases h2 : Lib.hasPrefix r [60, 63] with
    | true =>
      rw [h2, if_pos rfl, sh_code] at h
      have := pre_len h2
      simp only [↓reduceIte]
      rw [List.drop_append_of_le_length (by simpa using this), skip_app h]
    | false =>
      rw [h2, if_neg (by decide)] at h
      simp only [Bool.false_eq_true, ↓reduceIte]
      cases h3 : Lib.hasPrefix r [60, 33, 91, 67, 68, 65, 84, 65, 91] with
      | true =>
        rw [h3, if_pos rfl, sh_code] at h
        have := pre_len h3
        simp only [↓reduceIte]
        rw [List.drop_append_of_le_length (by simpa using this), cdata_app h]
      | false =>
        rw [h3, if_neg (by decide)] at h
        simp only [Bool.false_eq_true, ↓reduceIte]
        cases h4 : Lib.hasPrefix r [60, 47] with
        | true =>
          rw [h4, if_pos rfl, sh_code] at h
          have := pre_len h4
          simp only [↓reduceIte]
          rw [List.drop_append_of_le_length (by simpa using this), close_app h]
        | false =>
          rw [h4, if_neg (by decide), sh_code] at h
          simp only [Bool.false_eq_true, ↓reduceIte]
          rw [List.drop_append_of_le_length hl, open_app h]
/-- A step ahead of a mark is the same with the mark behind it. -/
theorem step_app {r t : List UInt8} (hr : r ≠ []) (h : (stepR r).code = 0) : stepR (r ++ 60 :: t) = stepR r := by
  have hh : (r ++ 60 :: t).head? = r.head? := by
    cases r with
    | nil => exact absurd rfl hr
    | cons c r => rfl
  unfold stepR at h ⊢
  rw [hh]
  by_cases h1 : r.head? = some 60
  · rw [if_pos h1] at h
    rw [if_pos h1, if_pos h1, mark_app hr h]
  · rw [if_neg h1, if_neg h1]
    have : upB 60 (r ++ 60 :: t) = upB 60 r := by unfold upB; exact takeW_app (by decide)
    rw [this]
/-- What was read stays. -/
theorem tok_ge : ∀ (n : Nat) (acc l' : List TV) (l : List UInt8), l.length ≤ n → tokG acc l = (l', 0) → acc.length ≤ l'.length
  | n, acc, l', [], _, h => by
    rw [tokG_nil] at h
    cases h
    exact Nat.le_refl _
  | 0, acc, l', c :: r, hn, _ => by simp at hn
  | n + 1, acc, l', c :: r, hn, h => by
    have hne : c :: r ≠ [] := by simp
    by_cases hc : (stepR (c :: r)).code = 0
    · by_cases hmany : 3000 < (acc ++ (stepR (c :: r)).ts).length
      · rw [tokG_many hne hc hmany] at h; cases h
      · have hs := step_le hne hc
        rw [tokG_next hne hc hmany] at h
        have := tok_ge n _ l' _ (by rw [List.length_drop]; omega) h
        rw [List.length_append] at this
        omega
    · rw [tokG_bad hne hc] at h
      injection h with _ h
      exact absurd h hc
/-- Tokens of a text, with others ahead and a mark behind. -/
theorem tok_app (pre : List TV) : ∀ (n : Nat) (acc l' : List TV) (l t : List UInt8), l.length ≤ n → tokG acc l = (l', 0) → l'.length + pre.length ≤ 3000 → tokG (pre ++ acc) (l ++ 60 :: t) = tokG (pre ++ l') (60 :: t)
  | n, acc, l', [], t, _, h, _ => by
    rw [tokG_nil] at h
    cases h
    rfl
  | 0, acc, l', c :: r, t, hn, _, _ => by simp at hn
  | n + 1, acc, l', c :: r, t, hn, h, hm => by
    have hne : c :: r ≠ [] := by simp
    by_cases hc : (stepR (c :: r)).code = 0
    · by_cases hmany : 3000 < (acc ++ (stepR (c :: r)).ts).length
      · rw [tokG_many hne hc hmany] at h; cases h
      · have hs := step_le hne hc
        have h0 := h
        rw [tokG_next hne hc hmany] at h
        have hge := tok_ge _ _ _ _ (Nat.le_refl _) h
        have ha := step_app (t := t) hne hc
        have hne2 : (c :: r) ++ 60 :: t ≠ [] := by simp
        rw [tokG_next hne2 (by rw [ha]; exact hc) (by rw [ha, List.append_assoc, List.length_append]; omega), ha, List.append_assoc, List.drop_append_of_le_length hs.2]
        exact tok_app pre n _ l' _ t (by rw [List.length_drop]; omega) h hm
    · rw [tokG_bad hne hc] at h
      injection h with _ h
      exact absurd h hc
end Go.Proofs.YtjdmmmohaiiocaaDoor
