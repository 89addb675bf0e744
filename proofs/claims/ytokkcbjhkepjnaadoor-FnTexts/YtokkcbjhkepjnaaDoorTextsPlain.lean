/- Plain laws: what is lower, or trimmed, stays so; fields put together again are the text. -/
import Derived.Test.YtokkcbjhkepjnaaDoorFieldsWalk
import Derived.Test.YtokkcbjhkepjnaaDoorLowerWalk
import Derived.Test.YtokkcbjhkepjnaaDoorTrimWalk
namespace Go.Proofs.YtokkcbjhkepjnaaDoor

theorem lowerC_idem (c : UInt8) : lowerC (lowerC c) = lowerC c := by
  have h := lowerC_toNat c
  unfold lowerC at h ⊢
  by_cases g : 65 ≤ c.toNat ∧ c.toNat ≤ 90
  · rw [if_pos g] at h ⊢
    rw [if_pos (by omega)] at h
    rw [if_neg (by omega)]
  · rw [if_neg g, if_neg g]

theorem lowerL_idem (l : List UInt8) : lowerL (lowerL l) = lowerL l := by
  unfold lowerL
  rw [List.map_map]
  exact List.map_congr_left fun c _ => lowerC_idem c

theorem lowerL_length (l : List UInt8) : (lowerL l).length = l.length := by simp [lowerL]

theorem head_dropWhile (p : UInt8 → Bool) : ∀ (l : List UInt8) (b : UInt8), (l.dropWhile p)[0]? = some b → p b = false
  | [], b, h => by simp at h
  | c :: l, b, h => by
    rw [List.dropWhile_cons] at h
    by_cases g : p c = true
    · rw [if_pos g] at h
      exact head_dropWhile p l b h
    · rw [if_neg g] at h
      simp at h
      subst h
      simpa using g

theorem last_trimRight (l cs : List UInt8) (b : UInt8) (h : (Lib.trimRightS l cs).getLast? = some b) : cs.contains b = false := by
  unfold Lib.trimRightS at h
  rw [List.getLast?_reverse, List.head?_eq_getElem?] at h
  exact head_dropWhile (cs.contains ·) _ b h

theorem trimS_idem (l cs : List UInt8) : Lib.trimS (Lib.trimS l cs) cs = Lib.trimS l cs := by
  have hl : ∀ b, (Lib.trimS l cs)[0]? = some b → cs.contains b = false := fun b hb => head_dropWhile (cs.contains ·) _ b hb
  have hr : ∀ b, (Lib.trimS l cs).getLast? = some b → cs.contains b = false := by
    intro b hb
    have hs : Lib.trimS l cs <:+ Lib.trimRightS l cs := List.dropWhile_suffix _
    obtain ⟨t, ht⟩ := hs
    refine last_trimRight l cs b ?_
    rw [← ht, List.getLast?_append, hb]
    rfl
  generalize Lib.trimS l cs = m at hl hr
  have e : Lib.trimRightS m cs = m := by
    have := Lib.trimRightS_take m cs m.length (Nat.le_refl _) (fun j b hj hb => by
      rw [List.getElem?_eq_none hj] at hb
      cases hb) (fun b _ hb => hr b (by rw [List.getLast?_eq_getElem?]; exact hb))
    rw [this, List.take_length]
  unfold Lib.trimS
  rw [e]
  have := Lib.trimLeftS_drop m cs 0 (Nat.zero_le _) (fun j b hj _ => by omega) hl
  rw [this]
  rfl

/-- Texts put together with a byte between them. -/
def jn (sep : UInt8) : List ByteArray → List UInt8
  | [] => []
  | x :: xs => x.data.toList ++ xs.flatMap fun y => sep :: y.data.toList

theorem jn_one (sep : UInt8) (x : ByteArray) : jn sep ([] ++ [x]) = x.data.toList := by simp [jn]

theorem jn_snoc (sep : UInt8) (l : List ByteArray) (x : ByteArray) (h : l ≠ []) : jn sep (l ++ [x]) = jn sep l ++ [sep] ++ x.data.toList := by
  cases l with
  | nil => exact absurd rfl h
  | cons y ys => simp [jn, List.flatMap_append]

theorem extract_list (s : ByteArray) (a b : Nat) : (s.extract a b).data.toList = (s.data.toList.take b).drop a := by
  rw [ByteArray.data_extract, Array.toList_extract, List.drop_take]

theorem fields_join (s : ByteArray) (b : Int) (hb0 : 0 ≤ b) (hb1 : b ≤ 255) : ∀ k, k ≤ s.size →
    (fieldsTo s b k).2 ≤ k ∧ ((fieldsTo s b k).1 = [] → (fieldsTo s b k).2 = 0) ∧ ((fieldsTo s b k).1 ≠ [] → jn (UInt8.ofNat b.toNat) (fieldsTo s b k).1 ++ [UInt8.ofNat b.toNat] = s.data.toList.take (fieldsTo s b k).2)
  | 0, _ => by simp [fieldsTo]
  | k + 1, hk => by
    obtain ⟨h1, h2, h3⟩ := fields_join s b hb0 hb1 k (by omega)
    by_cases e : (s[k].toNat : Int) = b
    · rw [fieldsTo_hit s b k (by omega) e]
      refine ⟨Nat.le_refl _, fun h => by simp at h, fun _ => ?_⟩
      have hsep : s[k] = UInt8.ofNat b.toNat := by
        rw [← e]; simp
      have hx : (s.extract (fieldsTo s b k).2 k).data.toList = (s.data.toList.take k).drop (fieldsTo s b k).2 := extract_list s _ _
      have hcat : s.data.toList.take (fieldsTo s b k).2 ++ (s.data.toList.take k).drop (fieldsTo s b k).2 = s.data.toList.take k := by
        have := List.take_append_drop (fieldsTo s b k).2 (s.data.toList.take k)
        rw [List.take_take, Nat.min_eq_left h1] at this
        exact this
      simp only
      by_cases hn : (fieldsTo s b k).1 = []
      · rw [hn, jn_one, hx, h2 hn, take_snoc s k (by omega), hsep]
        simp
      · rw [jn_snoc _ _ _ hn, h3 hn, hx, hcat, take_snoc s k (by omega), hsep]
    · rw [fieldsTo_miss s b k (by omega) e]
      exact ⟨by omega, h2, h3⟩

theorem fieldsL_join (s : ByteArray) (b : Int) (hb0 : 0 ≤ b) (hb1 : b ≤ 255) : jn (UInt8.ofNat b.toNat) (fieldsL s b) = s.data.toList := by
  obtain ⟨h1, h2, h3⟩ := fields_join s b hb0 hb1 s.size (Nat.le_refl _)
  have hx := extract_list s (fieldsTo s b s.size).2 s.size
  rw [take_all s s.size (Nat.le_refl _)] at hx
  unfold fieldsL
  by_cases hn : (fieldsTo s b s.size).1 = []
  · rw [hn, jn_one, hx, h2 hn]; rfl
  · rw [jn_snoc _ _ _ hn, h3 hn, hx, List.take_append_drop]

theorem fieldsTo_sizes (s : ByteArray) (b : Int) : ∀ k, ∀ x ∈ (fieldsTo s b k).1, x.size ≤ s.size
  | 0, x, hx => by simp [fieldsTo] at hx
  | k + 1, x, hx => by
    rw [fieldsTo] at hx
    split at hx
    · rcases List.mem_append.1 hx with h | h
      · exact fieldsTo_sizes s b k x h
      · rw [List.mem_singleton.1 h, ByteArray.size_extract]; omega
    · exact fieldsTo_sizes s b k x hx

theorem fieldsL_sizes (s : ByteArray) (b : Int) : ∀ x ∈ fieldsL s b, x.size ≤ s.size := by
  intro x hx
  unfold fieldsL at hx
  rcases List.mem_append.1 hx with h | h
  · exact fieldsTo_sizes s b _ x h
  · rw [List.mem_singleton.1 h, ByteArray.size_extract]; omega

theorem btake_snoc (l : List ByteArray) (k : Nat) (h : k < l.length) : l.take (k + 1) = l.take k ++ [l.getD k ByteArray.empty] := by
  rw [List.take_succ_eq_append_getElem h]
  simp [List.getD, h]

end Go.Proofs.YtokkcbjhkepjnaaDoor
