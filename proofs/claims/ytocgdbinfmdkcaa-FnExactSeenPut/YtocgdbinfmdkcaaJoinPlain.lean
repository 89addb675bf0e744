/- Plain laws of fields: put together they are the text; their sizes. -/
import Derived.Test.YtocgdbinfmdkcaaFieldsWalk
import Derived.Test.YtocgdbinfmdkcaaExtPlain
namespace Go.Proofs.Ytocgdbinfmdkcaa
open Go.RowKit

/-- Texts put together with a byte between them. -/
def jn (sep : UInt8) : List ByteArray → List UInt8
  | [] => []
  | x :: xs => x.data.toList ++ xs.flatMap fun y => sep :: y.data.toList

theorem jn_one (sep : UInt8) (x : ByteArray) : jn sep ([] ++ [x]) = x.data.toList := by simp [jn]

theorem jn_snoc (sep : UInt8) (l : List ByteArray) (x : ByteArray) (h : l ≠ []) : jn sep (l ++ [x]) = jn sep l ++ [sep] ++ x.data.toList := by
  cases l with
  | nil => exact absurd rfl h
  | cons y ys => simp [jn, List.flatMap_append]

theorem fields_join (s : ByteArray) (b : Int) (hb0 : 0 ≤ b) (hb1 : b ≤ 255) : ∀ k, k ≤ s.size →
    (fieldsTo s b k).2 ≤ k ∧ ((fieldsTo s b k).1 = [] → (fieldsTo s b k).2 = 0) ∧ ((fieldsTo s b k).1 ≠ [] → jn (UInt8.ofNat b.toNat) (fieldsTo s b k).1 ++ [UInt8.ofNat b.toNat] = s.data.toList.take (fieldsTo s b k).2)
  | 0, _ => by simp [fieldsTo]
  | k + 1, hk => by
    obtain ⟨h1, h2, h3⟩ := fields_join s b hb0 hb1 k (by omega)
    by_cases e : (s[k].toNat : Int) = b
    · rw [fieldsTo_hit s b k (by omega) e]
      refine ⟨Nat.le_refl _, fun h => by simp at h, fun _ => ?_⟩
      have hsep : s[k] = UInt8.ofNat b.toNat := by
        rw [← e]; simp
      have hx : (s.extract (fieldsTo s b k).2 k).data.toList = (s.data.toList.take k).drop (fieldsTo s b k).2 := extract_list s _ _
      have hcat : s.data.toList.take (fieldsTo s b k).2 ++ (s.data.toList.take k).drop (fieldsTo s b k).2 = s.data.toList.take k := by
        have := List.take_append_drop (fieldsTo s b k).2 (s.data.toList.take k)
        rw [List.take_take, Nat.min_eq_left h1] at this
        exact this
      simp only
      by_cases hn : (fieldsTo s b k).1 = []
      · rw [hn, jn_one, hx, h2 hn, take_snoc s k (by omega), hsep]
        simp
      · rw [jn_snoc _ _ _ hn, h3 hn, hx, hcat, take_snoc s k (by omega), hsep]
    · rw [fieldsTo_miss s b k (by omega) e]
      exact ⟨by omega, h2, h3⟩

theorem fieldsL_join (s : ByteArray) (b : Int) (hb0 : 0 ≤ b) (hb1 : b ≤ 255) : jn (UInt8.ofNat b.toNat) (fieldsL s b) = s.data.toList := by
  obtain ⟨h1, h2, h3⟩ := fields_join s b hb0 hb1 s.size (Nat.le_refl _)
  have hx := extract_list s (fieldsTo s b s.size).2 s.size
  rw [take_all s s.size (Nat.le_refl _)] at hx
  unfold fieldsL
  by_cases hn : (fieldsTo s b s.size).1 = []
  · rw [hn, jn_one, hx, h2 hn]; rfl
  · rw [jn_snoc _ _ _ hn, h3 hn, hx, List.take_append_drop]

theorem fieldsTo_sizes (s : ByteArray) (b : Int) : ∀ k, ∀ x ∈ (fieldsTo s b k).1, x.size ≤ s.size
  | 0, x, hx => by simp [fieldsTo] at hx
  | k + 1, x, hx => by
    rw [fieldsTo] at hx
    split at hx
    · rcases List.mem_append.1 hx with h | h
      · exact fieldsTo_sizes s b k x h
      · rw [List.mem_singleton.1 h, ByteArray.size_extract]; omega
    · exact fieldsTo_sizes s b k x hx

theorem fieldsL_sizes (s : ByteArray) (b : Int) : ∀ x ∈ fieldsL s b, x.size ≤ s.size := by
  intro x hx
  unfold fieldsL at hx
  rcases List.mem_append.1 hx with h | h
  · exact fieldsTo_sizes s b _ x h
  · rw [List.mem_singleton.1 h, ByteArray.size_extract]; omega

theorem btake_snoc (l : List ByteArray) (k : Nat) (h : k < l.length) : l.take (k + 1) = l.take k ++ [l.getD k ByteArray.empty] := by
  rw [List.take_succ_eq_append_getElem h]
  simp [List.getD, h]

end Go.Proofs.Ytocgdbinfmdkcaa
