/- Contracts of spec.l1Blank, spec.Trim and impl.Trim. -/
import Derived.Test.YtfdgehlobbeomaaDoorRows
import Derived.Test.YtfdgehlobbeomaaDoorCloneWalk
import Derived.Lib.SlTrimSet
namespace Go.Proofs.YtfdgehlobbeomaaDoor
open Go.RowKit

def blanks4 : List UInt8 := [32, 9, 10, 13]
def isBlank (c : UInt8) : Prop := c.toNat = 32 ∨ c.toNat = 9 ∨ c.toNat = 10 ∨ c.toNat = 13

theorem blank_yes {c : UInt8} (h : isBlank c) : blanks4.contains c = true := by
  rcases h with h | h | h | h
  · rw [show c = 32 from UInt8.toNat_inj.1 (by rw [h]; rfl)]; rfl
  · rw [show c = 9 from UInt8.toNat_inj.1 (by rw [h]; rfl)]; rfl
  · rw [show c = 10 from UInt8.toNat_inj.1 (by rw [h]; rfl)]; rfl
  · rw [show c = 13 from UInt8.toNat_inj.1 (by rw [h]; rfl)]; rfl

theorem blank_no {c : UInt8} (h : ¬ isBlank c) : blanks4.contains c = false := by
  unfold isBlank at h
  simp only [blanks4, List.contains_cons, List.contains_nil, Bool.or_false, Bool.or_eq_false_iff, beq_eq_false_iff_ne, ne_eq]
  refine ⟨?_, ?_, ?_, ?_⟩ <;> (intro e; subst e; exact h (by decide))

theorem trim_eq (s : ByteArray) (a b : Nat) (hab : a ≤ b) (hb : b ≤ s.size) (h1 : ∀ j, (hj : j < s.size) → j < a → isBlank s[j]) (h2 : ∀ h : a < b, ¬ isBlank s[a]) (h3 : ∀ j, (hj : j < s.size) → b ≤ j → isBlank s[j]) (h4 : ∀ h : a < b, ¬ isBlank s[b - 1]) :
    s.extract a b = ⟨(Lib.trimS s.data.toList blanks4).toArray⟩ := by
  have hlen : s.data.toList.length = s.size := by simp
  have at' : ∀ (j : Nat) x, s.data.toList[j]? = some x → ∃ hj : j < s.size, s[j] = x := by
    intro j x hx
    obtain ⟨hj, he⟩ := List.getElem?_eq_some_iff.1 hx
    exact ⟨by omega, he⟩
  have key : Lib.trimS s.data.toList blanks4 = (s.data.toList.take b).drop a := by
    unfold Lib.trimS
    by_cases hlt : a < b
    · have e : Lib.trimRightS s.data.toList blanks4 = s.data.toList.take b := by
        refine Lib.trimRightS_take _ _ b (by omega) (fun j x hj hx => ?_) (fun x _ hx => ?_)
        · obtain ⟨hj', rfl⟩ := at' j x hx
          exact blank_yes (h3 j hj' hj)
        · obtain ⟨_, rfl⟩ := at' _ x hx
          exact blank_no (h4 hlt)
      rw [e]
      refine Lib.trimLeftS_drop _ _ a (by rw [List.length_take]; omega) (fun j x hj hx => ?_) (fun x hx => ?_)
      · rw [List.getElem?_take, if_pos (by omega)] at hx
        obtain ⟨hj', rfl⟩ := at' j x hx
        exact blank_yes (h1 j hj' hj)
      · rw [List.getElem?_take, if_pos hlt] at hx
        obtain ⟨_, rfl⟩ := at' a x hx
        exact blank_no (h2 hlt)
    · have e : Lib.trimRightS s.data.toList blanks4 = s.data.toList.take 0 := by
        refine Lib.trimRightS_take _ _ 0 (by omega) (fun j x hj hx => ?_) (fun x h _ => by omega)
        obtain ⟨hj', rfl⟩ := at' j x hx
        rcases Nat.lt_or_ge j a with h | h
        · exact blank_yes (h1 j hj' h)
        · exact blank_yes (h3 j hj' (by omega))
      rw [e, List.drop_eq_nil_of_le (by rw [List.length_take]; omega)]
      rfl
  rw [key]
  apply ByteArray.ext
  rw [ByteArray.data_extract]
  apply Array.ext'
  rw [Array.toList_extract, List.drop_take]



theorem trimS_le (l cs : List UInt8) : (Lib.trimS l cs).length ≤ l.length := by
  have a : ∀ m : List UInt8, (m.dropWhile (cs.contains ·)).length ≤ m.length := fun m => (List.dropWhile_sublist _).length_le
  unfold Lib.trimS Lib.trimLeftS Lib.trimRightS
  refine Nat.le_trans (a _) ?_
  rw [List.length_reverse]
  refine Nat.le_trans (a _) ?_
  rw [List.length_reverse]
  exact Nat.le_refl _

end Go.Proofs.YtfdgehlobbeomaaDoor
