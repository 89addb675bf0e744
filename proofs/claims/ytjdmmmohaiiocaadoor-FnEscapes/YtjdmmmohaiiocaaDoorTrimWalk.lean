/- Contracts of spec.l1Blank, spec.Trim and impl.Trim. -/
import Derived.Test.YtjdmmmohaiiocaaDoorRows
import Derived.Test.YtjdmmmohaiiocaaDoorCloneWalk
import Derived.Lib.SlTrimSet
namespace Go.Proofs.YtjdmmmohaiiocaaDoor
open Go.RowKit

def blanks4 : List UInt8 := [32, 9, 10, 13]
def isBlank (c : UInt8) : Prop := c.toNat = 32 ∨ c.toNat = 9 ∨ c.toNat = 10 ∨ c.toNat = 13

theorem blank_yes {c : UInt8} (h : isBlank c) : blanks4.contains c = true := by
  rcases h with h | h | h | h
  · rw [show c = 32 from UInt8.toNat_inj.1 (by rw [h]; rfl)]; rfl
  · rw [show c = 9 from UInt8.toNat_inj.1 (by rw [h]; rfl)]; rfl
  · rw [show c = 10 from UInt8.toNat_inj.1 (by rw [h]; rfl)]; rfl
  · rw [show c = 13 from UInt8.toNat_inj.1 (by rw [h]; rfl)]; rfl

theorem blank_no {c : UInt8} (h : ¬ isBlank c) : blanks4.contains c = false := by
  unfold isBlank at h
  simp only [blanks4, List.contains_cons, List.contains_nil, Bool.or_false, Bool.or_eq_false_iff, beq_eq_false_iff_ne, ne_eq]
  refine ⟨?_, ?_, ?_, ?_⟩ <;> (intro e; subst e; exact h (by decide))

theorem trim_eq (s : ByteArray) (a b : Nat) (hab : a ≤ b) (hb : b ≤ s.size) (h1 : ∀ j, (hj : j < s.size) → j < a → isBlank s[j]) (h2 : ∀ h : a < b, ¬ isBlank s[a]) (h3 : ∀ j, (hj : j < s.size) → b ≤ j → isBlank s[j]) (h4 : ∀ h : a < b, ¬ isBlank s[b - 1]) :
    s.extract a b = ⟨(Lib.trimS s.data.toList blanks4).toArray⟩ := by
  have hlen : s.data.toList.length = s.size := by simp
  have at' : ∀ (j : Nat) x, s.data.toList[j]? = some x → ∃ hj : j < s.size, s[j] = x := by
    intro j x hx
    obtain ⟨hj, he⟩ := List.getElem?_eq_some_iff.1 hx
    exact ⟨by omega, he⟩
  have key : Lib.trimS s.data.toList blanks4 = (s.data.toList.take b).drop a := by
    unfold Lib.trimS
    by_cases hlt : a < b
    · have e : Lib.trimRightS s.data.toList blanks4 = s.data.toList.take b := by
        refine Lib.trimRightS_take _ _ b (by omega) (fun j x hj hx => ?_) (fun x _ hx => ?_)
        · obtain ⟨hj', rfl⟩ := at' j x hx
          exact blank_yes (h3 j hj' hj)
        · obtain ⟨_, rfl⟩ := at' _ x hx
          exact blank_no (h4 hlt)
      rw [e]
      refine Lib.trimLeftS_drop _ _ a (by rw [List.length_take]; omega) (fun j x hj hx => ?_) (fun x hx => ?_)
      · rw [List.getElem?_take, if_pos (by omega)] at hx
        obtain ⟨hj', rfl⟩ := at' j x hx
        exact blank_yes (h1 j hj' hj)
      · rw [List.getElem?_take, if_pos hlt] at hx
        obtain ⟨_, rfl⟩ := at' a x hx
        exact blank_no (h2 hlt)
    · have e : Lib.trimRightS s.data.toList blanks4 = s.data.toList.take 0 := by
        refine Lib.trimRightS_take _ _ 0 (by omega) (fun j x hj hx => ?_) (fun x h _ => by omega)
        obtain ⟨hj', rfl⟩ := at' j x hx
        rcases Nat.lt_or_ge j a with h | h
        · exact blank_yes (h1 j hj' h)
        · exact blank_yes (h3 j hj' (by omega))
      rw [e, List.drop_eq_nil_of_le (by rw [List.length_take]; omega)]
      rfl
  rw [key]
  apply ByteArray.ext
  rw [ByteArray.data_extract]
  apply Array.ext'
  rw [Array.toList_extract, List.drop_take]

theorem l1Blank_yes (c : UInt8) (w : World) (h : isBlank c) :
    Calls Tryd.prog 62 #[.int .u8 (c.toNat : Int)] w fun e w' => e = .returned (.bool true) ∧ w = w' := by
  by_cases a : (c.toNat : Int) = 32
  · have a' : ((c.toNat : Int) == 32) = true := by simp [a]
    clear a h
    go_enter Tryd.func62, Tryd.ntmps62
    go_wp2
    go_ret
    exact ⟨rfl, rfl⟩
  · have a' : ((c.toNat : Int) == 32) = false := by simp [a]
    by_cases b : (c.toNat : Int) = 9
    · have b' : ((c.toNat : Int) == 9) = true := by simp [b]
      clear a b h
      go_enter Tryd.func62, Tryd.ntmps62
      go_wp2
      go_ret
      exact ⟨rfl, rfl⟩
    · have b' : ((c.toNat : Int) == 9) = false := by simp [b]
      by_cases d : (c.toNat : Int) = 10
      · have d' : ((c.toNat : Int) == 10) = true := by simp [d]
        clear a b d h
        go_enter Tryd.func62, Tryd.ntmps62
        go_wp2
        go_ret
        exact ⟨rfl, rfl⟩
      · have d' : ((c.toNat : Int) == 10) = false := by simp [d]
        have e' : ((c.toNat : Int) == 13) = true := by
          unfold isBlank at h
          simp; omega
        clear a b d h
        go_enter Tryd.func62, Tryd.ntmps62
        go_wp2
        go_ret
        exact ⟨rfl, rfl⟩

theorem l1Blank_no (c : UInt8) (w : World) (h : ¬ isBlank c) :
    Calls Tryd.prog 62 #[.int .u8 (c.toNat : Int)] w fun e w' => e = .returned (.bool false) ∧ w = w' := by
  unfold isBlank at h
  have a' : ((c.toNat : Int) == 32) = false := by simp; omega
  have b' : ((c.toNat : Int) == 9) = false := by simp; omega
  have d' : ((c.toNat : Int) == 10) = false := by simp; omega
  have e' : ((c.toNat : Int) == 13) = false := by simp; omega
  clear h
  go_enter Tryd.func62, Tryd.ntmps62
  go_wp2
  go_ret
  exact ⟨rfl, rfl⟩


theorem trimS_le (l cs : List UInt8) : (Lib.trimS l cs).length ≤ l.length := by
  have a : ∀ m : List UInt8, (m.dropWhile (cs.contains ·)).length ≤ m.length := fun m => (List.dropWhile_sublist _).length_le
  unfold Lib.trimS Lib.trimLeftS Lib.trimRightS
  refine Nat.le_trans (a _) ?_
  rw [List.length_reverse]
  refine Nat.le_trans (a _) ?_
  rw [List.length_reverse]
  exact Nat.le_refl _

set_option maxHeartbeats 1000000 in
theorem implTrim (s : ByteArray) (w : World) (hs : s.size ≤ 1099511627776) :
    Calls Tryd.prog 77 #[.string s] w fun e w' => e = .returned (.string ⟨(Lib.trimS s.data.toList blanks4).toArray⟩) ∧ Below w.heap.size w w' := by
  have hle : (⟨(Lib.trimS s.data.toList blanks4).toArray⟩ : ByteArray).size ≤ 281474976710656 := by
    have := trimS_le s.data.toList blanks4
    have e : (⟨(Lib.trimS s.data.toList blanks4).toArray⟩ : ByteArray).size = (Lib.trimS s.data.toList blanks4).length := by simp [ByteArray.size]
    have e2 : s.data.toList.length = s.size := by simp
    omega
  have ct := fun W => Any.strings_Trim_laid Tryd.lays160 (by kernel_rfl) s ⟨#[32, 9, 10, 13]⟩ W (by omega) (by decide) (ascii_of_all (by decide))
  have HT : Hid (∀ W, Calls Tryd.prog 89 #[.string s, .string ⟨#[32, 9, 10, 13]⟩] W fun e w' => e = .returned (.string ⟨(Lib.trimS s.data.toList blanks4).toArray⟩) ∧ Below W.heap.size W w') := ct
  clear ct
  go_enter Tryd.func77, Tryd.ntmps77
  go_wp2_with fail
  refine (HT.out _).mono ?_
  rintro e wa ⟨rfl, ba⟩
  go_wp2_with fail
  refine (strClone _ _ hle).mono ?_
  rintro e wb ⟨rfl, bb⟩
  go_wp2
  go_ret
  exact ⟨rfl, ba.trans (bb.mono ba.size)⟩
end Go.Proofs.YtjdmmmohaiiocaaDoor
