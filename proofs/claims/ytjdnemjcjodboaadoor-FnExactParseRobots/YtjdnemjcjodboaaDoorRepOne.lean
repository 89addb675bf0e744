/- One byte for another, everywhere in a text. -/
import Derived.Test.YtjdnemjcjodboaaDoorCutWay
import Derived.Lib.IndexMore
import Derived.Lib.Replace
namespace Go.Proofs.YtjdnemjcjodboaaDoor
open Go.RowKit
set_option linter.unusedVariables false

theorem countFrom_one (c : UInt8) : ∀ (n : Nat) (l : List UInt8), l.length < n → Lib.countFrom [c] n l = l.count c
  | 0, l, h => by omega
  | n + 1, l, h => by
    have hu := up_beh c l
    rw [Lib.countFrom, index_while]
    cases hc : l.contains c with
    | false =>
      have : l.count c = 0 := List.count_eq_zero.2 (fun hm => by rw [List.contains_iff_mem.2 hm] at hc; cases hc)
      rw [this]; rfl
    | true =>
      have e := hu.1 hc
      have h0 : (((upB c l).length : Int) == -1) = false := beq_eq_false_iff_ne.2 (by omega)
      simp only [if_true, h0]
      have e1 : ((upB c l).length : Int).toNat + [c].length = (upB c l ++ [c]).length := by simp
      have e2 : l.drop ((upB c l).length + 1) = behB c l := by
        conv => lhs; arg 2; rw [e]
        rw [show (upB c l).length + 1 = (upB c l ++ [c]).length by simp, show upB c l ++ c :: behB c l = (upB c l ++ [c]) ++ behB c l by simp, List.drop_left']
        rfl
      have hl : (behB c l).length < n := by
        have := congrArg List.length e
        rw [List.length_append, List.length_cons] at this
        omega
      have e3 : ((upB c l).length : Int).toNat + [c].length = (upB c l).length + 1 := by simp
      rw [e3, e2, countFrom_one c n _ hl]
      conv => rhs; rw [e]
      rw [List.count_append, List.count_cons_self, List.count_eq_zero.2 hu.2.2]
      simp only [Bool.false_eq_true, if_false]
      omega
theorem map_no {a b : UInt8} {l : List UInt8} (h : a ∉ l) : (l.map fun x => if x = a then b else x) = l := by
  conv => rhs; rw [← List.map_id l]
  refine List.map_congr_left fun x hx => ?_
  by_cases e : x = a
  · exact absurd (e ▸ hx) h
  · rw [if_neg e]
    rfl
theorem replaceK_one (a b : UInt8) : ∀ (k : Nat) (l : List UInt8), l.count a ≤ k → Lib.replaceK [a] [b] k l = l.map fun x => if x = a then b else x
  | 0, l, h => by
    rw [Lib.replaceK, map_no (fun hm => by have := List.count_pos_iff.2 hm; omega)]
  | k + 1, l, h => by
    have hu := up_beh a l
    cases hc : l.contains a with
    | false =>
      rw [Lib.replaceK, index_while, hc, map_no (fun hm => by rw [List.contains_iff_mem.2 hm] at hc; cases hc)]
      rfl
    | true =>
      have e := hu.1 hc
      have hi : Lib.index l [a] = ((upB a l).length : Int) := by rw [index_while, hc]; rfl
      rw [Lib.replaceK_hit [a] [b] k l _ hi]
      have e2 : l.drop ((upB a l).length + [a].length) = behB a l := by
        conv => lhs; arg 2; rw [e]
        rw [show (upB a l).length + [a].length = (upB a l ++ [a]).length by simp, show upB a l ++ a :: behB a l = (upB a l ++ [a]) ++ behB a l by simp, List.drop_left']
        rfl
      have e3 : l.take (upB a l).length = upB a l := by
        conv => lhs; arg 2; rw [e]
        rw [List.take_left']
        rfl
      have hk : (behB a l).count a ≤ k := by
        have := congrArg (List.count a) e
        rw [List.count_append, List.count_cons_self] at this
        omega
      rw [e2, e3, replaceK_one a b k _ hk]
      conv => rhs; rw [e]
      rw [List.map_append, List.map_cons, if_pos rfl, map_no hu.2.2]
      simp
theorem replace_one {a b : UInt8} (h : a ≠ b) (l : List UInt8) : Lib.replaceAll l [a] [b] = l.map fun x => if x = a then b else x := by
  unfold Lib.replaceAll Lib.replace Lib.replaceNum Lib.count
  have h1 : (([a] : List UInt8) == [b]) = false := by simp [h]
  rw [h1, if_neg (by decide), if_pos (.inl (by decide)), countFrom_one a _ l (by omega), replaceK_one a b _ l (Nat.le_refl _)]
end Go.Proofs.YtjdnemjcjodboaaDoor
