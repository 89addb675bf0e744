/- A text cut at one byte, plainly. -/
import Derived.Test.YtfdgehlobbeomaaDoorBase
import Derived.Lib.IndexMore
namespace Go.Proofs.YtfdgehlobbeomaaDoor
open Go.RowKit

def upB (c : UInt8) (l : List UInt8) : List UInt8 := l.takeWhile fun x => x != c
def behB (c : UInt8) (l : List UInt8) : List UInt8 := (l.dropWhile fun x => x != c).drop 1
theorem index_while (c : UInt8) : ∀ l : List UInt8, Lib.index l [c] = if l.contains c then ((upB c l).length : Int) else -1
  | [] => rfl
  | b :: l => by
    have ih := index_while c l
    unfold upB at ih ⊢
    unfold Lib.index
    by_cases h : b = c
    · subst h
      simp
    · have h1 : ([c].isPrefixOf (b :: l)) = false := by
        simp [List.isPrefixOf, Ne.symm h]
      have h2 : (b :: l).contains c = l.contains c := by
        simp [Ne.symm h]
      have h3 : (b != c) = true := bne_iff_ne.2 h
      rw [h1, h2, ih, List.takeWhile_cons, h3]
      cases hc : l.contains c
      · simp
      · have h4 : (((List.takeWhile (fun x => x != c) l).length : Int) == -1) = false := beq_eq_false_iff_ne.2 (by omega)
        simp [h4]
theorem up_beh (c : UInt8) (l : List UInt8) : (l.contains c = true → l = upB c l ++ c :: behB c l) ∧ (l.contains c = false → upB c l = l ∧ behB c l = []) ∧ c ∉ upB c l := by
  unfold upB behB
  induction l with
  | nil => simp
  | cons b l ih =>
    by_cases h : b = c
    · subst h; simp
    · have h3 : (b != c) = true := bne_iff_ne.2 h
      have h2 : (b :: l).contains c = l.contains c := by simp [Ne.symm h]
      rw [h2, List.takeWhile_cons, List.dropWhile_cons, h3]
      refine ⟨fun hc => ?_, fun hc => ?_, ?_⟩
      · have := ih.1 hc
        simp only [if_true, List.cons_append, List.cons.injEq, true_and]
        exact this
      · have := ih.2.1 hc
        simp only [if_true, this.1, this.2, and_self]
      · simp only [if_true, List.mem_cons, not_or]
        exact ⟨Ne.symm h, ih.2.2⟩
theorem cut_one (c : UInt8) (l : List UInt8) : Lib.cut l [c] = (upB c l, behB c l, l.contains c) := by
  have h := up_beh c l
  unfold Lib.cut
  rw [index_while]
  cases hc : l.contains c with
  | false => rw [(h.2.1 hc).1, (h.2.1 hc).2]; rfl
  | true =>
    have e := h.1 hc
    simp only [if_true]
    rw [if_pos (by omega)]
    have e1 : ((upB c l).length : Int).toNat = (upB c l).length := by omega
    rw [e1]
    refine Prod.ext ?_ (Prod.ext ?_ rfl)
    · show l.take _ = _
      conv => lhs; arg 2; rw [e]
      rw [List.take_left']
      rfl
    · show l.drop _ = _
      conv => lhs; arg 2; rw [e]
      have : (upB c l).length + [c].length = (upB c l ++ [c]).length := by simp
      rw [this, show upB c l ++ c :: behB c l = (upB c l ++ [c]) ++ behB c l by simp, List.drop_left']
      rfl

end Go.Proofs.YtfdgehlobbeomaaDoor
