/- The contract of the specification's SeenPress. -/
import Derived.Test.YtdnlaijpgjpplaaRows
import Derived.Test.YtdnlaijpgjpplaaCopySpec
namespace Go.Proofs.Ytdnlaijpgjpplaa
open Go.RowKit
set_option linter.unusedVariables false

theorem RunRow.oneS {w : World} {b : Nat} {x : Value} {m : List EV} (hb : BAt w b [x]) (h : EntRow w x m) : RunRow w (.slice (some ⟨b, 0, none⟩) 1 1) [m] := .inr ⟨by simp, b, 0, 0, rfl, hb.2.2, fun i hi => by
  match i, hi with
  | 0, _ => exact ⟨x, hb.1 0 _ rfl, h⟩⟩
theorem asc_adj {l : List EV} (h : ∀ i, i + 1 < l.length → kl (l.getD i ev0) (l.getD (i + 1) ev0) = true) : Asc l := by
  have key : ∀ d i, i + d + 1 < l.length → kl (l.getD i ev0) (l.getD (i + d + 1) ev0) = true := by
    intro d
    induction d with
    | zero => intro i hi; exact h i hi
    | succ d ih => intro i hi; exact kl_trans (ih i (by omega)) (h (i + d + 1) (by omega))
  refine List.pairwise_iff_getElem.2 fun i j hi hj hij => ?_
  have := key (j - i - 1) i (by omega)
  rwa [show i + (j - i - 1) + 1 = j by omega, List.getD_eq_getElem?_getD, List.getD_eq_getElem?_getD, List.getElem?_eq_getElem hi, List.getElem?_eq_getElem hj] at this
theorem sokL_asc {l : List EV} (h : sokL l = true) : Asc l := asc_adj fun i hi => by
  unfold sokL at h
  rw [List.all_eq_true] at h
  have := h (i + 1) (List.mem_range.2 hi)
  unfold sokAt at this
  rw [Bool.and_eq_true, Bool.or_eq_true, decide_eq_true_eq] at this
  rcases this.2 with e | e
  · omega
  · exact e
theorem sokS_asc {m : List EV} {ll : List (List EV)} (h : sokS m ll = true) : Asc m ∧ ∀ i, i < ll.length → Asc (ll.getD i []) := by
  unfold sokS at h
  rw [Bool.and_eq_true, Bool.and_eq_true, Bool.and_eq_true, Bool.and_eq_true] at h
  refine ⟨sokL_asc h.2.1, fun i hi => ?_⟩
  have h2 := List.all_eq_true.1 h.2.2.1 (ll.getD i []) (by
    rw [List.getD_eq_getElem?_getD, List.getElem?_eq_getElem hi]
    exact List.getElem_mem _)
  unfold sokR at h2
  rw [Bool.and_eq_true] at h2
  exact sokL_asc h2.2
end Go.Proofs.Ytdnlaijpgjpplaa
