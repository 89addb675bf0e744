/- What was seen, pressed, plainly. -/
import Derived.Test.YtdnlaijpgjpplaaRows
import Derived.Test.YtdnlaijpgjpplaaSeenOkI
import Derived.Test.YtdnlaijpgjpplaaCptPlain
namespace Go.Proofs.Ytdnlaijpgjpplaa
set_option linter.unusedVariables false

theorem psum_ext {f h : Nat → Nat} : ∀ {n : Nat}, (∀ i, i < n → f i = h i) → psum f n = psum h n
  | 0, _ => rfl
  | n + 1, hh => by
    have e1 : psum f (n + 1) = psum f n + f n := rfl
    have e2 : psum h (n + 1) = psum h n + h n := rfl
    rw [e1, e2, psum_ext fun i hi => hh i (by omega), hh n (by omega)]
theorem psum_flat : ∀ ll : List (List EV), psum (fun i => (ll.getD i []).length) ll.length = ll.flatten.length := by
  intro ll
  have key : ∀ n, n ≤ ll.length → psum (fun i => (ll.getD i []).length) n = (ll.take n).flatten.length := by
    intro n
    induction n with
    | zero => intro _; simp [psum]
    | succ n ih =>
      intro hn
      have e1 : psum (fun i => (ll.getD i []).length) (n + 1) = psum (fun i => (ll.getD i []).length) n + (ll.getD n []).length := rfl
      rw [e1, ih (by omega), List.take_succ_eq_append_getElem (by omega), List.flatten_append, List.length_append, List.getD_eq_getElem?_getD, List.getElem?_eq_getElem (show n < ll.length by omega)]
      simp
  rw [key ll.length (Nat.le_refl _), List.take_length]
def pressM (m : List EV) (ll : List (List EV)) : List EV := if sokS m ll then [] else m
def pressL (m : List EV) (ll : List (List EV)) : List (List EV) := if sokS m ll then (if (canon (m ++ ll.flatten)).length = 0 then [] else [canon (m ++ ll.flatten)]) else ll
theorem sokS_sz {m : List EV} {ll : List (List EV)} (h : sokS m ll = true) : m.length ≤ 8 ∧ ll.length ≤ 6 ∧ (m ++ ll.flatten).length ≤ 400 := by
  unfold sokS at h
  rw [Bool.and_eq_true, Bool.and_eq_true, Bool.and_eq_true, Bool.and_eq_true, decide_eq_true_eq, decide_eq_true_eq, decide_eq_true_eq] at h
  have := psum_flat ll
  refine ⟨h.1.1, h.1.2, ?_⟩
  rw [List.length_append]
  have := h.2.2.2
  omega
end Go.Proofs.Ytdnlaijpgjpplaa
