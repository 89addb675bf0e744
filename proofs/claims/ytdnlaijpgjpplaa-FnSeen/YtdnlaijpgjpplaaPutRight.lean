/- Plain laws, of no program: putting a right mark into a right Seen of few runs gives a right one of few runs. -/
import Derived.Test.YtdnlaijpgjpplaaRows
import Derived.Test.YtdnlaijpgjpplaaPutPlain
import Derived.Test.YtdnlaijpgjpplaaPressSpec2
namespace Go.Proofs.Ytdnlaijpgjpplaa
open Go.RowKit
set_option linter.unusedVariables false

theorem sokL_of {l : List EV} (ha : Asc l) (hm : ∀ z ∈ l, sokM z = true) : sokL l = true := sokL_yes fun i hi => by
  have h1 : l.getD i ev0 ∈ l := by
    rw [List.getD_eq_getElem?_getD, List.getElem?_eq_getElem hi]
    exact List.getElem_mem hi
  unfold sokAt
  rw [hm _ h1, Bool.true_and]
  cases i with
  | zero => rfl
  | succ i =>
    have h2 : kl (l.getD i ev0) (l.getD (i + 1) ev0) = true := by
      have := List.pairwise_iff_getElem.1 ha i (i + 1) (by omega) hi (by omega)
      rw [List.getD_eq_getElem?_getD, List.getElem?_eq_getElem (by omega), List.getD_eq_getElem?_getD, List.getElem?_eq_getElem hi]
      exact this
    rw [show i + 1 - 1 = i by omega, h2, Bool.or_true]

/-- A Seen as it is drawn: right, of at most three runs, its newest layer not full. -/
structure Rgt (m : List EV) (ll : List (List EV)) (T : Nat) : Prop where
  am : Asc m
  sm : ∀ z ∈ m, sokM z = true
  al : ∀ r ∈ ll, Asc r ∧ 0 < r.length ∧ ∀ z ∈ r, sokM z = true
  lm : m.length ≤ 7
  lr : ll.length ≤ 3
  tot : m.length + ll.flatten.length ≤ T

theorem Rgt.nil : Rgt [] [] 0 := ⟨List.Pairwise.nil, fun z h => by simp at h, fun r h => by simp at h, by simp, by simp, by simp⟩

theorem Rgt.ok {m : List EV} {ll : List (List EV)} {T : Nat} (h : Rgt m ll T) (hT : T ≤ 400) : sokS m ll = true := by
  have h1 := h.lm
  have h2 := h.lr
  have h3 := h.tot
  have h4 : ll.all sokR = true := by
    rw [List.all_eq_true]
    intro r hr
    obtain ⟨a, b, c⟩ := h.al r hr
    unfold sokR
    rw [sokL_of a c, Bool.and_true]
    simp
    intro e
    rw [e] at b
    simp at b
  unfold sokS
  rw [sokL_of h.am h.sm, h4, decide_eq_true (show m.length ≤ 8 by omega), decide_eq_true (show ll.length ≤ 6 by omega), psum_flat, decide_eq_true (show m.length + ll.flatten.length ≤ 400 by omega)]
  rfl

theorem Rgt.put {m : List EV} {ll : List (List EV)} {T : Nat} {x : EV} (h : Rgt m ll T) (hx : sokM x = true) : Rgt (putM m x) (putL m ll x) (T + 1) := by
  have hon := on_len x m
  have oa : Asc (onM x m) := canon_asc _
  have os : ∀ z ∈ onM x m, sokM z = true := fun z hz => by
    rcases on_back hz with rfl | hz
    · exact hx
    · exact h.sm z hz
  have hlm := h.lm
  have hll := h.lr
  have htt := h.tot
  have hR : (∀ r ∈ putR m ll x, Asc r ∧ 0 < r.length ∧ ∀ z ∈ r, sokM z = true) ∧ (putR m ll x).length ≤ 4 ∧ (putM m x).length ≤ 7 ∧ (putM m x).length + (putR m ll x).flatten.length ≤ T + 1 ∧ Asc (putM m x) ∧ ∀ z ∈ putM m x, sokM z = true := by
    unfold putR putM
    by_cases h8 : 8 ≤ (onM x m).length
    · rw [if_pos h8, if_pos h8]
      refine ⟨fun r hr => ?_, by simp; omega, by simp, ?_, List.Pairwise.nil, fun z hz => by simp at hz⟩
      · rcases List.mem_cons.1 hr with rfl | hr
        · exact ⟨oa, by omega, os⟩
        · exact h.al r hr
      · rw [List.flatten_cons, List.length_append, List.length_nil]
        omega
    · rw [if_neg h8, if_neg h8]
      exact ⟨h.al, by omega, by omega, by omega, oa, os⟩
  obtain ⟨g1, g2, g3, g4, g5, g6⟩ := hR
  have g7 := last_len (putR m ll x)
  refine ⟨g5, g6, ?_, g3, ?_, by unfold putL; omega⟩
  · intro r hr
    unfold putL lastR at hr
    by_cases h3 : 3 < (putR m ll x).length
    · rw [if_pos h3] at hr
      have at' : ∀ i, i < (putR m ll x).length → (putR m ll x).getD i [] ∈ putR m ll x := fun i hi => by
        rw [List.getD_eq_getElem?_getD, List.getElem?_eq_getElem hi]
        exact List.getElem_mem hi
      rcases List.mem_append.1 hr with hr | hr
      · exact g1 r (List.mem_of_mem_take hr)
      · rw [List.mem_singleton.1 hr]
        obtain ⟨a1, a2, a3⟩ := g1 _ (at' ((putR m ll x).length - 2) (by omega))
        obtain ⟨b1, b2, b3⟩ := g1 _ (at' ((putR m ll x).length - 1) (by omega))
        refine ⟨canon_asc _, canon_some (by rw [List.length_append]; omega), fun z hz => ?_⟩
        rcases List.mem_append.1 (canon_mem hz) with hz | hz
        · exact a3 z hz
        · exact b3 z hz
    · rw [if_neg h3] at hr
      exact g1 r hr
  · unfold putL lastR
    by_cases h3 : 3 < (putR m ll x).length
    · rw [if_pos h3, List.length_append, List.length_take]
      simp
      omega
    · rw [if_neg h3]
      omega
end Go.Proofs.Ytdnlaijpgjpplaa
