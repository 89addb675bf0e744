/- Plain laws, of no program: what all that was seen of a right Seen says of its keys, its counts and its pressed one. -/
import Derived.Test.YtdnlaijpgjpplaaRows
import Derived.Test.YtdnlaijpgjpplaaPutRight
import Derived.Test.YtdnlaijpgjpplaaSeenGetI
import Derived.Test.YtdnlaijpgjpplaaPressPlain
namespace Go.Proofs.Ytdnlaijpgjpplaa
open Go.RowKit
set_option linter.unusedVariables false

theorem fd_self : ∀ {l : List EV}, Asc l → ∀ {z : EV}, z ∈ l → fd z.s.toList l = some z
  | [], _, z, h => by cases h
  | y :: l, ha, z, h => by
    obtain ⟨a1, a2⟩ := asc_cons.1 ha
    rcases List.mem_cons.1 h with rfl | h
    · exact fd_yes rfl
    · have hne : ¬ y.s.toList = z.s.toList := fun e => by
        have h1 := a1 z h
        unfold kl at h1
        rw [e] at h1
        have h2 := bl_irrefl z.s.toList
        rw [h2] at h1
        cases h1
      have e : fd z.s.toList (y :: l) = fd z.s.toList l := by
        unfold fd
        rw [List.find?_cons, show (y.s.toList == z.s.toList) = false from beq_eq_false_iff_ne.2 hne]
      rw [e]
      exact fd_self a2 h

theorem ev_mem {l : List EV} {i : Nat} (h : i < l.length) : l.getD i ev0 ∈ l := by
  rw [List.getD_eq_getElem?_getD, List.getElem?_eq_getElem h]
  exact List.getElem_mem h

/-- The state that is found of a mark's key is the mark's own. -/
theorem get_canon (l : List EV) {i : Nat} (h : i < (canon l).length) : getS ((canon l).getD i ev0).s l = ((canon l).getD i ev0).k := by
  unfold getS
  rw [← canon_fd, fd_self (canon_asc l) (ev_mem h)]

theorem canon_next (l : List EV) {i : Nat} (h : i + 1 < (canon l).length) : Op.bytesLess ((canon l).getD i ev0).s.toList ((canon l).getD (i + 1) ev0).s.toList = true := by
  have := List.pairwise_iff_getElem.1 (canon_asc l) i (i + 1) (by omega) h (by omega)
  rw [List.getD_eq_getElem?_getD, List.getElem?_eq_getElem (by omega), List.getD_eq_getElem?_getD, List.getElem?_eq_getElem h]
  exact this

theorem cnt_all : ∀ {l : List EV}, (∀ z ∈ l, sokM z = true) → cntS 1 l + cntS 2 l + cntS 3 l = l.length
  | [], _ => rfl
  | z :: l, h => by
    have ih := cnt_all (l := l) fun y hy => h y (List.mem_cons_of_mem _ hy)
    have hz := h z List.mem_cons_self
    unfold sokM at hz
    simp only [Bool.and_eq_true, decide_eq_true_eq] at hz
    have h3 : z.k = 1 ∨ z.k = 2 ∨ z.k = 3 := by omega
    have key : ∀ x : Int, cntS x (z :: l) = cntS x l + if z.k = x then 1 else 0 := fun x => by
      unfold cntS
      rw [List.filter_cons]
      by_cases hx : z.k = x
      · rw [if_pos (decide_eq_true hx), if_pos hx, List.length_cons]
      · rw [if_neg (by simpa using hx), if_neg hx]; rfl
    rw [key, key, key, List.length_cons]
    rcases h3 with e | e | e <;> rw [e] <;> simp <;> omega

theorem rgt_mem {m : List EV} {ll : List (List EV)} {T : Nat} (h : Rgt m ll T) {z : EV} (hz : z ∈ m ++ ll.flatten) : sokM z = true := by
  rcases List.mem_append.1 hz with hz | hz
  · exact h.sm z hz
  · obtain ⟨r, hr, hz⟩ := List.mem_flatten.1 hz
    exact (h.al r hr).2.2 z hz

theorem sokM_sz {z : EV} (h : sokM z = true) : z.s.size ≤ 2000 := by
  unfold sokM at h
  simp only [Bool.and_eq_true, decide_eq_true_eq] at h
  omega

theorem rgt_all {m : List EV} {ll : List (List EV)} (h : Rgt m ll 50) : (canon (m ++ ll.flatten)).length ≤ 50 ∧ (∀ z ∈ canon (m ++ ll.flatten), sokM z = true) := by
  refine ⟨Nat.le_trans (canon_len _) (by rw [List.length_append]; exact h.tot), fun z hz => rgt_mem h (canon_mem hz)⟩

theorem rgt_press {m : List EV} {ll : List (List EV)} (h : Rgt m ll 50) : pressM m ll = [] ∧ (pressL m ll).length ≤ 1 ∧ (pressM m ll ++ (pressL m ll).flatten) = canon (m ++ ll.flatten) ∧ Rgt (pressM m ll) (pressL m ll) 50 := by
  have hs := h.ok (by decide)
  obtain ⟨h1, h2⟩ := rgt_all h
  have ha := canon_asc (m ++ ll.flatten)
  unfold pressM pressL
  rw [if_pos hs, if_pos hs]
  by_cases h0 : (canon (m ++ ll.flatten)).length = 0
  · rw [if_pos h0]
    have e := List.eq_nil_of_length_eq_zero h0
    rw [e]
    exact ⟨rfl, Nat.zero_le _, rfl, ⟨List.Pairwise.nil, fun z hz => by simp at hz, fun r hr => by simp at hr, by simp, by simp, by simp⟩⟩
  · rw [if_neg h0]
    refine ⟨rfl, Nat.le_refl _, by simp, ⟨List.Pairwise.nil, fun z hz => by simp at hz, fun r hr => ?_, by simp, by simp, by simpa using h1⟩⟩
    rw [List.mem_singleton.1 hr]
    exact ⟨ha, by omega, h2⟩

theorem rgt_sz {m : List EV} {ll : List (List EV)} {T : Nat} (h : Rgt m ll T) (hT : T ≤ 400) : m.length ≤ 1048576 ∧ ll.length ≤ 1000000 ∧ (m ++ ll.flatten).length ≤ 262144 ∧ (∀ i, i < ll.length → (ll.getD i []).length ≤ 1048576) ∧ RZ m ll := by
  have h1 := h.lm
  have h2 := h.lr
  have h3 := h.tot
  refine ⟨by omega, by omega, by rw [List.length_append]; omega, fun i hi => ?_, fun z hz => by have := sokM_sz (rgt_mem h hz); omega⟩
  have := flat_at hi
  omega
end Go.Proofs.Ytdnlaijpgjpplaa
