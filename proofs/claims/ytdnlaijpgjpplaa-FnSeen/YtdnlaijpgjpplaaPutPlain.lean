/- Plain laws, of no program: what putting a mark makes of a Seen. -/
import Derived.Test.YtdnlaijpgjpplaaRows
import Derived.Test.YtdnlaijpgjpplaaPressPlain
import Derived.Test.YtdnlaijpgjpplaaMrgPlain
namespace Go.Proofs.Ytdnlaijpgjpplaa
open Go.RowKit
set_option linter.unusedVariables false

def onM (x : EV) (m : List EV) : List EV := canon (x :: m)
def putM (m : List EV) (x : EV) : List EV := if 8 ≤ (onM x m).length then [] else onM x m
def putR (m : List EV) (ll : List (List EV)) (x : EV) : List (List EV) := if 8 ≤ (onM x m).length then onM x m :: ll else ll
/-- The last two runs as one, where there are more than three. -/
def lastR (rr : List (List EV)) : List (List EV) := if 3 < rr.length then rr.take (rr.length - 2) ++ [canon (rr.getD (rr.length - 2) [] ++ rr.getD (rr.length - 1) [])] else rr
def putL (m : List EV) (ll : List (List EV)) (x : EV) : List (List EV) := lastR (putR m ll x)
def putK (m : List EV) (ll : List (List EV)) (x : EV) : Bool := sokS m ll && sokS (putM m x) (putL m ll x)
def resM (m : List EV) (ll : List (List EV)) (x : EV) : List EV := if putK m ll x then putM m x else m
def resL (m : List EV) (ll : List (List EV)) (x : EV) : List (List EV) := if putK m ll x then putL m ll x else ll

theorem on_mem (x : EV) (m : List EV) : x ∈ onM x m := by
  have h : fd x.s.toList (onM x m) = some x := by
    unfold onM
    rw [canon_fd, fd_yes rfl]
  unfold fd at h
  exact List.mem_of_find?_eq_some h

theorem on_len (x : EV) (m : List EV) : (onM x m).length ≤ m.length + 1 := by
  have := canon_len (x :: m)
  rw [List.length_cons] at this
  exact this

theorem on_back {x z : EV} {m : List EV} (h : z ∈ onM x m) : z = x ∨ z ∈ m := by
  have := canon_mem h
  simpa using this

theorem sokL_each {l : List EV} (h : sokL l = true) {z : EV} (hz : z ∈ l) : sokM z = true := by
  obtain ⟨i, hi, rfl⟩ := List.getElem_of_mem hz
  unfold sokL at h
  rw [List.all_eq_true] at h
  have := h i (List.mem_range.2 hi)
  unfold sokAt at this
  rw [Bool.and_eq_true] at this
  rw [List.getD_eq_getElem?_getD, List.getElem?_eq_getElem hi] at this
  exact this.1

theorem sokS_run {m : List EV} {ll : List (List EV)} (h : sokS m ll = true) {r : List EV} (hr : r ∈ ll) : sokL r = true := by
  unfold sokS at h
  rw [Bool.and_eq_true, Bool.and_eq_true, Bool.and_eq_true, Bool.and_eq_true, List.all_eq_true] at h
  have := h.2.2.1 r hr
  unfold sokR at this
  rw [Bool.and_eq_true] at this
  exact this.2

theorem sokS_mem {m : List EV} {ll : List (List EV)} (h : sokS m ll = true) : sokL m = true := by
  unfold sokS at h
  rw [Bool.and_eq_true, Bool.and_eq_true, Bool.and_eq_true, Bool.and_eq_true] at h
  exact h.2.1

theorem last_head (a : List EV) (ll : List (List EV)) : a ∈ lastR (a :: ll) := by
  unfold lastR
  split
  · rename_i h
    refine List.mem_append_left _ ?_
    rw [List.length_cons] at h ⊢
    obtain ⟨k, hk⟩ : ∃ k, ll.length + 1 - 2 = k + 1 := ⟨ll.length - 2, by omega⟩
    rw [hk, List.take_succ_cons]
    exact List.mem_cons_self
  · exact List.mem_cons_self

/-- A mark that is not right stands in what comes of it. -/
theorem put_mark {m : List EV} {ll : List (List EV)} {x : EV} (h : sokS (putM m x) (putL m ll x) = true) : sokM x = true := by
  by_cases h8 : 8 ≤ (onM x m).length
  · have e : putL m ll x = lastR (onM x m :: ll) := by unfold putL putR; rw [if_pos h8]
    rw [e] at h
    exact sokL_each (sokS_run h (last_head _ _)) (on_mem x m)
  · have e : putM m x = onM x m := if_neg h8
    rw [e] at h
    exact sokL_each (sokS_mem h) (on_mem x m)

theorem putK_spec {m : List EV} {ll : List (List EV)} {x : EV} : putK m ll x = ((sokS m ll && sokM x) && sokS (putM m x) (putL m ll x)) := by
  unfold putK
  cases h1 : sokS (putM m x) (putL m ll x) with
  | false => rw [Bool.and_false, Bool.and_false]
  | true => rw [put_mark h1, Bool.and_true, Bool.and_true]

theorem runs_mem {ll : List (List EV)} {i : Nat} {z : EV} (h : z ∈ ll.getD i []) : z ∈ ll.flatten := by
  rw [List.getD_eq_getElem?_getD] at h
  cases hx : ll[i]? with
  | none => rw [hx] at h; simp at h
  | some r =>
    rw [hx] at h
    exact List.mem_flatten.2 ⟨r, List.mem_of_getElem? hx, h⟩

theorem last_mem {rr : List (List EV)} {z : EV} (h : z ∈ (lastR rr).flatten) : z ∈ rr.flatten := by
  unfold lastR at h
  split at h
  · rw [List.flatten_append, List.mem_append] at h
    rcases h with h | h
    · obtain ⟨r, hr, hz⟩ := List.mem_flatten.1 h
      exact List.mem_flatten.2 ⟨r, List.mem_of_mem_take hr, hz⟩
    · have h2 : z ∈ canon (rr.getD (rr.length - 2) [] ++ rr.getD (rr.length - 1) []) := by simpa using h
      rcases List.mem_append.1 (canon_mem h2) with h3 | h3
      · exact runs_mem h3
      · exact runs_mem h3
  · exact h

/-- What comes of it has the new mark and what was there alone. -/
theorem put_mem {m : List EV} {ll : List (List EV)} {x z : EV} (h : z ∈ putM m x ++ (putL m ll x).flatten) : z = x ∨ z ∈ m ++ ll.flatten := by
  have on : z ∈ onM x m → z = x ∨ z ∈ m ++ ll.flatten := fun h => by
    rcases on_back h with h | h
    · exact .inl h
    · exact .inr (List.mem_append_left _ h)
  rcases List.mem_append.1 h with h | h
  · unfold putM at h
    split at h
    · simp at h
    · exact on h
  · have h2 := last_mem h
    unfold putR at h2
    split at h2
    · rw [List.flatten_cons, List.mem_append] at h2
      rcases h2 with h2 | h2
      · exact on h2
      · exact .inr (List.mem_append_right _ h2)
    · exact .inr (List.mem_append_right _ h2)

theorem last_len (rr : List (List EV)) : (lastR rr).length ≤ rr.length ∧ (lastR rr).flatten.length ≤ rr.flatten.length := by
  unfold lastR
  split
  · rename_i h
    have e : rr = rr.take (rr.length - 2) ++ [rr.getD (rr.length - 2) [], rr.getD (rr.length - 1) []] := by
      have h1 : rr.drop (rr.length - 2) = [rr.getD (rr.length - 2) [], rr.getD (rr.length - 1) []] := by
        rw [List.drop_eq_getElem_cons (by omega), show rr.length - 2 + 1 = rr.length - 1 by omega, List.drop_eq_getElem_cons (by omega), show rr.length - 1 + 1 = rr.length by omega, List.drop_length]
        simp [List.getD, show rr.length - 2 < rr.length by omega, show rr.length - 1 < rr.length by omega]
      rw [← h1, List.take_append_drop]
    have hc := canon_len (rr.getD (rr.length - 2) [] ++ rr.getD (rr.length - 1) [])
    rw [List.length_append] at hc
    constructor
    · rw [List.length_append, List.length_take]
      simp
      omega
    · have e2 : rr.flatten.length = (rr.take (rr.length - 2)).flatten.length + ((rr.getD (rr.length - 2) []).length + (rr.getD (rr.length - 1) []).length) := by
        conv => lhs; rw [e]
        simp
      rw [e2, List.flatten_append, List.length_append]
      simp at hc ⊢
      omega
  · exact ⟨Nat.le_refl _, Nat.le_refl _⟩

theorem flat_at {ll : List (List EV)} {i : Nat} (h : i < ll.length) : (ll.getD i []).length ≤ ll.flatten.length := by
  rw [List.getD_eq_getElem?_getD, List.getElem?_eq_getElem h]
  exact (List.sublist_flatten_of_mem (List.getElem_mem h)).length_le

theorem put_len {m : List EV} {ll : List (List EV)} {x : EV} : (putM m x).length ≤ m.length + 1 ∧ (putL m ll x).length ≤ ll.length + 1 ∧ (putL m ll x).flatten.length ≤ m.length + 1 + ll.flatten.length := by
  have h1 := on_len x m
  have h2 := last_len (putR m ll x)
  refine ⟨?_, ?_, ?_⟩
  · unfold putM
    split
    · exact Nat.zero_le _
    · exact h1
  · refine Nat.le_trans h2.1 ?_
    unfold putR
    split <;> simp
  · refine Nat.le_trans h2.2 ?_
    unfold putR
    split
    · rw [List.flatten_cons, List.length_append]; omega
    · omega

/-- The runs that merging meets ascend. -/
theorem put_asc {m : List EV} {ll : List (List EV)} {x : EV} (h : ∀ i, i < ll.length → Asc (ll.getD i [])) : ∀ i, i < (putR m ll x).length → Asc ((putR m ll x).getD i []) := by
  intro i hi
  unfold putR at hi ⊢
  split
  · rename_i h8
    rw [if_pos h8] at hi
    cases i with
    | zero => exact canon_asc _
    | succ i => exact h i (by simpa using hi)
  · rename_i h8
    rw [if_neg h8] at hi
    exact h i hi

theorem canon_some {l : List EV} (h : 0 < l.length) : 0 < (canon l).length := by
  cases l with
  | nil => simp at h
  | cons x l => exact List.length_pos_of_mem (on_mem x l)

theorem sokS_full {m : List EV} {ll : List (List EV)} (h : sokS m ll = true) : ∀ i, i < ll.length → 0 < (ll.getD i []).length := by
  intro i hi
  unfold sokS at h
  rw [Bool.and_eq_true, Bool.and_eq_true, Bool.and_eq_true, Bool.and_eq_true, List.all_eq_true] at h
  have h2 := h.2.2.1 (ll.getD i []) (by rw [List.getD_eq_getElem?_getD, List.getElem?_eq_getElem hi]; exact List.getElem_mem hi)
  unfold sokR at h2
  rw [Bool.and_eq_true] at h2
  have h3 := h2.1
  simp only [Bool.not_eq_true', decide_eq_false_iff_not] at h3
  omega

theorem putR_full {m : List EV} {ll : List (List EV)} {x : EV} (h : ∀ i, i < ll.length → 0 < (ll.getD i []).length) : ∀ i, i < (putR m ll x).length → 0 < ((putR m ll x).getD i []).length := by
  intro i hi
  unfold putR at hi ⊢
  split
  · rename_i h8
    rw [if_pos h8] at hi
    cases i with
    | zero => show 0 < (onM x m).length; omega
    | succ i => exact h i (by simpa using hi)
  · rename_i h8
    rw [if_neg h8] at hi
    exact h i hi

theorem lastR_full {rr : List (List EV)} (h : ∀ i, i < rr.length → 0 < (rr.getD i []).length) : ∀ i, i < (lastR rr).length → 0 < ((lastR rr).getD i []).length := by
  intro i hi
  unfold lastR at hi ⊢
  by_cases h3 : 3 < rr.length
  · rw [if_pos h3] at hi ⊢
    by_cases hi2 : i < rr.length - 2
    · rw [List.getD_eq_getElem?_getD, List.getElem?_append_left (by rw [List.length_take]; omega), List.getElem?_take_of_lt hi2, ← List.getD_eq_getElem?_getD]
      exact h i (by omega)
    · rw [List.length_append, List.length_take, List.length_singleton] at hi
      have e : i = (rr.take (rr.length - 2)).length := by rw [List.length_take]; omega
      rw [List.getD_eq_getElem?_getD, e, List.getElem?_append_right (Nat.le_refl _), Nat.sub_self]
      show 0 < (canon _).length
      refine canon_some ?_
      have := h (rr.length - 2) (by omega)
      rw [List.length_append]
      omega
  · rw [if_neg h3] at hi ⊢
    exact h i hi
end Go.Proofs.Ytdnlaijpgjpplaa
