/- Plain laws, of no program: what is told of a key is there, all else is as it was. -/
import Derived.Test.YtdnlaijpgjpplaaRows
import Derived.Test.YtdnlaijpgjpplaaSeenAllP
namespace Go.Proofs.Ytdnlaijpgjpplaa
open Go.RowKit
set_option linter.unusedVariables false

/-- A mark put into marks that rise, in the place of the one with its key, if there is one. -/
def insM (x : EV) : List EV → List EV
  | [] => [x]
  | y :: l => if kl y x then y :: insM x l else if y.s.toList = x.s.toList then x :: l else x :: y :: l

theorem ins_mem {x z : EV} : ∀ {l : List EV}, z ∈ insM x l → z = x ∨ z ∈ l
  | [], h => by simp [insM] at h; exact .inl h
  | y :: l, h => by
    unfold insM at h
    split at h
    · rcases List.mem_cons.1 h with rfl | h
      · exact .inr List.mem_cons_self
      · rcases ins_mem h with h | h
        · exact .inl h
        · exact .inr (List.mem_cons_of_mem _ h)
    split at h
    · rcases List.mem_cons.1 h with rfl | h
      · exact .inl rfl
      · exact .inr (List.mem_cons_of_mem _ h)
    · rcases List.mem_cons.1 h with rfl | h
      · exact .inl rfl
      · exact .inr h

theorem kl_key {x y z : EV} (h : y.s.toList = x.s.toList) : kl x z = kl y z := by unfold kl; rw [h]

theorem ins_asc {x : EV} : ∀ {l : List EV}, Asc l → Asc (insM x l)
  | [], _ => by unfold insM; exact List.pairwise_singleton _ _
  | y :: l, h => by
    obtain ⟨a1, a2⟩ := asc_cons.1 h
    unfold insM
    split
    · rename_i hk
      refine asc_cons.2 ⟨fun z hz => ?_, ins_asc a2⟩
      rcases ins_mem hz with rfl | hz
      · exact hk
      · exact a1 z hz
    split
    · rename_i hk he
      exact asc_cons.2 ⟨fun z hz => by rw [kl_key he]; exact a1 z hz, a2⟩
    · rename_i hk he
      have hxy : kl x y = true := by
        cases e : kl x y with
        | true => rfl
        | false => exact absurd (bl_tri (by simpa [kl] using hk) e) he
      refine asc_cons.2 ⟨fun z hz => ?_, h⟩
      rcases List.mem_cons.1 hz with rfl | hz
      · exact hxy
      · exact kl_trans hxy (a1 z hz)

theorem fd_other {k : List UInt8} {y : EV} {l : List EV} (h : y.s.toList ≠ k) : fd k (y :: l) = fd k l := by
  unfold fd
  rw [List.find?_cons, show (y.s.toList == k) = false from beq_eq_false_iff_ne.2 h]

theorem ins_fd {x : EV} (k : List UInt8) : ∀ {l : List EV}, Asc l → fd k (insM x l) = if x.s.toList = k then some x else fd k l
  | [], _ => by
    unfold insM
    by_cases h : x.s.toList = k
    · rw [if_pos h, fd_yes h]
    · rw [if_neg h, fd_other h]
  | y :: l, ha => by
    obtain ⟨a1, a2⟩ := asc_cons.1 ha
    unfold insM
    split
    · rename_i hk
      have hne : y.s.toList ≠ x.s.toList := fun e => by
        unfold kl at hk
        rw [e, bl_irrefl] at hk
        cases hk
      by_cases hy : y.s.toList = k
      · rw [fd_yes hy, if_neg (fun e => hne (hy.trans e.symm)), fd_yes hy]
      · rw [fd_other hy, ins_fd k a2, fd_other hy]
    split
    · rename_i hk he
      by_cases h : x.s.toList = k
      · rw [if_pos h, fd_yes h]
      · rw [if_neg h, fd_other h, fd_other (by rw [he]; exact h)]
    · rename_i hk he
      by_cases h : x.s.toList = k
      · rw [if_pos h, fd_yes h]
      · rw [if_neg h, fd_other h]

theorem ins_len {x : EV} : ∀ {l : List EV}, Asc l → (insM x l).length = l.length + (if fd x.s.toList l = none then 1 else 0)
  | [], _ => rfl
  | y :: l, ha => by
    obtain ⟨a1, a2⟩ := asc_cons.1 ha
    unfold insM
    split
    · rename_i hk
      have hne : y.s.toList ≠ x.s.toList := fun e => by
        unfold kl at hk
        rw [e, bl_irrefl] at hk
        cases hk
      rw [fd_other hne, List.length_cons, ins_len a2, List.length_cons]
      omega
    split
    · rename_i hk he
      rw [fd_yes he, List.length_cons, List.length_cons, if_neg (by simp)]
    · rename_i hk he
      have hxy : kl x y = true := by
        cases e : kl x y with
        | true => rfl
        | false => exact absurd (bl_tri (by simpa [kl] using hk) e) he
      have hn : fd x.s.toList (y :: l) = none := fd_none.2 fun z hz e => by
        have h1 : kl x z = true := by
          rcases List.mem_cons.1 hz with rfl | hz
          · exact hxy
          · exact kl_trans hxy (a1 z hz)
        unfold kl at h1
        rw [e, bl_irrefl] at h1
        cases h1
      rw [hn, if_pos rfl, List.length_cons, List.length_cons]

theorem fd_cons (x : EV) (k : List UInt8) (l : List EV) : fd k (x :: l) = if x.s.toList = k then some x else fd k l := by
  by_cases h : x.s.toList = k
  · rw [if_pos h, fd_yes h]
  · rw [if_neg h, fd_other h]

theorem canon_ins (x : EV) (F : List EV) : canon (x :: F) = insM x (canon F) :=
  (canon_eq (ins_asc (canon_asc F)) fun k => by rw [ins_fd k (canon_asc F), canon_fd, fd_cons]).symm

theorem canon_more (x : EV) (F : List EV) : (canon (x :: F)).length = (canon F).length + (if fd x.s.toList F = none then 1 else 0) := by
  rw [canon_ins, ins_len (canon_asc F), canon_fd]

theorem fd_same {k : List UInt8} {A B A' B' : List EV} (h1 : fd k A = fd k A') (h2 : fd k B = fd k B') : fd k (A ++ B) = fd k (A' ++ B') := by rw [fd_app, fd_app, h1, h2]

theorem take_two {rr : List (List EV)} (h : 3 < rr.length) : rr = rr.take (rr.length - 2) ++ [rr.getD (rr.length - 2) [], rr.getD (rr.length - 1) []] := by
  have h1 : rr.drop (rr.length - 2) = [rr.getD (rr.length - 2) [], rr.getD (rr.length - 1) []] := by
    rw [List.drop_eq_getElem_cons (by omega), show rr.length - 2 + 1 = rr.length - 1 by omega, List.drop_eq_getElem_cons (by omega), show rr.length - 1 + 1 = rr.length by omega, List.drop_length, List.getD_eq_getElem?_getD, List.getElem?_eq_getElem (by omega), List.getD_eq_getElem?_getD, List.getElem?_eq_getElem (by omega)]
    rfl
  conv => lhs; rw [← List.take_append_drop (rr.length - 2) rr, h1]

theorem last_fd (k : List UInt8) (rr : List (List EV)) : fd k (lastR rr).flatten = fd k rr.flatten := by
  unfold lastR
  by_cases h : 3 < rr.length
  · rw [if_pos h]
    conv => rhs; rw [take_two h]
    rw [List.flatten_append, List.flatten_append]
    refine fd_same rfl ?_
    simp only [List.flatten_cons, List.flatten_nil, List.append_nil]
    exact canon_fd k _
  · rw [if_neg h]

theorem put_fd (k : List UInt8) (m : List EV) (ll : List (List EV)) (x : EV) : fd k (putM m x ++ (putL m ll x).flatten) = fd k (x :: (m ++ ll.flatten)) := by
  have e : fd k (onM x m ++ ll.flatten) = fd k (x :: (m ++ ll.flatten)) := by
    rw [← List.cons_append]
    exact fd_same (canon_fd k _) rfl
  unfold putL
  rw [fd_app, last_fd, ← fd_app, ← e]
  unfold putM putR
  by_cases h : 8 ≤ (onM x m).length
  · rw [if_pos h, if_pos h, List.nil_append, List.flatten_cons]
  · rw [if_neg h, if_neg h]

theorem put_canon (m : List EV) (ll : List (List EV)) (x : EV) : canon (putM m x ++ (putL m ll x).flatten) = canon (x :: (m ++ ll.flatten)) :=
  canon_eq (canon_asc _) fun k => by rw [canon_fd, put_fd]

/-- Of another key what was there is there. -/
theorem put_get_other (m : List EV) (ll : List (List EV)) (x : EV) (key : ByteArray) (h : key ≠ x.s) : getS key (putM m x ++ (putL m ll x).flatten) = getS key (m ++ ll.flatten) := by
  unfold getS
  rw [put_fd, fd_other fun e => h (baEq e).symm]

theorem put_get_self (m : List EV) (ll : List (List EV)) (x : EV) : getS x.s (putM m x ++ (putL m ll x).flatten) = x.k := by
  unfold getS
  rw [put_fd, fd_yes rfl]

theorem sok_mem {m : List EV} {ll : List (List EV)} (h : sokS m ll = true) {z : EV} (hz : z ∈ m ++ ll.flatten) : sokM z = true := by
  rcases List.mem_append.1 hz with hz | hz
  · exact sokL_each (sokS_mem h) hz
  · obtain ⟨r, hr, hz⟩ := List.mem_flatten.1 hz
    exact sokL_each (sokS_run h hr) hz

theorem fd_in {k : List UInt8} {l : List EV} {z : EV} (h : fd k l = some z) : z ∈ l := List.mem_of_find?_eq_some h

theorem get_zero {m : List EV} {ll : List (List EV)} (h : sokS m ll = true) (key : ByteArray) : getS key (m ++ ll.flatten) = 0 ↔ fd key.toList (m ++ ll.flatten) = none := by
  unfold getS
  cases hf : fd key.toList (m ++ ll.flatten) with
  | none => simp
  | some z =>
    have := sok_mem h (fd_in hf)
    unfold sokM at this
    simp only [Bool.and_eq_true, decide_eq_true_eq] at this
    simp
    omega

/-- How many are there behind it. -/
theorem put_count {m : List EV} {ll : List (List EV)} (h : sokS m ll = true) (x : EV) : (canon (putM m x ++ (putL m ll x).flatten)).length = (canon (m ++ ll.flatten)).length + (if getS x.s (m ++ ll.flatten) = 0 then 1 else 0) := by
  rw [put_canon, canon_more]
  congr 1
  by_cases hz : getS x.s (m ++ ll.flatten) = 0
  · rw [if_pos hz, if_pos ((get_zero h x.s).1 hz)]
  · rw [if_neg hz, if_neg (fun e => hz ((get_zero h x.s).2 e))]

/-- A Seen as it is drawn, right or not: small. -/
structure Sml (m : List EV) (ll : List (List EV)) : Prop where
  lm : m.length ≤ 8
  lr : ll.length ≤ 4
  tot : m.length + ll.flatten.length ≤ 60
  sz : ∀ z ∈ m ++ ll.flatten, z.s.size ≤ 2000

theorem Sml.of {m : List EV} {ll : List (List EV)} (h : Rgt m ll 50) : Sml m ll := ⟨by have := h.lm; omega, by have := h.lr; omega, by have := h.tot; omega, fun z hz => sokM_sz (rgt_mem h hz)⟩

theorem Sml.mark {m : List EV} {ll : List (List EV)} (h : Rgt m ll 50) (x : EV) (hx : x.s.size ≤ 2000) : Sml (m ++ [x]) ll :=
  ⟨by have := h.lm; simp; omega, by have := h.lr; omega, by have := h.tot; rw [List.length_append, List.length_singleton]; omega, fun z hz => by
    rcases List.mem_append.1 hz with hz | hz
    · rcases List.mem_append.1 hz with hz | hz
      · exact sokM_sz (rgt_mem h (List.mem_append_left _ hz))
      · rw [List.mem_singleton.1 hz]; exact hx
    · exact sokM_sz (rgt_mem h (List.mem_append_right _ hz))⟩

theorem Sml.run {m : List EV} {ll : List (List EV)} (h : Rgt m ll 50) : Sml m (ll ++ [[]]) :=
  ⟨by have := h.lm; omega, by have := h.lr; simp; omega, by have := h.tot; rw [List.flatten_append, List.length_append]; simp only [List.flatten_cons, List.flatten_nil, List.append_nil, List.length_nil]; omega, fun z hz => by
    simp at hz
    exact sokM_sz (rgt_mem h (by simpa using hz))⟩

theorem Sml.bounds {m : List EV} {ll : List (List EV)} (h : Sml m ll) : m.length ≤ 1048576 ∧ ll.length ≤ 1000000 ∧ (m ++ ll.flatten).length ≤ 262144 ∧ (∀ i, i < ll.length → (ll.getD i []).length ≤ 1048576) ∧ RZ m ll := by
  have h1 := h.lm
  have h2 := h.lr
  have h3 := h.tot
  refine ⟨by omega, by omega, by rw [List.length_append]; omega, fun i hi => ?_, fun z hz => by have := h.sz z hz; omega⟩
  have := flat_at hi
  omega
end Go.Proofs.Ytdnlaijpgjpplaa
