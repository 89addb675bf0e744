/- Contracts and plain laws: PutPlain, PutSpec, PutImpl, PutBoth, PutBothS, PutLaw. -/
import Derived.Test.YtocgdbinfmdkcaaRows
import Derived.Test.YtocgdbinfmdkcaaPressPlain
import Derived.Test.YtocgdbinfmdkcaaMrgPlain
import Derived.Test.YtocgdbinfmdkcaaPressSpec2
import Derived.Deep.RegionHeld3
import Derived.Test.YtocgdbinfmdkcaaSeenImpl2
import Derived.Test.YtocgdbinfmdkcaaSeenLaw
namespace Go.Proofs.Ytocgdbinfmdkcaa
open Go.RowKit
set_option linter.unusedVariables false

def onM (x : EV) (m : List EV) : List EV := canon (x :: m)
def putM (m : List EV) (x : EV) : List EV := if 8 ≤ (onM x m).length then [] else onM x m
def putR (m : List EV) (ll : List (List EV)) (x : EV) : List (List EV) := if 8 ≤ (onM x m).length then onM x m :: ll else ll
/-- The last two runs as one, where there are more than three. -/
def lastR (rr : List (List EV)) : List (List EV) := if 3 < rr.length then rr.take (rr.length - 2) ++ [canon (rr.getD (rr.length - 2) [] ++ rr.getD (rr.length - 1) [])] else rr
def putL (m : List EV) (ll : List (List EV)) (x : EV) : List (List EV) := lastR (putR m ll x)
def putK (m : List EV) (ll : List (List EV)) (x : EV) : Bool := sokS m ll && sokS (putM m x) (putL m ll x)
def resM (m : List EV) (ll : List (List EV)) (x : EV) : List EV := if putK m ll x then putM m x else m
def resL (m : List EV) (ll : List (List EV)) (x : EV) : List (List EV) := if putK m ll x then putL m ll x else ll

theorem on_mem (x : EV) (m : List EV) : x ∈ onM x m := by
  have h : fd x.s.toList (onM x m) = some x := by
    unfold onM
    rw [canon_fd, fd_yes rfl]
  unfold fd at h
  exact List.mem_of_find?_eq_some h

theorem on_len (x : EV) (m : List EV) : (onM x m).length ≤ m.length + 1 := by
  have := canon_len (x :: m)
  rw [List.length_cons] at this
  exact this

theorem on_back {x z : EV} {m : List EV} (h : z ∈ onM x m) : z = x ∨ z ∈ m := by
  have := canon_mem h
  simpa using this

theorem sokL_each {l : List EV} (h : sokL l = true) {z : EV} (hz : z ∈ l) : sokM z = true := by
  obtain ⟨i, hi, rfl⟩ := List.getElem_of_mem hz
  unfold sokL at h
  rw [List.all_eq_true] at h
  have := h i (List.mem_range.2 hi)
  unfold sokAt at this
  rw [Bool.and_eq_true] at this
  rw [List.getD_eq_getElem?_getD, List.getElem?_eq_getElem hi] at this
  exact this.1

theorem sokS_run {m : List EV} {ll : List (List EV)} (h : sokS m ll = true) {r : List EV} (hr : r ∈ ll) : sokL r = true := by
  unfold sokS at h
  rw [Bool.and_eq_true, Bool.and_eq_true, Bool.and_eq_true, Bool.and_eq_true, List.all_eq_true] at h
  have := h.2.2.1 r hr
  unfold sokR at this
  rw [Bool.and_eq_true] at this
  exact this.2

theorem sokS_mem {m : List EV} {ll : List (List EV)} (h : sokS m ll = true) : sokL m = true := by
  unfold sokS at h
  rw [Bool.and_eq_true, Bool.and_eq_true, Bool.and_eq_true, Bool.and_eq_true] at h
  exact h.2.1

theorem last_head (a : List EV) (ll : List (List EV)) : a ∈ lastR (a :: ll) := by
  unfold lastR
  split
  · rename_i h
    refine List.mem_append_left _ ?_
    rw [List.length_cons] at h ⊢
    obtain ⟨k, hk⟩ : ∃ k, ll.length + 1 - 2 = k + 1 := ⟨ll.length - 2, by omega⟩
    rw [hk, List.take_succ_cons]
    exact List.mem_cons_self
  · exact List.mem_cons_self

/-- A mark that is not right stands in what comes of it. -/
theorem put_mark {m : List EV} {ll : List (List EV)} {x : EV} (h : sokS (putM m x) (putL m ll x) = true) : sokM x = true := by
  by_cases h8 : 8 ≤ (onM x m).length
  · have e : putL m ll x = lastR (onM x m :: ll) := by unfold putL putR; rw [if_pos h8]
    rw [e] at h
    exact sokL_each (sokS_run h (last_head _ _)) (on_mem x m)
  · have e : putM m x = onM x m := if_neg h8
    rw [e] at h
    exact sokL_each (sokS_mem h) (on_mem x m)

theorem putK_spec {m : List EV} {ll : List (List EV)} {x : EV} : putK m ll x = ((sokS m ll && sokM x) && sokS (putM m x) (putL m ll x)) := by
  unfold putK
  cases h1 : sokS (putM m x) (putL m ll x) with
  | false => rw [Bool.and_false, Bool.and_false]
  | true => rw [put_mark h1, Bool.and_true, Bool.and_true]

theorem runs_mem {ll : List (List EV)} {i : Nat} {z : EV} (h : z ∈ ll.getD i []) : z ∈ ll.flatten := by
  rw [List.getD_eq_getElem?_getD] at h
  cases hx : ll[i]? with
  | none => rw [hx] at h; simp at h
  | some r =>
    rw [hx] at h
    exact List.mem_flatten.2 ⟨r, List.mem_of_getElem? hx, h⟩

theorem last_mem {rr : List (List EV)} {z : EV} (h : z ∈ (lastR rr).flatten) : z ∈ rr.flatten := by
  unfold lastR at h
  split at h
  · rw [List.flatten_append, List.mem_append] at h
    rcases h with h | h
    · obtain ⟨r, hr, hz⟩ := List.mem_flatten.1 h
      exact List.mem_flatten.2 ⟨r, List.mem_of_mem_take hr, hz⟩
    · have h2 : z ∈ canon (rr.getD (rr.length - 2) [] ++ rr.getD (rr.length - 1) []) := by simpa using h
      rcases List.mem_append.1 (canon_mem h2) with h3 | h3
      · exact runs_mem h3
      · exact runs_mem h3
  · exact h

/-- What comes of it has the new mark and what was there alone. -/
theorem put_mem {m : List EV} {ll : List (List EV)} {x z : EV} (h : z ∈ putM m x ++ (putL m ll x).flatten) : z = x ∨ z ∈ m ++ ll.flatten := by
  have on : z ∈ onM x m → z = x ∨ z ∈ m ++ ll.flatten := fun h => by
    rcases on_back h with h | h
    · exact .inl h
    · exact .inr (List.mem_append_left _ h)
  rcases List.mem_append.1 h with h | h
  · unfold putM at h
    split at h
    · simp at h
    · exact on h
  · have h2 := last_mem h
    unfold putR at h2
    split at h2
    · rw [List.flatten_cons, List.mem_append] at h2
      rcases h2 with h2 | h2
      · exact on h2
      · exact .inr (List.mem_append_right _ h2)
    · exact .inr (List.mem_append_right _ h2)

theorem last_len (rr : List (List EV)) : (lastR rr).length ≤ rr.length ∧ (lastR rr).flatten.length ≤ rr.flatten.length := by
  unfold lastR
  split
  · rename_i h
    have e : rr = rr.take (rr.length - 2) ++ [rr.getD (rr.length - 2) [], rr.getD (rr.length - 1) []] := by
      have h1 : rr.drop (rr.length - 2) = [rr.getD (rr.length - 2) [], rr.getD (rr.length - 1) []] := by
        rw [List.drop_eq_getElem_cons (by omega), show rr.length - 2 + 1 = rr.length - 1 by omega, List.drop_eq_getElem_cons (by omega), show rr.length - 1 + 1 = rr.length by omega, List.drop_length]
        simp [List.getD, show rr.length - 2 < rr.length by omega, show rr.length - 1 < rr.length by omega]
      rw [← h1, List.take_append_drop]
    have hc := canon_len (rr.getD (rr.length - 2) [] ++ rr.getD (rr.length - 1) [])
    rw [List.length_append] at hc
    constructor
    · rw [List.length_append, List.length_take]
      simp
      omega
    · have e2 : rr.flatten.length = (rr.take (rr.length - 2)).flatten.length + ((rr.getD (rr.length - 2) []).length + (rr.getD (rr.length - 1) []).length) := by
        conv => lhs; rw [e]
        simp
      rw [e2, List.flatten_append, List.length_append]
      simp at hc ⊢
      omega
  · exact ⟨Nat.le_refl _, Nat.le_refl _⟩

theorem flat_at {ll : List (List EV)} {i : Nat} (h : i < ll.length) : (ll.getD i []).length ≤ ll.flatten.length := by
  rw [List.getD_eq_getElem?_getD, List.getElem?_eq_getElem h]
  exact (List.sublist_flatten_of_mem (List.getElem_mem h)).length_le

theorem put_len {m : List EV} {ll : List (List EV)} {x : EV} : (putM m x).length ≤ m.length + 1 ∧ (putL m ll x).length ≤ ll.length + 1 ∧ (putL m ll x).flatten.length ≤ m.length + 1 + ll.flatten.length := by
  have h1 := on_len x m
  have h2 := last_len (putR m ll x)
  refine ⟨?_, ?_, ?_⟩
  · unfold putM
    split
    · exact Nat.zero_le _
    · exact h1
  · refine Nat.le_trans h2.1 ?_
    unfold putR
    split <;> simp
  · refine Nat.le_trans h2.2 ?_
    unfold putR
    split
    · rw [List.flatten_cons, List.length_append]; omega
    · omega

/-- The runs that merging meets ascend. -/
theorem put_asc {m : List EV} {ll : List (List EV)} {x : EV} (h : ∀ i, i < ll.length → Asc (ll.getD i [])) : ∀ i, i < (putR m ll x).length → Asc ((putR m ll x).getD i []) := by
  intro i hi
  unfold putR at hi ⊢
  split
  · rename_i h8
    rw [if_pos h8] at hi
    cases i with
    | zero => exact canon_asc _
    | succ i => exact h i (by simpa using hi)
  · rename_i h8
    rw [if_neg h8] at hi
    exact h i hi

theorem canon_some {l : List EV} (h : 0 < l.length) : 0 < (canon l).length := by
  cases l with
  | nil => simp at h
  | cons x l => exact List.length_pos_of_mem (on_mem x l)

theorem sokS_full {m : List EV} {ll : List (List EV)} (h : sokS m ll = true) : ∀ i, i < ll.length → 0 < (ll.getD i []).length := by
  intro i hi
  unfold sokS at h
  rw [Bool.and_eq_true, Bool.and_eq_true, Bool.and_eq_true, Bool.and_eq_true, List.all_eq_true] at h
  have h2 := h.2.2.1 (ll.getD i []) (by rw [List.getD_eq_getElem?_getD, List.getElem?_eq_getElem hi]; exact List.getElem_mem hi)
  unfold sokR at h2
  rw [Bool.and_eq_true] at h2
  have h3 := h2.1
  simp only [Bool.not_eq_true', decide_eq_false_iff_not] at h3
  omega

theorem putR_full {m : List EV} {ll : List (List EV)} {x : EV} (h : ∀ i, i < ll.length → 0 < (ll.getD i []).length) : ∀ i, i < (putR m ll x).length → 0 < ((putR m ll x).getD i []).length := by
  intro i hi
  unfold putR at hi ⊢
  split
  · rename_i h8
    rw [if_pos h8] at hi
    cases i with
    | zero => show 0 < (onM x m).length; omega
    | succ i => exact h i (by simpa using hi)
  · rename_i h8
    rw [if_neg h8] at hi
    exact h i hi

theorem lastR_full {rr : List (List EV)} (h : ∀ i, i < rr.length → 0 < (rr.getD i []).length) : ∀ i, i < (lastR rr).length → 0 < ((lastR rr).getD i []).length := by
  intro i hi
  unfold lastR at hi ⊢
  by_cases h3 : 3 < rr.length
  · rw [if_pos h3] at hi ⊢
    by_cases hi2 : i < rr.length - 2
    · rw [List.getD_eq_getElem?_getD, List.getElem?_append_left (by rw [List.length_take]; omega), List.getElem?_take_of_lt hi2, ← List.getD_eq_getElem?_getD]
      exact h i (by omega)
    · rw [List.length_append, List.length_take, List.length_singleton] at hi
      have e : i = (rr.take (rr.length - 2)).length := by rw [List.length_take]; omega
      rw [List.getD_eq_getElem?_getD, e, List.getElem?_append_right (Nat.le_refl _), Nat.sub_self]
      show 0 < (canon _).length
      refine canon_some ?_
      have := h (rr.length - 2) (by omega)
      rw [List.length_append]
      omega
  · rw [if_neg h3] at hi ⊢
    exact h i hi
end Go.Proofs.Ytocgdbinfmdkcaa

namespace Go.Proofs.Ytocgdbinfmdkcaa
open Go.RowKit
set_option linter.unusedVariables false
set_option linter.unusedSimpArgs false

theorem i64_wrap_in (n : Int) (h : -9223372036854775808 ≤ n ∧ n ≤ 9223372036854775807) : IntKind.i64.wrap n = n := by
  simp [IntKind.wrap, IntKind.bits, IntKind.signed]; omega

/-- A row that is owned lies in a block of its own type. -/
theorem own_ty {w : World} {B : Nat} {e : TypeId} {size n : Nat} {v : Value} {xs : List Value} (h : w.ownsRow B e size v n xs) {b : Nat} (hb : v.ownBlock = some b) : ∃ cur f, w.heap[b]? = some (.cells cur e f) := by
  rcases h.2 with ⟨rfl, _⟩ | ⟨g, cap, cur, rfl, _, hg, _⟩
  · cases hb
  · cases hb
    exact ⟨_, _, hg⟩

/-- What is owned stays where a block of another type turns. -/
theorem own_far {w w' : World} {B : Nat} {e t : TypeId} {size n G : Nat} {v : Value} {xs : List Value} {cs : Array Value} {f : Nat × Nat} (h : w.ownsRow B e size v n xs) (hG : w.heap[G]? = some (.cells cs t f)) (ht : t ≠ e) (hs : ∀ k, k < w.heap.size → k ≠ G → w'.heap[k]? = w.heap[k]?) : w'.ownsRow B e size v n xs :=
  own_at h fun b hb => hs b (h.lt b hb).2 fun hx => by
    obtain ⟨cur, f', h2⟩ := own_ty h hb
    rw [hx, hG] at h2
    injection h2 with h2
    injection h2 with _ h3
    exact ht h3

/-- The elements of a row of rows, each owned. -/
def OEl (w : World) (B : Nat) (vs : List Value) (ll : List (List EV)) : Prop := ∀ i, i < ll.length → ∃ x, vs[i]? = some x ∧ w.ownsRow B 35 2 x (ll.getD i []).length (ecells (ll.getD i []))

theorem OEl.far {w w' : World} {B G : Nat} {vs : List Value} {ll : List (List EV)} {t : TypeId} {cs : Array Value} {f : Nat × Nat} (h : OEl w B vs ll) (hG : w.heap[G]? = some (.cells cs t f)) (ht : t ≠ 35) (hs : ∀ k, k < w.heap.size → k ≠ G → w'.heap[k]? = w.heap[k]?) : OEl w' B vs ll := fun i hi => by
  obtain ⟨x, a, b⟩ := h i hi
  exact ⟨x, a, own_far b hG ht hs⟩

theorem OEl.below {w w' : World} {B : Nat} {vs : List Value} {ll : List (List EV)} (h : OEl w B vs ll) (hb : Below w.heap.size w w') : OEl w' B vs ll := fun i hi => by
  obtain ⟨x, a, b⟩ := h i hi
  exact ⟨x, a, own_below b hb⟩

theorem OEl.row {w : World} {base B : Nat} {v : Value} {vs : List Value} {ll : List (List EV)} (h : OEl w B vs ll) (ho : w.ownsRow base 24 1 v ll.length vs) : RunRow w v ll := by
  by_cases h0 : ll.length = 0
  · have hl : ll = [] := List.eq_nil_of_length_eq_zero h0
    rw [h0] at ho
    rcases ho.2 with ⟨rfl, _⟩ | ⟨g, cap, cur, rfl, _⟩
    · exact .inl ⟨hl, _, _, rfl⟩
    · exact .inl ⟨hl, _, _, rfl⟩
  · rcases ho.2 with ⟨_, h3⟩ | ⟨g, cap, cur, rfl, _, hg, hnc, _⟩
    · exact absurd h3 h0
    · refine .inr ⟨by omega, g, 0, cap - ll.length, by rw [Nat.add_sub_cancel' hnc], (ho.lt g rfl).2, fun i hi => ?_⟩
      obtain ⟨x, a1, a2⟩ := h i hi
      exact ⟨x, by rw [Nat.zero_add, ho.cellAt i (by omega)]; exact a1, EntRow.of_own' a2⟩

theorem RunOwn.els {w : World} {base top : Nat} {v : Value} {ll : List (List EV)} (h : RunOwn w base top v ll) : ∃ vs, w.ownsRow base 24 1 v ll.length vs ∧ OEl w base vs ll := by
  obtain ⟨vs, h1, h2⟩ := h
  exact ⟨vs, h1, fun i hi => by obtain ⟨x, a, b⟩ := h2.1 i hi; exact ⟨x, a, b⟩⟩

theorem own_front {w : World} {B : Nat} {e : TypeId} {g n k cap : Nat} {xs : List Value} (h : w.ownsRow B e 1 (.slice (some ⟨g, 0, none⟩) n cap) n xs) (hk : k ≤ n) : w.ownsRow B e 1 (.slice (some ⟨g, 0, none⟩) k cap) k (xs.take k) := by
  have hl : xs.length = n := by simpa using h.1
  rcases h.2 with ⟨h1, _⟩ | ⟨g', cap', cur, h1, h2, h3, h4, h5, h6, h7⟩
  · cases h1
  · injection h1 with e1 e2 e3
    injection e1 with e1
    injection e1 with e1
    subst e1 e3
    refine ⟨by rw [List.length_take]; omega, .inr ⟨g, cap, cur, rfl, h2, h3, by omega, h5, h6, ?_⟩⟩
    rw [← h7, List.take_take]
    congr 1
    omega
theorem two_set {W : World} {R : Nat} {c d : Value} (a b : Value) (hR : W.heap[R]? = some (.cells #[c, d] 27 (0, 0))) :
    (∀ k, k < W.heap.size → k ≠ R → ((W.setCell ⟨R, 0, none⟩ a).setCell ⟨R, 1, none⟩ b).heap[k]? = W.heap[k]?) ∧ BAt ((W.setCell ⟨R, 0, none⟩ a).setCell ⟨R, 1, none⟩ b) R [a, b] := by
  have hlt : R < W.heap.size := (Array.getElem?_eq_some_iff.1 hR).1
  have A : BAt W R [c, d] := ⟨fun j v hv => by rw [cell_of_row W R _ _ _ (0, 0) hR]; simpa using hv, fun j => frozen_of_row _ _ _ _ _ hR, hlt⟩
  exact ⟨fun k _ hk => by rw [Below.heap_setCell _ _ _ _ hk, Below.heap_setCell _ _ _ _ hk], (A.set 0 (by simp) a).set 1 (by simp) b⟩

theorem OEl.crow {w : World} {B base : Nat} {v : Value} {vs : List Value} {ll : List (List EV)} (h : OEl w B vs ll) (ho : w.ownsRow base 24 1 v ll.length vs) : CRow w v ll.length 1 vs := by
  have hl : vs.length = ll.length := by have := ho.1; omega
  refine ⟨⟨by omega, fun u hu => ?_⟩, ?_⟩
  · obtain ⟨i, hi, rfl⟩ := List.getElem_of_mem hu
    obtain ⟨x, a, b⟩ := h i (by omega)
    rw [List.getElem?_eq_getElem hi] at a
    injection a with a
    obtain ⟨p, q, e⟩ := (EntRow.of_own' b).slice
    rw [a, e]
    rfl
  · rcases ho.2 with ⟨rfl, h0⟩ | ⟨g, cap, cur, rfl, _, hg, _⟩
    · exact .inl ⟨h0, _, _, rfl⟩
    · exact .inr ⟨g, 0, _, rfl, (ho.lt g rfl).2, fun j u hj => by rw [Nat.zero_add, ho.cellAt j (by have := (List.getElem?_eq_some_iff.1 hj).1; omega)]; exact hj⟩

theorem put_done {x : EV} {m : List EV} {ll : List (List EV)} {w w' : World} {e : Ending} {PM : List EV} {PL : List (List EV)} {v5 v6 : Value} (h1 : putM m x = PM) (h2 : putL m ll x = PL) (he : e = .returned (.agg #[v5, v6])) (hE : EntRow w' v5 PM) (hR : RunRow w' v6 PL) (hB : Below w.heap.size w w') :
    ∃ ao ac bo bc, e = .returned (.agg #[.slice ao (putM m x).length ac, .slice bo (putL m ll x).length bc]) ∧ EntRow w' (.slice ao (putM m x).length ac) (putM m x) ∧ RunRow w' (.slice bo (putL m ll x).length bc) (putL m ll x) ∧ Below w.heap.size w w' := by
  subst h1 h2
  obtain ⟨a, b, rfl⟩ := hE.slice
  obtain ⟨c, d, rfl⟩ := hR.slice
  exact ⟨a, b, c, d, he, hE, hR, hB⟩

theorem OEl.last {w : World} {B : Nat} {vs : List Value} {ll : List (List EV)} {n : Nat} {y : Value} {l : List EV} (h : OEl w B vs ll) (hv : ll.length ≤ vs.length) (hn : n ≤ ll.length) (hy : w.ownsRow B 35 2 y l.length (ecells l)) : OEl w B (vs.take n ++ [y]) (ll.take n ++ [l]) := by
  intro i hi
  rw [List.length_append, List.length_take, List.length_singleton] at hi
  by_cases h1 : i < n
  · obtain ⟨x, a, b⟩ := h i (by omega)
    refine ⟨x, by rw [List.getElem?_append_left (by rw [List.length_take]; omega), List.getElem?_take_of_lt h1]; exact a, ?_⟩
    rw [List.getD_eq_getElem?_getD, List.getElem?_append_left (by rw [List.length_take]; omega), List.getElem?_take_of_lt h1, ← List.getD_eq_getElem?_getD]
    exact b
  · have e1 : i = (vs.take n).length := by rw [List.length_take]; omega
    have e2 : i = (ll.take n).length := by rw [List.length_take]; omega
    refine ⟨y, by rw [e1, List.getElem?_append_right (Nat.le_refl _), Nat.sub_self]; rfl, ?_⟩
    rw [List.getD_eq_getElem?_getD, e2, List.getElem?_append_right (Nat.le_refl _), Nat.sub_self]
    exact hy

theorem OEl.cons {w : World} {B : Nat} {vs : List Value} {ll : List (List EV)} {y : Value} {l : List EV} (h : OEl w B vs ll) (hy : w.ownsRow B 35 2 y l.length (ecells l)) : OEl w B (y :: vs) (l :: ll) := by
  intro i hi
  cases i with
  | zero => exact ⟨y, rfl, hy⟩
  | succ i => exact h i (by simpa using hi)

theorem OEl.wide {w : World} {B B' : Nat} {vs : List Value} {ll : List (List EV)} (h : OEl w B vs ll) (hb : B' ≤ B) : OEl w B' vs ll := fun i hi => by
  obtain ⟨x, a, b⟩ := h i hi
  exact ⟨x, a, own_wide1 b hb⟩

set_option maxRecDepth 100000 in
set_option maxHeartbeats 4000000 in
theorem specL15Put (x : EV) (m : List EV) (ll : List (List EV)) (p q : Value) (w : World) (hk : sokS m ll = true) (hp : EntRow w p m) (hq : RunRow w q ll) :
    Calls Try.prog 36 #[.agg #[p, q], .string x.s, .int .i64 x.k] w fun e w' => ∃ ao ac bo bc, e = .returned (.agg #[.slice ao (putM m x).length ac, .slice bo (putL m ll x).length bc]) ∧ EntRow w' (.slice ao (putM m x).length ac) (putM m x) ∧ RunRow w' (.slice bo (putL m ll x).length bc) (putL m ll x) ∧ Below w.heap.size w w' := by
  obtain ⟨hm8, hl6, h400⟩ := sokS_sz hk
  rw [List.length_append] at h400
  obtain ⟨hAm, hAl⟩ := sokS_asc hk
  have hon := on_len x m
  have hfl : ∀ i, i < ll.length → (ll.getD i []).length ≤ 400 := fun i hi => by have := flat_at hi; omega
  have HAR := hidM (put_asc (m := m) (x := x) hAl)
  obtain ⟨O, hO⟩ : ∃ O, O = (w.alloc (.cells #[p, q] 27)).alloc (.cells #[.slice none 0 0, .slice none 0 0] 27) := ⟨_, rfl⟩
  have bO : Below w.heap.size w O := by rw [hO]; exact ((Below.refl _ _).alloc (Nat.le_refl _) _).alloc (by simp) _
  have hzO : w.heap.size + 2 ≤ O.heap.size := by rw [hO]; simp
  have A0 : BAt O w.heap.size [p, q] := by rw [hO]; exact (BAt.new w #[p, q] _).alloc _
  have HR0 : O.heap[w.heap.size + 1]? = some (.cells #[.slice none 0 0, .slice none 0 0] 27 (0, 0)) := by
    rw [hO]
    have := heap_alloc_new (w.alloc (.cells #[p, q] 27)) (.cells #[.slice none 0 0, .slice none 0 0] 27)
    rwa [World.size_alloc] at this
  have HCP := hidM (specCopy m ll p q O (by omega) (by omega) (fun i hi => by have := hfl i hi; omega) (hp.below bO) (hq.below bO))
  obtain ⟨pa, pc, hpe⟩ := hp.slice
  obtain ⟨qa, qc, hqe⟩ := hq.slice
  subst hpe hqe
  have c0 := A0.1 0 _ rfl
  have c1 := A0.1 1 _ rfl
  clear hp hq A0
  go_enter Try.func36, Try.ntmps36
  go_upto_region 1 with fail
  rw [← hO]
  clear hO
  go_wp2_with fail
  refine HCP.out.mono ?_
  rintro e w1 ⟨p1, q1, rfl, o1, r1, b1⟩
  obtain ⟨vs1, n1, e1⟩ := r1.els
  have O1 := hidM o1
  have N1 := hidM n1
  have E1 := hidM e1
  obtain ⟨ma, mc, hme⟩ := (EntRow.of_own' o1).slice
  obtain ⟨ra, rc, hre⟩ := (e1.row n1).slice
  subst hme hre
  clear o1 r1 n1 e1 HCP c0 c1
  obtain ⟨U, hU⟩ : ∃ U, U = w1.alloc (.cells #[.slice ma m.length mc, .slice ra ll.length rc] 27) := ⟨_, rfl⟩
  have bU : Below w1.heap.size w1 U := by rw [hU]; exact (Below.refl _ _).alloc (Nat.le_refl _) _
  have HDU : U.heap[w1.heap.size]? = some (.cells #[.slice ma m.length mc, .slice ra ll.length rc] 27 (0, 0)) := by rw [hU]; exact heap_alloc_new w1 _
  have BU := b1.trans (bU.mono b1.size)
  have OU := hidM (own_below O1.out bU)
  have NU := hidM (own_below N1.out bU)
  have EU := hidM (E1.out.below bU)
  have hD1 : O.heap.size ≤ w1.heap.size := b1.size
  have hD2 : w1.heap.size < U.heap.size := by rw [hU]; simp
  go_upto_region 2 with fail
  rw [← hU]
  clear hU bU b1 O1 N1 E1
  generalize w1.heap.size = D at *
  obtain ⟨U2, hU2⟩ : ∃ U2, U2 = U.alloc (.cells #[.string x.s, .int .i64 x.k] 35) := ⟨_, rfl⟩
  have bU2 : Below U.heap.size U U2 := by rw [hU2]; exact (Below.refl _ _).alloc (Nat.le_refl _) _
  have HX1 : EntRow U2 (.slice (some ⟨U.heap.size, 0, none⟩) 1 1) [x] := by
    rw [hU2]
    exact EntRow.of_own' (base := 0) (e := 35) (World.ownsRow_lit U #[.string x.s, .int .i64 x.k] 1 (Nat.zero_le _) (by decide) rfl)
  have HMg := hidM (specMerge [x] m _ _ U2 (by simp; omega) (List.pairwise_singleton _ _) hAm HX1 ((EntRow.of_own' OU.out).below bU2))
  have HDU2 : U2.heap[D]? = some (.cells #[.slice ma m.length mc, .slice ra ll.length rc] 27 (0, 0)) := (bU2.block D hD2).trans HDU
  have d0 : U2.cell? ⟨D, 0, none⟩ = some (.slice ma m.length mc) := by rw [cell_of_row U2 D _ _ _ (0, 0) HDU2]; rfl
  have BU2 := BU.trans (bU2.mono BU.size)
  have NU2 := hidM (own_below NU.out bU2)
  have EU2 := hidM (EU.out.below bU2)
  have hD3 : D < U2.heap.size := Nat.lt_of_lt_of_le hD2 bU2.size
  rw [hU2] at d0
  clear HX1 NU EU OU HDU BU
  go_wp2_with fail
  rw [← hU2]
  clear hU2 bU2 d0
  refine HMg.out.mono ?_
  rintro e w2 ⟨v2, rfl, o2, b2⟩
  obtain ⟨va, vc, hve⟩ := (EntRow.of_own' o2).slice
  subst hve
  have HON : Hid (canon ([x] ++ m) = onM x m) := rfl
  rw [HON.out] at o2 ⊢
  have HD2 : w2.heap[D]? = some (.cells #[.slice ma m.length mc, .slice ra ll.length rc] 27 (0, 0)) := (b2.block D hD3).trans HDU2
  have B2 := BU2.trans (b2.mono BU2.size)
  have N2 := own_below NU2.out b2
  have E2 := EU2.out.below b2
  have hOU2 := BU2.size
  clear NU2 EU2 HDU2 HMg BU2
  generalize hY : (onM x m).length = ON at *
  have HY := hidM hY
  clear hY
  obtain ⟨w3, hw3⟩ : ∃ w3, w3 = w2.setCell ⟨D, 0, none⟩ (.slice va ON vc) := ⟨_, rfl⟩
  have d0 : w2.cell? ⟨D, 0, none⟩ = some (.slice ma m.length mc) := by rw [cell_of_row w2 D _ _ _ (0, 0) HD2]; rfl
  have f0 : w2.frozen? ⟨D, 0, none⟩ = false := frozen_of_row _ _ _ _ _ HD2
  have hs3 : ∀ k, k < w2.heap.size → k ≠ D → w3.heap[k]? = w2.heap[k]? := fun k _ hk => by rw [hw3]; exact Below.heap_setCell _ _ _ _ hk
  have HD3 : w3.heap[D]? = some (.cells #[.slice va ON vc, .slice ra ll.length rc] 27 (0, 0)) := by rw [hw3]; exact heap_setCell_same w2 D 0 _ _ _ HD2
  have B3 : Below O.heap.size O w3 := by rw [hw3]; exact B2.setCell hD1 _
  have O3 := hidM (own_far (w' := w3) o2 HD2 (by decide) hs3)
  have N3 := hidM (own_far (w' := w3) N2 HD2 (by decide) hs3)
  have E3 := hidM (E2.far (w' := w3) HD2 (by decide) hs3)
  go_upto_region 3 with fail
  rw [← hw3]
  clear hw3 hs3 HD2 d0 f0 o2 N2 E2 b2 B2
  have d0 : w3.cell? ⟨D, 0, none⟩ = some (.slice va ON vc) := by rw [cell_of_row w3 D _ _ _ (0, 0) HD3]; rfl
  have d1 : w3.cell? ⟨D, 1, none⟩ = some (.slice ra ll.length rc) := by rw [cell_of_row w3 D _ _ _ (0, 0) HD3]; rfl
  have f0 : ∀ j, w3.frozen? ⟨D, j, none⟩ = false := fun j => frozen_of_row _ _ _ _ _ HD3
  by_cases h8 : 8 ≤ ON
  · have HPM : Hid (putM m x = []) := if_pos (by rw [HY.out]; exact h8)
    have HPR : Hid (putR m ll x = onM x m :: ll) := if_pos (by rw [HY.out]; exact h8)
    have h8i : 8 ≤ (ON : Int) := by omega
    obtain ⟨V, hV⟩ : ∃ V, V = w3.alloc (.cells #[.slice va ON vc] 24) := ⟨_, rfl⟩
    have bV : Below w3.heap.size w3 V := by rw [hV]; exact (Below.refl _ _).alloc (Nat.le_refl _) _
    have hD4 : D < w3.heap.size := (Array.getElem?_eq_some_iff.1 HD3).1
    have HDV : V.heap[D]? = some (.cells #[.slice va ON vc, .slice ra ll.length rc] 27 (0, 0)) := (bV.block D hD4).trans HD3
    have LV : V.ownsRow w3.heap.size 24 1 (.slice (some ⟨w3.heap.size, 0, none⟩) 1 1) 1 [.slice va ON vc] := by rw [hV]; exact World.ownsRow_lit w3 #[.slice va ON vc] 1 (Nat.le_refl _) (by decide) rfl
    have CV := (E3.out.below bV).crow (own_below N3.out bV)
    have BV := B3.trans (bV.mono B3.size)
    have OV := hidM (own_below O3.out bV)
    have EV2 := hidM (E3.out.below bV)
    have e1 : V.cell? ⟨D, 1, none⟩ = some (.slice ra ll.length rc) := by rw [cell_of_row V _ _ _ _ (0, 0) HDV]; rfl
    have hzV : w3.heap.size < V.heap.size := by rw [hV]; simp
    have hzO3 := B3.size
    clear O3 N3 E3
    rw [hV] at e1 LV CV
    go_wp2_with (at_builtin; refine wpList_append_crow rfl _ _ 25 rfl w3.heap.size 24 (.slice none 0 0) 1 24 Try.underlying25 Try.infoRw rfl (by decide) _ 1 [.slice va ON vc] rfl LV _ ll.length vs1 rfl CV (by omega) (by unfold maxLen; omega) (by simp) ?_)
    rw [← hV]
    rw [← hV] at LV
    intro v4 w4 n4 g4 _
    have hs4 : ∀ k, k < V.heap.size → k ≠ w3.heap.size → w4.heap[k]? = V.heap[k]? := fun k h1 h2 => g4.block k h1 (fun e => h2 (by injection e))
    obtain ⟨curv, fv, hgv⟩ := own_ty LV rfl
    have HD4 : w4.heap[D]? = some (.cells #[.slice va ON vc, .slice ra ll.length rc] 27 (0, 0)) := (hs4 D (by omega) (by omega)).trans HDV
    have O4 := own_wide1 (own_far (w' := w4) OV.out hgv (by decide) hs4) hOU2
    have E4 := OEl.cons (EV2.out.far (w' := w4) hgv (by decide) hs4) (l := onM x m) (by rw [HY.out]; exact O4)
    have B4 : Below O.heap.size O w4 := BV.grown g4 BV.size (fun k hk => by cases hk; exact hzO3)
    obtain ⟨RN, hRN⟩ : ∃ RN, RN = 1 + ll.length := ⟨_, rfl⟩
    have hRN7 : RN ≤ 7 ∧ 1 ≤ RN := by omega
    rw [← hRN] at n4
    have LNX : Hid ((onM x m :: ll).length = RN) := by show _ = _; rw [hRN, List.length_cons]; omega
    have LNX2 := LNX.out
    obtain ⟨a4, c4, hv4⟩ : ∃ a4 c4, v4 = .slice a4 RN c4 := by
      rcases n4.2 with ⟨h, h2⟩ | ⟨gg, cap, cur, h, _⟩
      · exact absurd h2 (by omega)
      · exact ⟨_, _, h⟩
    subst hv4
    have N4 := own_wide1 n4 hzO3
    clear hs4 hgv OV EV2 n4 g4 LV CV BV HDV e1 hV bV hRN
    obtain ⟨wq, hwq⟩ : ∃ wq, wq = ((w4.setCell ⟨D, 1, none⟩ (.slice a4 RN c4)).alloc (.cells #[] 35)).setCell ⟨D, 0, none⟩ (.slice (some ⟨w4.heap.size, 0, none⟩) 0 0) := ⟨_, rfl⟩
    have d40 : w4.cell? ⟨D, 0, none⟩ = some (.slice va ON vc) := by rw [cell_of_row w4 _ _ _ _ (0, 0) HD4]; rfl
    have d41 : w4.cell? ⟨D, 1, none⟩ = some (.slice ra ll.length rc) := by rw [cell_of_row w4 _ _ _ _ (0, 0) HD4]; rfl
    have f4 : ∀ j, w4.frozen? ⟨D, j, none⟩ = false := fun j => frozen_of_row _ _ _ _ _ HD4
    have HDa : (w4.setCell ⟨D, 1, none⟩ (.slice a4 RN c4)).heap[D]? = some (.cells #[.slice va ON vc, .slice a4 RN c4] 27 (0, 0)) := heap_setCell_same w4 D 1 _ _ _ HD4
    have HDb := (Below.heap_alloc (w4.setCell ⟨D, 1, none⟩ (.slice a4 RN c4)) (.cells #[] 35) D (by have := (Array.getElem?_eq_some_iff.1 HD4).1; simpa using this)).trans HDa
    have HDc : wq.heap[D]? = some (.cells #[.slice (some ⟨w4.heap.size, 0, none⟩) 0 0, .slice a4 RN c4] 27 (0, 0)) := by rw [hwq]; exact heap_setCell_same _ D 0 _ _ _ HDb
    have hsq : ∀ k, k < w4.heap.size → k ≠ D → wq.heap[k]? = w4.heap[k]? := fun k h1 h2 => by
      rw [hwq, Below.heap_setCell _ _ _ _ h2, Below.heap_alloc _ _ _ (by simpa using h1), Below.heap_setCell _ _ _ _ h2]
    have Bq : Below O.heap.size O wq := by rw [hwq]; exact ((B4.setCell hD1 _).alloc (by simp; exact B4.size) _).setCell hD1 _
    have Oq : Hid (wq.ownsRow O.heap.size 35 2 (.slice (some ⟨w4.heap.size, 0, none⟩) 0 0) 0 []) := hidM (by
      have h1 := World.ownsRow_lit (base := O.heap.size) (e := 35) (size := 2) (w4.setCell ⟨D, 1, none⟩ (.slice a4 RN c4)) #[] 0 (by simp; exact B4.size) (Nat.zero_le _) rfl
      have h2 : (w4.setCell ⟨D, 1, none⟩ (.slice a4 RN c4)).heap.size = w4.heap.size := by simp
      rw [h2] at h1
      rw [hwq]
      exact own_far h1 HDb (by decide) (fun k _ hk => Below.heap_setCell _ _ _ _ hk))
    have Nq := hidM (own_far (w' := wq) N4 HD4 (by decide) hsq)
    have Eq5 := hidM (E4.far (w' := wq) HD4 (by decide) hsq)
    have x0 : ((w4.setCell ⟨D, 1, none⟩ (.slice a4 RN c4)).alloc (.cells #[] 35)).cell? ⟨D, 0, none⟩ = some (.slice va ON vc) := by rw [cell_of_row _ D _ _ _ (0, 0) HDb]; rfl
    have xf : ((w4.setCell ⟨D, 1, none⟩ (.slice a4 RN c4)).alloc (.cells #[] 35)).frozen? ⟨D, 0, none⟩ = false := frozen_of_row _ _ _ _ _ HDb
    have f41 := f4 1
    go_upto_region 6 with fail
    rw [← hwq]
    clear hwq hsq HDa HDb HD4 d40 d41 f4 N4 E4 B4 d0 d1 f0 B3 HD3 O4 x0 xf f41
    generalize w4.heap.size = E4z at *
    have d0 : wq.cell? ⟨D, 0, none⟩ = some (.slice (some ⟨E4z, 0, none⟩) 0 0) := by rw [cell_of_row wq D _ _ _ (0, 0) HDc]; rfl
    have d1 : wq.cell? ⟨D, 1, none⟩ = some (.slice a4 RN c4) := by rw [cell_of_row wq D _ _ _ (0, 0) HDc]; rfl
    have f0 : ∀ j, wq.frozen? ⟨D, j, none⟩ = false := fun j => frozen_of_row _ _ _ _ _ HDc
    by_cases h3 : 3 < RN
    · have h3i : 3 < (RN : Int) := by omega
      have ASX : Hid (∀ i, i < (onM x m :: ll).length → Asc ((onM x m :: ll).getD i [])) := by
        have := HAR.out
        rw [HPR.out] at this
        exact this
      have hfl2 : (onM x m :: ll).flatten.length ≤ 409 := by rw [List.flatten_cons, List.length_append, HY.out]; omega
      generalize hRR : onM x m :: ll = RR at *
      have HRR := hidM hRR
      clear hRR
      obtain ⟨g, hga⟩ : ∃ g, a4 = some ⟨g, 0, none⟩ := by
        rcases own_shape Nq.out with ⟨hz, _⟩ | ⟨_, g, gc, hg6⟩
        · exact absurd hz (by omega)
        · injection hg6 with h1 _ _
          exact ⟨g, h1⟩
      subst hga
      obtain ⟨I2, HI2⟩ : ∃ I2, Hid (I2 + 2 = RN) := ⟨RN - 2, by show _ = _; omega⟩
      obtain ⟨I1, HI1⟩ : ∃ I1, Hid (I1 + 1 = RN) := ⟨RN - 1, by show _ = _; omega⟩
      have hI2 : I2 < RN := by have := HI2.out; omega
      have hI1 : I1 < RN := by have := HI1.out; omega
      have eI2 : (RN : Int) - 2 = (I2 : Int) := by have := HI2.out; omega
      have eI1 : (RN : Int) - 1 = (I1 : Int) := by have := HI1.out; omega
      have eW2 : IntKind.i64.wrap (I2 : Int) = (I2 : Int) := i64_wrap_in _ (by omega)
      have hI2i : (I2 : Int) < (RN : Int) := by omega
      have eW1 : IntKind.i64.wrap (I1 : Int) = (I1 : Int) := i64_wrap_in _ (by omega)
      have hI1i : (I1 : Int) < (RN : Int) := by omega
      have HLn := hidM LNX2
      obtain ⟨x1, a1, ox1⟩ := Eq5.out I2 (by have := HLn.out; omega)
      obtain ⟨x2, a2, ox2⟩ := Eq5.out I1 (by have := HLn.out; omega)
      have cx1 : Hid (wq.cell? ⟨g, I2, none⟩ = some x1) := hidM (by rw [Nq.out.cellAt _ (by omega)]; exact a1)
      have cx2 : Hid (wq.cell? ⟨g, I1, none⟩ = some x2) := hidM (by rw [Nq.out.cellAt _ (by omega)]; exact a2)
      have hgW := (Nq.out.lt g rfl).2
      have hcap := own_room Nq.out
      have HAs1 := ASX.out I2 (by have := HLn.out; omega)
      have HAs2 := ASX.out I1 (by have := HLn.out; omega)
      have hz1 := flat_at (ll := RR) (i := I2) (by have := HLn.out; omega)
      have hz2 := flat_at (ll := RR) (i := I1) (by have := HLn.out; omega)
      have HLast : Hid (lastR RR = RR.take I2 ++ [canon (RR.getD I2 [] ++ RR.getD I1 [])]) := hidM (by
        have h1 := HLn.out
        have h2 := HI2.out
        have h3 := HI1.out
        unfold lastR
        rw [if_pos (by omega), show RR.length - 2 = I2 by omega, show RR.length - 1 = I1 by omega])
      obtain ⟨p1, s1, hx1⟩ := (EntRow.of_own' ox1).slice
      obtain ⟨p2, s2, hx2⟩ := (EntRow.of_own' ox2).slice
      have HMr : Hid (∀ W, Below wq.heap.size wq W → Calls Try.prog 58 #[x1, x2] W fun e w' => ∃ v', e = .returned v' ∧ w'.ownsRow W.heap.size 35 2 v' (canon (RR.getD I2 [] ++ RR.getD I1 [])).length (ecells (canon (RR.getD I2 [] ++ RR.getD I1 []))) ∧ Below W.heap.size W w') := fun W bW => specMerge _ _ x1 x2 W (by omega) HAs1 HAs2 ((EntRow.of_own' ox1).below bW) ((EntRow.of_own' ox2).below bW)
      generalize canon (RR.getD I2 [] ++ RR.getD I1 []) = LM at *
      subst hx1 hx2
      clear ox1 ox2 a1 a2 HAs1 HAs2 HAR hz1 hz2
      generalize (RR.getD I2 []).length = n1 at *
      generalize (RR.getD I1 []).length = n2 at *
      go_upto_region 8 with fail
      have HD8 : Hid (∀ W, Below wq.heap.size wq W → W.cell? ⟨D, 1, none⟩ = some (.slice (some ⟨g, 0, none⟩) RN c4) ∧ W.cell? ⟨g, I2, none⟩ = some (.slice p1 n1 s1) ∧ W.cell? ⟨g, I1, none⟩ = some (.slice p2 n2 s2)) := fun W bW => ⟨(bW.cell (p := ⟨D, 1, none⟩) (Array.getElem?_eq_some_iff.1 HDc).1).trans d1, (bW.cell (p := ⟨g, I2, none⟩) hgW).trans cx1.out, (bW.cell (p := ⟨g, I1, none⟩) hgW).trans cx2.out⟩
      clear d0 d1 f0 cx1 cx2
      refine wp_region_held_drew (S := fun W => Below wq.heap.size wq W) (by kernel_rfl) (Below.refl _ _).drew (fun h0 => ?_)
      refine wpAnyH_take (i := 0) (v := ?_) rfl (by kernel_rfl) (by kernel_rfl) (by kernel_rfl) (fun _ _ _ h => h) (Or.inl ⟨by rfl, fun W hW => ?_⟩) h0 ?_
      rotate_left
      · clear hW
        go_simp
        try with_reducible rfl
      simp only [Act.put, List.getElem_toArray, List.getElem_cons_zero, List.getElem_cons_succ, List.setIfInBounds_toArray, List.set_cons_zero, List.set_cons_succ]
      refine wpAnyH_take (i := 1) (v := .slice (some ⟨g, 0, none⟩) RN c4) rfl (by kernel_rfl) (by kernel_rfl) (by kernel_rfl) (fun _ _ _ h => h) (Or.inl ⟨by rfl, fun W hW => ?_⟩) h0 ?_
      · have q0 := (HD8.out W hW).1
        go_simp
      simp only [Act.put, List.getElem_toArray, List.getElem_cons_zero, List.getElem_cons_succ, List.setIfInBounds_toArray, List.set_cons_zero, List.set_cons_succ]
      refine wpAnyH_take (i := 2) (v := ?_) rfl (by kernel_rfl) (by kernel_rfl) (by kernel_rfl) (fun _ _ _ h => h) (Or.inl ⟨by rfl, fun W hW => ?_⟩) h0 ?_
      rotate_left
      · clear hW
        go_simp
        try with_reducible rfl
      simp only [Act.put, List.getElem_toArray, List.getElem_cons_zero, List.getElem_cons_succ, List.setIfInBounds_toArray, List.set_cons_zero, List.set_cons_succ]
      refine wpAnyH_take (i := 3) (v := ?_) rfl (by kernel_rfl) (by kernel_rfl) (by kernel_rfl) (fun _ _ _ h => h) (Or.inl ⟨by rfl, fun W hW => ?_⟩) h0 ?_
      rotate_left
      · clear hW
        go_simp
        try with_reducible rfl
      simp only [Act.put, List.getElem_toArray, List.getElem_cons_zero, List.getElem_cons_succ, List.setIfInBounds_toArray, List.set_cons_zero, List.set_cons_succ]
      refine wpAnyH_take (i := 4) (v := .pointer (some ⟨g, I2, none⟩)) rfl (by kernel_rfl) (by kernel_rfl) (by kernel_rfl) (fun _ _ _ h => h) (Or.inl ⟨by rfl, fun W hW => ?_⟩) h0 ?_
      · clear hW
        go_simp
      simp only [Act.put, List.getElem_toArray, List.getElem_cons_zero, List.getElem_cons_succ, List.setIfInBounds_toArray, List.set_cons_zero, List.set_cons_succ]
      refine wpAnyH_take (i := 5) (v := .slice p1 n1 s1) rfl (by kernel_rfl) (by kernel_rfl) (by kernel_rfl) (fun _ _ _ h => h) (Or.inl ⟨by rfl, fun W hW => ?_⟩) h0 ?_
      · have q0 := (HD8.out W hW).2.1
        go_simp
      simp only [Act.put, List.getElem_toArray, List.getElem_cons_zero, List.getElem_cons_succ, List.setIfInBounds_toArray, List.set_cons_zero, List.set_cons_succ]
      refine wpAnyH_take (i := 6) (v := ?_) rfl (by kernel_rfl) (by kernel_rfl) (by kernel_rfl) (fun _ _ _ h => h) (Or.inl ⟨by rfl, fun W hW => ?_⟩) h0 ?_
      rotate_left
      · clear hW
        go_simp
        try with_reducible rfl
      simp only [Act.put, List.getElem_toArray, List.getElem_cons_zero, List.getElem_cons_succ, List.setIfInBounds_toArray, List.set_cons_zero, List.set_cons_succ]
      refine wpAnyH_take (i := 7) (v := .slice (some ⟨g, 0, none⟩) RN c4) rfl (by kernel_rfl) (by kernel_rfl) (by kernel_rfl) (fun _ _ _ h => h) (Or.inl ⟨by rfl, fun W hW => ?_⟩) h0 ?_
      · have q0 := (HD8.out W hW).1
        go_simp
      simp only [Act.put, List.getElem_toArray, List.getElem_cons_zero, List.getElem_cons_succ, List.setIfInBounds_toArray, List.set_cons_zero, List.set_cons_succ]
      refine wpAnyH_take (i := 8) (v := ?_) rfl (by kernel_rfl) (by kernel_rfl) (by kernel_rfl) (fun _ _ _ h => h) (Or.inl ⟨by rfl, fun W hW => ?_⟩) h0 ?_
      rotate_left
      · clear hW
        go_simp
        try with_reducible rfl
      simp only [Act.put, List.getElem_toArray, List.getElem_cons_zero, List.getElem_cons_succ, List.setIfInBounds_toArray, List.set_cons_zero, List.set_cons_succ]
      refine wpAnyH_take (i := 9) (v := ?_) rfl (by kernel_rfl) (by kernel_rfl) (by kernel_rfl) (fun _ _ _ h => h) (Or.inl ⟨by rfl, fun W hW => ?_⟩) h0 ?_
      rotate_left
      · clear hW
        go_simp
        try with_reducible rfl
      simp only [Act.put, List.getElem_toArray, List.getElem_cons_zero, List.getElem_cons_succ, List.setIfInBounds_toArray, List.set_cons_zero, List.set_cons_succ]
      refine wpAnyH_take (i := 10) (v := .pointer (some ⟨g, I1, none⟩)) rfl (by kernel_rfl) (by kernel_rfl) (by kernel_rfl) (fun _ _ _ h => h) (Or.inl ⟨by rfl, fun W hW => ?_⟩) h0 ?_
      · clear hW
        go_simp
      simp only [Act.put, List.getElem_toArray, List.getElem_cons_zero, List.getElem_cons_succ, List.setIfInBounds_toArray, List.set_cons_zero, List.set_cons_succ]
      refine wpAnyH_take (i := 11) (v := .slice p2 n2 s2) rfl (by kernel_rfl) (by kernel_rfl) (by kernel_rfl) (fun _ _ _ h => h) (Or.inl ⟨by rfl, fun W hW => ?_⟩) h0 ?_
      · have q0 := (HD8.out W hW).2.2
        go_simp
      simp only [Act.put, List.getElem_toArray, List.getElem_cons_zero, List.getElem_cons_succ, List.setIfInBounds_toArray, List.set_cons_zero, List.set_cons_succ]
      refine wpAnyH_ready (rs := [12]) (by kernel_rfl) (by simp) (AllReadyH.cons rfl (fun K hK => ?_) AllReadyH.nil)
      go_simp
      refine (HMr.out _ h0).mono ?_
      rintro e w5 ⟨v5, rfl, o5, b5⟩
      have b5z : Below wq.heap.size wq w5 := h0.trans (b5.mono h0.size)
      refine hK.out _ _ b5z (fun h1 => ?_)
      clear hK K h1
      obtain ⟨la, lc, hle5⟩ := (EntRow.of_own' o5).slice
      subst hle5
      refine wpAnyH_take (i := 13) (v := ?_) rfl (by kernel_rfl) (by kernel_rfl) (by kernel_rfl) (fun _ _ _ h => h) (Or.inl ⟨by rfl, fun W hW => ?_⟩) b5z ?_
      rotate_left
      · clear hW
        go_simp
        try with_reducible rfl
      simp only [Act.put, List.getElem_toArray, List.getElem_cons_zero, List.getElem_cons_succ, List.setIfInBounds_toArray, List.set_cons_zero, List.set_cons_succ]
      refine wpAnyH_done (by kernel_rfl) ?_ _
      have HD5 := (b5z.block D (Array.getElem?_eq_some_iff.1 HDc).1).trans HDc
      have B5 : Below O.heap.size O w5 := Bq.trans (b5z.mono Bq.size)
      have O5 := own_below Oq.out b5z
      have N5 := own_below Nq.out b5z
      have E5 := OEl.below Eq5.out b5z
      have hg5 : ∃ cur f, w5.heap[g]? = some (.cells cur 24 f) := own_ty N5 rfl
      have o5w := own_wide1 o5 (show O.heap.size ≤ _ from (Bq.trans (h0.mono Bq.size)).size)
      have hvl : RR.length ≤ (.slice va ON vc :: vs1).length := by have := N5.1; have := HLn.out; omega
      clear HD8 HMr o5 b5
      generalize hLN : LM.length = LN at *
      have HLN := hidM hLN
      clear hLN eW2 eW1
      have d1 : w5.cell? ⟨D, 1, none⟩ = some (.slice (some ⟨g, 0, none⟩) RN c4) := by rw [cell_of_row w5 _ _ _ _ (0, 0) HD5]; rfl
      have NF5 := own_front N5 (k := I2) (by omega)
      have hgO : O.heap.size ≤ g := (N5.lt g rfl).1
      obtain ⟨curg, fg, hgo⟩ := hg5
      have hDg : D ≠ g := fun e => by
        rw [e, hgo] at HD5
        injection HD5 with HD5
        injection HD5 with _ h9
        exact absurd h9 (by decide)
      have hEl := OEl.last E5 hvl (n := I2) (by have := HLn.out; omega) (by rw [HLN.out]; exact o5w)
      have hD5s : D < w5.heap.size := (Array.getElem?_eq_some_iff.1 HD5).1
      have HO5 := hidM O5
      have HEl := hidM hEl
      have hcap2 : I2 ≤ c4 := by omega
      clear O5 hEl E5 N5 o5w hcap
      go_wp2_with (at_builtin; refine wpList_append_newAt _ rfl _ _ 25 rfl O.heap.size 24 (.slice none 0 0) 24 Try.underlying25 Try.infoRw rfl _ _ _ rfl NF5 #[.slice la LN lc] 1 rfl rfl (by intro u hu; simp at hu; rw [hu]; rfl) (by omega) (by unfold maxLen; omega) B5.size ?_)
      intro v7 w7 n7 g7 _
      have hs7 : ∀ k, k < w5.heap.size → k ≠ g → w7.heap[k]? = w5.heap[k]? := fun k h1 h2 => g7.block k h1 (fun e => h2 (by injection e))
      have HD7 : w7.heap[D]? = some (.cells #[(.slice (some ⟨E4z, 0, none⟩) 0 0), .slice (some ⟨g, 0, none⟩) RN c4] 27 (0, 0)) := (hs7 D hD5s hDg).trans HD5
      have O7 := own_far (w' := w7) HO5.out hgo (by decide) hs7
      have E7 := HEl.out.far (w' := w7) hgo (by decide) hs7
      have B7 : Below O.heap.size O w7 := B5.grown g7 B5.size (fun k hk => by cases hk; exact hgO)
      obtain ⟨a7, c7, hv7⟩ : ∃ a7 c7, v7 = .slice a7 (I2 + 1) c7 := by
        rcases n7.2 with ⟨h, h2⟩ | ⟨gg, cap, cur, h, _⟩
        · exact absurd h2 (by omega)
        · exact ⟨_, _, h⟩
      subst hv7
      clear NF5 g7 hs7 HO5 HEl hgo d1 HD5 B5
      obtain ⟨w8, hw8⟩ : ∃ w8, w8 = w7.setCell ⟨D, 1, none⟩ (.slice a7 (I2 + 1) c7) := ⟨_, rfl⟩
      have d1 : w7.cell? ⟨D, 1, none⟩ = some (.slice (some ⟨g, 0, none⟩) RN c4) := by rw [cell_of_row w7 _ _ _ _ (0, 0) HD7]; rfl
      have f1 : w7.frozen? ⟨D, 1, none⟩ = false := frozen_of_row _ _ _ _ _ HD7
      have hs8 : ∀ k, k < w7.heap.size → k ≠ D → w8.heap[k]? = w7.heap[k]? := fun k _ hk => by rw [hw8]; exact Below.heap_setCell _ _ _ _ hk
      have HD8 : w8.heap[D]? = some (.cells #[(.slice (some ⟨E4z, 0, none⟩) 0 0), .slice a7 (I2 + 1) c7] 27 (0, 0)) := by rw [hw8]; exact heap_setCell_same w7 D 1 _ _ _ HD7
      have B8 : Below O.heap.size O w8 := by rw [hw8]; exact B7.setCell hD1 _
      have O8 := hidM (own_far (w' := w8) O7 HD7 (by decide) hs8)
      have N8 := hidM (own_far (w' := w8) n7 HD7 (by decide) hs8)
      have E8 := hidM (E7.far (w' := w8) HD7 (by decide) hs8)
      clear O7 E7 n7 hs8
      go_upto_region 10 with fail
      rw [← hw8]
      clear hw8 d1 f1 HD7 B7
      have HRz := (B8.block (w.heap.size + 1) (by omega)).trans HR0
      obtain ⟨hsZ, AZ⟩ := two_set (.slice (some ⟨E4z, 0, none⟩) 0 0) (.slice a7 (I2 + 1) c7) HRz
      have r0 : w8.cell? ⟨w.heap.size + 1, 0, none⟩ = some (.slice none 0 0) := by rw [cell_of_row w8 _ _ _ _ (0, 0) HRz]; rfl
      have r1 : w8.cell? ⟨w.heap.size + 1, 1, none⟩ = some (.slice none 0 0) := by rw [cell_of_row w8 _ _ _ _ (0, 0) HRz]; rfl
      have rf : ∀ j, w8.frozen? ⟨w.heap.size + 1, j, none⟩ = false := fun j => frozen_of_row _ _ _ _ _ HRz
      have d0 : w8.cell? ⟨D, 0, none⟩ = some (.slice (some ⟨E4z, 0, none⟩) 0 0) := by rw [cell_of_row w8 _ _ _ _ (0, 0) HD8]; rfl
      have d1 : w8.cell? ⟨D, 1, none⟩ = some (.slice a7 (I2 + 1) c7) := by rw [cell_of_row w8 _ _ _ _ (0, 0) HD8]; rfl
      have OF := hidM (own_far O8.out HRz (by decide) hsZ)
      have NF := hidM (own_far N8.out HRz (by decide) hsZ)
      have EF := hidM (E8.out.far HRz (by decide) hsZ)
      have BF : Below w.heap.size w ((w8.setCell ⟨w.heap.size + 1, 0, none⟩ (.slice (some ⟨E4z, 0, none⟩) 0 0)).setCell ⟨w.heap.size + 1, 1, none⟩ (.slice a7 (I2 + 1) c7)) := ((bO.trans (B8.mono bO.size)).setCell (by simp) _).setCell (by simp) _
      clear hsZ
      go_wp2_with fail
      refine bodyPost_ret (seen_resultS rfl _ _ (w.heap.size + 1) _ _ rfl AZ) rfl ?_
      have HPL : putL m ll x = RR.take I2 ++ [LM] := by unfold putL; rw [HPR.out]; exact HLast.out
      have hLL : (RR.take I2 ++ [LM]).length = I2 + 1 := by rw [List.length_append, List.length_take]; have := HLn.out; simp; omega
      exact put_done HPM.out HPL rfl (EntRow.of_own' (by skip; exact OF.out)) (EF.out.row (by rw [hLL]; exact NF.out)) BF
    · have h3i : ¬ 3 < (RN : Int) := by omega
      have HPL : Hid (putL m ll x = onM x m :: ll) := hidM (by unfold putL; rw [HPR.out]; exact if_neg (by rw [LNX.out]; exact h3))
      go_upto_region 10 with fail
      clear d0 d1 f0
      have HRz := (Bq.block (w.heap.size + 1) (by omega)).trans HR0
      obtain ⟨hsZ, AZ⟩ := two_set (.slice (some ⟨E4z, 0, none⟩) 0 0) (.slice a4 RN c4) HRz
      have r0 : wq.cell? ⟨w.heap.size + 1, 0, none⟩ = some (.slice none 0 0) := by rw [cell_of_row wq _ _ _ _ (0, 0) HRz]; rfl
      have r1 : wq.cell? ⟨w.heap.size + 1, 1, none⟩ = some (.slice none 0 0) := by rw [cell_of_row wq _ _ _ _ (0, 0) HRz]; rfl
      have rf : ∀ j, wq.frozen? ⟨w.heap.size + 1, j, none⟩ = false := fun j => frozen_of_row _ _ _ _ _ HRz
      have d0 : wq.cell? ⟨D, 0, none⟩ = some (.slice (some ⟨E4z, 0, none⟩) 0 0) := by rw [cell_of_row wq _ _ _ _ (0, 0) HDc]; rfl
      have d1 : wq.cell? ⟨D, 1, none⟩ = some (.slice a4 RN c4) := by rw [cell_of_row wq _ _ _ _ (0, 0) HDc]; rfl
      have OF := hidM (own_far Oq.out HRz (by decide) hsZ)
      have NF := hidM (own_far Nq.out HRz (by decide) hsZ)
      have EF := hidM (Eq5.out.far HRz (by decide) hsZ)
      have BF : Below w.heap.size w ((wq.setCell ⟨w.heap.size + 1, 0, none⟩ (.slice (some ⟨E4z, 0, none⟩) 0 0)).setCell ⟨w.heap.size + 1, 1, none⟩ (.slice a4 RN c4)) := ((bO.trans (Bq.mono bO.size)).setCell (by simp) _).setCell (by simp) _
      clear hsZ
      go_wp2_with fail
      refine bodyPost_ret (seen_resultS rfl _ _ (w.heap.size + 1) _ _ rfl AZ) rfl ?_
      exact put_done HPM.out HPL.out rfl (EntRow.of_own' OF.out) (EF.out.row (by rw [LNX2]; exact NF.out)) BF
  · have HPM : Hid (putM m x = onM x m) := if_neg (by rw [HY.out]; exact h8)
    have HPR : Hid (putR m ll x = ll) := if_neg (by rw [HY.out]; exact h8)
    have h8i : ¬ 8 ≤ (ON : Int) := by omega
    by_cases h3 : 3 < ll.length
    · have h3i : 3 < (ll.length : Int) := by omega
      have ASX := hidM hAl
      obtain ⟨g, hga⟩ : ∃ g, ra = some ⟨g, 0, none⟩ := by
        rcases own_shape N3.out with ⟨hz, _⟩ | ⟨_, g, gc, hg6⟩
        · exact absurd hz (by omega)
        · injection hg6 with h1 _ _
          exact ⟨g, h1⟩
      subst hga
      obtain ⟨I2, HI2⟩ : ∃ I2, Hid (I2 + 2 = ll.length) := ⟨ll.length - 2, by show _ = _; omega⟩
      obtain ⟨I1, HI1⟩ : ∃ I1, Hid (I1 + 1 = ll.length) := ⟨ll.length - 1, by show _ = _; omega⟩
      have hI2 : I2 < ll.length := by have := HI2.out; omega
      have hI1 : I1 < ll.length := by have := HI1.out; omega
      have eI2 : (ll.length : Int) - 2 = (I2 : Int) := by have := HI2.out; omega
      have eI1 : (ll.length : Int) - 1 = (I1 : Int) := by have := HI1.out; omega
      have eW2 : IntKind.i64.wrap (I2 : Int) = (I2 : Int) := i64_wrap_in _ (by omega)
      have hI2i : (I2 : Int) < (ll.length : Int) := by omega
      have eW1 : IntKind.i64.wrap (I1 : Int) = (I1 : Int) := i64_wrap_in _ (by omega)
      have hI1i : (I1 : Int) < (ll.length : Int) := by omega
      have HLn := hidM (Eq.refl ll.length)
      obtain ⟨x1, a1, ox1⟩ := E3.out I2 (by have := HLn.out; omega)
      obtain ⟨x2, a2, ox2⟩ := E3.out I1 (by have := HLn.out; omega)
      have cx1 : Hid (w3.cell? ⟨g, I2, none⟩ = some x1) := hidM (by rw [N3.out.cellAt _ (by omega)]; exact a1)
      have cx2 : Hid (w3.cell? ⟨g, I1, none⟩ = some x2) := hidM (by rw [N3.out.cellAt _ (by omega)]; exact a2)
      have hgW := (N3.out.lt g rfl).2
      have hcap := own_room N3.out
      have HAs1 := ASX.out I2 (by have := HLn.out; omega)
      have HAs2 := ASX.out I1 (by have := HLn.out; omega)
      have hz1 := flat_at (ll := ll) (i := I2) (by have := HLn.out; omega)
      have hz2 := flat_at (ll := ll) (i := I1) (by have := HLn.out; omega)
      have HLast : Hid (lastR ll = ll.take I2 ++ [canon (ll.getD I2 [] ++ ll.getD I1 [])]) := hidM (by
        have h1 := HLn.out
        have h2 := HI2.out
        have h3 := HI1.out
        unfold lastR
        rw [if_pos (by omega), show ll.length - 2 = I2 by omega, show ll.length - 1 = I1 by omega])
      obtain ⟨p1, s1, hx1⟩ := (EntRow.of_own' ox1).slice
      obtain ⟨p2, s2, hx2⟩ := (EntRow.of_own' ox2).slice
      have HMr : Hid (∀ W, Below w3.heap.size w3 W → Calls Try.prog 58 #[x1, x2] W fun e w' => ∃ v', e = .returned v' ∧ w'.ownsRow W.heap.size 35 2 v' (canon (ll.getD I2 [] ++ ll.getD I1 [])).length (ecells (canon (ll.getD I2 [] ++ ll.getD I1 []))) ∧ Below W.heap.size W w') := fun W bW => specMerge _ _ x1 x2 W (by omega) HAs1 HAs2 ((EntRow.of_own' ox1).below bW) ((EntRow.of_own' ox2).below bW)
      generalize canon (ll.getD I2 [] ++ ll.getD I1 []) = LM at *
      subst hx1 hx2
      clear ox1 ox2 a1 a2 HAs1 HAs2 HAR hz1 hz2
      generalize (ll.getD I2 []).length = n1 at *
      generalize (ll.getD I1 []).length = n2 at *
      go_upto_region 8 with fail
      have HD8 : Hid (∀ W, Below w3.heap.size w3 W → W.cell? ⟨D, 1, none⟩ = some (.slice (some ⟨g, 0, none⟩) ll.length rc) ∧ W.cell? ⟨g, I2, none⟩ = some (.slice p1 n1 s1) ∧ W.cell? ⟨g, I1, none⟩ = some (.slice p2 n2 s2)) := fun W bW => ⟨(bW.cell (p := ⟨D, 1, none⟩) (Array.getElem?_eq_some_iff.1 HD3).1).trans d1, (bW.cell (p := ⟨g, I2, none⟩) hgW).trans cx1.out, (bW.cell (p := ⟨g, I1, none⟩) hgW).trans cx2.out⟩
      clear d0 d1 f0 cx1 cx2
      refine wp_region_held_drew (S := fun W => Below w3.heap.size w3 W) (by kernel_rfl) (Below.refl _ _).drew (fun h0 => ?_)
      refine wpAnyH_take (i := 0) (v := ?_) rfl (by kernel_rfl) (by kernel_rfl) (by kernel_rfl) (fun _ _ _ h => h) (Or.inl ⟨by rfl, fun W hW => ?_⟩) h0 ?_
      rotate_left
      · clear hW
        go_simp
        try with_reducible rfl
      simp only [Act.put, List.getElem_toArray, List.getElem_cons_zero, List.getElem_cons_succ, List.setIfInBounds_toArray, List.set_cons_zero, List.set_cons_succ]
      refine wpAnyH_take (i := 1) (v := .slice (some ⟨g, 0, none⟩) ll.length rc) rfl (by kernel_rfl) (by kernel_rfl) (by kernel_rfl) (fun _ _ _ h => h) (Or.inl ⟨by rfl, fun W hW => ?_⟩) h0 ?_
      · have q0 := (HD8.out W hW).1
        go_simp
      simp only [Act.put, List.getElem_toArray, List.getElem_cons_zero, List.getElem_cons_succ, List.setIfInBounds_toArray, List.set_cons_zero, List.set_cons_succ]
      refine wpAnyH_take (i := 2) (v := ?_) rfl (by kernel_rfl) (by kernel_rfl) (by kernel_rfl) (fun _ _ _ h => h) (Or.inl ⟨by rfl, fun W hW => ?_⟩) h0 ?_
      rotate_left
      · clear hW
        go_simp
        try with_reducible rfl
      simp only [Act.put, List.getElem_toArray, List.getElem_cons_zero, List.getElem_cons_succ, List.setIfInBounds_toArray, List.set_cons_zero, List.set_cons_succ]
      refine wpAnyH_take (i := 3) (v := ?_) rfl (by kernel_rfl) (by kernel_rfl) (by kernel_rfl) (fun _ _ _ h => h) (Or.inl ⟨by rfl, fun W hW => ?_⟩) h0 ?_
      rotate_left
      · clear hW
        go_simp
        try with_reducible rfl
      simp only [Act.put, List.getElem_toArray, List.getElem_cons_zero, List.getElem_cons_succ, List.setIfInBounds_toArray, List.set_cons_zero, List.set_cons_succ]
      refine wpAnyH_take (i := 4) (v := .pointer (some ⟨g, I2, none⟩)) rfl (by kernel_rfl) (by kernel_rfl) (by kernel_rfl) (fun _ _ _ h => h) (Or.inl ⟨by rfl, fun W hW => ?_⟩) h0 ?_
      · clear hW
        go_simp
      simp only [Act.put, List.getElem_toArray, List.getElem_cons_zero, List.getElem_cons_succ, List.setIfInBounds_toArray, List.set_cons_zero, List.set_cons_succ]
      refine wpAnyH_take (i := 5) (v := .slice p1 n1 s1) rfl (by kernel_rfl) (by kernel_rfl) (by kernel_rfl) (fun _ _ _ h => h) (Or.inl ⟨by rfl, fun W hW => ?_⟩) h0 ?_
      · have q0 := (HD8.out W hW).2.1
        go_simp
      simp only [Act.put, List.getElem_toArray, List.getElem_cons_zero, List.getElem_cons_succ, List.setIfInBounds_toArray, List.set_cons_zero, List.set_cons_succ]
      refine wpAnyH_take (i := 6) (v := ?_) rfl (by kernel_rfl) (by kernel_rfl) (by kernel_rfl) (fun _ _ _ h => h) (Or.inl ⟨by rfl, fun W hW => ?_⟩) h0 ?_
      rotate_left
      · clear hW
        go_simp
        try with_reducible rfl
      simp only [Act.put, List.getElem_toArray, List.getElem_cons_zero, List.getElem_cons_succ, List.setIfInBounds_toArray, List.set_cons_zero, List.set_cons_succ]
      refine wpAnyH_take (i := 7) (v := .slice (some ⟨g, 0, none⟩) ll.length rc) rfl (by kernel_rfl) (by kernel_rfl) (by kernel_rfl) (fun _ _ _ h => h) (Or.inl ⟨by rfl, fun W hW => ?_⟩) h0 ?_
      · have q0 := (HD8.out W hW).1
        go_simp
      simp only [Act.put, List.getElem_toArray, List.getElem_cons_zero, List.getElem_cons_succ, List.setIfInBounds_toArray, List.set_cons_zero, List.set_cons_succ]
      refine wpAnyH_take (i := 8) (v := ?_) rfl (by kernel_rfl) (by kernel_rfl) (by kernel_rfl) (fun _ _ _ h => h) (Or.inl ⟨by rfl, fun W hW => ?_⟩) h0 ?_
      rotate_left
      · clear hW
        go_simp
        try with_reducible rfl
      simp only [Act.put, List.getElem_toArray, List.getElem_cons_zero, List.getElem_cons_succ, List.setIfInBounds_toArray, List.set_cons_zero, List.set_cons_succ]
      refine wpAnyH_take (i := 9) (v := ?_) rfl (by kernel_rfl) (by kernel_rfl) (by kernel_rfl) (fun _ _ _ h => h) (Or.inl ⟨by rfl, fun W hW => ?_⟩) h0 ?_
      rotate_left
      · clear hW
        go_simp
        try with_reducible rfl
      simp only [Act.put, List.getElem_toArray, List.getElem_cons_zero, List.getElem_cons_succ, List.setIfInBounds_toArray, List.set_cons_zero, List.set_cons_succ]
      refine wpAnyH_take (i := 10) (v := .pointer (some ⟨g, I1, none⟩)) rfl (by kernel_rfl) (by kernel_rfl) (by kernel_rfl) (fun _ _ _ h => h) (Or.inl ⟨by rfl, fun W hW => ?_⟩) h0 ?_
      · clear hW
        go_simp
      simp only [Act.put, List.getElem_toArray, List.getElem_cons_zero, List.getElem_cons_succ, List.setIfInBounds_toArray, List.set_cons_zero, List.set_cons_succ]
      refine wpAnyH_take (i := 11) (v := .slice p2 n2 s2) rfl (by kernel_rfl) (by kernel_rfl) (by kernel_rfl) (fun _ _ _ h => h) (Or.inl ⟨by rfl, fun W hW => ?_⟩) h0 ?_
      · have q0 := (HD8.out W hW).2.2
        go_simp
      simp only [Act.put, List.getElem_toArray, List.getElem_cons_zero, List.getElem_cons_succ, List.setIfInBounds_toArray, List.set_cons_zero, List.set_cons_succ]
      refine wpAnyH_ready (rs := [12]) (by kernel_rfl) (by simp) (AllReadyH.cons rfl (fun K hK => ?_) AllReadyH.nil)
      go_simp
      refine (HMr.out _ h0).mono ?_
      rintro e w5 ⟨v5, rfl, o5, b5⟩
      have b5z : Below w3.heap.size w3 w5 := h0.trans (b5.mono h0.size)
      refine hK.out _ _ b5z (fun h1 => ?_)
      clear hK K h1
      obtain ⟨la, lc, hle5⟩ := (EntRow.of_own' o5).slice
      subst hle5
      refine wpAnyH_take (i := 13) (v := ?_) rfl (by kernel_rfl) (by kernel_rfl) (by kernel_rfl) (fun _ _ _ h => h) (Or.inl ⟨by rfl, fun W hW => ?_⟩) b5z ?_
      rotate_left
      · clear hW
        go_simp
        try with_reducible rfl
      simp only [Act.put, List.getElem_toArray, List.getElem_cons_zero, List.getElem_cons_succ, List.setIfInBounds_toArray, List.set_cons_zero, List.set_cons_succ]
      refine wpAnyH_done (by kernel_rfl) ?_ _
      have HD5 := (b5z.block D (Array.getElem?_eq_some_iff.1 HD3).1).trans HD3
      have B5 : Below O.heap.size O w5 := B3.trans (b5z.mono B3.size)
      have O5 := own_below O3.out b5z
      have N5 := own_below N3.out b5z
      have E5 := OEl.below E3.out b5z
      have hg5 : ∃ cur f, w5.heap[g]? = some (.cells cur 24 f) := own_ty N5 rfl
      have o5w := own_wide1 o5 (show O.heap.size ≤ _ from (B3.trans (h0.mono B3.size)).size)
      have hvl : ll.length ≤ vs1.length := by have := N5.1; have := HLn.out; omega
      clear HD8 HMr o5 b5
      generalize hLN : LM.length = LN at *
      have HLN := hidM hLN
      clear hLN eW2 eW1
      have d1 : w5.cell? ⟨D, 1, none⟩ = some (.slice (some ⟨g, 0, none⟩) ll.length rc) := by rw [cell_of_row w5 _ _ _ _ (0, 0) HD5]; rfl
      have NF5 := own_front N5 (k := I2) (by omega)
      have hgO : O.heap.size ≤ g := (N5.lt g rfl).1
      obtain ⟨curg, fg, hgo⟩ := hg5
      have hDg : D ≠ g := fun e => by
        rw [e, hgo] at HD5
        injection HD5 with HD5
        injection HD5 with _ h9
        exact absurd h9 (by decide)
      have hEl := OEl.last E5 hvl (n := I2) (by have := HLn.out; omega) (by rw [HLN.out]; exact o5w)
      have hD5s : D < w5.heap.size := (Array.getElem?_eq_some_iff.1 HD5).1
      have HO5 := hidM O5
      have HEl := hidM hEl
      have hcap2 : I2 ≤ rc := by omega
      clear O5 hEl E5 N5 o5w hcap
      go_wp2_with (at_builtin; refine wpList_append_newAt _ rfl _ _ 25 rfl O.heap.size 24 (.slice none 0 0) 24 Try.underlying25 Try.infoRw rfl _ _ _ rfl NF5 #[.slice la LN lc] 1 rfl rfl (by intro u hu; simp at hu; rw [hu]; rfl) (by omega) (by unfold maxLen; omega) B5.size ?_)
      intro v7 w7 n7 g7 _
      have hs7 : ∀ k, k < w5.heap.size → k ≠ g → w7.heap[k]? = w5.heap[k]? := fun k h1 h2 => g7.block k h1 (fun e => h2 (by injection e))
      have HD7 : w7.heap[D]? = some (.cells #[(.slice va ON vc), .slice (some ⟨g, 0, none⟩) ll.length rc] 27 (0, 0)) := (hs7 D hD5s hDg).trans HD5
      have O7 := own_far (w' := w7) HO5.out hgo (by decide) hs7
      have E7 := HEl.out.far (w' := w7) hgo (by decide) hs7
      have B7 : Below O.heap.size O w7 := B5.grown g7 B5.size (fun k hk => by cases hk; exact hgO)
      obtain ⟨a7, c7, hv7⟩ : ∃ a7 c7, v7 = .slice a7 (I2 + 1) c7 := by
        rcases n7.2 with ⟨h, h2⟩ | ⟨gg, cap, cur, h, _⟩
        · exact absurd h2 (by omega)
        · exact ⟨_, _, h⟩
      subst hv7
      clear NF5 g7 hs7 HO5 HEl hgo d1 HD5 B5
      obtain ⟨w8, hw8⟩ : ∃ w8, w8 = w7.setCell ⟨D, 1, none⟩ (.slice a7 (I2 + 1) c7) := ⟨_, rfl⟩
      have d1 : w7.cell? ⟨D, 1, none⟩ = some (.slice (some ⟨g, 0, none⟩) ll.length rc) := by rw [cell_of_row w7 _ _ _ _ (0, 0) HD7]; rfl
      have f1 : w7.frozen? ⟨D, 1, none⟩ = false := frozen_of_row _ _ _ _ _ HD7
      have hs8 : ∀ k, k < w7.heap.size → k ≠ D → w8.heap[k]? = w7.heap[k]? := fun k _ hk => by rw [hw8]; exact Below.heap_setCell _ _ _ _ hk
      have HD8 : w8.heap[D]? = some (.cells #[(.slice va ON vc), .slice a7 (I2 + 1) c7] 27 (0, 0)) := by rw [hw8]; exact heap_setCell_same w7 D 1 _ _ _ HD7
      have B8 : Below O.heap.size O w8 := by rw [hw8]; exact B7.setCell hD1 _
      have O8 := hidM (own_far (w' := w8) O7 HD7 (by decide) hs8)
      have N8 := hidM (own_far (w' := w8) n7 HD7 (by decide) hs8)
      have E8 := hidM (E7.far (w' := w8) HD7 (by decide) hs8)
      clear O7 E7 n7 hs8
      go_upto_region 10 with fail
      rw [← hw8]
      clear hw8 d1 f1 HD7 B7
      have HRz := (B8.block (w.heap.size + 1) (by omega)).trans HR0
      obtain ⟨hsZ, AZ⟩ := two_set (.slice va ON vc) (.slice a7 (I2 + 1) c7) HRz
      have r0 : w8.cell? ⟨w.heap.size + 1, 0, none⟩ = some (.slice none 0 0) := by rw [cell_of_row w8 _ _ _ _ (0, 0) HRz]; rfl
      have r1 : w8.cell? ⟨w.heap.size + 1, 1, none⟩ = some (.slice none 0 0) := by rw [cell_of_row w8 _ _ _ _ (0, 0) HRz]; rfl
      have rf : ∀ j, w8.frozen? ⟨w.heap.size + 1, j, none⟩ = false := fun j => frozen_of_row _ _ _ _ _ HRz
      have d0 : w8.cell? ⟨D, 0, none⟩ = some (.slice va ON vc) := by rw [cell_of_row w8 _ _ _ _ (0, 0) HD8]; rfl
      have d1 : w8.cell? ⟨D, 1, none⟩ = some (.slice a7 (I2 + 1) c7) := by rw [cell_of_row w8 _ _ _ _ (0, 0) HD8]; rfl
      have OF := hidM (own_far O8.out HRz (by decide) hsZ)
      have NF := hidM (own_far N8.out HRz (by decide) hsZ)
      have EF := hidM (E8.out.far HRz (by decide) hsZ)
      have BF : Below w.heap.size w ((w8.setCell ⟨w.heap.size + 1, 0, none⟩ (.slice va ON vc)).setCell ⟨w.heap.size + 1, 1, none⟩ (.slice a7 (I2 + 1) c7)) := ((bO.trans (B8.mono bO.size)).setCell (by simp) _).setCell (by simp) _
      clear hsZ
      go_wp2_with fail
      refine bodyPost_ret (seen_resultS rfl _ _ (w.heap.size + 1) _ _ rfl AZ) rfl ?_
      have HPL : putL m ll x = ll.take I2 ++ [LM] := by unfold putL; rw [HPR.out]; exact HLast.out
      have hLL : (ll.take I2 ++ [LM]).length = I2 + 1 := by rw [List.length_append, List.length_take]; have := HLn.out; simp; omega
      exact put_done HPM.out HPL rfl (EntRow.of_own' (by rw [HY.out]; exact OF.out)) (EF.out.row (by rw [hLL]; exact NF.out)) BF
    · have h3i : ¬ 3 < (ll.length : Int) := by omega
      have HPL : Hid (putL m ll x = ll) := hidM (by unfold putL; rw [HPR.out]; exact if_neg h3)
      go_upto_region 10 with fail
      clear d0 d1 f0
      have HRz := (B3.block (w.heap.size + 1) (by omega)).trans HR0
      obtain ⟨hsZ, AZ⟩ := two_set (.slice va ON vc) (.slice ra ll.length rc) HRz
      have r0 : w3.cell? ⟨w.heap.size + 1, 0, none⟩ = some (.slice none 0 0) := by rw [cell_of_row w3 _ _ _ _ (0, 0) HRz]; rfl
      have r1 : w3.cell? ⟨w.heap.size + 1, 1, none⟩ = some (.slice none 0 0) := by rw [cell_of_row w3 _ _ _ _ (0, 0) HRz]; rfl
      have rf : ∀ j, w3.frozen? ⟨w.heap.size + 1, j, none⟩ = false := fun j => frozen_of_row _ _ _ _ _ HRz
      have d0 : w3.cell? ⟨D, 0, none⟩ = some (.slice va ON vc) := by rw [cell_of_row w3 _ _ _ _ (0, 0) HD3]; rfl
      have d1 : w3.cell? ⟨D, 1, none⟩ = some (.slice ra ll.length rc) := by rw [cell_of_row w3 _ _ _ _ (0, 0) HD3]; rfl
      have OF := hidM (own_far O3.out HRz (by decide) hsZ)
      have NF := hidM (own_far N3.out HRz (by decide) hsZ)
      have EF := hidM (E3.out.far HRz (by decide) hsZ)
      have BF : Below w.heap.size w ((w3.setCell ⟨w.heap.size + 1, 0, none⟩ (.slice va ON vc)).setCell ⟨w.heap.size + 1, 1, none⟩ (.slice ra ll.length rc)) := ((bO.trans (B3.mono bO.size)).setCell (by simp) _).setCell (by simp) _
      clear hsZ
      go_wp2_with fail
      refine bodyPost_ret (seen_resultS rfl _ _ (w.heap.size + 1) _ _ rfl AZ) rfl ?_
      exact put_done HPM.out HPL.out rfl (EntRow.of_own' (by rw [HY.out]; exact OF.out)) (EF.out.row NF.out) BF
end Go.Proofs.Ytocgdbinfmdkcaa

namespace Go.Proofs.Ytocgdbinfmdkcaa
open Go.RowKit
set_option linter.unusedVariables false
set_option linter.unusedSimpArgs false

/-- A row of marks does not lie in a block of two empty rows. -/
theorem EntRow.off {W W' : World} {D : Nat} {v : Value} {l : List EV} {t : TypeId} (h : EntRow W v l) (hD : W.heap[D]? = some (.cells #[.slice none 0 0, .slice none 0 0] t (0, 0))) (hz : W.heap.size ≤ W'.heap.size) (hb : ∀ k, k < W.heap.size → k ≠ D → W'.heap[k]? = W.heap[k]?) : EntRow W' v l := by
  rcases h with h | ⟨h0, g, off, cap, h1, h2, h3⟩
  · exact .inl h
  · have hg : g ≠ D := fun e => by
      subst e
      have c := (h3 0 h0).1
      rw [cell_of_row W g _ _ t (0, 0) hD] at c
      rcases off with _ | _ | off
      · cases c
      · cases c
      · simp at c
    exact .inr ⟨h0, g, off, cap, h1, by omega, fun i hi => ⟨(World.cell?_of_block (w := W) (a := ⟨g, off + i * 2, none⟩) (hb g h2 hg)).trans (h3 i hi).1, (World.cell?_of_block (w := W) (a := ⟨g, off + i * 2 + 1, none⟩) (hb g h2 hg)).trans (h3 i hi).2⟩⟩

theorem RunRow.off {W W' : World} {D : Nat} {v : Value} {ll : List (List EV)} {t : TypeId} (h : RunRow W v ll) (hf : ∀ i, i < ll.length → 0 < (ll.getD i []).length) (hD : W.heap[D]? = some (.cells #[.slice none 0 0, .slice none 0 0] t (0, 0))) (hz : W.heap.size ≤ W'.heap.size) (hb : ∀ k, k < W.heap.size → k ≠ D → W'.heap[k]? = W.heap[k]?) : RunRow W' v ll := by
  rcases h with h | ⟨h0, g, off, cap, h1, h2, h3⟩
  · exact .inl h
  · have hg : g ≠ D := fun e => by
      subst e
      obtain ⟨x, c, hx⟩ := h3 0 h0
      have hn := hf 0 h0
      rw [cell_of_row W g _ _ t (0, 0) hD] at c
      have hxe : x = .slice none 0 0 := by
        rcases off with _ | _ | off
        · injection c with c; exact c.symm
        · injection c with c; exact c.symm
        · simp at c
      subst hxe
      rcases hx with ⟨e, _⟩ | ⟨_, g', off', cap', e, _⟩
      · rw [e] at hn; simp at hn
      · cases e
    refine .inr ⟨h0, g, off, cap, h1, by omega, fun i hi => ?_⟩
    obtain ⟨x, c, hx⟩ := h3 i hi
    exact ⟨x, (World.cell?_of_block (w := W) (a := ⟨g, off + i, none⟩) (hb g h2 hg)).trans c, hx.off hD hz hb⟩

theorem RunRow.front {w : World} {g off n c : Nat} {ll : List (List EV)} (hg : g < w.heap.size) (h : ∀ i, i < ll.length → ∃ x, w.cell? ⟨g, off + i, none⟩ = some x ∧ EntRow w x (ll.getD i [])) (hn : n ≤ ll.length) (hc : n ≤ c) : RunRow w (.slice (some ⟨g, off, none⟩) n c) (ll.take n) := by
  have hl : (ll.take n).length = n := by rw [List.length_take]; omega
  by_cases h0 : n = 0
  · subst h0
    exact .inl ⟨List.eq_nil_of_length_eq_zero hl, _, _, rfl⟩
  · refine .inr ⟨by omega, g, off, c - n, by rw [hl, Nat.add_sub_cancel' hc], hg, fun i hi => ?_⟩
    rw [hl] at hi
    obtain ⟨x, a, b⟩ := h i (by omega)
    refine ⟨x, a, ?_⟩
    rw [List.getD_eq_getElem?_getD, List.getElem?_take_of_lt hi, ← List.getD_eq_getElem?_getD]
    exact b

theorem run_two {W : World} {b : Nat} {x1 x2 : Value} {l1 l2 : List EV} (hb : BAt W b [x1, x2]) (h1 : EntRow W x1 l1) (h2 : EntRow W x2 l2) : RunRow W (.slice (some ⟨b, 0, none⟩) 2 2) [l1, l2] := .inr ⟨by simp, b, 0, 0, rfl, hb.2.2, fun i hi => by
  match i, hi with
  | 0, _ => exact ⟨x1, hb.1 0 _ rfl, h1⟩
  | 1, _ => exact ⟨x2, hb.1 1 _ rfl, h2⟩⟩

set_option maxRecDepth 100000 in
set_option maxHeartbeats 4000000 in
theorem implWithMark (x : EV) (m : List EV) (ll : List (List EV)) (p q : Value) (w : World) (hk : sokS m ll = true) (hp : EntRow w p m) (hq : RunRow w q ll) :
    Calls Try.prog 32 #[.agg #[p, q], .agg #[.string x.s, .int .i64 x.k]] w fun e w' => ∃ ao ac bo bc, e = .returned (.agg #[.slice ao (putM m x).length ac, .slice bo (putL m ll x).length bc]) ∧ EntRow w' (.slice ao (putM m x).length ac) (putM m x) ∧ RunRow w' (.slice bo (putL m ll x).length bc) (putL m ll x) ∧ Below w.heap.size w w' := by
  obtain ⟨hm8, hl6, h400⟩ := sokS_sz hk
  have HFull := hidM (lastR_full (putR_full (m := m) (x := x) (sokS_full hk)))
  have HFullR := hidM (putR_full (m := m) (x := x) (sokS_full hk))
  have hon := on_len x m
  have hRl : (putR m ll x).length ≤ 7 ∧ (putR m ll x).flatten.length ≤ 409 := by
    rw [List.length_append] at h400
    unfold putR
    split
    · rw [List.length_cons, List.flatten_cons, List.length_append]; omega
    · omega
  obtain ⟨O, hO⟩ : ∃ O, O = ((w.alloc (.cells #[p, q] 27)).alloc (.cells #[.string x.s, .int .i64 x.k] 35)).alloc (.cells #[.slice none 0 0, .slice none 0 0] 27) := ⟨_, rfl⟩
  have bO : Below w.heap.size w O := by rw [hO]; exact (((Below.refl _ _).alloc (Nat.le_refl _) _).alloc (by simp) _).alloc (by simp; omega) _
  have hzO : w.heap.size + 3 = O.heap.size := by rw [hO]; simp
  have A0 : BAt O w.heap.size [p, q] := by rw [hO]; exact ((BAt.new w #[p, q] _).alloc _).alloc _
  have A1 : BAt O (w.heap.size + 1) [.string x.s, .int .i64 x.k] := by
    rw [hO]
    have := (BAt.new (w.alloc (.cells #[p, q] 27)) #[.string x.s, .int .i64 x.k] 35).alloc (.cells #[.slice none 0 0, .slice none 0 0] 27)
    rwa [World.size_alloc] at this
  have HD0 : O.heap[w.heap.size + 2]? = some (.cells #[.slice none 0 0, .slice none 0 0] 27 (0, 0)) := by
    rw [hO]
    have := heap_alloc_new ((w.alloc (.cells #[p, q] 27)).alloc (.cells #[.string x.s, .int .i64 x.k] 35)) (.cells #[.slice none 0 0, .slice none 0 0] 27)
    rwa [World.size_alloc, World.size_alloc] at this
  have HW : Hid (∀ W, Below O.heap.size O W → Below w.heap.size w W ∧ BAt W w.heap.size [p, q] ∧ BAt W (w.heap.size + 1) [.string x.s, .int .i64 x.k] ∧ W.heap[w.heap.size + 2]? = some (.cells #[.slice none 0 0, .slice none 0 0] 27 (0, 0))) := fun W hW => ⟨bO.trans (hW.mono bO.size), A0.below hW, A1.below hW, (hW.block _ (by omega)).trans HD0⟩
  have hB2 : w.heap.size + 2 < O.heap.size := by omega
  have HP := hidM hp
  have HQ := hidM hq
  obtain ⟨pa, pc, hpe⟩ := hp.slice
  obtain ⟨qa, qc, hqe⟩ := hq.slice
  subst hpe hqe
  clear hp hq A0 A1 HD0 hzO
  go_enter Try.func32, Try.ntmps32
  go_upto_region 1 with fail
  rw [← hO]
  clear hO
  refine wp_region_held_drew (S := fun W => Below O.heap.size O W) (by kernel_rfl) (Below.refl _ _).drew (fun h0 => ?_)
  refine wpAnyH_take (i := 0) (v := .agg #[.string x.s, .int .i64 x.k]) rfl (by kernel_rfl) (by kernel_rfl) (by kernel_rfl) (fun _ _ _ h => h) (Or.inl ⟨by rfl, fun W hW => ?_⟩) h0 ?_
  · have q0 := (HW.out W hW).2.2.1.1 0 _ rfl
    have q1 := (HW.out W hW).2.2.1.1 1 _ rfl
    go_simp
  simp only [Act.put, List.getElem_toArray, List.getElem_cons_zero, List.getElem_cons_succ, List.setIfInBounds_toArray, List.set_cons_zero, List.set_cons_succ]
  refine wpAnyH_take (i := 2) (v := ?_) rfl (by kernel_rfl) (by kernel_rfl) (by kernel_rfl) (fun _ _ _ h => h) (Or.inl ⟨by rfl, fun W hW => ?_⟩) h0 ?_
  rotate_left
  · clear hW
    go_simp
    try with_reducible rfl
  simp only [Act.put, List.getElem_toArray, List.getElem_cons_zero, List.getElem_cons_succ, List.setIfInBounds_toArray, List.set_cons_zero, List.set_cons_succ]
  refine wpAnyH_take (i := 3) (v := .slice pa m.length pc) rfl (by kernel_rfl) (by kernel_rfl) (by kernel_rfl) (fun _ _ _ h => h) (Or.inl ⟨by rfl, fun W hW => ?_⟩) h0 ?_
  · have q0 := (HW.out W hW).2.1.1 0 _ rfl
    go_simp
  simp only [Act.put, List.getElem_toArray, List.getElem_cons_zero, List.getElem_cons_succ, List.setIfInBounds_toArray, List.set_cons_zero, List.set_cons_succ]
  refine wpAnyH_take (i := 6) (v := ?_) rfl (by kernel_rfl) (by kernel_rfl) (by kernel_rfl) (fun _ _ _ h => h) (Or.inl ⟨by rfl, fun W hW => ?_⟩) h0 ?_
  rotate_left
  · clear hW
    go_simp
    try with_reducible rfl
  simp only [Act.put, List.getElem_toArray, List.getElem_cons_zero, List.getElem_cons_succ, List.setIfInBounds_toArray, List.set_cons_zero, List.set_cons_succ]
  refine wpAnyH_take (i := 7) (v := .slice qa ll.length qc) rfl (by kernel_rfl) (by kernel_rfl) (by kernel_rfl) (fun _ _ _ h => h) (Or.inl ⟨by rfl, fun W hW => ?_⟩) h0 ?_
  · have q0 := (HW.out W hW).2.1.1 1 _ rfl
    go_simp
  simp only [Act.put, List.getElem_toArray, List.getElem_cons_zero, List.getElem_cons_succ, List.setIfInBounds_toArray, List.set_cons_zero, List.set_cons_succ]
  refine wpAnyH_ready (rs := [1]) (by kernel_rfl) (by simp) (AllReadyH.cons rfl (fun K hK => ?_) AllReadyH.nil)
  go_simp
  have h1 := h0.alloc h0.size (.cells #[.string x.s, .int .i64 x.k] 35)
  refine hK.out _ _ h1 (fun _ => ?_)
  clear hK K
  refine wpAnyH_ready (rs := [4]) (by kernel_rfl) (by simp) (AllReadyH.cons rfl (fun K hK => ?_) AllReadyH.nil)
  go_simp
  have h2 := h1.alloc h1.size (.cells #[.slice (some ⟨O.heap.size, 0, none⟩) 1 1, .slice pa m.length pc] 24)
  refine hK.out _ _ h2 (fun _ => ?_)
  clear hK K
  refine wpAnyH_ready (rs := [5]) (by kernel_rfl) (by simp) (AllReadyH.cons rfl (fun K hK => ?_) AllReadyH.nil)
  go_simp
  obtain ⟨U, hU⟩ : ∃ U, U = (O.alloc (.cells #[.string x.s, .int .i64 x.k] 35)).alloc (.cells #[.slice (some ⟨O.heap.size, 0, none⟩) 1 1, .slice pa m.length pc] 24) := ⟨_, rfl⟩
  have bU : Below O.heap.size O U := by rw [hU]; exact ((Below.refl _ _).alloc (Nat.le_refl _) _).alloc (by simp) _
  have XU : EntRow U (.slice (some ⟨O.heap.size, 0, none⟩) 1 1) [x] := by
    rw [hU]
    have := EntRow.of_own' (l := [x]) (base := 0) (e := 35) (World.ownsRow_lit O #[.string x.s, .int .i64 x.k] 1 (Nat.zero_le _) (by decide) rfl)
    exact this.below ((Below.refl _ _).alloc (Nat.le_refl _) _)
  have AU : BAt U (O.heap.size + 1) [.slice (some ⟨O.heap.size, 0, none⟩) 1 1, .slice pa m.length pc] := by
    rw [hU]
    have := BAt.new (O.alloc (.cells #[.string x.s, .int .i64 x.k] 35)) #[.slice (some ⟨O.heap.size, 0, none⟩) 1 1, .slice pa m.length pc] 24
    rwa [World.size_alloc] at this
  have RU := run_two AU XU (HP.out.below (bO.trans (bU.mono bO.size)))
  have CM := hidM (implMerged [[x], m] _ U.drew (by simp) (by simp; omega) (RU.below (Below.refl _ _).drew))
  have HON : Hid (canon ([[x], m] : List (List EV)).flatten = onM x m) := hidM (by simp [onM])
  rw [HON.out] at CM
  rw [← hU]
  clear hU XU AU RU h1 h2 HON
  refine CM.out.mono ?_
  rintro e w2 ⟨v2, rfl, r2, b2⟩
  have B2 : Below O.heap.size O w2 := bU.trans (Below.mono (Below.trans (Below.refl _ _).drew b2) bU.size)
  refine hK.out _ _ B2 (fun _ => ?_)
  clear hK K CM
  obtain ⟨va, vc, hve⟩ := r2.slice
  subst hve
  generalize hY : (onM x m).length = ON at *
  have HY := hidM hY
  have R2 := hidM r2
  clear hY r2 b2 bU h0
  refine wpAnyH_take (i := 8) (v := ?_) rfl (by kernel_rfl) (by kernel_rfl) (by kernel_rfl) (fun _ _ _ h => h) (Or.inl ⟨by rfl, fun W hW => ?_⟩) B2 ?_
  rotate_left
  · clear hW
    go_simp
    try with_reducible rfl
  simp only [Act.put, List.getElem_toArray, List.getElem_cons_zero, List.getElem_cons_succ, List.setIfInBounds_toArray, List.set_cons_zero, List.set_cons_succ]
  refine wpAnyH_take (i := 9) (v := ?_) rfl (by kernel_rfl) (by kernel_rfl) (by kernel_rfl) (fun _ _ _ h => h) (Or.inl ⟨by rfl, fun W hW => ?_⟩) B2 ?_
  rotate_left
  · clear hW
    go_simp
    try with_reducible rfl
  simp only [Act.put, List.getElem_toArray, List.getElem_cons_zero, List.getElem_cons_succ, List.setIfInBounds_toArray, List.set_cons_zero, List.set_cons_succ]
  refine wpAnyH_done (by kernel_rfl) ?_ _
  have Q2 := hidM (HQ.out.below (bO.trans (B2.mono bO.size)))
  clear HQ HP
  by_cases h8 : 8 ≤ ON
  · have HPM : Hid (putM m x = []) := if_pos (by rw [HY.out]; exact h8)
    have HPR : Hid (putR m ll x = onM x m :: ll) := if_pos (by rw [HY.out]; exact h8)
    have h8i : 8 ≤ (ON : Int) := by omega
    obtain ⟨U3, hU3⟩ : ∃ U3, U3 = (w2.alloc (.cells #[.slice va ON vc] 24)).alloc (.cells #[.slice (some ⟨w2.heap.size, 0, none⟩) 1 1, .slice qa ll.length qc] 25) := ⟨_, rfl⟩
    have bU3 : Below w2.heap.size w2 U3 := by rw [hU3]; exact ((Below.refl _ _).alloc (Nat.le_refl _) _).alloc (by simp) _
    have A3 : BAt U3 w2.heap.size [.slice va ON vc] := by rw [hU3]; exact (BAt.new w2 #[.slice va ON vc] _).alloc _
    have A4 : BAt U3 (w2.heap.size + 1) [.slice (some ⟨w2.heap.size, 0, none⟩) 1 1, .slice qa ll.length qc] := by
      rw [hU3]
      have := BAt.new (w2.alloc (.cells #[.slice va ON vc] 24)) #[.slice (some ⟨w2.heap.size, 0, none⟩) 1 1, .slice qa ll.length qc] 25
      rwa [World.size_alloc] at this
    have CC3 := hidM (implConcatTwo _ _ (.slice (some ⟨w2.heap.size + 1, 0, none⟩) 2 2) [onM x m] ll U3 (w2.heap.size + 1) (by simp) (by omega) (RunRow.one A3 (R2.out.below bU3)) (Q2.out.below bU3) A4 rfl)
    clear A3 A4 Q2 R2
    go_wp2_with fail
    rw [← hU3]
    clear hU3
    refine CC3.out.mono ?_
    rintro e w4 ⟨v4, rfl, r4, b4⟩
    have B4 : Below O.heap.size O w4 := (B2.trans (bU3.mono B2.size)).trans (b4.mono (B2.trans (bU3.mono B2.size)).size)
    obtain ⟨RN, hRN⟩ : ∃ RN, RN = ([onM x m] ++ ll).length := ⟨_, rfl⟩
    have LNX := hidM hRN.symm
    have hRN7 : RN ≤ 7 := by rw [hRN, List.length_append]; simp; omega
    obtain ⟨a4, c4, hv4⟩ := r4.slice
    rw [← hRN] at hv4
    subst hv4
    have Q4 := hidM r4
    have E4 : Hid (EntRow w4 (.slice none 0 0) []) := .inl ⟨rfl, _, _, rfl⟩
    have HPR2 : Hid (putR m ll x = [onM x m] ++ ll) := HPR.out
    have hfl2 : ([onM x m] ++ ll).flatten.length ≤ 409 := by
      have h5 : ([onM x m] : List (List EV)).flatten.length = ON := by rw [← HY.out]; simp
      rw [List.flatten_append, List.length_append, h5]
      rw [List.length_append] at h400
      omega
    clear hRN r4 b4 CC3 B2 bU3
    have LNX2 := LNX.out
    generalize [onM x m] ++ ll = RR at *
    by_cases h3 : 3 < RN
    · have h3i : 3 < (RN : Int) := by omega
      have HRRz := hidM HPR2.out
      have HLn := hidM LNX2
      obtain ⟨g, off, hga, hg, hc, hcap⟩ : ∃ g off, a4 = some ⟨g, off, none⟩ ∧ g < w4.heap.size ∧ (∀ i, i < RR.length → ∃ y, w4.cell? ⟨g, off + i, none⟩ = some y ∧ EntRow w4 y (RR.getD i [])) ∧ RN ≤ c4 := by
        rcases Q4.out with ⟨h, _⟩ | ⟨h0, g, off, cap, hv, hg, hc⟩
        · have h1 := HLn.out
          have h2 := congrArg List.length h
          rw [List.length_nil] at h2
          omega
        · injection hv with h1 h2 h3
          exact ⟨g, off, h1, hg, hc, by omega⟩
      subst hga
      obtain ⟨I2, HI2⟩ : ∃ I2, Hid (I2 + 2 = RN) := ⟨RN - 2, by show _ = _; omega⟩
      obtain ⟨I1, HI1⟩ : ∃ I1, Hid (I1 + 1 = RN) := ⟨RN - 1, by show _ = _; omega⟩
      have hI2 : I2 < RN := by have := HI2.out; omega
      have hI1 : I1 < RN := by have := HI1.out; omega
      have eI2 : (RN : Int) - 2 = (I2 : Int) := by have := HI2.out; omega
      have eI1 : (RN : Int) - 1 = (I1 : Int) := by have := HI1.out; omega
      have eW2 : IntKind.i64.wrap (I2 : Int) = (I2 : Int) := i64_wrap_in _ (by omega)
      have hI2i : (I2 : Int) < (RN : Int) := by omega
      have eW1 : IntKind.i64.wrap (I1 : Int) = (I1 : Int) := i64_wrap_in _ (by omega)
      have hI1i : (I1 : Int) < (RN : Int) := by omega
      have hcap2 : I2 ≤ c4 := by omega
      obtain ⟨x1, cx1, ox1⟩ := hc I2 (by have := HLn.out; omega)
      obtain ⟨x2, cx2, ox2⟩ := hc I1 (by have := HLn.out; omega)
      have hz1 := flat_at (ll := RR) (i := I2) (by have := HLn.out; omega)
      have hz2 := flat_at (ll := RR) (i := I1) (by have := HLn.out; omega)
      have HFr : Hid (∀ W, Below w4.heap.size w4 W → RunRow W (.slice (some ⟨g, off, none⟩) I2 c4) (RR.take I2)) := fun W bW => (RunRow.front hg hc (by have := HLn.out; omega) hcap2).below bW
      have HLast : Hid (lastR RR = RR.take I2 ++ [canon (RR.getD I2 [] ++ RR.getD I1 [])]) := hidM (by
        have h1 := HLn.out
        have h2 := HI2.out
        have h3 := HI1.out
        unfold lastR
        rw [if_pos (by omega), show RR.length - 2 = I2 by omega, show RR.length - 1 = I1 by omega])
      have HTk : Hid ((RR.take I2).length = I2) := hidM (by rw [List.length_take]; have := HLn.out; omega)
      have HMr : Hid (∀ W b, Below w4.heap.size w4 W → BAt W b [x1, x2] → Calls Try.prog 38 #[.func (.func 39) #[] #[], .slice (some ⟨b, 0, none⟩) 2 2] W fun e w' => ∃ v', e = .returned v' ∧ EntRow w' v' (canon (RR.getD I2 [] ++ RR.getD I1 [])) ∧ Below W.heap.size W w') := fun W b bW hb => by
        have := implMerged [RR.getD I2 [], RR.getD I1 []] _ W (by simp) (by rw [show ([RR.getD I2 [], RR.getD I1 []] : List (List EV)).flatten = RR.getD I2 [] ++ RR.getD I1 [] by simp, List.length_append]; omega) (run_two hb (ox1.below bW) (ox2.below bW))
        rw [show ([RR.getD I2 [], RR.getD I1 []] : List (List EV)).flatten = RR.getD I2 [] ++ RR.getD I1 [] by simp] at this
        exact this
      obtain ⟨p1, s1, hx1⟩ := ox1.slice
      obtain ⟨p2, s2, hx2⟩ := ox2.slice
      generalize canon (RR.getD I2 [] ++ RR.getD I1 []) = LM at *
      subst hx1 hx2
      clear ox1 ox2 hz1 hz2 hc
      generalize (RR.getD I2 []).length = n1 at *
      generalize (RR.getD I1 []).length = n2 at *
      have HD8 : Hid (∀ W, Below w4.heap.size w4 W → W.cell? ⟨g, off + I2, none⟩ = some (.slice p1 n1 s1) ∧ W.cell? ⟨g, off + I1, none⟩ = some (.slice p2 n2 s2)) := fun W bW => ⟨(bW.cell (p := ⟨g, off + I2, none⟩) hg).trans cx1, (bW.cell (p := ⟨g, off + I1, none⟩) hg).trans cx2⟩
      clear cx1 cx2
      go_upto_region 6 with fail
      refine wp_region_held_drew (S := fun W => Below w4.heap.size w4 W) (by kernel_rfl) (Below.refl _ _).drew (fun h0 => ?_)
      refine wpAnyH_take (i := 0) (v := ?_) rfl (by kernel_rfl) (by kernel_rfl) (by kernel_rfl) (fun _ _ _ h => h) (Or.inl ⟨by rfl, fun W hW => ?_⟩) h0 ?_
      rotate_left
      · clear hW
        go_simp
        try with_reducible rfl
      simp only [Act.put, List.getElem_toArray, List.getElem_cons_zero, List.getElem_cons_succ, List.setIfInBounds_toArray, List.set_cons_zero, List.set_cons_succ]
      refine wpAnyH_take (i := 1) (v := ?_) rfl (by kernel_rfl) (by kernel_rfl) (by kernel_rfl) (fun _ _ _ h => h) (Or.inl ⟨by rfl, fun W hW => ?_⟩) h0 ?_
      rotate_left
      · clear hW
        go_simp
        try with_reducible rfl
      simp only [Act.put, List.getElem_toArray, List.getElem_cons_zero, List.getElem_cons_succ, List.setIfInBounds_toArray, List.set_cons_zero, List.set_cons_succ]
      refine wpAnyH_take (i := 2) (v := ?_) rfl (by kernel_rfl) (by kernel_rfl) (by kernel_rfl) (fun _ _ _ h => h) (Or.inl ⟨by rfl, fun W hW => ?_⟩) h0 ?_
      rotate_left
      · clear hW
        go_simp
        try with_reducible rfl
      simp only [Act.put, List.getElem_toArray, List.getElem_cons_zero, List.getElem_cons_succ, List.setIfInBounds_toArray, List.set_cons_zero, List.set_cons_succ]
      refine wpAnyH_take (i := 3) (v := .pointer (some ⟨g, off + I2, none⟩)) rfl (by kernel_rfl) (by kernel_rfl) (by kernel_rfl) (fun _ _ _ h => h) (Or.inl ⟨by rfl, fun W hW => ?_⟩) h0 ?_
      · clear hW
        go_simp
      simp only [Act.put, List.getElem_toArray, List.getElem_cons_zero, List.getElem_cons_succ, List.setIfInBounds_toArray, List.set_cons_zero, List.set_cons_succ]
      refine wpAnyH_take (i := 4) (v := .slice p1 n1 s1) rfl (by kernel_rfl) (by kernel_rfl) (by kernel_rfl) (fun _ _ _ h => h) (Or.inl ⟨by rfl, fun W hW => ?_⟩) h0 ?_
      · have q0 := (HD8.out W hW).1
        go_simp
      simp only [Act.put, List.getElem_toArray, List.getElem_cons_zero, List.getElem_cons_succ, List.setIfInBounds_toArray, List.set_cons_zero, List.set_cons_succ]
      refine wpAnyH_take (i := 5) (v := ?_) rfl (by kernel_rfl) (by kernel_rfl) (by kernel_rfl) (fun _ _ _ h => h) (Or.inl ⟨by rfl, fun W hW => ?_⟩) h0 ?_
      rotate_left
      · clear hW
        go_simp
        try with_reducible rfl
      simp only [Act.put, List.getElem_toArray, List.getElem_cons_zero, List.getElem_cons_succ, List.setIfInBounds_toArray, List.set_cons_zero, List.set_cons_succ]
      refine wpAnyH_take (i := 6) (v := ?_) rfl (by kernel_rfl) (by kernel_rfl) (by kernel_rfl) (fun _ _ _ h => h) (Or.inl ⟨by rfl, fun W hW => ?_⟩) h0 ?_
      rotate_left
      · clear hW
        go_simp
        try with_reducible rfl
      simp only [Act.put, List.getElem_toArray, List.getElem_cons_zero, List.getElem_cons_succ, List.setIfInBounds_toArray, List.set_cons_zero, List.set_cons_succ]
      refine wpAnyH_take (i := 7) (v := ?_) rfl (by kernel_rfl) (by kernel_rfl) (by kernel_rfl) (fun _ _ _ h => h) (Or.inl ⟨by rfl, fun W hW => ?_⟩) h0 ?_
      rotate_left
      · clear hW
        go_simp
        try with_reducible rfl
      simp only [Act.put, List.getElem_toArray, List.getElem_cons_zero, List.getElem_cons_succ, List.setIfInBounds_toArray, List.set_cons_zero, List.set_cons_succ]
      refine wpAnyH_take (i := 8) (v := .pointer (some ⟨g, off + I1, none⟩)) rfl (by kernel_rfl) (by kernel_rfl) (by kernel_rfl) (fun _ _ _ h => h) (Or.inl ⟨by rfl, fun W hW => ?_⟩) h0 ?_
      · clear hW
        go_simp
      simp only [Act.put, List.getElem_toArray, List.getElem_cons_zero, List.getElem_cons_succ, List.setIfInBounds_toArray, List.set_cons_zero, List.set_cons_succ]
      refine wpAnyH_take (i := 9) (v := .slice p2 n2 s2) rfl (by kernel_rfl) (by kernel_rfl) (by kernel_rfl) (fun _ _ _ h => h) (Or.inl ⟨by rfl, fun W hW => ?_⟩) h0 ?_
      · have q0 := (HD8.out W hW).2
        go_simp
      simp only [Act.put, List.getElem_toArray, List.getElem_cons_zero, List.getElem_cons_succ, List.setIfInBounds_toArray, List.set_cons_zero, List.set_cons_succ]
      refine wpAnyH_ready (rs := [10]) (by kernel_rfl) (by simp) (AllReadyH.cons rfl (fun K hK => ?_) AllReadyH.nil)
      go_simp
      have h1z := h0.alloc h0.size (.cells #[.slice p1 n1 s1, .slice p2 n2 s2] 24)
      refine hK.out _ _ h1z (fun _ => ?_)
      clear hK K
      refine wpAnyH_ready (rs := [11]) (by kernel_rfl) (by simp) (AllReadyH.cons rfl (fun K hK => ?_) AllReadyH.nil)
      go_simp
      have bT : Below w4.heap.size w4 (w4.alloc (.cells #[.slice p1 n1 s1, .slice p2 n2 s2] 24)).drew := ((Below.refl _ _).alloc (Nat.le_refl _) _).drew
      refine (HMr.out _ w4.heap.size bT ((BAt.new w4 #[.slice p1 n1 s1, .slice p2 n2 s2] 24).below (Below.refl _ _).drew)).mono ?_
      rintro e w5 ⟨v5, rfl, r5, b5⟩
      have b5z : Below w4.heap.size w4 w5 := bT.trans (b5.mono bT.size)
      refine hK.out _ _ b5z (fun _ => ?_)
      clear hK K
      obtain ⟨la, lc, hle5⟩ := r5.slice
      subst hle5
      refine wpAnyH_take (i := 12) (v := ?_) rfl (by kernel_rfl) (by kernel_rfl) (by kernel_rfl) (fun _ _ _ h => h) (Or.inl ⟨by rfl, fun W hW => ?_⟩) b5z ?_
      rotate_left
      · clear hW
        go_simp
        try with_reducible rfl
      simp only [Act.put, List.getElem_toArray, List.getElem_cons_zero, List.getElem_cons_succ, List.setIfInBounds_toArray, List.set_cons_zero, List.set_cons_succ]
      refine wpAnyH_done (by kernel_rfl) ?_ _
      have B5 : Below O.heap.size O w5 := B4.trans (b5z.mono B4.size)
      have E5 := hidM (EntRow.below E4.out b5z)
      have F5 := hidM (HFr.out w5 b5z)
      have R5 := hidM r5
      clear HD8 HMr HFr r5 b5 bT h1z h0 eW2 eW1
      generalize hLN : LM.length = LN at *
      clear hLN
      obtain ⟨U7, hU7⟩ : ∃ U7, U7 = (w5.alloc (.cells #[.slice la LN lc] 24)).alloc (.cells #[.slice (some ⟨g, off, none⟩) I2 c4, .slice (some ⟨w5.heap.size, 0, none⟩) 1 1] 25) := ⟨_, rfl⟩
      have bU7 : Below w5.heap.size w5 U7 := by rw [hU7]; exact ((Below.refl _ _).alloc (Nat.le_refl _) _).alloc (by simp) _
      have A7 : BAt U7 w5.heap.size [.slice la LN lc] := by rw [hU7]; exact (BAt.new w5 #[.slice la LN lc] _).alloc _
      have A8 : BAt U7 (w5.heap.size + 1) [.slice (some ⟨g, off, none⟩) I2 c4, .slice (some ⟨w5.heap.size, 0, none⟩) 1 1] := by
        rw [hU7]
        have := BAt.new (w5.alloc (.cells #[.slice la LN lc] 24)) #[.slice (some ⟨g, off, none⟩) I2 c4, .slice (some ⟨w5.heap.size, 0, none⟩) 1 1] 25
        rwa [World.size_alloc] at this
      have CC := hidM (implConcatTwo _ _ (.slice (some ⟨w5.heap.size + 1, 0, none⟩) 2 2) (RR.take I2) [LM] U7 (w5.heap.size + 1) (by rw [HTk.out]; omega) (by simp) (F5.out.below bU7) (RunRow.one A7 (R5.out.below bU7)) A8 rfl)
      clear A7 A8 F5 R5
      go_wp2_with fail
      rw [← hU7]
      clear hU7
      refine CC.out.mono ?_
      rintro e w7 ⟨v7, rfl, r7, b7⟩
      have B7 : Below O.heap.size O w7 := (B5.trans (bU7.mono B5.size)).trans (b7.mono (B5.trans (bU7.mono B5.size)).size)
      have E7 := hidM ((E5.out.below bU7).below b7)
      have hL7 : (RR.take I2 ++ [LM]).length = I2 + 1 := by rw [List.length_append, HTk.out]; rfl
      obtain ⟨a7, c7, hv7⟩ := r7.slice
      rw [hL7] at hv7
      subst hv7
      have R7 := hidM r7
      have HPL : Hid (putL m ll x = RR.take I2 ++ [LM]) := hidM (by unfold putL; rw [HRRz.out]; exact HLast.out)
      have HFl : Hid (∀ i, i < (RR.take I2 ++ [LM]).length → 0 < ((RR.take I2 ++ [LM]).getD i []).length) := by
        have := HFull.out
        rw [HRRz.out, HLast.out] at this
        exact this
      clear r7 b7 CC E5 hL7
      go_upto_region 8 with fail
      obtain ⟨BwF, _, _, HDf⟩ := HW.out w7 B7
      obtain ⟨hsZ, AZ⟩ := two_set (.slice none 0 0) (.slice a7 (I2 + 1) c7) HDf
      have r0 : w7.cell? ⟨w.heap.size + 2, 0, none⟩ = some (.slice none 0 0) := by rw [cell_of_row w7 _ _ _ _ (0, 0) HDf]; rfl
      have r1 : w7.cell? ⟨w.heap.size + 2, 1, none⟩ = some (.slice none 0 0) := by rw [cell_of_row w7 _ _ _ _ (0, 0) HDf]; rfl
      have f0 : w7.frozen? ⟨w.heap.size + 2, 0, none⟩ = false := frozen_of_row _ _ _ _ _ HDf
      have f1 : w7.frozen? ⟨w.heap.size + 2, 1, none⟩ = false := frozen_of_row _ _ _ _ _ HDf
      have EF2 := hidM (EntRow.off E7.out HDf (by simp) hsZ)
      have RF2 := hidM (RunRow.off R7.out HFl.out HDf (by simp) hsZ)
      have BF2 : Below w.heap.size w ((w7.setCell ⟨w.heap.size + 2, 0, none⟩ (.slice none 0 0)).setCell ⟨w.heap.size + 2, 1, none⟩ (.slice a7 (I2 + 1) c7)) := (BwF.setCell (by simp) _).setCell (by simp) _
      clear hsZ HDf
      go_wp2_with fail
      refine bodyPost_ret (seen_resultI rfl _ _ (w.heap.size + 2) _ _ rfl AZ) rfl ?_
      exact put_done HPM.out HPL.out rfl EF2.out RF2.out BF2
    · have h3i : ¬ 3 < (RN : Int) := by omega
      have HPL : Hid (putL m ll x = RR) := hidM (by unfold putL; rw [HPR2.out]; exact if_neg (by omega))
      have HFx : Hid (∀ i, i < RR.length → 0 < (RR.getD i []).length) := by
        have := HFullR.out
        rw [HPR2.out] at this
        exact this
      go_upto_region 8 with fail
      obtain ⟨BwF, _, _, HDf⟩ := HW.out w4 B4
      obtain ⟨hsZ, AZ⟩ := two_set (.slice none 0 0) (.slice a4 RN c4) HDf
      have r0 : w4.cell? ⟨w.heap.size + 2, 0, none⟩ = some (.slice none 0 0) := by rw [cell_of_row w4 _ _ _ _ (0, 0) HDf]; rfl
      have r1 : w4.cell? ⟨w.heap.size + 2, 1, none⟩ = some (.slice none 0 0) := by rw [cell_of_row w4 _ _ _ _ (0, 0) HDf]; rfl
      have f0 : w4.frozen? ⟨w.heap.size + 2, 0, none⟩ = false := frozen_of_row _ _ _ _ _ HDf
      have f1 : w4.frozen? ⟨w.heap.size + 2, 1, none⟩ = false := frozen_of_row _ _ _ _ _ HDf
      have EF2 := hidM (EntRow.off E4.out HDf (by simp) hsZ)
      have RF2 := hidM (RunRow.off Q4.out HFx.out HDf (by simp) hsZ)
      have BF2 : Below w.heap.size w ((w4.setCell ⟨w.heap.size + 2, 0, none⟩ (.slice none 0 0)).setCell ⟨w.heap.size + 2, 1, none⟩ (.slice a4 RN c4)) := (BwF.setCell (by simp) _).setCell (by simp) _
      clear hsZ HDf
      go_wp2_with fail
      refine bodyPost_ret (seen_resultI rfl _ _ (w.heap.size + 2) _ _ rfl AZ) rfl ?_
      exact put_done HPM.out HPL.out rfl EF2.out RF2.out BF2
  · have HPM : Hid (putM m x = onM x m) := if_neg (by rw [HY.out]; exact h8)
    have HPR : Hid (putR m ll x = ll) := if_neg (by rw [HY.out]; exact h8)
    have h8i : ¬ 8 ≤ (ON : Int) := by omega
    by_cases h3 : 3 < ll.length
    · have h3i : 3 < (ll.length : Int) := by omega
      have hfl2 : ll.flatten.length ≤ 409 := by rw [List.length_append] at h400; omega
      have HRRz := hidM HPR.out
      have HLn := hidM (Eq.refl ll.length)
      obtain ⟨g, off, hga, hg, hc, hcap⟩ : ∃ g off, qa = some ⟨g, off, none⟩ ∧ g < w2.heap.size ∧ (∀ i, i < ll.length → ∃ y, w2.cell? ⟨g, off + i, none⟩ = some y ∧ EntRow w2 y (ll.getD i [])) ∧ ll.length ≤ qc := by
        rcases Q2.out with ⟨h, _⟩ | ⟨h0, g, off, cap, hv, hg, hc⟩
        · have h1 := HLn.out
          have h2 := congrArg List.length h
          rw [List.length_nil] at h2
          omega
        · injection hv with h1 h2 h3
          exact ⟨g, off, h1, hg, hc, by omega⟩
      subst hga
      obtain ⟨I2, HI2⟩ : ∃ I2, Hid (I2 + 2 = ll.length) := ⟨ll.length - 2, by show _ = _; omega⟩
      obtain ⟨I1, HI1⟩ : ∃ I1, Hid (I1 + 1 = ll.length) := ⟨ll.length - 1, by show _ = _; omega⟩
      have hI2 : I2 < ll.length := by have := HI2.out; omega
      have hI1 : I1 < ll.length := by have := HI1.out; omega
      have eI2 : (ll.length : Int) - 2 = (I2 : Int) := by have := HI2.out; omega
      have eI1 : (ll.length : Int) - 1 = (I1 : Int) := by have := HI1.out; omega
      have eW2 : IntKind.i64.wrap (I2 : Int) = (I2 : Int) := i64_wrap_in _ (by omega)
      have hI2i : (I2 : Int) < (ll.length : Int) := by omega
      have eW1 : IntKind.i64.wrap (I1 : Int) = (I1 : Int) := i64_wrap_in _ (by omega)
      have hI1i : (I1 : Int) < (ll.length : Int) := by omega
      have hcap2 : I2 ≤ qc := by omega
      obtain ⟨x1, cx1, ox1⟩ := hc I2 (by have := HLn.out; omega)
      obtain ⟨x2, cx2, ox2⟩ := hc I1 (by have := HLn.out; omega)
      have hz1 := flat_at (ll := ll) (i := I2) (by have := HLn.out; omega)
      have hz2 := flat_at (ll := ll) (i := I1) (by have := HLn.out; omega)
      have HFr : Hid (∀ W, Below w2.heap.size w2 W → RunRow W (.slice (some ⟨g, off, none⟩) I2 qc) (ll.take I2)) := fun W bW => (RunRow.front hg hc (by have := HLn.out; omega) hcap2).below bW
      have HLast : Hid (lastR ll = ll.take I2 ++ [canon (ll.getD I2 [] ++ ll.getD I1 [])]) := hidM (by
        have h1 := HLn.out
        have h2 := HI2.out
        have h3 := HI1.out
        unfold lastR
        rw [if_pos (by omega), show ll.length - 2 = I2 by omega, show ll.length - 1 = I1 by omega])
      have HTk : Hid ((ll.take I2).length = I2) := hidM (by rw [List.length_take]; have := HLn.out; omega)
      have HMr : Hid (∀ W b, Below w2.heap.size w2 W → BAt W b [x1, x2] → Calls Try.prog 38 #[.func (.func 39) #[] #[], .slice (some ⟨b, 0, none⟩) 2 2] W fun e w' => ∃ v', e = .returned v' ∧ EntRow w' v' (canon (ll.getD I2 [] ++ ll.getD I1 [])) ∧ Below W.heap.size W w') := fun W b bW hb => by
        have := implMerged [ll.getD I2 [], ll.getD I1 []] _ W (by simp) (by rw [show ([ll.getD I2 [], ll.getD I1 []] : List (List EV)).flatten = ll.getD I2 [] ++ ll.getD I1 [] by simp, List.length_append]; omega) (run_two hb (ox1.below bW) (ox2.below bW))
        rw [show ([ll.getD I2 [], ll.getD I1 []] : List (List EV)).flatten = ll.getD I2 [] ++ ll.getD I1 [] by simp] at this
        exact this
      obtain ⟨p1, s1, hx1⟩ := ox1.slice
      obtain ⟨p2, s2, hx2⟩ := ox2.slice
      generalize canon (ll.getD I2 [] ++ ll.getD I1 []) = LM at *
      subst hx1 hx2
      clear ox1 ox2 hz1 hz2 hc
      generalize (ll.getD I2 []).length = n1 at *
      generalize (ll.getD I1 []).length = n2 at *
      have HD8 : Hid (∀ W, Below w2.heap.size w2 W → W.cell? ⟨g, off + I2, none⟩ = some (.slice p1 n1 s1) ∧ W.cell? ⟨g, off + I1, none⟩ = some (.slice p2 n2 s2)) := fun W bW => ⟨(bW.cell (p := ⟨g, off + I2, none⟩) hg).trans cx1, (bW.cell (p := ⟨g, off + I1, none⟩) hg).trans cx2⟩
      clear cx1 cx2
      go_upto_region 6 with fail
      refine wp_region_held_drew (S := fun W => Below w2.heap.size w2 W) (by kernel_rfl) (Below.refl _ _).drew (fun h0 => ?_)
      refine wpAnyH_take (i := 0) (v := ?_) rfl (by kernel_rfl) (by kernel_rfl) (by kernel_rfl) (fun _ _ _ h => h) (Or.inl ⟨by rfl, fun W hW => ?_⟩) h0 ?_
      rotate_left
      · clear hW
        go_simp
        try with_reducible rfl
      simp only [Act.put, List.getElem_toArray, List.getElem_cons_zero, List.getElem_cons_succ, List.setIfInBounds_toArray, List.set_cons_zero, List.set_cons_succ]
      refine wpAnyH_take (i := 1) (v := ?_) rfl (by kernel_rfl) (by kernel_rfl) (by kernel_rfl) (fun _ _ _ h => h) (Or.inl ⟨by rfl, fun W hW => ?_⟩) h0 ?_
      rotate_left
      · clear hW
        go_simp
        try with_reducible rfl
      simp only [Act.put, List.getElem_toArray, List.getElem_cons_zero, List.getElem_cons_succ, List.setIfInBounds_toArray, List.set_cons_zero, List.set_cons_succ]
      refine wpAnyH_take (i := 2) (v := ?_) rfl (by kernel_rfl) (by kernel_rfl) (by kernel_rfl) (fun _ _ _ h => h) (Or.inl ⟨by rfl, fun W hW => ?_⟩) h0 ?_
      rotate_left
      · clear hW
        go_simp
        try with_reducible rfl
      simp only [Act.put, List.getElem_toArray, List.getElem_cons_zero, List.getElem_cons_succ, List.setIfInBounds_toArray, List.set_cons_zero, List.set_cons_succ]
      refine wpAnyH_take (i := 3) (v := .pointer (some ⟨g, off + I2, none⟩)) rfl (by kernel_rfl) (by kernel_rfl) (by kernel_rfl) (fun _ _ _ h => h) (Or.inl ⟨by rfl, fun W hW => ?_⟩) h0 ?_
      · clear hW
        go_simp
      simp only [Act.put, List.getElem_toArray, List.getElem_cons_zero, List.getElem_cons_succ, List.setIfInBounds_toArray, List.set_cons_zero, List.set_cons_succ]
      refine wpAnyH_take (i := 4) (v := .slice p1 n1 s1) rfl (by kernel_rfl) (by kernel_rfl) (by kernel_rfl) (fun _ _ _ h => h) (Or.inl ⟨by rfl, fun W hW => ?_⟩) h0 ?_
      · have q0 := (HD8.out W hW).1
        go_simp
      simp only [Act.put, List.getElem_toArray, List.getElem_cons_zero, List.getElem_cons_succ, List.setIfInBounds_toArray, List.set_cons_zero, List.set_cons_succ]
      refine wpAnyH_take (i := 5) (v := ?_) rfl (by kernel_rfl) (by kernel_rfl) (by kernel_rfl) (fun _ _ _ h => h) (Or.inl ⟨by rfl, fun W hW => ?_⟩) h0 ?_
      rotate_left
      · clear hW
        go_simp
        try with_reducible rfl
      simp only [Act.put, List.getElem_toArray, List.getElem_cons_zero, List.getElem_cons_succ, List.setIfInBounds_toArray, List.set_cons_zero, List.set_cons_succ]
      refine wpAnyH_take (i := 6) (v := ?_) rfl (by kernel_rfl) (by kernel_rfl) (by kernel_rfl) (fun _ _ _ h => h) (Or.inl ⟨by rfl, fun W hW => ?_⟩) h0 ?_
      rotate_left
      · clear hW
        go_simp
        try with_reducible rfl
      simp only [Act.put, List.getElem_toArray, List.getElem_cons_zero, List.getElem_cons_succ, List.setIfInBounds_toArray, List.set_cons_zero, List.set_cons_succ]
      refine wpAnyH_take (i := 7) (v := ?_) rfl (by kernel_rfl) (by kernel_rfl) (by kernel_rfl) (fun _ _ _ h => h) (Or.inl ⟨by rfl, fun W hW => ?_⟩) h0 ?_
      rotate_left
      · clear hW
        go_simp
        try with_reducible rfl
      simp only [Act.put, List.getElem_toArray, List.getElem_cons_zero, List.getElem_cons_succ, List.setIfInBounds_toArray, List.set_cons_zero, List.set_cons_succ]
      refine wpAnyH_take (i := 8) (v := .pointer (some ⟨g, off + I1, none⟩)) rfl (by kernel_rfl) (by kernel_rfl) (by kernel_rfl) (fun _ _ _ h => h) (Or.inl ⟨by rfl, fun W hW => ?_⟩) h0 ?_
      · clear hW
        go_simp
      simp only [Act.put, List.getElem_toArray, List.getElem_cons_zero, List.getElem_cons_succ, List.setIfInBounds_toArray, List.set_cons_zero, List.set_cons_succ]
      refine wpAnyH_take (i := 9) (v := .slice p2 n2 s2) rfl (by kernel_rfl) (by kernel_rfl) (by kernel_rfl) (fun _ _ _ h => h) (Or.inl ⟨by rfl, fun W hW => ?_⟩) h0 ?_
      · have q0 := (HD8.out W hW).2
        go_simp
      simp only [Act.put, List.getElem_toArray, List.getElem_cons_zero, List.getElem_cons_succ, List.setIfInBounds_toArray, List.set_cons_zero, List.set_cons_succ]
      refine wpAnyH_ready (rs := [10]) (by kernel_rfl) (by simp) (AllReadyH.cons rfl (fun K hK => ?_) AllReadyH.nil)
      go_simp
      have h1z := h0.alloc h0.size (.cells #[.slice p1 n1 s1, .slice p2 n2 s2] 24)
      refine hK.out _ _ h1z (fun _ => ?_)
      clear hK K
      refine wpAnyH_ready (rs := [11]) (by kernel_rfl) (by simp) (AllReadyH.cons rfl (fun K hK => ?_) AllReadyH.nil)
      go_simp
      have bT : Below w2.heap.size w2 (w2.alloc (.cells #[.slice p1 n1 s1, .slice p2 n2 s2] 24)).drew := ((Below.refl _ _).alloc (Nat.le_refl _) _).drew
      refine (HMr.out _ w2.heap.size bT ((BAt.new w2 #[.slice p1 n1 s1, .slice p2 n2 s2] 24).below (Below.refl _ _).drew)).mono ?_
      rintro e w5 ⟨v5, rfl, r5, b5⟩
      have b5z : Below w2.heap.size w2 w5 := bT.trans (b5.mono bT.size)
      refine hK.out _ _ b5z (fun _ => ?_)
      clear hK K
      obtain ⟨la, lc, hle5⟩ := r5.slice
      subst hle5
      refine wpAnyH_take (i := 12) (v := ?_) rfl (by kernel_rfl) (by kernel_rfl) (by kernel_rfl) (fun _ _ _ h => h) (Or.inl ⟨by rfl, fun W hW => ?_⟩) b5z ?_
      rotate_left
      · clear hW
        go_simp
        try with_reducible rfl
      simp only [Act.put, List.getElem_toArray, List.getElem_cons_zero, List.getElem_cons_succ, List.setIfInBounds_toArray, List.set_cons_zero, List.set_cons_succ]
      refine wpAnyH_done (by kernel_rfl) ?_ _
      have B5 : Below O.heap.size O w5 := B2.trans (b5z.mono B2.size)
      have E5 := hidM (EntRow.below R2.out b5z)
      have F5 := hidM (HFr.out w5 b5z)
      have R5 := hidM r5
      clear HD8 HMr HFr r5 b5 bT h1z h0 eW2 eW1
      generalize hLN : LM.length = LN at *
      clear hLN
      obtain ⟨U7, hU7⟩ : ∃ U7, U7 = (w5.alloc (.cells #[.slice la LN lc] 24)).alloc (.cells #[.slice (some ⟨g, off, none⟩) I2 qc, .slice (some ⟨w5.heap.size, 0, none⟩) 1 1] 25) := ⟨_, rfl⟩
      have bU7 : Below w5.heap.size w5 U7 := by rw [hU7]; exact ((Below.refl _ _).alloc (Nat.le_refl _) _).alloc (by simp) _
      have A7 : BAt U7 w5.heap.size [.slice la LN lc] := by rw [hU7]; exact (BAt.new w5 #[.slice la LN lc] _).alloc _
      have A8 : BAt U7 (w5.heap.size + 1) [.slice (some ⟨g, off, none⟩) I2 qc, .slice (some ⟨w5.heap.size, 0, none⟩) 1 1] := by
        rw [hU7]
        have := BAt.new (w5.alloc (.cells #[.slice la LN lc] 24)) #[.slice (some ⟨g, off, none⟩) I2 qc, .slice (some ⟨w5.heap.size, 0, none⟩) 1 1] 25
        rwa [World.size_alloc] at this
      have CC := hidM (implConcatTwo _ _ (.slice (some ⟨w5.heap.size + 1, 0, none⟩) 2 2) (ll.take I2) [LM] U7 (w5.heap.size + 1) (by rw [HTk.out]; omega) (by simp) (F5.out.below bU7) (RunRow.one A7 (R5.out.below bU7)) A8 rfl)
      clear A7 A8 F5 R5
      go_wp2_with fail
      rw [← hU7]
      clear hU7
      refine CC.out.mono ?_
      rintro e w7 ⟨v7, rfl, r7, b7⟩
      have B7 : Below O.heap.size O w7 := (B5.trans (bU7.mono B5.size)).trans (b7.mono (B5.trans (bU7.mono B5.size)).size)
      have E7 := hidM ((E5.out.below bU7).below b7)
      have hL7 : (ll.take I2 ++ [LM]).length = I2 + 1 := by rw [List.length_append, HTk.out]; rfl
      obtain ⟨a7, c7, hv7⟩ := r7.slice
      rw [hL7] at hv7
      subst hv7
      have R7 := hidM r7
      have HPL : Hid (putL m ll x = ll.take I2 ++ [LM]) := hidM (by unfold putL; rw [HRRz.out]; exact HLast.out)
      have HFl : Hid (∀ i, i < (ll.take I2 ++ [LM]).length → 0 < ((ll.take I2 ++ [LM]).getD i []).length) := by
        have := HFull.out
        rw [HRRz.out, HLast.out] at this
        exact this
      clear r7 b7 CC E5 hL7
      go_upto_region 8 with fail
      obtain ⟨BwF, _, _, HDf⟩ := HW.out w7 B7
      obtain ⟨hsZ, AZ⟩ := two_set (.slice va ON vc) (.slice a7 (I2 + 1) c7) HDf
      have r0 : w7.cell? ⟨w.heap.size + 2, 0, none⟩ = some (.slice none 0 0) := by rw [cell_of_row w7 _ _ _ _ (0, 0) HDf]; rfl
      have r1 : w7.cell? ⟨w.heap.size + 2, 1, none⟩ = some (.slice none 0 0) := by rw [cell_of_row w7 _ _ _ _ (0, 0) HDf]; rfl
      have f0 : w7.frozen? ⟨w.heap.size + 2, 0, none⟩ = false := frozen_of_row _ _ _ _ _ HDf
      have f1 : w7.frozen? ⟨w.heap.size + 2, 1, none⟩ = false := frozen_of_row _ _ _ _ _ HDf
      have EF2 := hidM (EntRow.off E7.out HDf (by simp) hsZ)
      have RF2 := hidM (RunRow.off R7.out HFl.out HDf (by simp) hsZ)
      have BF2 : Below w.heap.size w ((w7.setCell ⟨w.heap.size + 2, 0, none⟩ (.slice va ON vc)).setCell ⟨w.heap.size + 2, 1, none⟩ (.slice a7 (I2 + 1) c7)) := (BwF.setCell (by simp) _).setCell (by simp) _
      clear hsZ HDf
      go_wp2_with fail
      refine bodyPost_ret (seen_resultI rfl _ _ (w.heap.size + 2) _ _ rfl AZ) rfl ?_
      exact put_done HPM.out HPL.out rfl EF2.out RF2.out BF2
    · have h3i : ¬ 3 < (ll.length : Int) := by omega
      have HPL : Hid (putL m ll x = ll) := hidM (by unfold putL; rw [HPR.out]; exact if_neg h3)
      have HFx : Hid (∀ i, i < ll.length → 0 < (ll.getD i []).length) := by
        have := HFullR.out
        rw [HPR.out] at this
        exact this
      go_upto_region 8 with fail
      obtain ⟨BwF, _, _, HDf⟩ := HW.out w2 B2
      obtain ⟨hsZ, AZ⟩ := two_set (.slice va ON vc) (.slice qa ll.length qc) HDf
      have r0 : w2.cell? ⟨w.heap.size + 2, 0, none⟩ = some (.slice none 0 0) := by rw [cell_of_row w2 _ _ _ _ (0, 0) HDf]; rfl
      have r1 : w2.cell? ⟨w.heap.size + 2, 1, none⟩ = some (.slice none 0 0) := by rw [cell_of_row w2 _ _ _ _ (0, 0) HDf]; rfl
      have f0 : w2.frozen? ⟨w.heap.size + 2, 0, none⟩ = false := frozen_of_row _ _ _ _ _ HDf
      have f1 : w2.frozen? ⟨w.heap.size + 2, 1, none⟩ = false := frozen_of_row _ _ _ _ _ HDf
      have EF2 := hidM (EntRow.off R2.out HDf (by simp) hsZ)
      have RF2 := hidM (RunRow.off Q2.out HFx.out HDf (by simp) hsZ)
      have BF2 : Below w.heap.size w ((w2.setCell ⟨w.heap.size + 2, 0, none⟩ (.slice va ON vc)).setCell ⟨w.heap.size + 2, 1, none⟩ (.slice qa ll.length qc)) := (BwF.setCell (by simp) _).setCell (by simp) _
      clear hsZ HDf
      go_wp2_with fail
      refine bodyPost_ret (seen_resultI rfl _ _ (w.heap.size + 2) _ _ rfl AZ) rfl ?_
      exact put_done HPM.out HPL.out rfl EF2.out RF2.out BF2
end Go.Proofs.Ytocgdbinfmdkcaa

namespace Go.Proofs.Ytocgdbinfmdkcaa
open Go.RowKit
set_option linter.unusedVariables false
set_option linter.unusedSimpArgs false

/-- A Seen and a truth as results. -/
theorem seen_result2 {fn : Func} {q r : Tmp} (h : fn.results = #[.cell q 27, .tmp r]) (tmps : Array Value) (W : World) (B : Nat) (a b c : Value)
    (hp : tmps[q]?.getD undef = .pointer (some ⟨B, 0, none⟩)) (hr : tmps[r]?.getD undef = c) (ha : BAt W B [a, b]) : (results fn tmps).run Try.prog W = .ok (.tuple #[.agg #[a, b], c]) W := by
  have c0 := ha.1 0 _ rfl
  have c1 := ha.1 1 _ rfl
  simp [results, h, hp, hr, asAddr, go_sem, c0, c1, Addr.add_lit]

theorem put_rz {m : List EV} {ll : List (List EV)} {x : EV} (h : RZ m ll) (hx : x.s.size ≤ 1048576) : RZ (putM m x) (putL m ll x) := fun z hz => by
  rcases put_mem hz with rfl | hz
  · exact hx
  · exact h z hz

theorem put_small {m : List EV} {ll : List (List EV)} {x : EV} (h : sokS m ll = true) : (putM m x).length ≤ 9 ∧ (putL m ll x).length ≤ 7 ∧ ∀ i, i < (putL m ll x).length → ((putL m ll x).getD i []).length ≤ 409 := by
  obtain ⟨h1, h2, h3⟩ := sokS_sz h
  obtain ⟨g1, g2, g3⟩ := put_len (m := m) (ll := ll) (x := x)
  rw [List.length_append] at h3
  exact ⟨by omega, by omega, fun i hi => by have := flat_at hi; omega⟩

set_option maxRecDepth 100000 in
set_option maxHeartbeats 4000000 in
theorem implSeenPut (x : EV) (m : List EV) (ll : List (List EV)) (p q : Value) (w : World) (hm : m.length ≤ 1048576) (hn : ll.length ≤ 1048576) (hf : ∀ i, i < ll.length → (ll.getD i []).length ≤ 1048576) (hz : RZ m ll) (hx : x.s.size ≤ 1048576) (hp : EntRow w p m) (hq : RunRow w q ll) :
    Calls Try.prog 10 #[.agg #[p, q], .string x.s, .int .i64 x.k] w fun e w' => ∃ ao ac bo bc, e = .returned (.tuple #[.agg #[.slice ao (resM m ll x).length ac, .slice bo (resL m ll x).length bc], .bool (putK m ll x)]) ∧ SnOwn w' w.heap.size w'.heap.size (.slice ao (resM m ll x).length ac) (.slice bo (resL m ll x).length bc) (resM m ll x) (resL m ll x) ∧ Below w.heap.size w w' := by
  obtain ⟨O, hO⟩ : ∃ O, O = (w.alloc (.cells #[p, q] 27)).alloc (.cells #[.slice none 0 0, .slice none 0 0] 27) := ⟨_, rfl⟩
  have bO : Below w.heap.size w O := by rw [hO]; exact ((Below.refl _ _).alloc (Nat.le_refl _) _).alloc (by simp) _
  have hzO : w.heap.size + 2 ≤ O.heap.size := by rw [hO]; simp
  have A0 : BAt O w.heap.size [p, q] := by rw [hO]; exact (BAt.new w #[p, q] _).alloc _
  have AR : BAt O (w.heap.size + 1) [.slice none 0 0, .slice none 0 0] := by
    rw [hO]
    have := BAt.new (w.alloc (.cells #[p, q] 27)) #[.slice none 0 0, .slice none 0 0] 27
    rwa [World.size_alloc] at this
  have CK := hidM (implSeenOk m ll p q O hm hn hf (hp.below bO) (hq.below bO))
  have CO : Hid (∀ W, Below w.heap.size w W → Calls Try.prog 33 #[.agg #[p, q]] W fun e w' => ∃ ao ac bo bc, e = .returned (.agg #[.slice ao m.length ac, .slice bo ll.length bc]) ∧ SnOwn w' W.heap.size w'.heap.size (.slice ao m.length ac) (.slice bo ll.length bc) m ll ∧ Below W.heap.size W w') := fun W hW => implOwnSeen m ll p q W hm hn hf hz (hp.below hW) (hq.below hW)
  have CW : Hid (sokS m ll = true → ∀ W, Below w.heap.size w W → Calls Try.prog 32 #[.agg #[p, q], .agg #[.string x.s, .int .i64 x.k]] W fun e w' => ∃ ao ac bo bc, e = .returned (.agg #[.slice ao (putM m x).length ac, .slice bo (putL m ll x).length bc]) ∧ EntRow w' (.slice ao (putM m x).length ac) (putM m x) ∧ RunRow w' (.slice bo (putL m ll x).length bc) (putL m ll x) ∧ Below W.heap.size W w') := fun h W hW => implWithMark x m ll p q W h (hp.below hW) (hq.below hW)
  obtain ⟨pa, pc, rfl⟩ := hp.slice
  obtain ⟨qa, qc, rfl⟩ := hq.slice
  have HA0 : Hid (∀ W, Below O.heap.size O W → BAt W w.heap.size [.slice pa m.length pc, .slice qa ll.length qc]) := fun W hW => A0.below hW
  have c0 := A0.1 0 _ rfl
  have c1 := A0.1 1 _ rfl
  have HRZ := hidM (put_rz (x := x) hz hx)
  clear hp hq hz hf A0
  have no : putK m ll x = false → resM m ll x = m ∧ resL m ll x = ll := fun h => by unfold resM resL; rw [h]; exact ⟨rfl, rfl⟩
  have yes : putK m ll x = true → resM m ll x = putM m x ∧ resL m ll x = putL m ll x := fun h => by unfold resM resL; rw [h]; exact ⟨rfl, rfl⟩
  have HB : Hid (putK m ll x = (sokS m ll && sokS (putM m x) (putL m ll x))) := rfl
  cases hk : sokS m ll with
  | false =>
    have hb : putK m ll x = false := by rw [HB.out, hk]; rfl
    obtain ⟨e1, e2⟩ := no hb
    rw [e1, e2, hb]
    rw [hk] at CK
    clear CW HB no yes e1 e2 hb HRZ
    go_enter Try.func10, Try.ntmps10
    go_upto_region 1 with fail
    rw [← hO]
    clear hO
    go_wp2_with fail
    refine CK.out.mono ?_
    rintro e w1 ⟨rfl, b1⟩
    have d0 := (HA0.out _ b1).1 0 _ rfl
    have d1 := (HA0.out _ b1).1 1 _ rfl
    have B1 := bO.trans (b1.mono bO.size)
    have CO2 := hidM (CO.out _ B1)
    clear CK CO c0 c1
    go_wp2_with fail
    refine CO2.out.mono ?_
    rintro e w2 ⟨ao, ac, bo, bc, rfl, s2, b2⟩
    have BZ := b1.trans (b2.mono b1.size)
    have BW := B1.trans (b2.mono B1.size)
    have S2 := hidM s2
    have hz1 := b1.size
    clear s2 CO2 d0 d1 B1
    have AR2 := AR.below BZ
    have r0 := AR2.1 0 _ rfl
    have r1 := AR2.1 1 _ rfl
    have g1 := AR2.2.1
    have hzz := hzO
    go_wp2_with fail
    refine bodyPost_ret (seen_result2 rfl _ _ (w.heap.size + 1) _ _ _ rfl rfl ((AR2.set 0 (by simp) _).set 1 (by simp) _)) rfl ⟨_, _, _, _, rfl, ?_, ?_⟩
    · obtain ⟨vs, k1, k2⟩ := (S2.out.same (w' := (w2.setCell ⟨w.heap.size + 1, 0, none⟩ (.slice ao m.length ac)).setCell ⟨w.heap.size + 1, 1, none⟩ (.slice bo ll.length bc)) (fun bb h1 h2 => by
        rw [Below.heap_setCell _ _ _ _ (by simp; omega), Below.heap_setCell _ _ _ _ (by simp; omega)])).wide (base' := w.heap.size) (by omega)
      exact ⟨vs, k1, k2.same (by simp) fun _ _ _ _ => rfl⟩
    · exact (BW.setCell (by simp) _).setCell (by simp) _
  | true =>
    rw [hk] at CK
    cases hk2 : sokS (putM m x) (putL m ll x) with
    | false =>
      have hb : putK m ll x = false := by rw [HB.out, hk, hk2]; rfl
      obtain ⟨e1, e2⟩ := no hb
      rw [e1, e2, hb]
      clear HB no yes e1 e2 hb HRZ
      go_enter Try.func10, Try.ntmps10
      go_upto_region 1 with fail
      rw [← hO]
      clear hO
      go_wp2_with fail
      refine CK.out.mono ?_
      rintro e w1 ⟨rfl, b1⟩
      have d0 := (HA0.out _ b1).1 0 _ rfl
      have d1 := (HA0.out _ b1).1 1 _ rfl
      have B1 := bO.trans (b1.mono bO.size)
      have CW2 := hidM (CW.out hk _ B1)
      clear CK CW c0 c1
      go_wp2_with fail
      refine CW2.out.mono ?_
      rintro e w2 ⟨ma, mc, ra, rc, rfl, e2, r2, b2⟩
      have b2O := b1.trans (b2.mono b1.size)
      obtain ⟨U, hU⟩ : ∃ U, U = w2.alloc (.cells #[.slice ma (putM m x).length mc, .slice ra (putL m ll x).length rc] 27) := ⟨_, rfl⟩
      have bU : Below w2.heap.size w2 U := by rw [hU]; exact (Below.refl _ _).alloc (Nat.le_refl _) _
      have AU : BAt U w2.heap.size [.slice ma (putM m x).length mc, .slice ra (putL m ll x).length rc] := by rw [hU]; exact BAt.new w2 #[.slice ma (putM m x).length mc, .slice ra (putL m ll x).length rc] _
      have bUO := b2O.trans (bU.mono b2O.size)
      have EU := hidM (e2.below bU)
      have RU := hidM (r2.below bU)
      obtain ⟨z1, z2, z3⟩ := put_small (x := x) hk
      have CK2 := hidM (implSeenOk (putM m x) (putL m ll x) _ _ U (by omega) (by omega) (fun i hi => by have := z3 i hi; omega) EU.out RU.out)
      have u0 := AU.1 0 _ rfl
      have u1 := AU.1 1 _ rfl
      go_upto_region 3 with fail
      rw [← hU]
      clear hU bU b2 e2 r2 CW2 d0 d1 b2O B1 b1
      generalize w2.heap.size = D2 at *
      rw [hk2] at CK2
      go_wp2_with fail
      refine CK2.out.mono ?_
      rintro e w3 ⟨rfl, b3⟩
      have b3O := bUO.trans (b3.mono bUO.size)
      have B3 := bO.trans (b3O.mono bO.size)
      have d0 := (HA0.out _ b3O).1 0 _ rfl
      have d1 := (HA0.out _ b3O).1 1 _ rfl
      have CO2 := hidM (CO.out _ B3)
      clear CO CK2 u0 u1 EU RU
      go_wp2_with fail
      refine CO2.out.mono ?_
      rintro e w4 ⟨ao, ac, bo, bc, rfl, s2, b4⟩
      have BZ := b3O.trans (b4.mono b3O.size)
      have BW := B3.trans (b4.mono B3.size)
      have S2 := hidM s2
      have hz1 := b3O.size
      clear s2 CO2 d0 d1
      have AR2 := AR.below BZ
      have r0 := AR2.1 0 _ rfl
      have r1 := AR2.1 1 _ rfl
      have g1 := AR2.2.1
      have hzz := hzO
      go_wp2_with fail
      refine bodyPost_ret (seen_result2 rfl _ _ (w.heap.size + 1) _ _ _ rfl rfl ((AR2.set 0 (by simp) _).set 1 (by simp) _)) rfl ⟨_, _, _, _, rfl, ?_, ?_⟩
      · obtain ⟨vs, k1, k2⟩ := (S2.out.same (w' := (w4.setCell ⟨w.heap.size + 1, 0, none⟩ (.slice ao m.length ac)).setCell ⟨w.heap.size + 1, 1, none⟩ (.slice bo ll.length bc)) (fun bb h1 h2 => by
          rw [Below.heap_setCell _ _ _ _ (by simp; omega), Below.heap_setCell _ _ _ _ (by simp; omega)])).wide (base' := w.heap.size) (by omega)
        exact ⟨vs, k1, k2.same (by simp) fun _ _ _ _ => rfl⟩
      · exact (BW.setCell (by simp) _).setCell (by simp) _
    | true =>
      have hb : putK m ll x = true := by rw [HB.out, hk, hk2]; rfl
      obtain ⟨e1, e2⟩ := yes hb
      rw [e1, e2, hb]
      clear HB no yes e1 e2 hb CO
      go_enter Try.func10, Try.ntmps10
      go_upto_region 1 with fail
      rw [← hO]
      clear hO
      go_wp2_with fail
      refine CK.out.mono ?_
      rintro e w1 ⟨rfl, b1⟩
      have d0 := (HA0.out _ b1).1 0 _ rfl
      have d1 := (HA0.out _ b1).1 1 _ rfl
      have B1 := bO.trans (b1.mono bO.size)
      have CW2 := hidM (CW.out hk _ B1)
      clear CK CW c0 c1
      go_wp2_with fail
      refine CW2.out.mono ?_
      rintro e w2 ⟨ma, mc, ra, rc, rfl, e2, r2, b2⟩
      have b2O := b1.trans (b2.mono b1.size)
      obtain ⟨U, hU⟩ : ∃ U, U = w2.alloc (.cells #[.slice ma (putM m x).length mc, .slice ra (putL m ll x).length rc] 27) := ⟨_, rfl⟩
      have bU : Below w2.heap.size w2 U := by rw [hU]; exact (Below.refl _ _).alloc (Nat.le_refl _) _
      have AU : BAt U w2.heap.size [.slice ma (putM m x).length mc, .slice ra (putL m ll x).length rc] := by rw [hU]; exact BAt.new w2 #[.slice ma (putM m x).length mc, .slice ra (putL m ll x).length rc] _
      have bUO := b2O.trans (bU.mono b2O.size)
      have EU := hidM (e2.below bU)
      have RU := hidM (r2.below bU)
      obtain ⟨z1, z2, z3⟩ := put_small (x := x) hk
      have CK2 := hidM (implSeenOk (putM m x) (putL m ll x) _ _ U (by omega) (by omega) (fun i hi => by have := z3 i hi; omega) EU.out RU.out)
      have u0 := AU.1 0 _ rfl
      have u1 := AU.1 1 _ rfl
      go_upto_region 3 with fail
      rw [← hU]
      clear hU bU b2 e2 r2 CW2 d0 d1 b2O B1 b1
      generalize w2.heap.size = D2 at *
      rw [hk2] at CK2
      go_wp2_with fail
      refine CK2.out.mono ?_
      rintro e w3 ⟨rfl, b3⟩
      have b3O := bUO.trans (b3.mono bUO.size)
      have B3 := bO.trans (b3O.mono bO.size)
      have d0 := (AU.below b3).1 0 _ rfl
      have d1 := (AU.below b3).1 1 _ rfl
      have CO2 := hidM (implOwnSeen (putM m x) (putL m ll x) _ _ w3 (by omega) (by omega) (fun i hi => by have := z3 i hi; omega) HRZ.out (EU.out.below b3) (RU.out.below b3))
      clear CK2 u0 u1 EU RU HRZ
      go_wp2_with fail
      refine CO2.out.mono ?_
      rintro e w4 ⟨ao, ac, bo, bc, rfl, s2, b4⟩
      have BZ := b3O.trans (b4.mono b3O.size)
      have BW := B3.trans (b4.mono B3.size)
      have S2 := hidM s2
      have hz1 := b3O.size
      clear s2 CO2 d0 d1
      have AR2 := AR.below BZ
      have r0 := AR2.1 0 _ rfl
      have r1 := AR2.1 1 _ rfl
      have g1 := AR2.2.1
      have hzz := hzO
      go_wp2_with fail
      refine bodyPost_ret (seen_result2 rfl _ _ (w.heap.size + 1) _ _ _ rfl rfl ((AR2.set 0 (by simp) _).set 1 (by simp) _)) rfl ⟨_, _, _, _, rfl, ?_, ?_⟩
      · obtain ⟨vs, k1, k2⟩ := (S2.out.same (w' := (w4.setCell ⟨w.heap.size + 1, 0, none⟩ (.slice ao (putM m x).length ac)).setCell ⟨w.heap.size + 1, 1, none⟩ (.slice bo (putL m ll x).length bc)) (fun bb h1 h2 => by
          rw [Below.heap_setCell _ _ _ _ (by simp; omega), Below.heap_setCell _ _ _ _ (by simp; omega)])).wide (base' := w.heap.size) (by omega)
        exact ⟨vs, k1, k2.same (by simp) fun _ _ _ _ => rfl⟩
      · exact (BW.setCell (by simp) _).setCell (by simp) _
end Go.Proofs.Ytocgdbinfmdkcaa

namespace Go.Proofs.Ytocgdbinfmdkcaa
open Go.RowKit
set_option linter.unusedVariables false
set_option linter.unusedSimpArgs false

theorem res_done {x : EV} {m : List EV} {ll : List (List EV)} {w w' : World} {e : Ending} {PM : List EV} {PL : List (List EV)} {v5 v6 : Value} {b : Bool} (h1 : resM m ll x = PM) (h2 : resL m ll x = PL) (h3 : putK m ll x = b) (he : e = .returned (.tuple #[.agg #[v5, v6], .bool b])) (hE : EntRow w' v5 PM) (hR : RunRow w' v6 PL) (hB : Below w.heap.size w w') :
    ∃ ao ac bo bc, e = .returned (.tuple #[.agg #[.slice ao (resM m ll x).length ac, .slice bo (resL m ll x).length bc], .bool (putK m ll x)]) ∧ EntRow w' (.slice ao (resM m ll x).length ac) (resM m ll x) ∧ RunRow w' (.slice bo (resL m ll x).length bc) (resL m ll x) ∧ Below w.heap.size w w' := by
  subst h1 h2 h3
  obtain ⟨a, b, rfl⟩ := hE.slice
  obtain ⟨c, d, rfl⟩ := hR.slice
  exact ⟨a, b, c, d, he, hE, hR, hB⟩

set_option maxRecDepth 100000 in
set_option maxHeartbeats 4000000 in
theorem specSeenPut (x : EV) (m : List EV) (ll : List (List EV)) (p q : Value) (w : World) (hm : m.length ≤ 1048576) (hn : ll.length ≤ 1048576) (hf : ∀ i, i < ll.length → (ll.getD i []).length ≤ 1048576) (hx : x.s.size ≤ 1048576) (hp : EntRow w p m) (hq : RunRow w q ll) :
    Calls Try.prog 11 #[.agg #[p, q], .string x.s, .int .i64 x.k] w fun e w' => ∃ ao ac bo bc, e = .returned (.tuple #[.agg #[.slice ao (resM m ll x).length ac, .slice bo (resL m ll x).length bc], .bool (putK m ll x)]) ∧ EntRow w' (.slice ao (resM m ll x).length ac) (resM m ll x) ∧ RunRow w' (.slice bo (resL m ll x).length bc) (resL m ll x) ∧ Below w.heap.size w w' := by
  obtain ⟨O, hO⟩ : ∃ O, O = (w.alloc (.cells #[p, q] 27)).alloc (.cells #[.slice none 0 0, .slice none 0 0] 27) := ⟨_, rfl⟩
  have bO : Below w.heap.size w O := by rw [hO]; exact ((Below.refl _ _).alloc (Nat.le_refl _) _).alloc (by simp) _
  have hzO : w.heap.size + 2 ≤ O.heap.size := by rw [hO]; simp
  have A0 : BAt O w.heap.size [p, q] := by rw [hO]; exact (BAt.new w #[p, q] _).alloc _
  have HR0 : O.heap[w.heap.size + 1]? = some (.cells #[.slice none 0 0, .slice none 0 0] 27 (0, 0)) := by
    rw [hO]
    have := heap_alloc_new (w.alloc (.cells #[p, q] 27)) (.cells #[.slice none 0 0, .slice none 0 0] 27)
    rwa [World.size_alloc] at this
  have CK := hidM (specSeenOk m ll p q O hm hn hf (hp.below bO) (hq.below bO))
  have CO : Hid (∀ W, Below w.heap.size w W → Calls Try.prog 35 #[.agg #[p, q]] W fun e w' => ∃ p' q', e = .returned (.agg #[p', q']) ∧ w'.ownsRow W.heap.size 35 2 p' m.length (ecells m) ∧ RunOwn w' W.heap.size w'.heap.size q' ll ∧ Below W.heap.size W w') := fun W hW => specCopy m ll p q W hm hn hf (hp.below hW) (hq.below hW)
  have CP : Hid (sokS m ll = true → ∀ W, Below w.heap.size w W → Calls Try.prog 36 #[.agg #[p, q], .string x.s, .int .i64 x.k] W fun e w' => ∃ ao ac bo bc, e = .returned (.agg #[.slice ao (putM m x).length ac, .slice bo (putL m ll x).length bc]) ∧ EntRow w' (.slice ao (putM m x).length ac) (putM m x) ∧ RunRow w' (.slice bo (putL m ll x).length bc) (putL m ll x) ∧ Below W.heap.size W w') := fun h W hW => specL15Put x m ll p q W h (hp.below hW) (hq.below hW)
  obtain ⟨pa, pc, rfl⟩ := hp.slice
  obtain ⟨qa, qc, rfl⟩ := hq.slice
  have HA0 : Hid (∀ W, Below O.heap.size O W → BAt W w.heap.size [.slice pa m.length pc, .slice qa ll.length qc]) := fun W hW => A0.below hW
  have c0 := A0.1 0 _ rfl
  have c1 := A0.1 1 _ rfl
  clear hp hq hf A0
  have no : putK m ll x = false → resM m ll x = m ∧ resL m ll x = ll := fun h => by unfold resM resL; rw [h]; exact ⟨rfl, rfl⟩
  have yes : putK m ll x = true → resM m ll x = putM m x ∧ resL m ll x = putL m ll x := fun h => by unfold resM resL; rw [h]; exact ⟨rfl, rfl⟩
  have HB := hidM (putK_spec (m := m) (ll := ll) (x := x))
  have HFull : Hid (sokS m ll = true → ∀ i, i < (putL m ll x).length → 0 < ((putL m ll x).getD i []).length) := fun h => lastR_full (putR_full (sokS_full h))
  obtain ⟨kb, hkb⟩ : ∃ kb, kb = (decide ((1 : Int) ≤ (x.s.size : Int)) && decide ((x.s.size : Int) ≤ 2000)) := ⟨_, rfl⟩
  obtain ⟨sb, hsb⟩ : ∃ sb, sb = (decide ((1 : Int) ≤ x.k) && decide (x.k ≤ 3)) := ⟨_, rfl⟩
  have CI1 : Hid (∀ W, Calls Try.prog 34 #[.int .i64 (x.s.size : Int), .int .i64 1, .int .i64 2000] W fun e w' => e = .returned (.bool kb) ∧ Below W.heap.size W w') := fun W => by rw [hkb]; exact specIn15 _ _ _ W
  have CI2 : Hid (∀ W, Calls Try.prog 34 #[.int .i64 x.k, .int .i64 1, .int .i64 3] W fun e w' => e = .returned (.bool sb) ∧ Below W.heap.size W w') := fun W => by rw [hsb]; exact specIn15 _ _ _ W
  have HM : Hid (sokM x = (kb && sb)) := hidM (by
    unfold sokM
    rw [hkb, hsb]
    congr 1
    congr 1
    · exact decide_eq_decide.2 (by omega)
    · exact decide_eq_decide.2 (by omega))
  clear hkb hsb
  cases hk : sokS m ll with
  | false =>
    have HBF : Hid (putK m ll x = false) := hidM (by rw [HB.out, hk]; rfl)
    rw [hk] at CK
    go_enter Try.func11, Try.ntmps11
    go_upto_region 1 with fail
    rw [← hO]
    clear hO
    go_wp2_with fail
    refine CK.out.mono ?_
    rintro e w1 ⟨rfl, b1⟩
    clear CK c0 c1
    have BX := b1
    have d0 := (HA0.out _ BX).1 0 _ rfl
    have d1 := (HA0.out _ BX).1 1 _ rfl
    have BY := BX
    have CO2 := hidM (CO.out _ (bO.trans (BY.mono bO.size)))
    clear CO
    go_wp2_with fail
    refine CO2.out.mono ?_
    rintro e w4 ⟨p4, q4, rfl, o4, r4, b4⟩
    have B4 := BY.trans (b4.mono BY.size)
    obtain ⟨vs4, n4, e4⟩ := r4.els
    obtain ⟨ma, mc, hme⟩ := (EntRow.of_own' o4).slice
    obtain ⟨ra, rc, hre⟩ := (e4.row n4).slice
    subst hme hre
    have HRz := (B4.block (w.heap.size + 1) (by omega)).trans HR0
    obtain ⟨hsZ, AZ⟩ := two_set (.slice ma m.length mc) (.slice ra ll.length rc) HRz
    have r0 : w4.cell? ⟨w.heap.size + 1, 0, none⟩ = some (.slice none 0 0) := by rw [cell_of_row w4 _ _ _ _ (0, 0) HRz]; rfl
    have r1 : w4.cell? ⟨w.heap.size + 1, 1, none⟩ = some (.slice none 0 0) := by rw [cell_of_row w4 _ _ _ _ (0, 0) HRz]; rfl
    have f0 : w4.frozen? ⟨w.heap.size + 1, 0, none⟩ = false := frozen_of_row _ _ _ _ _ HRz
    have f1 : w4.frozen? ⟨w.heap.size + 1, 1, none⟩ = false := frozen_of_row _ _ _ _ _ HRz
    have OF := hidM (own_far o4 HRz (by decide) hsZ)
    have NF := hidM (own_far n4 HRz (by decide) hsZ)
    have EF := hidM (e4.far HRz (by decide) hsZ)
    have BF : Below w.heap.size w ((w4.setCell ⟨w.heap.size + 1, 0, none⟩ (.slice ma m.length mc)).setCell ⟨w.heap.size + 1, 1, none⟩ (.slice ra ll.length rc)) := ((bO.trans (B4.mono bO.size)).setCell (by simp) _).setCell (by simp) _
    clear hsZ CO2 o4 n4 e4 r4 b4
    go_wp2_with fail
    refine bodyPost_ret (seen_result2 rfl _ _ (w.heap.size + 1) _ _ _ rfl rfl AZ) rfl ?_
    exact res_done (no HBF.out).1 (no HBF.out).2 HBF.out rfl (EntRow.of_own' OF.out) (EF.out.row NF.out) BF
  | true =>
    rw [hk] at CK
    cases kb with
    | false =>
      have HBF : Hid (putK m ll x = false) := hidM (by rw [HB.out, HM.out, hk]; rfl)
      go_enter Try.func11, Try.ntmps11
      go_upto_region 1 with fail
      rw [← hO]
      clear hO
      go_wp2_with fail
      refine CK.out.mono ?_
      rintro e w1 ⟨rfl, b1⟩
      clear CK c0 c1
      go_wp2_with fail
      refine (CI1.out _).mono ?_
      rintro e w2 ⟨rfl, b2⟩
      have b2O := b1.trans (b2.mono b1.size)
      have BX := b2O
      have d0 := (HA0.out _ BX).1 0 _ rfl
      have d1 := (HA0.out _ BX).1 1 _ rfl
      have BY := BX
      have CO2 := hidM (CO.out _ (bO.trans (BY.mono bO.size)))
      clear CO
      go_wp2_with fail
      refine CO2.out.mono ?_
      rintro e w4 ⟨p4, q4, rfl, o4, r4, b4⟩
      have B4 := BY.trans (b4.mono BY.size)
      obtain ⟨vs4, n4, e4⟩ := r4.els
      obtain ⟨ma, mc, hme⟩ := (EntRow.of_own' o4).slice
      obtain ⟨ra, rc, hre⟩ := (e4.row n4).slice
      subst hme hre
      have HRz := (B4.block (w.heap.size + 1) (by omega)).trans HR0
      obtain ⟨hsZ, AZ⟩ := two_set (.slice ma m.length mc) (.slice ra ll.length rc) HRz
      have r0 : w4.cell? ⟨w.heap.size + 1, 0, none⟩ = some (.slice none 0 0) := by rw [cell_of_row w4 _ _ _ _ (0, 0) HRz]; rfl
      have r1 : w4.cell? ⟨w.heap.size + 1, 1, none⟩ = some (.slice none 0 0) := by rw [cell_of_row w4 _ _ _ _ (0, 0) HRz]; rfl
      have f0 : w4.frozen? ⟨w.heap.size + 1, 0, none⟩ = false := frozen_of_row _ _ _ _ _ HRz
      have f1 : w4.frozen? ⟨w.heap.size + 1, 1, none⟩ = false := frozen_of_row _ _ _ _ _ HRz
      have OF := hidM (own_far o4 HRz (by decide) hsZ)
      have NF := hidM (own_far n4 HRz (by decide) hsZ)
      have EF := hidM (e4.far HRz (by decide) hsZ)
      have BF : Below w.heap.size w ((w4.setCell ⟨w.heap.size + 1, 0, none⟩ (.slice ma m.length mc)).setCell ⟨w.heap.size + 1, 1, none⟩ (.slice ra ll.length rc)) := ((bO.trans (B4.mono bO.size)).setCell (by simp) _).setCell (by simp) _
      clear hsZ CO2 o4 n4 e4 r4 b4
      go_wp2_with fail
      refine bodyPost_ret (seen_result2 rfl _ _ (w.heap.size + 1) _ _ _ rfl rfl AZ) rfl ?_
      exact res_done (no HBF.out).1 (no HBF.out).2 HBF.out rfl (EntRow.of_own' OF.out) (EF.out.row NF.out) BF
    | true =>
      cases sb with
      | false =>
        have HBF : Hid (putK m ll x = false) := hidM (by rw [HB.out, HM.out, hk]; rfl)
        go_enter Try.func11, Try.ntmps11
        go_upto_region 1 with fail
        rw [← hO]
        clear hO
        go_wp2_with fail
        refine CK.out.mono ?_
        rintro e w1 ⟨rfl, b1⟩
        clear CK c0 c1
        go_wp2_with fail
        refine (CI1.out _).mono ?_
        rintro e w2 ⟨rfl, b2⟩
        have b2O := b1.trans (b2.mono b1.size)
        go_wp2_with fail
        refine (CI2.out _).mono ?_
        rintro e w3 ⟨rfl, b3⟩
        have b3O := b2O.trans (b3.mono b2O.size)
        have BX := b3O
        have d0 := (HA0.out _ BX).1 0 _ rfl
        have d1 := (HA0.out _ BX).1 1 _ rfl
        have BY := BX
        have CO2 := hidM (CO.out _ (bO.trans (BY.mono bO.size)))
        clear CO
        go_wp2_with fail
        refine CO2.out.mono ?_
        rintro e w4 ⟨p4, q4, rfl, o4, r4, b4⟩
        have B4 := BY.trans (b4.mono BY.size)
        obtain ⟨vs4, n4, e4⟩ := r4.els
        obtain ⟨ma, mc, hme⟩ := (EntRow.of_own' o4).slice
        obtain ⟨ra, rc, hre⟩ := (e4.row n4).slice
        subst hme hre
        have HRz := (B4.block (w.heap.size + 1) (by omega)).trans HR0
        obtain ⟨hsZ, AZ⟩ := two_set (.slice ma m.length mc) (.slice ra ll.length rc) HRz
        have r0 : w4.cell? ⟨w.heap.size + 1, 0, none⟩ = some (.slice none 0 0) := by rw [cell_of_row w4 _ _ _ _ (0, 0) HRz]; rfl
        have r1 : w4.cell? ⟨w.heap.size + 1, 1, none⟩ = some (.slice none 0 0) := by rw [cell_of_row w4 _ _ _ _ (0, 0) HRz]; rfl
        have f0 : w4.frozen? ⟨w.heap.size + 1, 0, none⟩ = false := frozen_of_row _ _ _ _ _ HRz
        have f1 : w4.frozen? ⟨w.heap.size + 1, 1, none⟩ = false := frozen_of_row _ _ _ _ _ HRz
        have OF := hidM (own_far o4 HRz (by decide) hsZ)
        have NF := hidM (own_far n4 HRz (by decide) hsZ)
        have EF := hidM (e4.far HRz (by decide) hsZ)
        have BF : Below w.heap.size w ((w4.setCell ⟨w.heap.size + 1, 0, none⟩ (.slice ma m.length mc)).setCell ⟨w.heap.size + 1, 1, none⟩ (.slice ra ll.length rc)) := ((bO.trans (B4.mono bO.size)).setCell (by simp) _).setCell (by simp) _
        clear hsZ CO2 o4 n4 e4 r4 b4
        go_wp2_with fail
        refine bodyPost_ret (seen_result2 rfl _ _ (w.heap.size + 1) _ _ _ rfl rfl AZ) rfl ?_
        exact res_done (no HBF.out).1 (no HBF.out).2 HBF.out rfl (EntRow.of_own' OF.out) (EF.out.row NF.out) BF
      | true =>
        go_enter Try.func11, Try.ntmps11
        go_upto_region 1 with fail
        rw [← hO]
        clear hO
        go_wp2_with fail
        refine CK.out.mono ?_
        rintro e w1 ⟨rfl, b1⟩
        clear CK c0 c1
        go_wp2_with fail
        refine (CI1.out _).mono ?_
        rintro e w2 ⟨rfl, b2⟩
        have b2O := b1.trans (b2.mono b1.size)
        go_wp2_with fail
        refine (CI2.out _).mono ?_
        rintro e w3 ⟨rfl, b3⟩
        have b3O := b2O.trans (b3.mono b2O.size)
        have d0 := (HA0.out _ b3O).1 0 _ rfl
        have d1 := (HA0.out _ b3O).1 1 _ rfl
        have CP2 := hidM (CP.out hk _ (bO.trans (b3O.mono bO.size)))
        clear CP CI1 CI2
        go_wp2_with fail
        refine CP2.out.mono ?_
        rintro e w5 ⟨ma, mc, ra, rc, rfl, e5, r5, b5⟩
        have b5O := b3O.trans (b5.mono b3O.size)
        obtain ⟨U, hU⟩ : ∃ U, U = w5.alloc (.cells #[.slice ma (putM m x).length mc, .slice ra (putL m ll x).length rc] 27) := ⟨_, rfl⟩
        have bU : Below w5.heap.size w5 U := by rw [hU]; exact (Below.refl _ _).alloc (Nat.le_refl _) _
        have AU : BAt U w5.heap.size [.slice ma (putM m x).length mc, .slice ra (putL m ll x).length rc] := by rw [hU]; exact BAt.new w5 #[.slice ma (putM m x).length mc, .slice ra (putL m ll x).length rc] _
        have bUO := b5O.trans (bU.mono b5O.size)
        have EU := hidM (e5.below bU)
        have RU := hidM (r5.below bU)
        obtain ⟨z1, z2, z3⟩ := put_small (x := x) hk
        have CK2 := hidM (specSeenOk (putM m x) (putL m ll x) _ _ U (by omega) (by omega) (fun i hi => by have := z3 i hi; omega) EU.out RU.out)
        have u0 := AU.1 0 _ rfl
        have u1 := AU.1 1 _ rfl
        go_upto_region 4 with fail
        rw [← hU]
        clear hU bU b5 e5 r5 CP2 d0 d1 b5O b1 b2 b3 b2O b3O
        generalize w5.heap.size = D2 at *
        cases hk2 : sokS (putM m x) (putL m ll x) with
        | false =>
          have HBF : Hid (putK m ll x = false) := hidM (by rw [HB.out, hk2, Bool.and_false])
          rw [hk2] at CK2
          go_wp2_with fail
          refine CK2.out.mono ?_
          rintro e w6 ⟨rfl, b6⟩
          have BX := bUO.trans (b6.mono bUO.size)
          clear CK2 u0 u1 EU RU AU
          have d0 := (HA0.out _ BX).1 0 _ rfl
          have d1 := (HA0.out _ BX).1 1 _ rfl
          have BY := BX
          have CO2 := hidM (CO.out _ (bO.trans (BY.mono bO.size)))
          clear CO
          go_wp2_with fail
          refine CO2.out.mono ?_
          rintro e w4 ⟨p4, q4, rfl, o4, r4, b4⟩
          have B4 := BY.trans (b4.mono BY.size)
          obtain ⟨vs4, n4, e4⟩ := r4.els
          obtain ⟨ma, mc, hme⟩ := (EntRow.of_own' o4).slice
          obtain ⟨ra, rc, hre⟩ := (e4.row n4).slice
          subst hme hre
          have HRz := (B4.block (w.heap.size + 1) (by omega)).trans HR0
          obtain ⟨hsZ, AZ⟩ := two_set (.slice ma m.length mc) (.slice ra ll.length rc) HRz
          have r0 : w4.cell? ⟨w.heap.size + 1, 0, none⟩ = some (.slice none 0 0) := by rw [cell_of_row w4 _ _ _ _ (0, 0) HRz]; rfl
          have r1 : w4.cell? ⟨w.heap.size + 1, 1, none⟩ = some (.slice none 0 0) := by rw [cell_of_row w4 _ _ _ _ (0, 0) HRz]; rfl
          have f0 : w4.frozen? ⟨w.heap.size + 1, 0, none⟩ = false := frozen_of_row _ _ _ _ _ HRz
          have f1 : w4.frozen? ⟨w.heap.size + 1, 1, none⟩ = false := frozen_of_row _ _ _ _ _ HRz
          have OF := hidM (own_far o4 HRz (by decide) hsZ)
          have NF := hidM (own_far n4 HRz (by decide) hsZ)
          have EF := hidM (e4.far HRz (by decide) hsZ)
          have BF : Below w.heap.size w ((w4.setCell ⟨w.heap.size + 1, 0, none⟩ (.slice ma m.length mc)).setCell ⟨w.heap.size + 1, 1, none⟩ (.slice ra ll.length rc)) := ((bO.trans (B4.mono bO.size)).setCell (by simp) _).setCell (by simp) _
          clear hsZ CO2 o4 n4 e4 r4 b4
          go_wp2_with fail
          refine bodyPost_ret (seen_result2 rfl _ _ (w.heap.size + 1) _ _ _ rfl rfl AZ) rfl ?_
          exact res_done (no HBF.out).1 (no HBF.out).2 HBF.out rfl (EntRow.of_own' OF.out) (EF.out.row NF.out) BF
        | true =>
          have HBT : Hid (putK m ll x = true) := hidM (by rw [HB.out, HM.out, hk, hk2]; rfl)
          rw [hk2] at CK2
          go_wp2_with fail
          refine CK2.out.mono ?_
          rintro e w6 ⟨rfl, b6⟩
          have BX := bUO.trans (b6.mono bUO.size)
          have d0 := (AU.below b6).1 0 _ rfl
          have d1 := (AU.below b6).1 1 _ rfl
          have E6 := EU.out.below b6
          have R6 := RU.out.below b6
          have HRz := (BX.block (w.heap.size + 1) (by omega)).trans HR0
          obtain ⟨hsZ, AZ⟩ := two_set (.slice ma (putM m x).length mc) (.slice ra (putL m ll x).length rc) HRz
          have r0 : w6.cell? ⟨w.heap.size + 1, 0, none⟩ = some (.slice none 0 0) := by rw [cell_of_row w6 _ _ _ _ (0, 0) HRz]; rfl
          have r1 : w6.cell? ⟨w.heap.size + 1, 1, none⟩ = some (.slice none 0 0) := by rw [cell_of_row w6 _ _ _ _ (0, 0) HRz]; rfl
          have f0 : w6.frozen? ⟨w.heap.size + 1, 0, none⟩ = false := frozen_of_row _ _ _ _ _ HRz
          have f1 : w6.frozen? ⟨w.heap.size + 1, 1, none⟩ = false := frozen_of_row _ _ _ _ _ HRz
          have EF := hidM (EntRow.off E6 HRz (by simp) hsZ)
          have RF := hidM (RunRow.off R6 (HFull.out hk) HRz (by simp) hsZ)
          have BF : Below w.heap.size w ((w6.setCell ⟨w.heap.size + 1, 0, none⟩ (.slice ma (putM m x).length mc)).setCell ⟨w.heap.size + 1, 1, none⟩ (.slice ra (putL m ll x).length rc)) := ((bO.trans (BX.mono bO.size)).setCell (by simp) _).setCell (by simp) _
          clear hsZ CK2 u0 u1 EU RU AU E6 R6
          go_wp2_with fail
          refine bodyPost_ret (seen_result2 rfl _ _ (w.heap.size + 1) _ _ _ rfl rfl AZ) rfl ?_
          exact res_done (yes HBT.out).1 (yes HBT.out).2 HBT.out rfl EF.out RF.out BF
end Go.Proofs.Ytocgdbinfmdkcaa

namespace Go.Proofs.Ytocgdbinfmdkcaa
open Go.RowKit
set_option linter.unusedVariables false

theorem res_sz {m : List EV} {ll : List (List EV)} (x : EV) (h : sumEn m + sumR ll ≤ 1048576) : (resM m ll x).length ≤ 1048576 ∧ (resL m ll x).length ≤ 1048576 ∧ (∀ i, i < (resL m ll x).length → ((resL m ll x).getD i []).length ≤ 1048576) ∧ kS m ll ≤ 1000000000 ∧ kS (resM m ll x) (resL m ll x) ≤ 1000000000 := by
  obtain ⟨h1, h2, h3⟩ := seen_sz h
  have h4 := seen_lens h
  have hk : kS m ll ≤ 1000000000 := by rw [kS_flat]; omega
  unfold resM resL
  cases hb : putK m ll x with
  | false =>
    rw [if_neg (by decide), if_neg (by decide)]
    exact ⟨h1, h2, h3, hk, hk⟩
  | true =>
    rw [if_pos rfl, if_pos rfl]
    unfold putK at hb
    rw [Bool.and_eq_true] at hb
    obtain ⟨g1, g2, g3⟩ := sokS_sz hb.2
    rw [List.length_append] at g3
    refine ⟨by omega, by omega, fun i hi => ?_, hk, ?_⟩
    · have := flat_at hi
      omega
    · rw [kS_flat]
      omega
end Go.Proofs.Ytocgdbinfmdkcaa
