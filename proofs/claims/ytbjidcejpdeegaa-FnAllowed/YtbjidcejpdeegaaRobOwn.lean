/- Parts that a call owns: each row of names and of lines in a block of its own. -/
import Derived.Test.YtbjidcejpdeegaaRows
import Derived.Test.YtbjidcejpdeegaaRobRow
namespace Go.Proofs.Ytbjidcejpdeegaa
open Go.RowKit
set_option linter.unusedVariables false

def lcells (l : List LV) : List Value := l.flatMap fun x => [.bool x.al, .string x.pa]
theorem lcells_length : ∀ l : List LV, (lcells l).length = l.length * 2
  | [] => rfl
  | x :: l => by
    have := lcells_length l
    unfold lcells at this ⊢
    rw [List.flatMap_cons, List.length_append, this]
    simp only [List.length_cons, List.length_nil]
    omega
theorem lcells_append (l m : List LV) : lcells (l ++ m) = lcells l ++ lcells m := by unfold lcells; rw [List.flatMap_append]
theorem lcells_cons (x : LV) (l : List LV) : lcells (x :: l) = .bool x.al :: .string x.pa :: lcells l := rfl
theorem lcells_one (x : LV) : lcells [x] = [.bool x.al, .string x.pa] := rfl
theorem lcells_at : ∀ (l : List LV) (i : Nat), i < l.length → (lcells l)[i * 2]? = some (.bool (l.getD i lv0).al) ∧ (lcells l)[i * 2 + 1]? = some (.string (l.getD i lv0).pa)
  | [], i, h => absurd h (Nat.not_lt_zero _)
  | x :: l, 0, _ => ⟨rfl, rfl⟩
  | x :: l, i + 1, h => by
    have := lcells_at l i (by simpa using h)
    rw [lcells_cons, show (i + 1) * 2 = i * 2 + 1 + 1 by omega]
    exact this
theorem lcells_one' (l : List LV) : ∀ u ∈ lcells l, u.oneCell' = true := by
  intro u hu
  obtain ⟨x, _, hx⟩ := List.mem_flatMap.1 hu
  simp at hx
  rcases hx with rfl | rfl <;> rfl
theorem lcells_set (l : List LV) (i : Nat) (h : i < l.length) (x : LV) : ((lcells l).set (i * 2) (.bool x.al)).set (i * 2 + 1) (.string x.pa) = lcells (l.set i x) := by
  refine List.ext_getElem? fun j => ?_
  have hl := lcells_length l
  by_cases hj : j < l.length * 2
  · obtain ⟨m, hm⟩ : ∃ m, m = j / 2 := ⟨_, rfl⟩
    have hml : m < l.length := by omega
    have e0 := lcells_at l m hml
    have e1 := lcells_at (l.set i x) m (by rw [List.length_set]; exact hml)
    have hg : (l.set i x).getD m lv0 = if i = m then x else l.getD m lv0 := by
      rw [List.getD_eq_getElem?_getD, List.getD_eq_getElem?_getD, List.getElem?_set]
      split
      · rename_i he; subst he; simp
      · rfl
    rw [hg] at e1
    by_cases hmod : j % 2 = 0
    · obtain rfl : j = m * 2 := by omega
      rw [e1.1, List.getElem?_set_ne (by omega)]
      by_cases him : i = m
      · subst him; rw [List.getElem?_set_self (by omega), if_pos rfl]
      · rw [List.getElem?_set_ne (by omega), e0.1, if_neg him]
    · obtain rfl : j = m * 2 + 1 := by omega
      rw [e1.2]
      by_cases him : i = m
      · subst him; rw [List.getElem?_set_self (by rw [List.length_set]; omega), if_pos rfl]
      · rw [List.getElem?_set_ne (by omega), List.getElem?_set_ne (by omega), e0.2, if_neg him]
  · rw [List.getElem?_eq_none (by rw [List.length_set, List.length_set]; omega), List.getElem?_eq_none (by rw [lcells_length, List.length_set]; omega)]
theorem LineRow.of_own' {w : World} {base : Nat} {e : TypeId} {v : Value} {l : List LV} (h : w.ownsRow base e 2 v l.length (lcells l)) : LineRow w v l := LineRow.of_own h fun i hi => lcells_at l i hi
/-- Two values that lead to no block in common. -/
def apt (p q : Value) : Prop := ∀ b, p.ownBlock = some b → q.ownBlock ≠ some b
theorem apt.symm {p q : Value} (h : apt p q) : apt q p := fun b e1 e2 => h b e2 e1
/-- What is owned stays owned while its own block stays. -/
theorem own_at {w w' : World} {base : Nat} {e : TypeId} {size n : Nat} {v : Value} {xs : List Value} (h : w.ownsRow base e size v n xs) (hs : ∀ b, v.ownBlock = some b → w'.heap[b]? = w.heap[b]?) : w'.ownsRow base e size v n xs := by
  refine ⟨h.1, ?_⟩
  rcases h.2 with hn | ⟨g, cap, cur, rfl, hb, hgg, rest⟩
  · exact .inl hn
  · exact .inr ⟨g, cap, cur, rfl, hb, (hs g rfl).trans hgg, rest⟩
/-- Nothing but blocks from base up to top has turned, of those that were. -/
structure Only (base top : Nat) (w w' : World) : Prop where
  os : w'.os = w.os
  tape : w'.tape = w.tape
  output : w'.output = w.output
  size : w.heap.size ≤ w'.heap.size
  block : ∀ k, k < w.heap.size → (k < base ∨ top ≤ k) → w'.heap[k]? = w.heap[k]?
theorem Only.refl (base top : Nat) (w : World) : Only base top w w := ⟨rfl, rfl, rfl, Nat.le_refl _, fun _ _ _ => rfl⟩
theorem Only.trans {base top : Nat} {a b c : World} (h : Only base top a b) (k : Only base top b c) : Only base top a c :=
  ⟨k.os.trans h.os, k.tape.trans h.tape, k.output.trans h.output, Nat.le_trans h.size k.size, fun i hi hx => (k.block i (Nat.lt_of_lt_of_le hi h.size) hx).trans (h.block i hi hx)⟩
theorem Only.below {base top : Nat} {w w' : World} (h : Only base top w w') (hb : base ≤ w.heap.size) : Below base w w' := ⟨h.os, h.tape, h.output, h.size, fun k hk => h.block k (by omega) (.inl hk)⟩
theorem Only.of_below {base top : Nat} {w w' : World} (h : Below w.heap.size w w') : Only base top w w' := ⟨h.os, h.tape, h.output, h.size, fun k hk _ => h.block k hk⟩
theorem Only.of_grown {base top : Nat} {w w' : World} {r : Option Nat} (h : w.grownBy w' r) (hr : ∀ b, r = some b → base ≤ b ∧ b < top) : Only base top w w' :=
  ⟨h.os, h.tape, h.output, h.size, fun k hk hx => h.block k hk fun e => by have := hr k e.symm; omega⟩
end Go.Proofs.Ytbjidcejpdeegaa
