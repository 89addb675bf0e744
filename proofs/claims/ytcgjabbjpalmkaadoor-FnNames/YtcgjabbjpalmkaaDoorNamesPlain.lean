/- Names, plainly: labels of a text one by one, put together; a name's name is itself. -/
import Derived.Test.YtcgjabbjpalmkaaDoorRows
import Derived.Test.YtcgjabbjpalmkaaDoorNamePlain
import Derived.Test.YtcgjabbjpalmkaaDoorJoinPlain
import Derived.Lib.Join
namespace Go.Proofs.YtcgjabbjpalmkaaDoor
open Go.RowKit

def ascB (s : ByteArray) : Option ByteArray := match ascL s.data.toList with
  | some t => some ⟨t.toArray⟩
  | none => none
def ascs : List ByteArray → Option (List ByteArray)
  | [] => some []
  | s :: r => match ascB s, ascs r with
    | some a, some b => some (a :: b)
    | _, _ => none
def dropE (fs : List ByteArray) : List ByteArray := if 1 < fs.length ∧ (fs.getD (fs.length - 1) ByteArray.empty).size = 0 then fs.take (fs.length - 1) else fs
def namesL (fs : List ByteArray) : Option (List UInt8) := match ascs fs with
  | some ls => if (jn 46 ls).length ≤ 253 then some (jn 46 ls) else none
  | none => none
def nameL (s : ByteArray) : Option (List UInt8) := namesL (dropE (fieldsL s 46))

theorem ascs_append (a b : List ByteArray) : ascs (a ++ b) = match ascs a, ascs b with
    | some x, some y => some (x ++ y)
    | _, _ => none := by
  induction a with
  | nil =>
    simp only [List.nil_append, ascs]
    cases ascs b <;> rfl
  | cons s r ih =>
    simp only [List.cons_append, ascs, ih]
    cases ascB s <;> cases ascs r <;> cases ascs b <;> rfl

theorem ascs_len : ∀ {fs ls : List ByteArray}, ascs fs = some ls → ls.length = fs.length
  | [], ls, h => by cases h; rfl
  | s :: r, ls, h => by
    rw [ascs] at h
    cases h1 : ascB s with
    | none => rw [h1] at h; cases h
    | some a =>
      cases h2 : ascs r with
      | none => rw [h1, h2] at h; cases h
      | some b =>
        rw [h1, h2] at h
        cases h
        rw [List.length_cons, List.length_cons, ascs_len h2]

theorem ascs_mem : ∀ {fs ls : List ByteArray}, ascs fs = some ls → ∀ a ∈ ls, ∃ s ∈ fs, ascB s = some a
  | [], ls, h => by cases h; intro a ha; simp at ha
  | s :: r, ls, h => by
    rw [ascs] at h
    cases h1 : ascB s with
    | none => rw [h1] at h; cases h
    | some x =>
      cases h2 : ascs r with
      | none => rw [h1, h2] at h; cases h
      | some b =>
        rw [h1, h2] at h
        cases h
        intro a ha
        rcases List.mem_cons.1 ha with rfl | hb
        · exact ⟨s, List.mem_cons_self, h1⟩
        · obtain ⟨q, hq, e⟩ := ascs_mem h2 a hb
          exact ⟨q, List.mem_cons_of_mem _ hq, e⟩

theorem ascB_lab {s a : ByteArray} (h : ascB s = some a) : labL a.data.toList = true ∧ ascB a = some a := by
  unfold ascB at h
  cases hs : ascL s.data.toList with
  | none => rw [hs] at h; cases h
  | some t =>
    rw [hs] at h
    cases h
    refine ⟨ascL_lab hs, ?_⟩
    unfold ascB
    rw [show (⟨t.toArray⟩ : ByteArray).data.toList = t from rfl, ascL_idem hs]

theorem ascs_labs {fs ls : List ByteArray} (h : ascs fs = some ls) : ∀ a ∈ ls, labL a.data.toList = true ∧ ascB a = some a := fun a ha => by
  obtain ⟨s, _, e⟩ := ascs_mem h a ha
  exact ascB_lab e

theorem ascs_self : ∀ {ls : List ByteArray}, (∀ a ∈ ls, ascB a = some a) → ascs ls = some ls
  | [], _ => rfl
  | a :: r, h => by
    rw [ascs, h a List.mem_cons_self, ascs_self fun b hb => h b (List.mem_cons_of_mem _ hb)]

theorem jn_le (sep : UInt8) (a b : List ByteArray) : (jn sep a).length ≤ (jn sep (a ++ b)).length := by
  cases a with
  | nil => simp [jn]
  | cons x xs => simp [jn, List.flatMap_append]

theorem flat_bound (sep : UInt8) : ∀ (ys : List ByteArray), (∀ a ∈ ys, a.size ≤ 63) → (ys.flatMap fun y => sep :: y.data.toList).length ≤ 64 * ys.length
  | [], _ => by simp
  | y :: ys, hh => by
    have h2 := hh y List.mem_cons_self
    have hy : y.data.toList.length = y.size := by simp
    have h3 := flat_bound sep ys fun a ha => hh a (List.mem_cons_of_mem _ ha)
    rw [List.flatMap_cons, List.length_append, List.length_cons, List.length_cons]
    omega
theorem jn_bound (sep : UInt8) (ls : List ByteArray) (h : ∀ a ∈ ls, a.size ≤ 63) : (jn sep ls).length ≤ 64 * ls.length := by
  cases ls with
  | nil => simp [jn]
  | cons x xs =>
    have h1 := h x List.mem_cons_self
    have hx : x.data.toList.length = x.size := by simp
    have h3 := flat_bound sep xs fun a ha => h a (List.mem_cons_of_mem _ ha)
    unfold jn
    rw [List.length_append, List.length_cons]
    omega

theorem jn_join (ls : List ByteArray) : Lib.join (ls.map (·.data.toList)) [46] = jn 46 ls := by
  cases ls with
  | nil => rfl
  | cons x xs =>
    unfold jn
    induction xs generalizing x with
    | nil => simp [Lib.join, List.intercalate]
    | cons y ys ih =>
      have h := ih y
      simp only [Lib.join, List.intercalate, List.map_cons] at h ⊢
      rw [List.intersperse_cons_cons, List.flatten_cons, List.flatten_cons, h, List.flatMap_cons]
      simp

theorem labs_size {ls : List ByteArray} (h : ∀ a ∈ ls, labL a.data.toList = true ∧ ascB a = some a) : ∀ a ∈ ls, a.size ≤ 63 := fun a ha => by
  have := (labL_parts (h a ha).1).2.1
  simpa using this

theorem namesL_no {fs : List ByteArray} (h : ascs fs = none) : namesL fs = none := by unfold namesL; rw [h]
theorem namesL_big {fs ls : List ByteArray} (h : ascs fs = some ls) (h2 : ¬ (jn 46 ls).length ≤ 253) : namesL fs = none := by unfold namesL; rw [h]; exact if_neg h2
theorem namesL_yes {fs ls : List ByteArray} (h : ascs fs = some ls) (h2 : (jn 46 ls).length ≤ 253) : namesL fs = some (jn 46 ls) := by unfold namesL; rw [h]; exact if_pos h2

theorem dropE_pos {fs : List ByteArray} (h : 0 < fs.length) : 0 < (dropE fs).length := by
  unfold dropE
  split
  · rw [List.length_take]; omega
  · exact h
theorem dropE_le (fs : List ByteArray) : (dropE fs).length ≤ fs.length := by
  unfold dropE
  split
  · rw [List.length_take]; omega
  · exact Nat.le_refl _
theorem dropE_sizes {fs : List ByteArray} {n : Nat} (h : ∀ x ∈ fs, x.size ≤ n) : ∀ x ∈ dropE fs, x.size ≤ n := by
  intro x hx
  unfold dropE at hx
  split at hx
  · exact h x (List.mem_of_mem_take hx)
  · exact h x hx
end Go.Proofs.YtcgjabbjpalmkaaDoor
