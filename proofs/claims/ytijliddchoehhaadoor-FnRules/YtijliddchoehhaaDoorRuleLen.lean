/- How long the text of right rules is. -/
import Derived.Test.YtijliddchoehhaaDoorRows
import Derived.Test.YtijliddchoehhaaDoorRulePlain
namespace Go.Proofs.YtijliddchoehhaaDoor
open Go.RowKit

theorem jf_le (c : UInt8) (m : Nat) : ∀ ls : List ByteArray, (∀ x ∈ ls, x.size ≤ m) → (ls.flatMap fun y => c :: y.data.toList).length ≤ ls.length * (m + 1)
  | [], _ => by simp
  | x :: xs, h => by
    have hx := h x (by simp)
    have hs : x.data.toList.length = x.size := by simp
    have h1 := jf_le c m xs (fun y hy => h y (by simp [hy]))
    rw [List.flatMap_cons, List.length_append, List.length_cons, List.length_cons, hs, Nat.add_mul]
    omega
theorem jn_most (c : UInt8) (m : Nat) (ls : List ByteArray) (h : ∀ x ∈ ls, x.size ≤ m) : (jn c ls).length ≤ ls.length * (m + 1) := by
  cases ls with
  | nil => simp [jn]
  | cons x xs =>
    have hx := h x (by simp)
    have hs : x.data.toList.length = x.size := by simp
    have h1 := jf_le c m xs (fun y hy => h y (by simp [hy]))
    show (x.data.toList ++ xs.flatMap fun y => c :: y.data.toList).length ≤ _
    rw [List.length_append, List.length_cons, hs, Nat.add_mul]
    omega
theorem part_63 {ex : Bool} {n i : Nat} {p : ByteArray} (h : partB ex n i p = true) : p.size ≤ 63 := by
  unfold partB at h
  simp only [Bool.or_eq_true, Bool.and_eq_true, decide_eq_true_eq] at h
  have hs : p.data.toList.length = p.size := by simp
  rcases h with h | h
  · rw [h.1.1] at hs; simp at hs; omega
  · have := (labL_parts h).2.1; omega
theorem ruleT_le {r : RV} (h : ruleB r = true) : (ruleT r).length ≤ 600 := by
  obtain ⟨h1, _, h3⟩ := ruleB_yes h
  have := jn_most 46 63 r.ps.reverse (fun x hx => by
    obtain ⟨i, hi, rfl⟩ := List.getElem_of_mem (List.mem_reverse.1 hx)
    have := h3 i hi
    rw [List.getD_eq_getElem?_getD, List.getElem?_eq_getElem hi] at this
    exact part_63 this)
  unfold ruleT
  rw [List.length_append, List.length_append]
  rw [List.length_reverse] at this
  have h2 : (if r.ex = true then [(33 : UInt8)] else []).length ≤ 1 := by split <;> simp
  have h4 : ([10] : List UInt8).length = 1 := rfl
  have h8 := h1.2
  have : r.ps.length * (63 + 1) ≤ 8 * 64 := Nat.mul_le_mul h8 (Nat.le_refl _)
  omega
theorem flat_le {l : List RV} (h : ∀ r ∈ l, ruleB r = true) : (l.flatMap ruleT).length ≤ l.length * 600 := by
  induction l with
  | nil => simp
  | cons r l ih =>
    have h1 := ruleT_le (h r (by simp))
    have h2 := ih (fun x hx => h x (by simp [hx]))
    rw [List.flatMap_cons, List.length_append, List.length_cons, Nat.add_mul]
    omega
end Go.Proofs.YtijliddchoehhaaDoor
