/- Rows of truths in a block of a call's own. -/
import Derived.Test.YtbjidcejpdeegaaRows
import Derived.Test.YtbjidcejpdeegaaBlockAt
import Derived.Test.YtbjidcejpdeegaaMatchPlain
namespace Go.Proofs.Ytbjidcejpdeegaa
open Go.RowKit

/-- The truths of the places 0 to n. -/
def bcl (f : Nat → Bool) (n : Nat) : List Value := (List.range (n + 1)).map fun k => .bool (f k)
theorem bcl_len (f : Nat → Bool) (n : Nat) : (bcl f n).length = n + 1 := by simp [bcl]
theorem bcl_get (f : Nat → Bool) {n k : Nat} (h : k ≤ n) : (bcl f n)[k]? = some (.bool (f k)) := by
  unfold bcl
  rw [List.getElem?_map, List.getElem?_range (by omega)]
  rfl
theorem bcl_set (f g : Nat → Bool) {n k : Nat} (hk : k ≤ n) (h : ∀ j, j ≤ n → j ≠ k → f j = g j) : (bcl f n).set k (.bool (g k)) = bcl g n := by
  apply List.ext_getElem?
  intro i
  rw [List.getElem?_set]
  by_cases e : k = i
  · subst e
    rw [if_pos rfl, bcl_len, if_pos (by omega), bcl_get g hk]
  · rw [if_neg e]
    by_cases hi : i ≤ n
    · rw [bcl_get f hi, bcl_get g hi, h i hi (Ne.symm e)]
    · rw [List.getElem?_eq_none (by rw [bcl_len]; omega), List.getElem?_eq_none (by rw [bcl_len]; omega)]
theorem bcl_put (f g : Nat → Bool) {n k : Nat} {b : Bool} (hk : k ≤ n) (h : ∀ j, j ≤ n → j ≠ k → f j = g j) (hb : g k = b) : (bcl f n).set k (.bool b) = bcl g n := by
  subst hb
  exact bcl_set f g hk h
theorem bcl_same (f g : Nat → Bool) {n : Nat} (h : ∀ j, j ≤ n → f j = g j) : bcl f n = bcl g n := by
  unfold bcl
  refine List.map_congr_left fun j hj => ?_
  rw [h j (by have := List.mem_range.1 hj; omega)]
theorem bat_made {w : World} {base : Nat} {e : TypeId} {g n : Nat} (h : w.ownsRow base e 1 (.slice (some ⟨g, 0, none⟩) (n + 1) (n + 1)) (n + 1) (madeCells #[Value.bool false] (n + 1)).toList) :
    BAt w g (bcl (fun _ => false) n) := by
  refine ⟨fun j v hv => ?_, fun j => h.frozenAt j, (h.lt g rfl).2⟩
  have hj : j < n + 1 := by
    rcases Nat.lt_or_ge j (n + 1) with h1 | h1
    · exact h1
    · rw [List.getElem?_eq_none (by rw [bcl_len]; omega)] at hv
      cases hv
  rw [bcl_get _ (by omega)] at hv
  rw [h.cellAt j (by omega), ← hv]
  simp [madeCells, hj, Nat.mod_one]
/-- The truths of the places below k, as they shall be; none behind. -/
def uptoF (F : Nat → Bool) (k j : Nat) : Bool := decide (j < k) && F j
theorem upto_put (F : Nat → Bool) {n k : Nat} {b : Bool} (hk : k ≤ n) (hb : F k = b) : (bcl (uptoF F k) n).set k (.bool b) = bcl (uptoF F (k + 1)) n := by
  refine bcl_put _ _ hk (fun j _ hne => ?_) (by unfold uptoF; rw [decide_eq_true (Nat.lt_succ_self k), hb]; rfl)
  unfold uptoF
  by_cases h : j < k
  · rw [decide_eq_true h, decide_eq_true (by omega)]
  · rw [decide_eq_false h, decide_eq_false (by omega)]
theorem upto_skip (F : Nat → Bool) {n k : Nat} (hk : k ≤ n) (hb : F k = false) : bcl (uptoF F k) n = bcl (uptoF F (k + 1)) n := by
  refine bcl_same _ _ fun j _ => ?_
  unfold uptoF
  by_cases h : j < k
  · rw [decide_eq_true h, decide_eq_true (by omega)]
  · by_cases e : j = k
    · subst e; rw [hb]; simp
    · rw [decide_eq_false h, decide_eq_false (by omega)]
theorem upto_all (F : Nat → Bool) (n : Nat) : bcl (uptoF F (n + 1)) n = bcl F n := bcl_same _ _ fun j hj => by unfold uptoF; rw [decide_eq_true (by omega)]; rfl
theorem upto_zero (F : Nat → Bool) (n : Nat) : bcl (fun _ => false) n = bcl (uptoF F 0) n := bcl_same _ _ fun j hj => by unfold uptoF; rw [decide_eq_false (by omega)]; rfl
theorem upto_at (F : Nat → Bool) {k j : Nat} (h : j < k) : uptoF F k j = F j := by unfold uptoF; rw [decide_eq_true h]; rfl
end Go.Proofs.Ytbjidcejpdeegaa
