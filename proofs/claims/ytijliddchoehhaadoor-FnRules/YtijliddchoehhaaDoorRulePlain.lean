/- Rules of sites, plainly: which are right, their text, what is read of a text. -/
import Derived.Test.YtijliddchoehhaaDoorRows
import Derived.Test.YtijliddchoehhaaDoorLabPlain
import Derived.Test.YtijliddchoehhaaDoorJoinPlain
import Derived.Test.YtijliddchoehhaaDoorPartsWalk
namespace Go.Proofs.YtijliddchoehhaaDoor
open Go.RowKit
set_option linter.unusedVariables false

structure RV where
  ps : List ByteArray
  ex : Bool

/-- May a part stand at this place? -/
def partB (ex : Bool) (n i : Nat) (p : ByteArray) : Bool := (decide (p.data.toList = [42]) && decide (i + 1 = n) && !ex) || labL p.data.toList
def ruleB (r : RV) : Bool := decide (1 ≤ r.ps.length ∧ r.ps.length ≤ 8) && (!r.ex || decide (2 ≤ r.ps.length)) && (List.range r.ps.length).all fun i => partB r.ex r.ps.length i (r.ps.getD i ByteArray.empty)
def sameB (a b : RV) : Bool := (a.ex == b.ex) && decide (a.ps = b.ps)
/-- The rule at a place is right, and none ahead of it is the same. -/
def newB (l : List RV) (i : Nat) : Bool := ruleB (l.getD i ⟨[], false⟩) && (List.range i).all fun k => !sameB (l.getD k ⟨[], false⟩) (l.getD i ⟨[], false⟩)
def rulesB (l : List RV) : Bool := ((List.range l.length).all fun i => newB l i) && decide (l.length ≤ 60)

def ruleT (r : RV) : List UInt8 := (if r.ex = true then [33] else []) ++ jn 46 r.ps.reverse ++ [10]
def rulesT (l : List RV) : List UInt8 := if rulesB l = true then l.flatMap ruleT else []

def fitsP (r : RV) (ps : List ByteArray) : Bool := decide (r.ps.length ≤ ps.length) && (List.range r.ps.length).all fun i => decide ((r.ps.getD i ByteArray.empty).data.toList = [42]) || decide (r.ps.getD i ByteArray.empty = ps.getD i ByteArray.empty)
def fitsB (r : RV) (s : ByteArray) : Bool := fitsP r (partsL s)
/-- The most parts of the exceptions that fit, and of the others (at least one). -/
def mostE (ps : List ByteArray) (l : List RV) : Nat := l.foldl (fun m r => if fitsP r ps = true ∧ r.ex = true then max m r.ps.length else m) 0
def mostN (ps : List ByteArray) (l : List RV) : Nat := l.foldl (fun m r => if fitsP r ps = true ∧ r.ex = false then max m r.ps.length else m) 1
def sufN (l : List RV) (ps : List ByteArray) : Nat := if 0 < mostE ps l then mostE ps l - 1 else mostN ps l

theorem ba_eq {a b : ByteArray} : a = b ↔ a.data.toList = b.data.toList := ⟨fun h => by rw [h], fun h => by
  cases a; cases b
  congr
  exact Array.toList_inj.1 h⟩
theorem all_range {n : Nat} {p : Nat → Bool} : (List.range n).all p = true ↔ ∀ i, i < n → p i = true := by
  rw [List.all_eq_true]
  exact ⟨fun h i hi => h i (List.mem_range.2 hi), fun h i hi => h i (List.mem_range.1 hi)⟩
theorem all_range_succ {n : Nat} {p : Nat → Bool} : (List.range (n + 1)).all p = ((List.range n).all p && p n) := by
  rw [List.range_succ, List.all_append]
  simp
theorem ruleB_yes {r : RV} (h : ruleB r = true) : (1 ≤ r.ps.length ∧ r.ps.length ≤ 8) ∧ (r.ex = true → 2 ≤ r.ps.length) ∧ ∀ i, i < r.ps.length → partB r.ex r.ps.length i (r.ps.getD i ByteArray.empty) = true := by
  unfold ruleB at h
  simp only [Bool.and_eq_true, decide_eq_true_eq, Bool.or_eq_true, Bool.not_eq_true'] at h
  obtain ⟨⟨h1, h2⟩, h3⟩ := h
  refine ⟨h1, fun he => ?_, all_range.1 h3⟩
  rcases h2 with h2 | h2
  · rw [he] at h2; cases h2
  · exact h2
/-- A beginning of rules that are right is right. -/
theorem rules_take {l : List RV} (h : rulesB l = true) (k : Nat) : rulesB (l.take k) = true := by
  unfold rulesB at h ⊢
  simp only [Bool.and_eq_true, decide_eq_true_eq] at h ⊢
  obtain ⟨h1, h2⟩ := h
  refine ⟨all_range.2 fun i hi => ?_, by rw [List.length_take]; omega⟩
  rw [List.length_take] at hi
  have hg : ∀ j, j ≤ i → (l.take k).getD j ⟨[], false⟩ = l.getD j ⟨[], false⟩ := fun j hj => by
    rw [List.getD_eq_getElem?_getD, List.getD_eq_getElem?_getD, List.getElem?_take_of_lt (by omega)]
  have := all_range.1 h1 i (by omega)
  unfold newB at this ⊢
  rw [hg i (Nat.le_refl _)]
  simp only [Bool.and_eq_true] at this ⊢
  refine ⟨this.1, all_range.2 fun j hj => ?_⟩
  rw [hg j (by omega)]
  exact all_range.1 this.2 j hj
end Go.Proofs.YtijliddchoehhaaDoor
