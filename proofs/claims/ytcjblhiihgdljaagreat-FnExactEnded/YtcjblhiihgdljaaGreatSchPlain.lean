/- Queues, plainly: what is right, and what comes of it. -/
import Derived.Test.YtcjblhiihgdljaaGreatSitRow
import Derived.Test.YtcjblhiihgdljaaGreatBytOrd
namespace Go.Proofs.YtcjblhiihgdljaaGreat
open Go.RowKit
set_option linter.unusedVariables false

def inB (n a b : Int) : Bool := decide (a ≤ n) && decide (n ≤ b)
theorem inB_iff {n a b : Int} : inB n a b = true ↔ a ≤ n ∧ n ≤ b := by simp [inB]
theorem inB_no {n a b : Int} (h : inB n a b = false) : ¬ (a ≤ n ∧ n ≤ b) := fun h2 => by rw [inB_iff.2 h2] at h; cases h
/-- One text is ahead of another one. -/
def tl (a b : ByteArray) : Bool := Op.bytesLess a.toList b.toList
theorem tl_irrefl (a : ByteArray) : tl a a = false := bl_irrefl _
theorem tl_trans {a b c : ByteArray} (h1 : tl a b = true) (h2 : tl b c = true) : tl a c = true := bl_trans h1 h2
theorem tl_tri {a b : ByteArray} (h1 : tl a b = false) (h2 : tl b a = false) : a = b := by
  have h := bl_tri h1 h2
  rw [baL, baL] at h
  exact ByteArray.ext (by rw [← Array.toList_inj]; exact h)
theorem tl_asym {a b : ByteArray} (h : tl a b = true) : tl b a = false := bl_asym h
theorem tl_ne {a b : ByteArray} (h : tl a b = true) : a ≠ b := fun e => by rw [e, tl_irrefl] at h; cases h
theorem tl_cmp (a b : ByteArray) : Lib.compareBytes a.data.toList b.data.toList < 0 ↔ tl a b = true := by rw [← baL, ← baL]; exact cmp_neg _ _
/-- What waits stands ahead of another one. -/
def wBef (a b : WtV) : Bool := decide (b.p < a.p) || (decide (a.p = b.p) && decide (a.q < b.q))
theorem wBef_iff {a b : WtV} : wBef a b = true ↔ b.p < a.p ∨ (a.p = b.p ∧ a.q < b.q) := by simp [wBef]
theorem wBef_trans {a b c : WtV} (h1 : wBef a b = true) (h2 : wBef b c = true) : wBef a c = true := by rw [wBef_iff] at *; omega
theorem wBef_irrefl (a : WtV) : wBef a a = false := by
  cases h : wBef a a with
  | false => rfl
  | true => rw [wBef_iff] at h; omega
/-- All that wait, site by site. -/
def waitL (si : List SiteV) : List WtV := si.flatMap (·.w)
def keysL (si : List SiteV) (le : List LsV) : List ByteArray := (waitL si).map (·.k) ++ le.map (·.k)
structure SOk (d sp nw sq : Int) (si : List SiteV) (le : List LsV) : Prop where
  t : 1 ≤ d ∧ d ≤ 1000 ∧ 1 ≤ sp ∧ sp ≤ 10000 ∧ 0 ≤ nw ∧ nw ≤ 100000000 ∧ 0 ≤ sq ∧ sq ≤ 1000000
  few : si.length ≤ 200
  all : (waitL si).length + le.length ≤ 200
  st : ∀ x ∈ si, 0 < x.n.size ∧ 0 ≤ x.r ∧ x.r ≤ 1000000000
  sa : si.Pairwise (fun x y => tl x.n y.n = true)
  wt : ∀ x ∈ si, (∀ y ∈ x.w, 0 < y.k.size ∧ 0 ≤ y.p ∧ y.p ≤ 1000 ∧ 0 ≤ y.q ∧ y.q < sq) ∧ x.w.Pairwise (fun a b => wBef a b = true)
  ls : ∀ x ∈ le, 0 < x.k.size ∧ 0 ≤ x.p ∧ x.p ≤ 1000 ∧ 0 ≤ x.u ∧ x.u ≤ 1000000000 ∧ ∃ y ∈ si, y.n = x.s
  la : le.Pairwise (fun x y => tl x.k y.k = true)
  keys : (keysL si le).Nodup
  seqs : ((waitL si).map (·.q)).Nodup
/-- Neighbours in order: all in order. -/
theorem adj_pair {α : Type} {R : α → α → Prop} (tr : ∀ a b c, R a b → R b c → R a c) (d : α) (l : List α) (h : ∀ i, 0 < i → i < l.length → R (l.getD (i - 1) d) (l.getD i d)) : l.Pairwise R := by
  rw [List.pairwise_iff_getElem]
  intro i j hi hj hij
  have key : ∀ n, i + n + 1 < l.length → R (l.getD i d) (l.getD (i + n + 1) d) := fun n => by
    induction n with
    | zero => intro hn; have := h (i + 1) (by omega) hn; simpa using this
    | succ n ih => intro hn; exact tr _ _ _ (ih (by omega)) (by have := h (i + (n + 1) + 1) (by omega) hn; rwa [show i + (n + 1) + 1 - 1 = i + n + 1 by omega] at this)
  have := key (j - i - 1) (by omega)
  rw [show i + (j - i - 1) + 1 = j by omega, List.getD_eq_getElem?_getD, List.getD_eq_getElem?_getD, List.getElem?_eq_getElem hi, List.getElem?_eq_getElem hj] at this
  exact this
theorem pair_at {α : Type} {R : α → α → Prop} (d : α) {l : List α} (h : l.Pairwise R) {i j : Nat} (hij : i < j) (hj : j < l.length) : R (l.getD i d) (l.getD j d) := by
  rw [List.pairwise_iff_getElem] at h
  have := h i j (by omega) hj hij
  rw [List.getD_eq_getElem?_getD, List.getD_eq_getElem?_getD, List.getElem?_eq_getElem (by omega), List.getElem?_eq_getElem hj]
  exact this
theorem getD_mem {α : Type} (d : α) {l : List α} {i : Nat} (h : i < l.length) : l.getD i d ∈ l := by
  rw [List.getD_eq_getElem?_getD, List.getElem?_eq_getElem h]
  exact List.getElem_mem _
theorem mem_getD {α : Type} (d : α) {l : List α} {x : α} (h : x ∈ l) : ∃ i, i < l.length ∧ l.getD i d = x := by
  obtain ⟨i, hi, rfl⟩ := List.getElem_of_mem h
  exact ⟨i, hi, by rw [List.getD_eq_getElem?_getD, List.getElem?_eq_getElem hi]; rfl⟩
theorem size_pos {s : ByteArray} : 0 < s.size ↔ s.toList ≠ [] := by
  rw [baL]
  have : s.size = s.data.toList.length := by simp
  rw [this]
  exact List.length_pos_iff
theorem emp_iff {s : ByteArray} : s.toList.isEmpty = true ↔ ¬ 0 < s.size := by rw [size_pos, List.isEmpty_iff]; exact ⟨fun h h2 => h2 h, fun h => by cases hs : s.toList with | nil => rfl | cons a b => exact absurd (by rw [hs]; exact List.cons_ne_nil _ _) h⟩
theorem toList_inj {a b : ByteArray} (h : a.toList = b.toList) : a = b := by
  rw [baL, baL] at h
  exact ByteArray.ext (by rw [← Array.toList_inj]; exact h)
theorem beq_toList (a b : ByteArray) : (a.toList == b.toList) = decide (a = b) := by
  by_cases h : a = b
  · subst h; simp
  · rw [decide_eq_false h]
    exact beq_eq_false_iff_ne.2 fun e => h (toList_inj e)
end Go.Proofs.YtcjblhiihgdljaaGreat
