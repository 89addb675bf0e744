/- A map of leases, by their keys. -/
import Derived.Test.YtcjblhiihgdljaaGreatRows
import Derived.Test.YtcjblhiihgdljaaGreatSitRow
import Derived.Test.YtcjblhiihgdljaaGreatSchPure2
import Derived.Maps.OwnSet
import Derived.Maps.Views
import Derived.StringKeys
namespace Go.Proofs.YtcjblhiihgdljaaGreat
open Go.RowKit
set_option linter.unusedVariables false

def lsA (x : LsV) : Value := .agg #[.string x.k, .string x.s, .int .i64 x.p, .int .i64 x.u]
def lsData (x : LsV) : DataW Unit := .agg [.lit (.string x.k.data.toList), .lit (.string x.s.data.toList), .lit (.int .i64 x.p), .lit (.int .i64 x.u)]
/-- How a lease reads in a map. -/
def leaseD : Value → Option (DataW Unit × List MemPlace)
  | .agg a => match a.toList with
    | [.string k, .string s, .int .i64 p, .int .i64 u] => some (lsData ⟨k, s, p, u⟩, [])
    | _ => none
  | _ => none
theorem leaseD_mk (x : LsV) : leaseD (lsA x) = some (lsData x, []) := rfl
theorem leaseD_inv {v : Value} {z : DataW Unit × List MemPlace} (h : leaseD v = some z) : ∃ x, v = lsA x ∧ z = (lsData x, []) := by
  unfold leaseD at h
  split at h
  · rename_i a
    split at h
    · rename_i k s p u e
      refine ⟨⟨k, s, p, u⟩, ?_, ?_⟩
      · unfold lsA
        rw [show a = #[.string k, .string s, .int .i64 p, .int .i64 u] from Array.toList_inj.1 e]
      · injection h with h
        exact h.symm
    · cases h
  · cases h
theorem lsData_inj {x y : LsV} (h : lsData x = lsData y) : x = y := by
  obtain ⟨a, b, c, d⟩ := x
  obtain ⟨a', b', c', d'⟩ := y
  unfold lsData at h
  simp at h
  obtain ⟨h1, h2, h3, h4⟩ := h
  have e1 : a = a' := ByteArray.ext h1
  have e2 : b = b' := ByteArray.ext h2
  rw [e1, e2, h3, h4]
def kLit (k : ByteArray) : Lit := .string k.data.toList
theorem kLit_inj {a b : ByteArray} (h : kLit a = kLit b) : a = b := by
  injection h with h
  exact ByteArray.ext (by rw [← Array.toList_inj]; exact h)
/-- The map at a block holds just these leases. -/
structure LMap (w : World) (b n : Nat) (D : DataW Unit) (le : List LsV) : Prop where
  own : w.ownsMap Tryz.prog 9 leaseD b n D
  is : Maps.IsMap D
  at' : ∀ x ∈ le, ∀ z, D.atKey (kLit x.k) z = lsData x
  has : ∀ l, Maps.has D (.string l) = true → ∃ x ∈ le, x.k.data.toList = l
def LMapO (w : World) (b n : Nat) (le : List LsV) : Prop := ∃ D, LMap w b n D le
theorem LMapO.made (w : World) : LMapO (w.alloc (.map #[] 0)) w.heap.size 0 [] := ⟨.map [], World.ownsMap_made _ _ _ _, Maps.isMap_empty, fun x hx => absurd hx (List.not_mem_nil), fun l h => by cases h⟩
theorem LMapO.mem {w : World} {b n : Nat} {le le' : List LsV} (h : LMapO w b n le) (hm : ∀ x, x ∈ le ↔ x ∈ le') : LMapO w b n le' := by
  obtain ⟨D, h1, h2, h3, h4⟩ := h
  exact ⟨D, h1, h2, fun x hx => h3 x ((hm x).2 hx), fun l hl => by obtain ⟨x, hx, e⟩ := h4 l hl; exact ⟨x, (hm x).1 hx, e⟩⟩
theorem LMapO.kept {w w' : World} {b n : Nat} {le : List LsV} {row : Option Nat} (h : LMapO w b n le) (hg : w.grownBy w' row) (hne : some b ≠ row) : LMapO w' b n le := by
  obtain ⟨D, h1, h2, h3, h4⟩ := h
  exact ⟨D, h1.kept hg hne, h2, h3, h4⟩
theorem LMapO.below {w w' : World} {b n : Nat} {le : List LsV} (h : LMapO w b n le) (hb : Below w.heap.size w w') : LMapO w' b n le := h.kept (row := none) ⟨hb.os, hb.tape, hb.output, hb.size, fun k hk _ => hb.block k hk⟩ (by simp)
theorem LMapO.same {w w' : World} {b n : Nat} {le : List LsV} (h : LMapO w b n le) (hs : w'.heap[b]? = w.heap[b]?) : LMapO w' b n le := by
  obtain ⟨D, ⟨es, clock, hb, F, hn, hD⟩, h2, h3, h4⟩ := h
  exact ⟨D, ⟨es, clock, hs.trans hb, F, hn, hD⟩, h2, h3, h4⟩
theorem LMapO.lt {w : World} {b n : Nat} {le : List LsV} (h : LMapO w b n le) : b < w.heap.size := by
  obtain ⟨D, h1, _⟩ := h
  exact h1.lt
theorem LMapO.none_cells {w : World} {b n : Nat} {le : List LsV} (h : LMapO w b n le) {cur : Array Value} {t : TypeId} {f : Nat × Nat} : w.heap[b]? ≠ some (.cells cur t f) := by
  obtain ⟨D, ⟨es, clock, hb, _⟩, _⟩ := h
  intro e
  rw [hb] at e
  cases e
theorem LMap.put {w w' : World} {b n : Nat} {D : DataW Unit} {le : List LsV} (h : LMap w b n D le) {x : LsV} (hm : w'.ownsMap Tryz.prog 9 leaseD b (n + 1) (D.put (kLit x.k) (lsData x))) : LMapO w' b (n + 1) (lRem le x.k ++ [x]) := by
  refine ⟨_, hm, h.is.put _ _, fun y hy z => ?_, fun l hl => ?_⟩
  · rcases List.mem_append.1 hy with hy | hy
    · obtain ⟨hy, hne⟩ := lRem_mem.1 hy
      rw [Maps.atKey_put_other (fun e => hne (kLit_inj e))]
      exact h.at' y hy z
    · rw [List.mem_singleton] at hy
      subst hy
      exact Maps.atKey_put_same (k := kLit y.k) h.is trivial _ _
  · by_cases e : l = x.k.data.toList
    · exact ⟨x, by simp, e.symm⟩
    · have hl2 : Maps.has (D.put (kLit x.k) (lsData x)) (.string l) = true := hl
      rw [Maps.has_put_other (fun e2 => e (by injection e2))] at hl2
      obtain ⟨y, hy, e2⟩ := h.has l hl2
      refine ⟨y, List.mem_append_left _ (lRem_mem.2 ⟨hy, fun e3 => e ?_⟩), e2⟩
      rw [← e2, e3]
theorem LMap.del {w w' : World} {b n : Nat} {D : DataW Unit} {le : List LsV} (h : LMap w b n D le) {k : ByteArray} (hm : w'.ownsMap Tryz.prog 9 leaseD b n (D.del (kLit k))) : LMapO w' b n (lRem le k) := by
  refine ⟨_, hm, h.is.del _, fun y hy z => ?_, fun l hl => ?_⟩
  · obtain ⟨hy, hne⟩ := lRem_mem.1 hy
    rw [Maps.atKey_del_other (fun e => hne (kLit_inj e))]
    exact h.at' y hy z
  · by_cases e : l = k.data.toList
    · subst e
      have hl2 : Maps.has (D.del (kLit k)) (kLit k) = true := hl
      rw [Maps.has_del_same] at hl2
      cases hl2
    · rw [Maps.has_del_other (fun e2 => e (by injection e2))] at hl
      obtain ⟨y, hy, e2⟩ := h.has l hl
      exact ⟨y, lRem_mem.2 ⟨hy, fun e3 => e (by rw [← e2, e3])⟩, e2⟩
theorem LMap.yes {w : World} {b n : Nat} {D : DataW Unit} {le : List LsV} (h : LMap w b n D le) {x : LsV} (hx : x ∈ le) : Maps.has D (kLit x.k) = true := Maps.has_true_of_atKey (h.at' x hx)
theorem LMap.no {w : World} {b n : Nat} {D : DataW Unit} {le : List LsV} (h : LMap w b n D le) {k : ByteArray} (hx : ∀ x ∈ le, x.k ≠ k) : Maps.has D (kLit k) = false := by
  cases hh : Maps.has D (kLit k) with
  | false => rfl
  | true =>
    obtain ⟨x, hxm, e⟩ := h.has _ hh
    exact absurd (ByteArray.ext (by rw [← Array.toList_inj]; exact e)) (hx x hxm)
theorem string_lit {k : ByteArray} (hk : k.size ≤ maxLen) : keyOf Tryz.prog 9 (.string k) = some (kLit k) := WideMaps.keyOf_string_mk Tryz.underlying9 hk
end Go.Proofs.YtcjblhiihgdljaaGreat
