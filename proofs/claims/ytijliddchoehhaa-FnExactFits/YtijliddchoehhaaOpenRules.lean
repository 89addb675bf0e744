/- Rules that came in as an argument: rows of texts and truths. -/
import Derived.Test.YtijliddchoehhaaRows
import Derived.Test.YtijliddchoehhaaRuleSz
import Derived.OpenShut
import Derived.Deep.Strs
import Derived.Deep.Slices
import Derived.Deep.SlicePairs
namespace Go.Proofs.Ytijliddchoehhaa
open Go.RowKit Go.WideShapes Go.ChangeShapes
set_option maxRecDepth 100000

section
variable {H : Type} {enc : TypeId × Value → H} {W : World} {base : Nat} {sp : Nat → Bool} {held : Bool}
theorem add_spot {W : World} {a : Addr} {v : Value} (h : W.cell? (a.add 0) = some v) : a = ⟨a.block, a.off, none⟩ := by
  obtain ⟨b, off, spot⟩ := a
  have hspot : spot = none := by simpa [Addr.add] using World.cell?_spot h
  subst hspot
  rfl
theorem range_getD (f : Nat → ByteArray) (n i : Nat) (h : i < n) : ((List.range n).map f).getD i ByteArray.empty = f i := by simp [List.getD, h]
theorem rrange_getD (f : Nat → RV) (n i : Nat) (h : i < n) : ((List.range n).map f).getD i rv0 = f i := by simp [List.getD, h]
theorem open_strrow {m : Nat} {v : Value} {y : DataW H × List MemPlace} (h : DataW.trod enc Try.prog W base sp held m 30 [v] = some y) : ∃ l : List ByteArray, StrRow W v l ∧ SMax l := by
  rcases Go.Deep.open_strs Try.underlying30 Try.underlying9 (by kernel_rfl) h with ⟨hcs, _⟩ | ⟨a, len, cap, m', Sx, hcs, hb, hl, hm, hmm, _, hc⟩
  · cases hcs
    exact ⟨[], .inl ⟨rfl, _, _, rfl⟩, by decide, fun x hx => by cases hx⟩
  · cases hcs
    have hle : len ≤ m' := by rw [hmm]; split <;> omega
    refine ⟨(List.range len).map Sx, ?_, by simp; omega, fun x hx => ?_⟩
    · by_cases h0 : len = 0
      · subst h0
        exact .inl ⟨rfl, _, _, rfl⟩
      · have h00 := (hc 0 (by omega)).1
        have hab : a = ⟨a.block, a.off, none⟩ := add_spot h00
        refine .inr ⟨by simp; omega, a.block, a.off, cap - len, ?_, ?_, fun i hi => ?_⟩
        · simp
          exact ⟨hab, by omega⟩
        · have := World.block_lt_of_cell? W (a.add 0) h00
          exact this
        · rw [List.length_map, List.length_range] at hi
          rw [range_getD Sx len i hi]
          have := (hc i (by omega)).1
          rw [show a.add i = ⟨a.block, a.off + i, none⟩ by rw [show a = ⟨a.block, a.off, none⟩ from hab]; exact add_plain ..] at this
          exact this
    · obtain ⟨i, hi, rfl⟩ := List.mem_map.1 hx
      exact (hc i (by have := List.mem_range.1 hi; omega)).2
theorem open_rcells {m : Nat} {v0 v1 : Value} {y : DataW H × List MemPlace} (h : DataW.trod enc Try.prog W base sp held m 32 [v0, v1] = some y) : ∃ r : RV, StrRow W v0 r.ps ∧ SMax r.ps ∧ v1 = .bool r.ex := by
  obtain ⟨xs, n, _, _, _, hl, hx⟩ := DataW.trod_struct Try.underlying32 h
  have hl2 : xs.length = 2 := hl
  have g0 := hx 0 _ rfl
  have g1 := hx 1 _ rfl
  rw [List.getElem?_eq_getElem (by omega)] at g0 g1
  simp only [List.getElem_toArray, List.getElem_cons_zero, List.getElem_cons_succ] at g0 g1
  rw [show Try.prog.cellsOf 30 = 1 from by kernel_rfl] at g0
  rw [show Try.prog.cellsOf 4 = 1 from by kernel_rfl] at g1
  obtain ⟨l, h1, h2⟩ := open_strrow g0
  obtain ⟨b, h3, _⟩ := DataW.trod_bool Try.underlying4 g1
  exact ⟨⟨l, b⟩, h1, h2, by simpa using h3⟩
theorem open_rule {r0 : Reach} {b0 : Nat} {v : Value} {d : DataW H} {ps : List MemPlace} (hval : Value.okWide Try.prog W r0 b0 32 v) (hd : DataW.Trod enc Try.prog W base sp held 32 v d ps) :
    ∃ (p : Value) (r : RV), v = .agg #[p, .bool r.ex] ∧ StrRow W p r.ps ∧ SMax r.ps := by
  obtain ⟨cs, rfl, hsz⟩ := okWide_struct Try.underlying32 hval
  obtain ⟨m, hm⟩ := hd
  have hc2 : cs.size = 2 := by
    rw [hsz]; kernel_rfl
  obtain ⟨L⟩ := cs
  match L, hc2, hm with
  | [v0, v1], _, hm =>
    obtain ⟨r, h1, h2, h3⟩ := open_rcells hm
    exact ⟨v0, r, by rw [h3], h1, h2⟩
theorem open_rules {m : Nat} {v : Value} {y : DataW H × List MemPlace} (h : DataW.trod enc Try.prog W base sp held m 22 [v] = some y) : ∃ l : List RV, RuleRow W v l ∧ RMax l := by
  rcases Go.Deep.open_slice_pairs Try.underlying22 Try.underlying32 (by kernel_rfl) rfl rfl (by kernel_rfl) (by kernel_rfl) h with ⟨hcs, _⟩ | ⟨a, len, cap, m', n, V0, V1, D0, D1, P0, P1, hcs, hb, hl, hm, hmm, _, hc⟩
  · cases hcs
    exact ⟨[], .inl ⟨rfl, _, _, rfl⟩, by decide, fun x hx => by cases hx⟩
  · cases hcs
    have hle : len ≤ m' := by rw [hmm]; split <;> omega
    have key : ∀ i, i < len → ∃ r : RV, W.cell? (a.add (i * 2)) = some (V0 i) ∧ StrRow W (V0 i) r.ps ∧ SMax r.ps ∧ W.cell? (a.add (i * 2 + 1)) = some (.bool r.ex) := fun i hi => by
      obtain ⟨h1, h2, h3, h4⟩ := hc i (by omega)
      obtain ⟨l, g1, g2⟩ := open_strrow h3
      obtain ⟨b, g3, _⟩ := DataW.trod_bool Try.underlying4 h4
      have g4 : V1 i = .bool b := by simpa using g3
      exact ⟨⟨l, b⟩, h1, g1, g2, by rw [h2, g4]⟩
    haveI : Inhabited RV := ⟨rv0⟩
    obtain ⟨R, hR⟩ := Go.Deep.choose_lt key
    refine ⟨(List.range len).map R, ?_, by simp; omega, fun x hx => ?_⟩
    · by_cases h0 : len = 0
      · subst h0
        exact .inl ⟨rfl, _, _, rfl⟩
      · have h00 := (hR 0 (by omega)).1
        have hab : a = ⟨a.block, a.off, none⟩ := add_spot (by rwa [Nat.zero_mul] at h00)
        have hadd : ∀ k, a.add k = ⟨a.block, a.off + k, none⟩ := fun k => by
          rw [show a = ⟨a.block, a.off, none⟩ from hab]; exact add_plain ..
        refine .inr ⟨by simp; omega, a.block, a.off, cap - len, ?_, ?_, fun i hi => ?_⟩
        · simp
          exact ⟨hab, by omega⟩
        · have := World.block_lt_of_cell? W _ h00
          exact this
        · rw [List.length_map, List.length_range] at hi
          rw [rrange_getD R len i hi]
          obtain ⟨h1, h2, _, h3⟩ := hR i hi
          rw [hadd] at h1 h3
          exact ⟨V0 i, h1, h2, by rw [Nat.add_assoc]; exact h3⟩
    · obtain ⟨i, hi, rfl⟩ := List.mem_map.1 hx
      exact (hR i (List.mem_range.1 hi)).2.2.1
end
end Go.Proofs.Ytijliddchoehhaa
