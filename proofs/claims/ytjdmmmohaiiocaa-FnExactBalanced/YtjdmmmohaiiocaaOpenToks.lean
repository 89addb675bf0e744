/- Tokens that came in as an argument. -/
import Derived.Test.YtjdmmmohaiiocaaRows
import Derived.Test.YtjdmmmohaiiocaaTokSz
import Derived.Test.YtjdmmmohaiiocaaOpenLines
import Derived.OpenShut
import Derived.Deep.Strs
import Derived.Deep.Slices
import Derived.Deep.SlicePairs
namespace Go.Proofs.Ytjdmmmohaiiocaa
open Go.RowKit Go.WideShapes Go.ChangeShapes
set_option maxRecDepth 100000

section
variable {H : Type} {enc : TypeId × Value → H} {W : World} {base : Nat} {sp : Nat → Bool} {held : Bool}
theorem open_toks {m : Nat} {v : Value} {y : DataW H × List MemPlace} (h : DataW.trod enc Try.prog W base sp held m 22 [v] = some y) : ∃ l : List TV, TokRow W v l ∧ TMx l := by
  rcases Go.Deep.open_slice_pairs Try.underlying22 Try.underlying31 (by kernel_rfl) rfl rfl (by kernel_rfl) (by kernel_rfl) h with ⟨hcs, _⟩ | ⟨a, len, cap, m', n, V0, V1, D0, D1, P0, P1, hcs, hb, hl, hm, hmm, _, hc⟩
  · cases hcs
    exact ⟨[], .inl ⟨rfl, _, _, rfl⟩, by decide, fun i hi => absurd hi (Nat.not_lt_zero _)⟩
  · cases hcs
    have hle : len ≤ m' := by rw [hmm]; split <;> omega
    have key : ∀ i, i < len → ∃ r : TV, W.cell? (a.add (i * 2)) = some (.int .i64 r.k) ∧ W.cell? (a.add (i * 2 + 1)) = some (.string r.s) ∧ r.s.size ≤ maxLen := fun i hi => by
      obtain ⟨h1, h2, h3, h4⟩ := hc i (by omega)
      obtain ⟨b, g1, _, _⟩ := DataW.trod_int Try.underlying3 h3
      obtain ⟨s, g3, _, g5⟩ := DataW.trod_string Try.underlying9 h4
      have g2 : V0 i = .int .i64 b := by simpa using g1
      have g4 : V1 i = .string s := by simpa using g3
      exact ⟨⟨b, s⟩, by rw [h1, g2], by rw [h2, g4], g5⟩
    haveI : Inhabited TV := ⟨tv0⟩
    obtain ⟨R, hR⟩ := Go.Deep.choose_lt key
    refine ⟨(List.range len).map R, ?_, by simp; omega, fun i hi => ?_⟩
    · by_cases h0 : len = 0
      · subst h0
        exact .inl ⟨rfl, _, _, rfl⟩
      · have h00 := (hR 0 (by omega)).1
        have hab : a = ⟨a.block, a.off, none⟩ := spot_none (by rwa [Nat.zero_mul] at h00)
        have hadd : ∀ k, a.add k = ⟨a.block, a.off + k, none⟩ := fun k => by
          rw [show a = ⟨a.block, a.off, none⟩ from hab]; exact add_plain ..
        refine .inr ⟨by simp; omega, a.block, a.off, cap - len, ?_, ?_, fun i hi => ?_⟩
        · simp
          exact ⟨hab, by omega⟩
        · have := World.block_lt_of_cell? W _ h00
          exact this
        · rw [List.length_map, List.length_range] at hi
          rw [getD_map _ R len i hi]
          obtain ⟨h1, h3, _⟩ := hR i hi
          rw [hadd] at h1 h3
          exact ⟨h1, by rw [Nat.add_assoc]; exact h3⟩
    · rw [List.length_map, List.length_range] at hi
      rw [getD_map _ R len i hi]
      exact (hR i hi).2.2
end
end Go.Proofs.Ytjdmmmohaiiocaa
