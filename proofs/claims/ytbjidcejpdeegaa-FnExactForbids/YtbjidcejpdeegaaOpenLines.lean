/- Lines that came in as an argument. -/
import Derived.Test.YtbjidcejpdeegaaRows
import Derived.Test.YtbjidcejpdeegaaRobSz
import Derived.OpenShut
import Derived.Deep.Strs
import Derived.Deep.Slices
import Derived.Deep.SlicePairs
namespace Go.Proofs.Ytbjidcejpdeegaa
open Go.RowKit Go.WideShapes Go.ChangeShapes
set_option maxRecDepth 100000

section
variable {H : Type} {enc : TypeId × Value → H} {W : World} {base : Nat} {sp : Nat → Bool} {held : Bool}
theorem spot_none {W : World} {a : Addr} {v : Value} (h : W.cell? (a.add 0) = some v) : a = ⟨a.block, a.off, none⟩ := by
  obtain ⟨b, off, spot⟩ := a
  have hspot : spot = none := by simpa [Addr.add] using World.cell?_spot h
  subst hspot
  rfl
theorem getD_map {α : Type} (d : α) (f : Nat → α) (n i : Nat) (h : i < n) : ((List.range n).map f).getD i d = f i := by simp [List.getD, h]
theorem open_lines {m : Nat} {v : Value} {y : DataW H × List MemPlace} (h : DataW.trod enc Try.prog W base sp held m 35 [v] = some y) : ∃ l : List LV, LineRow W v l ∧ LMx l := by
  rcases Go.Deep.open_slice_pairs Try.underlying35 Try.underlying55 (by kernel_rfl) rfl rfl (by kernel_rfl) (by kernel_rfl) h with ⟨hcs, _⟩ | ⟨a, len, cap, m', n, V0, V1, D0, D1, P0, P1, hcs, hb, hl, hm, hmm, _, hc⟩
  · cases hcs
    exact ⟨[], .inl ⟨rfl, _, _, rfl⟩, by decide, fun i hi => absurd hi (Nat.not_lt_zero _)⟩
  · cases hcs
    have hle : len ≤ m' := by rw [hmm]; split <;> omega
    have key : ∀ i, i < len → ∃ r : LV, W.cell? (a.add (i * 2)) = some (.bool r.al) ∧ W.cell? (a.add (i * 2 + 1)) = some (.string r.pa) ∧ r.pa.size ≤ maxLen := fun i hi => by
      obtain ⟨h1, h2, h3, h4⟩ := hc i (by omega)
      obtain ⟨b, g1, _⟩ := DataW.trod_bool Try.underlying4 h3
      obtain ⟨s, g3, _, g5⟩ := DataW.trod_string Try.underlying9 h4
      have g2 : V0 i = .bool b := by simpa using g1
      have g4 : V1 i = .string s := by simpa using g3
      exact ⟨⟨b, s⟩, by rw [h1, g2], by rw [h2, g4], g5⟩
    haveI : Inhabited LV := ⟨lv0⟩
    obtain ⟨R, hR⟩ := Go.Deep.choose_lt key
    refine ⟨(List.range len).map R, ?_, by simp; omega, fun i hi => ?_⟩
    · by_cases h0 : len = 0
      · subst h0
        exact .inl ⟨rfl, _, _, rfl⟩
      · have h00 := (hR 0 (by omega)).1
        have hab : a = ⟨a.block, a.off, none⟩ := spot_none (by rwa [Nat.zero_mul] at h00)
        have hadd : ∀ k, a.add k = ⟨a.block, a.off + k, none⟩ := fun k => by
          rw [show a = ⟨a.block, a.off, none⟩ from hab]; exact add_plain ..
        refine .inr ⟨by simp; omega, a.block, a.off, cap - len, ?_, ?_, fun i hi => ?_⟩
        · simp
          exact ⟨hab, by omega⟩
        · have := World.block_lt_of_cell? W _ h00
          exact this
        · rw [List.length_map, List.length_range] at hi
          rw [getD_map _ R len i hi]
          obtain ⟨h1, h3, _⟩ := hR i hi
          rw [hadd] at h1 h3
          exact ⟨h1, by rw [Nat.add_assoc]; exact h3⟩
    · rw [List.length_map, List.length_range] at hi
      rw [getD_map _ R len i hi]
      exact (hR i hi).2.2
end
end Go.Proofs.Ytbjidcejpdeegaa
