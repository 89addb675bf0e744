/- What was seen, that came in as an argument. -/
import Derived.Test.YtocgdbinfmdkcaaRows
import Derived.Test.YtocgdbinfmdkcaaMrkSz
import Derived.OpenShut
import Derived.Deep.Strs
import Derived.Deep.Slices
import Derived.Deep.SlicePairs
namespace Go.Proofs.Ytocgdbinfmdkcaa
open Go.RowKit Go.WideShapes Go.ChangeShapes
set_option maxRecDepth 100000

section
variable {H : Type} {enc : TypeId × Value → H} {W : World} {base : Nat} {sp : Nat → Bool} {held : Bool}
theorem open_mrks {m : Nat} {v : Value} {y : DataW H × List MemPlace} (h : DataW.trod enc Try.prog W base sp held m 41 [v] = some y) : ∃ l : List EV, EntRow W v l ∧ EMx l := by
  rcases Go.Deep.open_slice_pairs Try.underlying41 Try.underlying88 (by kernel_rfl) rfl rfl (by kernel_rfl) (by kernel_rfl) h with ⟨hcs, _⟩ | ⟨a, len, cap, m', n, V0, V1, D0, D1, P0, P1, hcs, hb, hl, hm, hmm, _, hc⟩
  · cases hcs
    exact ⟨[], .inl ⟨rfl, _, _, rfl⟩, by decide, fun i hi => absurd hi (Nat.not_lt_zero _)⟩
  · cases hcs
    have hle : len ≤ m' := by rw [hmm]; split <;> omega
    have key : ∀ i, i < len → ∃ r : EV, W.cell? (a.add (i * 2)) = some (.string r.s) ∧ W.cell? (a.add (i * 2 + 1)) = some (.int .i64 r.k) ∧ r.s.size ≤ maxLen := fun i hi => by
      obtain ⟨h1, h2, h3, h4⟩ := hc i (by omega)
      obtain ⟨b, g1, _, _⟩ := DataW.trod_int Try.underlying3 h4
      obtain ⟨s, g3, _, g5⟩ := DataW.trod_string Try.underlying9 h3
      have g2 : V1 i = .int .i64 b := by simpa using g1
      have g4 : V0 i = .string s := by simpa using g3
      exact ⟨⟨b, s⟩, by rw [h1, g4], by rw [h2, g2], g5⟩
    haveI : Inhabited EV := ⟨ev0⟩
    obtain ⟨R, hR⟩ := Go.Deep.choose_lt key
    refine ⟨(List.range len).map R, ?_, by simp; omega, fun i hi => ?_⟩
    · by_cases h0 : len = 0
      · subst h0
        exact .inl ⟨rfl, _, _, rfl⟩
      · have h00 := (hR 0 (by omega)).1
        have hab : a = ⟨a.block, a.off, none⟩ := spot_none (by rwa [Nat.zero_mul] at h00)
        have hadd : ∀ k, a.add k = ⟨a.block, a.off + k, none⟩ := fun k => by
          rw [show a = ⟨a.block, a.off, none⟩ from hab]; exact add_plain ..
        refine .inr ⟨by simp; omega, a.block, a.off, cap - len, ?_, ?_, fun i hi => ?_⟩
        · simp
          exact ⟨hab, by omega⟩
        · have := World.block_lt_of_cell? W _ h00
          exact this
        · rw [List.length_map, List.length_range] at hi
          rw [getD_map _ R len i hi]
          obtain ⟨h1, h3, _⟩ := hR i hi
          rw [hadd] at h1 h3
          exact ⟨h1, by rw [Nat.add_assoc]; exact h3⟩
    · rw [List.length_map, List.length_range] at hi
      rw [getD_map _ R len i hi]
      exact (hR i hi).2.2
theorem open_runs {m : Nat} {v : Value} {y : DataW H × List MemPlace} (h : DataW.trod enc Try.prog W base sp held m 42 [v] = some y) : ∃ l : List (List EV), RunRow W v l ∧ RMx l := by
  rcases Go.Deep.open_slice1 Try.underlying42 (by kernel_rfl) h with ⟨hcs, _⟩ | ⟨a, len, cap, m', n, V, D, Pl, hcs, hb, hl, hm, hmm, _, hc⟩
  · cases hcs
    exact ⟨[], .inl ⟨rfl, _, _, rfl⟩, by decide, fun i hi => absurd hi (Nat.not_lt_zero _)⟩
  · cases hcs
    have hle : len ≤ m' := by rw [hmm]; split <;> omega
    have key : ∀ i, i < len → ∃ r : List EV, W.cell? (a.add i) = some (V i) ∧ EntRow W (V i) r ∧ EMx r := fun i hi => by
      obtain ⟨h1, h2⟩ := hc i (by omega)
      obtain ⟨r, r1, r2⟩ := open_mrks h2
      exact ⟨r, h1, r1, r2⟩
    obtain ⟨R, hR⟩ := Go.Deep.choose_lt key
    refine ⟨(List.range len).map R, ?_, by simp; omega, fun i hi => ?_⟩
    · by_cases h0 : len = 0
      · subst h0
        exact .inl ⟨rfl, _, _, rfl⟩
      · have h00 := (hR 0 (by omega)).1
        have hab : a = ⟨a.block, a.off, none⟩ := spot_none h00
        have hadd : ∀ k, a.add k = ⟨a.block, a.off + k, none⟩ := fun k => by
          rw [show a = ⟨a.block, a.off, none⟩ from hab]; exact add_plain ..
        refine .inr ⟨by simp; omega, a.block, a.off, cap - len, ?_, ?_, fun i hi => ?_⟩
        · simp
          exact ⟨hab, by omega⟩
        · have := World.block_lt_of_cell? W _ h00
          exact this
        · rw [List.length_map, List.length_range] at hi
          rw [getD_map _ R len i hi]
          obtain ⟨h1, h3, _⟩ := hR i hi
          rw [hadd] at h1
          exact ⟨V i, h1, h3⟩
    · rw [List.length_map, List.length_range] at hi
      rw [getD_map _ R len i hi]
      exact (hR i hi).2.2
theorem open_seen {r0 : Reach} {b0 : Nat} {v : Value} {d : DataW H} {ps : List MemPlace} (hval : Value.okWide Try.prog W r0 b0 44 v) (hd : DataW.Trod enc Try.prog W base sp held 44 v d ps) :
    ∃ (p q : Value) (l : List EV) (r : List (List EV)), v = .agg #[p, q] ∧ (EntRow W p l ∧ RunRow W q r) ∧ (EMx l ∧ RMx r) := by
  obtain ⟨cs, rfl, hsz⟩ := okWide_struct Try.underlying44 hval
  obtain ⟨m, hm⟩ := hd
  have hc2 : cs.size = 2 := by
    rw [hsz]; kernel_rfl
  obtain ⟨L⟩ := cs
  match L, hc2, hm with
  | [v0, v1], _, hm =>
    obtain ⟨y0, y1, n, _, _, q0, q1⟩ := trod_struct2 Try.underlying44 hm
    obtain ⟨l, h1, h2⟩ := open_mrks (show DataW.trod enc Try.prog W base sp held n 41 [v0] = some y0 from q0)
    obtain ⟨r, h3, h4⟩ := open_runs (show DataW.trod enc Try.prog W base sp held n 42 [v1] = some y1 from q1)
    exact ⟨v0, v1, l, r, rfl, ⟨h1, h3⟩, h2, h4⟩
end
end Go.Proofs.Ytocgdbinfmdkcaa
