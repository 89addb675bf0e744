/- Entries that came in as an argument. -/
import Derived.Test.YtfdgehlobbeomaaDoorRows
import Derived.Test.YtfdgehlobbeomaaDoorEntSz
import Derived.Test.YtfdgehlobbeomaaDoorOpenLines
import Derived.OpenShut
import Derived.Deep.Strs
import Derived.Deep.Slices
import Derived.Deep.SlicePairs
namespace Go.Proofs.YtfdgehlobbeomaaDoor
open Go.RowKit Go.WideShapes Go.ChangeShapes
set_option maxRecDepth 100000

section
variable {H : Type} {enc : TypeId × Value → H} {W : World} {base : Nat} {sp : Nat → Bool} {held : Bool}
theorem open_ents {m : Nat} {v : Value} {y : DataW H × List MemPlace} (h : DataW.trod enc Tryd.prog W base sp held m 22 [v] = some y) : ∃ l : List EV, EntRow W v l ∧ EMx l := by
  rcases Go.Deep.open_slice_pairs Tryd.underlying22 Tryd.underlying54 (by kernel_rfl) rfl rfl (by kernel_rfl) (by kernel_rfl) h with ⟨hcs, _⟩ | ⟨a, len, cap, m', n, V0, V1, D0, D1, P0, P1, hcs, hb, hl, hm, hmm, _, hc⟩
  · cases hcs
    exact ⟨[], .inl ⟨rfl, _, _, rfl⟩, by decide, fun i hi => absurd hi (Nat.not_lt_zero _)⟩
  · cases hcs
    have hle : len ≤ m' := by rw [hmm]; split <;> omega
    have key : ∀ i, i < len → ∃ r : EV, W.cell? (a.add (i * 2)) = some (.string r.s) ∧ W.cell? (a.add (i * 2 + 1)) = some (.int .i64 r.k) ∧ r.s.size ≤ maxLen := fun i hi => by
      obtain ⟨h1, h2, h3, h4⟩ := hc i (by omega)
      obtain ⟨b, g1, _, _⟩ := DataW.trod_int Tryd.underlying3 h4
      obtain ⟨s, g3, _, g5⟩ := DataW.trod_string Tryd.underlying9 h3
      have g2 : V1 i = .int .i64 b := by simpa using g1
      have g4 : V0 i = .string s := by simpa using g3
      exact ⟨⟨b, s⟩, by rw [h1, g4], by rw [h2, g2], g5⟩
    haveI : Inhabited EV := ⟨ev0⟩
    obtain ⟨R, hR⟩ := Go.Deep.choose_lt key
    refine ⟨(List.range len).map R, ?_, by simp; omega, fun i hi => ?_⟩
    · by_cases h0 : len = 0
      · subst h0
        exact .inl ⟨rfl, _, _, rfl⟩
      · have h00 := (hR 0 (by omega)).1
        have hab : a = ⟨a.block, a.off, none⟩ := spot_none (by rwa [Nat.zero_mul] at h00)
        have hadd : ∀ k, a.add k = ⟨a.block, a.off + k, none⟩ := fun k => by
          rw [show a = ⟨a.block, a.off, none⟩ from hab]; exact add_plain ..
        refine .inr ⟨by simp; omega, a.block, a.off, cap - len, ?_, ?_, fun i hi => ?_⟩
        · simp
          exact ⟨hab, by omega⟩
        · have := World.block_lt_of_cell? W _ h00
          exact this
        · rw [List.length_map, List.length_range] at hi
          rw [getD_map _ R len i hi]
          obtain ⟨h1, h3, _⟩ := hR i hi
          rw [hadd] at h1 h3
          exact ⟨h1, by rw [Nat.add_assoc]; exact h3⟩
    · rw [List.length_map, List.length_range] at hi
      rw [getD_map _ R len i hi]
      exact (hR i hi).2.2
theorem open_mcells {m : Nat} {v0 v1 : Value} {y : DataW H × List MemPlace} (hm : DataW.trod enc Tryd.prog W base sp held m 24 [v0, v1] = some y) : ∃ (b : Bool) (l : List EV), v0 = .bool b ∧ EntRow W v1 l ∧ EMx l := by
  obtain ⟨y0, y1, n, _, _, q0, q1⟩ := trod_struct2 Tryd.underlying24 hm
  obtain ⟨b, g1, _⟩ := DataW.trod_bool Tryd.underlying4 q0
  have g2 : v0 = .bool b := by simpa using (show [v0] = [Value.bool b] from g1)
  obtain ⟨l, h1, h2⟩ := open_ents (show DataW.trod enc Tryd.prog W base sp held n 22 [v1] = some y1 from q1)
  exact ⟨b, l, g2, h1, h2⟩
theorem open_map {r0 : Reach} {b0 : Nat} {v : Value} {d : DataW H} {ps : List MemPlace} (hval : Value.okWide Tryd.prog W r0 b0 24 v) (hd : DataW.Trod enc Tryd.prog W base sp held 24 v d ps) :
    ∃ (b : Bool) (q : Value) (l : List EV), v = .agg #[.bool b, q] ∧ EntRow W q l ∧ EMx l := by
  obtain ⟨cs, rfl, hsz⟩ := okWide_struct Tryd.underlying24 hval
  obtain ⟨m, hm⟩ := hd
  have hc2 : cs.size = 2 := by
    rw [hsz]; kernel_rfl
  obtain ⟨L⟩ := cs
  match L, hc2, hm with
  | [v0, v1], _, hm =>
    obtain ⟨b, l, h1, h2, h3⟩ := open_mcells hm
    exact ⟨b, v1, l, by rw [h1], h2, h3⟩
end
end Go.Proofs.YtfdgehlobbeomaaDoor
