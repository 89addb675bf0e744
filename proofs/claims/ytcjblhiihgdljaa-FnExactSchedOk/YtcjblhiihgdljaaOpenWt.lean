/- Waitings that came in as arguments: one, and a row of them. -/
import Derived.Test.YtcjblhiihgdljaaRows
import Derived.Test.YtcjblhiihgdljaaWtSz
import Derived.Test.YtcjblhiihgdljaaOpenFlat
import Derived.OpenShut
import Derived.Deep.Strs
import Derived.Deep.Slices
namespace Go.Proofs.Ytcjblhiihgdljaa
open Go.RowKit Go.WideShapes Go.ChangeShapes
set_option maxRecDepth 100000

section
variable {H : Type} {enc : TypeId × Value → H} {W : World} {base : Nat} {sp : Nat → Bool} {held : Bool}
theorem wtcells_a : Try.prog.cellsOf 103 = 3 := by kernel_rfl
theorem trod_wt {m : Nat} {v0 v1 v2 : Value} {y : DataW H × List MemPlace} (h : DataW.trod enc Try.prog W base sp held m 103 [v0, v1, v2] = some y) :
    ∃ x : WtV, ([v0, v1, v2] : List Value) = wtvs x ∧ x.k.size ≤ maxLen := by
  obtain ⟨xs, n, _, _, _, hl, hx⟩ := DataW.trod_struct Try.underlying103 h
  have hl4 : xs.length = 3 := hl
  obtain ⟨y0, h0⟩ := osome_at 0 hl4 (by decide)
  obtain ⟨y1, h1⟩ := osome_at 1 hl4 (by decide)
  obtain ⟨y2, h2⟩ := osome_at 2 hl4 (by decide)
  have q0 := hx 0 _ rfl
  have q1 := hx 1 _ rfl
  have q2 := hx 2 _ rfl
  rw [h0] at q0
  rw [h1] at q1
  rw [h2] at q2
  simp only [List.getElem_toArray, List.getElem_cons_zero, List.getElem_cons_succ] at q0 q1 q2
  rw [ocells_i] at q1 q2
  rw [ocells_s] at q0
  obtain ⟨z0, rfl, g0⟩ := otrod_s q0
  obtain ⟨z1, rfl⟩ := otrod_i q1
  obtain ⟨z2, rfl⟩ := otrod_i q2
  exact ⟨⟨z0, z1, z2⟩, rfl, g0⟩
theorem open_wts {m : Nat} {v : Value} {y : DataW H × List MemPlace} (h : DataW.trod enc Try.prog W base sp held m 63 [v] = some y) : ∃ l : List WtV, WtRow W v l ∧ WtMx l := by
  rcases Go.Deep.open_slice Try.underlying63 h with ⟨hcs, _⟩ | ⟨a, len, cap, m', n, D, Pl, hcs, hb, hl, hm, hmm, _, hc⟩
  · cases hcs
    exact ⟨[], .inl ⟨rfl, _, _, rfl⟩, by decide, fun i hi => absurd hi (Nat.not_lt_zero _)⟩
  · cases hcs
    have hle : len ≤ m' := by rw [hmm]; split <;> omega
    have key : ∀ i, i < len → ∃ r : WtV, W.cell? (a.add (i * 3)) = some (.string r.k) ∧ W.cell? ((a.add (i * 3)).add 1) = some (.int .i64 r.p) ∧ W.cell? ((a.add (i * 3)).add 2) = some (.int .i64 r.q) ∧ r.k.size ≤ maxLen := fun i hi => by
      obtain ⟨cs', h1, h2⟩ := hc i (by omega)
      rw [wtcells_a] at h1
      obtain ⟨_, hlen, hcell⟩ := World.cells?_some h1
      match cs', hlen, h2 with
      | [v0, v1, v2], _, h3 =>
        obtain ⟨x, e, g0⟩ := trod_wt h3
        cases e
        have e0 := hcell 0 (by omega)
        have e1 := hcell 1 (by omega)
        have e2 := hcell 2 (by omega)
        refine ⟨x, ?_, by simpa [wtvs] using e1, by simpa [wtvs] using e2, g0⟩
        have : (a.add (i * 3)).add 0 = a.add (i * 3) := by simp [Addr.add] <;> split <;> simp_all
        rw [this] at e0
        simpa [wtvs] using e0
    haveI : Inhabited WtV := ⟨wtv0⟩
    obtain ⟨R, hR⟩ := Go.Deep.choose_lt key
    refine ⟨(List.range len).map R, ?_, by simp; omega, fun i hi => ?_⟩
    · by_cases h0 : len = 0
      · subst h0
        exact .inl ⟨rfl, _, _, rfl⟩
      · have h00 := (hR 0 (by omega)).1
        have hab : a = ⟨a.block, a.off, none⟩ := spot_none (by rwa [Nat.zero_mul] at h00)
        have hadd : ∀ k, a.add k = ⟨a.block, a.off + k, none⟩ := fun k => by
          rw [show a = ⟨a.block, a.off, none⟩ from hab]; exact add_plain ..
        have hadd2 : ∀ k j, (a.add k).add j = ⟨a.block, a.off + k + j, none⟩ := fun k j => by
          rw [hadd]; exact add_plain ..
        refine .inr ⟨by simp; omega, a.block, a.off, cap - len, ?_, ?_, fun i hi => ?_⟩
        · simp
          exact ⟨hab, by omega⟩
        · have := World.block_lt_of_cell? W _ h00
          exact this
        · rw [List.length_map, List.length_range] at hi
          rw [getD_map _ R len i hi]
          obtain ⟨h1, h2, h3, _⟩ := hR i hi
          rw [hadd] at h1
          rw [hadd2] at h2 h3
          exact ⟨h1, h2, h3⟩
    · rw [List.length_map, List.length_range] at hi
      rw [getD_map _ R len i hi]
      exact (hR i hi).2.2.2
end
end Go.Proofs.Ytcjblhiihgdljaa
