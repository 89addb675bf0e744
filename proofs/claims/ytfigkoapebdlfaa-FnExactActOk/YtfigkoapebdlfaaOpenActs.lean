/- Acts that came in as arguments: one, and a row of them. -/
import Derived.Test.YtfigkoapebdlfaaRows
import Derived.Test.YtfigkoapebdlfaaActSz
import Derived.OpenShut
import Derived.Deep.Strs
import Derived.Deep.Slices
namespace Go.Proofs.Ytfigkoapebdlfaa
open Go.RowKit Go.WideShapes Go.ChangeShapes
set_option maxRecDepth 100000

section
variable {H : Type} {enc : TypeId × Value → H} {W : World} {base : Nat} {sp : Nat → Bool} {held : Bool}
theorem atrod_i {m : Nat} {v : Value} {y : DataW H × List MemPlace} (h : DataW.trod enc Try.prog W base sp held m 3 [v] = some y) : ∃ n, v = .int .i64 n := by
  obtain ⟨n, h1, _⟩ := DataW.trod_int Try.underlying3 h
  exact ⟨n, by simpa using h1⟩
theorem atrod_s {m : Nat} {v : Value} {y : DataW H × List MemPlace} (h : DataW.trod enc Try.prog W base sp held m 9 [v] = some y) : ∃ n : ByteArray, v = .string n ∧ n.size ≤ maxLen := by
  obtain ⟨n, h1, _, h2⟩ := DataW.trod_string Try.underlying9 h
  exact ⟨n, by simpa using h1, h2⟩
theorem asome_at {α : Type} {xs : List α} {n : Nat} (i : Nat) (h : xs.length = n) (hi : i < n) : ∃ y, xs[i]? = some y := ⟨_, List.getElem?_eq_getElem (by omega)⟩
theorem acells_i : Try.prog.cellsOf 3 = 1 := by kernel_rfl
theorem acells_s : Try.prog.cellsOf 9 = 1 := by kernel_rfl
theorem acells_a : Try.prog.cellsOf 23 = 4 := by kernel_rfl
theorem trod_act {m : Nat} {v0 v1 v2 v3 : Value} {y : DataW H × List MemPlace} (h : DataW.trod enc Try.prog W base sp held m 23 [v0, v1, v2, v3] = some y) :
    ∃ x : AV, ([v0, v1, v2, v3] : List Value) = av4 x ∧ x.t.size ≤ maxLen ∧ x.b.size ≤ maxLen := by
  obtain ⟨xs, n, _, _, _, hl, hx⟩ := DataW.trod_struct Try.underlying23 h
  have hl4 : xs.length = 4 := hl
  obtain ⟨y0, h0⟩ := asome_at 0 hl4 (by decide)
  obtain ⟨y1, h1⟩ := asome_at 1 hl4 (by decide)
  obtain ⟨y2, h2⟩ := asome_at 2 hl4 (by decide)
  obtain ⟨y3, h3⟩ := asome_at 3 hl4 (by decide)
  have q0 := hx 0 _ rfl
  have q1 := hx 1 _ rfl
  have q2 := hx 2 _ rfl
  have q3 := hx 3 _ rfl
  rw [h0] at q0
  rw [h1] at q1
  rw [h2] at q2
  rw [h3] at q3
  simp only [List.getElem_toArray, List.getElem_cons_zero, List.getElem_cons_succ] at q0 q1 q2 q3
  rw [acells_i] at q0 q3
  rw [acells_s] at q1 q2
  obtain ⟨k, rfl⟩ := atrod_i q0
  obtain ⟨t, rfl, ht⟩ := atrod_s q1
  obtain ⟨b, rfl, hb⟩ := atrod_s q2
  obtain ⟨z, rfl⟩ := atrod_i q3
  exact ⟨⟨k, t, b, z⟩, rfl, ht, hb⟩
theorem open_act {r0 : Reach} {b0 : Nat} {v : Value} {d : DataW H} {ps : List MemPlace} (hval : Value.okWide Try.prog W r0 b0 23 v) (hd : DataW.Trod enc Try.prog W base sp held 23 v d ps) :
    ∃ x : AV, v = .agg #[.int .i64 x.k, .string x.t, .string x.b, .int .i64 x.n] ∧ x.t.size ≤ maxLen ∧ x.b.size ≤ maxLen := by
  obtain ⟨cs, rfl, hsz⟩ := okWide_struct Try.underlying23 hval
  rw [acells_a] at hsz
  obtain ⟨fuel, hf⟩ := hd
  obtain ⟨L⟩ := cs
  have hf2 : DataW.trod enc Try.prog W base sp held fuel 23 L = some (d, ps) := hf
  have hlen : L.length = 4 := hsz
  match L, hlen, hf2 with
  | [v0, v1, v2, v3], _, hf3 =>
    obtain ⟨x, e, h1, h2⟩ := trod_act hf3
    cases e
    exact ⟨x, rfl, h1, h2⟩
theorem open_acts {m : Nat} {v : Value} {y : DataW H × List MemPlace} (h : DataW.trod enc Try.prog W base sp held m 38 [v] = some y) : ∃ l : List AV, ActRow W v l ∧ AMx l := by
  rcases Go.Deep.open_slice Try.underlying38 h with ⟨hcs, _⟩ | ⟨a, len, cap, m', n, D, Pl, hcs, hb, hl, hm, hmm, _, hc⟩
  · cases hcs
    exact ⟨[], .inl ⟨rfl, _, _, rfl⟩, by decide, fun i hi => absurd hi (Nat.not_lt_zero _)⟩
  · cases hcs
    have hle : len ≤ m' := by rw [hmm]; split <;> omega
    have key : ∀ i, i < len → ∃ r : AV, W.cell? (a.add (i * 4)) = some (.int .i64 r.k) ∧ W.cell? ((a.add (i * 4)).add 1) = some (.string r.t) ∧ W.cell? ((a.add (i * 4)).add 2) = some (.string r.b) ∧ W.cell? ((a.add (i * 4)).add 3) = some (.int .i64 r.n) ∧ r.t.size ≤ maxLen ∧ r.b.size ≤ maxLen := fun i hi => by
      obtain ⟨cs', h1, h2⟩ := hc i (by omega)
      rw [acells_a] at h1
      obtain ⟨_, hlen, hcell⟩ := World.cells?_some h1
      match cs', hlen, h2 with
      | [v0, v1, v2, v3], _, h3 =>
        obtain ⟨x, e, g1, g2⟩ := trod_act h3
        cases e
        have e0 := hcell 0 (by omega)
        have e1 := hcell 1 (by omega)
        have e2 := hcell 2 (by omega)
        have e3 := hcell 3 (by omega)
        refine ⟨x, ?_, by simpa [av4] using e1, by simpa [av4] using e2, by simpa [av4] using e3, g1, g2⟩
        have : (a.add (i * 4)).add 0 = a.add (i * 4) := by simp [Addr.add] <;> split <;> simp_all
        rw [this] at e0
        simpa [av4] using e0
    haveI : Inhabited AV := ⟨av0⟩
    obtain ⟨R, hR⟩ := Go.Deep.choose_lt key
    refine ⟨(List.range len).map R, ?_, by simp; omega, fun i hi => ?_⟩
    · by_cases h0 : len = 0
      · subst h0
        exact .inl ⟨rfl, _, _, rfl⟩
      · have h00 := (hR 0 (by omega)).1
        have hab : a = ⟨a.block, a.off, none⟩ := spot_none (by rwa [Nat.zero_mul] at h00)
        have hadd : ∀ k, a.add k = ⟨a.block, a.off + k, none⟩ := fun k => by
          rw [show a = ⟨a.block, a.off, none⟩ from hab]; exact add_plain ..
        have hadd2 : ∀ k j, (a.add k).add j = ⟨a.block, a.off + k + j, none⟩ := fun k j => by
          rw [hadd]; exact add_plain ..
        refine .inr ⟨by simp; omega, a.block, a.off, cap - len, ?_, ?_, fun i hi => ?_⟩
        · simp
          exact ⟨hab, by omega⟩
        · have := World.block_lt_of_cell? W _ h00
          exact this
        · rw [List.length_map, List.length_range] at hi
          rw [getD_map _ R len i hi]
          obtain ⟨h1, h2, h3, h4, _⟩ := hR i hi
          rw [hadd] at h1
          rw [hadd2] at h2 h3 h4
          exact ⟨h1, h2, h3, h4⟩
    · rw [List.length_map, List.length_range] at hi
      rw [getD_map _ R len i hi]
      exact (hR i hi).2.2.2.2
end
end Go.Proofs.Ytfigkoapebdlfaa
