/- Robots that came in as an argument: rows of parts, of names, of lines. -/
import Derived.Test.YtjdnemjcjodboaaRows
import Derived.Test.YtjdnemjcjodboaaRobSz
import Derived.OpenShut
import Derived.Deep.Strs
import Derived.Deep.Slices
import Derived.Deep.SlicePairs
namespace Go.Proofs.Ytjdnemjcjodboaa
open Go.RowKit Go.WideShapes Go.ChangeShapes
set_option maxRecDepth 100000

section
variable {H : Type} {enc : TypeId × Value → H} {W : World} {base : Nat} {sp : Nat → Bool} {held : Bool}
theorem spot_none {W : World} {a : Addr} {v : Value} (h : W.cell? (a.add 0) = some v) : a = ⟨a.block, a.off, none⟩ := by
  obtain ⟨b, off, spot⟩ := a
  have hspot : spot = none := by simpa [Addr.add] using World.cell?_spot h
  subst hspot
  rfl
theorem getD_map {α : Type} (d : α) (f : Nat → α) (n i : Nat) (h : i < n) : ((List.range n).map f).getD i d = f i := by simp [List.getD, h]
theorem open_names {m : Nat} {v : Value} {y : DataW H × List MemPlace} (h : DataW.trod enc Try.prog W base sp held m 33 [v] = some y) : ∃ l : List ByteArray, StrRow W v l ∧ SMx l := by
  rcases Go.Deep.open_strs Try.underlying33 Try.underlying9 (by kernel_rfl) h with ⟨hcs, _⟩ | ⟨a, len, cap, m', Sx, hcs, hb, hl, hm, hmm, _, hc⟩
  · cases hcs
    exact ⟨[], .inl ⟨rfl, _, _, rfl⟩, by decide, fun i hi => absurd hi (Nat.not_lt_zero _)⟩
  · cases hcs
    have hle : len ≤ m' := by rw [hmm]; split <;> omega
    refine ⟨(List.range len).map Sx, ?_, by simp; omega, fun i hi => ?_⟩
    · by_cases h0 : len = 0
      · subst h0
        exact .inl ⟨rfl, _, _, rfl⟩
      · have h00 := (hc 0 (by omega)).1
        have hab : a = ⟨a.block, a.off, none⟩ := spot_none h00
        refine .inr ⟨by simp; omega, a.block, a.off, cap - len, ?_, ?_, fun i hi => ?_⟩
        · simp
          exact ⟨hab, by omega⟩
        · have := World.block_lt_of_cell? W (a.add 0) h00
          exact this
        · rw [List.length_map, List.length_range] at hi
          rw [getD_map _ Sx len i hi]
          have := (hc i (by omega)).1
          rw [show a.add i = ⟨a.block, a.off + i, none⟩ by rw [show a = ⟨a.block, a.off, none⟩ from hab]; exact add_plain ..] at this
          exact this
    · rw [List.length_map, List.length_range] at hi
      rw [getD_map _ Sx len i hi]
      exact (hc i (by omega)).2
theorem open_lines {m : Nat} {v : Value} {y : DataW H × List MemPlace} (h : DataW.trod enc Try.prog W base sp held m 84 [v] = some y) : ∃ l : List LV, LineRow W v l ∧ LMx l := by
  rcases Go.Deep.open_slice_pairs Try.underlying84 Try.underlying110 (by kernel_rfl) rfl rfl (by kernel_rfl) (by kernel_rfl) h with ⟨hcs, _⟩ | ⟨a, len, cap, m', n, V0, V1, D0, D1, P0, P1, hcs, hb, hl, hm, hmm, _, hc⟩
  · cases hcs
    exact ⟨[], .inl ⟨rfl, _, _, rfl⟩, by decide, fun i hi => absurd hi (Nat.not_lt_zero _)⟩
  · cases hcs
    have hle : len ≤ m' := by rw [hmm]; split <;> omega
    have key : ∀ i, i < len → ∃ r : LV, W.cell? (a.add (i * 2)) = some (.bool r.al) ∧ W.cell? (a.add (i * 2 + 1)) = some (.string r.pa) ∧ r.pa.size ≤ maxLen := fun i hi => by
      obtain ⟨h1, h2, h3, h4⟩ := hc i (by omega)
      obtain ⟨b, g1, _⟩ := DataW.trod_bool Try.underlying4 h3
      obtain ⟨s, g3, _, g5⟩ := DataW.trod_string Try.underlying9 h4
      have g2 : V0 i = .bool b := by simpa using g1
      have g4 : V1 i = .string s := by simpa using g3
      exact ⟨⟨b, s⟩, by rw [h1, g2], by rw [h2, g4], g5⟩
    haveI : Inhabited LV := ⟨lv0⟩
    obtain ⟨R, hR⟩ := Go.Deep.choose_lt key
    refine ⟨(List.range len).map R, ?_, by simp; omega, fun i hi => ?_⟩
    · by_cases h0 : len = 0
      · subst h0
        exact .inl ⟨rfl, _, _, rfl⟩
      · have h00 := (hR 0 (by omega)).1
        have hab : a = ⟨a.block, a.off, none⟩ := spot_none (by rwa [Nat.zero_mul] at h00)
        have hadd : ∀ k, a.add k = ⟨a.block, a.off + k, none⟩ := fun k => by
          rw [show a = ⟨a.block, a.off, none⟩ from hab]; exact add_plain ..
        refine .inr ⟨by simp; omega, a.block, a.off, cap - len, ?_, ?_, fun i hi => ?_⟩
        · simp
          exact ⟨hab, by omega⟩
        · have := World.block_lt_of_cell? W _ h00
          exact this
        · rw [List.length_map, List.length_range] at hi
          rw [getD_map _ R len i hi]
          obtain ⟨h1, h3, _⟩ := hR i hi
          rw [hadd] at h1 h3
          exact ⟨h1, by rw [Nat.add_assoc]; exact h3⟩
    · rw [List.length_map, List.length_range] at hi
      rw [getD_map _ R len i hi]
      exact (hR i hi).2.2
theorem open_parts {m : Nat} {v : Value} {y : DataW H × List MemPlace} (h : DataW.trod enc Try.prog W base sp held m 38 [v] = some y) : ∃ l : List PT, PartRow W v l ∧ PMx l := by
  rcases Go.Deep.open_slice_pairs Try.underlying38 Try.underlying86 (by kernel_rfl) rfl rfl (by kernel_rfl) (by kernel_rfl) h with ⟨hcs, _⟩ | ⟨a, len, cap, m', n, V0, V1, D0, D1, P0, P1, hcs, hb, hl, hm, hmm, _, hc⟩
  · cases hcs
    exact ⟨[], .inl ⟨rfl, _, _, rfl⟩, by decide, fun i hi => absurd hi (Nat.not_lt_zero _)⟩
  · cases hcs
    have hle : len ≤ m' := by rw [hmm]; split <;> omega
    have key : ∀ i, i < len → ∃ r : PT, W.cell? (a.add (i * 2)) = some (V0 i) ∧ StrRow W (V0 i) r.ag ∧ W.cell? (a.add (i * 2 + 1)) = some (V1 i) ∧ LineRow W (V1 i) r.ln ∧ SMx r.ag ∧ LMx r.ln := fun i hi => by
      obtain ⟨h1, h2, h3, h4⟩ := hc i (by omega)
      obtain ⟨l, g1, g2⟩ := open_names h3
      obtain ⟨l2, g3, g4⟩ := open_lines h4
      exact ⟨⟨l, l2⟩, h1, g1, h2, g3, g2, g4⟩
    haveI : Inhabited PT := ⟨pt0⟩
    obtain ⟨R, hR⟩ := Go.Deep.choose_lt key
    refine ⟨(List.range len).map R, ?_, by simp; omega, fun i hi => ?_⟩
    · by_cases h0 : len = 0
      · subst h0
        exact .inl ⟨rfl, _, _, rfl⟩
      · have h00 := (hR 0 (by omega)).1
        have hab : a = ⟨a.block, a.off, none⟩ := spot_none (by rwa [Nat.zero_mul] at h00)
        have hadd : ∀ k, a.add k = ⟨a.block, a.off + k, none⟩ := fun k => by
          rw [show a = ⟨a.block, a.off, none⟩ from hab]; exact add_plain ..
        refine .inr ⟨by simp; omega, a.block, a.off, cap - len, ?_, ?_, fun i hi => ?_⟩
        · simp
          exact ⟨hab, by omega⟩
        · have := World.block_lt_of_cell? W _ h00
          exact this
        · rw [List.length_map, List.length_range] at hi
          rw [getD_map _ R len i hi]
          obtain ⟨h1, h2, h3, h4, _⟩ := hR i hi
          rw [hadd] at h1 h3
          exact ⟨V0 i, V1 i, h1, h2, by rw [Nat.add_assoc]; exact h3, h4⟩
    · rw [List.length_map, List.length_range] at hi
      rw [getD_map _ R len i hi]
      exact (hR i hi).2.2.2.2
theorem open_robots {r0 : Reach} {b0 : Nat} {v : Value} {d : DataW H} {ps : List MemPlace} (hval : Value.okWide Try.prog W r0 b0 40 v) (hd : DataW.Trod enc Try.prog W base sp held 40 v d ps) :
    ∃ (p : Value) (l : List PT), v = .agg #[p] ∧ PartRow W p l ∧ PMx l := by
  obtain ⟨cs, rfl, hsz⟩ := okWide_struct Try.underlying40 hval
  obtain ⟨m, hm⟩ := hd
  have hc2 : cs.size = 1 := by
    rw [hsz]; kernel_rfl
  obtain ⟨L⟩ := cs
  match L, hc2, hm with
  | [v0], _, hm =>
    obtain ⟨xs, n, _, _, _, hl, hx⟩ := DataW.trod_struct Try.underlying40 hm
    have hl2 : xs.length = 1 := hl
    have g0 := hx 0 _ rfl
    rw [List.getElem?_eq_getElem (by omega)] at g0
    simp only [List.getElem_toArray, List.getElem_cons_zero] at g0
    rw [show Try.prog.cellsOf 38 = 1 from by kernel_rfl] at g0
    obtain ⟨l, h1, h2⟩ := open_parts g0
    exact ⟨v0, l, rfl, h1, h2⟩
end
end Go.Proofs.Ytjdnemjcjodboaa
