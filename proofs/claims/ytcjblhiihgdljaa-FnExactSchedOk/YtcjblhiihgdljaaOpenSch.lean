/- Queues that came in as an argument. -/
import Derived.Test.YtcjblhiihgdljaaRows
import Derived.Test.YtcjblhiihgdljaaSitSz
import Derived.Test.YtcjblhiihgdljaaOpenWt
import Derived.Test.YtcjblhiihgdljaaOpenLs
namespace Go.Proofs.Ytcjblhiihgdljaa
open Go.RowKit Go.WideShapes Go.ChangeShapes
set_option maxRecDepth 100000

section
variable {H : Type} {enc : TypeId × Value → H} {W : World} {base : Nat} {sp : Nat → Bool} {held : Bool}
theorem sicells_a : Try.prog.cellsOf 65 = 3 := by kernel_rfl
theorem ocells_w : Try.prog.cellsOf 63 = 1 := by kernel_rfl
theorem trod_si {m : Nat} {v0 v1 v2 : Value} {y : DataW H × List MemPlace} (h : DataW.trod enc Try.prog W base sp held m 65 [v0, v1, v2] = some y) :
    ∃ x : SiteV, v0 = .string x.n ∧ v1 = .int .i64 x.r ∧ WtRow W v2 x.w ∧ x.n.size ≤ maxLen ∧ WtMx x.w := by
  obtain ⟨xs, n, _, _, _, hl, hx⟩ := DataW.trod_struct Try.underlying65 h
  have hl4 : xs.length = 3 := hl
  obtain ⟨y0, h0⟩ := osome_at 0 hl4 (by decide)
  obtain ⟨y1, h1⟩ := osome_at 1 hl4 (by decide)
  obtain ⟨y2, h2⟩ := osome_at 2 hl4 (by decide)
  have q0 := hx 0 _ rfl
  have q1 := hx 1 _ rfl
  have q2 := hx 2 _ rfl
  rw [h0] at q0
  rw [h1] at q1
  rw [h2] at q2
  simp only [List.getElem_toArray, List.getElem_cons_zero, List.getElem_cons_succ] at q0 q1 q2
  rw [ocells_s] at q0
  rw [ocells_i] at q1
  rw [ocells_w] at q2
  obtain ⟨a, rfl, ha⟩ := otrod_s q0
  obtain ⟨b, rfl⟩ := otrod_i q1
  obtain ⟨l, hl1, hl2⟩ := open_wts (show DataW.trod enc Try.prog W base sp held n 63 [v2] = some y2 from q2)
  exact ⟨⟨a, b, l⟩, rfl, rfl, hl1, ha, hl2⟩
theorem open_sits {m : Nat} {v : Value} {y : DataW H × List MemPlace} (h : DataW.trod enc Try.prog W base sp held m 22 [v] = some y) : ∃ l : List SiteV, SitRow W v l ∧ SitMx l := by
  rcases Go.Deep.open_slice Try.underlying22 h with ⟨hcs, _⟩ | ⟨a, len, cap, m', n, D, Pl, hcs, hb, hl, hm, hmm, _, hc⟩
  · cases hcs
    exact ⟨[], SitRow.nil _ _ _, by decide, fun i hi => absurd hi (Nat.not_lt_zero _)⟩
  · cases hcs
    have hle : len ≤ m' := by rw [hmm]; split <;> omega
    have key : ∀ i, i < len → ∃ r : SiteV × Value, W.cell? (a.add (i * 3)) = some (.string r.1.n) ∧ W.cell? ((a.add (i * 3)).add 1) = some (.int .i64 r.1.r) ∧ W.cell? ((a.add (i * 3)).add 2) = some r.2 ∧ WtRow W r.2 r.1.w ∧ r.1.n.size ≤ maxLen ∧ WtMx r.1.w := fun i hi => by
      obtain ⟨cs', h1, h2⟩ := hc i (by omega)
      rw [sicells_a] at h1
      obtain ⟨_, hlen, hcell⟩ := World.cells?_some h1
      match cs', hlen, h2 with
      | [v0, v1, v2], _, h3 =>
        obtain ⟨x, rfl, rfl, g1, g2, g3⟩ := trod_si h3
        have e0 := hcell 0 (by omega)
        have e1 := hcell 1 (by omega)
        have e2 := hcell 2 (by omega)
        refine ⟨(x, v2), ?_, by simpa using e1, by simpa using e2, g1, g2, g3⟩
        have : (a.add (i * 3)).add 0 = a.add (i * 3) := by simp [Addr.add] <;> split <;> simp_all
        rw [this] at e0
        simpa using e0
    haveI : Inhabited (SiteV × Value) := ⟨(sitv0, .slice none 0 0)⟩
    obtain ⟨R, hR⟩ := Go.Deep.choose_lt key
    refine ⟨(List.range len).map fun i => (R i).1, ⟨(List.range len).map fun i => ⟨(R i).1.n, (R i).1.r, (R i).2⟩, ?_, by simp, fun i hi => ?_⟩, by simp; omega, fun i hi => ?_⟩
    · by_cases h0 : len = 0
      · subst h0
        exact .inl ⟨rfl, _, _, rfl⟩
      · have h00 := (hR 0 (by omega)).1
        have hab : a = ⟨a.block, a.off, none⟩ := spot_none (by rwa [Nat.zero_mul] at h00)
        have hadd : ∀ k, a.add k = ⟨a.block, a.off + k, none⟩ := fun k => by
          rw [show a = ⟨a.block, a.off, none⟩ from hab]; exact add_plain ..
        have hadd2 : ∀ k j, (a.add k).add j = ⟨a.block, a.off + k + j, none⟩ := fun k j => by
          rw [hadd]; exact add_plain ..
        refine .inr ⟨by simp; omega, a.block, a.off, cap - len, ?_, ?_, fun i hi => ?_⟩
        · simp
          exact ⟨hab, by omega⟩
        · have := World.block_lt_of_cell? W _ h00
          exact this
        · rw [List.length_map, List.length_range] at hi
          rw [getD_map _ _ len i hi]
          obtain ⟨h1, h2, h3, _⟩ := hR i hi
          rw [hadd] at h1
          rw [hadd2] at h2 h3
          exact ⟨h1, h2, h3⟩
    · rw [List.length_map, List.length_range] at hi
      rw [getD_map _ _ len i hi, getD_map _ _ len i hi]
      exact ⟨rfl, rfl, (hR i hi).2.2.2.1⟩
    · rw [List.length_map, List.length_range] at hi
      rw [getD_map _ _ len i hi]
      exact (hR i hi).2.2.2.2
theorem sccells_a : Try.prog.cellsOf 25 = 6 := by kernel_rfl
theorem ocells_si : Try.prog.cellsOf 22 = 1 := by kernel_rfl
theorem ocells_ls : Try.prog.cellsOf 23 = 1 := by kernel_rfl
theorem trod_sch {m : Nat} {v0 v1 v2 v3 v4 v5 : Value} {y : DataW H × List MemPlace} (h : DataW.trod enc Try.prog W base sp held m 25 [v0, v1, v2, v3, v4, v5] = some y) :
    ∃ (a b c d : Int) (si : List SiteV) (le : List LsV), v0 = .int .i64 a ∧ v1 = .int .i64 b ∧ v2 = .int .i64 c ∧ v3 = .int .i64 d ∧ (SitRow W v4 si ∧ LsRow W v5 le) ∧ (SitMx si ∧ LsMx le) := by
  obtain ⟨xs, n, _, _, _, hl, hx⟩ := DataW.trod_struct Try.underlying25 h
  have hl4 : xs.length = 6 := hl
  obtain ⟨y0, h0⟩ := osome_at 0 hl4 (by decide)
  obtain ⟨y1, h1⟩ := osome_at 1 hl4 (by decide)
  obtain ⟨y2, h2⟩ := osome_at 2 hl4 (by decide)
  obtain ⟨y3, h3⟩ := osome_at 3 hl4 (by decide)
  obtain ⟨y4, h4⟩ := osome_at 4 hl4 (by decide)
  obtain ⟨y5, h5⟩ := osome_at 5 hl4 (by decide)
  have q0 := hx 0 _ rfl
  have q1 := hx 1 _ rfl
  have q2 := hx 2 _ rfl
  have q3 := hx 3 _ rfl
  have q4 := hx 4 _ rfl
  have q5 := hx 5 _ rfl
  rw [h0] at q0
  rw [h1] at q1
  rw [h2] at q2
  rw [h3] at q3
  rw [h4] at q4
  rw [h5] at q5
  simp only [List.getElem_toArray, List.getElem_cons_zero, List.getElem_cons_succ] at q0 q1 q2 q3 q4 q5
  rw [ocells_i] at q0 q1 q2 q3
  rw [ocells_si] at q4
  rw [ocells_ls] at q5
  obtain ⟨a, rfl⟩ := otrod_i q0
  obtain ⟨b, rfl⟩ := otrod_i q1
  obtain ⟨c, rfl⟩ := otrod_i q2
  obtain ⟨d, rfl⟩ := otrod_i q3
  obtain ⟨si, hs1, hs2⟩ := open_sits (show DataW.trod enc Try.prog W base sp held n 22 [v4] = some y4 from q4)
  obtain ⟨le, hl1, hl2⟩ := open_lss (show DataW.trod enc Try.prog W base sp held n 23 [v5] = some y5 from q5)
  exact ⟨a, b, c, d, si, le, rfl, rfl, rfl, rfl, ⟨hs1, hl1⟩, hs2, hl2⟩
theorem open_sch {r0 : Reach} {b0 : Nat} {v : Value} {d : DataW H} {ps : List MemPlace} (hval : Value.okWide Try.prog W r0 b0 25 v) (hd : DataW.Trod enc Try.prog W base sp held 25 v d ps) :
    ∃ (za zb zc zd : Int) (p q : Value) (si : List SiteV) (le : List LsV), v = .agg #[.int .i64 za, .int .i64 zb, .int .i64 zc, .int .i64 zd, p, q] ∧ (SitRow W p si ∧ LsRow W q le) ∧ (SitMx si ∧ LsMx le) := by
  obtain ⟨cs, rfl, hsz⟩ := okWide_struct Try.underlying25 hval
  rw [sccells_a] at hsz
  obtain ⟨fuel, hf⟩ := hd
  obtain ⟨L⟩ := cs
  have hf2 : DataW.trod enc Try.prog W base sp held fuel 25 L = some (d, ps) := hf
  have hlen : L.length = 6 := hsz
  match L, hlen, hf2 with
  | [v0, v1, v2, v3, v4, v5], _, hf3 =>
    obtain ⟨a, b, c, e, si, le, rfl, rfl, rfl, rfl, h1, h2⟩ := trod_sch hf3
    exact ⟨a, b, c, e, v4, v5, si, le, rfl, h1, h2⟩
end
end Go.Proofs.Ytcjblhiihgdljaa
