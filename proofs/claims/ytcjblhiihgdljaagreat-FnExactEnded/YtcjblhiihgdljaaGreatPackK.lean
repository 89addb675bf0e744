/- Contracts and plain laws: OpenFlat, OpenWt, OpenLs, OpenSch. -/
import Derived.Test.YtcjblhiihgdljaaGreatRows
import Derived.OpenShut
import Derived.Deep.Strs
import Derived.Deep.Slices
import Derived.Test.YtcjblhiihgdljaaGreatPackJ
namespace Go.Proofs.YtcjblhiihgdljaaGreat
open Go.RowKit Go.WideShapes Go.ChangeShapes
set_option maxRecDepth 100000

section
variable {H : Type} {enc : TypeId × Value → H} {W : World} {base : Nat} {sp : Nat → Bool} {held : Bool}
theorem otrod_i {m : Nat} {v : Value} {y : DataW H × List MemPlace} (h : DataW.trod enc Tryz.prog W base sp held m 3 [v] = some y) : ∃ n, v = .int .i64 n := by
  obtain ⟨n, h1, _⟩ := DataW.trod_int Tryz.underlying3 h
  exact ⟨n, by simpa using h1⟩
theorem otrod_s {m : Nat} {v : Value} {y : DataW H × List MemPlace} (h : DataW.trod enc Tryz.prog W base sp held m 9 [v] = some y) : ∃ n : ByteArray, v = .string n ∧ n.size ≤ maxLen := by
  obtain ⟨n, h1, _, h2⟩ := DataW.trod_string Tryz.underlying9 h
  exact ⟨n, by simpa using h1, h2⟩
theorem osome_at {α : Type} {xs : List α} {n : Nat} (i : Nat) (h : xs.length = n) (hi : i < n) : ∃ y, xs[i]? = some y := ⟨_, List.getElem?_eq_getElem (by omega)⟩
theorem ocells_i : Tryz.prog.cellsOf 3 = 1 := by kernel_rfl
theorem ocells_s : Tryz.prog.cellsOf 9 = 1 := by kernel_rfl
end
end Go.Proofs.YtcjblhiihgdljaaGreat

namespace Go.Proofs.YtcjblhiihgdljaaGreat
open Go.RowKit Go.WideShapes Go.ChangeShapes
set_option maxRecDepth 100000

section
variable {H : Type} {enc : TypeId × Value → H} {W : World} {base : Nat} {sp : Nat → Bool} {held : Bool}
theorem wtcells_a : Tryz.prog.cellsOf 203 = 3 := by kernel_rfl
theorem trod_wt {m : Nat} {v0 v1 v2 : Value} {y : DataW H × List MemPlace} (h : DataW.trod enc Tryz.prog W base sp held m 203 [v0, v1, v2] = some y) :
    ∃ x : WtV, ([v0, v1, v2] : List Value) = wtvs x ∧ x.k.size ≤ maxLen := by
  obtain ⟨xs, n, _, _, _, hl, hx⟩ := DataW.trod_struct Tryz.underlying203 h
  have hl4 : xs.length = 3 := hl
  obtain ⟨y0, h0⟩ := osome_at 0 hl4 (by decide)
  obtain ⟨y1, h1⟩ := osome_at 1 hl4 (by decide)
  obtain ⟨y2, h2⟩ := osome_at 2 hl4 (by decide)
  have q0 := hx 0 _ rfl
  have q1 := hx 1 _ rfl
  have q2 := hx 2 _ rfl
  rw [h0] at q0
  rw [h1] at q1
  rw [h2] at q2
  simp only [List.getElem_toArray, List.getElem_cons_zero, List.getElem_cons_succ] at q0 q1 q2
  rw [ocells_i] at q1 q2
  rw [ocells_s] at q0
  obtain ⟨z0, rfl, g0⟩ := otrod_s q0
  obtain ⟨z1, rfl⟩ := otrod_i q1
  obtain ⟨z2, rfl⟩ := otrod_i q2
  exact ⟨⟨z0, z1, z2⟩, rfl, g0⟩
theorem open_wts {m : Nat} {v : Value} {y : DataW H × List MemPlace} (h : DataW.trod enc Tryz.prog W base sp held m 147 [v] = some y) : ∃ l : List WtV, WtRow W v l ∧ WtMx l := by
  rcases Go.Deep.open_slice Tryz.underlying147 h with ⟨hcs, _⟩ | ⟨a, len, cap, m', n, D, Pl, hcs, hb, hl, hm, hmm, _, hc⟩
  · cases hcs
    exact ⟨[], .inl ⟨rfl, _, _, rfl⟩, by decide, fun i hi => absurd hi (Nat.not_lt_zero _)⟩
  · cases hcs
    have hle : len ≤ m' := by rw [hmm]; split <;> omega
    have key : ∀ i, i < len → ∃ r : WtV, W.cell? (a.add (i * 3)) = some (.string r.k) ∧ W.cell? ((a.add (i * 3)).add 1) = some (.int .i64 r.p) ∧ W.cell? ((a.add (i * 3)).add 2) = some (.int .i64 r.q) ∧ r.k.size ≤ maxLen := fun i hi => by
      obtain ⟨cs', h1, h2⟩ := hc i (by omega)
      rw [wtcells_a] at h1
      obtain ⟨_, hlen, hcell⟩ := World.cells?_some h1
      match cs', hlen, h2 with
      | [v0, v1, v2], _, h3 =>
        obtain ⟨x, e, g0⟩ := trod_wt h3
        cases e
        have e0 := hcell 0 (by omega)
        have e1 := hcell 1 (by omega)
        have e2 := hcell 2 (by omega)
        refine ⟨x, ?_, by simpa [wtvs] using e1, by simpa [wtvs] using e2, g0⟩
        have : (a.add (i * 3)).add 0 = a.add (i * 3) := by simp [Addr.add] <;> split <;> simp_all
        rw [this] at e0
        simpa [wtvs] using e0
    haveI : Inhabited WtV := ⟨wtv0⟩
    obtain ⟨R, hR⟩ := Go.Deep.choose_lt key
    refine ⟨(List.range len).map R, ?_, by simp; omega, fun i hi => ?_⟩
    · by_cases h0 : len = 0
      · subst h0
        exact .inl ⟨rfl, _, _, rfl⟩
      · have h00 := (hR 0 (by omega)).1
        have hab : a = ⟨a.block, a.off, none⟩ := spot_none (by rwa [Nat.zero_mul] at h00)
        have hadd : ∀ k, a.add k = ⟨a.block, a.off + k, none⟩ := fun k => by
          rw [show a = ⟨a.block, a.off, none⟩ from hab]; exact add_plain ..
        have hadd2 : ∀ k j, (a.add k).add j = ⟨a.block, a.off + k + j, none⟩ := fun k j => by
          rw [hadd]; exact add_plain ..
        refine .inr ⟨by simp; omega, a.block, a.off, cap - len, ?_, ?_, fun i hi => ?_⟩
        · simp
          exact ⟨hab, by omega⟩
        · have := World.block_lt_of_cell? W _ h00
          exact this
        · rw [List.length_map, List.length_range] at hi
          rw [getD_map _ R len i hi]
          obtain ⟨h1, h2, h3, _⟩ := hR i hi
          rw [hadd] at h1
          rw [hadd2] at h2 h3
          exact ⟨h1, h2, h3⟩
    · rw [List.length_map, List.length_range] at hi
      rw [getD_map _ R len i hi]
      exact (hR i hi).2.2.2
end
end Go.Proofs.YtcjblhiihgdljaaGreat

namespace Go.Proofs.YtcjblhiihgdljaaGreat
open Go.RowKit Go.WideShapes Go.ChangeShapes
set_option maxRecDepth 100000

section
variable {H : Type} {enc : TypeId × Value → H} {W : World} {base : Nat} {sp : Nat → Bool} {held : Bool}
theorem lscells_a : Tryz.prog.cellsOf 151 = 4 := by kernel_rfl
theorem trod_ls {m : Nat} {v0 v1 v2 v3 : Value} {y : DataW H × List MemPlace} (h : DataW.trod enc Tryz.prog W base sp held m 151 [v0, v1, v2, v3] = some y) :
    ∃ x : LsV, ([v0, v1, v2, v3] : List Value) = lsvs x ∧ x.k.size ≤ maxLen ∧ x.s.size ≤ maxLen := by
  obtain ⟨xs, n, _, _, _, hl, hx⟩ := DataW.trod_struct Tryz.underlying151 h
  have hl4 : xs.length = 4 := hl
  obtain ⟨y0, h0⟩ := osome_at 0 hl4 (by decide)
  obtain ⟨y1, h1⟩ := osome_at 1 hl4 (by decide)
  obtain ⟨y2, h2⟩ := osome_at 2 hl4 (by decide)
  obtain ⟨y3, h3⟩ := osome_at 3 hl4 (by decide)
  have q0 := hx 0 _ rfl
  have q1 := hx 1 _ rfl
  have q2 := hx 2 _ rfl
  have q3 := hx 3 _ rfl
  rw [h0] at q0
  rw [h1] at q1
  rw [h2] at q2
  rw [h3] at q3
  simp only [List.getElem_toArray, List.getElem_cons_zero, List.getElem_cons_succ] at q0 q1 q2 q3
  rw [ocells_i] at q2 q3
  rw [ocells_s] at q0 q1
  obtain ⟨z0, rfl, g0⟩ := otrod_s q0
  obtain ⟨z1, rfl, g1⟩ := otrod_s q1
  obtain ⟨z2, rfl⟩ := otrod_i q2
  obtain ⟨z3, rfl⟩ := otrod_i q3
  exact ⟨⟨z0, z1, z2, z3⟩, rfl, g0, g1⟩
theorem open_lss {m : Nat} {v : Value} {y : DataW H × List MemPlace} (h : DataW.trod enc Tryz.prog W base sp held m 55 [v] = some y) : ∃ l : List LsV, LsRow W v l ∧ LsMx l := by
  rcases Go.Deep.open_slice Tryz.underlying55 h with ⟨hcs, _⟩ | ⟨a, len, cap, m', n, D, Pl, hcs, hb, hl, hm, hmm, _, hc⟩
  · cases hcs
    exact ⟨[], .inl ⟨rfl, _, _, rfl⟩, by decide, fun i hi => absurd hi (Nat.not_lt_zero _)⟩
  · cases hcs
    have hle : len ≤ m' := by rw [hmm]; split <;> omega
    have key : ∀ i, i < len → ∃ r : LsV, W.cell? (a.add (i * 4)) = some (.string r.k) ∧ W.cell? ((a.add (i * 4)).add 1) = some (.string r.s) ∧ W.cell? ((a.add (i * 4)).add 2) = some (.int .i64 r.p) ∧ W.cell? ((a.add (i * 4)).add 3) = some (.int .i64 r.u) ∧ r.k.size ≤ maxLen ∧ r.s.size ≤ maxLen := fun i hi => by
      obtain ⟨cs', h1, h2⟩ := hc i (by omega)
      rw [lscells_a] at h1
      obtain ⟨_, hlen, hcell⟩ := World.cells?_some h1
      match cs', hlen, h2 with
      | [v0, v1, v2, v3], _, h3 =>
        obtain ⟨x, e, g0, g1⟩ := trod_ls h3
        cases e
        have e0 := hcell 0 (by omega)
        have e1 := hcell 1 (by omega)
        have e2 := hcell 2 (by omega)
        have e3 := hcell 3 (by omega)
        refine ⟨x, ?_, by simpa [lsvs] using e1, by simpa [lsvs] using e2, by simpa [lsvs] using e3, g0, g1⟩
        have : (a.add (i * 4)).add 0 = a.add (i * 4) := by simp [Addr.add] <;> split <;> simp_all
        rw [this] at e0
        simpa [lsvs] using e0
    haveI : Inhabited LsV := ⟨lsv0⟩
    obtain ⟨R, hR⟩ := Go.Deep.choose_lt key
    refine ⟨(List.range len).map R, ?_, by simp; omega, fun i hi => ?_⟩
    · by_cases h0 : len = 0
      · subst h0
        exact .inl ⟨rfl, _, _, rfl⟩
      · have h00 := (hR 0 (by omega)).1
        have hab : a = ⟨a.block, a.off, none⟩ := spot_none (by rwa [Nat.zero_mul] at h00)
        have hadd : ∀ k, a.add k = ⟨a.block, a.off + k, none⟩ := fun k => by
          rw [show a = ⟨a.block, a.off, none⟩ from hab]; exact add_plain ..
        have hadd2 : ∀ k j, (a.add k).add j = ⟨a.block, a.off + k + j, none⟩ := fun k j => by
          rw [hadd]; exact add_plain ..
        refine .inr ⟨by simp; omega, a.block, a.off, cap - len, ?_, ?_, fun i hi => ?_⟩
        · simp
          exact ⟨hab, by omega⟩
        · have := World.block_lt_of_cell? W _ h00
          exact this
        · rw [List.length_map, List.length_range] at hi
          rw [getD_map _ R len i hi]
          obtain ⟨h1, h2, h3, h4, _⟩ := hR i hi
          rw [hadd] at h1
          rw [hadd2] at h2 h3 h4
          exact ⟨h1, h2, h3, h4⟩
    · rw [List.length_map, List.length_range] at hi
      rw [getD_map _ R len i hi]
      exact (hR i hi).2.2.2.2
end
end Go.Proofs.YtcjblhiihgdljaaGreat

namespace Go.Proofs.YtcjblhiihgdljaaGreat
open Go.RowKit Go.WideShapes Go.ChangeShapes
set_option maxRecDepth 100000

section
variable {H : Type} {enc : TypeId × Value → H} {W : World} {base : Nat} {sp : Nat → Bool} {held : Bool}
theorem sicells_a : Tryz.prog.cellsOf 149 = 3 := by kernel_rfl
theorem ocells_w : Tryz.prog.cellsOf 147 = 1 := by kernel_rfl
theorem trod_si {m : Nat} {v0 v1 v2 : Value} {y : DataW H × List MemPlace} (h : DataW.trod enc Tryz.prog W base sp held m 149 [v0, v1, v2] = some y) :
    ∃ x : SiteV, v0 = .string x.n ∧ v1 = .int .i64 x.r ∧ WtRow W v2 x.w ∧ x.n.size ≤ maxLen ∧ WtMx x.w := by
  obtain ⟨xs, n, _, _, _, hl, hx⟩ := DataW.trod_struct Tryz.underlying149 h
  have hl4 : xs.length = 3 := hl
  obtain ⟨y0, h0⟩ := osome_at 0 hl4 (by decide)
  obtain ⟨y1, h1⟩ := osome_at 1 hl4 (by decide)
  obtain ⟨y2, h2⟩ := osome_at 2 hl4 (by decide)
  have q0 := hx 0 _ rfl
  have q1 := hx 1 _ rfl
  have q2 := hx 2 _ rfl
  rw [h0] at q0
  rw [h1] at q1
  rw [h2] at q2
  simp only [List.getElem_toArray, List.getElem_cons_zero, List.getElem_cons_succ] at q0 q1 q2
  rw [ocells_s] at q0
  rw [ocells_i] at q1
  rw [ocells_w] at q2
  obtain ⟨a, rfl, ha⟩ := otrod_s q0
  obtain ⟨b, rfl⟩ := otrod_i q1
  obtain ⟨l, hl1, hl2⟩ := open_wts (show DataW.trod enc Tryz.prog W base sp held n 147 [v2] = some y2 from q2)
  exact ⟨⟨a, b, l⟩, rfl, rfl, hl1, ha, hl2⟩
theorem open_sits {m : Nat} {v : Value} {y : DataW H × List MemPlace} (h : DataW.trod enc Tryz.prog W base sp held m 54 [v] = some y) : ∃ l : List SiteV, SitRow W v l ∧ SitMx l := by
  rcases Go.Deep.open_slice Tryz.underlying54 h with ⟨hcs, _⟩ | ⟨a, len, cap, m', n, D, Pl, hcs, hb, hl, hm, hmm, _, hc⟩
  · cases hcs
    exact ⟨[], SitRow.nil _ _ _, by decide, fun i hi => absurd hi (Nat.not_lt_zero _)⟩
  · cases hcs
    have hle : len ≤ m' := by rw [hmm]; split <;> omega
    have key : ∀ i, i < len → ∃ r : SiteV × Value, W.cell? (a.add (i * 3)) = some (.string r.1.n) ∧ W.cell? ((a.add (i * 3)).add 1) = some (.int .i64 r.1.r) ∧ W.cell? ((a.add (i * 3)).add 2) = some r.2 ∧ WtRow W r.2 r.1.w ∧ r.1.n.size ≤ maxLen ∧ WtMx r.1.w := fun i hi => by
      obtain ⟨cs', h1, h2⟩ := hc i (by omega)
      rw [sicells_a] at h1
      obtain ⟨_, hlen, hcell⟩ := World.cells?_some h1
      match cs', hlen, h2 with
      | [v0, v1, v2], _, h3 =>
        obtain ⟨x, rfl, rfl, g1, g2, g3⟩ := trod_si h3
        have e0 := hcell 0 (by omega)
        have e1 := hcell 1 (by omega)
        have e2 := hcell 2 (by omega)
        refine ⟨(x, v2), ?_, by simpa using e1, by simpa using e2, g1, g2, g3⟩
        have : (a.add (i * 3)).add 0 = a.add (i * 3) := by simp [Addr.add] <;> split <;> simp_all
        rw [this] at e0
        simpa using e0
    haveI : Inhabited (SiteV × Value) := ⟨(sitv0, .slice none 0 0)⟩
    obtain ⟨R, hR⟩ := Go.Deep.choose_lt key
    refine ⟨(List.range len).map fun i => (R i).1, ⟨(List.range len).map fun i => ⟨(R i).1.n, (R i).1.r, (R i).2⟩, ?_, by simp, fun i hi => ?_⟩, by simp; omega, fun i hi => ?_⟩
    · by_cases h0 : len = 0
      · subst h0
        exact .inl ⟨rfl, _, _, rfl⟩
      · have h00 := (hR 0 (by omega)).1
        have hab : a = ⟨a.block, a.off, none⟩ := spot_none (by rwa [Nat.zero_mul] at h00)
        have hadd : ∀ k, a.add k = ⟨a.block, a.off + k, none⟩ := fun k => by
          rw [show a = ⟨a.block, a.off, none⟩ from hab]; exact add_plain ..
        have hadd2 : ∀ k j, (a.add k).add j = ⟨a.block, a.off + k + j, none⟩ := fun k j => by
          rw [hadd]; exact add_plain ..
        refine .inr ⟨by simp; omega, a.block, a.off, cap - len, ?_, ?_, fun i hi => ?_⟩
        · simp
          exact ⟨hab, by omega⟩
        · have := World.block_lt_of_cell? W _ h00
          exact this
        · rw [List.length_map, List.length_range] at hi
          rw [getD_map _ _ len i hi]
          obtain ⟨h1, h2, h3, _⟩ := hR i hi
          rw [hadd] at h1
          rw [hadd2] at h2 h3
          exact ⟨h1, h2, h3⟩
    · rw [List.length_map, List.length_range] at hi
      rw [getD_map _ _ len i hi, getD_map _ _ len i hi]
      exact ⟨rfl, rfl, (hR i hi).2.2.2.1⟩
    · rw [List.length_map, List.length_range] at hi
      rw [getD_map _ _ len i hi]
      exact (hR i hi).2.2.2.2
theorem sccells_a : Tryz.prog.cellsOf 57 = 6 := by kernel_rfl
theorem ocells_si : Tryz.prog.cellsOf 54 = 1 := by kernel_rfl
theorem ocells_ls : Tryz.prog.cellsOf 55 = 1 := by kernel_rfl
theorem trod_sch {m : Nat} {v0 v1 v2 v3 v4 v5 : Value} {y : DataW H × List MemPlace} (h : DataW.trod enc Tryz.prog W base sp held m 57 [v0, v1, v2, v3, v4, v5] = some y) :
    ∃ (a b c d : Int) (si : List SiteV) (le : List LsV), v0 = .int .i64 a ∧ v1 = .int .i64 b ∧ v2 = .int .i64 c ∧ v3 = .int .i64 d ∧ (SitRow W v4 si ∧ LsRow W v5 le) ∧ (SitMx si ∧ LsMx le) := by
  obtain ⟨xs, n, _, _, _, hl, hx⟩ := DataW.trod_struct Tryz.underlying57 h
  have hl4 : xs.length = 6 := hl
  obtain ⟨y0, h0⟩ := osome_at 0 hl4 (by decide)
  obtain ⟨y1, h1⟩ := osome_at 1 hl4 (by decide)
  obtain ⟨y2, h2⟩ := osome_at 2 hl4 (by decide)
  obtain ⟨y3, h3⟩ := osome_at 3 hl4 (by decide)
  obtain ⟨y4, h4⟩ := osome_at 4 hl4 (by decide)
  obtain ⟨y5, h5⟩ := osome_at 5 hl4 (by decide)
  have q0 := hx 0 _ rfl
  have q1 := hx 1 _ rfl
  have q2 := hx 2 _ rfl
  have q3 := hx 3 _ rfl
  have q4 := hx 4 _ rfl
  have q5 := hx 5 _ rfl
  rw [h0] at q0
  rw [h1] at q1
  rw [h2] at q2
  rw [h3] at q3
  rw [h4] at q4
  rw [h5] at q5
  simp only [List.getElem_toArray, List.getElem_cons_zero, List.getElem_cons_succ] at q0 q1 q2 q3 q4 q5
  rw [ocells_i] at q0 q1 q2 q3
  rw [ocells_si] at q4
  rw [ocells_ls] at q5
  obtain ⟨a, rfl⟩ := otrod_i q0
  obtain ⟨b, rfl⟩ := otrod_i q1
  obtain ⟨c, rfl⟩ := otrod_i q2
  obtain ⟨d, rfl⟩ := otrod_i q3
  obtain ⟨si, hs1, hs2⟩ := open_sits (show DataW.trod enc Tryz.prog W base sp held n 54 [v4] = some y4 from q4)
  obtain ⟨le, hl1, hl2⟩ := open_lss (show DataW.trod enc Tryz.prog W base sp held n 55 [v5] = some y5 from q5)
  exact ⟨a, b, c, d, si, le, rfl, rfl, rfl, rfl, ⟨hs1, hl1⟩, hs2, hl2⟩
theorem open_sch {r0 : Reach} {b0 : Nat} {v : Value} {d : DataW H} {ps : List MemPlace} (hval : Value.okWide Tryz.prog W r0 b0 57 v) (hd : DataW.Trod enc Tryz.prog W base sp held 57 v d ps) :
    ∃ (za zb zc zd : Int) (p q : Value) (si : List SiteV) (le : List LsV), v = .agg #[.int .i64 za, .int .i64 zb, .int .i64 zc, .int .i64 zd, p, q] ∧ (SitRow W p si ∧ LsRow W q le) ∧ (SitMx si ∧ LsMx le) := by
  obtain ⟨cs, rfl, hsz⟩ := okWide_struct Tryz.underlying57 hval
  rw [sccells_a] at hsz
  obtain ⟨fuel, hf⟩ := hd
  obtain ⟨L⟩ := cs
  have hf2 : DataW.trod enc Tryz.prog W base sp held fuel 57 L = some (d, ps) := hf
  have hlen : L.length = 6 := hsz
  match L, hlen, hf2 with
  | [v0, v1, v2, v3, v4, v5], _, hf3 =>
    obtain ⟨a, b, c, e, si, le, rfl, rfl, rfl, rfl, h1, h2⟩ := trod_sch hf3
    exact ⟨a, b, c, e, v4, v5, si, le, rfl, h1, h2⟩
end
end Go.Proofs.YtcjblhiihgdljaaGreat
