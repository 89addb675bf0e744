/- What the specification asks of queues, and what is right: the same. -/
import Derived.Test.YtcjblhiihgdljaaGreatRows
import Derived.Test.YtcjblhiihgdljaaGreatSchSpec2
import Derived.Test.YtcjblhiihgdljaaGreatSchOkAll
import Derived.Test.YtcjblhiihgdljaaGreatSchPure
namespace Go.Proofs.YtcjblhiihgdljaaGreat
open Go.RowKit
set_option linter.unusedVariables false

def allAt (l : List WtV) (i : Nat) : Prop := (0 < (l.getD i wtv0).k.size ∧ inB (l.getD i wtv0).p 0 1000 = true ∧ i < 200) ∧ ∀ k, k < i → (l.getD k wtv0).k ≠ (l.getD i wtv0).k ∧ ¬ ((l.getD k wtv0).q = (l.getD i wtv0).q ∧ 0 ≤ (l.getD i wtv0).q)
theorem sitePos_iff (si : List SiteV) (n : ByteArray) : 0 ≤ sitePos si n ↔ ∃ y ∈ si, y.n = n := by
  rcases posZ_cases (fun i => decide ((si.getD i sitv0).n = n)) si.length with ⟨k, h1, h2, _, h4⟩ | ⟨h1, h2⟩
  · unfold sitePos
    rw [h4]
    exact ⟨fun _ => ⟨_, getD_mem sitv0 h1, of_decide_eq_true h2⟩, fun _ => by omega⟩
  · unfold sitePos
    rw [h2]
    refine ⟨fun h => absurd h (by decide), ?_⟩
    rintro ⟨y, hy, e⟩
    obtain ⟨i, hi, rfl⟩ := mem_getD sitv0 hy
    exact absurd e (of_decide_eq_false (h1 i hi))
theorem sitesL_iff (sq : Int) (si : List SiteV) (le : List LsV) : SitesL sq si le ↔ (∀ x ∈ si, 0 < x.n.size ∧ 0 ≤ x.r ∧ x.r ≤ 1000000000) ∧ si.Pairwise (fun x y => tl x.n y.n = true) ∧ (∀ x ∈ si, (∀ y ∈ x.w, 0 ≤ y.q ∧ y.q < sq) ∧ x.w.Pairwise (fun a b => wBef a b = true)) ∧ (∀ x ∈ le, 0 ≤ x.u ∧ x.u ≤ 1000000000 ∧ ∃ y ∈ si, y.n = x.s) ∧ le.Pairwise (fun x y => tl x.k y.k = true) ∧ si.length ≤ 200 := by
  unfold SitesL
  constructor
  · rintro ⟨h1, h2, h3⟩
    refine ⟨fun x hx => ?_, adj_pair (R := fun x y : SiteV => tl x.n y.n = true) (fun a b c => tl_trans) sitv0 si fun i hi hl => (h1 i hl).2.2.1 hi, fun x hx => ⟨fun y hy => ?_, ?_⟩, fun x hx => ?_, adj_pair (R := fun x y : LsV => tl x.k y.k = true) (fun a b c => tl_trans) lsv0 le fun i hi hl => (h2 i hl).2.2 hi, h3⟩
    · obtain ⟨i, hi, rfl⟩ := mem_getD sitv0 hx
      exact ⟨(h1 i hi).1, inB_iff.1 (h1 i hi).2.1⟩
    · obtain ⟨i, hi, rfl⟩ := mem_getD sitv0 hx
      obtain ⟨m, hm, rfl⟩ := mem_getD wtv0 hy
      have := inB_iff.1 ((h1 i hi).2.2.2 m hm).1
      omega
    · obtain ⟨i, hi, rfl⟩ := mem_getD sitv0 hx
      exact adj_pair (R := fun x y : WtV => wBef x y = true) (fun a b c => wBef_trans) wtv0 _ fun m hm hl => ((h1 i hi).2.2.2 m hl).2 hm
    · obtain ⟨i, hi, rfl⟩ := mem_getD lsv0 hx
      have := inB_iff.1 (h2 i hi).1
      exact ⟨this.1, this.2, (sitePos_iff _ _).1 (h2 i hi).2.1⟩
  · rintro ⟨h1, h2, h3, h4, h5, h6⟩
    refine ⟨fun j hj => ?_, fun j hj => ?_, h6⟩
    · have hm := getD_mem sitv0 hj
      have a1 := h1 _ hm
      have a3 := h3 _ hm
      refine ⟨a1.1, inB_iff.2 a1.2, fun h0 => pair_at (R := fun x y : SiteV => tl x.n y.n = true) sitv0 h2 (by omega) hj, fun m hm => ⟨?_, fun h0 => pair_at (R := fun x y : WtV => wBef x y = true) wtv0 a3.2 (by omega) hm⟩⟩
      have := a3.1 _ (getD_mem wtv0 hm)
      exact inB_iff.2 (by omega)
    · have a := h4 _ (getD_mem lsv0 hj)
      exact ⟨inB_iff.2 ⟨a.1, a.2.1⟩, (sitePos_iff _ _).2 a.2.2, fun h0 => pair_at (R := fun x y : LsV => tl x.k y.k = true) lsv0 h5 (by omega) hj⟩
theorem spec_iff {d sp nw sq : Int} {si : List SiteV} {le : List LsV} : SOk d sp nw sq si le ↔ (timesB d sp nw sq = true ∧ SitesL sq si le ∧ ∀ i, i < (allL si le).length → allAt (allL si le) i) := by
  rw [timesB_iff, sitesL_iff]
  constructor
  · intro h
    have hlen := allL_len si le
    have hall := h.all
    have hk : ((allL si le).map (·.k)).Nodup := by rw [allL_keys]; exact h.keys
    refine ⟨h.t, ⟨h.st, h.sa, fun x hx => ⟨fun y hy => ((h.wt x hx).1 y hy).2.2.2, (h.wt x hx).2⟩, fun x hx => (h.ls x hx).2.2.2, h.la, h.few⟩, fun i hi => ?_⟩
    have hm : (0 < ((allL si le).getD i wtv0).k.size ∧ inB ((allL si le).getD i wtv0).p 0 1000 = true) := by
      have := getD_mem wtv0 hi
      generalize (allL si le).getD i wtv0 = z at *
      unfold allL at this
      rcases List.mem_append.1 this with hz | hz
      · obtain ⟨x, hx, hy⟩ := List.mem_flatMap.1 hz
        have := (h.wt x hx).1 z hy
        exact ⟨this.1, inB_iff.2 ⟨this.2.1, this.2.2.1⟩⟩
      · obtain ⟨x, hx, rfl⟩ := List.mem_map.1 hz
        have := h.ls x hx
        exact ⟨this.1, inB_iff.2 ⟨this.2.1, this.2.2.1⟩⟩
    refine ⟨⟨hm.1, hm.2, by omega⟩, fun k hk2 => ⟨?_, ?_⟩⟩
    · rw [List.nodup_iff_pairwise_ne, List.pairwise_map] at hk
      exact pair_at (R := fun a b : WtV => a.k ≠ b.k) wtv0 hk hk2 hi
    · rintro ⟨e, h0⟩
      by_cases hw : i < (waitL si).length
      · have hs := h.seqs
        rw [List.nodup_iff_pairwise_ne, List.pairwise_map] at hs
        have := pair_at (R := fun a b : WtV => a.q ≠ b.q) wtv0 hs hk2 hw
        unfold allL at e
        rw [List.getD_eq_getElem?_getD, List.getD_eq_getElem?_getD, List.getElem?_append_left (by omega), List.getElem?_append_left hw, ← List.getD_eq_getElem?_getD, ← List.getD_eq_getElem?_getD] at e
        exact this e
      · have : ((allL si le).getD i wtv0).q = -1 := by
          unfold allL
          rw [List.getD_eq_getElem?_getD, List.getElem?_append_right (by omega), List.getElem?_map, List.getElem?_eq_getElem (by omega)]
          rfl
        omega
  · rintro ⟨ht, ⟨h1, h2, h3, h4, h5, h6⟩, h7⟩
    have hlen := allL_len si le
    have hmem : ∀ z ∈ allL si le, 0 < z.k.size ∧ 0 ≤ z.p ∧ z.p ≤ 1000 := fun z hz => by
      obtain ⟨i, hi, rfl⟩ := mem_getD wtv0 hz
      have := (h7 i hi).1
      exact ⟨this.1, inB_iff.1 this.2.1⟩
    refine ⟨ht, h6, ?_, h1, h2, fun x hx => ⟨fun y hy => ?_, (h3 x hx).2⟩, fun x hx => ?_, h5, ?_, ?_⟩
    · rw [← hlen]
      by_cases h : (allL si le).length ≤ 200
      · exact h
      · exact absurd (h7 200 (by omega)).1.2.2 (by omega)
    · have := hmem y (List.mem_append_left _ (List.mem_flatMap.2 ⟨x, hx, hy⟩))
      exact ⟨this.1, this.2.1, this.2.2, (h3 x hx).1 y hy⟩
    · have := hmem ⟨x.k, x.p, -1⟩ (List.mem_append_right _ (List.mem_map.2 ⟨x, hx, rfl⟩))
      exact ⟨this.1, this.2.1, this.2.2, h4 x hx⟩
    · rw [← allL_keys, List.nodup_iff_pairwise_ne, List.pairwise_map, List.pairwise_iff_getElem]
      intro i j hi hj hij
      have := ((h7 j hj).2 i hij).1
      rw [List.getD_eq_getElem?_getD, List.getD_eq_getElem?_getD, List.getElem?_eq_getElem hi, List.getElem?_eq_getElem hj] at this
      exact this
    · rw [List.nodup_iff_pairwise_ne, List.pairwise_map, List.pairwise_iff_getElem]
      intro i j hi hj hij e
      have hj2 : j < (allL si le).length := by omega
      have := ((h7 j hj2).2 i hij).2
      have hq : 0 ≤ (waitL si)[j].q := by
        obtain ⟨x, hx, hy⟩ := List.mem_flatMap.1 (List.getElem_mem hj)
        exact ((h3 x hx).1 _ hy).1
      apply this
      unfold allL
      rw [List.getD_eq_getElem?_getD, List.getD_eq_getElem?_getD, List.getElem?_append_left hi, List.getElem?_append_left hj, List.getElem?_eq_getElem hi, List.getElem?_eq_getElem hj]
      exact ⟨e, hq⟩
end Go.Proofs.YtcjblhiihgdljaaGreat
