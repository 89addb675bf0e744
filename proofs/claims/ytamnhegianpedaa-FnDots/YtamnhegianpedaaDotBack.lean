/- Plain: a path without its dots, held against itself. -/
import Derived.Test.YtamnhegianpedaaDropDotsSpec
namespace Go.Proofs.Ytamnhegianpedaa
open Go.RowKit

theorem rooted_head {p : ByteArray} (h : rooted p = true) : ∃ h0 : 0 < p.size, p[0].toNat = 47 := by
  obtain ⟨r, hr⟩ := rooted_data h
  have h0 : 0 < p.size := by
    have h1 := congrArg List.length hr
    simp at h1
    omega
  refine ⟨h0, ?_⟩
  have h2 := getD_at p 0 h0
  rw [hr] at h2
  rw [← h2]
  rfl

theorem up_back {d : ByteArray} (h : rooted d = true) : ∃ h1 : 0 < (upT d).size, (upT d)[(upT d).size - 1].toNat = 47 := by
  obtain ⟨h0, _⟩ := rooted_head h
  have hp := upN_pos h d.size h0
  have hl := upN_le d d.size
  have hs : (upT d).size = upN d d.size := by unfold upT; rw [ByteArray.size_extract]; omega
  refine ⟨by omega, ?_⟩
  have h1 := getD_at (upT d) ((upT d).size - 1) (by omega)
  rw [← h1]
  have h2 : (upT d).data.toList = d.data.toList.take (upN d d.size) := by
    unfold upT
    rw [extract_list]
    rfl
  rw [h2, hs, List.getD_eq_getElem?_getD, List.getElem?_take_of_lt (by omega), ← List.getD_eq_getElem?_getD]
  rcases upN_at d d.size with h3 | h3
  · omega
  · rw [h3]; rfl

theorem dot_back {p : ByteArray} (h : rooted p = true) : ∃ (d u : ByteArray) (L : List ByteArray) (a b : Nat), dropT p = d ∧ (∃ h0 : 0 < d.size, d[0].toNat = 47) ∧ fieldsL d 47 = L ∧ L.length = a + 1 ∧ (∀ x ∈ L, isd x.data.toList = 0 ∧ x.size ≤ d.size) ∧
    upT d = u ∧ (∃ h1 : 0 < u.size, u[u.size - 1].toNat = 47) ∧ dropT d = d ∧ depL d = a ∧ depL p = b ∧ a ≤ b ∧ d.size ≤ p.size := by
  refine ⟨dropT p, upT (dropT p), fieldsL (dropT p) 47, depL (dropT p), depL p, rfl, rooted_head (dropT_rooted h), rfl, dep_fields _, ?_, rfl, up_back (dropT_rooted h), dropT_twice h, rfl, rfl, dep_drop h, dropT_size p⟩
  intro x hx
  refine ⟨?_, fieldsL_sizes _ _ x hx⟩
  rw [dropT_fields h] at hx
  rcases List.mem_cons.1 hx with h1 | h1
  · rw [h1]; exact isd_nil
  · exact (kept_mem h1).2
end Go.Proofs.Ytamnhegianpedaa
