/- Sizes of what was seen. -/
import Derived.Test.YtocgdbinfmdkcaaRows
import Derived.Test.YtocgdbinfmdkcaaMrkSz
namespace Go.Proofs.Ytocgdbinfmdkcaa
theorem seen_sz {m : List EV} {ll : List (List EV)} (h : sumEn m + sumR ll ≤ 1048576) : m.length ≤ 1048576 ∧ ll.length ≤ 1048576 ∧ ∀ i, i < ll.length → (ll.getD i []).length ≤ 1048576 := by
  refine ⟨by unfold sumEn at h; omega, by unfold sumR at h; omega, fun i hi => ?_⟩
  have := psum_at (fun i => sumEn (ll.getD i [])) hi
  unfold sumR at h
  have h2 : (ll.getD i []).length ≤ sumEn (ll.getD i []) := by unfold sumEn; omega
  omega
theorem seen_key {m : List EV} {ll : List (List EV)} (h : sumEn m + sumR ll ≤ 1048576) : (∀ i, i < m.length → (m.getD i ev0).s.size ≤ 1048576) ∧ ∀ i, i < ll.length → ∀ j, j < (ll.getD i []).length → ((ll.getD i []).getD j ev0).s.size ≤ 1048576 := by
  refine ⟨fun i hi => ?_, fun i hi j hj => ?_⟩
  · have := psum_at (fun i => (m.getD i ev0).s.size) hi
    unfold sumEn at h
    omega
  · have h1 := psum_at (fun i => sumEn (ll.getD i [])) hi
    have h2 := psum_at (fun j => ((ll.getD i []).getD j ev0).s.size) hj
    unfold sumR at h
    have h3 : psum (fun j => ((ll.getD i []).getD j ev0).s.size) (ll.getD i []).length ≤ sumEn (ll.getD i []) := by unfold sumEn; omega
    omega
end Go.Proofs.Ytocgdbinfmdkcaa
