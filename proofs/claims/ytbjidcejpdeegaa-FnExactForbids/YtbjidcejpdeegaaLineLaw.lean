/- What the exact laws of chapter 12 share: lines that are copied, their sizes. -/
import Derived.Test.YtbjidcejpdeegaaRows
import Derived.Test.YtbjidcejpdeegaaBestSpec
import Derived.Test.YtbjidcejpdeegaaRobSz
import Derived.Test.YtbjidcejpdeegaaRobTo
namespace Go.Proofs.Ytbjidcejpdeegaa
open Go.RowKit

theorem line_sz {l : List LV} (h : sumL l ≤ 1048576) : LSz l := by
  unfold sumL at h
  refine ⟨by omega, fun i hi => ?_⟩
  have := psum_at (fun i => (l.getD i lv0).pa.size) hi
  omega
theorem toLinesR (l : List LV) (v : Value) (w : World) (hn : LSz l) (h : LineRow w v l) :
    Calls Try.prog 19 #[v] w fun e w' => ∃ ao cap, e = .returned (.slice ao l.length cap) ∧ Hid (LineRow w' (.slice ao l.length cap) l) ∧ Below w.heap.size w w' := by
  refine (toLines l v w hn.1 h).mono ?_
  rintro e w' ⟨v', rfl, ho, hb⟩
  have hr := LineRow.of_own' ho
  obtain ⟨ao, cap, rfl⟩ := hr.slice
  exact ⟨ao, cap, rfl, hr, hb⟩
end Go.Proofs.Ytbjidcejpdeegaa
