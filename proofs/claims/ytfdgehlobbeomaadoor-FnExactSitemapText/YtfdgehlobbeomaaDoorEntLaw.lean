/- What the exact laws of chapter 13 share: entries that are copied, their sizes. -/
import Derived.Test.YtfdgehlobbeomaaDoorRows
import Derived.Test.YtfdgehlobbeomaaDoorEntSz
import Derived.Test.YtfdgehlobbeomaaDoorEntTo
namespace Go.Proofs.YtfdgehlobbeomaaDoor
open Go.RowKit

/-- No more entries, and no longer ones, than are measured. -/
def ESz (l : List EV) : Prop := l.length ≤ 1073741824 ∧ ∀ i, i < l.length → (l.getD i ev0).s.size ≤ 4194304
theorem ent_sz {l : List EV} (h : sumEn l ≤ 1048576) : ESz l := by
  unfold sumEn at h
  refine ⟨by omega, fun i hi => ?_⟩
  have := psum_at (fun i => (l.getD i ev0).s.size) hi
  omega
theorem toEntsR (l : List EV) (v : Value) (w : World) (hn : ESz l) (h : EntRow w v l) :
    Calls Tryd.prog 12 #[v] w fun e w' => ∃ ao cap, e = .returned (.slice ao l.length cap) ∧ Hid (EntRow w' (.slice ao l.length cap) l) ∧ Below w.heap.size w w' := by
  refine (toEnts l v w hn.1 h).mono ?_
  rintro e w' ⟨v', rfl, ho, hb⟩
  have hr := EntRow.of_own' ho
  obtain ⟨ao, cap, rfl⟩ := hr.slice
  exact ⟨ao, cap, rfl, hr, hb⟩
end Go.Proofs.YtfdgehlobbeomaaDoor
