/- What the exact laws of chapter 13 share: tokens that are copied, their sizes. -/
import Derived.Test.YtjdmmmohaiiocaaRows
import Derived.Test.YtjdmmmohaiiocaaTokSz
import Derived.Test.YtjdmmmohaiiocaaTokTo
namespace Go.Proofs.Ytjdmmmohaiiocaa
open Go.RowKit

/-- No more tokens, and no longer ones, than are measured. -/
def TSz (l : List TV) : Prop := l.length ≤ 1073741824 ∧ ∀ i, i < l.length → (l.getD i tv0).s.size ≤ 4194304
theorem tok_sz {l : List TV} (h : sumK l ≤ 1048576) : TSz l := by
  unfold sumK at h
  refine ⟨by omega, fun i hi => ?_⟩
  have := psum_at (fun i => (l.getD i tv0).s.size) hi
  omega
theorem toToksR (l : List TV) (v : Value) (w : World) (hn : TSz l) (h : TokRow w v l) :
    Calls Try.prog 6 #[v] w fun e w' => ∃ ao cap, e = .returned (.slice ao l.length cap) ∧ Hid (TokRow w' (.slice ao l.length cap) l) ∧ Below w.heap.size w w' := by
  refine (toToks l v w hn.1 h).mono ?_
  rintro e w' ⟨v', rfl, ho, hb⟩
  have hr := TokRow.of_own' ho
  obtain ⟨ao, cap, rfl⟩ := hr.slice
  exact ⟨ao, cap, rfl, hr, hb⟩
end Go.Proofs.Ytjdmmmohaiiocaa
