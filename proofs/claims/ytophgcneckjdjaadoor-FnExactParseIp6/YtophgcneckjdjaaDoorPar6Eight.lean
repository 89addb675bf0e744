/- What is read of an address of eight is eight ints. -/
import Derived.Test.YtophgcneckjdjaaDoorRows
import Derived.Test.YtophgcneckjdjaaDoorParse6Impl
import Derived.Test.YtophgcneckjdjaaDoorArrMarks
namespace Go.Proofs.YtophgcneckjdjaaDoor
open Go.RowKit

theorem par6_eight (l : List UInt8) : ∀ gs, par6 l = some gs → gs.length = 8 := by
  intro gs h
  unfold par6 at h
  split at h
  · split at h
    · cases h
    · split at h
      · cases h; assumption
      · cases h
  · split at h
    · split at h
      · cases h
        unfold fill8
        simp
        omega
      · cases h
    · cases h

theorem parV_eight {r : Option (List Nat)} (h : ∀ gs, r = some gs → gs.length = 8) : ∃ (x0 x1 x2 x3 x4 x5 x6 x7 : Int) (b : Bool), parV r = .tuple #[.agg #[.int .i64 x0, .int .i64 x1, .int .i64 x2, .int .i64 x3, .int .i64 x4, .int .i64 x5, .int .i64 x6, .int .i64 x7], .bool b] := by
  cases r with
  | none => exact ⟨0, 0, 0, 0, 0, 0, 0, 0, false, rfl⟩
  | some gs =>
    obtain ⟨x0, x1, x2, x3, x4, x5, x6, x7, hx⟩ := list_eight (z := toI gs) (by rw [toI_len]; exact h gs rfl)
    refine ⟨x0, x1, x2, x3, x4, x5, x6, x7, true, ?_⟩
    show Value.tuple #[.agg ((toI gs).map (Value.int .i64)).toArray, .bool true] = _
    rw [hx]
    rfl
end Go.Proofs.YtophgcneckjdjaaDoor
