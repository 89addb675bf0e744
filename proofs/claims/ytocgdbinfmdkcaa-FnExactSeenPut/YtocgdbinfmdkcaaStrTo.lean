/- Rows of texts that stay while another block turns; the laws' copy of a row of texts. -/
import Derived.Test.YtocgdbinfmdkcaaRows
import Derived.Test.YtocgdbinfmdkcaaRowStr
import Derived.Test.YtocgdbinfmdkcaaRowMore
import Derived.Test.YtocgdbinfmdkcaaJoinPlain
import Derived.Test.YtocgdbinfmdkcaaFieldsWalk
import Derived.Test.YtocgdbinfmdkcaaPctWalk
namespace Go.Proofs.Ytocgdbinfmdkcaa
open Go.RowKit
set_option linter.unusedVariables false

theorem StrRow.grown {w w' : World} {v : Value} {l : List ByteArray} {B : Nat} (h : StrRow w v l) (hg : w.grownBy w' (some B)) (hne : v.ownBlock ≠ some B) : StrRow w' v l := by
  rcases h with h | ⟨h0, g, off, cap, rfl, h2, h3⟩
  · exact .inl h
  · have hgB : some g ≠ some B := fun e => hne e
    refine .inr ⟨h0, g, off, cap, rfl, Nat.lt_of_lt_of_le h2 hg.size, fun i hi => hg.cell (a := ⟨g, off + i, none⟩) (h3 i hi) hgB⟩
theorem own_high {w : World} {base : Nat} {e : TypeId} {size n : Nat} {v : Value} {xs : List Value} (h : w.ownsRow base e size v n xs) {B : Nat} (hB : B < base) : v.ownBlock ≠ some B := fun e => by
  have := (h.lt B e).1
  omega
theorem own_wide0 {w : World} {base base' : Nat} {e : TypeId} {size n : Nat} {v : Value} {xs : List Value} (h : w.ownsRow base e size v n xs) (hb : base' ≤ base) : w.ownsRow base' e size v n xs := by
  refine ⟨h.1, ?_⟩
  rcases h.2 with h | ⟨g, cap, cur, h1, h2, h3⟩
  · exact .inl h
  · exact .inr ⟨g, cap, cur, h1, Nat.le_trans hb h2, h3⟩
end Go.Proofs.Ytocgdbinfmdkcaa
