/- Contracts of the laws' helpers that copy and compare: rows of texts, rules, rows of rules. -/
import Derived.Test.YtijliddchoehhaaDoorRows
import Derived.Test.YtijliddchoehhaaDoorRuleRow
import Derived.Test.YtijliddchoehhaaDoorBlockAt
import Derived.Test.YtijliddchoehhaaDoorRowMore
import Derived.Test.YtijliddchoehhaaDoorPctWalk
import Derived.BigQuiet
import Derived.Deep.QuietTactic
import Derived.Deep.RegionWith
namespace Go.Proofs.YtijliddchoehhaaDoor
open Go.RowKit
set_option linter.unusedVariables false

theorem StrRow.grown {w w' : World} {v : Value} {l : List ByteArray} {B : Nat} (h : StrRow w v l) (hg : w.grownBy w' (some B)) (hne : v.ownBlock ≠ some B) : StrRow w' v l := by
  rcases h with h | ⟨h0, g, off, cap, rfl, h2, h3⟩
  · exact .inl h
  · have hgB : some g ≠ some B := fun e => hne e
    refine .inr ⟨h0, g, off, cap, rfl, Nat.lt_of_lt_of_le h2 hg.size, fun i hi => hg.cell (a := ⟨g, off + i, none⟩) (h3 i hi) hgB⟩
theorem own_high {w : World} {base : Nat} {e : TypeId} {size n : Nat} {v : Value} {xs : List Value} (h : w.ownsRow base e size v n xs) {B : Nat} (hB : B < base) : v.ownBlock ≠ some B := fun e => by
  have := (h.lt B e).1
  omega
theorem own_wide0 {w : World} {base base' : Nat} {e : TypeId} {size n : Nat} {v : Value} {xs : List Value} (h : w.ownsRow base e size v n xs) (hb : base' ≤ base) : w.ownsRow base' e size v n xs := by
  refine ⟨h.1, ?_⟩
  rcases h.2 with h | ⟨g, cap, cur, h1, h2, h3⟩
  · exact .inl h
  · exact .inr ⟨g, cap, cur, h1, Nat.le_trans hb h2, h3⟩
theorem Tryd.infoRule : (Tryd.prog.info? 32).map (fun i => (i.zero, i.size, i.bytes)) = some (some (.agg #[.slice none 0 0, .bool false]), 2, 32) := by kernel_rfl
theorem RuleRow.of_own {w : World} {base : Nat} {e : TypeId} {v : Value} {l : List RV} {vs : List Value} (h : w.ownsRow base e 2 v l.length vs)
    (hin : ∀ i, i < l.length → ∃ p, vs[i * 2]? = some p ∧ StrRow w p (l.getD i rv0).ps ∧ vs[i * 2 + 1]? = some (.bool (l.getD i rv0).ex)) : RuleRow w v l := by
  by_cases h0 : l.length = 0
  · have hl : l = [] := List.eq_nil_of_length_eq_zero h0
    rw [h0] at h
    rcases h.2 with ⟨rfl, _⟩ | ⟨g, cap, cur, rfl, _⟩
    · exact .inl ⟨hl, _, _, rfl⟩
    · exact .inl ⟨hl, _, _, rfl⟩
  · rcases h.2 with ⟨_, h1⟩ | ⟨g, cap, cur, rfl, _⟩
    · exact absurd h1 h0
    · refine .inr ⟨by omega, g, 0, cap - l.length, by rw [Nat.add_sub_cancel' (own_room h)], (h.lt g rfl).2, fun i hi => ?_⟩
      obtain ⟨p, h1, h2, h3⟩ := hin i hi
      refine ⟨p, ?_, h2, ?_⟩
      · rw [Nat.zero_add, h.cellAt (i * 2) (by omega)]; exact h1
      · rw [Nat.zero_add, h.cellAt (i * 2 + 1) (by omega)]; exact h3
end Go.Proofs.YtijliddchoehhaaDoor
