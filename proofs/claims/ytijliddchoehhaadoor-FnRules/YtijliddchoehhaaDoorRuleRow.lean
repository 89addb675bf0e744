/- Rows of texts, and rows of rules, in memory, wherever they lie. -/
import Derived.Test.YtijliddchoehhaaDoorRows
import Derived.Test.YtijliddchoehhaaDoorBase
import Derived.Test.YtijliddchoehhaaDoorRulePlain
namespace Go.Proofs.YtijliddchoehhaaDoor
open Go.RowKit

theorem own_room {w : World} {B : Nat} {e : TypeId} {size g n cap : Nat} {xs : List Value} (h : w.ownsRow B e size (.slice (some ⟨g, 0, none⟩) n cap) n xs) : n ≤ cap := by
  rcases h.2 with ⟨h, _⟩ | ⟨_, _, _, h, _, _, h3, _⟩
  · cases h
  · cases h; exact h3
/-- A row of texts. -/
def StrRow (w : World) (v : Value) (l : List ByteArray) : Prop :=
  (l = [] ∧ ∃ ao cap, v = .slice ao 0 cap) ∨ (0 < l.length ∧ ∃ g off cap, v = .slice (some ⟨g, off, none⟩) l.length (l.length + cap) ∧ g < w.heap.size ∧ ∀ i, i < l.length → w.cell? ⟨g, off + i, none⟩ = some (.string (l.getD i ByteArray.empty)))
theorem StrRow.same {w w' : World} {v : Value} {l : List ByteArray} (h : StrRow w v l) (hs : w.heap.size ≤ w'.heap.size) (hb : ∀ k, k < w.heap.size → w'.heap[k]? = w.heap[k]?) : StrRow w' v l := by
  rcases h with h | ⟨h0, g, off, cap, h1, h2, h3⟩
  · exact .inl h
  · exact .inr ⟨h0, g, off, cap, h1, by omega, fun i hi => (World.cell?_of_block (w := w) (a := ⟨g, off + i, none⟩) (hb g h2)).trans (h3 i hi)⟩
theorem StrRow.below {w w' : World} {v : Value} {l : List ByteArray} (h : StrRow w v l) (hb : Below w.heap.size w w') : StrRow w' v l := h.same hb.size hb.block
theorem StrRow.of_own {w : World} {B : Nat} {e : TypeId} {v : Value} {l : List ByteArray} {n : Nat} (h : w.ownsRow B e 1 v n (scells l)) : StrRow w v l := by
  have hl : l.length = n := by have := h.1; simpa [scells] using this
  subst hl
  rcases own_shape h with ⟨h0, h1, ao, cap, rfl⟩ | ⟨h0, g, cap, rfl⟩
  · refine .inl ⟨List.eq_nil_of_length_eq_zero h0, ao, cap, ?_⟩
    rfl
  · exact .inr ⟨h0, g, 0, cap - l.length, by rw [Nat.add_sub_cancel' (own_room h)], (h.lt g rfl).2, fun i hi => by rw [Nat.zero_add]; exact scell_at h i hi⟩
theorem StrRow.slice {w : World} {v : Value} {l : List ByteArray} (h : StrRow w v l) : ∃ ao cap, v = .slice ao l.length cap := by
  rcases h with ⟨rfl, ao, cap, rfl⟩ | ⟨_, g, off, cap, h1, _⟩
  · exact ⟨ao, cap, rfl⟩
  · exact ⟨_, _, h1⟩
theorem StrRow.nil (w : World) (ao : Option Addr) (cap : Nat) : StrRow w (.slice ao 0 cap) [] := .inl ⟨rfl, ao, cap, rfl⟩

/-- What the cells of a rule hold. -/
def rv0 : RV := ⟨[], false⟩
def RuleAt (w : World) (p q : Value) (r : RV) : Prop := StrRow w p r.ps ∧ q = .bool r.ex
/-- A row of rules. -/
def RuleRow (w : World) (v : Value) (l : List RV) : Prop :=
  (l = [] ∧ ∃ ao cap, v = .slice ao 0 cap) ∨ (0 < l.length ∧ ∃ g off cap, v = .slice (some ⟨g, off, none⟩) l.length (l.length + cap) ∧ g < w.heap.size ∧ ∀ i, i < l.length → ∃ p, w.cell? ⟨g, off + i * 2, none⟩ = some p ∧ StrRow w p (l.getD i rv0).ps ∧ w.cell? ⟨g, off + i * 2 + 1, none⟩ = some (.bool (l.getD i rv0).ex))
theorem RuleRow.same {w w' : World} {v : Value} {l : List RV} (h : RuleRow w v l) (hs : w.heap.size ≤ w'.heap.size) (hb : ∀ k, k < w.heap.size → w'.heap[k]? = w.heap[k]?) : RuleRow w' v l := by
  rcases h with h | ⟨h0, g, off, cap, h1, h2, h3⟩
  · exact .inl h
  · refine .inr ⟨h0, g, off, cap, h1, by omega, fun i hi => ?_⟩
    obtain ⟨p, c1, c2, c3⟩ := h3 i hi
    exact ⟨p, (World.cell?_of_block (w := w) (a := ⟨g, off + i * 2, none⟩) (hb g h2)).trans c1, c2.same hs hb, (World.cell?_of_block (w := w) (a := ⟨g, off + i * 2 + 1, none⟩) (hb g h2)).trans c3⟩
theorem RuleRow.below {w w' : World} {v : Value} {l : List RV} (h : RuleRow w v l) (hb : Below w.heap.size w w') : RuleRow w' v l := h.same hb.size hb.block
theorem RuleRow.slice {w : World} {v : Value} {l : List RV} (h : RuleRow w v l) : ∃ ao cap, v = .slice ao l.length cap := by
  rcases h with ⟨rfl, ao, cap, rfl⟩ | ⟨_, g, off, cap, h1, _⟩
  · exact ⟨ao, cap, rfl⟩
  · exact ⟨_, _, h1⟩
end Go.Proofs.YtijliddchoehhaaDoor
