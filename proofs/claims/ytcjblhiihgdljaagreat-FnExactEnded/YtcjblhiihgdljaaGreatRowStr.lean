/- Rows of texts in memory, wherever they lie. -/
import Derived.Test.YtcjblhiihgdljaaGreatRows
import Derived.Test.YtcjblhiihgdljaaGreatBase
namespace Go.Proofs.YtcjblhiihgdljaaGreat
open Go.RowKit

theorem ba_eq {a b : ByteArray} : a = b ↔ a.data.toList = b.data.toList := ⟨fun h => by rw [h], fun h => by
  cases a; cases b
  congr
  exact Array.toList_inj.1 h⟩
theorem own_room {w : World} {B : Nat} {e : TypeId} {size g n cap : Nat} {xs : List Value} (h : w.ownsRow B e size (.slice (some ⟨g, 0, none⟩) n cap) n xs) : n ≤ cap := by
  rcases h.2 with ⟨h, _⟩ | ⟨_, _, _, h, _, _, h3, _⟩
  · cases h
  · cases h; exact h3
/-- A row of texts. -/
def StrRow (w : World) (v : Value) (l : List ByteArray) : Prop :=
  (l = [] ∧ ∃ ao cap, v = .slice ao 0 cap) ∨ (0 < l.length ∧ ∃ g off cap, v = .slice (some ⟨g, off, none⟩) l.length (l.length + cap) ∧ g < w.heap.size ∧ ∀ i, i < l.length → w.cell? ⟨g, off + i, none⟩ = some (.string (l.getD i ByteArray.empty)))
theorem StrRow.same {w w' : World} {v : Value} {l : List ByteArray} (h : StrRow w v l) (hs : w.heap.size ≤ w'.heap.size) (hb : ∀ k, k < w.heap.size → w'.heap[k]? = w.heap[k]?) : StrRow w' v l := by
  rcases h with h | ⟨h0, g, off, cap, h1, h2, h3⟩
  · exact .inl h
  · exact .inr ⟨h0, g, off, cap, h1, by omega, fun i hi => (World.cell?_of_block (w := w) (a := ⟨g, off + i, none⟩) (hb g h2)).trans (h3 i hi)⟩
theorem StrRow.below {w w' : World} {v : Value} {l : List ByteArray} (h : StrRow w v l) (hb : Below w.heap.size w w') : StrRow w' v l := h.same hb.size hb.block
theorem StrRow.of_own {w : World} {B : Nat} {e : TypeId} {v : Value} {l : List ByteArray} {n : Nat} (h : w.ownsRow B e 1 v n (scells l)) : StrRow w v l := by
  have hl : l.length = n := by have := h.1; simpa [scells] using this
  subst hl
  rcases own_shape h with ⟨h0, h1, ao, cap, rfl⟩ | ⟨h0, g, cap, rfl⟩
  · refine .inl ⟨List.eq_nil_of_length_eq_zero h0, ao, cap, ?_⟩
    rfl
  · exact .inr ⟨h0, g, 0, cap - l.length, by rw [Nat.add_sub_cancel' (own_room h)], (h.lt g rfl).2, fun i hi => by rw [Nat.zero_add]; exact scell_at h i hi⟩
theorem StrRow.slice {w : World} {v : Value} {l : List ByteArray} (h : StrRow w v l) : ∃ ao cap, v = .slice ao l.length cap := by
  rcases h with ⟨rfl, ao, cap, rfl⟩ | ⟨_, g, off, cap, h1, _⟩
  · exact ⟨ao, cap, rfl⟩
  · exact ⟨_, _, h1⟩
theorem StrRow.nil (w : World) (ao : Option Addr) (cap : Nat) : StrRow w (.slice ao 0 cap) [] := .inl ⟨rfl, ao, cap, rfl⟩
end Go.Proofs.YtcjblhiihgdljaaGreat
