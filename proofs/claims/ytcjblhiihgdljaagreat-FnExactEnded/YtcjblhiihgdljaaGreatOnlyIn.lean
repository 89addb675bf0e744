/- Blocks that are owned, and nothing else turned. -/
import Derived.Test.YtcjblhiihgdljaaGreatRows
import Derived.WalkKit
namespace Go.Proofs.YtcjblhiihgdljaaGreat
open Go.RowKit
set_option linter.unusedVariables false

/-- Two values that lead to no block in common. -/
def apt (p q : Value) : Prop := ∀ b, p.ownBlock = some b → q.ownBlock ≠ some b
theorem apt.symm {p q : Value} (h : apt p q) : apt q p := fun b e1 e2 => h b e2 e1
/-- What is owned stays owned while its own block stays. -/
theorem own_at {w w' : World} {base : Nat} {e : TypeId} {size n : Nat} {v : Value} {xs : List Value} (h : w.ownsRow base e size v n xs) (hs : ∀ b, v.ownBlock = some b → w'.heap[b]? = w.heap[b]?) : w'.ownsRow base e size v n xs := by
  refine ⟨h.1, ?_⟩
  rcases h.2 with hn | ⟨g, cap, cur, rfl, hb, hgg, rest⟩
  · exact .inl hn
  · exact .inr ⟨g, cap, cur, rfl, hb, (hs g rfl).trans hgg, rest⟩
/-- Nothing but blocks from base up to top has turned, of those that were. -/
structure Only (base top : Nat) (w w' : World) : Prop where
  os : w'.os = w.os
  tape : w'.tape = w.tape
  output : w'.output = w.output
  size : w.heap.size ≤ w'.heap.size
  block : ∀ k, k < w.heap.size → (k < base ∨ top ≤ k) → w'.heap[k]? = w.heap[k]?
theorem Only.refl (base top : Nat) (w : World) : Only base top w w := ⟨rfl, rfl, rfl, Nat.le_refl _, fun _ _ _ => rfl⟩
theorem Only.trans {base top : Nat} {a b c : World} (h : Only base top a b) (k : Only base top b c) : Only base top a c :=
  ⟨k.os.trans h.os, k.tape.trans h.tape, k.output.trans h.output, Nat.le_trans h.size k.size, fun i hi hx => (k.block i (Nat.lt_of_lt_of_le hi h.size) hx).trans (h.block i hi hx)⟩
theorem Only.below {base top : Nat} {w w' : World} (h : Only base top w w') (hb : base ≤ w.heap.size) : Below base w w' := ⟨h.os, h.tape, h.output, h.size, fun k hk => h.block k (by omega) (.inl hk)⟩
theorem Only.of_below {base top : Nat} {w w' : World} (h : Below w.heap.size w w') : Only base top w w' := ⟨h.os, h.tape, h.output, h.size, fun k hk _ => h.block k hk⟩
theorem Only.of_grown {base top : Nat} {w w' : World} {r : Option Nat} (h : w.grownBy w' r) (hr : ∀ b, r = some b → base ≤ b ∧ b < top) : Only base top w w' :=
  ⟨h.os, h.tape, h.output, h.size, fun k hk hx => h.block k hk fun e => by have := hr k e.symm; omega⟩
theorem own_wide1 {w : World} {base base' : Nat} {e : TypeId} {size n : Nat} {v : Value} {xs : List Value} (h : w.ownsRow base e size v n xs) (hb : base' ≤ base) : w.ownsRow base' e size v n xs := by
  refine ⟨h.1, ?_⟩
  rcases h.2 with hn | ⟨g, cap, cur, h1, h2, rest⟩
  · exact .inl hn
  · exact .inr ⟨g, cap, cur, h1, Nat.le_trans hb h2, rest⟩
/-- A row that is owned lies in a block of its own type. -/
theorem own_ty {w : World} {B : Nat} {e : TypeId} {size n : Nat} {v : Value} {xs : List Value} (h : w.ownsRow B e size v n xs) {b : Nat} (hb : v.ownBlock = some b) : ∃ cur f, w.heap[b]? = some (.cells cur e f) := by
  rcases h.2 with ⟨rfl, _⟩ | ⟨g, cap, cur, rfl, _, hg, _⟩
  · cases hb
  · cases hb
    exact ⟨_, _, hg⟩

/-- What is owned stays where a block of another type turns. -/
theorem own_far {w w' : World} {B : Nat} {e t : TypeId} {size n G : Nat} {v : Value} {xs : List Value} {cs : Array Value} {f : Nat × Nat} (h : w.ownsRow B e size v n xs) (hG : w.heap[G]? = some (.cells cs t f)) (ht : t ≠ e) (hs : ∀ k, k < w.heap.size → k ≠ G → w'.heap[k]? = w.heap[k]?) : w'.ownsRow B e size v n xs :=
  own_at h fun b hb => hs b (h.lt b hb).2 fun hx => by
    obtain ⟨cur, f', h2⟩ := own_ty h hb
    rw [hx, hG] at h2
    injection h2 with h2
    injection h2 with _ h3
    exact ht h3

end Go.Proofs.YtcjblhiihgdljaaGreat
