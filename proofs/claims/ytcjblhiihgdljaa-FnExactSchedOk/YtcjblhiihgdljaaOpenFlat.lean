/- Numbers and texts within structs that came in as arguments. -/
import Derived.Test.YtcjblhiihgdljaaRows
import Derived.OpenShut
import Derived.Deep.Strs
import Derived.Deep.Slices
namespace Go.Proofs.Ytcjblhiihgdljaa
open Go.RowKit Go.WideShapes Go.ChangeShapes
set_option maxRecDepth 100000

section
variable {H : Type} {enc : TypeId × Value → H} {W : World} {base : Nat} {sp : Nat → Bool} {held : Bool}
theorem otrod_i {m : Nat} {v : Value} {y : DataW H × List MemPlace} (h : DataW.trod enc Try.prog W base sp held m 3 [v] = some y) : ∃ n, v = .int .i64 n := by
  obtain ⟨n, h1, _⟩ := DataW.trod_int Try.underlying3 h
  exact ⟨n, by simpa using h1⟩
theorem otrod_s {m : Nat} {v : Value} {y : DataW H × List MemPlace} (h : DataW.trod enc Try.prog W base sp held m 9 [v] = some y) : ∃ n : ByteArray, v = .string n ∧ n.size ≤ maxLen := by
  obtain ⟨n, h1, _, h2⟩ := DataW.trod_string Try.underlying9 h
  exact ⟨n, by simpa using h1, h2⟩
theorem osome_at {α : Type} {xs : List α} {n : Nat} (i : Nat) (h : xs.length = n) (hi : i < n) : ∃ y, xs[i]? = some y := ⟨_, List.getElem?_eq_getElem (by omega)⟩
theorem ocells_i : Try.prog.cellsOf 3 = 1 := by kernel_rfl
theorem ocells_s : Try.prog.cellsOf 9 = 1 := by kernel_rfl
end
end Go.Proofs.Ytcjblhiihgdljaa
