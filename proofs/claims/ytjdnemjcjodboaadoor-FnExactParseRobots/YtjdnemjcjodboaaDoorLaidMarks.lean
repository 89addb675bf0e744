/- The two arrays of truths of chapter 2, as the rows list them: what they give a walk, and a world that holds them. -/
import Derived.Test.YtjdnemjcjodboaaDoorRows
import Derived.Test.YtjdnemjcjodboaaDoorKeepWalk
import Derived.Lib.LaidIn
import Derived.Lib.LaidU8
import Derived.Deep.DeepHandedRow
import Derived.Deep.DeepWitnessRowRef
import Derived.OpenVars
import Derived.ProofKit
namespace Go.Proofs.YtjdnemjcjodboaaDoor
open Go.ChangeShapes Go.WideShapes Go.ChangeAt Go.RowKit Go.Lib

theorem ownMarks : ownKnob Tryd.prog.godebug = none := by kernel_rfl
theorem laidOutMarks : laidOutB Tryd.prog = true := by kernel_rfl

def laidMarks : List (String × DataW Unit) := [("loop.example/g00191/impl.plainMarks", Rows.laid_loop_example_g00191_impl_plainMarks), ("loop.example/g00191/impl.keptMarks", Rows.laid_loop_example_g00191_impl_keptMarks)]

def boolsData (f : Nat → Bool) : DataW Unit := .agg ((List.range 128).map fun i => .lit (.bool (f i)))
theorem plain_data : (Rows.laid_loop_example_g00191_impl_plainMarks : DataW Unit) = boolsData plainT := by kernel_rfl
theorem kept_data : (Rows.laid_loop_example_g00191_impl_keptMarks : DataW Unit) = boolsData markN := by kernel_rfl

theorem bools_of_reads {P : Program} {w : World} {name : String} {g : Nat} {t e : TypeId} {f : Nat → Bool} (hn : P.globalNamed name = some g) (hy : (P.globals[g]?).map (·.type) = some t) (ht : P.underlying t = some (.array 128 e)) (he : P.underlying e = some .bool) (hce : P.cellsOf e = 1)
    (h : VarReads P w name (boolsData f)) : ∀ c, c < 128 → w.cell? ⟨g, c, none⟩ = some (.bool (f c)) := by
  intro c hc
  obtain ⟨g', t', cs, fuel, p, hg, hty, hvar, hd⟩ := h
  obtain rfl := Option.some.inj (hn.symm.trans hg)
  obtain rfl := Option.some.inj (hy.symm.trans hty)
  unfold boolsData at hd
  obtain ⟨fuel', d, q, hdi, hx⟩ := array_elem ht hd c hc
  simp only [List.getElem?_map, List.getElem?_range hc, Option.map_some, Option.some.injEq] at hdi
  subst hdi
  rw [hce] at hx
  obtain ⟨b, hb, hxx⟩ := DataW.trod_bool he hx
  have hfb : f c = b := by simpa using congrArg Prod.fst hxx
  have e0 := congrArg (·[0]?) hb
  simp only [List.getElem?_take, List.getElem?_drop] at e0
  rw [World.var?_cell hg hvar c, ← Array.getElem?_toList, hfb]
  simpa using e0

/-- What the rows' list gives: the two arrays. -/
theorem laid_marks {W : World} (hL : laidMet Tryd.prog laidMarks W) : Marks W := by
  unfold laidMarks at hL
  rw [plain_data, kept_data] at hL
  have h1 := bools_of_reads (P := Tryd.prog) (g := 0) (t := 91) (e := 4) (by kernel_rfl) (by kernel_rfl) (by kernel_rfl) (by kernel_rfl) (by kernel_rfl) (Lib.laidMet.reads hL (.head _))
  have h2 := bools_of_reads (P := Tryd.prog) (g := 1) (t := 91) (e := 4) (by kernel_rfl) (by kernel_rfl) (by kernel_rfl) (by kernel_rfl) (by kernel_rfl) (Lib.laidMet.reads hL (.tail _ (.head _)))
  exact fun c hc => ⟨h1 c hc, h2 c hc⟩

theorem vars_two {H : Type} {enc : TypeId × Value → H} {P : Program} {w : World} {sp : Nat → Bool} {n0 n1 : String} {gs : List (DataW H)} {ps : List MemPlace} (h : DataW.TrodVars enc P w sp [n0, n1] gs ps) : ∃ g0 g1, gs = [g0, g1] := by
  match gs, h with
  | [], h => exact h.elim
  | [_], ⟨_, _, _, _, _, _, _, _, _, _, h, _⟩ => exact h.elim
  | [a, b], _ => exact ⟨a, b, rfl⟩
  | _ :: _ :: _ :: _, ⟨_, _, _, _, _, _, _, _, _, _, h, _⟩ =>
    obtain ⟨_, _, _, _, _, _, _, _, _, _, h2, _⟩ := h
    exact h2.elim

def putBools (f : Nat → Bool) : Obj → Obj
  | .cells _ t frozen => .cells ((List.range 128).map fun i => Value.bool (f i)).toArray t frozen
  | o => o

/-- The heap of the witness: the two arrays hold what their initialisers lay. -/
def marksHeap (h : Array Obj) : Array Obj := (h.modify 0 (putBools plainT)).modify 1 (putBools markN)

theorem marks_met (os : Os) (args : Array Value) : laidMet Tryd.prog laidMarks (({ World.holding Tryd.prog os ⟨#[], #[], []⟩ with heap := marksHeap (World.holding Tryd.prog os ⟨#[], #[], []⟩).heap } : World).forCall (fun _ _ => 0) ⟨#[], args, []⟩).memory :=
  (LaidIn.of_run (l := laidMarks) [0, 1] 8 (by kernel_rfl) (by kernel_rfl) (by kernel_rfl) (by kernel_rfl)).met

end Go.Proofs.YtjdnemjcjodboaaDoor
