/- The library's tables that printing a number reads, as the rows list them: what they give a walk, and a world that holds them; an array of ints out of its reading. -/
import Derived.Test.YtophgcneckjdjaaDoorRows
import Derived.Test.YtophgcneckjdjaaDoorIp4Impl
import Derived.Lib.LaidIn
import Derived.Lib.LaidTab
import Derived.Lib.LaidU8
import Derived.Deep.DeepHandedRow
import Derived.Deep.DeepWitnessRowRef
import Derived.ProofKit
namespace Go.Proofs.YtophgcneckjdjaaDoor
open Go.ChangeShapes Go.WideShapes Go.ChangeAt Go.RowKit Go.Lib

theorem ownPow : ownKnob Tryd.prog.godebug = none := by kernel_rfl
theorem laidOutPow : laidOutB Tryd.prog = true := by kernel_rfl

def laidPow : List (String × DataW Unit) := [("math/bits.deBruijn32tab", Rows.laid_math_bits_deBruijn32tab), ("math/bits.deBruijn64tab", Rows.laid_math_bits_deBruijn64tab), ("internal/strconv.uint64pow10", Rows.laid_internal_strconv_uint64pow10)]

theorem pow_data : (Rows.laid_internal_strconv_uint64pow10 : DataW Unit) = Lib.tabData .u64 Lib.pow10Tab := by kernel_rfl

/-- What the rows' list gives: the powers of ten. -/
theorem pow_laid {W : World} (hL : laidMet Tryd.prog laidPow W) : Pow W := by
  unfold laidPow at hL
  rw [pow_data] at hL
  obtain ⟨g', t', cs, fuel, p, hg, hty, hvar, hd⟩ := Lib.laidMet.reads hL (.tail _ (.tail _ (.head _)))
  obtain rfl := Option.some.inj ((show Tryd.prog.globalNamed "internal/strconv.uint64pow10" = some 1 by kernel_rfl).symm.trans hg)
  obtain rfl := Option.some.inj ((show (Tryd.prog.globals[1]?).map (·.type) = some 86 by kernel_rfl).symm.trans hty)
  show Lib.TabIs _ _ _ _ _
  unfold Lib.TabIs
  rw [hvar, ← Lib.cells_of_tab (P := Tryd.prog) (t := 86) (e := 72) (n := 20) (k := .u64) (by kernel_rfl) (by kernel_rfl) (by kernel_rfl) (by kernel_rfl) hd]

def litCells (d : DataW Unit) : Array Value := match d with
  | .agg ds => (ds.map fun x => match x with
    | .lit (.int k n) => Value.int k n
    | _ => Value.int .i64 0).toArray
  | _ => #[]

def putRow5 (cs : Array Value) : Obj → Obj
  | .cells _ t frozen => .cells cs t frozen
  | o => o

/-- The heap of the witness: the three tables hold what their initialisers lay. -/
def powHeap (h : Array Obj) : Array Obj :=
  ((h.modify 2 (putRow5 (litCells Rows.laid_math_bits_deBruijn32tab))).modify 3 (putRow5 (litCells Rows.laid_math_bits_deBruijn64tab))).modify 1 (putRow5 (litCells Rows.laid_internal_strconv_uint64pow10))

theorem pow_met (os : Os) (args : Array Value) : laidMet Tryd.prog laidPow (({ World.holding Tryd.prog os ⟨#[], #[], []⟩ with heap := powHeap (World.holding Tryd.prog os ⟨#[], #[], []⟩).heap } : World).forCall (fun _ _ => 0) ⟨#[], args, []⟩).memory :=
  (LaidIn.of_run (l := laidPow) [2, 3, 1] 8 (by kernel_rfl) (by kernel_rfl) (by kernel_rfl) (by kernel_rfl)).met

/-- Package bytealg's variable holds some int. -/
def MaxI (w : World) : Prop := ∃ m, w.cell? ⟨0, 0, none⟩ = some (.int .i64 m)
theorem max_shaped {w : World} (h : w.ShapedOpen Tryd.prog) : MaxI w := Tryd.laysM145.s1_3 w h
theorem max_below {w w' : World} (h : MaxI w) (hb : Below w.heap.size w w') : MaxI w' := by
  obtain ⟨m, hm⟩ := h
  exact ⟨m, cell_later hb hm⟩

theorem list_map {α : Type} {f : Int → Value} {Q : Int → Prop} : ∀ {l : List Value}, (∀ i, i < l.length → ∃ z, l[i]? = some (f z) ∧ Q z) → ∃ zs : List Int, l = zs.map f ∧ ∀ z ∈ zs, Q z
  | [], _ => ⟨[], rfl, fun z hz => by simp at hz⟩
  | v :: l, h => by
    obtain ⟨z, hz, hq⟩ := h 0 (by simp)
    obtain ⟨zs, rfl, hzs⟩ := list_map (α := α) (f := f) (Q := Q) (l := l) (fun i hi => by
      obtain ⟨z, h1, h2⟩ := h (i + 1) (by simpa using hi)
      exact ⟨z, by simpa using h1, h2⟩)
    simp at hz
    subst hz
    refine ⟨z :: zs, rfl, fun y hy => ?_⟩
    rcases List.mem_cons.1 hy with rfl | hy
    · exact hq
    · exact hzs y hy

theorem ints_of_array {H : Type} {enc : TypeId × Value → H} {P : Program} {w : World} {base : Nat} {sp : Nat → Bool} {held : Bool} {fuel : Nat} {t e : TypeId} {n : Nat} {k : IntKind} {cs : List Value} {x : DataW H × List MemPlace}
    (ht : P.underlying t = some (.array n e)) (he : P.underlying e = some (.int k)) (hce : P.cellsOf e = 1) (hct : P.cellsOf t = n)
    (h : DataW.trod enc P w base sp held fuel t cs = some x) : ∃ zs : List Int, cs = zs.map (Value.int k) ∧ zs.length = n ∧ ∀ z ∈ zs, (Lit.int k z).wf = true := by
  cases fuel with
  | zero => simp [DataW.trod] at h
  | succ fuel =>
    simp only [DataW.trod, ht, hce, hct, Nat.mul_one] at h
    split at h
    · rename_i hl
      obtain ⟨xs, hm, hx⟩ := Option.map_eq_some_iff.1 h
      have hn : cs.length = n := by first | exact hl | simpa using hl
      obtain ⟨zs, rfl, hz⟩ := list_map (α := Unit) (f := Value.int k) (Q := fun z => (Lit.int k z).wf = true) (l := cs) (fun i hi => by
        obtain ⟨b, hb, hf⟩ := Lib.mapM_at hm i i (by simp [show i < n by omega])
        obtain ⟨z, hc, rfl, hw⟩ := DataW.trod_int he hf
        refine ⟨z, ?_, hw⟩
        have := congrArg (·[0]?) hc
        simpa [List.getElem?_take, List.getElem?_drop] using this)
      exact ⟨zs, rfl, by simpa using hn, hz⟩
    · cases h
end Go.Proofs.YtophgcneckjdjaaDoor
