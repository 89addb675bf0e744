/- The table of escapes, alone and beside package utf8's two tables, as chapter 13's rows list it: what it gives a walk, and a world that holds it. -/
import Derived.Test.YtfdgehlobbeomaaDoorRows
import Derived.Test.YtfdgehlobbeomaaDoorEscTab
import Derived.Test.YtfdgehlobbeomaaDoorMaxLaid
import Derived.Lib.LaidIn
import Derived.Lib.LaidU8
import Derived.Deep.DeepHandedRow
import Derived.Deep.DeepWitnessRowRef
import Derived.OpenVars
import Derived.ProofKit
namespace Go.Proofs.YtfdgehlobbeomaaDoor
open Go.ChangeShapes Go.WideShapes Go.ChangeAt Go.RowKit Go.Lib

theorem ownMarks : ownKnob Tryd.prog.godebug = none := by kernel_rfl
theorem laidOutMarks : laidOutB Tryd.prog = true := by kernel_rfl

def laidEsc : List (String × DataW Unit) := [("loop.example/g00191/impl.escapes", Rows.laid_loop_example_g00191_impl_escapes)]

def escData : DataW Unit := .agg ((List.range 5).map fun i => .agg [.lit (.int .u8 (escM i : Int)), .lit (.string (escN i))])
theorem esc_data : (Rows.laid_loop_example_g00191_impl_escapes : DataW Unit) = escData := by kernel_rfl
theorem esc_row (i : Nat) (h : i < 5) : escRow[2 * i]? = some (.int .u8 (escM i : Int)) ∧ escRow[2 * i + 1]? = some (.string ⟨(escN i).toArray⟩) := by
  match i, h with
  | 0, _ => exact ⟨rfl, rfl⟩
  | 1, _ => exact ⟨rfl, rfl⟩
  | 2, _ => exact ⟨rfl, rfl⟩
  | 3, _ => exact ⟨rfl, rfl⟩
  | 4, _ => exact ⟨rfl, rfl⟩
theorem esc_of_reads {P : Program} {w : World} {name : String} {g : Nat} {t e : TypeId} {f0 f1 : Field} (hn : P.globalNamed name = some g) (hy : (P.globals[g]?).map (·.type) = some t) (ht : P.underlying t = some (.array 5 e)) (he : P.underlying e = some (.struct #[f0, f1]))
    (h0 : P.underlying f0.type = some (.int .u8)) (h1 : P.underlying f1.type = some .string) (o0 : f0.offset = 0) (o1 : f1.offset = 1) (c0 : P.cellsOf f0.type = 1) (c1 : P.cellsOf f1.type = 1) (hce : P.cellsOf e = 2)
    (h : VarReads P w name escData) : ∀ i, i < 5 → w.cell? ⟨g, 2 * i, none⟩ = some (.int .u8 (escM i : Int)) ∧ w.cell? ⟨g, 2 * i + 1, none⟩ = some (.string ⟨(escN i).toArray⟩) := by
  intro c hc
  obtain ⟨g', t', cs, fuel, p, hg, hty, hvar, hd⟩ := h
  obtain rfl := Option.some.inj (hn.symm.trans hg)
  obtain rfl := Option.some.inj (hy.symm.trans hty)
  unfold escData at hd
  obtain ⟨fuel', d, q, hdi, hx⟩ := array_elem ht hd c hc
  simp only [List.getElem?_map, List.getElem?_range hc, Option.map_some, Option.some.injEq] at hdi
  subst hdi
  rw [hce] at hx
  obtain ⟨y0, y1, n, hxx, hl, q0, q1⟩ := trod_struct2 he hx
  rw [o0, c0] at q0
  rw [o1, c1] at q1
  obtain ⟨z, hz, rfl, _⟩ := DataW.trod_int h0 q0
  obtain ⟨s, hs, rfl, _⟩ := DataW.trod_string h1 q1
  simp only [Prod.mk.injEq, DataW.agg.injEq, List.cons.injEq, DataW.lit.injEq, Lit.int.injEq, Lit.string.injEq, true_and, and_true] at hxx
  obtain ⟨⟨hz2, hs2⟩, _⟩ := hxx
  have e0 := congrArg (·[0]?) hz
  have e1 := congrArg (·[0]?) hs
  simp only [List.getElem?_take, List.getElem?_drop] at e0 e1
  refine ⟨?_, ?_⟩
  · rw [World.var?_cell hg hvar (2 * c), ← Array.getElem?_toList, hz2, Nat.mul_comm]
    simpa using e0
  · rw [World.var?_cell hg hvar (2 * c + 1), ← Array.getElem?_toList, hs2, Lib.mk_data, Nat.mul_comm]
    simpa using e1
theorem esc_is {w : World} (h : ∀ i, i < 5 → w.cell? ⟨0, 2 * i, none⟩ = some (.int .u8 (escM i : Int)) ∧ w.cell? ⟨0, 2 * i + 1, none⟩ = some (.string ⟨(escN i).toArray⟩)) : Esc w := fun j v hv => by
  have hj : j < 10 := (List.getElem?_eq_some_iff.1 hv).1
  obtain ⟨a, b⟩ := h (j / 2) (by omega)
  obtain ⟨c, d⟩ := esc_row (j / 2) (by omega)
  by_cases hm : j % 2 = 0
  · rw [show 2 * (j / 2) = j by omega] at a c
    rw [a, ← c, hv]
  · rw [show 2 * (j / 2) + 1 = j by omega] at b d
    rw [b, ← d, hv]
theorem esc_reads {W : World} (h : VarReads Tryd.prog W "loop.example/g00191/impl.escapes" Rows.laid_loop_example_g00191_impl_escapes) : Esc W := by
  rw [esc_data] at h
  exact esc_is (esc_of_reads (P := Tryd.prog) (g := 0) (t := 65) (e := 64) (by kernel_rfl) (by kernel_rfl) (by kernel_rfl) Tryd.underlying64 (by kernel_rfl) (by kernel_rfl) rfl rfl (by kernel_rfl) (by kernel_rfl) (by kernel_rfl) h)
/-- What the rows' list gives: the table. -/
theorem laid_esc {W : World} (hL : laidMet Tryd.prog laidEsc W) : Esc W := esc_reads (Lib.laidMet.reads hL (.head _))

theorem vars_one {H : Type} {enc : TypeId × Value → H} {P : Program} {w : World} {sp : Nat → Bool} {n0 : String} {gs : List (DataW H)} {ps : List MemPlace} (h : DataW.TrodVars enc P w sp [n0] gs ps) : ∃ g0, gs = [g0] := by
  match gs, h with
  | [], h => exact h.elim
  | [a], _ => exact ⟨a, rfl⟩
  | _ :: _ :: _, ⟨_, _, _, _, _, _, _, _, _, _, h, _⟩ => exact h.elim

def putEsc : Obj → Obj
  | .cells _ t frozen => .cells escRow.toArray t frozen
  | o => o
/-- The heap of the witness: the table holds what its initialiser lays. -/
def escHeap (h : Array Obj) : Array Obj := h.modify 0 putEsc
theorem esc_met (os : Os) (args : Array Value) : laidMet Tryd.prog laidEsc (({ World.holding Tryd.prog os ⟨#[], #[], []⟩ with heap := escHeap (World.holding Tryd.prog os ⟨#[], #[], []⟩).heap } : World).forCall (fun _ _ => 0) ⟨#[], args, []⟩).memory :=
  (LaidIn.of_run (l := laidEsc) [0] 8 (by kernel_rfl) (by kernel_rfl) (by kernel_rfl) (by kernel_rfl)).met

end Go.Proofs.YtfdgehlobbeomaaDoor
