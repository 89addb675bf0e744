/- The code's table of escapes. -/
import Derived.Test.YtfdgehlobbeomaaDoorRows
import Derived.Test.YtfdgehlobbeomaaDoorXmlPlain
import Derived.Deep.MidRow
namespace Go.Proofs.YtfdgehlobbeomaaDoor
open Go.RowKit
set_option linter.unusedVariables false

def escRow : List Value := [.int .u8 38, .string ⟨#[97, 109, 112]⟩, .int .u8 60, .string ⟨#[108, 116]⟩, .int .u8 62, .string ⟨#[103, 116]⟩, .int .u8 34, .string ⟨#[113, 117, 111, 116]⟩, .int .u8 39, .string ⟨#[97, 112, 111, 115]⟩]
/-- The table of escapes, as its text lays it. -/
def Esc (w : World) : Prop := ∀ j v, escRow[j]? = some v → w.cell? ⟨0, j, none⟩ = some v
theorem Esc.later {w w' : World} (h : Esc w) (hb : Below w.heap.size w w') : Esc w' := fun j v hv =>
  (World.cell?_of_block (w := w) (a := ⟨0, j, none⟩) (hb.block _ (World.block_lt_of_cell? w _ (h j v hv)))).trans (h j v hv)
theorem Esc.lt {w : World} (h : Esc w) : 0 < w.heap.size := World.block_lt_of_cell? w _ (h 0 _ rfl)
theorem Esc.below {B : Nat} {w w' : World} (h : Esc w) (hB : 0 < B) (hb : Below B w w') : Esc w' := fun j v hv => (hb.cell (p := ⟨0, j, none⟩) hB).trans (h j v hv)
theorem Tryd.infoEsc : (Tryd.prog.info? 65).map (·.size) = some 10 := by kernel_rfl
theorem Tryd.rowEsc : ∃ d, Tryd.prog.underlying 65 = some d ∧ d.isRow = true := ⟨_, Tryd.underlying65, rfl⟩
/-- The whole table is read. -/
theorem esc_ld {ops : Array Oper} {rest : List Oper} {o : Oper} {a : Act} {W : World} {Q : Exit → Act → World → Prop} (hU : Esc W) (hgd : o.guard = none) (x : Operand) (ho : o.op = .load 65 x)
    (hx : a.eval x = .pointer (some ⟨0, 0, none⟩)) (h : wpList Tryd.prog ops Q rest (a.put o.dst (.agg escRow.toArray)) W) : wpList Tryd.prog ops Q (o :: rest) a W := by
  obtain ⟨d, hd1, hd2⟩ := Tryd.rowEsc
  exact wpList_load_mid hgd _ x ho 0 0 hx escRow d (fun j v hv => by rw [Nat.zero_add]; exact hU j v hv) hd1 hd2 Tryd.infoEsc h
/-- Which byte and which name the table has. -/
def escM (k : Nat) : Nat := match k with
  | 0 => 38
  | 1 => 60
  | 2 => 62
  | 3 => 34
  | _ => 39
def escN (k : Nat) : List UInt8 := match k with
  | 0 => nAmp
  | 1 => nLt
  | 2 => nGt
  | 3 => nQuot
  | _ => nApos
theorem esc_at0 (W : World) : (Instr.index 65 (.agg escRow.toArray) (.int .i64 ((0 : Nat) : Int))).run Tryd.prog W = .ok (.agg #[.int .u8 ((escM 0 : Nat) : Int), .string ⟨(escN 0).toArray⟩]) W := by kernel_rfl
theorem esc_at1 (W : World) : (Instr.index 65 (.agg escRow.toArray) (.int .i64 ((1 : Nat) : Int))).run Tryd.prog W = .ok (.agg #[.int .u8 ((escM 1 : Nat) : Int), .string ⟨(escN 1).toArray⟩]) W := by kernel_rfl
theorem esc_at2 (W : World) : (Instr.index 65 (.agg escRow.toArray) (.int .i64 ((2 : Nat) : Int))).run Tryd.prog W = .ok (.agg #[.int .u8 ((escM 2 : Nat) : Int), .string ⟨(escN 2).toArray⟩]) W := by kernel_rfl
theorem esc_at3 (W : World) : (Instr.index 65 (.agg escRow.toArray) (.int .i64 ((3 : Nat) : Int))).run Tryd.prog W = .ok (.agg #[.int .u8 ((escM 3 : Nat) : Int), .string ⟨(escN 3).toArray⟩]) W := by kernel_rfl
theorem esc_at4 (W : World) : (Instr.index 65 (.agg escRow.toArray) (.int .i64 ((4 : Nat) : Int))).run Tryd.prog W = .ok (.agg #[.int .u8 ((escM 4 : Nat) : Int), .string ⟨(escN 4).toArray⟩]) W := by kernel_rfl
theorem esc_at (k : Nat) (h : k < 5) (W : World) : (Instr.index 65 (.agg escRow.toArray) (.int .i64 (k : Int))).run Tryd.prog W = .ok (.agg #[.int .u8 (escM k : Int), .string ⟨(escN k).toArray⟩]) W :=
  match k, h with
  | 0, _ => esc_at0 W
  | 1, _ => esc_at1 W
  | 2, _ => esc_at2 W
  | 3, _ => esc_at3 W
  | 4, _ => esc_at4 W
end Go.Proofs.YtfdgehlobbeomaaDoor
