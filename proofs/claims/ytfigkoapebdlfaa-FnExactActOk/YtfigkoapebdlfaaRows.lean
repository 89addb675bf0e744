/-
  No cell of these rows narrows 'for every input' (looked for: loops, veiled, ifaces, maps, wideKeys, modest, calm, conditions, laid).
  DERIVED. THE GIVEN ROWS OF THIS SEAT. 5 by the template 'for every input the law returns true; each argument reads behind the call as it read before'; 0 by the template 'total and deterministic' (their statements: YtfigkoapebdlfaaTotals.lean).
  GIVEN WITH THE SEED: the statements are not yours to turn. If you find one false, say at which input.
  Laid BY PROGRAM, IN A SANDBOX (cutbox-rows.mjs): the forced cells as the released guide's own fill.sh prints them over the translation 52de390a42a62717… (all of the seat's roots in one cut). By AI agents, Wed Nov 11 2026. No macro, syntax, notation, axiom, sorry.
-/
import Derived.Test.YtfigkoapebdlfaaChecked
import GoSem.Claim
import GoSem.ClaimJoined
import GoSem.ClaimMapViews
import Derived.JoinedTies
import Derived.KernelRfl
namespace Go.Proofs.Ytfigkoapebdlfaa
/- THE CELL 'sum', in the pinned program and in every row, IS THE sha256 OF THE DUMP (.gsa) THAT YtfigkoapebdlfaaProg.lean LOADS. Nothing in Lean hashes anything: it is a label: what it is worth is what the hold of that sum in a sandbox is worth. -/
noncomputable def Try.pinned : Pinned := { name := "ytfigkoapebdlfaa", sum := "52de390a42a62717ea9cb7f1b73ebc007af09058f4d0b9b7e3acfd83c15105f2", checked := Try.checked }
namespace Rows
def none {H : Type} : Left H := { results := [], args := [] }

/-- 'laws.FnExactActOk': WHATEVER THE INPUT: true; the input reads as it did. -/
def fnExactActOkSpec : ChangeSpec := { name := "fnExactActOk", fn := fun _ => fun
  | [d] => { results := [.lit (.bool true)], args := [d] }
  | _ => none }
def fnExactActOkRow : OpenClaim := { program := "ytfigkoapebdlfaa", sum := "52de390a42a62717ea9cb7f1b73ebc007af09058f4d0b9b7e3acfd83c15105f2", func := "loop.example/g00191/laws.FnExactActOk", spec := "fnExactActOk", apart := false }
def FnExactActOkSaid : Prop := fnExactActOkRow.holds Try.pinned (OpenSpec.ofChange fnExactActOkSpec)

/-- ITS FALSE NEIGHBOUR: 'it returns false'. Refute it at one input. -/
def fnExactActOkWrong : ChangeSpec := { name := "fnExactActOk", fn := fun _ => fun
  | [d] => { results := [.lit (.bool false)], args := [d] }
  | _ => none }
def FnExactActOkWrongFalsely : Prop := fnExactActOkRow.holds Try.pinned (OpenSpec.ofChange fnExactActOkWrong)

/-- 'laws.FnExactPutAct': WHATEVER THE INPUT: true; the input reads as it did. -/
def fnExactPutActSpec : ChangeSpec := { name := "fnExactPutAct", fn := fun _ => fun
  | [d] => { results := [.lit (.bool true)], args := [d] }
  | _ => none }
def fnExactPutActRow : OpenClaim := { program := "ytfigkoapebdlfaa", sum := "52de390a42a62717ea9cb7f1b73ebc007af09058f4d0b9b7e3acfd83c15105f2", func := "loop.example/g00191/laws.FnExactPutAct", spec := "fnExactPutAct", apart := false }
def FnExactPutActSaid : Prop := fnExactPutActRow.holds Try.pinned (OpenSpec.ofChange fnExactPutActSpec)

/-- ITS FALSE NEIGHBOUR: 'it returns false'. Refute it at one input. -/
def fnExactPutActWrong : ChangeSpec := { name := "fnExactPutAct", fn := fun _ => fun
  | [d] => { results := [.lit (.bool false)], args := [d] }
  | _ => none }
def FnExactPutActWrongFalsely : Prop := fnExactPutActRow.holds Try.pinned (OpenSpec.ofChange fnExactPutActWrong)

/-- 'laws.FnExactGetAct': WHATEVER THE INPUT: true; the input reads as it did. -/
def fnExactGetActSpec : ChangeSpec := { name := "fnExactGetAct", fn := fun _ => fun
  | [d] => { results := [.lit (.bool true)], args := [d] }
  | _ => none }
def fnExactGetActRow : OpenClaim := { program := "ytfigkoapebdlfaa", sum := "52de390a42a62717ea9cb7f1b73ebc007af09058f4d0b9b7e3acfd83c15105f2", func := "loop.example/g00191/laws.FnExactGetAct", spec := "fnExactGetAct", apart := false }
def FnExactGetActSaid : Prop := fnExactGetActRow.holds Try.pinned (OpenSpec.ofChange fnExactGetActSpec)

/-- ITS FALSE NEIGHBOUR: 'it returns false'. Refute it at one input. -/
def fnExactGetActWrong : ChangeSpec := { name := "fnExactGetAct", fn := fun _ => fun
  | [d] => { results := [.lit (.bool false)], args := [d] }
  | _ => none }
def FnExactGetActWrongFalsely : Prop := fnExactGetActRow.holds Try.pinned (OpenSpec.ofChange fnExactGetActWrong)

/-- 'laws.FnExactPutActs': WHATEVER THE INPUT: true; the input reads as it did. -/
def fnExactPutActsSpec : ChangeSpec := { name := "fnExactPutActs", fn := fun _ => fun
  | [d] => { results := [.lit (.bool true)], args := [d] }
  | _ => none }
def fnExactPutActsRow : OpenClaim := { program := "ytfigkoapebdlfaa", sum := "52de390a42a62717ea9cb7f1b73ebc007af09058f4d0b9b7e3acfd83c15105f2", func := "loop.example/g00191/laws.FnExactPutActs", spec := "fnExactPutActs", apart := false }
def FnExactPutActsSaid : Prop := fnExactPutActsRow.holds Try.pinned (OpenSpec.ofChange fnExactPutActsSpec)

/-- ITS FALSE NEIGHBOUR: 'it returns false'. Refute it at one input. -/
def fnExactPutActsWrong : ChangeSpec := { name := "fnExactPutActs", fn := fun _ => fun
  | [d] => { results := [.lit (.bool false)], args := [d] }
  | _ => none }
def FnExactPutActsWrongFalsely : Prop := fnExactPutActsRow.holds Try.pinned (OpenSpec.ofChange fnExactPutActsWrong)

/-- 'laws.FnExactReadActs': WHATEVER THE INPUT: true; the input reads as it did. -/
def fnExactReadActsSpec : ChangeSpec := { name := "fnExactReadActs", fn := fun _ => fun
  | [d] => { results := [.lit (.bool true)], args := [d] }
  | _ => none }
def fnExactReadActsRow : OpenClaim := { program := "ytfigkoapebdlfaa", sum := "52de390a42a62717ea9cb7f1b73ebc007af09058f4d0b9b7e3acfd83c15105f2", func := "loop.example/g00191/laws.FnExactReadActs", spec := "fnExactReadActs", apart := false }
def FnExactReadActsSaid : Prop := fnExactReadActsRow.holds Try.pinned (OpenSpec.ofChange fnExactReadActsSpec)

/-- ITS FALSE NEIGHBOUR: 'it returns false'. Refute it at one input. -/
def fnExactReadActsWrong : ChangeSpec := { name := "fnExactReadActs", fn := fun _ => fun
  | [d] => { results := [.lit (.bool false)], args := [d] }
  | _ => none }
def FnExactReadActsWrongFalsely : Prop := fnExactReadActsRow.holds Try.pinned (OpenSpec.ofChange fnExactReadActsWrong)

/- THE SECOND FORM. 'bulk': how many values and letters a reading holds, each counted each time it is reached (what is shared counts as often as it is met; a slice's spare places count too). A statement '..UptoSaid' is the law's where the arguments, and the package variables that the reading takes, are together of bulk at most 1048576: NARROWER than '..Said'. Prove '..Said' where nothing that the law and all that it calls make is longer than what came in: it says more and counts as full. Else prove '..UptoSaid'. A law counts once. -/
mutual
def uptoBulk {H : Type} : DataW H → Nat
  | .lit (.string bytes) => bytes.length + 1
  | .lit _ => 1
  | .nil => 1
  | .ptr d => uptoBulk d + 1
  | .slice elems spare => uptoBulkAll elems + uptoBulkAll spare + 1
  | .agg parts => uptoBulkAll parts + 1
  | .iface _ d => uptoBulk d + 1
  | .map entries => uptoBulkEntries entries + 1
  | .held _ => 1
def uptoBulkAll {H : Type} : List (DataW H) → Nat
  | [] => 0
  | d :: r => uptoBulk d + uptoBulkAll r
def uptoBulkEntries {H : Type} : List (Lit × DataW H) → Nat
  | [] => 0
  | x :: r => uptoBulkEntry x + uptoBulkEntries r
def uptoBulkEntry {H : Type} : Lit × DataW H → Nat
  | (.string bytes, d) => bytes.length + uptoBulk d + 1
  | (_, d) => uptoBulk d + 1
 end
def uptoSmall : (H : Type) → List (DataW H) → Bool := fun _ ds => decide (uptoBulkAll ds ≤ 1048576)
def OpenSpec.upto (s : _root_.Go.ChangeSpec) : _root_.Go.OpenSpec := { _root_.Go.OpenSpec.ofChange s with cond := some uptoSmall }

/-- 'laws.FnExactActOk', WHERE WHAT IT READS IS OF BULK AT MOST 1048576: true; the input reads as it did. -/
def fnExactActOkUptoRow : OpenClaim := { program := "ytfigkoapebdlfaa", sum := "52de390a42a62717ea9cb7f1b73ebc007af09058f4d0b9b7e3acfd83c15105f2", func := "loop.example/g00191/laws.FnExactActOk", spec := "fnExactActOk", apart := false, narrowed := true }
def FnExactActOkUptoSaid : Prop := fnExactActOkUptoRow.holds Try.pinned (OpenSpec.upto fnExactActOkSpec)

/-- 'laws.FnExactPutAct', WHERE WHAT IT READS IS OF BULK AT MOST 1048576: true; the input reads as it did. -/
def fnExactPutActUptoRow : OpenClaim := { program := "ytfigkoapebdlfaa", sum := "52de390a42a62717ea9cb7f1b73ebc007af09058f4d0b9b7e3acfd83c15105f2", func := "loop.example/g00191/laws.FnExactPutAct", spec := "fnExactPutAct", apart := false, narrowed := true }
def FnExactPutActUptoSaid : Prop := fnExactPutActUptoRow.holds Try.pinned (OpenSpec.upto fnExactPutActSpec)

/-- 'laws.FnExactGetAct', WHERE WHAT IT READS IS OF BULK AT MOST 1048576: true; the input reads as it did. -/
def fnExactGetActUptoRow : OpenClaim := { program := "ytfigkoapebdlfaa", sum := "52de390a42a62717ea9cb7f1b73ebc007af09058f4d0b9b7e3acfd83c15105f2", func := "loop.example/g00191/laws.FnExactGetAct", spec := "fnExactGetAct", apart := false, narrowed := true }
def FnExactGetActUptoSaid : Prop := fnExactGetActUptoRow.holds Try.pinned (OpenSpec.upto fnExactGetActSpec)

/-- 'laws.FnExactPutActs', WHERE WHAT IT READS IS OF BULK AT MOST 1048576: true; the input reads as it did. -/
def fnExactPutActsUptoRow : OpenClaim := { program := "ytfigkoapebdlfaa", sum := "52de390a42a62717ea9cb7f1b73ebc007af09058f4d0b9b7e3acfd83c15105f2", func := "loop.example/g00191/laws.FnExactPutActs", spec := "fnExactPutActs", apart := false, narrowed := true }
def FnExactPutActsUptoSaid : Prop := fnExactPutActsUptoRow.holds Try.pinned (OpenSpec.upto fnExactPutActsSpec)

/-- 'laws.FnExactReadActs', WHERE WHAT IT READS IS OF BULK AT MOST 1048576: true; the input reads as it did. -/
def fnExactReadActsUptoRow : OpenClaim := { program := "ytfigkoapebdlfaa", sum := "52de390a42a62717ea9cb7f1b73ebc007af09058f4d0b9b7e3acfd83c15105f2", func := "loop.example/g00191/laws.FnExactReadActs", spec := "fnExactReadActs", apart := false, narrowed := true }
def FnExactReadActsUptoSaid : Prop := fnExactReadActsUptoRow.holds Try.pinned (OpenSpec.upto fnExactReadActsSpec)

end Rows
end Go.Proofs.Ytfigkoapebdlfaa
