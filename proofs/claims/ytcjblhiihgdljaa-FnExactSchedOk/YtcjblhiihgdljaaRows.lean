/-
  No cell of these rows narrows 'for every input' (looked for: loops, veiled, ifaces, maps, wideKeys, modest, calm, conditions, laid).
  DERIVED. THE GIVEN ROWS OF THIS SEAT. 3 by the template 'for every input the law returns true; each argument reads behind the call as it read before'; 0 by the template 'total and deterministic' (their statements: YtcjblhiihgdljaaTotals.lean).
  GIVEN WITH THE SEED: the statements are not yours to turn. If you find one false, say at which input.
  Laid BY PROGRAM, IN A SANDBOX (cutbox-rows.mjs): the forced cells as the released guide's own fill.sh prints them over the translation d8d1975815ed1e27… (all of the seat's roots in one cut). By AI agents, Wed Nov 11 2026. No macro, syntax, notation, axiom, sorry.
-/
import Derived.Test.YtcjblhiihgdljaaChecked
import GoSem.Claim
import GoSem.ClaimJoined
import GoSem.ClaimMapViews
import Derived.JoinedTies
import Derived.KernelRfl
namespace Go.Proofs.Ytcjblhiihgdljaa
/- THE CELL 'sum', in the pinned program and in every row, IS THE sha256 OF THE DUMP (.gsa) THAT YtcjblhiihgdljaaProg.lean LOADS. Nothing in Lean hashes anything: it is a label: what it is worth is what the hold of that sum in a sandbox is worth. -/
noncomputable def Try.pinned : Pinned := { name := "ytcjblhiihgdljaa", sum := "d8d1975815ed1e27df5a781fa11c398d84727acdfa0c427ab9e4c9ce64b477bd", checked := Try.checked }
namespace Rows
def none {H : Type} : Left H := { results := [], args := [] }

/-- 'laws.FnExactSchedOk': WHATEVER THE INPUT: true; the input reads as it did. -/
def fnExactSchedOkSpec : ChangeSpec := { name := "fnExactSchedOk", fn := fun _ => fun
  | [d] => { results := [.lit (.bool true)], args := [d] }
  | _ => none }
def fnExactSchedOkRow : OpenClaim := { program := "ytcjblhiihgdljaa", sum := "d8d1975815ed1e27df5a781fa11c398d84727acdfa0c427ab9e4c9ce64b477bd", func := "loop.example/g00191/laws.FnExactSchedOk", spec := "fnExactSchedOk", inPlace := ["internal/bytealg.abigen_runtime_cmpstring"], unfollowed := true, recurses := true, apart := false }
def FnExactSchedOkSaid : Prop := fnExactSchedOkRow.holds Try.pinned (OpenSpec.ofChange fnExactSchedOkSpec)

/-- ITS FALSE NEIGHBOUR: 'it returns false'. Refute it at one input. -/
def fnExactSchedOkWrong : ChangeSpec := { name := "fnExactSchedOk", fn := fun _ => fun
  | [d] => { results := [.lit (.bool false)], args := [d] }
  | _ => none }
def FnExactSchedOkWrongFalsely : Prop := fnExactSchedOkRow.holds Try.pinned (OpenSpec.ofChange fnExactSchedOkWrong)

/-- 'laws.FnExactSchedNew': WHATEVER THE INPUT: true; the input reads as it did. -/
def fnExactSchedNewSpec : ChangeSpec := { name := "fnExactSchedNew", fn := fun _ => fun
  | [d1, d2] => { results := [.lit (.bool true)], args := [d1, d2] }
  | _ => none }
def fnExactSchedNewRow : OpenClaim := { program := "ytcjblhiihgdljaa", sum := "d8d1975815ed1e27df5a781fa11c398d84727acdfa0c427ab9e4c9ce64b477bd", func := "loop.example/g00191/laws.FnExactSchedNew", spec := "fnExactSchedNew", inPlace := ["internal/bytealg.abigen_runtime_cmpstring"], unfollowed := true, recurses := true, apart := false }
def FnExactSchedNewSaid : Prop := fnExactSchedNewRow.holds Try.pinned (OpenSpec.ofChange fnExactSchedNewSpec)

/-- ITS FALSE NEIGHBOUR: 'it returns false'. Refute it at one input. -/
def fnExactSchedNewWrong : ChangeSpec := { name := "fnExactSchedNew", fn := fun _ => fun
  | [d1, d2] => { results := [.lit (.bool false)], args := [d1, d2] }
  | _ => none }
def FnExactSchedNewWrongFalsely : Prop := fnExactSchedNewRow.holds Try.pinned (OpenSpec.ofChange fnExactSchedNewWrong)

/-- 'laws.FnExactRipe': WHATEVER THE INPUT: true; the input reads as it did. -/
def fnExactRipeSpec : ChangeSpec := { name := "fnExactRipe", fn := fun _ => fun
  | [d] => { results := [.lit (.bool true)], args := [d] }
  | _ => none }
def fnExactRipeRow : OpenClaim := { program := "ytcjblhiihgdljaa", sum := "d8d1975815ed1e27df5a781fa11c398d84727acdfa0c427ab9e4c9ce64b477bd", func := "loop.example/g00191/laws.FnExactRipe", spec := "fnExactRipe", apart := false }
def FnExactRipeSaid : Prop := fnExactRipeRow.holds Try.pinned (OpenSpec.ofChange fnExactRipeSpec)

/-- ITS FALSE NEIGHBOUR: 'it returns false'. Refute it at one input. -/
def fnExactRipeWrong : ChangeSpec := { name := "fnExactRipe", fn := fun _ => fun
  | [d] => { results := [.lit (.bool false)], args := [d] }
  | _ => none }
def FnExactRipeWrongFalsely : Prop := fnExactRipeRow.holds Try.pinned (OpenSpec.ofChange fnExactRipeWrong)

/- THE SECOND FORM. 'bulk': how many values and letters a reading holds, each counted each time it is reached (what is shared counts as often as it is met; a slice's spare places count too). A statement '..UptoSaid' is the law's where the arguments, and the package variables that the reading takes, are together of bulk at most 1048576: NARROWER than '..Said'. Prove '..Said' where nothing that the law and all that it calls make is longer than what came in: it says more and counts as full. Else prove '..UptoSaid'. A law counts once. -/
mutual
def uptoBulk {H : Type} : DataW H → Nat
  | .lit (.string bytes) => bytes.length + 1
  | .lit _ => 1
  | .nil => 1
  | .ptr d => uptoBulk d + 1
  | .slice elems spare => uptoBulkAll elems + uptoBulkAll spare + 1
  | .agg parts => uptoBulkAll parts + 1
  | .iface _ d => uptoBulk d + 1
  | .map entries => uptoBulkEntries entries + 1
  | .held _ => 1
def uptoBulkAll {H : Type} : List (DataW H) → Nat
  | [] => 0
  | d :: r => uptoBulk d + uptoBulkAll r
def uptoBulkEntries {H : Type} : List (Lit × DataW H) → Nat
  | [] => 0
  | x :: r => uptoBulkEntry x + uptoBulkEntries r
def uptoBulkEntry {H : Type} : Lit × DataW H → Nat
  | (.string bytes, d) => bytes.length + uptoBulk d + 1
  | (_, d) => uptoBulk d + 1
 end
def uptoSmall : (H : Type) → List (DataW H) → Bool := fun _ ds => decide (uptoBulkAll ds ≤ 1048576)
def OpenSpec.upto (s : _root_.Go.ChangeSpec) : _root_.Go.OpenSpec := { _root_.Go.OpenSpec.ofChange s with cond := some uptoSmall }

/-- 'laws.FnExactSchedOk', WHERE WHAT IT READS IS OF BULK AT MOST 1048576: true; the input reads as it did. -/
def fnExactSchedOkUptoRow : OpenClaim := { program := "ytcjblhiihgdljaa", sum := "d8d1975815ed1e27df5a781fa11c398d84727acdfa0c427ab9e4c9ce64b477bd", func := "loop.example/g00191/laws.FnExactSchedOk", spec := "fnExactSchedOk", inPlace := ["internal/bytealg.abigen_runtime_cmpstring"], unfollowed := true, recurses := true, apart := false, narrowed := true }
def FnExactSchedOkUptoSaid : Prop := fnExactSchedOkUptoRow.holds Try.pinned (OpenSpec.upto fnExactSchedOkSpec)

/-- 'laws.FnExactSchedNew', WHERE WHAT IT READS IS OF BULK AT MOST 1048576: true; the input reads as it did. -/
def fnExactSchedNewUptoRow : OpenClaim := { program := "ytcjblhiihgdljaa", sum := "d8d1975815ed1e27df5a781fa11c398d84727acdfa0c427ab9e4c9ce64b477bd", func := "loop.example/g00191/laws.FnExactSchedNew", spec := "fnExactSchedNew", inPlace := ["internal/bytealg.abigen_runtime_cmpstring"], unfollowed := true, recurses := true, apart := false, narrowed := true }
def FnExactSchedNewUptoSaid : Prop := fnExactSchedNewUptoRow.holds Try.pinned (OpenSpec.upto fnExactSchedNewSpec)

/-- 'laws.FnExactRipe', WHERE WHAT IT READS IS OF BULK AT MOST 1048576: true; the input reads as it did. -/
def fnExactRipeUptoRow : OpenClaim := { program := "ytcjblhiihgdljaa", sum := "d8d1975815ed1e27df5a781fa11c398d84727acdfa0c427ab9e4c9ce64b477bd", func := "loop.example/g00191/laws.FnExactRipe", spec := "fnExactRipe", apart := false, narrowed := true }
def FnExactRipeUptoSaid : Prop := fnExactRipeUptoRow.holds Try.pinned (OpenSpec.upto fnExactRipeSpec)

end Rows
end Go.Proofs.Ytcjblhiihgdljaa
