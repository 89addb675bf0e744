/-
  No cell of these rows narrows 'for every input' (looked for: loops, veiled, ifaces, maps, wideKeys, modest, calm, conditions, laid).
  DERIVED. THE GIVEN ROWS OF THIS SEAT. 4 by the template 'for every input the law returns true; each argument reads behind the call as it read before'; 0 by the template 'total and deterministic' (their statements: YtjdnemjcjodboaaTotals.lean).
  GIVEN WITH THE SEED: the statements are not yours to turn. If you find one false, say at which input.
  Laid BY PROGRAM, IN A SANDBOX (cutbox-rows.mjs): the forced cells as the released guide's own fill.sh prints them over the translation debf03c20fb12807… (all of the seat's roots in one cut). By AI agents, Wed Nov 11 2026. No macro, syntax, notation, axiom, sorry.
-/
import Derived.Test.YtjdnemjcjodboaaChecked
import GoSem.Claim
import GoSem.ClaimJoined
import GoSem.ClaimMapViews
import Derived.JoinedTies
import Derived.KernelRfl
namespace Go.Proofs.Ytjdnemjcjodboaa
/- THE CELL 'sum', in the pinned program and in every row, IS THE sha256 OF THE DUMP (.gsa) THAT YtjdnemjcjodboaaProg.lean LOADS. Nothing in Lean hashes anything: it is a label: what it is worth is what the hold of that sum in a sandbox is worth. -/
noncomputable def Try.pinned : Pinned := { name := "ytjdnemjcjodboaa", sum := "debf03c20fb12807843c304bb0e0f0c049f4d0b8c4a9738efad1b70f149fb2b8", checked := Try.checked }
namespace Rows
def none {H : Type} : Left H := { results := [], args := [] }

/-- 'laws.FnLinesFor': WHATEVER THE INPUT: true; the input reads as it did. -/
def fnLinesForSpec : ChangeSpec := { name := "fnLinesFor", fn := fun _ => fun
  | [d] => { results := [.lit (.bool true)], args := [d] }
  | _ => none }
def fnLinesForRow : OpenClaim := { program := "ytjdnemjcjodboaa", sum := "debf03c20fb12807843c304bb0e0f0c049f4d0b8c4a9738efad1b70f149fb2b8", func := "loop.example/g00191/laws.FnLinesFor", spec := "fnLinesFor", apart := false }
def FnLinesForSaid : Prop := fnLinesForRow.holds Try.pinned (OpenSpec.ofChange fnLinesForSpec)

/-- ITS FALSE NEIGHBOUR: 'it returns false'. Refute it at one input. -/
def fnLinesForWrong : ChangeSpec := { name := "fnLinesFor", fn := fun _ => fun
  | [d] => { results := [.lit (.bool false)], args := [d] }
  | _ => none }
def FnLinesForWrongFalsely : Prop := fnLinesForRow.holds Try.pinned (OpenSpec.ofChange fnLinesForWrong)

/-- 'laws.FnExactAgentOf': WHATEVER THE INPUT: true; the input reads as it did. -/
def fnExactAgentOfSpec : ChangeSpec := { name := "fnExactAgentOf", fn := fun _ => fun
  | [d] => { results := [.lit (.bool true)], args := [d] }
  | _ => none }
def fnExactAgentOfRow : OpenClaim := { program := "ytjdnemjcjodboaa", sum := "debf03c20fb12807843c304bb0e0f0c049f4d0b8c4a9738efad1b70f149fb2b8", func := "loop.example/g00191/laws.FnExactAgentOf", spec := "fnExactAgentOf", apart := false }
def FnExactAgentOfSaid : Prop := fnExactAgentOfRow.holds Try.pinned (OpenSpec.ofChange fnExactAgentOfSpec)

/-- ITS FALSE NEIGHBOUR: 'it returns false'. Refute it at one input. -/
def fnExactAgentOfWrong : ChangeSpec := { name := "fnExactAgentOf", fn := fun _ => fun
  | [d] => { results := [.lit (.bool false)], args := [d] }
  | _ => none }
def FnExactAgentOfWrongFalsely : Prop := fnExactAgentOfRow.holds Try.pinned (OpenSpec.ofChange fnExactAgentOfWrong)

/-- 'laws.FnExactLinesFor': WHATEVER THE INPUT: true; the input reads as it did. -/
def fnExactLinesForSpec : ChangeSpec := { name := "fnExactLinesFor", fn := fun _ => fun
  | [d1, d2] => { results := [.lit (.bool true)], args := [d1, d2] }
  | _ => none }
def fnExactLinesForRow : OpenClaim := { program := "ytjdnemjcjodboaa", sum := "debf03c20fb12807843c304bb0e0f0c049f4d0b8c4a9738efad1b70f149fb2b8", func := "loop.example/g00191/laws.FnExactLinesFor", spec := "fnExactLinesFor", apart := false }
def FnExactLinesForSaid : Prop := fnExactLinesForRow.holds Try.pinned (OpenSpec.ofChange fnExactLinesForSpec)

/-- ITS FALSE NEIGHBOUR: 'it returns false'. Refute it at one input. -/
def fnExactLinesForWrong : ChangeSpec := { name := "fnExactLinesFor", fn := fun _ => fun
  | [d1, d2] => { results := [.lit (.bool false)], args := [d1, d2] }
  | _ => none }
def FnExactLinesForWrongFalsely : Prop := fnExactLinesForRow.holds Try.pinned (OpenSpec.ofChange fnExactLinesForWrong)

/-- 'laws.FnExactRobotsText': WHATEVER THE INPUT: true; the input reads as it did. -/
def fnExactRobotsTextSpec : ChangeSpec := { name := "fnExactRobotsText", fn := fun _ => fun
  | [d] => { results := [.lit (.bool true)], args := [d] }
  | _ => none }
def fnExactRobotsTextRow : OpenClaim := { program := "ytjdnemjcjodboaa", sum := "debf03c20fb12807843c304bb0e0f0c049f4d0b8c4a9738efad1b70f149fb2b8", func := "loop.example/g00191/laws.FnExactRobotsText", spec := "fnExactRobotsText", inPlace := ["internal/abi.NoEscape"], apart := false }
def FnExactRobotsTextSaid : Prop := fnExactRobotsTextRow.holds Try.pinned (OpenSpec.ofChange fnExactRobotsTextSpec)

/-- ITS FALSE NEIGHBOUR: 'it returns false'. Refute it at one input. -/
def fnExactRobotsTextWrong : ChangeSpec := { name := "fnExactRobotsText", fn := fun _ => fun
  | [d] => { results := [.lit (.bool false)], args := [d] }
  | _ => none }
def FnExactRobotsTextWrongFalsely : Prop := fnExactRobotsTextRow.holds Try.pinned (OpenSpec.ofChange fnExactRobotsTextWrong)

/- THE SECOND FORM. 'bulk': how many values and letters a reading holds, each counted each time it is reached (what is shared counts as often as it is met; a slice's spare places count too). A statement '..UptoSaid' is the law's where the arguments, and the package variables that the reading takes, are together of bulk at most 1048576: NARROWER than '..Said'. Prove '..Said' where nothing that the law and all that it calls make is longer than what came in: it says more and counts as full. Else prove '..UptoSaid'. A law counts once. -/
mutual
def uptoBulk {H : Type} : DataW H → Nat
  | .lit (.string bytes) => bytes.length + 1
  | .lit _ => 1
  | .nil => 1
  | .ptr d => uptoBulk d + 1
  | .slice elems spare => uptoBulkAll elems + uptoBulkAll spare + 1
  | .agg parts => uptoBulkAll parts + 1
  | .iface _ d => uptoBulk d + 1
  | .map entries => uptoBulkEntries entries + 1
  | .held _ => 1
def uptoBulkAll {H : Type} : List (DataW H) → Nat
  | [] => 0
  | d :: r => uptoBulk d + uptoBulkAll r
def uptoBulkEntries {H : Type} : List (Lit × DataW H) → Nat
  | [] => 0
  | x :: r => uptoBulkEntry x + uptoBulkEntries r
def uptoBulkEntry {H : Type} : Lit × DataW H → Nat
  | (.string bytes, d) => bytes.length + uptoBulk d + 1
  | (_, d) => uptoBulk d + 1
 end
def uptoSmall : (H : Type) → List (DataW H) → Bool := fun _ ds => decide (uptoBulkAll ds ≤ 1048576)
def OpenSpec.upto (s : _root_.Go.ChangeSpec) : _root_.Go.OpenSpec := { _root_.Go.OpenSpec.ofChange s with cond := some uptoSmall }

/-- 'laws.FnLinesFor', WHERE WHAT IT READS IS OF BULK AT MOST 1048576: true; the input reads as it did. -/
def fnLinesForUptoRow : OpenClaim := { program := "ytjdnemjcjodboaa", sum := "debf03c20fb12807843c304bb0e0f0c049f4d0b8c4a9738efad1b70f149fb2b8", func := "loop.example/g00191/laws.FnLinesFor", spec := "fnLinesFor", apart := false, narrowed := true }
def FnLinesForUptoSaid : Prop := fnLinesForUptoRow.holds Try.pinned (OpenSpec.upto fnLinesForSpec)

/-- 'laws.FnExactAgentOf', WHERE WHAT IT READS IS OF BULK AT MOST 1048576: true; the input reads as it did. -/
def fnExactAgentOfUptoRow : OpenClaim := { program := "ytjdnemjcjodboaa", sum := "debf03c20fb12807843c304bb0e0f0c049f4d0b8c4a9738efad1b70f149fb2b8", func := "loop.example/g00191/laws.FnExactAgentOf", spec := "fnExactAgentOf", apart := false, narrowed := true }
def FnExactAgentOfUptoSaid : Prop := fnExactAgentOfUptoRow.holds Try.pinned (OpenSpec.upto fnExactAgentOfSpec)

/-- 'laws.FnExactLinesFor', WHERE WHAT IT READS IS OF BULK AT MOST 1048576: true; the input reads as it did. -/
def fnExactLinesForUptoRow : OpenClaim := { program := "ytjdnemjcjodboaa", sum := "debf03c20fb12807843c304bb0e0f0c049f4d0b8c4a9738efad1b70f149fb2b8", func := "loop.example/g00191/laws.FnExactLinesFor", spec := "fnExactLinesFor", apart := false, narrowed := true }
def FnExactLinesForUptoSaid : Prop := fnExactLinesForUptoRow.holds Try.pinned (OpenSpec.upto fnExactLinesForSpec)

/-- 'laws.FnExactRobotsText', WHERE WHAT IT READS IS OF BULK AT MOST 1048576: true; the input reads as it did. -/
def fnExactRobotsTextUptoRow : OpenClaim := { program := "ytjdnemjcjodboaa", sum := "debf03c20fb12807843c304bb0e0f0c049f4d0b8c4a9738efad1b70f149fb2b8", func := "loop.example/g00191/laws.FnExactRobotsText", spec := "fnExactRobotsText", inPlace := ["internal/abi.NoEscape"], apart := false, narrowed := true }
def FnExactRobotsTextUptoSaid : Prop := fnExactRobotsTextUptoRow.holds Try.pinned (OpenSpec.upto fnExactRobotsTextSpec)

end Rows
end Go.Proofs.Ytjdnemjcjodboaa
