/-
  No cell of these rows narrows 'for every input' (looked for: loops, veiled, ifaces, maps, wideKeys, modest, calm, conditions, laid).
  DERIVED. THE GIVEN ROWS OF THIS SEAT. 2 by the template 'for every input the law returns true; each argument reads behind the call as it read before'; 0 by the template 'total and deterministic' (their statements: YtophgcneckjdjaaTotals.lean).
  GIVEN WITH THE SEED: the statements are not yours to turn. If you find one false, say at which input.
  Laid BY PROGRAM, IN A SANDBOX (cutbox-rows.mjs): the forced cells as the released guide's own fill.sh prints them over the translation c93d716236e05850… (all of the seat's roots in one cut). By AI agents, Wed Nov 11 2026. No macro, syntax, notation, axiom, sorry.
-/
import Derived.Test.YtophgcneckjdjaaChecked
import GoSem.Claim
import GoSem.ClaimJoined
import GoSem.ClaimMapViews
import Derived.JoinedTies
import Derived.KernelRfl
namespace Go.Proofs.Ytophgcneckjdjaa
/- THE CELL 'sum', in the pinned program and in every row, IS THE sha256 OF THE DUMP (.gsa) THAT YtophgcneckjdjaaProg.lean LOADS. Nothing in Lean hashes anything: it is a label: what it is worth is what the hold of that sum in a sandbox is worth. -/
noncomputable def Try.pinned : Pinned := { name := "ytophgcneckjdjaa", sum := "c93d716236e05850a2b307507046fefb36968834825eb6298ca7cfba664d2d4f", checked := Try.checked }
namespace Rows
def none {H : Type} : Left H := { results := [], args := [] }

/-- 'laws.FnExactLooseIp4': WHATEVER THE INPUT: true; the input reads as it did. -/
def fnExactLooseIp4Spec : ChangeSpec := { name := "fnExactLooseIp4", fn := fun _ => fun
  | [d] => { results := [.lit (.bool true)], args := [d] }
  | _ => none }
def fnExactLooseIp4Row : OpenClaim := { program := "ytophgcneckjdjaa", sum := "c93d716236e05850a2b307507046fefb36968834825eb6298ca7cfba664d2d4f", func := "loop.example/g00191/laws.FnExactLooseIp4", spec := "fnExactLooseIp4", apart := false }
def FnExactLooseIp4Said : Prop := fnExactLooseIp4Row.holds Try.pinned (OpenSpec.ofChange fnExactLooseIp4Spec)

/-- ITS FALSE NEIGHBOUR: 'it returns false'. Refute it at one input. -/
def fnExactLooseIp4Wrong : ChangeSpec := { name := "fnExactLooseIp4", fn := fun _ => fun
  | [d] => { results := [.lit (.bool false)], args := [d] }
  | _ => none }
def FnExactLooseIp4WrongFalsely : Prop := fnExactLooseIp4Row.holds Try.pinned (OpenSpec.ofChange fnExactLooseIp4Wrong)

/-- 'laws.FnExactEndsInNumber': WHATEVER THE INPUT: true; the input reads as it did. -/
def fnExactEndsInNumberSpec : ChangeSpec := { name := "fnExactEndsInNumber", fn := fun _ => fun
  | [d] => { results := [.lit (.bool true)], args := [d] }
  | _ => none }
def fnExactEndsInNumberRow : OpenClaim := { program := "ytophgcneckjdjaa", sum := "c93d716236e05850a2b307507046fefb36968834825eb6298ca7cfba664d2d4f", func := "loop.example/g00191/laws.FnExactEndsInNumber", spec := "fnExactEndsInNumber", apart := false }
def FnExactEndsInNumberSaid : Prop := fnExactEndsInNumberRow.holds Try.pinned (OpenSpec.ofChange fnExactEndsInNumberSpec)

/-- ITS FALSE NEIGHBOUR: 'it returns false'. Refute it at one input. -/
def fnExactEndsInNumberWrong : ChangeSpec := { name := "fnExactEndsInNumber", fn := fun _ => fun
  | [d] => { results := [.lit (.bool false)], args := [d] }
  | _ => none }
def FnExactEndsInNumberWrongFalsely : Prop := fnExactEndsInNumberRow.holds Try.pinned (OpenSpec.ofChange fnExactEndsInNumberWrong)

/- THE SECOND FORM. 'bulk': how many values and letters a reading holds, each counted each time it is reached (what is shared counts as often as it is met; a slice's spare places count too). A statement '..UptoSaid' is the law's where the arguments, and the package variables that the reading takes, are together of bulk at most 1048576: NARROWER than '..Said'. Prove '..Said' where nothing that the law and all that it calls make is longer than what came in: it says more and counts as full. Else prove '..UptoSaid'. A law counts once. -/
mutual
def uptoBulk {H : Type} : DataW H → Nat
  | .lit (.string bytes) => bytes.length + 1
  | .lit _ => 1
  | .nil => 1
  | .ptr d => uptoBulk d + 1
  | .slice elems spare => uptoBulkAll elems + uptoBulkAll spare + 1
  | .agg parts => uptoBulkAll parts + 1
  | .iface _ d => uptoBulk d + 1
  | .map entries => uptoBulkEntries entries + 1
  | .held _ => 1
def uptoBulkAll {H : Type} : List (DataW H) → Nat
  | [] => 0
  | d :: r => uptoBulk d + uptoBulkAll r
def uptoBulkEntries {H : Type} : List (Lit × DataW H) → Nat
  | [] => 0
  | x :: r => uptoBulkEntry x + uptoBulkEntries r
def uptoBulkEntry {H : Type} : Lit × DataW H → Nat
  | (.string bytes, d) => bytes.length + uptoBulk d + 1
  | (_, d) => uptoBulk d + 1
 end
def uptoSmall : (H : Type) → List (DataW H) → Bool := fun _ ds => decide (uptoBulkAll ds ≤ 1048576)
def OpenSpec.upto (s : _root_.Go.ChangeSpec) : _root_.Go.OpenSpec := { _root_.Go.OpenSpec.ofChange s with cond := some uptoSmall }

/-- 'laws.FnExactLooseIp4', WHERE WHAT IT READS IS OF BULK AT MOST 1048576: true; the input reads as it did. -/
def fnExactLooseIp4UptoRow : OpenClaim := { program := "ytophgcneckjdjaa", sum := "c93d716236e05850a2b307507046fefb36968834825eb6298ca7cfba664d2d4f", func := "loop.example/g00191/laws.FnExactLooseIp4", spec := "fnExactLooseIp4", apart := false, narrowed := true }
def FnExactLooseIp4UptoSaid : Prop := fnExactLooseIp4UptoRow.holds Try.pinned (OpenSpec.upto fnExactLooseIp4Spec)

/-- 'laws.FnExactEndsInNumber', WHERE WHAT IT READS IS OF BULK AT MOST 1048576: true; the input reads as it did. -/
def fnExactEndsInNumberUptoRow : OpenClaim := { program := "ytophgcneckjdjaa", sum := "c93d716236e05850a2b307507046fefb36968834825eb6298ca7cfba664d2d4f", func := "loop.example/g00191/laws.FnExactEndsInNumber", spec := "fnExactEndsInNumber", apart := false, narrowed := true }
def FnExactEndsInNumberUptoSaid : Prop := fnExactEndsInNumberUptoRow.holds Try.pinned (OpenSpec.upto fnExactEndsInNumberSpec)

end Rows
end Go.Proofs.Ytophgcneckjdjaa
