/-
  No cell of these rows narrows 'for every input' (looked for: loops, veiled, ifaces, maps, wideKeys, modest, calm, conditions, laid).
  DERIVED. THE GIVEN ROWS OF THIS SEAT. 5 by the template 'for every input the law returns true; each argument reads behind the call as it read before'; 0 by the template 'total and deterministic' (their statements: YtokkcbjhkepjnaaTotals.lean).
  GIVEN WITH THE SEED: the statements are not yours to turn. If you find one false, say at which input.
  Laid BY PROGRAM, IN A SANDBOX (cutbox-rows.mjs): the forced cells as the released guide's own fill.sh prints them over the translation 81f719093b1a4b00… (all of the seat's roots in one cut). By AI agents, Wed Nov 11 2026. No macro, syntax, notation, axiom, sorry.
-/
import Derived.Test.YtokkcbjhkepjnaaChecked
import GoSem.Claim
import GoSem.ClaimJoined
import GoSem.ClaimMapViews
import Derived.JoinedTies
import Derived.KernelRfl
namespace Go.Proofs.Ytokkcbjhkepjnaa
/- THE CELL 'sum', in the pinned program and in every row, IS THE sha256 OF THE DUMP (.gsa) THAT YtokkcbjhkepjnaaProg.lean LOADS. Nothing in Lean hashes anything: it is a label: what it is worth is what the hold of that sum in a sandbox is worth. -/
noncomputable def Try.pinned : Pinned := { name := "ytokkcbjhkepjnaa", sum := "81f719093b1a4b00e5123de224e55e255b23c682a470662640014189233d0554", checked := Try.checked }
namespace Rows
def none {H : Type} : Left H := { results := [], args := [] }

/-- 'laws.FnExactLower': WHATEVER THE INPUT: true; the input reads as it did. -/
def fnExactLowerSpec : ChangeSpec := { name := "fnExactLower", fn := fun _ => fun
  | [d] => { results := [.lit (.bool true)], args := [d] }
  | _ => none }
def fnExactLowerRow : OpenClaim := { program := "ytokkcbjhkepjnaa", sum := "81f719093b1a4b00e5123de224e55e255b23c682a470662640014189233d0554", func := "loop.example/g00191/laws.FnExactLower", spec := "fnExactLower", apart := false }
def FnExactLowerSaid : Prop := fnExactLowerRow.holds Try.pinned (OpenSpec.ofChange fnExactLowerSpec)

/-- ITS FALSE NEIGHBOUR: 'it returns false'. Refute it at one input. -/
def fnExactLowerWrong : ChangeSpec := { name := "fnExactLower", fn := fun _ => fun
  | [d] => { results := [.lit (.bool false)], args := [d] }
  | _ => none }
def FnExactLowerWrongFalsely : Prop := fnExactLowerRow.holds Try.pinned (OpenSpec.ofChange fnExactLowerWrong)

/-- 'laws.FnExactPutRunes': WHATEVER THE INPUT: true; the input reads as it did. -/
def fnExactPutRunesSpec : ChangeSpec := { name := "fnExactPutRunes", fn := fun _ => fun
  | [d] => { results := [.lit (.bool true)], args := [d] }
  | _ => none }
def fnExactPutRunesRow : OpenClaim := { program := "ytokkcbjhkepjnaa", sum := "81f719093b1a4b00e5123de224e55e255b23c682a470662640014189233d0554", func := "loop.example/g00191/laws.FnExactPutRunes", spec := "fnExactPutRunes", apart := false }
def FnExactPutRunesSaid : Prop := fnExactPutRunesRow.holds Try.pinned (OpenSpec.ofChange fnExactPutRunesSpec)

/-- ITS FALSE NEIGHBOUR: 'it returns false'. Refute it at one input. -/
def fnExactPutRunesWrong : ChangeSpec := { name := "fnExactPutRunes", fn := fun _ => fun
  | [d] => { results := [.lit (.bool false)], args := [d] }
  | _ => none }
def FnExactPutRunesWrongFalsely : Prop := fnExactPutRunesRow.holds Try.pinned (OpenSpec.ofChange fnExactPutRunesWrong)

/-- 'laws.FnExactAscii': WHATEVER THE INPUT: true; the input reads as it did. -/
def fnExactAsciiSpec : ChangeSpec := { name := "fnExactAscii", fn := fun _ => fun
  | [d] => { results := [.lit (.bool true)], args := [d] }
  | _ => none }
def fnExactAsciiRow : OpenClaim := { program := "ytokkcbjhkepjnaa", sum := "81f719093b1a4b00e5123de224e55e255b23c682a470662640014189233d0554", func := "loop.example/g00191/laws.FnExactAscii", spec := "fnExactAscii", apart := false }
def FnExactAsciiSaid : Prop := fnExactAsciiRow.holds Try.pinned (OpenSpec.ofChange fnExactAsciiSpec)

/-- ITS FALSE NEIGHBOUR: 'it returns false'. Refute it at one input. -/
def fnExactAsciiWrong : ChangeSpec := { name := "fnExactAscii", fn := fun _ => fun
  | [d] => { results := [.lit (.bool false)], args := [d] }
  | _ => none }
def FnExactAsciiWrongFalsely : Prop := fnExactAsciiRow.holds Try.pinned (OpenSpec.ofChange fnExactAsciiWrong)

/-- 'laws.FnExactFields': WHATEVER THE INPUT: true; the input reads as it did. -/
def fnExactFieldsSpec : ChangeSpec := { name := "fnExactFields", fn := fun _ => fun
  | [d1, d2] => { results := [.lit (.bool true)], args := [d1, d2] }
  | _ => none }
def fnExactFieldsRow : OpenClaim := { program := "ytokkcbjhkepjnaa", sum := "81f719093b1a4b00e5123de224e55e255b23c682a470662640014189233d0554", func := "loop.example/g00191/laws.FnExactFields", spec := "fnExactFields", apart := false }
def FnExactFieldsSaid : Prop := fnExactFieldsRow.holds Try.pinned (OpenSpec.ofChange fnExactFieldsSpec)

/-- ITS FALSE NEIGHBOUR: 'it returns false'. Refute it at one input. -/
def fnExactFieldsWrong : ChangeSpec := { name := "fnExactFields", fn := fun _ => fun
  | [d1, d2] => { results := [.lit (.bool false)], args := [d1, d2] }
  | _ => none }
def FnExactFieldsWrongFalsely : Prop := fnExactFieldsRow.holds Try.pinned (OpenSpec.ofChange fnExactFieldsWrong)

/-- 'laws.FnExactUnpercent': WHATEVER THE INPUT: true; the input reads as it did. -/
def fnExactUnpercentSpec : ChangeSpec := { name := "fnExactUnpercent", fn := fun _ => fun
  | [d] => { results := [.lit (.bool true)], args := [d] }
  | _ => none }
def fnExactUnpercentRow : OpenClaim := { program := "ytokkcbjhkepjnaa", sum := "81f719093b1a4b00e5123de224e55e255b23c682a470662640014189233d0554", func := "loop.example/g00191/laws.FnExactUnpercent", spec := "fnExactUnpercent", apart := false }
def FnExactUnpercentSaid : Prop := fnExactUnpercentRow.holds Try.pinned (OpenSpec.ofChange fnExactUnpercentSpec)

/-- ITS FALSE NEIGHBOUR: 'it returns false'. Refute it at one input. -/
def fnExactUnpercentWrong : ChangeSpec := { name := "fnExactUnpercent", fn := fun _ => fun
  | [d] => { results := [.lit (.bool false)], args := [d] }
  | _ => none }
def FnExactUnpercentWrongFalsely : Prop := fnExactUnpercentRow.holds Try.pinned (OpenSpec.ofChange fnExactUnpercentWrong)

/- THE SECOND FORM. 'bulk': how many values and letters a reading holds, each counted each time it is reached (what is shared counts as often as it is met; a slice's spare places count too). A statement '..UptoSaid' is the law's where the arguments, and the package variables that the reading takes, are together of bulk at most 1048576: NARROWER than '..Said'. Prove '..Said' where nothing that the law and all that it calls make is longer than what came in: it says more and counts as full. Else prove '..UptoSaid'. A law counts once. -/
mutual
def uptoBulk {H : Type} : DataW H → Nat
  | .lit (.string bytes) => bytes.length + 1
  | .lit _ => 1
  | .nil => 1
  | .ptr d => uptoBulk d + 1
  | .slice elems spare => uptoBulkAll elems + uptoBulkAll spare + 1
  | .agg parts => uptoBulkAll parts + 1
  | .iface _ d => uptoBulk d + 1
  | .map entries => uptoBulkEntries entries + 1
  | .held _ => 1
def uptoBulkAll {H : Type} : List (DataW H) → Nat
  | [] => 0
  | d :: r => uptoBulk d + uptoBulkAll r
def uptoBulkEntries {H : Type} : List (Lit × DataW H) → Nat
  | [] => 0
  | x :: r => uptoBulkEntry x + uptoBulkEntries r
def uptoBulkEntry {H : Type} : Lit × DataW H → Nat
  | (.string bytes, d) => bytes.length + uptoBulk d + 1
  | (_, d) => uptoBulk d + 1
 end
def uptoSmall : (H : Type) → List (DataW H) → Bool := fun _ ds => decide (uptoBulkAll ds ≤ 1048576)
def OpenSpec.upto (s : _root_.Go.ChangeSpec) : _root_.Go.OpenSpec := { _root_.Go.OpenSpec.ofChange s with cond := some uptoSmall }

/-- 'laws.FnExactLower', WHERE WHAT IT READS IS OF BULK AT MOST 1048576: true; the input reads as it did. -/
def fnExactLowerUptoRow : OpenClaim := { program := "ytokkcbjhkepjnaa", sum := "81f719093b1a4b00e5123de224e55e255b23c682a470662640014189233d0554", func := "loop.example/g00191/laws.FnExactLower", spec := "fnExactLower", apart := false, narrowed := true }
def FnExactLowerUptoSaid : Prop := fnExactLowerUptoRow.holds Try.pinned (OpenSpec.upto fnExactLowerSpec)

/-- 'laws.FnExactPutRunes', WHERE WHAT IT READS IS OF BULK AT MOST 1048576: true; the input reads as it did. -/
def fnExactPutRunesUptoRow : OpenClaim := { program := "ytokkcbjhkepjnaa", sum := "81f719093b1a4b00e5123de224e55e255b23c682a470662640014189233d0554", func := "loop.example/g00191/laws.FnExactPutRunes", spec := "fnExactPutRunes", apart := false, narrowed := true }
def FnExactPutRunesUptoSaid : Prop := fnExactPutRunesUptoRow.holds Try.pinned (OpenSpec.upto fnExactPutRunesSpec)

/-- 'laws.FnExactAscii', WHERE WHAT IT READS IS OF BULK AT MOST 1048576: true; the input reads as it did. -/
def fnExactAsciiUptoRow : OpenClaim := { program := "ytokkcbjhkepjnaa", sum := "81f719093b1a4b00e5123de224e55e255b23c682a470662640014189233d0554", func := "loop.example/g00191/laws.FnExactAscii", spec := "fnExactAscii", apart := false, narrowed := true }
def FnExactAsciiUptoSaid : Prop := fnExactAsciiUptoRow.holds Try.pinned (OpenSpec.upto fnExactAsciiSpec)

/-- 'laws.FnExactFields', WHERE WHAT IT READS IS OF BULK AT MOST 1048576: true; the input reads as it did. -/
def fnExactFieldsUptoRow : OpenClaim := { program := "ytokkcbjhkepjnaa", sum := "81f719093b1a4b00e5123de224e55e255b23c682a470662640014189233d0554", func := "loop.example/g00191/laws.FnExactFields", spec := "fnExactFields", apart := false, narrowed := true }
def FnExactFieldsUptoSaid : Prop := fnExactFieldsUptoRow.holds Try.pinned (OpenSpec.upto fnExactFieldsSpec)

/-- 'laws.FnExactUnpercent', WHERE WHAT IT READS IS OF BULK AT MOST 1048576: true; the input reads as it did. -/
def fnExactUnpercentUptoRow : OpenClaim := { program := "ytokkcbjhkepjnaa", sum := "81f719093b1a4b00e5123de224e55e255b23c682a470662640014189233d0554", func := "loop.example/g00191/laws.FnExactUnpercent", spec := "fnExactUnpercent", apart := false, narrowed := true }
def FnExactUnpercentUptoSaid : Prop := fnExactUnpercentUptoRow.holds Try.pinned (OpenSpec.upto fnExactUnpercentSpec)

end Rows
end Go.Proofs.Ytokkcbjhkepjnaa
