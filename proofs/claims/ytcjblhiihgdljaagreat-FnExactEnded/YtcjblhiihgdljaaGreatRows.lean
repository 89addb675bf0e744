/-
  No cell of these rows narrows 'for every input' (looked for: loops, veiled, ifaces, maps, wideKeys, modest, calm, conditions, laid).
  DERIVED. THE GIVEN ROWS OF THIS SEAT. 10 by the template 'for every input the law returns true; each argument reads behind the call as it read before'; 0 by the template 'total and deterministic' (their statements: YtcjblhiihgdljaaGreatTotals.lean).
  GIVEN WITH THE SEED: the statements are not yours to turn. If you find one false, say at which input.
  Laid BY PROGRAM, IN A SANDBOX (cutbox-rows.mjs): the forced cells as the released guide's own fill.sh prints them over the translation cd78505e588b1841… (all of the seat's roots in one cut). By AI agents, Wed Nov 11 2026. No macro, syntax, notation, axiom, sorry.
-/
import Derived.Test.YtcjblhiihgdljaaGreatChecked
import GoSem.Claim
import GoSem.ClaimJoined
import GoSem.ClaimMapViews
import Derived.JoinedTies
import Derived.KernelRfl
namespace Go.Proofs.YtcjblhiihgdljaaGreat
/- THE CELL 'sum', in the pinned program and in every row, IS THE sha256 OF THE DUMP (.gsa) THAT YtcjblhiihgdljaaGreatProg.lean LOADS. Nothing in Lean hashes anything: it is a label: what it is worth is what the hold of that sum in a sandbox is worth. -/
noncomputable def Tryz.pinned : Pinned := { name := "ytcjblhiihgdljaagreat", sum := "cd78505e588b18416d3ee82bf86c2a72d9ccd0b994b9c2cfc0573813f5c26517", checked := Tryz.checked }
namespace Rows
def none {H : Type} : Left H := { results := [], args := [] }

/-- 'laws.FnQueued': WHATEVER THE INPUT: true; the input reads as it did. -/
def fnQueuedSpec : ChangeSpec := { name := "fnQueued", fn := fun _ => fun
  | [d] => { results := [.lit (.bool true)], args := [d] }
  | _ => none }
def fnQueuedRow : OpenClaim := { program := "ytcjblhiihgdljaagreat", sum := "cd78505e588b18416d3ee82bf86c2a72d9ccd0b994b9c2cfc0573813f5c26517", func := "loop.example/g00191/laws.FnQueued", spec := "fnQueued", inPlace := ["internal/bytealg.abigen_runtime_cmpstring", "slices.overlaps[*loop.example/g00191/impl.Site]", "slices.overlaps[loop.example/g00191/impl.Waiting]"], unfollowed := true, recurses := true, apart := false }
def FnQueuedSaid : Prop := fnQueuedRow.holds Tryz.pinned (OpenSpec.ofChange fnQueuedSpec)

/-- ITS FALSE NEIGHBOUR: 'it returns false'. Refute it at one input. -/
def fnQueuedWrong : ChangeSpec := { name := "fnQueued", fn := fun _ => fun
  | [d] => { results := [.lit (.bool false)], args := [d] }
  | _ => none }
def FnQueuedWrongFalsely : Prop := fnQueuedRow.holds Tryz.pinned (OpenSpec.ofChange fnQueuedWrong)

/-- 'laws.FnHanded': WHATEVER THE INPUT: true; the input reads as it did. -/
def fnHandedSpec : ChangeSpec := { name := "fnHanded", fn := fun _ => fun
  | [d] => { results := [.lit (.bool true)], args := [d] }
  | _ => none }
def fnHandedRow : OpenClaim := { program := "ytcjblhiihgdljaagreat", sum := "cd78505e588b18416d3ee82bf86c2a72d9ccd0b994b9c2cfc0573813f5c26517", func := "loop.example/g00191/laws.FnHanded", spec := "fnHanded", inPlace := ["internal/bytealg.abigen_runtime_cmpstring", "slices.overlaps[*loop.example/g00191/impl.Site]", "slices.overlaps[loop.example/g00191/impl.Waiting]"], unfollowed := true, recurses := true, apart := false }
def FnHandedSaid : Prop := fnHandedRow.holds Tryz.pinned (OpenSpec.ofChange fnHandedSpec)

/-- ITS FALSE NEIGHBOUR: 'it returns false'. Refute it at one input. -/
def fnHandedWrong : ChangeSpec := { name := "fnHanded", fn := fun _ => fun
  | [d] => { results := [.lit (.bool false)], args := [d] }
  | _ => none }
def FnHandedWrongFalsely : Prop := fnHandedRow.holds Tryz.pinned (OpenSpec.ofChange fnHandedWrong)

/-- 'laws.FnPassed': WHATEVER THE INPUT: true; the input reads as it did. -/
def fnPassedSpec : ChangeSpec := { name := "fnPassed", fn := fun _ => fun
  | [d] => { results := [.lit (.bool true)], args := [d] }
  | _ => none }
def fnPassedRow : OpenClaim := { program := "ytcjblhiihgdljaagreat", sum := "cd78505e588b18416d3ee82bf86c2a72d9ccd0b994b9c2cfc0573813f5c26517", func := "loop.example/g00191/laws.FnPassed", spec := "fnPassed", inPlace := ["internal/bytealg.abigen_runtime_cmpstring", "slices.overlaps[*loop.example/g00191/impl.Site]", "slices.overlaps[loop.example/g00191/impl.Waiting]"], unfollowed := true, recurses := true, apart := false }
def FnPassedSaid : Prop := fnPassedRow.holds Tryz.pinned (OpenSpec.ofChange fnPassedSpec)

/-- ITS FALSE NEIGHBOUR: 'it returns false'. Refute it at one input. -/
def fnPassedWrong : ChangeSpec := { name := "fnPassed", fn := fun _ => fun
  | [d] => { results := [.lit (.bool false)], args := [d] }
  | _ => none }
def FnPassedWrongFalsely : Prop := fnPassedRow.holds Tryz.pinned (OpenSpec.ofChange fnPassedWrong)

/-- 'laws.FnAnew': WHATEVER THE INPUT: true; the input reads as it did. -/
def fnAnewSpec : ChangeSpec := { name := "fnAnew", fn := fun _ => fun
  | [d] => { results := [.lit (.bool true)], args := [d] }
  | _ => none }
def fnAnewRow : OpenClaim := { program := "ytcjblhiihgdljaagreat", sum := "cd78505e588b18416d3ee82bf86c2a72d9ccd0b994b9c2cfc0573813f5c26517", func := "loop.example/g00191/laws.FnAnew", spec := "fnAnew", inPlace := ["internal/bytealg.abigen_runtime_cmpstring", "slices.overlaps[*loop.example/g00191/impl.Site]", "slices.overlaps[loop.example/g00191/impl.Waiting]"], unfollowed := true, recurses := true, apart := false }
def FnAnewSaid : Prop := fnAnewRow.holds Tryz.pinned (OpenSpec.ofChange fnAnewSpec)

/-- ITS FALSE NEIGHBOUR: 'it returns false'. Refute it at one input. -/
def fnAnewWrong : ChangeSpec := { name := "fnAnew", fn := fun _ => fun
  | [d] => { results := [.lit (.bool false)], args := [d] }
  | _ => none }
def FnAnewWrongFalsely : Prop := fnAnewRow.holds Tryz.pinned (OpenSpec.ofChange fnAnewWrong)

/-- 'laws.FnExactEnqueue': WHATEVER THE INPUT: true; the input reads as it did. -/
def fnExactEnqueueSpec : ChangeSpec := { name := "fnExactEnqueue", fn := fun _ => fun
  | [d1, d2, d3, d4] => { results := [.lit (.bool true)], args := [d1, d2, d3, d4] }
  | _ => none }
def fnExactEnqueueRow : OpenClaim := { program := "ytcjblhiihgdljaagreat", sum := "cd78505e588b18416d3ee82bf86c2a72d9ccd0b994b9c2cfc0573813f5c26517", func := "loop.example/g00191/laws.FnExactEnqueue", spec := "fnExactEnqueue", inPlace := ["internal/bytealg.abigen_runtime_cmpstring", "slices.overlaps[*loop.example/g00191/impl.Site]", "slices.overlaps[loop.example/g00191/impl.Waiting]"], unfollowed := true, recurses := true, apart := false }
def FnExactEnqueueSaid : Prop := fnExactEnqueueRow.holds Tryz.pinned (OpenSpec.ofChange fnExactEnqueueSpec)

/-- ITS FALSE NEIGHBOUR: 'it returns false'. Refute it at one input. -/
def fnExactEnqueueWrong : ChangeSpec := { name := "fnExactEnqueue", fn := fun _ => fun
  | [d1, d2, d3, d4] => { results := [.lit (.bool false)], args := [d1, d2, d3, d4] }
  | _ => none }
def FnExactEnqueueWrongFalsely : Prop := fnExactEnqueueRow.holds Tryz.pinned (OpenSpec.ofChange fnExactEnqueueWrong)

/-- 'laws.FnExactHandOut': WHATEVER THE INPUT: true; the input reads as it did. -/
def fnExactHandOutSpec : ChangeSpec := { name := "fnExactHandOut", fn := fun _ => fun
  | [d1, d2, d3] => { results := [.lit (.bool true)], args := [d1, d2, d3] }
  | _ => none }
def fnExactHandOutRow : OpenClaim := { program := "ytcjblhiihgdljaagreat", sum := "cd78505e588b18416d3ee82bf86c2a72d9ccd0b994b9c2cfc0573813f5c26517", func := "loop.example/g00191/laws.FnExactHandOut", spec := "fnExactHandOut", inPlace := ["internal/bytealg.abigen_runtime_cmpstring"], unfollowed := true, recurses := true, apart := false }
def FnExactHandOutSaid : Prop := fnExactHandOutRow.holds Tryz.pinned (OpenSpec.ofChange fnExactHandOutSpec)

/-- ITS FALSE NEIGHBOUR: 'it returns false'. Refute it at one input. -/
def fnExactHandOutWrong : ChangeSpec := { name := "fnExactHandOut", fn := fun _ => fun
  | [d1, d2, d3] => { results := [.lit (.bool false)], args := [d1, d2, d3] }
  | _ => none }
def FnExactHandOutWrongFalsely : Prop := fnExactHandOutRow.holds Tryz.pinned (OpenSpec.ofChange fnExactHandOutWrong)

/-- 'laws.FnExactEnded': WHATEVER THE INPUT: true; the input reads as it did. -/
def fnExactEndedSpec : ChangeSpec := { name := "fnExactEnded", fn := fun _ => fun
  | [d1, d2] => { results := [.lit (.bool true)], args := [d1, d2] }
  | _ => none }
def fnExactEndedRow : OpenClaim := { program := "ytcjblhiihgdljaagreat", sum := "cd78505e588b18416d3ee82bf86c2a72d9ccd0b994b9c2cfc0573813f5c26517", func := "loop.example/g00191/laws.FnExactEnded", spec := "fnExactEnded", inPlace := ["internal/bytealg.abigen_runtime_cmpstring"], unfollowed := true, recurses := true, apart := false }
def FnExactEndedSaid : Prop := fnExactEndedRow.holds Tryz.pinned (OpenSpec.ofChange fnExactEndedSpec)

/-- ITS FALSE NEIGHBOUR: 'it returns false'. Refute it at one input. -/
def fnExactEndedWrong : ChangeSpec := { name := "fnExactEnded", fn := fun _ => fun
  | [d1, d2] => { results := [.lit (.bool false)], args := [d1, d2] }
  | _ => none }
def FnExactEndedWrongFalsely : Prop := fnExactEndedRow.holds Tryz.pinned (OpenSpec.ofChange fnExactEndedWrong)

/-- 'laws.FnExactGiveBack': WHATEVER THE INPUT: true; the input reads as it did. -/
def fnExactGiveBackSpec : ChangeSpec := { name := "fnExactGiveBack", fn := fun _ => fun
  | [d1, d2] => { results := [.lit (.bool true)], args := [d1, d2] }
  | _ => none }
def fnExactGiveBackRow : OpenClaim := { program := "ytcjblhiihgdljaagreat", sum := "cd78505e588b18416d3ee82bf86c2a72d9ccd0b994b9c2cfc0573813f5c26517", func := "loop.example/g00191/laws.FnExactGiveBack", spec := "fnExactGiveBack", inPlace := ["internal/bytealg.abigen_runtime_cmpstring", "slices.overlaps[*loop.example/g00191/impl.Site]", "slices.overlaps[loop.example/g00191/impl.Waiting]"], unfollowed := true, recurses := true, apart := false }
def FnExactGiveBackSaid : Prop := fnExactGiveBackRow.holds Tryz.pinned (OpenSpec.ofChange fnExactGiveBackSpec)

/-- ITS FALSE NEIGHBOUR: 'it returns false'. Refute it at one input. -/
def fnExactGiveBackWrong : ChangeSpec := { name := "fnExactGiveBack", fn := fun _ => fun
  | [d1, d2] => { results := [.lit (.bool false)], args := [d1, d2] }
  | _ => none }
def FnExactGiveBackWrongFalsely : Prop := fnExactGiveBackRow.holds Tryz.pinned (OpenSpec.ofChange fnExactGiveBackWrong)

/-- 'laws.FnExactPassTime': WHATEVER THE INPUT: true; the input reads as it did. -/
def fnExactPassTimeSpec : ChangeSpec := { name := "fnExactPassTime", fn := fun _ => fun
  | [d1, d2] => { results := [.lit (.bool true)], args := [d1, d2] }
  | _ => none }
def fnExactPassTimeRow : OpenClaim := { program := "ytcjblhiihgdljaagreat", sum := "cd78505e588b18416d3ee82bf86c2a72d9ccd0b994b9c2cfc0573813f5c26517", func := "loop.example/g00191/laws.FnExactPassTime", spec := "fnExactPassTime", inPlace := ["internal/bytealg.abigen_runtime_cmpstring", "slices.overlaps[*loop.example/g00191/impl.Site]", "slices.overlaps[loop.example/g00191/impl.Waiting]"], unfollowed := true, recurses := true, apart := false }
def FnExactPassTimeSaid : Prop := fnExactPassTimeRow.holds Tryz.pinned (OpenSpec.ofChange fnExactPassTimeSpec)

/-- ITS FALSE NEIGHBOUR: 'it returns false'. Refute it at one input. -/
def fnExactPassTimeWrong : ChangeSpec := { name := "fnExactPassTime", fn := fun _ => fun
  | [d1, d2] => { results := [.lit (.bool false)], args := [d1, d2] }
  | _ => none }
def FnExactPassTimeWrongFalsely : Prop := fnExactPassTimeRow.holds Tryz.pinned (OpenSpec.ofChange fnExactPassTimeWrong)

/-- 'laws.FnExactAnew': WHATEVER THE INPUT: true; the input reads as it did. -/
def fnExactAnewSpec : ChangeSpec := { name := "fnExactAnew", fn := fun _ => fun
  | [d] => { results := [.lit (.bool true)], args := [d] }
  | _ => none }
def fnExactAnewRow : OpenClaim := { program := "ytcjblhiihgdljaagreat", sum := "cd78505e588b18416d3ee82bf86c2a72d9ccd0b994b9c2cfc0573813f5c26517", func := "loop.example/g00191/laws.FnExactAnew", spec := "fnExactAnew", inPlace := ["internal/bytealg.abigen_runtime_cmpstring", "slices.overlaps[*loop.example/g00191/impl.Site]", "slices.overlaps[loop.example/g00191/impl.Waiting]"], unfollowed := true, recurses := true, apart := false }
def FnExactAnewSaid : Prop := fnExactAnewRow.holds Tryz.pinned (OpenSpec.ofChange fnExactAnewSpec)

/-- ITS FALSE NEIGHBOUR: 'it returns false'. Refute it at one input. -/
def fnExactAnewWrong : ChangeSpec := { name := "fnExactAnew", fn := fun _ => fun
  | [d] => { results := [.lit (.bool false)], args := [d] }
  | _ => none }
def FnExactAnewWrongFalsely : Prop := fnExactAnewRow.holds Tryz.pinned (OpenSpec.ofChange fnExactAnewWrong)

/- THE SECOND FORM. 'bulk': how many values and letters a reading holds, each counted each time it is reached (what is shared counts as often as it is met; a slice's spare places count too). A statement '..UptoSaid' is the law's where the arguments, and the package variables that the reading takes, are together of bulk at most 1048576: NARROWER than '..Said'. Prove '..Said' where nothing that the law and all that it calls make is longer than what came in: it says more and counts as full. Else prove '..UptoSaid'. A law counts once. -/
mutual
def uptoBulk {H : Type} : DataW H → Nat
  | .lit (.string bytes) => bytes.length + 1
  | .lit _ => 1
  | .nil => 1
  | .ptr d => uptoBulk d + 1
  | .slice elems spare => uptoBulkAll elems + uptoBulkAll spare + 1
  | .agg parts => uptoBulkAll parts + 1
  | .iface _ d => uptoBulk d + 1
  | .map entries => uptoBulkEntries entries + 1
  | .held _ => 1
def uptoBulkAll {H : Type} : List (DataW H) → Nat
  | [] => 0
  | d :: r => uptoBulk d + uptoBulkAll r
def uptoBulkEntries {H : Type} : List (Lit × DataW H) → Nat
  | [] => 0
  | x :: r => uptoBulkEntry x + uptoBulkEntries r
def uptoBulkEntry {H : Type} : Lit × DataW H → Nat
  | (.string bytes, d) => bytes.length + uptoBulk d + 1
  | (_, d) => uptoBulk d + 1
 end
def uptoSmall : (H : Type) → List (DataW H) → Bool := fun _ ds => decide (uptoBulkAll ds ≤ 1048576)
def OpenSpec.upto (s : _root_.Go.ChangeSpec) : _root_.Go.OpenSpec := { _root_.Go.OpenSpec.ofChange s with cond := some uptoSmall }

/-- 'laws.FnQueued', WHERE WHAT IT READS IS OF BULK AT MOST 1048576: true; the input reads as it did. -/
def fnQueuedUptoRow : OpenClaim := { program := "ytcjblhiihgdljaagreat", sum := "cd78505e588b18416d3ee82bf86c2a72d9ccd0b994b9c2cfc0573813f5c26517", func := "loop.example/g00191/laws.FnQueued", spec := "fnQueued", inPlace := ["internal/bytealg.abigen_runtime_cmpstring", "slices.overlaps[*loop.example/g00191/impl.Site]", "slices.overlaps[loop.example/g00191/impl.Waiting]"], unfollowed := true, recurses := true, apart := false, narrowed := true }
def FnQueuedUptoSaid : Prop := fnQueuedUptoRow.holds Tryz.pinned (OpenSpec.upto fnQueuedSpec)

/-- 'laws.FnHanded', WHERE WHAT IT READS IS OF BULK AT MOST 1048576: true; the input reads as it did. -/
def fnHandedUptoRow : OpenClaim := { program := "ytcjblhiihgdljaagreat", sum := "cd78505e588b18416d3ee82bf86c2a72d9ccd0b994b9c2cfc0573813f5c26517", func := "loop.example/g00191/laws.FnHanded", spec := "fnHanded", inPlace := ["internal/bytealg.abigen_runtime_cmpstring", "slices.overlaps[*loop.example/g00191/impl.Site]", "slices.overlaps[loop.example/g00191/impl.Waiting]"], unfollowed := true, recurses := true, apart := false, narrowed := true }
def FnHandedUptoSaid : Prop := fnHandedUptoRow.holds Tryz.pinned (OpenSpec.upto fnHandedSpec)

/-- 'laws.FnPassed', WHERE WHAT IT READS IS OF BULK AT MOST 1048576: true; the input reads as it did. -/
def fnPassedUptoRow : OpenClaim := { program := "ytcjblhiihgdljaagreat", sum := "cd78505e588b18416d3ee82bf86c2a72d9ccd0b994b9c2cfc0573813f5c26517", func := "loop.example/g00191/laws.FnPassed", spec := "fnPassed", inPlace := ["internal/bytealg.abigen_runtime_cmpstring", "slices.overlaps[*loop.example/g00191/impl.Site]", "slices.overlaps[loop.example/g00191/impl.Waiting]"], unfollowed := true, recurses := true, apart := false, narrowed := true }
def FnPassedUptoSaid : Prop := fnPassedUptoRow.holds Tryz.pinned (OpenSpec.upto fnPassedSpec)

/-- 'laws.FnAnew', WHERE WHAT IT READS IS OF BULK AT MOST 1048576: true; the input reads as it did. -/
def fnAnewUptoRow : OpenClaim := { program := "ytcjblhiihgdljaagreat", sum := "cd78505e588b18416d3ee82bf86c2a72d9ccd0b994b9c2cfc0573813f5c26517", func := "loop.example/g00191/laws.FnAnew", spec := "fnAnew", inPlace := ["internal/bytealg.abigen_runtime_cmpstring", "slices.overlaps[*loop.example/g00191/impl.Site]", "slices.overlaps[loop.example/g00191/impl.Waiting]"], unfollowed := true, recurses := true, apart := false, narrowed := true }
def FnAnewUptoSaid : Prop := fnAnewUptoRow.holds Tryz.pinned (OpenSpec.upto fnAnewSpec)

/-- 'laws.FnExactEnqueue', WHERE WHAT IT READS IS OF BULK AT MOST 1048576: true; the input reads as it did. -/
def fnExactEnqueueUptoRow : OpenClaim := { program := "ytcjblhiihgdljaagreat", sum := "cd78505e588b18416d3ee82bf86c2a72d9ccd0b994b9c2cfc0573813f5c26517", func := "loop.example/g00191/laws.FnExactEnqueue", spec := "fnExactEnqueue", inPlace := ["internal/bytealg.abigen_runtime_cmpstring", "slices.overlaps[*loop.example/g00191/impl.Site]", "slices.overlaps[loop.example/g00191/impl.Waiting]"], unfollowed := true, recurses := true, apart := false, narrowed := true }
def FnExactEnqueueUptoSaid : Prop := fnExactEnqueueUptoRow.holds Tryz.pinned (OpenSpec.upto fnExactEnqueueSpec)

/-- 'laws.FnExactHandOut', WHERE WHAT IT READS IS OF BULK AT MOST 1048576: true; the input reads as it did. -/
def fnExactHandOutUptoRow : OpenClaim := { program := "ytcjblhiihgdljaagreat", sum := "cd78505e588b18416d3ee82bf86c2a72d9ccd0b994b9c2cfc0573813f5c26517", func := "loop.example/g00191/laws.FnExactHandOut", spec := "fnExactHandOut", inPlace := ["internal/bytealg.abigen_runtime_cmpstring"], unfollowed := true, recurses := true, apart := false, narrowed := true }
def FnExactHandOutUptoSaid : Prop := fnExactHandOutUptoRow.holds Tryz.pinned (OpenSpec.upto fnExactHandOutSpec)

/-- 'laws.FnExactEnded', WHERE WHAT IT READS IS OF BULK AT MOST 1048576: true; the input reads as it did. -/
def fnExactEndedUptoRow : OpenClaim := { program := "ytcjblhiihgdljaagreat", sum := "cd78505e588b18416d3ee82bf86c2a72d9ccd0b994b9c2cfc0573813f5c26517", func := "loop.example/g00191/laws.FnExactEnded", spec := "fnExactEnded", inPlace := ["internal/bytealg.abigen_runtime_cmpstring"], unfollowed := true, recurses := true, apart := false, narrowed := true }
def FnExactEndedUptoSaid : Prop := fnExactEndedUptoRow.holds Tryz.pinned (OpenSpec.upto fnExactEndedSpec)

/-- 'laws.FnExactGiveBack', WHERE WHAT IT READS IS OF BULK AT MOST 1048576: true; the input reads as it did. -/
def fnExactGiveBackUptoRow : OpenClaim := { program := "ytcjblhiihgdljaagreat", sum := "cd78505e588b18416d3ee82bf86c2a72d9ccd0b994b9c2cfc0573813f5c26517", func := "loop.example/g00191/laws.FnExactGiveBack", spec := "fnExactGiveBack", inPlace := ["internal/bytealg.abigen_runtime_cmpstring", "slices.overlaps[*loop.example/g00191/impl.Site]", "slices.overlaps[loop.example/g00191/impl.Waiting]"], unfollowed := true, recurses := true, apart := false, narrowed := true }
def FnExactGiveBackUptoSaid : Prop := fnExactGiveBackUptoRow.holds Tryz.pinned (OpenSpec.upto fnExactGiveBackSpec)

/-- 'laws.FnExactPassTime', WHERE WHAT IT READS IS OF BULK AT MOST 1048576: true; the input reads as it did. -/
def fnExactPassTimeUptoRow : OpenClaim := { program := "ytcjblhiihgdljaagreat", sum := "cd78505e588b18416d3ee82bf86c2a72d9ccd0b994b9c2cfc0573813f5c26517", func := "loop.example/g00191/laws.FnExactPassTime", spec := "fnExactPassTime", inPlace := ["internal/bytealg.abigen_runtime_cmpstring", "slices.overlaps[*loop.example/g00191/impl.Site]", "slices.overlaps[loop.example/g00191/impl.Waiting]"], unfollowed := true, recurses := true, apart := false, narrowed := true }
def FnExactPassTimeUptoSaid : Prop := fnExactPassTimeUptoRow.holds Tryz.pinned (OpenSpec.upto fnExactPassTimeSpec)

/-- 'laws.FnExactAnew', WHERE WHAT IT READS IS OF BULK AT MOST 1048576: true; the input reads as it did. -/
def fnExactAnewUptoRow : OpenClaim := { program := "ytcjblhiihgdljaagreat", sum := "cd78505e588b18416d3ee82bf86c2a72d9ccd0b994b9c2cfc0573813f5c26517", func := "loop.example/g00191/laws.FnExactAnew", spec := "fnExactAnew", inPlace := ["internal/bytealg.abigen_runtime_cmpstring", "slices.overlaps[*loop.example/g00191/impl.Site]", "slices.overlaps[loop.example/g00191/impl.Waiting]"], unfollowed := true, recurses := true, apart := false, narrowed := true }
def FnExactAnewUptoSaid : Prop := fnExactAnewUptoRow.holds Tryz.pinned (OpenSpec.upto fnExactAnewSpec)

end Rows
end Go.Proofs.YtcjblhiihgdljaaGreat
