/-
  No cell of these rows narrows 'for every input' (looked for: loops, veiled, ifaces, maps, wideKeys, modest, calm, conditions, laid).
  DERIVED. THE GIVEN ROWS OF THIS SEAT. 5 by the template 'for every input the law returns true; each argument reads behind the call as it read before'; 0 by the template 'total and deterministic' (their statements: YtamnhegianpedaaTotals.lean).
  GIVEN WITH THE SEED: the statements are not yours to turn. If you find one false, say at which input.
  Laid BY PROGRAM, IN A SANDBOX (cutbox-rows.mjs): the forced cells as the released guide's own fill.sh prints them over the translation 3771a2d6e84c9f5d… (all of the seat's roots in one cut). By AI agents, Wed Nov 11 2026. No macro, syntax, notation, axiom, sorry.
-/
import Derived.Test.YtamnhegianpedaaChecked
import GoSem.Claim
import GoSem.ClaimJoined
import GoSem.ClaimMapViews
import Derived.JoinedTies
import Derived.KernelRfl
namespace Go.Proofs.Ytamnhegianpedaa
/- THE CELL 'sum', in the pinned program and in every row, IS THE sha256 OF THE DUMP (.gsa) THAT YtamnhegianpedaaProg.lean LOADS. Nothing in Lean hashes anything: it is a label: what it is worth is what the hold of that sum in a sandbox is worth. -/
noncomputable def Try.pinned : Pinned := { name := "ytamnhegianpedaa", sum := "3771a2d6e84c9f5dc04345f0d0f778ea24aeaf7b6b088d455427fa1601797e79", checked := Try.checked }
namespace Rows
def none {H : Type} : Left H := { results := [], args := [] }

/-- 'laws.FnDots': WHATEVER THE INPUT: true; the input reads as it did. -/
def fnDotsSpec : ChangeSpec := { name := "fnDots", fn := fun _ => fun
  | [d] => { results := [.lit (.bool true)], args := [d] }
  | _ => none }
def fnDotsRow : OpenClaim := { program := "ytamnhegianpedaa", sum := "3771a2d6e84c9f5dc04345f0d0f778ea24aeaf7b6b088d455427fa1601797e79", func := "loop.example/g00191/laws.FnDots", spec := "fnDots", inPlace := ["internal/abi.NoEscape", "internal/bytealg.MakeNoZero", "internal/bytealg.CountString", "internal/bytealg.IndexByteString", "internal/bytealg.IndexString"], unfollowed := true, recurses := true, named := ["internal/bytealg.MaxLen"], apart := false }
def FnDotsSaid : Prop := fnDotsRow.holds Try.pinned (OpenSpec.ofChange fnDotsSpec)

/-- ITS FALSE NEIGHBOUR: 'it returns false'. Refute it at one input. -/
def fnDotsWrong : ChangeSpec := { name := "fnDots", fn := fun _ => fun
  | [d] => { results := [.lit (.bool false)], args := [d] }
  | _ => none }
def FnDotsWrongFalsely : Prop := fnDotsRow.holds Try.pinned (OpenSpec.ofChange fnDotsWrong)

/-- 'laws.FnExactIsDot': WHATEVER THE INPUT: true; the input reads as it did. -/
def fnExactIsDotSpec : ChangeSpec := { name := "fnExactIsDot", fn := fun _ => fun
  | [d] => { results := [.lit (.bool true)], args := [d] }
  | _ => none }
def fnExactIsDotRow : OpenClaim := { program := "ytamnhegianpedaa", sum := "3771a2d6e84c9f5dc04345f0d0f778ea24aeaf7b6b088d455427fa1601797e79", func := "loop.example/g00191/laws.FnExactIsDot", spec := "fnExactIsDot", apart := false }
def FnExactIsDotSaid : Prop := fnExactIsDotRow.holds Try.pinned (OpenSpec.ofChange fnExactIsDotSpec)

/-- ITS FALSE NEIGHBOUR: 'it returns false'. Refute it at one input. -/
def fnExactIsDotWrong : ChangeSpec := { name := "fnExactIsDot", fn := fun _ => fun
  | [d] => { results := [.lit (.bool false)], args := [d] }
  | _ => none }
def FnExactIsDotWrongFalsely : Prop := fnExactIsDotRow.holds Try.pinned (OpenSpec.ofChange fnExactIsDotWrong)

/-- 'laws.FnExactDropDots': WHATEVER THE INPUT: true; the input reads as it did. -/
def fnExactDropDotsSpec : ChangeSpec := { name := "fnExactDropDots", fn := fun _ => fun
  | [d] => { results := [.lit (.bool true)], args := [d] }
  | _ => none }
def fnExactDropDotsRow : OpenClaim := { program := "ytamnhegianpedaa", sum := "3771a2d6e84c9f5dc04345f0d0f778ea24aeaf7b6b088d455427fa1601797e79", func := "loop.example/g00191/laws.FnExactDropDots", spec := "fnExactDropDots", inPlace := ["internal/abi.NoEscape", "internal/bytealg.MakeNoZero"], unfollowed := true, recurses := true, apart := false }
def FnExactDropDotsSaid : Prop := fnExactDropDotsRow.holds Try.pinned (OpenSpec.ofChange fnExactDropDotsSpec)

/-- ITS FALSE NEIGHBOUR: 'it returns false'. Refute it at one input. -/
def fnExactDropDotsWrong : ChangeSpec := { name := "fnExactDropDots", fn := fun _ => fun
  | [d] => { results := [.lit (.bool false)], args := [d] }
  | _ => none }
def FnExactDropDotsWrongFalsely : Prop := fnExactDropDotsRow.holds Try.pinned (OpenSpec.ofChange fnExactDropDotsWrong)

/-- 'laws.FnExactUpTo': WHATEVER THE INPUT: true; the input reads as it did. -/
def fnExactUpToSpec : ChangeSpec := { name := "fnExactUpTo", fn := fun _ => fun
  | [d] => { results := [.lit (.bool true)], args := [d] }
  | _ => none }
def fnExactUpToRow : OpenClaim := { program := "ytamnhegianpedaa", sum := "3771a2d6e84c9f5dc04345f0d0f778ea24aeaf7b6b088d455427fa1601797e79", func := "loop.example/g00191/laws.FnExactUpTo", spec := "fnExactUpTo", apart := false }
def FnExactUpToSaid : Prop := fnExactUpToRow.holds Try.pinned (OpenSpec.ofChange fnExactUpToSpec)

/-- ITS FALSE NEIGHBOUR: 'it returns false'. Refute it at one input. -/
def fnExactUpToWrong : ChangeSpec := { name := "fnExactUpTo", fn := fun _ => fun
  | [d] => { results := [.lit (.bool false)], args := [d] }
  | _ => none }
def FnExactUpToWrongFalsely : Prop := fnExactUpToRow.holds Try.pinned (OpenSpec.ofChange fnExactUpToWrong)

/-- 'laws.FnExactDepth': WHATEVER THE INPUT: true; the input reads as it did. -/
def fnExactDepthSpec : ChangeSpec := { name := "fnExactDepth", fn := fun _ => fun
  | [d] => { results := [.lit (.bool true)], args := [d] }
  | _ => none }
def fnExactDepthRow : OpenClaim := { program := "ytamnhegianpedaa", sum := "3771a2d6e84c9f5dc04345f0d0f778ea24aeaf7b6b088d455427fa1601797e79", func := "loop.example/g00191/laws.FnExactDepth", spec := "fnExactDepth", inPlace := ["internal/bytealg.CountString", "internal/bytealg.IndexByteString", "internal/bytealg.IndexString"], named := ["internal/bytealg.MaxLen"], apart := false }
def FnExactDepthSaid : Prop := fnExactDepthRow.holds Try.pinned (OpenSpec.ofChange fnExactDepthSpec)

/-- ITS FALSE NEIGHBOUR: 'it returns false'. Refute it at one input. -/
def fnExactDepthWrong : ChangeSpec := { name := "fnExactDepth", fn := fun _ => fun
  | [d] => { results := [.lit (.bool false)], args := [d] }
  | _ => none }
def FnExactDepthWrongFalsely : Prop := fnExactDepthRow.holds Try.pinned (OpenSpec.ofChange fnExactDepthWrong)

/- THE SECOND FORM. 'bulk': how many values and letters a reading holds, each counted each time it is reached (what is shared counts as often as it is met; a slice's spare places count too). A statement '..UptoSaid' is the law's where the arguments, and the package variables that the reading takes, are together of bulk at most 1048576: NARROWER than '..Said'. Prove '..Said' where nothing that the law and all that it calls make is longer than what came in: it says more and counts as full. Else prove '..UptoSaid'. A law counts once. -/
mutual
def uptoBulk {H : Type} : DataW H → Nat
  | .lit (.string bytes) => bytes.length + 1
  | .lit _ => 1
  | .nil => 1
  | .ptr d => uptoBulk d + 1
  | .slice elems spare => uptoBulkAll elems + uptoBulkAll spare + 1
  | .agg parts => uptoBulkAll parts + 1
  | .iface _ d => uptoBulk d + 1
  | .map entries => uptoBulkEntries entries + 1
  | .held _ => 1
def uptoBulkAll {H : Type} : List (DataW H) → Nat
  | [] => 0
  | d :: r => uptoBulk d + uptoBulkAll r
def uptoBulkEntries {H : Type} : List (Lit × DataW H) → Nat
  | [] => 0
  | x :: r => uptoBulkEntry x + uptoBulkEntries r
def uptoBulkEntry {H : Type} : Lit × DataW H → Nat
  | (.string bytes, d) => bytes.length + uptoBulk d + 1
  | (_, d) => uptoBulk d + 1
 end
def uptoSmall : (H : Type) → List (DataW H) → Bool := fun _ ds => decide (uptoBulkAll ds ≤ 1048576)
def OpenSpec.upto (s : _root_.Go.ChangeSpec) : _root_.Go.OpenSpec := { _root_.Go.OpenSpec.ofChange s with cond := some uptoSmall }

/-- 'laws.FnDots', WHERE WHAT IT READS IS OF BULK AT MOST 1048576: true; the input reads as it did. -/
def fnDotsUptoRow : OpenClaim := { program := "ytamnhegianpedaa", sum := "3771a2d6e84c9f5dc04345f0d0f778ea24aeaf7b6b088d455427fa1601797e79", func := "loop.example/g00191/laws.FnDots", spec := "fnDots", inPlace := ["internal/abi.NoEscape", "internal/bytealg.MakeNoZero", "internal/bytealg.CountString", "internal/bytealg.IndexByteString", "internal/bytealg.IndexString"], unfollowed := true, recurses := true, named := ["internal/bytealg.MaxLen"], apart := false, narrowed := true }
def FnDotsUptoSaid : Prop := fnDotsUptoRow.holds Try.pinned (OpenSpec.upto fnDotsSpec)

/-- 'laws.FnExactIsDot', WHERE WHAT IT READS IS OF BULK AT MOST 1048576: true; the input reads as it did. -/
def fnExactIsDotUptoRow : OpenClaim := { program := "ytamnhegianpedaa", sum := "3771a2d6e84c9f5dc04345f0d0f778ea24aeaf7b6b088d455427fa1601797e79", func := "loop.example/g00191/laws.FnExactIsDot", spec := "fnExactIsDot", apart := false, narrowed := true }
def FnExactIsDotUptoSaid : Prop := fnExactIsDotUptoRow.holds Try.pinned (OpenSpec.upto fnExactIsDotSpec)

/-- 'laws.FnExactDropDots', WHERE WHAT IT READS IS OF BULK AT MOST 1048576: true; the input reads as it did. -/
def fnExactDropDotsUptoRow : OpenClaim := { program := "ytamnhegianpedaa", sum := "3771a2d6e84c9f5dc04345f0d0f778ea24aeaf7b6b088d455427fa1601797e79", func := "loop.example/g00191/laws.FnExactDropDots", spec := "fnExactDropDots", inPlace := ["internal/abi.NoEscape", "internal/bytealg.MakeNoZero"], unfollowed := true, recurses := true, apart := false, narrowed := true }
def FnExactDropDotsUptoSaid : Prop := fnExactDropDotsUptoRow.holds Try.pinned (OpenSpec.upto fnExactDropDotsSpec)

/-- 'laws.FnExactUpTo', WHERE WHAT IT READS IS OF BULK AT MOST 1048576: true; the input reads as it did. -/
def fnExactUpToUptoRow : OpenClaim := { program := "ytamnhegianpedaa", sum := "3771a2d6e84c9f5dc04345f0d0f778ea24aeaf7b6b088d455427fa1601797e79", func := "loop.example/g00191/laws.FnExactUpTo", spec := "fnExactUpTo", apart := false, narrowed := true }
def FnExactUpToUptoSaid : Prop := fnExactUpToUptoRow.holds Try.pinned (OpenSpec.upto fnExactUpToSpec)

/-- 'laws.FnExactDepth', WHERE WHAT IT READS IS OF BULK AT MOST 1048576: true; the input reads as it did. -/
def fnExactDepthUptoRow : OpenClaim := { program := "ytamnhegianpedaa", sum := "3771a2d6e84c9f5dc04345f0d0f778ea24aeaf7b6b088d455427fa1601797e79", func := "loop.example/g00191/laws.FnExactDepth", spec := "fnExactDepth", inPlace := ["internal/bytealg.CountString", "internal/bytealg.IndexByteString", "internal/bytealg.IndexString"], named := ["internal/bytealg.MaxLen"], apart := false, narrowed := true }
def FnExactDepthUptoSaid : Prop := fnExactDepthUptoRow.holds Try.pinned (OpenSpec.upto fnExactDepthSpec)

end Rows
end Go.Proofs.Ytamnhegianpedaa
